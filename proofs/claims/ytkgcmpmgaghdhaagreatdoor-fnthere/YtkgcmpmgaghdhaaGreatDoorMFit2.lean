import Derived.Test.YtkgcmpmgaghdhaaGreatDoorMFit1
import Derived.Test.YtkgcmpmgaghdhaaGreatDoorMFit1
import Derived.Test.YtkgcmpmgaghdhaaGreatDoorMFit1
import Derived.Test.YtkgcmpmgaghdhaaGreatDoorMFit0
import Derived.Deep.DeepCutAuto
import Derived.Test.YtkgcmpmgaghdhaaGreatDoorChecked
import Derived.Deep.AppendLies
import Derived.WalkKit
import Derived.LaidEql
import Derived.Stop.Asserts
import Derived.RowKitTokens
import Derived.Shelf.Abstract
import Derived.BigQuiet
namespace Go.Proofs.YtkgcmpmgaghdhaaGreatDoor
open Go.RowKit Go.Shelf

theorem eg_member : ∀ args w, (callFunc 45 args).run Tryz.prog w = .ok (.enter 45 args) w := enters_of Tryz.func45 (by kernel_rfl) rfl

def memberF (c d : Bool) (dt dt' : List Int) (k : Nat) : Int := truth (decide (0 < placeAmong c d dt' (dt.getD k 0)))

theorem truthOf_any (b : Bool) (w : World) : Calls Tryz.prog 46 #[.bool b] w fun e w' => e = .returned (.int .i64 (truth b)) ∧ w' = w := by
  cases b
  · go_enter Tryz.func46, Tryz.ntmps46
    go_wp2
    go_ret
    exact ⟨rfl, rfl⟩
  · go_enter Tryz.func46, Tryz.ntmps46
    go_wp2
    go_ret
    exact ⟨rfl, rfl⟩

theorem memberClo (q : Int) (W : World) : Calls Tryz.prog 45 #[.int .i64 q] W fun e w' => e = .returned (.int .i64 (truth (decide (0 < q)))) ∧ w' = W := by
  obtain ⟨b, hb⟩ : ∃ b, decide (0 < q) = b := ⟨_, rfl⟩
  rw [hb]
  go_enter Tryz.func45, Tryz.ntmps45
  go_wp2_with (go_at_call 46; refine (truthOf_any _ _).mono ?_; rintro e w' ⟨rfl, rfl⟩)
  go_ret
  exact ⟨by rw [← hb]; rfl, rfl⟩

set_option maxRecDepth 20000 in
set_option maxHeartbeats 4000000 in
theorem implMember_bad1 (c d : Bool) (a1 a2 b1 b2 : Addr) (n1 n2 m1 m2 c1 c2 d1 d2 : Nat) (sh dt : List Int) (w : World) (h1 : Row w (some a1) n1 sh) (h2 : Row w (some a2) n2 dt) (hok : arrOk c sh dt = false) :
    Calls Tryz.prog 10 #[.agg #[.bool c, .slice (some a1) n1 c1, .slice (some a2) n2 c2], .agg #[.bool d, .slice (some b1) m1 d1, .slice (some b2) m2 d2]] w (GivesOwn w (noAns 3)) := by
  have HR := hide hok
  have H1 := hide h1
  have H2 := hide h2
  clear h1 h2 hok
  go_enter Tryz.func10, Tryz.ntmps10
  go_wp2_with (first | (go_at_call_of 43 (Value.slice (some a1) n1 c1); refine (implArrayOk_eq _ _ _ _ _ _ _ sh dt _ ((((unhide H1).alloc _).alloc _).alloc _) ((((unhide H2).alloc _).alloc _).alloc _) _ HR).mono ?_; rintro e w1 ⟨rfl, hb1⟩; obtain ⟨B0, B1, B2, hB1⟩ := boxes3 hb1; have HB0 := hide B0; have HB1 := hide B1; have HB2 := hide B2; have HB := hide hB1; obtain ⟨x0, x1, x2, x3, x4, x5, x6⟩ := B0.all; obtain ⟨y0, y1, y2, y3, y4, y5, y6⟩ := B1.all; obtain ⟨q0, q1, q2, q3, q4, q5, q6⟩ := B2.all; clear hb1 hB1 B0 B1 B2))
  refine bodyPost_ret (v := .tuple #[.agg #[.bool false, .slice none 0 0, .slice none 0 0], .int .i64 3]) (by simp [results, Tryz.results10, go_sem, q0, q1, q2]) rfl ?_
  exact gives_none ((((unhide HB).setCell (by simp <;> omega) _).setCell (by simp <;> omega) _).setCell (by simp <;> omega) _)

set_option maxRecDepth 20000 in
set_option maxHeartbeats 4000000 in
theorem implMember_bad2 (c d : Bool) (a1 a2 b1 b2 : Addr) (n1 n2 m1 m2 c1 c2 d1 d2 : Nat) (sh dt sh' dt' : List Int) (w : World) (h1 : Row w (some a1) n1 sh) (h2 : Row w (some a2) n2 dt) (k1 : Row w (some b1) m1 sh') (k2 : Row w (some b2) m2 dt') (hok : arrOk c sh dt = true) (hok' : arrOk d sh' dt' = false) :
    Calls Tryz.prog 10 #[.agg #[.bool c, .slice (some a1) n1 c1, .slice (some a2) n2 c2], .agg #[.bool d, .slice (some b1) m1 d1, .slice (some b2) m2 d2]] w (GivesOwn w (noAns 3)) := by
  have HR := hide hok
  have HR' := hide hok'
  have hs2 := h2.small
  have hs4 := k2.small
  have H1 := hide h1
  have H2 := hide h2
  have K1 := hide k1
  have K2 := hide k2
  clear h1 h2 k1 k2 hok hok'
  go_enter Tryz.func10, Tryz.ntmps10
  go_wp2_with (first | (go_at_call_of 43 (Value.slice (some a1) n1 c1); refine (implArrayOk_eq _ _ _ _ _ _ _ sh dt _ ((((unhide H1).alloc _).alloc _).alloc _) ((((unhide H2).alloc _).alloc _).alloc _) _ HR).mono ?_; rintro e w1 ⟨rfl, hb1⟩; obtain ⟨B0, B1, B2, hB1⟩ := boxes3 hb1; have HB0 := hide B0; have HB1 := hide B1; have HB2 := hide B2; have HB := hide hB1; obtain ⟨x0, x1, x2, x3, x4, x5, x6⟩ := B0.all; obtain ⟨y0, y1, y2, y3, y4, y5, y6⟩ := B1.all; obtain ⟨q0, q1, q2, q3, q4, q5, q6⟩ := B2.all; clear hb1 hB1 B0 B1 B2) | (go_at_call_of 43 (Value.slice (some b1) m1 d1); refine (implArrayOk_eq _ _ _ _ _ _ _ sh' dt' _ ((unhide K1).below (Nat.le_refl _) (unhide HB)) ((unhide K2).below (Nat.le_refl _) (unhide HB)) _ HR').mono ?_; rintro e w2 ⟨rfl, hb2⟩; have HB0' := hide ((unhide HB0).below (Nat.le_refl _) hb2); have HB1' := hide ((unhide HB1).below (Nat.le_refl _) hb2); have HB2' := hide ((unhide HB2).below (Nat.le_refl _) hb2); have HC := hide ((unhide HB).trans (hb2.mono (by omega))); clear hb2 x0 x1 x2 x3 x4 x5 x6 y0 y1 y2 y3 y4 y5 y6 q0 q1 q2 q3 q4 q5 q6 HB0 HB1 HB2 HB; obtain ⟨x0, x1, x2, x3, x4, x5, x6⟩ := (unhide HB0').all; obtain ⟨y0, y1, y2, y3, y4, y5, y6⟩ := (unhide HB1').all; obtain ⟨q0, q1, q2, q3, q4, q5, q6⟩ := (unhide HB2').all))
  refine bodyPost_ret (v := .tuple #[.agg #[.bool false, .slice none 0 0, .slice none 0 0], .int .i64 3]) (by simp [results, Tryz.results10, go_sem, q0, q1, q2]) rfl ?_
  exact gives_none ((((unhide HC).setCell (by simp <;> omega) _).setCell (by simp <;> omega) _).setCell (by simp <;> omega) _)

set_option maxRecDepth 20000 in
set_option maxHeartbeats 4000000 in
theorem implMember_good (c d : Bool) (a1 a2 b1 b2 : Addr) (n1 n2 m1 m2 c1 c2 d1 d2 : Nat) (sh dt sh' dt' : List Int) (w : World) (h1 : Row w (some a1) n1 sh) (h2 : Row w (some a2) n2 dt) (k1 : Row w (some b1) m1 sh') (k2 : Row w (some b2) m2 dt') (hok : arrOk c sh dt = true) (hok' : arrOk d sh' dt' = true) (hn2 : n2 ≤ 10000) (hm2 : m2 ≤ 10000) :
    Calls Tryz.prog 10 #[.agg #[.bool c, .slice (some a1) n1 c1, .slice (some a2) n2 c2], .agg #[.bool d, .slice (some b1) m1 d1, .slice (some b2) m2 d2]] w (GivesOwn w ⟨false, sh, (List.range n2).map (memberF c d dt dt'), 0⟩) := by
  have HR := hide hok
  have HR' := hide hok'
  have HDT : Hid (∀ k, k < dt.length → -1000000000000000 ≤ dt.getD k 0 ∧ dt.getD k 0 ≤ 1000000000000000) := fun k hk => dataOk_bd hok hk
  have HDT' : Hid (∀ k, k < dt'.length → -1000000000000000 ≤ dt'.getD k 0 ∧ dt'.getD k 0 ≤ 1000000000000000) := fun k hk => dataOk_bd hok' hk
  have hs2 := h2.small
  have hs4 := k2.small
  have H1 := hide h1
  have H2 := hide h2
  have K1 := hide k1
  have K2 := hide k2
  clear h1 h2 k1 k2 hok hok'
  go_enter Tryz.func10, Tryz.ntmps10
  go_wp2_with (first | (go_at_call_of 43 (Value.slice (some a1) n1 c1); refine (implArrayOk_eq _ _ _ _ _ _ _ sh dt _ ((((unhide H1).alloc _).alloc _).alloc _) ((((unhide H2).alloc _).alloc _).alloc _) _ HR).mono ?_; rintro e w1 ⟨rfl, hb1⟩; obtain ⟨B0, B1, B2, hB1⟩ := boxes3 hb1; have HB0 := hide B0; have HB1 := hide B1; have HB2 := hide B2; have HB := hide hB1; obtain ⟨x0, x1, x2, x3, x4, x5, x6⟩ := B0.all; obtain ⟨y0, y1, y2, y3, y4, y5, y6⟩ := B1.all; obtain ⟨q0, q1, q2, q3, q4, q5, q6⟩ := B2.all; clear hb1 hB1 B0 B1 B2) | (go_at_call_of 43 (Value.slice (some b1) m1 d1); refine (implArrayOk_eq _ _ _ _ _ _ _ sh' dt' _ ((unhide K1).below (Nat.le_refl _) (unhide HB)) ((unhide K2).below (Nat.le_refl _) (unhide HB)) _ HR').mono ?_; rintro e w2 ⟨rfl, hb2⟩; have HB0' := hide ((unhide HB0).below (Nat.le_refl _) hb2); have HB1' := hide ((unhide HB1).below (Nat.le_refl _) hb2); have HB2' := hide ((unhide HB2).below (Nat.le_refl _) hb2); have HC := hide ((unhide HB).trans (hb2.mono (by omega))); clear hb2 x0 x1 x2 x3 x4 x5 x6 y0 y1 y2 y3 y4 y5 y6 q0 q1 q2 q3 q4 q5 q6 HB0 HB1 HB2 HB; obtain ⟨x0, x1, x2, x3, x4, x5, x6⟩ := (unhide HB0').all; obtain ⟨y0, y1, y2, y3, y4, y5, y6⟩ := (unhide HB1').all; obtain ⟨q0, q1, q2, q3, q4, q5, q6⟩ := (unhide HB2').all) | (go_at_call 44; refine (sought_any c d a1 (some a2) (some b1) (some b2) n1 n2 m1 m2 c1 c2 d1 d2 sh dt dt' 45 #[] eg_member (memberF c d dt dt') _ ((unhide H1).below (Nat.le_refl _) (unhide HC)) ((unhide H2).below (Nat.le_refl _) (unhide HC)) ((unhide K2).below (Nat.le_refl _) (unhide HC)) hn2 hm2 (unhide HDT) (unhide HDT') (fun k W hk hW => (memberClo _ W).mono (by rintro e w' ⟨rfl, rfl⟩; exact ⟨rfl, Below.refl _ _⟩))).mono ?_; rintro e w3 ⟨ash, csh, gd, rfl, hO, hgd, hBk, hag, hb3⟩; have HX := hide ((unhide HB2').below (Nat.le_refl _) hb3); have HD := hide ((unhide HC).trans (hb3.mono (by omega))); have HO := hide hO; have HBK := hide hBk; have HAG := hide hag; have hq6 := q6; clear hO hBk hag hb3 x0 x1 x2 x3 x4 x5 x6 y0 y1 y2 y3 y4 y5 y6 q0 q1 q2 q3 q4 q5 q6; obtain ⟨q0, q1, q2, q3, q4, q5, q6⟩ := (unhide HX).all))
  have hres := Res5.set (w := w) (W := w3) (d := false) (zs := sh) (ys := (List.range n2).map (memberF c d dt dt')) (n := n1) (N := n2) (box := w.heap.size + 2) (gd := gd) (csh := csh) (ash := ash) (unhide HX) ((unhide HO).mono (by omega)) (by omega) (unhide HBK) (unhide HAG) (unhide HD) (fun h => by have := (unhide HO).low h; omega) (by omega) (by omega)
  obtain ⟨ash', csh', gd', hbx, hO', hgd', hB', hne', hbl'⟩ := hres
  obtain ⟨r0, r1, r2, r3, r4, r5, r6⟩ := hbx.all
  refine bodyPost_ret (v := .tuple #[.agg #[.bool false, .slice ash' n1 csh', .slice (some ⟨gd', 0, none⟩) n2 n2], .int .i64 0]) (by simp [results, Tryz.results10, go_sem, r0, r1, r2]) rfl ?_
  exact gives_res (by simp) (by omega) hO' hgd' hB' hne' hbl'

end Go.Proofs.YtkgcmpmgaghdhaaGreatDoor
namespace Go.Proofs.YtkgcmpmgaghdhaaGreatDoor
open Go.RowKit

theorem memberI_bad1 {c d : Bool} {sh dt sh' dt' : List Int} (h : arrOk c sh dt = false) : member c d sh dt sh' dt' = noAns 3 := by unfold member; rw [if_neg (by simp [h])]
theorem memberI_bad2 {c d : Bool} {sh dt sh' dt' : List Int} (h : arrOk d sh' dt' = false) : member c d sh dt sh' dt' = noAns 3 := by unfold member; rw [if_neg (by simp [h])]
theorem memberI_go {c d : Bool} {sh dt sh' dt' : List Int} (h1 : arrOk c sh dt = true) (h2 : arrOk d sh' dt' = true) : member c d sh dt sh' dt' = ⟨false, sh, (List.range dt.length).map (memberF c d dt dt'), 0⟩ := by
  unfold member
  rw [if_pos ⟨h1, h2⟩, gather_good (firstCode_zero.2 fun k _ => rfl)]
  unfold vals
  congr 1
  refine enc_eq fun k _ => ?_
  unfold memberF
  rw [placeAmong_first]
  show truth _ = truth _
  congr 1
  by_cases hf : firstOf d dt' (dt.getD k 0) c < dt'.length
  · rw [if_pos hf, decide_eq_true hf, decide_eq_true (by omega)]
  · rw [if_neg hf, decide_eq_false hf, decide_eq_false (by omega)]

theorem implMember_any (c d : Bool) (a1 a2 b1 b2 : Addr) (n1 n2 m1 m2 c1 c2 d1 d2 : Nat) (sh dt sh' dt' : List Int) (w : World) (h1 : Row w (some a1) n1 sh) (h2 : Row w (some a2) n2 dt) (k1 : Row w (some b1) m1 sh') (k2 : Row w (some b2) m2 dt') :
    Calls Tryz.prog 10 #[.agg #[.bool c, .slice (some a1) n1 c1, .slice (some a2) n2 c2], .agg #[.bool d, .slice (some b1) m1 d1, .slice (some b2) m2 d2]] w (GivesOwn w (member c d sh dt sh' dt')) := by
  cases hok : arrOk c sh dt with
  | false => rw [memberI_bad1 hok]; exact implMember_bad1 c d a1 a2 b1 b2 n1 n2 m1 m2 c1 c2 d1 d2 sh dt w h1 h2 hok
  | true =>
    cases hok' : arrOk d sh' dt' with
    | false => rw [memberI_bad2 hok']; exact implMember_bad2 c d a1 a2 b1 b2 n1 n2 m1 m2 c1 c2 d1 d2 sh dt sh' dt' w h1 h2 k1 k2 hok hok'
    | true =>
      obtain ⟨i1, p1, _⟩ := shapeIn_of hok
      obtain ⟨i2, p2, _⟩ := shapeIn_of hok'
      have e1 := i1.bd
      have e2 := i2.bd
      rw [p1, h2.len] at e1
      rw [p2, k2.len] at e2
      rw [memberI_go hok hok', h2.len]
      exact implMember_good c d a1 a2 b1 b2 n1 n2 m1 m2 c1 c2 d1 d2 sh dt sh' dt' w h1 h2 k1 k2 hok hok' (by omega) (by omega)

end Go.Proofs.YtkgcmpmgaghdhaaGreatDoor
namespace Go.Proofs.YtkgcmpmgaghdhaaGreatDoor
open Go.RowKit

set_option maxHeartbeats 1000000 in
theorem l6First_any (c ch : Bool) (v1 : Value) (a2 : Option Addr) (n2 c2 : Nat) (dt : List Int) (v : Int) (w : World) (h2 : Row w a2 n2 dt) :
    Calls Tryz.prog 58 #[.agg #[.bool c, v1, .slice a2 n2 c2], .int .i64 v, .bool ch] w fun e w' => e = .returned (.int .i64 (firstOf c dt v ch)) ∧ Below w.heap.size w w' := by
  have hlen := hide h2.len
  have hsm := h2.small
  have H2 := hide h2
  clear h2
  have hW : ∀ o, Below w.heap.size w (w.alloc o) := fun o => (Below.refl _ _).alloc (Nat.le_refl _) _
  by_cases hc : c = ch
  · subst hc
    have HF : Hid (firstOf c dt v c = dt.findIdx (fun x => decide (x = v))) := by show _ = _; unfold firstOf; rw [if_pos rfl]
    cases c
    all_goals
      go_enter Tryz.func58, Tryz.ntmps58
      go_wp2
      go_loop [7] (fun i => ∃ k : Nat, k ≤ n2 ∧ i = .int .i64 k ∧ Hid (∀ j, j < k → dt.getD j 0 ≠ v)) (fun i => n2 - (intOf i).toNat)
      case atStart => exact ⟨0, Nat.zero_le _, rfl, fun j hj => absurd hj (Nat.not_lt_zero _)⟩
      case round =>
        obtain ⟨k, hk, rfl, hne⟩ := hrel
        by_cases hlt : k < n2
        · obtain ⟨b, off, rfl, hblt, hc⟩ := (unhide H2).get hlt
          obtain ⟨x, hx⟩ : ∃ x, x = dt.getD k 0 := ⟨_, rfl⟩
          rw [← hx] at hc
          by_cases hxv : x = v
          · have hb : (x != v) = false := by simp [hxv]
            have HE : Hid (dt.findIdx (fun x => decide (x = v)) = k) := first_here (unhide hne) (by rw [unhide hlen]; exact hlt) (by rw [← hx]; exact hxv)
            clear hxv hx
            go_wp2
            go_ret
            exact ⟨ret_int (by rw [unhide HF, unhide HE]), hW _⟩
          · have hb : (x != v) = true := by simp [hxv]
            have HN : Hid (∀ j, j < k + 1 → dt.getD j 0 ≠ v) := by
              intro j hj
              by_cases e : j = k
              · rw [e, ← hx]; exact hxv
              · exact unhide hne j (by omega)
            clear hxv hx
            go_wp2
            go_round
            case rel => exact ⟨k + 1, by omega, by go_num, HN⟩
            case measure => simp [intOf]; omega
        · have hkn : k = n2 := by omega
          subst hkn
          have HE : Hid (dt.findIdx (fun x => decide (x = v)) = k) := by
            show _ = _
            rw [first_none (by rw [unhide hlen]; exact unhide hne)]
            exact unhide hlen
          go_wp2
          go_ret
          exact ⟨ret_int (by rw [unhide HF, unhide HE]), hW _⟩
  · have HF : Hid (firstOf c dt v ch = n2) := by show _ = _; unfold firstOf; rw [if_neg hc]; exact unhide hlen
    have hcd : (c = true ∧ ch = false) ∨ (c = false ∧ ch = true) := by cases c <;> cases ch <;> simp_all
    clear hc
    rcases hcd with ⟨rfl, rfl⟩ | ⟨rfl, rfl⟩
    all_goals
      go_enter Tryz.func58, Tryz.ntmps58
      go_wp2
      go_loop [7] (fun i => ∃ k : Nat, k ≤ n2 ∧ i = .int .i64 k) (fun i => n2 - (intOf i).toNat)
      case atStart => exact ⟨0, Nat.zero_le _, rfl⟩
      case round =>
        obtain ⟨k, hk, rfl⟩ := hrel
        by_cases hlt : k < n2
        · go_wp2
          go_round
          case rel => exact ⟨k + 1, by omega, by go_num⟩
          case measure => simp [intOf]; omega
        · have hkn : k = n2 := by omega
          subst hkn
          go_wp2
          go_ret
          exact ⟨ret_int (by rw [unhide HF]), hW _⟩

end Go.Proofs.YtkgcmpmgaghdhaaGreatDoor
namespace Go.Proofs.YtkgcmpmgaghdhaaGreatDoor
open Go.RowKit

set_option maxHeartbeats 400000 in
theorem l4Truth_any (b : Bool) (w : World) : Calls Tryz.prog 57 #[.bool b] w fun e w' => e = .returned (.int .i64 (truth b)) ∧ w' = w := by
  cases b
  all_goals
    go_enter Tryz.func57, Tryz.ntmps57
    go_wp2
    go_ret
    exact ⟨rfl, rfl⟩

end Go.Proofs.YtkgcmpmgaghdhaaGreatDoor
namespace Go.Proofs.YtkgcmpmgaghdhaaGreatDoor
open Go.RowKit

/-- The statement that appends whether an element stands in b. -/
def opsM : Array Oper :=
  #[
    { dst := some 29, op := Op.fieldAddr 25 (Operand.tmp 6) 2, type := 0, pos := "l6_prim.go:94", after := #[], guard := none }, 
    { dst := some 30, op := Op.load 23 (Operand.tmp 29), type := 23, pos := "l6_prim.go:94", after := #[{ on := 0, ground := Ground.data }], guard := none }, 
    { dst := some 31, op := Op.load 25 (Operand.tmp 3), type := 25, pos := "l6_prim.go:94", after := #[], guard := none }, 
    { dst := some 32, op := Op.fieldAddr 25 (Operand.tmp 2) 2, type := 0, pos := "l6_prim.go:94", after := #[], guard := none }, 
    { dst := some 33, op := Op.load 23 (Operand.tmp 32), type := 23, pos := "l6_prim.go:94", after := #[{ on := 3, ground := Ground.data }], guard := none }, 
    { dst := some 34, op := Op.move (Operand.tmp 7), type := 3, pos := "l6_prim.go:94", after := #[], guard := none }, 
    { dst := some 35, op := Op.indexAddr 23 (Operand.tmp 33) (Operand.tmp 34), type := 0, pos := "l6_prim.go:94", after := #[{ on := 4, ground := Ground.data }, { on := 5, ground := Ground.data }], guard := none }, 
    { dst := some 36, op := Op.load 3 (Operand.tmp 35), type := 3, pos := "l6_prim.go:94", after := #[{ on := 6, ground := Ground.data }], guard := none }, 
    { dst := some 37, op := Op.fieldAddr 25 (Operand.tmp 2) 0, type := 0, pos := "l6_prim.go:94", after := #[], guard := none }, 
    { dst := some 38, op := Op.load 4 (Operand.tmp 37), type := 4, pos := "l6_prim.go:94", after := #[{ on := 8, ground := Ground.data }], guard := none }, 
    { dst := some 39, op := Op.call { callee := Callee.value (Operand.func 58), args := #[Operand.tmp 31, Operand.tmp 36, Operand.tmp 38], argTypes := #[25, 3, 4] }, type := 3, pos := "l6_prim.go:94", after := #[{ on := 2, ground := Ground.data }, { on := 7, ground := Ground.data }, { on := 9, ground := Ground.data }], guard := none }, 
    { dst := some 40, op := Op.fieldAddr 25 (Operand.tmp 3) 2, type := 0, pos := "l6_prim.go:94", after := #[], guard := none }, 
    { dst := some 41, op := Op.load 23 (Operand.tmp 40), type := 23, pos := "l6_prim.go:94", after := #[{ on := 11, ground := Ground.data }], guard := none }, 
    { dst := some 42, op := Op.call { callee := Callee.builtin Builtin.len, args := #[Operand.tmp 41], argTypes := #[23] }, type := 3, pos := "l6_prim.go:94", after := #[{ on := 12, ground := Ground.data }], guard := none }, 
    { dst := some 43, op := Op.binOp BinOp.lss 3 (Operand.tmp 39) (Operand.tmp 42) 3, type := 4, pos := "l6_prim.go:94", after := #[{ on := 10, ground := Ground.data }, { on := 13, ground := Ground.data }], guard := none }, 
    { dst := some 44, op := Op.call { callee := Callee.value (Operand.func 57), args := #[Operand.tmp 43], argTypes := #[4] }, type := 3, pos := "l6_prim.go:94", after := #[{ on := 14, ground := Ground.data }, { on := 10, ground := Ground.chain }], guard := none }, 
    { dst := some 45, op := Op.buildSlice 23 1 #[(0, Operand.tmp 44)], type := 23, pos := "l6_prim.go:94", after := #[{ on := 15, ground := Ground.data }], guard := none }, 
    { dst := some 46, op := Op.call { callee := Callee.builtin Builtin.append, args := #[Operand.tmp 30, Operand.tmp 45], argTypes := #[23, 23] }, type := 23, pos := "l6_prim.go:94", after := #[{ on := 1, ground := Ground.data }, { on := 16, ground := Ground.data }, { on := 15, ground := Ground.chain }], guard := none }, 
    { dst := some 47, op := Op.fieldAddr 25 (Operand.tmp 6) 2, type := 0, pos := "l6_prim.go:94", after := #[{ on := 0, ground := Ground.phase }, { on := 1, ground := Ground.phase }, { on := 2, ground := Ground.phase }, { on := 3, ground := Ground.phase }, { on := 4, ground := Ground.phase }, { on := 5, ground := Ground.phase }, { on := 6, ground := Ground.phase }, { on := 7, ground := Ground.phase }, { on := 8, ground := Ground.phase }, { on := 9, ground := Ground.phase }, { on := 10, ground := Ground.phase }, { on := 11, ground := Ground.phase }, { on := 12, ground := Ground.phase }, { on := 13, ground := Ground.phase }, { on := 14, ground := Ground.phase }, { on := 15, ground := Ground.phase }, { on := 16, ground := Ground.phase }, { on := 17, ground := Ground.phase }], guard := none }, 
    { dst := none, op := Op.store 23 (Operand.tmp 47) (Operand.tmp 46), type := 0, pos := "l6_prim.go:94", after := #[{ on := 18, ground := Ground.data }, { on := 17, ground := Ground.data }, { on := 17, ground := Ground.chain }, { on := 0, ground := Ground.phase }, { on := 1, ground := Ground.phase }, { on := 2, ground := Ground.phase }, { on := 3, ground := Ground.phase }, { on := 4, ground := Ground.phase }, { on := 5, ground := Ground.phase }, { on := 6, ground := Ground.phase }, { on := 7, ground := Ground.phase }, { on := 8, ground := Ground.phase }, { on := 9, ground := Ground.phase }, { on := 10, ground := Ground.phase }, { on := 11, ground := Ground.phase }, { on := 12, ground := Ground.phase }, { on := 13, ground := Ground.phase }, { on := 14, ground := Ground.phase }, { on := 15, ground := Ground.phase }, { on := 16, ground := Ground.phase }, { on := 17, ground := Ground.phase }], guard := none }]

section
variable {o : Oper} {a : Act}
theorem mF (x : Operand) (b k : Nat) (hk : k = 2) (ho : o.op = .fieldAddr 25 x k) (hx : a.eval x = .pointer (some ⟨b, 0, none⟩)) (w : World) : (execOp a.eval o).run Tryz.prog w = .ok (.value (.pointer (some ⟨b, k, none⟩))) w := by
  subst hk
  unfold execOp
  simp only [ho, hx]
  go_simp
theorem mF0 (x : Operand) (b : Nat) (ho : o.op = .fieldAddr 25 x 0) (hx : a.eval x = .pointer (some ⟨b, 0, none⟩)) (w : World) : (execOp a.eval o).run Tryz.prog w = .ok (.value (.pointer (some ⟨b, 0, none⟩))) w := by
  unfold execOp
  simp only [ho, hx]
  go_simp
theorem mL (x : Operand) (p : Addr) {s : Option Addr} {l c : Nat} (ho : o.op = .load 23 x) (hx : a.eval x = .pointer (some p)) (w : World) (hc : w.cell? p = some (.slice s l c)) : (execOp a.eval o).run Tryz.prog w = .ok (.value (.slice s l c)) w := by
  unfold execOp
  simp only [ho, hx]
  go_simp
theorem mB (x : Operand) (p : Addr) {z : Bool} (ho : o.op = .load 4 x) (hx : a.eval x = .pointer (some p)) (w : World) (hc : w.cell? p = some (.bool z)) : (execOp a.eval o).run Tryz.prog w = .ok (.value (.bool z)) w := by
  unfold execOp
  simp only [ho, hx]
  go_simp
theorem mA (x : Operand) (p : Nat) {z : Bool} {s1 s2 : Option Addr} {l1 e1 l2 e2 : Nat} (ho : o.op = .load 25 x) (hx : a.eval x = .pointer (some ⟨p, 0, none⟩)) (w : World) (c0 : w.cell? ⟨p, 0, none⟩ = some (.bool z)) (c1 : w.cell? ⟨p, 1, none⟩ = some (.slice s1 l1 e1)) (c2 : w.cell? ⟨p, 2, none⟩ = some (.slice s2 l2 e2)) : (execOp a.eval o).run Tryz.prog w = .ok (.value (.agg #[.bool z, .slice s1 l1 e1, .slice s2 l2 e2])) w := by
  unfold execOp
  simp only [ho, hx]
  go_simp
theorem mI (x : Operand) (p : Addr) {z : Int} (ho : o.op = .load 3 x) (hx : a.eval x = .pointer (some p)) (w : World) (hc : w.cell? p = some (.int .i64 z)) : (execOp a.eval o).run Tryz.prog w = .ok (.value (.int .i64 z)) w := by
  unfold execOp
  simp only [ho, hx]
  go_simp
theorem mM (x : Operand) {v : Value} (ho : o.op = .move x) (hx : a.eval x = v) (w : World) : (execOp a.eval o).run Tryz.prog w = .ok (.value v) w := by
  unfold execOp
  simp only [ho, hx]
  go_simp
theorem mN (t : Nat) {s : Option Addr} {l c : Nat} (ho : o.op = .call { callee := .builtin .len, args := #[.tmp t], argTypes := #[23] }) (hx : a.eval (.tmp t) = .slice s l c) (w : World) : (execOp a.eval o).run Tryz.prog w = .ok (.value (.int .i64 (l : Nat))) w := by
  have hx' : a.tmps[t]?.getD undef = .slice s l c := by simpa [Act.eval] using hx
  unfold execOp
  simp only [ho]
  go_simp
theorem mLt (x y : Operand) {u v : Nat} {r : Bool} (ho : o.op = .binOp .lss 3 x y 3) (hx : a.eval x = .int .i64 (u : Nat)) (hy : a.eval y = .int .i64 (v : Nat)) (hr : decide (u < v) = r) (w : World) : (execOp a.eval o).run Tryz.prog w = .ok (.value (.bool r)) w := by
  unfold execOp
  simp only [ho, hx, hy]
  go_simp
theorem mX (x y : Operand) {b off m c J : Nat} (ho : o.op = .indexAddr 23 x y) (hx : a.eval x = .slice (some ⟨b, off, none⟩) m c) (hy : a.eval y = .int .i64 (J : Nat)) (hJ : J < m) (w : World) : (execOp a.eval o).run Tryz.prog w = .ok (.value (.pointer (some ⟨b, off + J, none⟩))) w := by
  have h1 : (J : Int) < (m : Int) := by omega
  unfold execOp
  simp only [ho, hx, hy]
  go_simp
theorem mS1 (t : Nat) {z : Int} (ho : o.op = .buildSlice 23 1 #[(0, .tmp t)]) (hx : a.eval (.tmp t) = .int .i64 z) (w : World) : (execOp a.eval o).run Tryz.prog w = .ok (.value (.slice (some ⟨w.heap.size, 0, none⟩) 1 1)) (w.alloc (.cells #[.int .i64 z] 3)) := by
  have hx' : a.tmps[t]?.getD undef = .int .i64 z := by simpa [Act.eval] using hx
  unfold execOp
  simp only [ho]
  go_simp
theorem mSt (x y : Operand) (p : Nat) {v1 : Value} {s : Option Addr} {l c : Nat} (ho : o.op = .store 23 x y) (hx : a.eval x = .pointer (some ⟨p, 2, none⟩)) (hy : a.eval y = .slice s l c) (w : World) (hc : w.cell? ⟨p, 2, none⟩ = some v1) (hf : w.frozen? ⟨p, 2, none⟩ = false) : (execOp a.eval o).run Tryz.prog w = .ok .skip (w.setCell ⟨p, 2, none⟩ (.slice s l c)) := by
  unfold execOp
  simp only [ho, hx, hy]
  go_simp
end

theorem mCall3 {K : Act → World → Prop} {Q : Exit → Act → World → Prop} {o : Oper} {a : Act} {w : World} (x y z : Nat) {u v s : Value} (ho : o.op = .call { callee := .value (.func 58), args := #[.tmp x, .tmp y, .tmp z], argTypes := #[25, 3, 4] }) (hx : a.eval (.tmp x) = u) (hy : a.eval (.tmp y) = v) (hz : a.eval (.tmp z) = s)
    (h : Calls Tryz.prog 58 #[u, v, s] w fun | .returned r, w' => K (a.put o.dst r) w' | .panicked c, w' => Q (.panic c) a w' | .outgrown, _ => LetsOut Q) : o.wp Tryz.prog a w K Q := by
  have hx' : a.tmps[x]?.getD undef = u := by simpa [Act.eval] using hx
  have hy' : a.tmps[y]?.getD undef = v := by simpa [Act.eval] using hy
  have hz' : a.tmps[z]?.getD undef = s := by simpa [Act.eval] using hz
  have e : (execOp a.eval o).run Tryz.prog w = .ok (.enter 58 #[u, v, s]) w := by
    unfold execOp
    simp only [ho]
    go_simp
  unfold Oper.wp
  rw [e]
  exact h
theorem mCall1 {K : Act → World → Prop} {Q : Exit → Act → World → Prop} {o : Oper} {a : Act} {w : World} (x : Nat) {u : Value} (ho : o.op = .call { callee := .value (.func 57), args := #[.tmp x], argTypes := #[4] }) (hx : a.eval (.tmp x) = u)
    (h : Calls Tryz.prog 57 #[u] w fun | .returned r, w' => K (a.put o.dst r) w' | .panicked c, w' => Q (.panic c) a w' | .outgrown, _ => LetsOut Q) : o.wp Tryz.prog a w K Q := by
  have hx' : a.tmps[x]?.getD undef = u := by simpa [Act.eval] using hx
  have e : (execOp a.eval o).run Tryz.prog w = .ok (.enter 57 #[u]) w := by
    unfold execOp
    simp only [ho]
    go_simp
  unfold Oper.wp
  rw [e]
  exact h

/-- The frame behind the statement. -/
def outM (a : Act) (p pa pb : Nat) (c d : Bool) (b1 b2 : Option Addr) (g P cap bd od n2 c2 m1 d1 m2 d2 : Nat) (x : Int) (q : Nat) (r : Bool) (hb : Nat) (v' : Value) : Act :=
  (((((((((((((((((((a.put (some 29) (.pointer (some ⟨p, 2, none⟩))).put (some 30) (.slice (some ⟨g, 0, none⟩) P cap)).put (some 31) (.agg #[.bool d, .slice b1 m1 d1, .slice b2 m2 d2])).put (some 32) (.pointer (some ⟨pa, 2, none⟩))).put (some 33) (.slice (some ⟨bd, od, none⟩) n2 c2)).put (some 34) (.int .i64 (P : Nat))).put (some 35) (.pointer (some ⟨bd, od + P, none⟩))).put (some 36) (.int .i64 x)).put (some 37) (.pointer (some ⟨pa, 0, none⟩))).put (some 38) (.bool c)).put (some 40) (.pointer (some ⟨pb, 2, none⟩))).put (some 41) (.slice b2 m2 d2)).put (some 42) (.int .i64 (m2 : Nat))).put (some 39) (.int .i64 (q : Nat))).put (some 43) (.bool r)).put (some 44) (.int .i64 (truth r))).put (some 45) (.slice (some ⟨hb, 0, none⟩) 1 1)).put (some 46) (v')).put (some 47) (.pointer (some ⟨p, 2, none⟩))).put none undef

set_option maxHeartbeats 4000000 in
set_option maxRecDepth 20000 in
theorem regionM {Q : Exit → Act → World → Prop} (a : Act) (W : World) (hsz : 49 ≤ a.tmps.size) (p pa pb : Nat) (h6 : a.eval (.tmp 6) = .pointer (some ⟨p, 0, none⟩)) (h2 : a.eval (.tmp 2) = .pointer (some ⟨pa, 0, none⟩)) (h3 : a.eval (.tmp 3) = .pointer (some ⟨pb, 0, none⟩))
    (c d : Bool) (b1 b2 : Option Addr) (g P cap bd od n2 c2 m1 d1 m2 d2 : Nat) (h7 : a.eval (.tmp 7) = .int .i64 (P : Nat)) (xs : List Value) (x : Int) (base q : Nat) (r : Bool) (hr : decide (q < m2) = r) (hP : P < n2) (hPb : P ≤ 1000000) (S : World → Prop)
    (hS : ∀ wx, S wx → wx.cell? ⟨p, 2, none⟩ = some (.slice (some ⟨g, 0, none⟩) P cap) ∧ wx.frozen? ⟨p, 2, none⟩ = false ∧ wx.cell? ⟨pb, 0, none⟩ = some (.bool d) ∧ wx.cell? ⟨pb, 1, none⟩ = some (.slice b1 m1 d1) ∧ wx.cell? ⟨pb, 2, none⟩ = some (.slice b2 m2 d2) ∧ wx.cell? ⟨pa, 2, none⟩ = some (.slice (some ⟨bd, od, none⟩) n2 c2) ∧ wx.cell? ⟨pa, 0, none⟩ = some (.bool c) ∧ wx.cell? ⟨bd, od + P, none⟩ = some (.int .i64 x))
    (HK : ∀ wx, Below W.heap.size W wx → S wx)
    (HC : ∀ wx, Below W.heap.size W wx → Calls Tryz.prog 58 #[.agg #[.bool d, .slice b1 m1 d1, .slice b2 m2 d2], .int .i64 x, .bool c] wx fun e w' => e = .returned (.int .i64 (q : Nat)) ∧ Below wx.heap.size wx w')
    (hown : W.ownsRow base 3 1 (.slice (some ⟨g, 0, none⟩) P cap) P xs) (hbase : base ≤ W.heap.size)
    (HA : ∀ wx w7, Below W.heap.size W wx → (wx.alloc (.cells #[.int .i64 (truth r)] 3)).grownBy w7 (some g) → S w7)
    (hQ : ∀ c a (d : Nat) v w, Q (.panic c) (a.put (some d) v) w → Q (.panic c) a w)
    (hend : ∀ wx g' cap' w7, Below W.heap.size W wx → w7.ownsRow base 3 1 (.slice (some ⟨g', 0, none⟩) (P + 1) cap') (P + 1) (xs ++ [.int .i64 (truth r)]) → (wx.alloc (.cells #[.int .i64 (truth r)] 3)).grownBy w7 (Value.ownBlock (.slice (some ⟨g, 0, none⟩) P cap)) → (Value.ownBlock (.slice (some ⟨g, 0, none⟩) P cap) = some g' ∨ g' = wx.heap.size + 1) →
      Q .normal (outM a p pa pb c d b1 b2 g P cap bd od n2 c2 m1 d1 m2 d2 x q r wx.heap.size (.slice (some ⟨g', 0, none⟩) (P + 1) cap')) (w7.setCell ⟨p, 2, none⟩ (.slice (some ⟨g', 0, none⟩) (P + 1) cap'))) :
    (Code.region 7 opsM true).wp Tryz.prog Q a W := by
  have hb0 : Below W.heap.size W { W with drawn := W.drawn + 1 } := (Below.refl _ _).drew
  have hS0 := HK _ hb0
  obtain ⟨i0, hi, hz0, hz1, hz2⟩ := info_parts info_int
  refine wp_region_L S 19 (by kernel_rfl) ?_
  show wpAnyL _ _ _ _ _ _ (19 + 1) _ _ _
  refine wpAnyL_put 0 29 (.pointer (some ⟨p, 2, none⟩)) rfl rfl (by kernel_rfl) (by kernel_rfl) (by kernel_rfl) (by kernel_rfl) hQ rfl (fun w hw => mF (.tmp 6) p 2 (by omega) rfl h6 w) hS0 ?_
  refine wpAnyL_put 1 30 (.slice (some ⟨g, 0, none⟩) P cap) rfl rfl (by kernel_rfl) (by kernel_rfl) (by kernel_rfl) (by kernel_rfl) hQ rfl (fun w hw => mL (.tmp 29) _ rfl (eval_eq (by omega)) w (hS w hw).1) hS0 ?_
  refine wpAnyL_put 2 31 (.agg #[.bool d, .slice b1 m1 d1, .slice b2 m2 d2]) rfl rfl (by kernel_rfl) (by kernel_rfl) (by kernel_rfl) (by kernel_rfl) hQ rfl (fun w hw => mA (.tmp 3) pb rfl (by rw [eval_ne (by decide), eval_ne (by decide)]; exact h3) w (hS w hw).2.2.1 (hS w hw).2.2.2.1 (hS w hw).2.2.2.2.1) hS0 ?_
  refine wpAnyL_put 3 32 (.pointer (some ⟨pa, 2, none⟩)) rfl rfl (by kernel_rfl) (by kernel_rfl) (by kernel_rfl) (by kernel_rfl) hQ rfl (fun w hw => mF (.tmp 2) pa 2 (by omega) rfl (by rw [eval_ne (by decide), eval_ne (by decide), eval_ne (by decide)]; exact h2) w) hS0 ?_
  refine wpAnyL_put 4 33 (.slice (some ⟨bd, od, none⟩) n2 c2) rfl rfl (by kernel_rfl) (by kernel_rfl) (by kernel_rfl) (by kernel_rfl) hQ rfl (fun w hw => mL (.tmp 32) _ rfl (eval_eq (by rw [put_size, put_size, put_size]; omega)) w (hS w hw).2.2.2.2.2.1) hS0 ?_
  refine wpAnyL_put 5 34 (.int .i64 (P : Nat)) rfl rfl (by kernel_rfl) (by kernel_rfl) (by kernel_rfl) (by kernel_rfl) hQ rfl (fun w hw => mM (.tmp 7) rfl (by rw [eval_ne (by decide), eval_ne (by decide), eval_ne (by decide), eval_ne (by decide), eval_ne (by decide)]; exact h7) w) hS0 ?_
  refine wpAnyL_put 6 35 (.pointer (some ⟨bd, od + P, none⟩)) rfl rfl (by kernel_rfl) (by kernel_rfl) (by kernel_rfl) (by kernel_rfl) hQ rfl (fun w hw => mX (.tmp 33) (.tmp 34) rfl (by rw [eval_ne (by decide)]; exact eval_eq (by rw [put_size, put_size, put_size, put_size]; omega)) (eval_eq (by rw [put_size, put_size, put_size, put_size, put_size]; omega)) hP w) hS0 ?_
  refine wpAnyL_put 7 36 (.int .i64 x) rfl rfl (by kernel_rfl) (by kernel_rfl) (by kernel_rfl) (by kernel_rfl) hQ rfl (fun w hw => mI (.tmp 35) _ rfl (eval_eq (by rw [put_size, put_size, put_size, put_size, put_size, put_size]; omega)) w (hS w hw).2.2.2.2.2.2.2) hS0 ?_
  refine wpAnyL_put 8 37 (.pointer (some ⟨pa, 0, none⟩)) rfl rfl (by kernel_rfl) (by kernel_rfl) (by kernel_rfl) (by kernel_rfl) hQ rfl (fun w hw => mF0 (.tmp 2) pa rfl (by rw [eval_ne (by decide), eval_ne (by decide), eval_ne (by decide), eval_ne (by decide), eval_ne (by decide), eval_ne (by decide), eval_ne (by decide), eval_ne (by decide)]; exact h2) w) hS0 ?_
  refine wpAnyL_put 9 38 (.bool c) rfl rfl (by kernel_rfl) (by kernel_rfl) (by kernel_rfl) (by kernel_rfl) hQ rfl (fun w hw => mB (.tmp 37) _ rfl (eval_eq (by rw [put_size, put_size, put_size, put_size, put_size, put_size, put_size, put_size]; omega)) w (hS w hw).2.2.2.2.2.2.1) hS0 ?_
  refine wpAnyL_put 11 40 (.pointer (some ⟨pb, 2, none⟩)) rfl rfl (by kernel_rfl) (by kernel_rfl) (by kernel_rfl) (by kernel_rfl) hQ rfl (fun w hw => mF (.tmp 3) pb 2 (by omega) rfl (by rw [eval_ne (by decide), eval_ne (by decide), eval_ne (by decide), eval_ne (by decide), eval_ne (by decide), eval_ne (by decide), eval_ne (by decide), eval_ne (by decide), eval_ne (by decide), eval_ne (by decide)]; exact h3) w) hS0 ?_
  refine wpAnyL_put 12 41 (.slice b2 m2 d2) rfl rfl (by kernel_rfl) (by kernel_rfl) (by kernel_rfl) (by kernel_rfl) hQ rfl (fun w hw => mL (.tmp 40) _ rfl (eval_eq (by rw [put_size, put_size, put_size, put_size, put_size, put_size, put_size, put_size, put_size, put_size]; omega)) w (hS w hw).2.2.2.2.1) hS0 ?_
  refine wpAnyL_put 13 42 (.int .i64 (m2 : Nat)) rfl rfl (by kernel_rfl) (by kernel_rfl) (by kernel_rfl) (by kernel_rfl) hQ rfl (fun w hw => mN 41 rfl (eval_eq (by rw [put_size, put_size, put_size, put_size, put_size, put_size, put_size, put_size, put_size, put_size, put_size]; omega)) w) hS0 ?_
  refine wpAnyL_one (i := 10) (by kernel_rfl) ?_
  refine op_wp rfl rfl ?_
  have q1 : (((((((((((((a.put (some 29) (.pointer (some ⟨p, 2, none⟩))).put (some 30) (.slice (some ⟨g, 0, none⟩) P cap)).put (some 31) (.agg #[.bool d, .slice b1 m1 d1, .slice b2 m2 d2])).put (some 32) (.pointer (some ⟨pa, 2, none⟩))).put (some 33) (.slice (some ⟨bd, od, none⟩) n2 c2)).put (some 34) (.int .i64 (P : Nat))).put (some 35) (.pointer (some ⟨bd, od + P, none⟩))).put (some 36) (.int .i64 x)).put (some 37) (.pointer (some ⟨pa, 0, none⟩))).put (some 38) (.bool c)).put (some 40) (.pointer (some ⟨pb, 2, none⟩))).put (some 41) (.slice b2 m2 d2)).put (some 42) (.int .i64 (m2 : Nat))).eval (.tmp 31) = .agg #[.bool d, .slice b1 m1 d1, .slice b2 m2 d2] := (by rw [eval_ne (by decide), eval_ne (by decide), eval_ne (by decide), eval_ne (by decide), eval_ne (by decide), eval_ne (by decide), eval_ne (by decide), eval_ne (by decide), eval_ne (by decide), eval_ne (by decide)]; exact eval_eq (by rw [put_size, put_size]; omega))
  have q2 : (((((((((((((a.put (some 29) (.pointer (some ⟨p, 2, none⟩))).put (some 30) (.slice (some ⟨g, 0, none⟩) P cap)).put (some 31) (.agg #[.bool d, .slice b1 m1 d1, .slice b2 m2 d2])).put (some 32) (.pointer (some ⟨pa, 2, none⟩))).put (some 33) (.slice (some ⟨bd, od, none⟩) n2 c2)).put (some 34) (.int .i64 (P : Nat))).put (some 35) (.pointer (some ⟨bd, od + P, none⟩))).put (some 36) (.int .i64 x)).put (some 37) (.pointer (some ⟨pa, 0, none⟩))).put (some 38) (.bool c)).put (some 40) (.pointer (some ⟨pb, 2, none⟩))).put (some 41) (.slice b2 m2 d2)).put (some 42) (.int .i64 (m2 : Nat))).eval (.tmp 36) = .int .i64 x := (by rw [eval_ne (by decide), eval_ne (by decide), eval_ne (by decide), eval_ne (by decide), eval_ne (by decide)]; exact eval_eq (by rw [put_size, put_size, put_size, put_size, put_size, put_size, put_size]; omega))
  have q3 : (((((((((((((a.put (some 29) (.pointer (some ⟨p, 2, none⟩))).put (some 30) (.slice (some ⟨g, 0, none⟩) P cap)).put (some 31) (.agg #[.bool d, .slice b1 m1 d1, .slice b2 m2 d2])).put (some 32) (.pointer (some ⟨pa, 2, none⟩))).put (some 33) (.slice (some ⟨bd, od, none⟩) n2 c2)).put (some 34) (.int .i64 (P : Nat))).put (some 35) (.pointer (some ⟨bd, od + P, none⟩))).put (some 36) (.int .i64 x)).put (some 37) (.pointer (some ⟨pa, 0, none⟩))).put (some 38) (.bool c)).put (some 40) (.pointer (some ⟨pb, 2, none⟩))).put (some 41) (.slice b2 m2 d2)).put (some 42) (.int .i64 (m2 : Nat))).eval (.tmp 38) = .bool c := (by rw [eval_ne (by decide), eval_ne (by decide), eval_ne (by decide)]; exact eval_eq (by rw [put_size, put_size, put_size, put_size, put_size, put_size, put_size, put_size, put_size]; omega))
  have q4 : (((((((((((((a.put (some 29) (.pointer (some ⟨p, 2, none⟩))).put (some 30) (.slice (some ⟨g, 0, none⟩) P cap)).put (some 31) (.agg #[.bool d, .slice b1 m1 d1, .slice b2 m2 d2])).put (some 32) (.pointer (some ⟨pa, 2, none⟩))).put (some 33) (.slice (some ⟨bd, od, none⟩) n2 c2)).put (some 34) (.int .i64 (P : Nat))).put (some 35) (.pointer (some ⟨bd, od + P, none⟩))).put (some 36) (.int .i64 x)).put (some 37) (.pointer (some ⟨pa, 0, none⟩))).put (some 38) (.bool c)).put (some 40) (.pointer (some ⟨pb, 2, none⟩))).put (some 41) (.slice b2 m2 d2)).put (some 42) (.int .i64 (m2 : Nat))).eval (.tmp 30) = .slice (some ⟨g, 0, none⟩) P cap := (by rw [eval_ne (by decide), eval_ne (by decide), eval_ne (by decide), eval_ne (by decide), eval_ne (by decide), eval_ne (by decide), eval_ne (by decide), eval_ne (by decide), eval_ne (by decide), eval_ne (by decide), eval_ne (by decide)]; exact eval_eq (by rw [put_size]; omega))
  have q5 : (((((((((((((a.put (some 29) (.pointer (some ⟨p, 2, none⟩))).put (some 30) (.slice (some ⟨g, 0, none⟩) P cap)).put (some 31) (.agg #[.bool d, .slice b1 m1 d1, .slice b2 m2 d2])).put (some 32) (.pointer (some ⟨pa, 2, none⟩))).put (some 33) (.slice (some ⟨bd, od, none⟩) n2 c2)).put (some 34) (.int .i64 (P : Nat))).put (some 35) (.pointer (some ⟨bd, od + P, none⟩))).put (some 36) (.int .i64 x)).put (some 37) (.pointer (some ⟨pa, 0, none⟩))).put (some 38) (.bool c)).put (some 40) (.pointer (some ⟨pb, 2, none⟩))).put (some 41) (.slice b2 m2 d2)).put (some 42) (.int .i64 (m2 : Nat))).eval (.tmp 42) = .int .i64 (m2 : Nat) := (eval_eq (by rw [put_size, put_size, put_size, put_size, put_size, put_size, put_size, put_size, put_size, put_size, put_size, put_size]; omega))
  have q6 : (((((((((((((a.put (some 29) (.pointer (some ⟨p, 2, none⟩))).put (some 30) (.slice (some ⟨g, 0, none⟩) P cap)).put (some 31) (.agg #[.bool d, .slice b1 m1 d1, .slice b2 m2 d2])).put (some 32) (.pointer (some ⟨pa, 2, none⟩))).put (some 33) (.slice (some ⟨bd, od, none⟩) n2 c2)).put (some 34) (.int .i64 (P : Nat))).put (some 35) (.pointer (some ⟨bd, od + P, none⟩))).put (some 36) (.int .i64 x)).put (some 37) (.pointer (some ⟨pa, 0, none⟩))).put (some 38) (.bool c)).put (some 40) (.pointer (some ⟨pb, 2, none⟩))).put (some 41) (.slice b2 m2 d2)).put (some 42) (.int .i64 (m2 : Nat))).eval (.tmp 6) = .pointer (some ⟨p, 0, none⟩) := (by rw [eval_ne (by decide), eval_ne (by decide), eval_ne (by decide), eval_ne (by decide), eval_ne (by decide), eval_ne (by decide), eval_ne (by decide), eval_ne (by decide), eval_ne (by decide), eval_ne (by decide), eval_ne (by decide), eval_ne (by decide), eval_ne (by decide)]; exact h6)
  have q7 : 49 ≤ (((((((((((((a.put (some 29) (.pointer (some ⟨p, 2, none⟩))).put (some 30) (.slice (some ⟨g, 0, none⟩) P cap)).put (some 31) (.agg #[.bool d, .slice b1 m1 d1, .slice b2 m2 d2])).put (some 32) (.pointer (some ⟨pa, 2, none⟩))).put (some 33) (.slice (some ⟨bd, od, none⟩) n2 c2)).put (some 34) (.int .i64 (P : Nat))).put (some 35) (.pointer (some ⟨bd, od + P, none⟩))).put (some 36) (.int .i64 x)).put (some 37) (.pointer (some ⟨pa, 0, none⟩))).put (some 38) (.bool c)).put (some 40) (.pointer (some ⟨pb, 2, none⟩))).put (some 41) (.slice b2 m2 d2)).put (some 42) (.int .i64 (m2 : Nat))).tmps.size := by rw [put_size, put_size, put_size, put_size, put_size, put_size, put_size, put_size, put_size, put_size, put_size, put_size, put_size]; exact hsz
  unfold outM at hend
  generalize (((((((((((((a.put (some 29) (.pointer (some ⟨p, 2, none⟩))).put (some 30) (.slice (some ⟨g, 0, none⟩) P cap)).put (some 31) (.agg #[.bool d, .slice b1 m1 d1, .slice b2 m2 d2])).put (some 32) (.pointer (some ⟨pa, 2, none⟩))).put (some 33) (.slice (some ⟨bd, od, none⟩) n2 c2)).put (some 34) (.int .i64 (P : Nat))).put (some 35) (.pointer (some ⟨bd, od + P, none⟩))).put (some 36) (.int .i64 x)).put (some 37) (.pointer (some ⟨pa, 0, none⟩))).put (some 38) (.bool c)).put (some 40) (.pointer (some ⟨pb, 2, none⟩))).put (some 41) (.slice b2 m2 d2)).put (some 42) (.int .i64 (m2 : Nat))) = A at *
  refine mCall3 31 36 38 rfl q1 q2 q3 ((HC _ hb0).mono ?_)
  rintro e w2 ⟨rfl, hb2⟩
  have hbw : Below W.heap.size W w2 := hb0.trans hb2
  have hS2 := HK _ hbw
  refine ⟨fun _ => hS2, ?_⟩
  show wpAnyL _ _ _ _ _ _ (5 + 1) _ (A.put (some 39) _) _
  refine wpAnyL_put 14 43 (.bool r) rfl rfl (by kernel_rfl) (by kernel_rfl) (by kernel_rfl) (by kernel_rfl) hQ rfl (fun w hw => mLt (.tmp 39) (.tmp 42) rfl (eval_eq (by omega)) (by rw [eval_ne (by decide)]; exact q5) hr w) hS2 ?_
  refine wpAnyL_one (i := 15) (by kernel_rfl) ?_
  refine op_wp rfl rfl ?_
  refine mCall1 43 rfl (eval_eq (by rw [put_size]; omega)) ((l4Truth_any r w2).mono ?_)
  rintro e w3 ⟨rfl, rfl⟩
  refine ⟨fun _ => hS2, ?_⟩
  show wpAnyL _ _ _ _ _ _ (3 + 1) _ (((A.put (some 39) _).put (some 43) _).put (some 44) _) _
  refine wpAnyL_one (i := 16) (by kernel_rfl) ?_
  refine op_wp rfl rfl ?_
  unfold Oper.wp
  rw [mS1 44 rfl (eval_eq (by rw [put_size, put_size]; omega)) w3]
  have hbx : Below W.heap.size W (w3.alloc (.cells #[.int .i64 (truth r)] 3)) := hbw.alloc hbw.size _
  refine ⟨fun _ => HK _ hbx, ?_⟩
  show wpAnyL _ _ _ _ _ _ (2 + 1) _ ((((A.put (some 39) _).put (some 43) _).put (some 44) _).put (some 45) _) _
  refine wpAnyL_one (i := 17) (by kernel_rfl) ?_
  refine op_wp rfl rfl ?_
  refine wp_append_lies _ (.tmp 30) (.tmp 45) 23 rfl base 3 i0 (.int .i64 0) 1 8 Tryz.underlying23 hi hz0 hz1 hz2 rfl (by decide) (.slice (some ⟨g, 0, none⟩) P cap) P xs (by rw [eval_ne (by decide), eval_ne (by decide), eval_ne (by decide), eval_ne (by decide)]; exact q4) (owns_below hown (Nat.le_refl _) hbx) ⟨w3.heap.size, 0, none⟩ 1 1 [.int .i64 (truth r)] (eval_eq (by rw [put_size, put_size, put_size]; omega)) rfl (cells_new _ _) (one_one _) (by omega) (by unfold maxLen; omega) (by omega) (by have := hbw.size; simp; omega) (w3.heap.size + 1) (by simp) ?_
  intro g' cap' w7 hown7 hgrow hat hlt
  have hS7 := HA w3 w7 hbw hgrow
  refine ⟨fun _ => hS7, ?_⟩
  show wpAnyL _ _ _ _ _ _ (1 + 1) _ (((((A.put (some 39) _).put (some 43) _).put (some 44) _).put (some 45) _).put (some 46) _) _
  refine wpAnyL_put 18 47 (.pointer (some ⟨p, 2, none⟩)) rfl rfl (by kernel_rfl) (by kernel_rfl) (by kernel_rfl) (by kernel_rfl) hQ rfl (fun w hw => mF (.tmp 6) p 2 (by omega) rfl (by rw [eval_ne (by decide), eval_ne (by decide), eval_ne (by decide), eval_ne (by decide), eval_ne (by decide)]; exact q6) w) hS7 ?_
  refine wpAnyL_one (i := 19) (by kernel_rfl) ?_
  refine op_wp rfl rfl ?_
  unfold Oper.wp
  rw [mSt (.tmp 47) (.tmp 46) p (s := some ⟨g', 0, none⟩) (l := P + 1) (c := cap') rfl (eval_eq (by rw [put_size, put_size, put_size, put_size, put_size]; omega)) (by rw [eval_ne (by decide)]; exact eval_eq (by rw [put_size, put_size, put_size, put_size]; omega)) w7 (hS w7 hS7).1 (hS w7 hS7).2.1]
  refine ⟨fun h => absurd rfl h, ?_⟩
  refine wpAnyL_done (by kernel_rfl) ?_ _
  exact hend w3 g' cap' w7 hbw hown7 hgrow hat

end Go.Proofs.YtkgcmpmgaghdhaaGreatDoor
namespace Go.Proofs.YtkgcmpmgaghdhaaGreatDoor
open Go.RowKit

set_option maxHeartbeats 400000 in
theorem l4None_any (w : World) : Calls Tryz.prog 55 #[] w fun e w' => e = .returned (.agg #[.bool false, .slice none 0 0, .slice none 0 0]) ∧ Below w.heap.size w w' := by
  go_enter Tryz.func55, Tryz.ntmps55
  go_wp2
  exact bodyPost_ret (v := .agg #[.bool false, .slice none 0 0, .slice none 0 0]) (by simp [results, Tryz.results55, go_sem]) rfl ⟨rfl, (Below.refl _ _).alloc (Nat.le_refl _) _⟩

end Go.Proofs.YtkgcmpmgaghdhaaGreatDoor
namespace Go.Proofs.YtkgcmpmgaghdhaaGreatDoor
open Go.RowKit

theorem member_bad1 {c d : Bool} {sh dt sh' dt' : List Int} (h : arrOk c sh dt = false) : member c d sh dt sh' dt' = noAns 3 := by unfold member; rw [if_neg (by simp [h])]
theorem member_bad2 {c d : Bool} {sh dt sh' dt' : List Int} (h : arrOk d sh' dt' = false) : member c d sh dt sh' dt' = noAns 3 := by unfold member; rw [if_neg (by simp [h])]
theorem member_go {c d : Bool} {sh dt sh' dt' : List Int} (h1 : arrOk c sh dt = true) (h2 : arrOk d sh' dt' = true) : member c d sh dt sh' dt' = gatherAns false sh (fun k => (truth (decide (firstOf d dt' (dt.getD k 0) c < dt'.length)), 0)) dt.length := by unfold member; rw [if_pos ⟨h1, h2⟩]

theorem mem_cell {w w1 : World} {g b o : Nat} (ob : Obj) (hg : (w.alloc ob).grownBy w1 (some g)) (hb : b < w.heap.size) (hne : b ≠ g) : w1.cell? ⟨b, o, none⟩ = w.cell? ⟨b, o, none⟩ :=
  World.cell?_of_block (w := w) (a := ⟨b, o, none⟩) ((hg.block b (by simp; omega) (fun e => by cases e; exact hne rfl)).trans (Below.heap_alloc w ob b hb))

set_option maxRecDepth 20000 in
set_option maxHeartbeats 8000000 in
theorem Member_any (c d : Bool) (a1 a2 b1 b2 : Addr) (n1 n2 m1 m2 c1 c2 d1 d2 : Nat) (sh dt sh' dt' : List Int) (w : World) (h1 : Row w (some a1) n1 sh) (h2 : Row w (some a2) n2 dt) (k1 : Row w (some b1) m1 sh') (k2 : Row w (some b2) m2 dt') :
    Calls Tryz.prog 15 #[.agg #[.bool c, .slice (some a1) n1 c1, .slice (some a2) n2 c2], .agg #[.bool d, .slice (some b1) m1 d1, .slice (some b2) m2 d2]] w (GivesRow w (member c d sh dt sh' dt')) := by
  have hl1 := hide h1.len
  have hl2 := hide h2.len
  have hl3 := hide k1.len
  have hl4 := hide k2.len
  have hs1 := h1.small
  have hs2 := h2.small
  have hs3 := k1.small
  have hs4 := k2.small
  have H1 := hide h1
  have H2 := hide h2
  have K1 := hide k1
  have K2 := hide k2
  clear h1 h2 k1 k2
  obtain ⟨r1, hr1⟩ : ∃ r, arrOk c sh dt = r := ⟨_, rfl⟩
  obtain ⟨r2, hr2⟩ : ∃ r, arrOk d sh' dt' = r := ⟨_, rfl⟩
  have HR1 := hide hr1
  have HR2 := hide hr2
  clear hr1 hr2
  go_enter Tryz.func15, Tryz.ntmps15
  go_wp2_with fail
  refine (ArrayOk_eq _ _ _ _ _ _ _ sh dt _ ((((unhide H1).alloc _).alloc _).alloc _) ((((unhide H2).alloc _).alloc _).alloc _) _ HR1).mono ?_
  rintro e w1 ⟨rfl, hb1⟩
  obtain ⟨B4, B5, B6, hB1⟩ := boxes3 hb1
  have hz1 := B6.lt
  clear hb1
  obtain ⟨x0, x1, x2, x3, x4, x5, x6⟩ := B4.all
  obtain ⟨y0, y1, y2, y3, y4, y5, y6⟩ := B5.all
  cases r1 with
  | false =>
    have HS : Hid (member c d sh dt sh' dt' = noAns 3) := member_bad1 (unhide HR1)
    go_wp2_with fail
    refine (l4None_any _).mono ?_
    rintro e w9 ⟨rfl, hb9⟩
    obtain ⟨q0, q1, q2, q3, q4, q5, q6⟩ := ((B6).below (Nat.le_refl _) hb9).all
    have hB9 := hide ((hB1).trans (hb9.mono (hB1).size))
    clear hb9 hB1 B4 B5 B6 hz1 x0 x1 x2 x3 x4 x5 x6 y0 y1 y2 y3 y4 y5 y6
    go_wp2
    refine bodyPost_ret (v := .tuple #[.agg #[.bool false, .slice none 0 0, .slice none 0 0], .int .i64 3]) (by simp [results, Tryz.results15, go_sem, q0, q1, q2]) rfl ?_
    rw [unhide HS]
    exact ⟨none, 0, 0, none, 0, 0, rfl, row_nil _ _, row_nil _ _, (((unhide hB9).setCell (by simp <;> omega) _).setCell (by simp <;> omega) _).setCell (by simp <;> omega) _⟩
  | true =>
    go_wp2_with fail
    refine (ArrayOk_eq _ _ _ _ _ _ _ sh' dt' _ ((unhide K1).below (Nat.le_refl _) hB1) ((unhide K2).below (Nat.le_refl _) hB1) _ HR2).mono ?_
    rintro e w2 ⟨rfl, hb2⟩
    have C4 := hide (B4.below (Nat.le_refl _) hb2)
    have C5 := hide (B5.below (Nat.le_refl _) hb2)
    have C6 := hide (B6.below (Nat.le_refl _) hb2)
    have hB2 := hide (hB1.trans (hb2.mono hB1.size))
    clear hb2 hB1 B4 B5 B6 hz1 x0 x1 x2 x3 x4 x5 x6 y0 y1 y2 y3 y4 y5 y6 w1
    cases r2 with
    | false =>
      have HS : Hid (member c d sh dt sh' dt' = noAns 3) := member_bad2 (unhide HR2)
      go_wp2_with fail
      refine (l4None_any _).mono ?_
      rintro e w9 ⟨rfl, hb9⟩
      obtain ⟨q0, q1, q2, q3, q4, q5, q6⟩ := ((unhide C6).below (Nat.le_refl _) hb9).all
      have hB9 := hide ((unhide hB2).trans (hb9.mono (unhide hB2).size))
      clear hb9 C4 C5 C6 hB2
      go_wp2
      refine bodyPost_ret (v := .tuple #[.agg #[.bool false, .slice none 0 0, .slice none 0 0], .int .i64 3]) (by simp [results, Tryz.results15, go_sem, q0, q1, q2]) rfl ?_
      rw [unhide HS]
      exact ⟨none, 0, 0, none, 0, 0, rfl, row_nil _ _, row_nil _ _, (((unhide hB9).setCell (by simp <;> omega) _).setCell (by simp <;> omega) _).setCell (by simp <;> omega) _⟩
    | true =>
      obtain ⟨x0, x1, x2, x3, x4, x5, x6⟩ := (unhide C4).all
      obtain ⟨y0, y1, y2, y3, y4, y5, y6⟩ := (unhide C5).all
      obtain ⟨f, hf⟩ : ∃ f : Nat → Int × Int, f = fun k => (truth (decide (firstOf d dt' (dt.getD k 0) c < dt'.length)), 0) := ⟨_, rfl⟩
      have HGO : Hid (member c d sh dt sh' dt' = gatherAns false sh f n2) := by
        show _ = _
        rw [member_go (unhide HR1) (unhide HR2), hf, unhide hl2]
      have HFK : Hid (∀ k, f k = (truth (decide (firstOf d dt' (dt.getD k 0) c < dt'.length)), 0)) := by intro k; rw [hf]
      obtain ⟨_, pr1, _⟩ := shapeIn_of (unhide HR1)
      have hbd1 := (shapeIn_of (unhide HR1)).1.bd
      rw [pr1, unhide hl2] at hbd1
      have hn2b : n2 ≤ 10000 := by omega
      clear hf pr1 hbd1
      go_wp2_with fail
      refine (l3Ints_any _ _ _ sh _ ((unhide H1).below (Nat.le_refl _) (unhide hB2))).mono ?_
      rintro e w3 ⟨ash, csh, rfl, hOJ, hb3⟩
      have hlaid := laid_cbz (c := false) (csh := csh) hOJ hb3
      obtain ⟨p, g0, ash', csh', e1, hbx, hblk, hO, hb4, hp, hg, hne⟩ := hlaid
      have hpe : p = w3.heap.size + 1 := by simpa using e1.symm
      subst hpe
      have hst0 := hide (Stage.start f hbx hblk hO hb4 hp hg hne)
      have hB2z := (unhide hB2).size
      have hz4 := (unhide C4).lt
      have hz5 := (unhide C5).lt
      have hz6' := (unhide C6).lt
      clear e1 hbx hblk hO hb4 hg hne hOJ hb3 x0 x1 x2 x3 x4 x5 x6 y0 y1 y2 y3 y4 y5 y6
      go_wp2_with fail
      go_loopw [7] (fun i wr => ∃ P g cap, P ≤ n2 ∧ i = .int .i64 (P : Nat) ∧ Hid (Stage w2 (w3.heap.size + 1) false ash' n1 csh' sh f P wr g cap)) (fun i _ => n2 - (intOf i).toNat)
      case atStart => exact ⟨0, g0, 0, Nat.zero_le _, rfl, hst0⟩
      case round =>
        obtain ⟨P, g, cap, hP, rfl, hst⟩ := hrel
        clear hst0
        have hA : Box wr w.heap.size c (.slice (some a1) n1 c1) (.slice (some a2) n2 c2) := (unhide C4).low hz4 (unhide hst).low
        have hBb : Box wr (w.heap.size + 1) d (.slice (some b1) m1 d1) (.slice (some b2) m2 d2) := (unhide C5).low hz5 (unhide hst).low
        have HWy := hide ((unhide hB2).trans ((unhide hst).low.mono hB2z))
        by_cases hlt : P < n2
        · obtain ⟨bd, od, hab, hblt, hc⟩ := (unhide H2).get hlt
          cases hab
          have hc' := ((unhide HWy).cell (p := ⟨bd, od + P, none⟩) hblt).trans hc
          obtain ⟨x, hx⟩ : ∃ x, x = dt.getD P 0 := ⟨_, rfl⟩
          rw [← hx] at hc'
          obtain ⟨q, hq⟩ : ∃ q : Nat, firstOf d dt' x c = q := ⟨_, rfl⟩
          obtain ⟨r, hr⟩ : ∃ r, decide (q < m2) = r := ⟨_, rfl⟩
          have HFP : Hid (f P = (truth r, 0)) := by show _ = _; rw [unhide HFK P, ← hx, hq, unhide hl4, hr]
          have hst' := unhide hst
          have hwl := (unhide HWy).size
          have hbdl : bd < wr.heap.size := by omega
          have hgw : w2.heap.size ≤ g := by
            rcases hst'.owns.2 with ⟨hv, _⟩ | ⟨g', cp, cur, hv, hbg, _⟩
            · simp at hv
            · simp at hv; omega
          have HKK : Hid (∀ wx, Below wr.heap.size wr wx → wx.cell? ⟨w3.heap.size + 1, 2, none⟩ = some (.slice (some ⟨g, 0, none⟩) P cap) ∧ wx.frozen? ⟨w3.heap.size + 1, 2, none⟩ = false ∧ wx.cell? ⟨w.heap.size + 1, 0, none⟩ = some (.bool d) ∧ wx.cell? ⟨w.heap.size + 1, 1, none⟩ = some (.slice (some b1) m1 d1) ∧ wx.cell? ⟨w.heap.size + 1, 2, none⟩ = some (.slice (some b2) m2 d2) ∧ wx.cell? ⟨w.heap.size, 2, none⟩ = some (.slice (some ⟨bd, od, none⟩) n2 c2) ∧ wx.cell? ⟨w.heap.size, 0, none⟩ = some (.bool c) ∧ wx.cell? ⟨bd, od + P, none⟩ = some (.int .i64 x)) := fun wx hwx => by
            obtain ⟨b0, b1', b2', _⟩ := (hBb.below (Nat.le_refl _) hwx).all
            obtain ⟨a0, _, a2', _⟩ := (hA.below (Nat.le_refl _) hwx).all
            exact ⟨(hst'.box.below (Nat.le_refl _) hwx).all.2.2.1, (hst'.box.below (Nat.le_refl _) hwx).free _, b0, b1', b2', a2', a0, (hwx.cell (p := ⟨bd, od + P, none⟩) hbdl).trans hc'⟩
          have HCC : Hid (∀ wx, Below wr.heap.size wr wx → Calls Tryz.prog 58 #[.agg #[.bool d, .slice (some b1) m1 d1, .slice (some b2) m2 d2], .int .i64 x, .bool c] wx fun e w' => e = .returned (.int .i64 (q : Nat)) ∧ Below wx.heap.size wx w') := fun wx hwx => by
            rw [← hq]
            exact l6First_any d c _ _ m2 _ dt' x wx (((unhide K2).below (Nat.le_refl _) (unhide HWy)).below (Nat.le_refl _) hwx)
          have HAA : Hid (∀ wx w7, Below wr.heap.size wr wx → (wx.alloc (.cells #[.int .i64 (truth r)] 3)).grownBy w7 (some g) → w7.cell? ⟨w3.heap.size + 1, 2, none⟩ = some (.slice (some ⟨g, 0, none⟩) P cap) ∧ w7.frozen? ⟨w3.heap.size + 1, 2, none⟩ = false ∧ w7.cell? ⟨w.heap.size + 1, 0, none⟩ = some (.bool d) ∧ w7.cell? ⟨w.heap.size + 1, 1, none⟩ = some (.slice (some b1) m1 d1) ∧ w7.cell? ⟨w.heap.size + 1, 2, none⟩ = some (.slice (some b2) m2 d2) ∧ w7.cell? ⟨w.heap.size, 2, none⟩ = some (.slice (some ⟨bd, od, none⟩) n2 c2) ∧ w7.cell? ⟨w.heap.size, 0, none⟩ = some (.bool c) ∧ w7.cell? ⟨bd, od + P, none⟩ = some (.int .i64 x)) := fun wx w7 hwx hg => by
            have ho := owns_below hst'.owns (Nat.le_refl _) hwx
            have q1 := (hst'.box.below (Nat.le_refl _) hwx).grown ho _ hg
            have q2 := (hBb.below (Nat.le_refl _) hwx).grown ho _ hg
            have q3 := (hA.below (Nat.le_refl _) hwx).grown ho _ hg
            exact ⟨q1.all.2.2.1, q1.free _, q2.all.1, q2.all.2.1, q2.all.2.2.1, q3.all.2.2.1, q3.all.1, (mem_cell _ hg (Nat.lt_of_lt_of_le hbdl hwx.size) (by omega)).trans ((hwx.cell (p := ⟨bd, od + P, none⟩) hbdl).trans hc')⟩
          have HR := hide hr
          have HST := hide hst'
          have hbase := hst'.low.size
          clear hx hq hr hst' hc hc'
          obtain ⟨y0, y1, y2, y3, y4, y5, y6⟩ := hA.all
          go_upto_region 7 with fail
          clear y0 y1 y2 y3 y4 y5 y6
          refine regionM _ wr (by simp) (w3.heap.size + 1) w.heap.size (w.heap.size + 1) rfl rfl rfl c d (some b1) (some b2) g P cap bd od n2 c2 m1 d1 m2 d2 rfl ((vals f P).map (Value.int .i64)) x w2.heap.size q r HR.out hlt (by omega) (fun wx => wx.cell? ⟨w3.heap.size + 1, 2, none⟩ = some (.slice (some ⟨g, 0, none⟩) P cap) ∧ wx.frozen? ⟨w3.heap.size + 1, 2, none⟩ = false ∧ wx.cell? ⟨w.heap.size + 1, 0, none⟩ = some (.bool d) ∧ wx.cell? ⟨w.heap.size + 1, 1, none⟩ = some (.slice (some b1) m1 d1) ∧ wx.cell? ⟨w.heap.size + 1, 2, none⟩ = some (.slice (some b2) m2 d2) ∧ wx.cell? ⟨w.heap.size, 2, none⟩ = some (.slice (some ⟨bd, od, none⟩) n2 c2) ∧ wx.cell? ⟨w.heap.size, 0, none⟩ = some (.bool c) ∧ wx.cell? ⟨bd, od + P, none⟩ = some (.int .i64 x)) (fun _ h => h) HKK.out HCC.out HST.out.owns hbase HAA.out (fun _ _ _ _ _ h => h) ?_
          intro wx g' cap' w7 hbx hown7 hgrow hat
          simp only [outM, Act.put, List.setIfInBounds_toArray, List.set_cons_zero, List.set_cons_succ]
          obtain ⟨hb7, hst7⟩ := (HST.out.below hbx).push _ HFP.out hown7 hgrow hat
          clear hb7 hown7 hgrow hat hbx
          go_wp2_with fail
          go_roundw
          case rel => exact ⟨P + 1, g', cap', by omega, by go_num, hst7⟩
          case measure => simp [intOf]; omega
        · have hPB : P = n2 := by omega
          subst hPB
          have HS : Hid (member c d sh dt sh' dt' = ⟨false, sh, vals f P, 0⟩) := (unhide HGO).trans (gather_good (unhide hst).code)
          obtain ⟨ad', cd, hv, hD⟩ := Own.of_owns (unhide hst).owns (by omega)
          cases hv
          obtain ⟨y0, y1, y2, y3, y4, y5, y6⟩ := hA.all
          obtain ⟨z0, z1, z2, z3, z4, z5, z6⟩ := (unhide hst).box.all
          have G6 := hide ((unhide C6).low hz6' (unhide hst).low)
          obtain ⟨q0, q1, q2, q3, q4, q5, q6⟩ := (unhide G6).all
          have HW6 := hide ((unhide hB2).trans ((unhide hst).low.mono hB2z))
          have HO6 := hide (unhide hst).own
          have HD := hide hD
          clear hst hD HGO HFK HWy hA hBb
          go_wp2
          refine bodyPost_ret (v := .tuple #[.agg #[.bool false, .slice ash' n1 csh', .slice (some ⟨g, 0, none⟩) P cap], .int .i64 0]) (by simp [results, Tryz.results15, go_sem, q0, q1, q2]) rfl ?_
          rw [unhide HS]
          refine ⟨ash', n1, csh', some ⟨g, 0, none⟩, P, cap, rfl, ?_, ?_, (((unhide HW6).setCell (by simp <;> omega) _).setCell (by simp <;> omega) _).setCell (by simp <;> omega) _⟩
          · exact (unhide HO6).row.sets (unhide G6) _ _ _
          · exact (unhide HD).row.sets (unhide G6) _ _ _

end Go.Proofs.YtkgcmpmgaghdhaaGreatDoor
namespace Go.Proofs.YtkgcmpmgaghdhaaGreatDoor

theorem vals_set (f : Nat → Int × Int) (m k : Nat) : (vals f k ++ List.replicate (m + 1) (0 : Int)).set k (f k).1 = vals f (k + 1) ++ List.replicate m 0 := by
  have hk : (vals f k).length = k := vals_len f k
  rw [List.replicate_succ, List.set_append_right _ _ (by omega), hk, Nat.sub_self, List.set_cons_zero]
  simp [vals, List.range_succ]

theorem vals_pre_len (f : Nat → Int × Int) (n k : Nat) (h : k ≤ n) : (vals f k ++ List.replicate (n - k) (0 : Int)).length = n := by
  simp [vals_len]; omega

end Go.Proofs.YtkgcmpmgaghdhaaGreatDoor
namespace Go.Proofs.YtkgcmpmgaghdhaaGreatDoor
open Go.RowKit

/-- The two sentinels lie as their initialisers lay them: errNoResult points to a, errTooGreat to b. -/
structure Gl (w : World) (a b : Addr) : Prop where
  no : w.cell? ⟨2, 0, none⟩ = some (.iface 175 (.pointer (some a)))
  big : w.cell? ⟨1, 0, none⟩ = some (.iface 175 (.pointer (some b)))
  ne : a ≠ b
  rowA : ∃ ca ta, w.heap[a.block]? = some (.cells ca ta (0, 0))
  rowB : ∃ cb tb, w.heap[b.block]? = some (.cells cb tb (0, 0))

theorem Gl.below {w w' : World} {a b : Addr} (h : Gl w a b) (hb : Below w.heap.size w w') : Gl w' a b := by
  obtain ⟨h1, h2, h3, ⟨ca, ta, h4⟩, ⟨cb, tb, h5⟩⟩ := h
  exact ⟨(hb.cell (p := ⟨2, 0, none⟩) (World.block_lt_of_cell? _ _ h1)).trans h1, (hb.cell (p := ⟨1, 0, none⟩) (World.block_lt_of_cell? _ _ h2)).trans h2, h3,
    ⟨ca, ta, (hb.block _ (lt_of_block h4)).trans h4⟩, ⟨cb, tb, (hb.block _ (lt_of_block h5)).trans h5⟩⟩

theorem Gl.alloc {w : World} {a b : Addr} (h : Gl w a b) (o : Obj) : Gl (w.alloc o) a b := h.below ((Below.refl _ _).alloc (Nat.le_refl _) _)
theorem Gl.drewN {w : World} {a b : Addr} (h : Gl w a b) (q : Nat) : Gl (w.drewN q) a b := h.below (Below.drewN (Below.refl _ _) _)

/-- What an axis of no elements gives for the ops 1 to 16. -/
def emptyTab : List Int := [0, 0, 1, 1, 1000000000000000, -1000000000000000, 0, 1, 1, 0, 0, 1, 1, 0, 1, 0]

/-- The sentinels and the table emptyFolds lie as laid. -/
structure GlF (w : World) (a b : Addr) : Prop where
  gl : Gl w a b
  tab : ∀ i, i < 16 → w.cell? ⟨0, i, none⟩ = some (.int .i64 (emptyTab.getD i 0))

theorem GlF.below {w w' : World} {a b : Addr} (h : GlF w a b) (hb : Below w.heap.size w w') : GlF w' a b :=
  ⟨h.gl.below hb, fun i hi => (hb.cell (p := ⟨0, i, none⟩) (World.block_lt_of_cell? _ _ (h.tab i hi))).trans (h.tab i hi)⟩
theorem GlF.alloc {w : World} {a b : Addr} (h : GlF w a b) (o : Obj) : GlF (w.alloc o) a b := h.below ((Below.refl _ _).alloc (Nat.le_refl _) _)

/-- What an element's function gives for a code: nil, errTooGreat or errNoResult. -/
def errV (a b : Addr) (code : Int) : Value := if code = 0 then .nilIface else if code = 7 then .iface 175 (.pointer (some b)) else .iface 175 (.pointer (some a))

theorem errV_0 (a b : Addr) : errV a b 0 = .nilIface := rfl
theorem errV_7 (a b : Addr) : errV a b 7 = .iface 175 (.pointer (some b)) := rfl
theorem errV_3 (a b : Addr) : errV a b 3 = .iface 175 (.pointer (some a)) := rfl

/-- The codes that elements can have. -/
def codeIn (code : Int) : Prop := code = 0 ∨ code = 3 ∨ code = 7

end Go.Proofs.YtkgcmpmgaghdhaaGreatDoor
namespace Go.Proofs.YtkgcmpmgaghdhaaGreatDoor
open Go.RowKit Go.Extern.Stop Go.Stop Go.Extern

theorem is_typeOf (v : Value) (w : World) : (Extern.ReflectliteType.typeOf #[.iface 175 v]).run Tryz.prog w = .ok (.iface 165 (.agg #[.pointer (some ⟨3, 175, none⟩)])) w := by kernel_rfl
/-- The model's entry for (rtype).Comparable, under a name of its own. -/
def cmpEntry : Array Value → Sem Value := Extern.ReflectliteType.method fun t => do Extern.Rtype.noPackHeld "Comparable" t; pure (.bool (← typeInfo t).comparable)
theorem is_comparable (w : World) : (cmpEntry #[.agg #[.pointer (some ⟨3, 175, none⟩)]]).run Tryz.prog w = .ok (.bool true) w := by kernel_rfl
theorem is_methodComparable (v : Value) (w : World) : (Go.method 311 165 v "Comparable").run Tryz.prog w = .ok (198, v) w := by kernel_rfl
theorem is_comp : (Tryz.prog.info? 175).map (·.comparable) = some true := by kernel_rfl
theorem is_size : (Tryz.prog.info? 199).map (·.size) = some 1 := by kernel_rfl
theorem is_noIs (v : Value) (xT : TypeId) (w : World) : (Instr.typeAssert (.iface 175 v) xT 167 true).run Tryz.prog w = .ok (.tuple #[.nilIface, .bool false]) w := run_typeAssert_lacksB Tryz.underlying167 (by kernel_rfl) (by kernel_rfl) v xT w
theorem is_noUnwrap (v : Value) (xT : TypeId) (w : World) : (Instr.typeAssert (.iface 175 v) xT 170 true).run Tryz.prog w = .ok (.tuple #[.nilIface, .bool false]) w := run_typeAssert_lacksB Tryz.underlying170 (by kernel_rfl) (by kernel_rfl) v xT w
theorem is_noUnwraps (v : Value) (xT : TypeId) (w : World) : (Instr.typeAssert (.iface 175 v) xT 172 true).run Tryz.prog w = .ok (.tuple #[.nilIface, .bool false]) w := run_typeAssert_lacksB Tryz.underlying172 (by kernel_rfl) (by kernel_rfl) v xT w

/-- errors.Is(x, x), x a pointer to an errors.errorString. -/
theorem is_same (a : Addr) (w : World) :
    Calls Tryz.prog 160 #[.iface 175 (.pointer (some a)), .iface 175 (.pointer (some a))] w fun e w' => e = .returned (.bool true) ∧ w' = w := by
  obtain ⟨i, hi, hcmp⟩ := Option.map_eq_some_iff.1 is_comp
  obtain ⟨j, hj, hjs⟩ := Option.map_eq_some_iff.1 is_size
  have h8 := @run_callFunc_extern Tryz.prog 175 _ Extern.ReflectliteType.typeOf Tryz.func175 (by kernel_rfl) (by kernel_rfl) (by kernel_rfl) (by kernel_rfl)
  have h32 := @run_callFunc_extern Tryz.prog 198 _ cmpEntry Tryz.func198 (by kernel_rfl) (by kernel_rfl) (by kernel_rfl) (by kernel_rfl)
  have tT := is_typeOf
  have cT := is_comparable
  have mR := is_methodComparable
  have heq := run_eql_iface_ptr_same (P := Tryz.prog) w a Tryz.underlying92 Tryz.underlying175 hi hcmp hj
  go_enter Tryz.func160, Tryz.ntmps160
  go_wp2
  refine wp_loop_rounds 1 ?_
  rw [rounds_succ]
  go_wp2
  go_ret
  exact ⟨rfl, rfl⟩

/-- errors.Is(x, y), two different pointers to errors.errorString. -/
theorem is_other (a b : Addr) (ca cb : Array Value) (ta tb : TypeId) (w : World) (hne : a ≠ b) (ha : w.heap[a.block]? = some (.cells ca ta (0, 0))) (hb : w.heap[b.block]? = some (.cells cb tb (0, 0))) :
    Calls Tryz.prog 160 #[.iface 175 (.pointer (some a)), .iface 175 (.pointer (some b))] w fun e w' => e = .returned (.bool false) ∧ w' = w := by
  obtain ⟨i, hi, hcmp⟩ := Option.map_eq_some_iff.1 is_comp
  obtain ⟨j, hj, hjs⟩ := Option.map_eq_some_iff.1 is_size
  have h8 := @run_callFunc_extern Tryz.prog 175 _ Extern.ReflectliteType.typeOf Tryz.func175 (by kernel_rfl) (by kernel_rfl) (by kernel_rfl) (by kernel_rfl)
  have h32 := @run_callFunc_extern Tryz.prog 198 _ cmpEntry Tryz.func198 (by kernel_rfl) (by kernel_rfl) (by kernel_rfl) (by kernel_rfl)
  have tT := is_typeOf
  have cT := is_comparable
  have mR := is_methodComparable
  have nE := is_noIs
  have uE := is_noUnwrap
  have vE := is_noUnwraps
  have heq := run_eql_iface_ptr_other (P := Tryz.prog) w Tryz.underlying92 Tryz.underlying175 hi hcmp hj (by rw [hjs]; decide) hne ha hb
  go_enter Tryz.func160, Tryz.ntmps160
  go_wp2
  refine wp_loop_rounds 1 ?_
  rw [rounds_succ]
  go_wp2
  go_ret
  exact ⟨rfl, rfl⟩

set_option maxHeartbeats 400000 in
theorem codeOf_big (a b : Addr) (w : World) (hG : Gl w a b) : Calls Tryz.prog 119 #[errV a b 7] w fun e w' => e = .returned (.int .i64 7) ∧ w' = w := by
  have hc := hG.big
  rw [errV_7]
  go_enter Tryz.func119, Tryz.ntmps119
  go_wp2_with (go_at_call 160; refine (is_same b _).mono ?_; rintro e w' ⟨rfl, rfl⟩)
  go_ret
  exact ⟨rfl, rfl⟩

set_option maxHeartbeats 400000 in
theorem codeOf_no (a b : Addr) (w : World) (hG : Gl w a b) : Calls Tryz.prog 119 #[errV a b 3] w fun e w' => e = .returned (.int .i64 3) ∧ w' = w := by
  have hc := hG.big
  obtain ⟨ca, ta, h4⟩ := hG.rowA
  obtain ⟨cb, tb, h5⟩ := hG.rowB
  have HN := hide hG.ne
  have H4 := hide h4
  have H5 := hide h5
  clear h4 h5 hG
  rw [errV_3]
  go_enter Tryz.func119, Tryz.ntmps119
  go_wp2_with (go_at_call 160; refine (is_other a b _ _ _ _ _ (unhide HN) (unhide H4) (unhide H5)).mono ?_; rintro e w' ⟨rfl, rfl⟩)
  go_ret
  exact ⟨rfl, rfl⟩

theorem codeOf_any (a b : Addr) (code : Int) (w : World) (hG : Gl w a b) (hc : codeIn code) (h0 : code ≠ 0) : Calls Tryz.prog 119 #[errV a b code] w fun e w' => e = .returned (.int .i64 code) ∧ w' = w := by
  rcases hc with h | rfl | rfl
  · exact absurd h h0
  · exact codeOf_no a b w hG
  · exact codeOf_big a b w hG

end Go.Proofs.YtkgcmpmgaghdhaaGreatDoor
namespace Go.Proofs.YtkgcmpmgaghdhaaGreatDoor
open Go.RowKit Go.Shelf

/-- The function value (g, lb) gives at each place below n what f says, in whatever world holds what lay in w. -/
def ElemOk (a b : Addr) (g : Nat) (lb : Array Value) (f : Nat → Int × Int) (n : Nat) (w : World) : Prop :=
  ∀ k, k < n → ∀ W, Below w.heap.size w W → Calls Tryz.prog g (#[.int .i64 (k : Nat)] ++ lb) W fun e w' => e = .returned (.tuple #[.int .i64 (f k).1, errV a b (f k).2]) ∧ Below W.heap.size W w'

theorem ElemOk.low {a b : Addr} {g : Nat} {lb : Array Value} {f : Nat → Int × Int} {n : Nat} {w w1 : World} (h : ElemOk a b g lb f n w) (hb : Below w.heap.size w w1) : ElemOk a b g lb f n w1 :=
  fun k hk W hW => h k hk W (hb.trans (hW.mono hb.size))

theorem neq_nil_nil (w : World) : (binOp .neq 92 .nilIface .nilIface).run Tryz.prog w = .ok (.bool false) w := by kernel_rfl

set_option maxHeartbeats 2000000 in
theorem listOf_any (a b : Addr) (g : Nat) (lb : Array Value) (eg : ∀ args w, (callFunc g args).run Tryz.prog w = .ok (.enter g args) w) (f : Nat → Int × Int) (n : Nat) (w : World) (hn : n ≤ 17592186044416) (hf : ∀ k, k < n → codeIn (f k).2) (hE : ElemOk a b g lb f n w) :
    Calls Tryz.prog 98 #[.int .i64 (n : Nat), .func (.func g) #[] lb] w fun e w' =>
      ((firstCode f n = 0 ∧ e = .returned (.tuple #[.slice (some ⟨w.heap.size, 0, none⟩) n n, .nilIface]) ∧ Blk w' w.heap.size (vals f n)) ∨ (firstCode f n ≠ 0 ∧ codeIn (firstCode f n) ∧ e = .returned (.tuple #[.slice none 0 0, errV a b (firstCode f n)]))) ∧ Below w.heap.size w w' := by
  have HE := hide hE
  have HF := hide hf
  clear hE hf
  obtain ⟨i0, hi, hz0, hz1, hz2⟩ := info_parts info_int
  go_enter Tryz.func98, Tryz.ntmps98
  go_wp2_with (at_make; refine wpList_make_full _ rfl _ _ 23 rfl w.heap.size 3 i0 (.int .i64 0) 1 Tryz.underlying23 hi hz0 hz1 _ _ _ _ n rfl rfl rfl rfl (by rw [hz2]; omega) (by unfold maxLen; omega) (Nat.le_refl _) ?_; intro w1 hown hgrow)
  have hblk : Blk w1 w.heap.size (vals f 0 ++ List.replicate (n - 0) 0) := Blk.of_owns (n := n) (base := w.heap.size) (by simpa [toList_madeCells_one, Value.cells, vals] using hown)
  have hbel : Below w.heap.size w w1 := (Below.refl _ _).grown hgrow (Nat.le_refl _) (by simp)
  clear hown hgrow hi hz0 hz1 hz2
  have HBK := hide hblk
  have HBL := hide hbel
  clear hblk hbel
  go_wp2
  go_loopw [7, 8, 9, 14] (fun _ _ _ i wr => ∃ k : Nat, k ≤ n ∧ i = .int .i64 k ∧ Hid (Blk wr w.heap.size (vals f k ++ List.replicate (n - k) 0)) ∧ Hid (Below w.heap.size w wr) ∧ Hid (firstCode f k = 0)) (fun _ _ _ i _ => n - (intOf i).toNat)
  case atStart => exact ⟨0, Nat.zero_le _, rfl, HBK, HBL, rfl⟩
  case round =>
    obtain ⟨k, hk, rfl, hb, hbl, hfc⟩ := hrel
    clear HBK HBL w1
    by_cases hlt : k < n
    · obtain ⟨r, hr⟩ : ∃ r, r = f k := ⟨_, rfl⟩
      obtain ⟨r1, r2⟩ := r
      have hcall := unhide HE k hlt wr (unhide hbl)
      rw [← hr] at hcall
      have hcode := unhide HF k hlt
      rw [← hr] at hcode
      have HR := hide hr
      clear hr
      by_cases h0 : r2 = 0
      · subst h0
        clear hcode
        rw [errV_0] at hcall
        have hnn := neq_nil_nil
        go_wp2_with (go_at_fn g; refine hcall.mono ?_; rintro e w2 ⟨rfl, hb2⟩; have HB := hide ((unhide hb).below (Nat.le_refl _) hb2); have HL := hide ((unhide hbl).trans (hb2.mono (unhide hbl).size)); have hc2 := (unhide HB).cell (i := k) (by simp [vals_len]; omega); have hf2 := (unhide HB).free k; clear hb2)
        have HS : Hid (Blk (w2.setCell ⟨w.heap.size, k, none⟩ (.int .i64 r1)) w.heap.size (vals f (k + 1) ++ List.replicate (n - (k + 1)) 0)) := by
          have hs := (unhide HB).set k r1
          have e : n - k = n - (k + 1) + 1 := by omega
          have e1 : r1 = (f k).1 := by rw [← unhide HR]
          rw [e] at hs
          rw [e1] at hs ⊢
          rw [vals_set] at hs
          exact hs
        go_roundw
        case rel => exact ⟨k + 1, by omega, by go_num, HS, (unhide HL).setCell (Nat.le_refl _) _, code_step (unhide hfc) (by rw [← unhide HR])⟩
        case measure => simp [intOf]; omega
      · have HC : Hid (firstCode f n = r2) := by
          show _ = _
          have e2 : (f k).2 = r2 := by rw [← unhide HR]
          rw [code_found (unhide hfc) hlt (by rw [e2]; exact h0), e2]
        have HI := hide hcode
        have HZ := hide h0
        have hrv : ∃ p, errV a b r2 = .iface 175 (.pointer (some p)) := by
          rcases hcode with h | rfl | rfl
          · exact absurd h h0
          · exact ⟨a, rfl⟩
          · exact ⟨b, rfl⟩
        obtain ⟨p, hp⟩ := hrv
        rw [hp] at hcall
        have HP := hide hp
        clear hcode h0 hp
        go_wp2_with (go_at_fn g; refine hcall.mono ?_; rintro e w2 ⟨rfl, hb2⟩; have HL := hide ((unhide hbl).trans (hb2.mono (unhide hbl).size)); clear hb2)
        go_ret2
        refine ⟨.inr ⟨by rw [unhide HC]; exact unhide HZ, by rw [unhide HC]; exact unhide HI, ?_⟩, unhide HL⟩
        rw [unhide HC, unhide HP]
        rfl
    · have hkn : k = n := by omega
      subst hkn
      go_wp2
      go_ret2
      exact ⟨.inl ⟨unhide hfc, rfl, by simpa using unhide hb⟩, unhide hbl⟩

end Go.Proofs.YtkgcmpmgaghdhaaGreatDoor
namespace Go.Proofs.YtkgcmpmgaghdhaaGreatDoor
open Go.RowKit Go.Shelf

/-- What reckoned answers: the shape that it was given and new elements, or nothing and the first code. -/
def Reck (w : World) (f : Nat → Int × Int) (n : Nat) (a1 : Option Addr) (n1 c1 : Nat) (e : Ending) (w' : World) : Prop :=
  ((firstCode f n = 0 ∧ ∃ p, w.heap.size ≤ p ∧ e = .returned (.tuple #[.agg #[.bool false, .slice a1 n1 c1, .slice (some ⟨p, 0, none⟩) n n], .int .i64 0]) ∧ Blk w' p (vals f n))
    ∨ (firstCode f n ≠ 0 ∧ e = .returned (.tuple #[.agg #[.bool false, .slice none 0 0, .slice none 0 0], .int .i64 (firstCode f n)]))) ∧ Below w.heap.size w w'

set_option maxHeartbeats 1000000 in
theorem reckoned_any (a b : Addr) (g : Nat) (lb : Array Value) (eg : ∀ args w, (callFunc g args).run Tryz.prog w = .ok (.enter g args) w) (f : Nat → Int × Int) (n : Nat) (a1 : Option Addr) (n1 c1 : Nat) (sh : List Int) (w : World) (h1 : Row w a1 n1 sh) (hsh : shapeB sh = true) (hc : countOf sh = (n : Int))
    (hG : Gl w a b) (hf : ∀ k, k < n → codeIn (f k).2) (hE : ElemOk a b g lb f n w) :
    Calls Tryz.prog 52 #[.slice a1 n1 c1, .func (.func g) #[] lb] w (Reck w f n a1 n1 c1) := by
  have hn : n ≤ 17592186044416 := by
    have := (prodAll_bd sh hsh sh.length).2
    rw [List.take_length, prodAll_count sh hsh, hc] at this
    omega
  have HE : Hid (∀ o, ElemOk a b g lb f n (w.alloc o)) := fun o => hE.low ((Below.refl _ _).alloc (Nat.le_refl _) _)
  have HF := hide hf
  have H1 := hide h1
  have HS := hide hsh
  have HC := hide hc
  have HG := hide hG
  clear hE hf h1 hsh hc hG
  have HW : Hid (∀ o, Below w.heap.size w (w.alloc o)) := fun o => (Below.refl _ _).alloc (Nat.le_refl _) _
  by_cases h0 : firstCode f n = 0
  · have HZ := hide h0
    clear h0
    go_enter Tryz.func52, Tryz.ntmps52
    go_wp2_with (first
      | (go_at_call 51; refine (cellsOf_count _ _ _ sh _ ((unhide H1).alloc _) (unhide HS) _ HC).mono ?_; rintro e w1 ⟨rfl, rfl⟩)
      | (go_at_call 98; refine (listOf_any a b g lb eg f n _ hn (unhide HF) (unhide HE _)).mono ?_; rintro e w2 ⟨hr, hb2⟩; obtain ⟨_, rfl, hblk⟩ | ⟨hne, _⟩ := hr; rotate_left; exact absurd (unhide HZ) hne; have hB := Box.below (Box.new w false (.slice none 0 0) (.slice none 0 0)) (Nat.le_refl _) hb2; obtain ⟨q0, q1, q2, q3, q4, q5, q6⟩ := hB.all; have HK := hide hblk; have HL := hide ((unhide HW _).trans (hb2.mono (by simp))); clear hblk hb2 hB))
    refine bodyPost_ret (v := .tuple #[.agg #[.bool false, .slice a1 n1 c1, .slice (some ⟨w.heap.size + 1, 0, none⟩) n n], .int .i64 0]) (by simp [results, Tryz.results52, go_sem, q0, q1, q2]) rfl ?_
    refine ⟨.inl ⟨unhide HZ, w.heap.size + 1, by omega, rfl, ?_⟩, (((unhide HL).setCell (Nat.le_refl _) _).setCell (Nat.le_refl _) _).setCell (Nat.le_refl _) _⟩
    have hk : Blk w2 (w.heap.size + 1) (vals f n) := by simpa using unhide HK
    exact ((hk.other (by simp) _).other (by simp) _).other (by simp) _
  · have HZ := hide h0
    clear h0
    go_enter Tryz.func52, Tryz.ntmps52
    go_wp2_with (first
      | (go_at_call 51; refine (cellsOf_count _ _ _ sh _ ((unhide H1).alloc _) (unhide HS) _ HC).mono ?_; rintro e w1 ⟨rfl, rfl⟩)
      | (go_at_call 98; refine (listOf_any a b g lb eg f n _ hn (unhide HF) (unhide HE _)).mono ?_; rintro e w2 ⟨hr, hb2⟩; obtain ⟨hne, _⟩ | ⟨_, hci, rfl⟩ := hr; exact absurd hne (unhide HZ); have hB := Box.below (Box.new w false (.slice none 0 0) (.slice none 0 0)) (Nat.le_refl _) hb2; obtain ⟨q0, q1, q2, q3, q4, q5, q6⟩ := hB.all; have HI := hide hci; have HL := hide ((unhide HW _).trans (hb2.mono (by simp))); clear hb2 hB hci; obtain ⟨c, hcc⟩ : ∃ c, c = firstCode f n := ⟨_, rfl⟩; rw [← hcc]; have HCC := hide hcc; clear hcc; obtain ⟨ev, hev⟩ : ∃ ev, ev = errV a b c := ⟨_, rfl⟩; rw [← hev]; have hev2 : ∃ p, ev = .iface 175 (.pointer (some p)) := (by rw [hev, unhide HCC]; rcases unhide HI with h | h | h; exact absurd h (unhide HZ); exact ⟨a, by rw [h]; rfl⟩; exact ⟨b, by rw [h]; rfl⟩); have HEV := hide hev; clear hev; obtain ⟨p, rfl⟩ := hev2)
      | (go_at_call 119; rw [unhide HEV]; refine (codeOf_any a b c _ ((unhide HG).below (unhide HL)) (by rw [unhide HCC]; exact unhide HI) (by rw [unhide HCC]; exact unhide HZ)).mono ?_; rintro e w3 ⟨rfl, rfl⟩))
    refine bodyPost_ret (v := .tuple #[.agg #[.bool false, .slice none 0 0, .slice none 0 0], .int .i64 c]) (by simp [results, Tryz.results52, go_sem, q0, q1, q2]) rfl ?_
    exact ⟨.inr ⟨unhide HZ, by rw [← unhide HCC]⟩, (((unhide HL).setCell (Nat.le_refl _) _).setCell (Nat.le_refl _) _).setCell (Nat.le_refl _) _⟩

end Go.Proofs.YtkgcmpmgaghdhaaGreatDoor
namespace Go.Proofs.YtkgcmpmgaghdhaaGreatDoor
open Go.RowKit Go.Shelf

set_option maxHeartbeats 400000 in
theorem isTruth_eq (v : Int) (w : World) (r : Bool) (h : Hid (withinB v 0 1 = r)) : Calls Tryz.prog 174 #[.int .i64 v] w fun e w' => e = .returned (.bool r) ∧ w' = w := by
  go_enter Tryz.func174, Tryz.ntmps174
  go_wp2_with (go_at_call 115; refine (isWithin_eq _ _ _ _ r h).mono ?_; rintro e w' ⟨rfl, rfl⟩)
  go_ret
  exact ⟨rfl, rfl⟩

set_option maxHeartbeats 400000 in
theorem magnitude_any (v : Int) (w : World) (hv : -1000000000000000 ≤ v ∧ v ≤ 1000000000000000) : Calls Tryz.prog 171 #[.int .i64 v] w fun e w' => e = .returned (.int .i64 (if v < 0 then -v else v)) ∧ w' = w := by
  obtain ⟨h1, h2⟩ := hv
  by_cases h : v < 0
  · rw [if_pos h]
    go_enter Tryz.func171, Tryz.ntmps171
    go_wp2
    go_ret
    exact ⟨rfl, rfl⟩
  · rw [if_neg h]
    go_enter Tryz.func171, Tryz.ntmps171
    go_wp2
    go_ret
    exact ⟨rfl, rfl⟩

theorem ret_el {a b : Addr} {r : Int × Int} {x c : Int} (h : r = (x, c)) : Ending.returned (.tuple #[.int .i64 x, errV a b c]) = Ending.returned (.tuple #[.int .i64 r.1, errV a b r.2]) := by rw [h]

end Go.Proofs.YtkgcmpmgaghdhaaGreatDoor
namespace Go.Proofs.YtkgcmpmgaghdhaaGreatDoor
open Go.RowKit

set_option maxHeartbeats 1000000 in
theorem l4Mod_any (a b : Int) (w : World) (ha : -1000000000000000 ≤ a ∧ a ≤ 1000000000000000) (hb : -1000000000000000 ≤ b ∧ b ≤ 1000000000000000) : Calls Tryz.prog 166 #[.int .i64 a, .int .i64 b] w fun e w' => e = .returned (.int .i64 (modOf a b)) ∧ w' = w := by
  obtain ⟨ha1, ha2⟩ := ha
  obtain ⟨hb1, hb2⟩ := hb
  by_cases h0 : a = 0
  · subst h0
    have HE : Hid (modOf 0 b = b) := rfl
    go_enter Tryz.func166, Tryz.ntmps166
    go_wp2
    go_ret
    exact ⟨ret_int HE.out.symm, rfl⟩
  have q0 : (a == 0) = false := by simp [h0]
  have hm : -1000000000000000 ≤ b.tmod a ∧ b.tmod a ≤ 1000000000000000 := by
    have := Int.natAbs_tmod b a
    have h3 : b.natAbs % a.natAbs ≤ b.natAbs := Nat.mod_le _ _
    omega
  obtain ⟨m, hm0⟩ : ∃ m, b.tmod a = m := ⟨_, rfl⟩
  rw [hm0] at hm
  obtain ⟨hm1, hm2⟩ := hm
  by_cases hz : m = 0
  · subst hz
    have HE : Hid (modOf a b = 0) := by show _ = _; unfold modOf; rw [if_neg h0, hm0]; simp
    go_enter Tryz.func166, Tryz.ntmps166
    go_wp2
    go_ret
    exact ⟨ret_int HE.out.symm, rfl⟩
  have q1 : (m != 0) = true := by simp [hz]
  by_cases hs : m < 0
  · by_cases ht : a < 0
    · have HE : Hid (modOf a b = m) := by show _ = _; unfold modOf; rw [if_neg h0, hm0]; simp [hs, ht]
      clear hz
      go_enter Tryz.func166, Tryz.ntmps166
      go_wp2
      go_ret
      exact ⟨ret_int HE.out.symm, rfl⟩
    · have HE : Hid (modOf a b = m + a) := by show _ = _; unfold modOf; rw [if_neg h0, hm0]; simp [hs, ht, hz]
      clear hz
      go_enter Tryz.func166, Tryz.ntmps166
      go_wp2
      go_ret
      exact ⟨ret_int HE.out.symm, rfl⟩
  · by_cases ht : a < 0
    · have HE : Hid (modOf a b = m + a) := by show _ = _; unfold modOf; rw [if_neg h0, hm0]; simp [hs, ht, hz]
      clear hz
      go_enter Tryz.func166, Tryz.ntmps166
      go_wp2
      go_ret
      exact ⟨ret_int HE.out.symm, rfl⟩
    · have HE : Hid (modOf a b = m) := by show _ = _; unfold modOf; rw [if_neg h0, hm0]; simp [hs, ht]
      clear hz
      go_enter Tryz.func166, Tryz.ntmps166
      go_wp2
      go_ret
      exact ⟨ret_int HE.out.symm, rfl⟩

end Go.Proofs.YtkgcmpmgaghdhaaGreatDoor
namespace Go.Proofs.YtkgcmpmgaghdhaaGreatDoor
open Go.RowKit

set_option maxHeartbeats 400000 in
theorem truth_call (b : Bool) (w : World) : Calls Tryz.prog 57 #[.bool b] w fun e w' => e = .returned (.int .i64 (truth b)) ∧ w' = w := by
  cases b
  all_goals
    go_enter Tryz.func57, Tryz.ntmps57
    go_wp2
    go_ret
    exact ⟨rfl, rfl⟩

set_option maxHeartbeats 400000 in
theorem l4In_any (v : Int) (w : World) : Calls Tryz.prog 169 #[.int .i64 v] w fun e w' => e = .returned (.bool (inM v)) ∧ w' = w := by
  by_cases h1 : v ≤ 1000000000000000
  · by_cases h2 : -1000000000000000 ≤ v
    · have HE : Hid (inM v = true) := inM_of h2 h1
      go_enter Tryz.func169, Tryz.ntmps169
      go_wp2
      go_ret
      exact ⟨ret_bool HE.out.symm, rfl⟩
    · have HE : Hid (inM v = false) := inM_not (by omega)
      go_enter Tryz.func169, Tryz.ntmps169
      go_wp2
      go_ret
      exact ⟨ret_bool HE.out.symm, rfl⟩
  · have HE : Hid (inM v = false) := inM_not (by omega)
    go_enter Tryz.func169, Tryz.ntmps169
    go_wp2
    go_ret
    exact ⟨ret_bool HE.out.symm, rfl⟩

theorem prod_sign {a b x y : Int} (hx : x = a ∨ x = -a) (hy : y = b ∨ y = -b) : x * y = a * b ∨ x * y = -(a * b) := by
  rcases hx with rfl | rfl <;> rcases hy with rfl | rfl <;> simp [Int.neg_mul, Int.mul_neg]

set_option maxHeartbeats 2000000 in
theorem l4Times_any (a b : Int) (w : World) (ha : -1000000000000000 ≤ a ∧ a ≤ 1000000000000000) (hb : -1000000000000000 ≤ b ∧ b ≤ 1000000000000000) : Calls Tryz.prog 165 #[.int .i64 a, .int .i64 b] w fun e w' => e = .returned (.tuple #[.int .i64 (timesOf a b).1, .bool (timesOf a b).2]) ∧ w' = w := by
  obtain ⟨ha1, ha2⟩ := ha
  obtain ⟨hb1, hb2⟩ := hb
  by_cases h0 : a = 0
  · subst h0
    have HE : Hid (timesOf 0 b = (0, true)) := by show _ = _; simp [timesOf, inM]
    go_enter Tryz.func165, Tryz.ntmps165
    go_wp2
    go_ret2
    exact ⟨ret_ib (by rw [unhide HE]) (by rw [unhide HE]), rfl⟩
  by_cases h1 : b = 0
  · subst h1
    have HE : Hid (timesOf a 0 = (0, true)) := by show _ = _; simp [timesOf, inM]
    have q0 : (a == 0) = false := by simp [h0]
    clear h0
    go_enter Tryz.func165, Tryz.ntmps165
    go_wp2
    go_ret2
    exact ⟨ret_ib (by rw [unhide HE]) (by rw [unhide HE]), rfl⟩
  have q0 : (a == 0) = false := by simp [h0]
  have q1 : (b == 0) = false := by simp [h1]
  obtain ⟨x, hx⟩ : ∃ x, (if a < 0 then -a else a) = x := ⟨_, rfl⟩
  obtain ⟨y, hy⟩ : ∃ y, (if b < 0 then -b else b) = y := ⟨_, rfl⟩
  have hy0 : 0 < y := by rw [← hy]; split <;> omega
  have hyn : ¬ y = 0 := by omega
  have hxy : x * y = a * b ∨ x * y = -(a * b) := prod_sign (by rw [← hx]; split <;> simp) (by rw [← hy]; split <;> simp)
  have hp0 : 0 ≤ x * y := Int.mul_nonneg (by rw [← hx]; split <;> omega) (by omega)
  have hq : (1000000000000000 : Int).tdiv y < x ↔ 1000000000000000 < x * y := tdiv_lt hy0
  obtain ⟨t, ht⟩ : ∃ t, (1000000000000000 : Int).tdiv y = t := ⟨_, rfl⟩
  have htb : 0 ≤ t ∧ t ≤ 1000000000000000 := by
    rw [← ht, Int.tdiv_eq_ediv_of_nonneg (by omega)]
    exact ⟨Int.ediv_nonneg (by omega) (by omega), Int.ediv_le_self _ (by omega)⟩
  obtain ⟨ht1, ht2⟩ := htb
  rw [ht] at hq
  obtain ⟨pr, hpr⟩ : ∃ pr, a * b = pr := ⟨_, rfl⟩
  rw [hpr] at hxy
  by_cases hbig : t < x
  · have HE : Hid (timesOf a b = (0, false)) := times_big (by rw [hpr]; exact inM_not (by have := hq.mp hbig; omega))
    clear hq hxy hp0 h0 h1
    by_cases hs : a < 0
    all_goals by_cases hu : b < 0
    all_goals
      simp only [hs, hu, if_true, if_false] at hx hy
      subst hx hy
      go_enter Tryz.func165, Tryz.ntmps165
      go_wp2
      go_ret2
      exact ⟨ret_ib (by rw [unhide HE]) (by rw [unhide HE]), rfl⟩
  · have hle : x * y ≤ 1000000000000000 := by
      by_cases h' : 1000000000000000 < x * y
      · exact absurd (hq.mpr h') hbig
      · omega
    have hpb1 : -1000000000000000 ≤ pr := by omega
    have hpb2 : pr ≤ 1000000000000000 := by omega
    have HE : Hid (timesOf a b = (pr, true)) := by show _ = _; rw [times_ok (by rw [hpr]; exact inM_of hpb1 hpb2), hpr]
    clear hq hxy hp0 hle h0 h1
    by_cases hs : a < 0
    all_goals by_cases hu : b < 0
    all_goals
      simp only [hs, hu, if_true, if_false] at hx hy
      subst hx hy
      go_enter Tryz.func165, Tryz.ntmps165
      go_wp2
      go_ret2
      exact ⟨ret_ib (by rw [unhide HE]) (by rw [unhide HE]), rfl⟩

theorem l4Times_eq (a b : Int) (w : World) (ha : -1000000000000000 ≤ a ∧ a ≤ 1000000000000000) (hb : -1000000000000000 ≤ b ∧ b ≤ 1000000000000000) (r1 : Int) (r2 : Bool) (hr : Hid (timesOf a b = (r1, r2))) : Calls Tryz.prog 165 #[.int .i64 a, .int .i64 b] w fun e w' => e = .returned (.tuple #[.int .i64 r1, .bool r2]) ∧ w' = w := by
  have := l4Times_any a b w ha hb
  rw [unhide hr] at this
  exact this

end Go.Proofs.YtkgcmpmgaghdhaaGreatDoor
