import Derived.Test.YtgjpchnkodnieaaGreatDoorZv02
import Derived.Test.YtgjpchnkodnieaaGreatDoorZv07
import Derived.Test.YtgjpchnkodnieaaGreatDoorZv01
import Derived.BigQuiet
import Derived.Deep.DeepCutAuto
import Derived.Shelf.Abstract
import Derived.WalkKit
import Derived.Test.YtgjpchnkodnieaaGreatDoorZv03
import Derived.Test.YtgjpchnkodnieaaGreatDoorZv05
import Derived.Test.YtgjpchnkodnieaaGreatDoorZv04
import Derived.Test.YtgjpchnkodnieaaGreatDoorZv00
import Derived.Deep.AppendLies
namespace Go.Proofs.YtgjpchnkodnieaaGreatDoor
open Go.RowKit
theorem But.drewN {S : Nat → Prop} {w w' : World} (h : But S w w') (q : Nat) : But S w (w'.drewN q) := ⟨h.os, h.tape, h.output, h.size, h.block⟩
set_option maxRecDepth 20000 in
set_option maxHeartbeats 2000000 in
theorem advance_any (g : Nat) (sa : Option Addr) (n c1 c2 : Nat) (sh : List Int) (p : Int) (w : World) (h : Blk w g (digits sh p)) (hr : Row w sa n sh) (hne : ¬ At sa n g) (hf : Full sh) (hs : ShapeIn sh) :
    Calls Tryz.prog 229 #[.slice (some ⟨g, 0, none⟩) n c1, .slice sa n c2] w fun e w' => (∃ v, e = .returned v) ∧ Blk w' g (digits sh (p + 1)) ∧ But (fun k => k = g) w w' := by
  have hl := hr.len
  have hsm := hr.small
  have H0 : Hid (Blk w g (mid sh p 0)) := by show Blk _ _ _; rw [mid_zero]; exact h
  have HR := hide hr
  have HF := hide hf
  have HS := hide hs
  have HNE := hide hne
  have HC0 := hide (carry_zero sh p)
  have HL := hide hl
  clear h hr hf hs hne
  go_enter Tryz.func229, Tryz.ntmps229
  go_wp2_with fail
  go_loopw [4] (fun i wr => ∃ j : Nat, j ≤ n ∧ i = .int .i64 ((n : Int) - 1 - (j : Nat)) ∧ Hid (Carry sh p j) ∧ Hid (Blk wr g (mid sh p j)) ∧ Hid (But (fun k => k = g) w wr)) (fun i _ => (intOf i + 1).toNat)
  case atStart => exact ⟨0, Nat.zero_le _, by simp, HC0, H0, hide (But.refl _ _)⟩
  case round =>
    obtain ⟨j, hj, rfl, hc, hb, hbut⟩ := hrel
    clear H0 HC0
    by_cases hlt : j < n
    · obtain ⟨i, hi⟩ : ∃ i : Nat, i = n - 1 - j := ⟨_, rfl⟩
      have e1 : (n : Int) - 1 - (j : Nat) = (i : Nat) := by omega
      rw [e1]
      obtain ⟨d, hd⟩ : ∃ d, d = digit sh p i := ⟨_, rfl⟩
      obtain ⟨s, hs'⟩ : ∃ s, s = sh.getD i 0 := ⟨_, rfl⟩
      have hin : i < n := by omega
      have hrow := (hbut.out.row HR.out (by rintro k rfl; exact HNE.out))
      obtain ⟨b, off, rfl, hblt, hcs⟩ := hrow.get hin
      have hbg : b ≠ g := fun e => HNE.out ⟨by omega, _, rfl, e⟩
      rw [← hs'] at hcs
      have hgi : sh.length - 1 - j = i := by omega
      have hcd := hb.out.cell (i := i) (by rw [mid_len]; omega)
      have hmg := mid_get sh p j (by omega)
      rw [hgi, ← hd] at hmg
      rw [hmg] at hcd
      have hfr := hb.out.free i
      have hdb : 0 ≤ d ∧ d < s := by
        have hs0 := HF.out i (by omega)
        rw [hd, hs']
        unfold digit
        exact ⟨Int.emod_nonneg _ (by omega), Int.emod_lt_of_pos _ hs0⟩
      have hsb : s ≤ 10000 := by rw [hs']; exact (HS.out.cell i).2
      have hw1 : IntKind.i64.wrap (d + 1) = d + 1 := by rw [IntKind.wrap_i64]; omega
      have HD := hide hd
      have HSS := hide hs'
      have HI := hide hi
      have HGI := hide hgi
      clear hd hs' hi hgi hmg hrow e1
      have hc2 : (wr.setCell ⟨g, i, none⟩ (.int .i64 (d + 1))).cell? ⟨g, i, none⟩ = some (.int .i64 (d + 1)) := World.cell?_setCell_same' _ _ _ (by rw [hcd]; rfl)
      have hc3 : (wr.setCell ⟨g, i, none⟩ (.int .i64 (d + 1))).cell? ⟨b, off + i, none⟩ = some (.int .i64 s) := (World.cell?_setCell_other _ _ _ _ (by simp <;> omega)).trans hcs
      have hf2 : (wr.setCell ⟨g, i, none⟩ (.int .i64 (d + 1))).frozen? ⟨g, i, none⟩ = false := by rw [World.frozen?_setCell]; exact hfr
      by_cases hd1 : d + 1 < s
      · go_upto_region 4 with fail
        go_quiet (fail)
        go_wp2_with fail
        refine bodyPost_ret (results_none rfl _ _ _) rfl ?_
        refine ⟨⟨_, rfl⟩, ?_, ?_⟩
        · have e := hb.out.set i (d + 1)
          have e2 := carry_stop HF.out hc.out (by omega) (by rw [HGI.out, ← HD.out, ← HSS.out]; exact hd1)
          rw [HGI.out, ← HD.out] at e2
          rw [e2] at e
          exact e
        · exact (hbut.out.setCell (p := ⟨g, i, none⟩) rfl _).drewN _
      · go_upto_region 4 with fail
        go_quiet (fail)
        go_wp2_with fail
        go_roundw
        case rel =>
          refine ⟨j + 1, by omega, by rw [HI.out]; go_num, hide (carry_step HF.out hc.out (by omega) (by rw [HGI.out, ← HD.out, ← HSS.out]; exact hd1)), ?_, hide (((hbut.out.setCell (p := ⟨g, i, none⟩) rfl _).drewN _).setCell (p := ⟨g, i, none⟩) rfl _)⟩
          have e2 := mid_step sh p j (by omega)
          rw [HGI.out] at e2
          have e3 : mid sh p (j + 1) = ((mid sh p j).set i (d + 1)).set i 0 := by rw [List.set_set, e2]
          show Blk _ _ _
          rw [e3]
          exact Blk.set (hb.out.set i (d + 1)) i 0
        case measure => simp [intOf]
    · have : j = n := by omega
      subst this
      have e1 : (j : Int) - 1 - (j : Nat) = -1 := by omega
      rw [e1]
      go_wp2_with fail
      go_end0
      refine ⟨⟨_, rfl⟩, ?_, hbut.out⟩
      have e := hb.out
      rw [carry_end hc.out (by rw [HL.out]; exact Nat.le_refl _)] at e
      exact e
end Go.Proofs.YtgjpchnkodnieaaGreatDoor
namespace Go.Proofs.YtgjpchnkodnieaaGreatDoor
open Go.RowKit Go.Shelf
theorem eg_neg : ∀ args w, (callFunc 234 args).run Tryz.prog w = .ok (.enter 234 args) w := enters_of Tryz.func234 (by kernel_rfl) rfl
theorem negClo (v : Int) (w : World) : Calls Tryz.prog 234 #[.int .i64 v] w fun e w' => e = .returned (.bool (decide (v < 0))) ∧ w' = w := by
  go_enter Tryz.func234, Tryz.ntmps234
  go_wp2
  go_ret
  exact ⟨rfl, rfl⟩
theorem neg_found {dt : List Int} {k : Nat} (hk : k < dt.length) (h : dt.getD k 0 < 0) : dt.all nonNeg = false := by
  cases e : dt.all nonNeg with
  | false => rfl
  | true =>
    have hm : dt.getD k 0 ∈ dt := by simp [List.getD, hk]
    have h2 := List.all_eq_true.1 e _ hm
    unfold nonNeg at h2
    have := of_decide_eq_true h2
    omega
theorem neg_none {dt : List Int} (h : ∀ k, k < dt.length → 0 ≤ dt.getD k 0) : dt.all nonNeg = true := by
  rw [List.all_eq_true]
  intro x hx
  obtain ⟨k, hk, rfl⟩ := List.getElem_of_mem hx
  have := h k hk
  simp [List.getD, hk] at this
  simp [nonNeg]
  exact this
set_option maxHeartbeats 1000000 in
theorem IndexFunc_neg (a : Option Addr) (n cap : Nat) (dt : List Int) (w : World) (h : Row w a n dt) : Calls Tryz.prog 279 #[.slice a n cap, .func (.func 234) #[] #[]] w fun e w' => (∃ v : Int, e = .returned (.int .i64 v) ∧ decide (0 ≤ v) = !dt.all nonNeg) ∧ w' = w := by
  have hl := hide h.len
  have hsm := h.small
  have H := hide h
  clear h
  have heg := eg_neg
  go_enter Tryz.func279, Tryz.ntmps279
  go_wp2_with fail
  go_loopw [8] (fun i wr => ∃ k : Nat, k ≤ n ∧ i = .int .i64 (k : Nat) ∧ wr = w ∧ Hid (∀ j, j < k → 0 ≤ dt.getD j 0)) (fun i _ => n - (intOf i).toNat)
  case atStart => exact ⟨0, Nat.zero_le _, rfl, rfl, fun j hj => absurd hj (Nat.not_lt_zero _)⟩
  case round =>
    obtain ⟨k, hk, rfl, hw, hno⟩ := hrel
    subst hw
    by_cases hlt : k < n
    · obtain ⟨b, off, rfl, hblt, hc⟩ := H.out.get hlt
      obtain ⟨v, hv⟩ : ∃ v, v = dt.getD k 0 := ⟨_, rfl⟩
      rw [← hv] at hc
      by_cases hneg : v < 0
      · have HA : Hid (dt.all nonNeg = false) := neg_found (k := k) (by rw [hl.out]; exact hlt) (by rw [← hv]; exact hneg)
        have hd : decide (v < 0) = true := decide_eq_true hneg
        clear hv
        go_wp2_with (go_at_call 234; refine (negClo _ _).mono ?_; rintro e w' ⟨rfl, rfl⟩; rw [hd])
        go_ret
        exact ⟨⟨_, rfl, by rw [HA.out, decide_eq_true (by omega)]; rfl⟩, rfl⟩
      · have hd : decide (v < 0) = false := decide_eq_false hneg
        have HV := hide hv
        clear hv
        go_wp2_with (go_at_call 234; refine (negClo _ _).mono ?_; rintro e w' ⟨rfl, rfl⟩; rw [hd])
        go_roundw
        case rel => exact ⟨k + 1, by omega, by go_num, by first | rfl | trivial, fun j hj => by
          by_cases e : j = k
          · subst e; rw [← HV.out]; omega
          · exact hno.out j (by omega)⟩
        case measure => simp [intOf]; omega
    · have : k = n := by omega
      subst this
      have HA : Hid (dt.all nonNeg = true) := neg_none (fun j hj => hno.out j (by rw [← hl.out]; exact hj))
      go_wp2_with fail
      go_ret
      exact ⟨⟨_, rfl, by rw [HA.out]; rfl⟩, rfl⟩
set_option maxHeartbeats 1000000 in
theorem ContainsFunc_neg (a : Option Addr) (n cap : Nat) (dt : List Int) (w : World) (h : Row w a n dt) (r : Bool) (hr : Hid ((!dt.all nonNeg) = r)) : Calls Tryz.prog 233 #[.slice a n cap, .func (.func 234) #[] #[]] w fun e w' => e = .returned (.bool r) ∧ w' = w := by
  have H := hide h
  clear h
  go_enter Tryz.func233, Tryz.ntmps233
  go_wp2_with (go_at_call 279; refine (IndexFunc_neg _ _ _ dt _ H.out).mono ?_; rintro e w' ⟨⟨v, rfl, hv⟩, rfl⟩; have HV := hide hv; clear hv)
  go_ret
  exact ⟨ret_bool (by rw [HV.out, hr.out]), rfl⟩
set_option maxHeartbeats 1000000 in
theorem hasBelow0_eq (a : Option Addr) (n cap : Nat) (dt : List Int) (w : World) (h : Row w a n dt) (r : Bool) (hr : Hid ((!dt.all nonNeg) = r)) : Calls Tryz.prog 169 #[.slice a n cap] w fun e w' => e = .returned (.bool r) ∧ w' = w := by
  have H := hide h
  clear h
  go_enter Tryz.func169, Tryz.ntmps169
  go_wp2_with (go_at_call 233; refine (ContainsFunc_neg _ _ _ dt _ H.out _ hr).mono ?_; rintro e w' ⟨rfl, rfl⟩)
  go_ret
  exact ⟨rfl, rfl⟩
end Go.Proofs.YtgjpchnkodnieaaGreatDoor
namespace Go.Proofs.YtgjpchnkodnieaaGreatDoor
open Go.RowKit
set_option maxRecDepth 20000 in
set_option maxHeartbeats 4000000 in
theorem inOrder_any (a b : Option Addr) (n c1 c2 : Nat) (l ps : List Int) (w : World) (h1 : Row w a n l) (h2 : Row w b n ps) (hn : n ≤ 5) (hord : orderOk ps n n = true) :
    Calls Tryz.prog 60 #[.slice a n c1, .slice b n c2] w fun e w' => ∃ g, e = .returned (.slice (some ⟨g, 0, none⟩) n n) ∧ w.heap.size ≤ g ∧ Blk w' g (turnN ps l n n) ∧ Below w.heap.size w w' := by
  have hl1 := hide h1.len
  have hl2 := hide h2.len
  have hmk := run_make_row' (P := Tryz.prog) 23 3 (.int .i64 0) 8 Tryz.underlying23 info_int rfl .i64 .i64 n (by omega) (by omega)
  obtain ⟨W, hW⟩ : ∃ W, w.alloc (.cells (madeCells #[.int .i64 0] n) 3) = W := ⟨_, rfl⟩
  obtain ⟨g, hg⟩ : ∃ g, w.heap.size = g := ⟨_, rfl⟩
  have HB : Hid (Below g w W) := by rw [← hW, ← hg]; exact (Below.refl _ _).alloc (Nat.le_refl _) _
  have HK0 : Hid (Blk W g (turnN ps l n 0)) := by rw [← hW]; exact Blk.made w n g hg.symm
  have HA : Hid (Row W a n l) := by rw [← hW]; exact h1.alloc _
  have HP : Hid (Row W b n ps) := by rw [← hW]; exact h2.alloc _
  have HA1 : Hid (∀ k, At a n k → k ≠ g) := fun k hk => by rw [← hg]; have := h1.hi hk; omega
  have HP1 : Hid (∀ k, At b n k → k ≠ g) := fun k hk => by rw [← hg]; have := h2.hi hk; omega
  have HWE := hide hW
  have HGE := hide hg
  have HO := hide hord
  clear h1 h2 hW hg hord
  go_enter Tryz.func60, Tryz.ntmps60
  go_upto_region 2 with fail
  rw [unhide HWE, unhide HGE]
  clear HWE hmk
  go_wp2_with fail
  go_loopw [13] (fun i wr => ∃ k : Nat, k ≤ n ∧ i = .int .i64 k ∧ Hid (Blk wr g (turnN ps l n k)) ∧ Hid (But (fun x => x = g) W wr)) (fun i _ => n - (intOf i).toNat)
  case atStart => exact ⟨0, Nat.zero_le _, rfl, HK0, hide (But.refl _ _)⟩
  case round =>
    obtain ⟨k, hk, rfl, hb, hbut⟩ := hrel
    by_cases hlt : k < n
    · obtain ⟨b1, o1, rfl, hb1, hc1⟩ := ((unhide hbut).row (unhide HA) (by rintro x rfl h; exact unhide HA1 _ h rfl)).get hlt
      obtain ⟨b2, o2, rfl, hb2, hc2⟩ := ((unhide hbut).row (unhide HP) (by rintro x rfl h; exact unhide HP1 _ h rfl)).get hlt
      have hso := order_step (unhide HO) hlt
      have hax := stepOk_lt hso
      have hrg := order_range (unhide HO) k hlt
      obtain ⟨x, hx⟩ : ∃ x, l.getD k 0 = x := ⟨_, rfl⟩
      obtain ⟨y, hy⟩ : ∃ y, ps.getD k 0 = y := ⟨_, rfl⟩
      obtain ⟨j, hj⟩ : ∃ j, axNo ps k = j := ⟨_, rfl⟩
      have hyj : y = (j : Int) + 1 := by rw [← hj]; unfold axNo; rw [hy]; rw [hy] at hrg; omega
      rw [hj] at hax
      rw [hx] at hc1
      rw [hy, hyj] at hc2
      have HN := hide ((unhide hb).set j x)
      have HE : Hid ((turnN ps l n k).set j x = turnN ps l n (k + 1)) := by show _ = (turnN ps l n k).set (axNo ps k) (l.getD k 0); rw [hj, hx]
      rw [unhide HE] at HN
      have hcj := (unhide hb).cell (i := j) (by rw [turnN_len]; exact hax)
      have hfj := (unhide hb).free j
      have hgl := (unhide hb).lt
      have hw1 : IntKind.i64.wrap ((j : Int) + 1 - 1) = (j : Int) := by rw [IntKind.wrap_i64]; omega
      have hji : (j : Int) < n := by omega
      have hj0 : (0 : Int) ≤ j := by omega
      have hjn : ((j : Int) + 1 - 1) = (j : Int) := by omega
      clear hx hy hj hyj hso hrg hax HE
      go_wp2_with fail
      go_roundw
      case rel => exact ⟨k + 1, by omega, by go_num, HN, hide ((unhide hbut).setCell (p := ⟨g, j, none⟩) rfl _)⟩
      case measure => (simp [intOf] <;> omega)
    · obtain rfl : k = n := by omega
      have KB := hide ((unhide HB).trans ((unhide hbut).below (B := g) (by have := (unhide HK0).lt; omega) (fun k hk => by omega)))
      go_wp2_with fail
      go_ret
      exact ⟨g, rfl, by rw [unhide HGE]; exact Nat.le_refl _, unhide hb, by rw [unhide HGE]; exact unhide KB⟩
end Go.Proofs.YtgjpchnkodnieaaGreatDoor
namespace Go.Proofs.YtgjpchnkodnieaaGreatDoor
open Go.RowKit
abbrev SeqReads (m : Nat) (P : Program) (g : Nat) (lb : Array Value) (N : Nat) (ar : Nat → Array Value) (w0 : World) : Prop := SeqWhen m P g lb N ar (Below w0.heap.size w0)
def roundEndQ (I : World → Prop) (W : World) : Exit → Act → World → Prop
  | .normal, _, W' => KeepsOthers W W' ∧ I W'
  | _, _, _ => False
theorem roundEndQ_F {B : Nat} {I : World → Prop} {W : World} : ∀ (e : Exit) (a : Act) (W' : World), roundEndQ I W e a W' → roundEndF B I W e a W'
  | .normal, _, _, h => ⟨h.1.from B, h.2⟩
  | .ret, _, _, h => h
  | .exit _, _, _, h => h
  | .goto _, _, _, h => h
  | .panic _, _, _, h => h
  | .outgrown, _, _, h => h
theorem range_reads {P : Program} {m N : Nat} {g : Operand} {ps : Array Tmp} {assign body : Code} {Q : Exit → Act → World → Prop} {a : Act} {w w0 : World}
    {gf : Nat} {lb : Array Value} (hg : a.eval g = .func (.func gf) #[] lb) (eg : ∀ args w, (callFunc gf args).run P w = .ok (.enter gf args) w) {ar : Nat → Array Value} (hps : ∀ k, (ar k).size = ps.size)
    (hseq : SeqReads (m - 1) P gf lb N ar w0)
    (I : Nat → World → Prop) (hI : ∀ k A, I k A → Below w0.heap.size w0 A) (hIp : ∀ k A l o o', I k A → w.heap.size ≤ l → A.heap[l]? = some o → o.isCells = false → I k (A.putObj l o')) (h0 : ∀ o o', I 0 ((w.alloc o).alloc o')) (a₁ : Nat → Act)
    (hassign : ∀ (l k : Nat) (W : World) (K : Act → World → Prop), K (a₁ k) W →
      assign.wpIn (Fence.wide.inRound l) (m - 1 - 1) P (Exit.then K (fun _ _ _ => False)) { tmps := (ps.zip (ar k)).foldl (fun t (p, v) => t.setIfInBounds p v) a.tmps, defers := [] } W)
    (hbody : ∀ (l k : Nat) (W : World), k < N → I k W → body.wpIn (Fence.wide.inRound l) (m - 1 - 1) P (roundEndQ (I (k + 1)) W) (a₁ k) W)
    (hdone : ∀ (D : Nat) (W : World), w.heap.size ≤ D → I N W → W.heap[D]? = some (.deferred (some [])) → Q .normal { a with defers := { target := .collected D, args := #[] } :: a.defers } W) :
    (Code.rangeFunc g ps assign body).wpIn Fence.wide m P Q a w := by
  exact range_when hg eg hps hseq I hI hIp h0 a₁ hassign (fun l k W hk hi => wpIn_mono (hbody l k W hk hi) roundEndQ_F) hdone
end Go.Proofs.YtgjpchnkodnieaaGreatDoor
namespace Go.Proofs.YtgjpchnkodnieaaGreatDoor
open Go.RowKit
section
variable {o : Oper} {a : Act}
theorem rgF0 (x : Operand) (b : Nat) (ho : o.op = .fieldAddr 25 x 0) (hx : a.eval x = .pointer (some ⟨b, 0, none⟩)) (w : World) : (execOp a.eval o).run Tryz.prog w = .ok (.value (.pointer (some ⟨b, 0, none⟩))) w := by
  unfold execOp
  simp only [ho, hx]
  go_simp
theorem rgF1 (x : Operand) (b : Nat) (ho : o.op = .fieldAddr 25 x 1) (hx : a.eval x = .pointer (some ⟨b, 0, none⟩)) (w : World) : (execOp a.eval o).run Tryz.prog w = .ok (.value (.pointer (some ⟨b, 1, none⟩))) w := by
  unfold execOp
  simp only [ho, hx]
  go_simp
theorem rgF2 (x : Operand) (b : Nat) (ho : o.op = .fieldAddr 25 x 2) (hx : a.eval x = .pointer (some ⟨b, 0, none⟩)) (w : World) : (execOp a.eval o).run Tryz.prog w = .ok (.value (.pointer (some ⟨b, 2, none⟩))) w := by
  unfold execOp
  simp only [ho, hx]
  go_simp
theorem rgL (x : Operand) (p : Addr) {s : Option Addr} {l c : Nat} (ho : o.op = .load 23 x) (hx : a.eval x = .pointer (some p)) (w : World) (hc : w.cell? p = some (.slice s l c)) : (execOp a.eval o).run Tryz.prog w = .ok (.value (.slice s l c)) w := by
  unfold execOp
  simp only [ho, hx]
  go_simp
theorem put_nothing {a : Act} {v : Value} : a.put none v = a := rfl
theorem wanted_free {o : Oper} {y : Nat → Option Bool} (h : o.guard = none) : Region.wanted o y = true := by simp [Region.wanted, h]
end
end Go.Proofs.YtgjpchnkodnieaaGreatDoor
namespace Go.Proofs.YtgjpchnkodnieaaGreatDoor
open Go.RowKit
def VBox (w : World) (p : Nat) (c : Int) (v1 v2 : Value) : Prop := w.heap[p]? = some (.cells #[.int .i64 c, v1, v2] 46 (0, 0))
theorem VBox.lt {w : World} {p : Nat} {c : Int} {v1 v2 : Value} (h : VBox w p c v1 v2) : p < w.heap.size := lt_of_block h
theorem VBox.cells {w : World} {p : Nat} {c : Int} {v1 v2 : Value} (h : VBox w p c v1 v2) : w.cell? ⟨p, 0, none⟩ = some (.int .i64 c) ∧ w.cell? ⟨p, 1, none⟩ = some v1 ∧ w.cell? ⟨p, 2, none⟩ = some v2 := by
  unfold VBox at h
  simp [World.cell?, h]
theorem VBox.below {w w' : World} {p B : Nat} {c : Int} {v1 v2 : Value} (h : VBox w p c v1 v2) (hB : w.heap.size ≤ B) (hb : Below B w w') : VBox w' p c v1 v2 := (hb.block p (Nat.lt_of_lt_of_le h.lt hB)).trans h
theorem VBox.but {S : Nat → Prop} {w w' : World} {p : Nat} {c : Int} {v1 v2 : Value} (h : VBox w p c v1 v2) (hb : But S w w') (hn : ¬ S p) : VBox w' p c v1 v2 := (hb.block p h.lt hn).trans h
theorem VBox.alloc {w : World} {p : Nat} {c : Int} {v1 v2 : Value} (h : VBox w p c v1 v2) (o : Obj) : VBox (w.alloc o) p c v1 v2 := (Below.heap_alloc w o p h.lt).trans h
theorem VBox.drew {w : World} {p : Nat} {c : Int} {v1 v2 : Value} (h : VBox w p c v1 v2) : VBox w.drew p c v1 v2 := h
theorem VBox.new (w : World) (c : Int) (v1 v2 : Value) : VBox (w.alloc (.cells #[.int .i64 c, v1, v2] 46 (0, 0))) w.heap.size c v1 v2 := by
  show (w.heap.push _)[w.heap.size]? = _
  simp
theorem VBox.free {w : World} {p : Nat} {c : Int} {v1 v2 : Value} (h : VBox w p c v1 v2) (o : Nat) : w.frozen? ⟨p, o, none⟩ = false := frozen_of_row w p o _ _ h
theorem VBox.all {w : World} {p : Nat} {c : Int} {v1 v2 : Value} (h : VBox w p c v1 v2) : w.cell? ⟨p, 0, none⟩ = some (.int .i64 c) ∧ w.cell? ⟨p, 1, none⟩ = some v1 ∧ w.cell? ⟨p, 2, none⟩ = some v2 ∧ w.frozen? ⟨p, 0, none⟩ = false ∧ w.frozen? ⟨p, 1, none⟩ = false ∧ w.frozen? ⟨p, 2, none⟩ = false ∧ p < w.heap.size :=
  ⟨h.cells.1, h.cells.2.1, h.cells.2.2, h.free _, h.free _, h.free _, h.lt⟩
theorem VBox.set2 {w : World} {p : Nat} {c : Int} {v1 v2 : Value} (h : VBox w p c v1 v2) (v : Value) : VBox (w.setCell ⟨p, 2, none⟩ v) p c v1 v := by
  unfold VBox at h ⊢
  rw [heap_setCell_same w p 2 _ _ _ h]
  simp
theorem VBox.other {w : World} {p : Nat} {c : Int} {v1 v2 : Value} (h : VBox w p c v1 v2) {q : Addr} (hq : p ≠ q.block) (v : Value) : VBox (w.setCell q v) p c v1 v2 := (heap_setCell_other w q p v hq).trans h
theorem VBox.low {w w' : World} {p B : Nat} {c : Int} {v1 v2 : Value} (h : VBox w p c v1 v2) (hp : p < B) (hb : Below B w w') : VBox w' p c v1 v2 := (hb.block p hp).trans h
theorem VBox.grown {w w1 : World} {p base n : Nat} {c : Int} {v1 v2 v : Value} {xs : List Value} (h : VBox w p c v1 v2) (hown : w.ownsRow base 3 1 v n xs) (o : Obj) (hg : (w.alloc o).grownBy w1 v.ownBlock) : VBox w1 p c v1 v2 := by
  refine (hg.block p (by have := h.lt; simp; omega) ?_).trans (h.alloc o)
  rcases hown.2 with ⟨rfl, _⟩ | ⟨g, cap, cur, rfl, _, hh, _⟩
  · exact fun e => by cases e
  · intro e
    have e' : p = g := by simpa [Value.ownBlock] using e
    subst e'
    unfold VBox at h
    rw [hh] at h
    simp at h
theorem VBox.free' {w : World} {p : Nat} {c : Int} {v1 v2 : Value} (h : VBox w p c v1 v2) : w.cell? ⟨p, 0, none⟩ = some (.int .i64 c) ∧ w.cell? ⟨p, 1, none⟩ = some v1 ∧ w.cell? ⟨p, 2, none⟩ = some v2 ∧ w.frozen? ⟨p, 0, none⟩ = false ∧ w.frozen? ⟨p, 1, none⟩ = false ∧ w.frozen? ⟨p, 2, none⟩ = false ∧ p < w.heap.size :=
  ⟨h.cells.1, h.cells.2.1, h.cells.2.2, frozen_of_row w p _ _ _ h, frozen_of_row w p _ _ _ h, frozen_of_row w p _ _ _ h, h.lt⟩
theorem VBox.sets {w : World} {p : Nat} {c c' : Int} {v1 v2 u1 u2 : Value} (h : VBox w p c v1 v2) : VBox (((w.setCell ⟨p, 0, none⟩ (.int .i64 c')).setCell ⟨p, 1, none⟩ u1).setCell ⟨p, 2, none⟩ u2) p c' u1 u2 := by
  unfold VBox at h ⊢
  have h1 := heap_setCell_same w p 0 _ _ (.int .i64 c') h
  have h2 := heap_setCell_same _ p 1 _ _ u1 h1
  have h3 := heap_setCell_same _ p 2 _ _ u2 h2
  simpa using h3
theorem Row.otherV {w : World} {a : Option Addr} {n : Nat} {zs : List Int} (h : Row w a n zs) {q : Addr} (ha : ∀ k, At a n k → k ≠ q.block) (v : Value) : Row (w.setCell q v) a n zs :=
  ((But.refl (fun k => k = q.block) w).setCell rfl v).row h (fun k hk hk' => ha k hk' hk)
theorem Row.setsV {w : World} {a : Option Addr} {n p : Nat} {zs : List Int} (h : Row w a n zs) (hne : ∀ k, At a n k → k ≠ p) (u0 u1 u2 : Value) : Row (((w.setCell ⟨p, 0, none⟩ u0).setCell ⟨p, 1, none⟩ u1).setCell ⟨p, 2, none⟩ u2) a n zs :=
  ((h.otherV (fun _ hk => hne _ hk) _).otherV (fun _ hk => hne _ hk) _).otherV (fun _ hk => hne _ hk) _
theorem VBox.set0 {w : World} {p : Nat} {c : Int} {v1 v2 : Value} (h : VBox w p c v1 v2) (x : Int) : VBox (w.setCell ⟨p, 0, none⟩ (.int .i64 x)) p x v1 v2 := by
  unfold VBox at h ⊢
  rw [heap_setCell_same w p 0 _ _ _ h]
  simp
end Go.Proofs.YtgjpchnkodnieaaGreatDoor
namespace Go.Proofs.YtgjpchnkodnieaaGreatDoor
theorem order_of {dt : List Int} {r : Nat} (h1 : ∀ i, i < r → 1 ≤ dt.getD i 0 ∧ dt.getD i 0 ≤ r) (h2 : ∀ i j, i < r → j < r → axNo dt i = axNo dt j → i = j) : ∀ m, m ≤ r → orderOk dt r m = true := by
  intro m
  induction m with
  | zero => intro _; rfl
  | succ i ih =>
    intro hi
    unfold orderOk stepOk
    rw [ih (by omega), decide_eq_true (h1 i (by omega))]
    cases e : (seenN dt r i).getD (axNo dt i) false with
    | false => rfl
    | true =>
      obtain ⟨j, hj, he⟩ := seen_from e
      have := h2 j i (by omega) (by omega) he
      omega
structure BackOf (dt bk : List Int) (r : Nat) : Prop where
  len : bk.length = r
  at_ : ∀ i, i < r → bk.getD (axNo dt i) 0 = (i : Int) + 1
theorem place_inj {sh : List Int} : ∀ k, k ≤ sh.length → ∀ {D E : List Int}, IxIn sh D → IxIn sh E → placeN sh D k = placeN sh E k → ∀ i, i < k → D.getD i 0 = E.getD i 0 := by
  intro k
  induction k with
  | zero => intro _ D E _ _ _ i hi; omega
  | succ k ih =>
    intro hk D E hD hE he i hi
    have d1 := hD k (by omega)
    have e1 := hE k (by omega)
    simp only [placeN] at he
    have hs : 0 < sh.getD k 0 := by omega
    have q1 : (placeN sh D k * sh.getD k 0 + D.getD k 0) / sh.getD k 0 = placeN sh D k := by rw [Int.add_comm, Int.add_mul_ediv_right _ _ (by omega), Int.ediv_eq_zero_of_lt d1.1 d1.2, Int.zero_add]
    have q2 : (placeN sh E k * sh.getD k 0 + E.getD k 0) / sh.getD k 0 = placeN sh E k := by rw [Int.add_comm, Int.add_mul_ediv_right _ _ (by omega), Int.ediv_eq_zero_of_lt e1.1 e1.2, Int.zero_add]
    rw [he, q2] at q1
    rw [q1] at he
    by_cases hik : i = k
    · subst hik; omega
    · exact ih (by omega) hD hE q1.symm i (by omega)
theorem digits_place {sh D : List Int} (hf : Full sh) (hD : IxIn sh D) : ∀ i, i < sh.length → (digits sh (place sh D)).getD i 0 = D.getD i 0 := by
  have hb := place_bd hD
  have h1 := place_digits hf hb.1 hb.2
  exact place_inj sh.length (Nat.le_refl _) (digits_in hf _) hD h1
end Go.Proofs.YtgjpchnkodnieaaGreatDoor
