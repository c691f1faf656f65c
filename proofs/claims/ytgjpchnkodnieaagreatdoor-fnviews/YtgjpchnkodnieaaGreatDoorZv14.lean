import Derived.Test.YtgjpchnkodnieaaGreatDoorZv10
import Derived.Test.YtgjpchnkodnieaaGreatDoorZv11
import Derived.Test.YtgjpchnkodnieaaGreatDoorZv00
import Derived.Deep.RegionHeld3
import Derived.Test.YtgjpchnkodnieaaGreatDoorZv07
import Derived.Test.YtgjpchnkodnieaaGreatDoorZv13
import Derived.Deep.DeepCutAuto
import Derived.RangeFuncRecord
import Derived.BigQuiet
import Derived.Test.YtgjpchnkodnieaaGreatDoorZv01
import Derived.Test.YtgjpchnkodnieaaGreatDoorZv02
import Derived.Test.YtgjpchnkodnieaaGreatDoorZv12
import Derived.Laws.EntriesVeiled
import Derived.Shelf.Abstract
namespace Go.Proofs.YtgjpchnkodnieaaGreatDoor
open Go.RowKit
def noView : VAns := ⟨0, [], [], false⟩
def answerOf (c : Int) (sh st : List Int) : VAns := if formed c sh st = true then ⟨c, sh, st, true⟩ else noView
def GivesV (w : World) (r : VAns) (e : Ending) (w' : World) : Prop :=
  ∃ b1 m1 d1 b2 m2 d2, e = .returned (.tuple #[.agg #[.int .i64 r.c, .slice b1 m1 d1, .slice b2 m2 d2], .bool r.code]) ∧ Row w' b1 m1 r.sh ∧ Row w' b2 m2 r.dt ∧ Below w.heap.size w w'
def GivesA (w : World) (r : VAns) (a1 : Option Addr) (n1 : Nat) (a2 : Option Addr) (n2 : Nat) (e : Ending) (w' : World) : Prop :=
  ∃ b1 m1 d1 b2 m2 d2, e = .returned (.tuple #[.agg #[.int .i64 r.c, .slice b1 m1 d1, .slice b2 m2 d2], .bool r.code]) ∧ Row w' b1 m1 r.sh ∧ Row w' b2 m2 r.dt ∧ (∀ x, At b1 m1 x → At a1 n1 x) ∧ (∀ x, At b2 m2 x → At a2 n2 x) ∧ Below w.heap.size w w'
def GivesS (w : World) (r : VAns) (a1 : Option Addr) (n1 c1 : Nat) (a2 : Option Addr) (n2 c2 : Nat) (e : Ending) (w' : World) : Prop :=
  ∃ b1 m1 d1 b2 m2 d2, e = .returned (.tuple #[.agg #[.int .i64 r.c, .slice b1 m1 d1, .slice b2 m2 d2], .bool r.code]) ∧ Row w' b1 m1 r.sh ∧ Row w' b2 m2 r.dt ∧ (∀ x, At b1 m1 x → At a1 n1 x) ∧ (∀ x, At b2 m2 x → At a2 n2 x) ∧ (r.code = true → b1 = a1 ∧ m1 = n1 ∧ d1 = c1 ∧ b2 = a2 ∧ m2 = n2 ∧ d2 = c2) ∧ Below w.heap.size w w'
def GivesVR (w : World) (r : VAns) (e : Ending) (w' : World) : Prop :=
  ∃ b1 m1 d1 b2 m2 d2, e = .returned (.tuple #[.agg #[.int .i64 r.c, .slice b1 m1 d1, .slice b2 m2 d2], .bool r.code]) ∧ Row w' b1 m1 r.sh ∧ Row w' b2 m2 r.dt ∧ Below w.heap.size w w' ∧ (r.code = true → RoomTwo w' w.heap.size b1 m1 d1 b2 m2 d2)
theorem GivesVR.any {w w' : World} {r : VAns} {e : Ending} (h : GivesVR w r e w') : GivesV w r e w' := by
  obtain ⟨b1, m1, d1, b2, m2, d2, h1, h2, h3, h4, _⟩ := h
  exact ⟨b1, m1, d1, b2, m2, d2, h1, h2, h3, h4⟩
theorem same_room {w : World} {B : Nat} {r : Bool} {b1 a1 b2 a2 : Option Addr} {m1 d1 n1 c1 m2 d2 n2 c2 : Nat} (hs : r = true → b1 = a1 ∧ m1 = n1 ∧ d1 = c1 ∧ b2 = a2 ∧ m2 = n2 ∧ d2 = c2) (hr : RoomTwo w B a1 n1 c1 a2 n2 c2) : r = true → RoomTwo w B b1 m1 d1 b2 m2 d2 := by
  intro h
  obtain ⟨rfl, rfl, rfl, rfl, rfl, rfl⟩ := hs h
  exact hr
set_option maxHeartbeats 2000000 in
theorem l7Answer_same (c : Int) (a1 a2 : Option Addr) (n1 n2 c1 c2 : Nat) (sh st : List Int) (w : World) (h1 : Row w a1 n1 sh) (h2 : Row w a2 n2 st) :
    Calls Tryz.prog 89 #[.agg #[.int .i64 c, .slice a1 n1 c1, .slice a2 n2 c2], .bool true] w (GivesS w (answerOf c sh st) a1 n1 c1 a2 n2 c2) := by
  have H1 := hide h1
  have H2 := hide h2
  have hi1 : Hid (∀ k, At a1 n1 k → k ≠ w.heap.size + 1) := fun k hk => by have := h1.hi hk; omega
  have hi2 : Hid (∀ k, At a2 n2 k → k ≠ w.heap.size + 1) := fun k hk => by have := h2.hi hk; omega
  clear h1 h2
  obtain ⟨r, hr⟩ : ∃ r, formed c sh st = r := ⟨_, rfl⟩
  have HR := hide hr
  clear hr
  have HCF := hide (l7Formed_eq c a1 a2 n1 n2 c1 c2 sh st ((w.alloc (.cells #[.int .i64 c, .slice a1 n1 c1, .slice a2 n2 c2] 46)).alloc (.cells #[.int .i64 0, .slice none 0 0, .slice none 0 0] 46)) (((unhide H1).alloc _).alloc _) (((unhide H2).alloc _).alloc _) r HR)
  go_enter Tryz.func89, Tryz.ntmps89
  go_wp2_with fail
  refine (unhide HCF).mono ?_
  rintro e w1 ⟨rfl, hb1⟩
  obtain ⟨B0, B1, hB⟩ := vboxes2 hb1
  obtain ⟨x0, x1, x2, x3, x4, x5, x6⟩ := B0.all
  obtain ⟨z0, z1, z2, z3, z4, z5, z6⟩ := B1.all
  have HB := hide hB
  clear hb1 B0 B1 hB HCF
  cases r with
  | false =>
    have HS : Hid (answerOf c sh st = noView) := by show _ = _; unfold answerOf; rw [if_neg (by rw [unhide HR]; simp)]
    go_wp2
    refine bodyPost_ret (v := .tuple #[.agg #[.int .i64 0, .slice none 0 0, .slice none 0 0], .bool false]) (by simp [results, Tryz.results89, go_sem, z0, z1, z2]) rfl ?_
    rw [unhide HS]
    exact ⟨none, 0, 0, none, 0, 0, rfl, row_nil _ _, row_nil _ _, fun x hx => absurd rfl hx.1, fun x hx => absurd rfl hx.1, fun h => (by cases h), (((unhide HB).setCell (by simp <;> omega) _).setCell (by simp <;> omega) _).setCell (by simp <;> omega) _⟩
  | true =>
    have HS : Hid (answerOf c sh st = ⟨c, sh, st, true⟩) := by show _ = _; unfold answerOf; rw [if_pos (unhide HR)]
    go_wp2
    refine bodyPost_ret (v := .tuple #[.agg #[.int .i64 c, .slice a1 n1 c1, .slice a2 n2 c2], .bool true]) (by simp [results, Tryz.results89, go_sem, z0, z1, z2]) rfl ?_
    rw [unhide HS]
    exact ⟨a1, n1, c1, a2, n2, c2, rfl, ((unhide H1).below (Nat.le_refl _) (unhide HB)).setsV (unhide hi1) _ _ _, ((unhide H2).below (Nat.le_refl _) (unhide HB)).setsV (unhide hi2) _ _ _, fun _ h => h, fun _ h => h, fun _ => ⟨rfl, rfl, rfl, rfl, rfl, rfl⟩, (((unhide HB).setCell (by simp <;> omega) _).setCell (by simp <;> omega) _).setCell (by simp <;> omega) _⟩
theorem l7Answer_any (c : Int) (a1 a2 : Option Addr) (n1 n2 c1 c2 : Nat) (sh st : List Int) (w : World) (h1 : Row w a1 n1 sh) (h2 : Row w a2 n2 st) :
    Calls Tryz.prog 89 #[.agg #[.int .i64 c, .slice a1 n1 c1, .slice a2 n2 c2], .bool true] w (GivesA w (answerOf c sh st) a1 n1 a2 n2) := by
  refine (l7Answer_same c a1 a2 n1 n2 c1 c2 sh st w h1 h2).mono ?_
  rintro e w' ⟨b1, m1, d1, b2, m2, d2, q0, q1, q2, q3, q4, _, q5⟩
  exact ⟨b1, m1, d1, b2, m2, d2, q0, q1, q2, q3, q4, q5⟩
end Go.Proofs.YtgjpchnkodnieaaGreatDoor
namespace Go.Proofs.YtgjpchnkodnieaaGreatDoor
open Go.RowKit
def RdOk (w : World) (pr : Nat) : Prop :=
  ∃ (a : Option Addr) (n c p : Nat), w.heap[pr]? = some (.cells #[.slice a n c, .int .i64 (p : Nat)] 157 (0, 0)) ∧ n ≤ 1000 ∧ p ≤ n ∧ (n = 0 ∨ ∃ b off, a = some ⟨b, off, none⟩ ∧ b < pr ∧ ∀ i, i < n → ∃ v : Nat, v ≤ 255 ∧ w.cell? ⟨b, off + i, none⟩ = some (.int .u8 (v : Nat)))
theorem RdOk.lt {w : World} {pr : Nat} (h : RdOk w pr) : pr < w.heap.size := by obtain ⟨a, n, c, p, hc, _⟩ := h; exact lt_of_block hc
theorem RdOk.but {S : Nat → Prop} {w w' : World} {pr : Nat} (h : RdOk w pr) (hb : But S w w') (hs : ∀ k, S k → pr < k) : RdOk w' pr := by
  have hl := h.lt
  obtain ⟨a, n, c, p, hc, h1, h2, h3⟩ := h
  refine ⟨a, n, c, p, (hb.block pr hl (fun e => by have := hs _ e; omega)).trans hc, h1, h2, ?_⟩
  rcases h3 with h3 | ⟨b, off, e, hbl, hv⟩
  · exact .inl h3
  · refine .inr ⟨b, off, e, hbl, fun i hi => ?_⟩
    obtain ⟨v, hv1, hv2⟩ := hv i hi
    exact ⟨v, hv1, (hb.cellAt (by omega) (fun e => by have := hs _ e; omega)).trans hv2⟩
theorem RdOk.below {w w' : World} {pr : Nat} (h : RdOk w pr) (hb : Below w.heap.size w w') : RdOk w' pr := h.but (S := fun _ => False) (But.of_below hb) (fun _ h => h.elim)
theorem RdOk.set {w : World} {pr : Nat} {a : Option Addr} {n c p q : Nat} (hc : w.heap[pr]? = some (.cells #[.slice a n c, .int .i64 (p : Nat)] 157 (0, 0))) (h1 : n ≤ 1000) (h2 : q ≤ n) (h3 : n = 0 ∨ ∃ b off, a = some ⟨b, off, none⟩ ∧ b < pr ∧ ∀ i, i < n → ∃ v : Nat, v ≤ 255 ∧ w.cell? ⟨b, off + i, none⟩ = some (.int .u8 (v : Nat))) : RdOk (w.setCell ⟨pr, 1, none⟩ (.int .i64 (q : Nat))) pr := by
  refine ⟨a, n, c, q, ?_, h1, h2, ?_⟩
  · rw [heap_setCell_same w pr 1 _ _ _ hc]
    simp
  · rcases h3 with h3 | ⟨b, off, e, hbl, hv⟩
    · exact .inl h3
    · refine .inr ⟨b, off, e, hbl, fun i hi => ?_⟩
      obtain ⟨v, hv1, hv2⟩ := hv i hi
      exact ⟨v, hv1, (World.cell?_setCell_other _ _ _ _ (by simp)).trans hv2⟩
set_option maxHeartbeats 2000000 in
theorem next_any (pr : Nat) (w : World) (h : RdOk w pr) :
    Calls Tryz.prog 45 #[.pointer (some ⟨pr, 0, none⟩)] w fun e w' => (∃ v : Nat, v ≤ 255 ∧ e = .returned (.int .i64 (v : Nat))) ∧ RdOk w' pr ∧ But (fun x => x = pr) w w' := by
  have hl := h.lt
  have HR := hide h
  obtain ⟨a, n, c, p, hc, h1, h2, h3⟩ := h
  have HC := hide hc
  have H3 := hide h3
  have c0 : w.cell? ⟨pr, 0, none⟩ = some (.slice a n c) := by simp [World.cell?, hc]
  have c1 : w.cell? ⟨pr, 1, none⟩ = some (.int .i64 (p : Nat)) := by simp [World.cell?, hc]
  have f1 : w.frozen? ⟨pr, 1, none⟩ = false := frozen_of_row w pr 1 _ _ hc
  by_cases hlt : p < n
  · rcases h3 with h0 | ⟨b, off, rfl, hbl, hv⟩
    · omega
    obtain ⟨v, hv1, hv2⟩ := hv p hlt
    have hw : IntKind.i64.wrap (v : Int) = (v : Int) := by rw [IntKind.wrap_i64]; omega
    have HLT := hide hlt
    clear hlt hv hc
    go_enter Tryz.func45, Tryz.ntmps45
    go_wp2_with fail
    have hd : decide ((p : Int) < (n : Int)) = true := decide_eq_true (by have := unhide HLT; omega)
    go_big_quiet (fail)
    have hlt := unhide HLT
    clear hd
    go_wp2_with fail
    have hpz : (p : Int) < (n : Int) := by omega
    go_quiet (fail)
    go_wp2_with fail
    go_ret
    refine ⟨⟨v, hv1, rfl⟩, ?_, ?_⟩
    · exact RdOk.set (q := p + 1) (unhide HC) h1 (by omega) (unhide H3)
    · first | exact (But.of_below (S := fun x => x = pr) (Below.drewN (Below.refl _ w) _)).setCell (p := ⟨pr, 1, none⟩) rfl _ | exact (But.of_below (S := fun x => x = pr) (Below.drewN (Below.drewN (Below.refl _ w) _) _)).setCell (p := ⟨pr, 1, none⟩) rfl _
  · have HLT := hide hlt
    clear hlt h3 hc
    go_enter Tryz.func45, Tryz.ntmps45
    go_wp2_with fail
    have hd : decide ((p : Int) < (n : Int)) = false := decide_eq_false (by have := unhide HLT; omega)
    go_big_quiet (fail)
    have hlt := unhide HLT
    clear hd
    go_wp2_with fail
    go_ret
    exact ⟨⟨0, by omega, rfl⟩, (unhide HR).below (Below.drewN (Below.refl _ _) _), But.of_below (Below.drewN (Below.refl _ _) _)⟩
end Go.Proofs.YtgjpchnkodnieaaGreatDoor
namespace Go.Proofs.YtgjpchnkodnieaaGreatDoor
open Go.RowKit
def GivesOwn (w : World) (r : Ans) (e : Ending) (w' : World) : Prop := ∃ b1 m1 d1 b2 m2 d2, e = .returned (.tuple #[.agg #[.bool r.c, .slice b1 m1 d1, .slice b2 m2 d2], .int .i64 r.code]) ∧ Own w' w.heap.size b1 m1 r.sh ∧ Own w' w.heap.size b2 m2 r.dt ∧ Apart b1 m1 b2 m2 ∧ Below w.heap.size w w'
theorem own_none (w : World) (B : Nat) (a : Option Addr) : Own w B a 0 [] := ⟨rfl, by omega, .inl rfl⟩
theorem gives_none {w w' : World} {code : Int} (h : Below w.heap.size w w') : GivesOwn w (noAns code) (.returned (.tuple #[.agg #[.bool false, .slice none 0 0, .slice none 0 0], .int .i64 code])) w' :=
  ⟨none, 0, 0, none, 0, 0, rfl, own_none _ _ _, own_none _ _ _, fun _ h => absurd rfl h.1, h⟩
theorem firstCode_zero {f : Nat → Int × Int} {n : Nat} : firstCode f n = 0 ↔ ∀ k, k < n → (f k).2 = 0 := by
  induction n with
  | zero => exact ⟨fun _ k hk => absurd hk (Nat.not_lt_zero _), fun _ => rfl⟩
  | succ n ih =>
    constructor
    · intro h
      have h0 : firstCode f n = 0 := by
        by_cases h0 : firstCode f n = 0
        · exact h0
        · simp only [firstCode, if_neg h0] at h; exact h
      have h1 : (f n).2 = 0 := by simpa only [firstCode, if_pos h0] using h
      intro k hk
      by_cases hkn : k = n
      · subst hkn; exact h1
      · exact ih.mp h0 k (by omega)
    · intro h
      exact code_step (ih.mpr fun k hk => h k (by omega)) (h n (by omega))
end Go.Proofs.YtgjpchnkodnieaaGreatDoor
namespace Go.Proofs.YtgjpchnkodnieaaGreatDoor
open Go.RowKit
set_option maxHeartbeats 1000000 in
theorem lineOf_any (c : Bool) (v1 : Value) (a2 : Option Addr) (n2 c2 : Nat) (w : World) : Calls Tryz.prog 170 #[.agg #[.bool c, v1, .slice a2 n2 c2]] w fun e w' => ∃ s, e = .returned (.agg #[.bool c, .slice (some ⟨s, 0, none⟩) 1 1, .slice a2 n2 c2]) ∧ w.heap.size ≤ s ∧ Blk w' s [(n2 : Int)] ∧ Below w.heap.size w w' := by
  have hB1 : Box ((w.alloc (.cells #[.bool c, v1, .slice a2 n2 c2] 25)).alloc (.cells #[.bool false, .slice none 0 0, .slice none 0 0] 25)) (w.heap.size + 1) false (.slice none 0 0) (.slice none 0 0) := by
    have := Box.new (w.alloc (.cells #[.bool c, v1, .slice a2 n2 c2] 25)) false (.slice none 0 0) (.slice none 0 0)
    simpa using this
  have HB1 := hide hB1
  clear hB1
  obtain ⟨W, hW⟩ : ∃ W, W = (w.alloc (.cells #[.bool c, v1, .slice a2 n2 c2] 25)).alloc (.cells #[.bool false, .slice none 0 0, .slice none 0 0] 25) := ⟨_, rfl⟩
  have hz : W.heap.size = w.heap.size + 1 + 1 := by rw [hW]; simp
  have HBL : Hid (Below w.heap.size w W) := by rw [hW]; exact ((Below.refl _ w).alloc (Nat.le_refl _) _).alloc (by simp) _
  have HX0 : Hid (Box W w.heap.size c v1 (.slice a2 n2 c2)) := by rw [hW]; exact (Box.new w _ _ _).alloc _
  rw [← hW] at HB1
  go_enter Tryz.func170, Tryz.ntmps170
  go_upto_region 1 with fail
  rw [← hW]
  clear hW
  obtain ⟨p, hp⟩ : ∃ p, p = W.heap.size := ⟨_, rfl⟩
  have hpw : w.heap.size + 1 < p := by omega
  have hblk : Blk (W.alloc (.cells #[.int .i64 (n2 : Nat)] 3)) p [(n2 : Int)] := by rw [hp]; exact World.alloc_heap_new W _
  have HBK := hide hblk
  have hbox := HB1.out.alloc (.cells #[.int .i64 (n2 : Nat)] 3)
  have HBX := hide hbox
  obtain ⟨x0, x1, x2, x3, x4, x5⟩ := HX0.out.all
  obtain ⟨y0, y1, y2, y3, y4, y5⟩ := hbox.all
  have HP := hide hp
  clear hz hp hblk hbox
  go_wp2_with fail
  have hx := HBX.out.sets (c' := c) (u1 := .slice (some ⟨W.heap.size, 0, none⟩) 1 1) (u2 := .slice a2 n2 c2)
  obtain ⟨q0, q1, q2, _, _, _⟩ := hx.all
  refine bodyPost_ret (v := .agg #[.bool c, .slice (some ⟨W.heap.size, 0, none⟩) 1 1, .slice a2 n2 c2]) (by simp [results, Tryz.results170, go_sem, q0, q1, q2]) rfl ?_
  rw [← HP.out]
  exact ⟨p, rfl, by omega, ((HBK.out.other (p := ⟨w.heap.size + 1, 0, none⟩) (by show p ≠ w.heap.size + 1; omega) _).other (p := ⟨w.heap.size + 1, 1, none⟩) (by show p ≠ w.heap.size + 1; omega) _).other (p := ⟨w.heap.size + 1, 2, none⟩) (by show p ≠ w.heap.size + 1; omega) _, (((HBL.out.alloc (by rw [← HP.out]; omega) _).setCell (p := ⟨w.heap.size + 1, 0, none⟩) (by simp) _).setCell (p := ⟨w.heap.size + 1, 1, none⟩) (by simp) _).setCell (p := ⟨w.heap.size + 1, 2, none⟩) (by simp) _⟩
end Go.Proofs.YtgjpchnkodnieaaGreatDoor
namespace Go.Proofs.YtgjpchnkodnieaaGreatDoor
open Go.RowKit
theorem dataOk_bd {c : Bool} {sh dt : List Int} (h : arrOk c sh dt = true) {k : Nat} (hk : k < dt.length) : -1000000000000000 ≤ dt.getD k 0 ∧ dt.getD k 0 ≤ 1000000000000000 := by
  have h1 : dt.all (dataOk c) = true := by simp [arrOk] at h; simpa using h.2.2
  have h2 := List.all_eq_true.mp h1 (dt.getD k 0) (by simp [hk])
  simp [dataOk] at h2
  simpa using h2.2
theorem boxes2 {w w1 : World} {c : Bool} {v1 v2 : Value} (hb : Below ((w.alloc (.cells #[.bool c, v1, v2] 25)).alloc (.cells #[.bool false, .slice none 0 0, .slice none 0 0] 25)).heap.size ((w.alloc (.cells #[.bool c, v1, v2] 25)).alloc (.cells #[.bool false, .slice none 0 0, .slice none 0 0] 25)) w1) :
    Box w1 w.heap.size c v1 v2 ∧ Box w1 (w.heap.size + 1) false (.slice none 0 0) (.slice none 0 0) ∧ Below w.heap.size w w1 := by
  have e : (w.alloc (.cells #[.bool c, v1, v2] 25)).heap.size = w.heap.size + 1 := by simp
  refine ⟨((Box.new w c v1 v2).alloc _).below (Nat.le_refl _) hb, ?_, (((Below.refl _ _).alloc (Nat.le_refl _) _).alloc (by simp) _).trans (hb.mono (by simp; omega))⟩
  have := (Box.new (w.alloc (.cells #[.bool c, v1, v2] 25)) false (.slice none 0 0) (.slice none 0 0)).below (Nat.le_refl _) hb
  rwa [e] at this
theorem boxes3 {w w1 : World} {c d : Bool} {v1 v2 u1 u2 : Value} (hb : Below (((w.alloc (.cells #[.bool c, v1, v2] 25)).alloc (.cells #[.bool d, u1, u2] 25)).alloc (.cells #[.bool false, .slice none 0 0, .slice none 0 0] 25)).heap.size (((w.alloc (.cells #[.bool c, v1, v2] 25)).alloc (.cells #[.bool d, u1, u2] 25)).alloc (.cells #[.bool false, .slice none 0 0, .slice none 0 0] 25)) w1) :
    Box w1 w.heap.size c v1 v2 ∧ Box w1 (w.heap.size + 1) d u1 u2 ∧ Box w1 (w.heap.size + 2) false (.slice none 0 0) (.slice none 0 0) ∧ Below w.heap.size w w1 := by
  have e1 : (w.alloc (.cells #[.bool c, v1, v2] 25)).heap.size = w.heap.size + 1 := by simp
  have e2 : ((w.alloc (.cells #[.bool c, v1, v2] 25)).alloc (.cells #[.bool d, u1, u2] 25)).heap.size = w.heap.size + 2 := by simp
  refine ⟨(((Box.new w c v1 v2).alloc _).alloc _).below (Nat.le_refl _) hb, ?_, ?_, ((((Below.refl _ _).alloc (Nat.le_refl _) _).alloc (by simp) _).alloc (by simp <;> omega) _).trans (hb.mono (by simp; omega))⟩
  · have := ((Box.new (w.alloc (.cells #[.bool c, v1, v2] 25)) d u1 u2).alloc _).below (Nat.le_refl _) hb
    rwa [e1] at this
  · have := (Box.new ((w.alloc (.cells #[.bool c, v1, v2] 25)).alloc (.cells #[.bool d, u1, u2] 25)) false (.slice none 0 0) (.slice none 0 0)).below (Nat.le_refl _) hb
    rwa [e2] at this
end Go.Proofs.YtgjpchnkodnieaaGreatDoor
namespace Go.Proofs.YtgjpchnkodnieaaGreatDoor
open Go.RowKit
def NumOk (g : Nat) (lb : Array Value) (f : List Int → Nat → Int) (zs : List Int) (r : Nat) (w : World) : Prop :=
  ∀ D, IxIn zs D → D.length = zs.length → ∀ k, k < r → ∀ (ib : Nat) W, Below w.heap.size w W → Blk W ib D → Calls Tryz.prog g (#[.slice (some ⟨ib, 0, none⟩) zs.length zs.length, .int .i64 (k : Nat)] ++ lb) W fun e w' => e = .returned (.int .i64 (f D k)) ∧ Below W.heap.size W w'
theorem NumOk.low {g : Nat} {lb : Array Value} {f : List Int → Nat → Int} {zs : List Int} {r : Nat} {w w1 : World} (h : NumOk g lb f zs r w) (hb : Below w.heap.size w w1) : NumOk g lb f zs r w1 :=
  fun D h1 h2 k hk ib W hW hB => h D h1 h2 k hk ib W (hb.trans (hW.mono hb.size)) hB
set_option maxRecDepth 20000 in
set_option maxHeartbeats 2000000 in
theorem placeIn_any (g : Nat) (lb : Array Value) (eg : ∀ args w, (callFunc g args).run Tryz.prog w = .ok (.enter g args) w) (f : List Int → Nat → Int) (zs D sh : List Int) (sa : Option Addr) (n cap ib : Nat) (w : World)
    (hr : Row w sa n sh) (hN : NumOk g lb f zs n w) (hD : IxIn zs D) (hDl : D.length = zs.length) (hb : Blk w ib D) (hs : ShapeIn sh) (r : Bool) (hres : Hid (insideN sh (meant sh f D) sh.length = r)) (p : Int) (hp : Hid ((if r then place sh (meant sh f D) else 0) = p)) :
    Calls Tryz.prog 151 #[.slice sa n cap, .slice (some ⟨ib, 0, none⟩) zs.length zs.length, .func (.func g) #[] lb] w fun e w' => e = .returned (.tuple #[.int .i64 p, .bool r]) ∧ Below w.heap.size w w' := by
  have hl := hr.len
  have hsm := hr.small
  obtain ⟨zl, hzl⟩ : ∃ zl, zs.length = zl := ⟨_, rfl⟩
  have HNUM : Hid (∀ k, k < n → ∀ W, Below w.heap.size w W → Calls Tryz.prog g (#[.slice (some ⟨ib, 0, none⟩) zl zl, .int .i64 (k : Nat)] ++ lb) W fun e w' => e = .returned (.int .i64 (f D k)) ∧ Below W.heap.size W w') := fun k hk W hW => by
    have := hN D hD hDl k hk ib W hW (hb.below (Nat.le_refl _) hW)
    rwa [hzl] at this
  rw [hzl]
  clear hN hD hDl hb hzl
  obtain ⟨M, hM⟩ : ∃ M, M = meant sh f D := ⟨_, rfl⟩
  have HMG : Hid (∀ k, k < n → M.getD k 0 = f D k) := fun k hk => by rw [hM]; exact meant_get sh f D k (by omega)
  rw [← hM] at hres hp
  have HR := hide hr
  have HS := hide hs
  have HL := hide hl
  clear hr hs hM
  go_enter Tryz.func151, Tryz.ntmps151
  go_wp2_with fail
  go_loopw [8, 14] (fun q i wr => ∃ k : Nat, k ≤ n ∧ i = .int .i64 (k : Nat) ∧ q = .int .i64 (placeN sh M k) ∧ Hid (insideN sh M k = true) ∧ Hid (Below w.heap.size w wr)) (fun _ i _ => n - (intOf i).toNat)
  case atStart => exact ⟨0, Nat.zero_le _, rfl, rfl, rfl, hide (Below.refl _ _)⟩
  case round =>
    obtain ⟨k, hk, rfl, rfl, hin, hbl⟩ := hrel
    by_cases hlt : k < n
    · obtain ⟨s, hs'⟩ : ∃ s, s = sh.getD k 0 := ⟨_, rfl⟩
      obtain ⟨v, hv⟩ : ∃ v, v = f D k := ⟨_, rfl⟩
      obtain ⟨q, hq⟩ : ∃ q, q = placeN sh M k := ⟨_, rfl⟩
      obtain ⟨b, off, rfl, hblt, hcs⟩ := (HR.out.below (Nat.le_refl _) hbl.out).get hlt
      have hcall := HNUM.out k hlt wr hbl.out
      rw [← hv] at hcall
      rw [← hs'] at hcs
      have hmv : M.getD k 0 = v := by rw [HMG.out k hlt, hv]
      have hsb : 0 ≤ s ∧ s ≤ 10000 := by rw [hs']; exact HS.out.cell k
      have hw1 : IntKind.i64.wrap (s - 1) = s - 1 := by rw [IntKind.wrap_i64]; omega
      by_cases hvi : 0 ≤ v ∧ v < s
      · have hin1 : insideN sh M (k + 1) = true := inside_step hin.out (by omega) (by rw [hmv, ← hs']; omega)
        have hpn : placeN sh M (k + 1) = q * s + v := by show placeN sh M k * _ + _ = _; rw [← hq, ← hs', hmv]
        have hbd := placeN_bd' (k + 1) hin1 (by rw [HL.out]; omega)
        have hpb := (HS.out.take (k + 1)).bd
        have hq0 : 0 ≤ q := by
          rcases placeN_bd' k hin.out (by rw [HL.out]; omega) with h | h
          · rw [hq]; exact h.1
          · subst h; rw [hq]; exact Int.le_refl _
        have hqs : 0 ≤ q * s := Int.mul_nonneg hq0 hsb.1
        have hw2 : IntKind.i64.wrap (q * s) = q * s := by rw [IntKind.wrap_i64]; rw [hpn] at hbd; omega
        have hw3 : IntKind.i64.wrap (q * s + v) = q * s + v := by rw [IntKind.wrap_i64]; rw [hpn] at hbd; omega
        have HWI : Hid (withinB v 0 (s - 1) = true) := decide_eq_true ⟨hvi.1, by omega⟩
        obtain ⟨t, ht⟩ : ∃ t, t = q * s := ⟨_, rfl⟩
        rw [← ht] at hw2 hw3 hpn
        have HPN := hide hpn
        have HQ := hide hq
        have HIN1 := hide hin1
        have ht2 : q * s = t := ht.symm
        rw [← hq]
        clear hbd hpb hqs hin1 hpn hq hs' hv hmv ht hin hvi hsb hq0 HS HMG
        go_wp2_with (first | (go_at_fn g; refine hcall.mono ?_; rintro e w2 ⟨rfl, hb2⟩; have HL2 := hide (hbl.out.trans (hb2.mono hbl.out.size)); clear hb2) | (go_at_call 50; refine (isWithin_eq _ _ _ _ true HWI).mono ?_; rintro e w' ⟨rfl, rfl⟩))
        go_roundw
        case rel => exact ⟨k + 1, by omega, by go_num, by rw [HPN.out], HIN1, HL2⟩
        case measure => simp [intOf]; omega
      · have hno : insideN sh M sh.length = false := inside_not (by rw [HL.out]; exact hlt) (by rw [hmv, ← hs']; exact hvi)
        obtain rfl : r = false := by rw [← hres.out, hno]
        obtain rfl : p = 0 := by rw [← hp.out]; rfl
        have HWI : Hid (withinB v 0 (s - 1) = false) := decide_eq_false (by omega)
        obtain ⟨q', hq'⟩ : ∃ q', q' = placeN sh M k := ⟨_, rfl⟩
        rw [← hq']
        clear hno hmv hs' hv hvi hsb hres hp hin HS HMG hq hq'
        go_wp2_with (first | (go_at_fn g; refine hcall.mono ?_; rintro e w2 ⟨rfl, hb2⟩; have HL2 := hide (hbl.out.trans (hb2.mono hbl.out.size)); clear hb2) | (go_at_call 50; refine (isWithin_eq _ _ _ _ false HWI).mono ?_; rintro e w' ⟨rfl, rfl⟩))
        go_ret2
        exact ⟨rfl, HL2.out⟩
    · have : k = n := by omega
      subst this
      have hfin : insideN sh M sh.length = true := by rw [HL.out]; exact hin.out
      obtain rfl : r = true := by rw [← hres.out, hfin]
      have hpp : placeN sh M k = p := by rw [← hp.out, if_pos rfl]; unfold place; rw [HL.out]
      rw [hpp]
      clear hfin hpp
      go_wp2
      go_ret2
      exact ⟨rfl, hbl.out⟩
end Go.Proofs.YtgjpchnkodnieaaGreatDoor
namespace Go.Proofs.YtgjpchnkodnieaaGreatDoor
open Go.RowKit
def NumOkB (g : Nat) (ub : Value) (f : List Int → Nat → Int) (zs : List Int) (r : Nat) (w : World) : Prop :=
  ∀ D, IxIn zs D → D.length = zs.length → ∀ k, k < r → ∀ (ib : Nat) W, Below w.heap.size w W → Blk W ib D → Calls Tryz.prog g #[ub, .slice (some ⟨ib, 0, none⟩) zs.length zs.length, .int .i64 (k : Nat)] W fun e w' => e = .returned (.int .i64 (f D k)) ∧ Below W.heap.size W w'
theorem NumOkB.low {g : Nat} {ub : Value} {f : List Int → Nat → Int} {zs : List Int} {r : Nat} {w w1 : World} (h : NumOkB g ub f zs r w) (hb : Below w.heap.size w w1) : NumOkB g ub f zs r w1 :=
  fun D h1 h2 k hk ib W hW hB => h D h1 h2 k hk ib W (hb.trans (hW.mono hb.size)) hB
set_option maxRecDepth 20000 in
set_option maxHeartbeats 2000000 in
theorem placeInB_any (g : Nat) (ub : Value) (eg : ∀ args w, (callFunc g args).run Tryz.prog w = .ok (.enter g args) w) (f : List Int → Nat → Int) (zs D sh : List Int) (sa : Option Addr) (n cap ib : Nat) (w : World)
    (hr : Row w sa n sh) (hN : NumOkB g ub f zs n w) (hD : IxIn zs D) (hDl : D.length = zs.length) (hb : Blk w ib D) (hs : ShapeIn sh) (r : Bool) (hres : Hid (insideN sh (meant sh f D) sh.length = r)) (p : Int) (hp : Hid ((if r then place sh (meant sh f D) else 0) = p)) :
    Calls Tryz.prog 151 #[.slice sa n cap, .slice (some ⟨ib, 0, none⟩) zs.length zs.length, .func (.func g) #[ub] #[]] w fun e w' => e = .returned (.tuple #[.int .i64 p, .bool r]) ∧ Below w.heap.size w w' := by
  have hl := hr.len
  have hsm := hr.small
  obtain ⟨zl, hzl⟩ : ∃ zl, zs.length = zl := ⟨_, rfl⟩
  have HNUM : Hid (∀ k, k < n → ∀ W, Below w.heap.size w W → Calls Tryz.prog g #[ub, .slice (some ⟨ib, 0, none⟩) zl zl, .int .i64 (k : Nat)] W fun e w' => e = .returned (.int .i64 (f D k)) ∧ Below W.heap.size W w') := fun k hk W hW => by
    have := hN D hD hDl k hk ib W hW (hb.below (Nat.le_refl _) hW)
    rwa [hzl] at this
  rw [hzl]
  clear hN hD hDl hb hzl
  obtain ⟨M, hM⟩ : ∃ M, M = meant sh f D := ⟨_, rfl⟩
  have HMG : Hid (∀ k, k < n → M.getD k 0 = f D k) := fun k hk => by rw [hM]; exact meant_get sh f D k (by omega)
  rw [← hM] at hres hp
  have HR := hide hr
  have HS := hide hs
  have HL := hide hl
  clear hr hs hM
  go_enter Tryz.func151, Tryz.ntmps151
  go_wp2_with fail
  go_loopw [8, 14] (fun q i wr => ∃ k : Nat, k ≤ n ∧ i = .int .i64 (k : Nat) ∧ q = .int .i64 (placeN sh M k) ∧ Hid (insideN sh M k = true) ∧ Hid (Below w.heap.size w wr)) (fun _ i _ => n - (intOf i).toNat)
  case atStart => exact ⟨0, Nat.zero_le _, rfl, rfl, rfl, hide (Below.refl _ _)⟩
  case round =>
    obtain ⟨k, hk, rfl, rfl, hin, hbl⟩ := hrel
    by_cases hlt : k < n
    · obtain ⟨s, hs'⟩ : ∃ s, s = sh.getD k 0 := ⟨_, rfl⟩
      obtain ⟨v, hv⟩ : ∃ v, v = f D k := ⟨_, rfl⟩
      obtain ⟨q, hq⟩ : ∃ q, q = placeN sh M k := ⟨_, rfl⟩
      obtain ⟨b, off, rfl, hblt, hcs⟩ := (HR.out.below (Nat.le_refl _) hbl.out).get hlt
      have hcall := HNUM.out k hlt wr hbl.out
      rw [← hv] at hcall
      rw [← hs'] at hcs
      have hmv : M.getD k 0 = v := by rw [HMG.out k hlt, hv]
      have hsb : 0 ≤ s ∧ s ≤ 10000 := by rw [hs']; exact HS.out.cell k
      have hw1 : IntKind.i64.wrap (s - 1) = s - 1 := by rw [IntKind.wrap_i64]; omega
      by_cases hvi : 0 ≤ v ∧ v < s
      · have hin1 : insideN sh M (k + 1) = true := inside_step hin.out (by omega) (by rw [hmv, ← hs']; omega)
        have hpn : placeN sh M (k + 1) = q * s + v := by show placeN sh M k * _ + _ = _; rw [← hq, ← hs', hmv]
        have hbd := placeN_bd' (k + 1) hin1 (by rw [HL.out]; omega)
        have hpb := (HS.out.take (k + 1)).bd
        have hq0 : 0 ≤ q := by
          rcases placeN_bd' k hin.out (by rw [HL.out]; omega) with h | h
          · rw [hq]; exact h.1
          · subst h; rw [hq]; exact Int.le_refl _
        have hqs : 0 ≤ q * s := Int.mul_nonneg hq0 hsb.1
        have hw2 : IntKind.i64.wrap (q * s) = q * s := by rw [IntKind.wrap_i64]; rw [hpn] at hbd; omega
        have hw3 : IntKind.i64.wrap (q * s + v) = q * s + v := by rw [IntKind.wrap_i64]; rw [hpn] at hbd; omega
        have HWI : Hid (withinB v 0 (s - 1) = true) := decide_eq_true ⟨hvi.1, by omega⟩
        obtain ⟨t, ht⟩ : ∃ t, t = q * s := ⟨_, rfl⟩
        rw [← ht] at hw2 hw3 hpn
        have HPN := hide hpn
        have HQ := hide hq
        have HIN1 := hide hin1
        have ht2 : q * s = t := ht.symm
        rw [← hq]
        clear hbd hpb hqs hin1 hpn hq hs' hv hmv ht hin hvi hsb hq0 HS HMG
        go_wp2_with (first | (go_at_fn g; refine hcall.mono ?_; rintro e w2 ⟨rfl, hb2⟩; have HL2 := hide (hbl.out.trans (hb2.mono hbl.out.size)); clear hb2) | (go_at_call 50; refine (isWithin_eq _ _ _ _ true HWI).mono ?_; rintro e w' ⟨rfl, rfl⟩))
        go_roundw
        case rel => exact ⟨k + 1, by omega, by go_num, by rw [HPN.out], HIN1, HL2⟩
        case measure => simp [intOf]; omega
      · have hno : insideN sh M sh.length = false := inside_not (by rw [HL.out]; exact hlt) (by rw [hmv, ← hs']; exact hvi)
        obtain rfl : r = false := by rw [← hres.out, hno]
        obtain rfl : p = 0 := by rw [← hp.out]; rfl
        have HWI : Hid (withinB v 0 (s - 1) = false) := decide_eq_false (by omega)
        obtain ⟨q', hq'⟩ : ∃ q', q' = placeN sh M k := ⟨_, rfl⟩
        rw [← hq']
        clear hno hmv hs' hv hvi hsb hres hp hin HS HMG hq hq'
        go_wp2_with (first | (go_at_fn g; refine hcall.mono ?_; rintro e w2 ⟨rfl, hb2⟩; have HL2 := hide (hbl.out.trans (hb2.mono hbl.out.size)); clear hb2) | (go_at_call 50; refine (isWithin_eq _ _ _ _ false HWI).mono ?_; rintro e w' ⟨rfl, rfl⟩))
        go_ret2
        exact ⟨rfl, HL2.out⟩
    · have : k = n := by omega
      subst this
      have hfin : insideN sh M sh.length = true := by rw [HL.out]; exact hin.out
      obtain rfl : r = true := by rw [← hres.out, hfin]
      have hpp : placeN sh M k = p := by rw [← hp.out, if_pos rfl]; unfold place; rw [HL.out]
      rw [hpp]
      clear hfin hpp
      go_wp2
      go_ret2
      exact ⟨rfl, hbl.out⟩
end Go.Proofs.YtgjpchnkodnieaaGreatDoor
