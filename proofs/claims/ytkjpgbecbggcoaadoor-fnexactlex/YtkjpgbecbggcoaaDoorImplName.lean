import Derived.Test.YtkjpgbecbggcoaaDoorStretchMath
import Derived.Test.YtkjpgbecbggcoaaDoorMFit0
namespace Go.Proofs.YtkjpgbecbggcoaaDoor
open Go.RowKit

/-- Block p holds a token. -/
def TBox (w : World) (p : Nat) (v0 v1 v2 v3 : Value) : Prop := w.heap[p]? = some (.cells #[v0, v1, v2, v3] 36 (0, 0))

theorem TBox.all {w : World} {p : Nat} {v0 v1 v2 v3 : Value} (h : TBox w p v0 v1 v2 v3) : w.cell? ⟨p, 0, none⟩ = some v0 ∧ w.cell? ⟨p, 1, none⟩ = some v1 ∧ w.cell? ⟨p, 2, none⟩ = some v2 ∧ w.cell? ⟨p, 3, none⟩ = some v3 ∧ w.frozen? ⟨p, 0, none⟩ = false ∧ w.frozen? ⟨p, 1, none⟩ = false ∧ w.frozen? ⟨p, 2, none⟩ = false ∧ w.frozen? ⟨p, 3, none⟩ = false := by
  unfold TBox at h
  refine ⟨?_, ?_, ?_, ?_, frozen_of_row w p 0 _ _ h, frozen_of_row w p 1 _ _ h, frozen_of_row w p 2 _ _ h, frozen_of_row w p 3 _ _ h⟩ <;> simp [World.cell?, h]

theorem TBox.lt {w : World} {p : Nat} {v0 v1 v2 v3 : Value} (h : TBox w p v0 v1 v2 v3) : p < w.heap.size := lt_of_block h

theorem TBox.below {w w' : World} {p B : Nat} {v0 v1 v2 v3 : Value} (h : TBox w p v0 v1 v2 v3) (hB : w.heap.size ≤ B) (hb : Below B w w') : TBox w' p v0 v1 v2 v3 := (hb.block p (Nat.lt_of_lt_of_le h.lt hB)).trans h

theorem TBox.new (w : World) (v0 v1 v2 v3 : Value) : TBox (w.alloc (.cells #[v0, v1, v2, v3] 36 (0, 0))) w.heap.size v0 v1 v2 v3 := by
  show (w.heap.push _)[w.heap.size]? = _
  simp

/-- What a reader of a token gives: the token, how many bytes it has, and a code. -/
def readV (k n : Int) (t : ByteArray) (wd : Nat) (c : Int) : Value := .tuple #[.agg #[.int .i64 k, .int .i64 n, .string t, .int .i64 0], .int .i64 (wd : Nat), .int .i64 c]

theorem run_sub0 {s : ByteArray} {q : Nat} (h2 : q ≤ s.size) (W : World) : (Instr.slice 9 (.string s) none (some (.int .i64 (q : Nat))) none).run Tryd.prog W = .ok (.string (s.extract 0 q)) W := by
  have h3 : (q : Int) ≤ (s.size : Int) := by omega
  go_simp

theorem strTo_le {p : Nat → Bool} {s : ByteArray} : ∀ (F i : Nat), strTo p s F i ≤ s.size
  | 0, _ => Nat.le_refl _
  | F + 1, i => by
    rw [strTo]
    split
    · split
      · exact strTo_le F _
      · omega
    · exact Nat.le_refl _

theorem eg_ld : ∀ args w, (callFunc 56 args).run Tryd.prog w = .ok (.enter 56 args) w := enters_of Tryd.func56 (by kernel_rfl) rfl
theorem eg_d : ∀ args w, (callFunc 35 args).run Tryd.prog w = .ok (.enter 35 args) w := enters_of Tryd.func35 (by kernel_rfl) rfl
theorem eg_l : ∀ args w, (callFunc 38 args).run Tryd.prog w = .ok (.enter 38 args) w := enters_of Tryd.func38 (by kernel_rfl) rfl

set_option maxRecDepth 20000 in
set_option maxHeartbeats 2000000 in
theorem readName_any (t : ByteArray) (w : World) (hs : t.size ≤ 17592186044416) :
    Calls Tryd.prog 39 #[.string t] w fun e w' => e = .returned (if 20 < stretchN isLD t then readV 0 0 ⟨#[]⟩ 0 1 else readV 3 0 (t.extract 0 (stretchN isLD t)) (stretchN isLD t) 0) ∧ Below w.heap.size w w' := by
  obtain ⟨Q, hQ⟩ : ∃ Q, Q = w.alloc (.cells #[.int .i64 0, .int .i64 0, .string ⟨#[]⟩, .int .i64 0] 36) := ⟨_, rfl⟩
  have HQ := hide hQ
  have HBX : Hid (TBox Q w.heap.size (.int .i64 0) (.int .i64 0) (.string ⟨#[]⟩) (.int .i64 0)) := by rw [hQ]; exact TBox.new w _ _ _ _
  have HBQ : Hid (Below w.heap.size w Q) := by rw [hQ]; exact (Below.refl _ _).alloc (Nat.le_refl _) _
  clear hQ
  have HST := hide (stretch_any 56 eg_ld isLD (fun v W => implLD_any v W) t Q hs)
  have hle : stretchN isLD t ≤ t.size := strTo_le _ _
  have hsl := fun W => run_sub0 (s := t) (q := stretchN isLD t) hle W
  obtain ⟨c, hc⟩ : ∃ c, stretchN isLD t = c := ⟨_, rfl⟩
  rw [hc] at HST hsl hle ⊢
  clear hc
  obtain ⟨x, hx⟩ : ∃ x, t.extract 0 c = x := ⟨_, rfl⟩
  rw [hx] at hsl ⊢
  clear hx
  by_cases h20 : 20 < c
  · rw [if_pos h20]
    have h20i : (20 : Int) < (c : Int) := by omega
    go_enter Tryd.func39, Tryd.ntmps39
    go_wp2_with (go_at_call 48; rw [← unhide HQ]; refine (unhide HST).mono ?_; rintro e w5 ⟨rfl, hb5⟩; obtain ⟨q0, q1, q2, q3, f0, f1, f2, f3⟩ := ((unhide HBX).below (Nat.le_refl _) hb5).all; have HB5 := hide ((unhide HBQ).trans (hb5.mono (unhide HBQ).size)); clear hb5)
    refine bodyPost_ret (v := readV 0 0 ⟨#[]⟩ 0 1) (by simp [results, Tryd.results39, go_sem, q0, q1, q2, q3, readV]) rfl ?_
    exact ⟨rfl, (((((unhide HB5).setCell (Nat.le_refl _) _).setCell (Nat.le_refl _) _).setCell (Nat.le_refl _) _).setCell (Nat.le_refl _) _)⟩
  · rw [if_neg h20]
    have h20i : ¬ (20 : Int) < (c : Int) := by omega
    go_enter Tryd.func39, Tryd.ntmps39
    go_wp2_with (go_at_call 48; rw [← unhide HQ]; refine (unhide HST).mono ?_; rintro e w5 ⟨rfl, hb5⟩; obtain ⟨q0, q1, q2, q3, f0, f1, f2, f3⟩ := ((unhide HBX).below (Nat.le_refl _) hb5).all; have HB5 := hide ((unhide HBQ).trans (hb5.mono (unhide HBQ).size)); clear hb5)
    refine bodyPost_ret (v := readV 3 0 x c 0) (by simp [results, Tryd.results39, go_sem, q0, q1, q2, q3, readV]) rfl ?_
    exact ⟨rfl, (((((unhide HB5).setCell (Nat.le_refl _) _).setCell (Nat.le_refl _) _).setCell (Nat.le_refl _) _).setCell (Nat.le_refl _) _)⟩

end Go.Proofs.YtkjpgbecbggcoaaDoor
