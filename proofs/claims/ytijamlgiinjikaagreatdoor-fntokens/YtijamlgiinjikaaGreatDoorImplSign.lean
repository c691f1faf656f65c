import Derived.Test.YtijamlgiinjikaaGreatDoorImplTextA
import Derived.Test.YtijamlgiinjikaaGreatDoorSignMath
namespace Go.Proofs.YtijamlgiinjikaaGreatDoor
open Go.RowKit

/-- What strings.ContainsRune says of the signs. -/
def SignsSaid (P : Nat → Bool) : Prop := ∀ (sg : ByteArray) (v : Nat) (W : World), sg = sgs → Utf8.valid (v : Int) = true → Calls Tryz.prog 52 #[.string sg, .int .i32 (v : Int)] W fun e w' => e = .returned (.bool (P v)) ∧ Below W.heap.size W w'

set_option maxRecDepth 100000 in
set_option maxHeartbeats 2000000 in
theorem readSign_of (P : Nat → Bool) (hP : SignsSaid P) (t : ByteArray) (w : World) (h0 : 0 < t.size) (hw : (Utf8.decode t 0).2 ≤ t.size) (hT : TabsAt w) :
    Calls Tryz.prog 34 #[.string t] w fun e w' => e = .returned (if P (Utf8.decode t 0).1 = true then readV 4 0 (t.extract 0 (Utf8.decode t 0).2) (Utf8.decode t 0).2 0 else readV 0 0 ⟨#[]⟩ 0 1) ∧ Below w.heap.size w w' := by
  obtain ⟨Q, hQ⟩ : ∃ Q, Q = w.alloc (.cells #[.int .i64 0, .int .i64 0, .string ⟨#[]⟩, .int .i64 0] 30) := ⟨_, rfl⟩
  have HQ := hide hQ
  have HBX : Hid (TBox Q w.heap.size (.int .i64 0) (.int .i64 0) (.string ⟨#[]⟩) (.int .i64 0)) := by rw [hQ]; exact TBox.new w _ _ _ _
  have HBQ : Hid (Below w.heap.size w Q) := by rw [hQ]; exact (Below.refl _ _).alloc (Nat.le_refl _) _
  clear hQ
  have HD := hide (decode_any t h0 Q (hT.below (unhide HBQ)))
  have hsl := fun W => run_sub0 (s := t) (q := (Utf8.decode t 0).2) hw W
  have hva := decode_valid t 0
  obtain ⟨v, hv⟩ : ∃ v, (Utf8.decode t 0).1 = v := ⟨_, rfl⟩
  rw [hv] at hva
  obtain ⟨c, hc⟩ : ∃ c, (Utf8.decode t 0).2 = c := ⟨_, rfl⟩
  rw [hv, hc] at HD ⊢
  rw [hc] at hsl
  obtain ⟨x, hx⟩ : ∃ x, t.extract 0 c = x := ⟨_, rfl⟩
  rw [hx] at hsl ⊢
  have HP : Hid (∀ (sg : ByteArray) (W : World), sg = sgs → Calls Tryz.prog 52 #[.string sg, .int .i32 (v : Int)] W fun e w' => e = .returned (.bool (P v)) ∧ Below W.heap.size W w') := hide fun sg W h => hP sg v W h hva
  clear hva hv hc hx hw hT h0 hP
  cases hp : P v with
  | true =>
    rw [hp] at HP
    rw [if_pos rfl]
    go_enter Tryz.func34, Tryz.ntmps34
    go_wp2_with (first | (go_at_call 51; rw [← unhide HQ]; refine (unhide HD).mono ?_; rintro e w5 ⟨rfl, hb5⟩; have HB5 := hide ((unhide HBQ).trans (hb5.mono (unhide HBQ).size)); have HX5 := hide ((unhide HBX).below (Nat.le_refl _) hb5); clear hb5) | (go_at_call 52; refine (unhide HP _ _ (by kernel_rfl)).mono ?_; rintro e w6 ⟨rfl, hb6⟩; have HB6 := hide ((unhide HB5).trans (hb6.mono (unhide HB5).size)); obtain ⟨q0, q1, q2, q3, f0, f1, f2, f3⟩ := ((unhide HX5).below (Nat.le_refl _) hb6).all; clear hb6))
    refine bodyPost_ret (v := readV 4 0 x c 0) (by simp [results, Tryz.results34, go_sem, q0, q1, q2, q3, readV]) rfl ?_
    exact ⟨rfl, (((((unhide HB6).setCell (Nat.le_refl _) _).setCell (Nat.le_refl _) _).setCell (Nat.le_refl _) _).setCell (Nat.le_refl _) _)⟩
  | false =>
    rw [hp] at HP
    rw [if_neg (by decide)]
    go_enter Tryz.func34, Tryz.ntmps34
    go_wp2_with (first | (go_at_call 51; rw [← unhide HQ]; refine (unhide HD).mono ?_; rintro e w5 ⟨rfl, hb5⟩; have HB5 := hide ((unhide HBQ).trans (hb5.mono (unhide HBQ).size)); have HX5 := hide ((unhide HBX).below (Nat.le_refl _) hb5); clear hb5) | (go_at_call 52; refine (unhide HP _ _ (by kernel_rfl)).mono ?_; rintro e w6 ⟨rfl, hb6⟩; have HB6 := hide ((unhide HB5).trans (hb6.mono (unhide HB5).size)); obtain ⟨q0, q1, q2, q3, f0, f1, f2, f3⟩ := ((unhide HX5).below (Nat.le_refl _) hb6).all; clear hb6))
    refine bodyPost_ret (v := readV 0 0 ⟨#[]⟩ 0 1) (by simp [results, Tryz.results34, go_sem, q0, q1, q2, q3, readV]) rfl ?_
    exact ⟨rfl, (((((unhide HB6).setCell (Nat.le_refl _) _).setCell (Nat.le_refl _) _).setCell (Nat.le_refl _) _).setCell (Nat.le_refl _) _)⟩

end Go.Proofs.YtijamlgiinjikaaGreatDoor
