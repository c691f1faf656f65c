import Derived.Test.YtinndpnilmmmjaaGreatDoorMTxt
import Derived.Test.YtinndpnilmmmjaaGreatDoorMTxt
import Derived.Test.YtinndpnilmmmjaaGreatDoorMShelf
namespace Go.Proofs.YtinndpnilmmmjaaGreatDoor
open Go.RowKit

/-- What strings.ContainsRune says of the signs. -/
def SignsSaid (P : Nat → Bool) : Prop := ∀ (sg : ByteArray) (v : Nat) (W : World), sg = sgs → Utf8.valid (v : Int) = true → Calls Tryz.prog 190 #[.string sg, .int .i32 (v : Int)] W fun e w' => e = .returned (.bool (P v)) ∧ Below W.heap.size W w'

set_option maxRecDepth 100000 in
set_option maxHeartbeats 2000000 in
theorem readSign_of (P : Nat → Bool) (hP : SignsSaid P) (t : ByteArray) (w : World) (h0 : 0 < t.size) (hw : (Utf8.decode t 0).2 ≤ t.size) (hT : TabsAt w) :
    Calls Tryz.prog 156 #[.string t] w fun e w' => e = .returned (if P (Utf8.decode t 0).1 = true then readV 4 0 (t.extract 0 (Utf8.decode t 0).2) (Utf8.decode t 0).2 0 else readV 0 0 ⟨#[]⟩ 0 1) ∧ Below w.heap.size w w' := by
  obtain ⟨Q, hQ⟩ : ∃ Q, Q = w.alloc (.cells #[.int .i64 0, .int .i64 0, .string ⟨#[]⟩, .int .i64 0] 64) := ⟨_, rfl⟩
  have HQ := hide hQ
  have HBX : Hid (TBox Q w.heap.size (.int .i64 0) (.int .i64 0) (.string ⟨#[]⟩) (.int .i64 0)) := by rw [hQ]; exact TBox.new w _ _ _ _
  have HBQ : Hid (Below w.heap.size w Q) := by rw [hQ]; exact (Below.refl _ _).alloc (Nat.le_refl _) _
  clear hQ
  have HD := hide (decode_any t h0 Q (hT.below (unhide HBQ)))
  have hsl := fun W => run_sub0 (s := t) (q := (Utf8.decode t 0).2) hw W
  have hva := decode_valid t 0
  obtain ⟨v, hv⟩ : ∃ v, (Utf8.decode t 0).1 = v := ⟨_, rfl⟩
  rw [hv] at hva
  obtain ⟨c, hc⟩ : ∃ c, (Utf8.decode t 0).2 = c := ⟨_, rfl⟩
  rw [hv, hc] at HD ⊢
  rw [hc] at hsl
  obtain ⟨x, hx⟩ : ∃ x, t.extract 0 c = x := ⟨_, rfl⟩
  rw [hx] at hsl ⊢
  have HP : Hid (∀ (sg : ByteArray) (W : World), sg = sgs → Calls Tryz.prog 190 #[.string sg, .int .i32 (v : Int)] W fun e w' => e = .returned (.bool (P v)) ∧ Below W.heap.size W w') := hide fun sg W h => hP sg v W h hva
  clear hva hv hc hx hw hT h0 hP
  cases hp : P v with
  | true =>
    rw [hp] at HP
    rw [if_pos rfl]
    go_enter Tryz.func156, Tryz.ntmps156
    go_wp2_with (first | (go_at_call 175; rw [← unhide HQ]; refine (unhide HD).mono ?_; rintro e w5 ⟨rfl, hb5⟩; have HB5 := hide ((unhide HBQ).trans (hb5.mono (unhide HBQ).size)); have HX5 := hide ((unhide HBX).below (Nat.le_refl _) hb5); clear hb5) | (go_at_call 190; refine (unhide HP _ _ (by kernel_rfl)).mono ?_; rintro e w6 ⟨rfl, hb6⟩; have HB6 := hide ((unhide HB5).trans (hb6.mono (unhide HB5).size)); obtain ⟨q0, q1, q2, q3, f0, f1, f2, f3⟩ := ((unhide HX5).below (Nat.le_refl _) hb6).all; clear hb6))
    refine bodyPost_ret (v := readV 4 0 x c 0) (by simp [results, Tryz.results156, go_sem, q0, q1, q2, q3, readV]) rfl ?_
    exact ⟨rfl, (((((unhide HB6).setCell (Nat.le_refl _) _).setCell (Nat.le_refl _) _).setCell (Nat.le_refl _) _).setCell (Nat.le_refl _) _)⟩
  | false =>
    rw [hp] at HP
    rw [if_neg (by decide)]
    go_enter Tryz.func156, Tryz.ntmps156
    go_wp2_with (first | (go_at_call 175; rw [← unhide HQ]; refine (unhide HD).mono ?_; rintro e w5 ⟨rfl, hb5⟩; have HB5 := hide ((unhide HBQ).trans (hb5.mono (unhide HBQ).size)); have HX5 := hide ((unhide HBX).below (Nat.le_refl _) hb5); clear hb5) | (go_at_call 190; refine (unhide HP _ _ (by kernel_rfl)).mono ?_; rintro e w6 ⟨rfl, hb6⟩; have HB6 := hide ((unhide HB5).trans (hb6.mono (unhide HB5).size)); obtain ⟨q0, q1, q2, q3, f0, f1, f2, f3⟩ := ((unhide HX5).below (Nat.le_refl _) hb6).all; clear hb6))
    refine bodyPost_ret (v := readV 0 0 ⟨#[]⟩ 0 1) (by simp [results, Tryz.results156, go_sem, q0, q1, q2, q3, readV]) rfl ?_
    exact ⟨rfl, (((((unhide HB6).setCell (Nat.le_refl _) _).setCell (Nat.le_refl _) _).setCell (Nat.le_refl _) _).setCell (Nat.le_refl _) _)⟩

end Go.Proofs.YtinndpnilmmmjaaGreatDoor
namespace Go.Proofs.YtinndpnilmmmjaaGreatDoor
open Go.RowKit

theorem contains_of (s : ByteArray) (v : Nat) (n : Int) (W : World) (h : Calls Tryz.prog 214 #[.string s, .int .i32 (v : Int)] W fun e w' => e = .returned (.int .i64 n) ∧ Below W.heap.size W w') :
    Calls Tryz.prog 190 #[.string s, .int .i32 (v : Int)] W fun e w' => e = .returned (.bool (decide (0 ≤ n))) ∧ Below W.heap.size W w' := by
  have H := hide h
  clear h
  go_enter Tryz.func190, Tryz.ntmps190
  go_wp2_with (go_at_call 214; refine (unhide H).mono ?_; rintro e w5 ⟨rfl, hb5⟩; have HB5 := hide hb5; clear hb5)
  go_ret
  exact ⟨ret_bool rfl, unhide HB5⟩

/-- No U+FFFD is read from a place on. -/
def noBad (s : ByteArray) : Nat → Nat → Bool
  | 0, _ => true
  | f + 1, i => if i < s.size then !(decide ((Utf8.decode s i).1 = 65533)) && noBad s f (i + (Utf8.decode s i).2) else true

set_option maxRecDepth 100000 in
theorem sgs_noBad : noBad sgs (sgs.size + 1) 0 = true := by kernel_rfl

set_option maxRecDepth 20000 in
set_option maxHeartbeats 2000000 in
/-- U+FFFD: the text is gone through; where no such character is read there is none. -/
theorem indexRune_bad (s : ByteArray) (w : World) (hno : noBad s (s.size + 1) 0 = true) :
    Calls Tryz.prog 214 #[.string s, .int .i32 65533] w fun e w' => e = .returned (.int .i64 (-1)) ∧ Below w.heap.size w w' := by
  have HN := hide hno
  clear hno
  go_enter Tryz.func214, Tryz.ntmps214
  go_wp2_with fail
  go_loopw [5] (fun _ w' => ∃ pos F : Nat, w' = w.iter s pos ∧ s.size - pos < F ∧ Hid (noBad s F pos = true)) (fun _ w' => s.size - w'.iterPos w.heap.size)
  case atStart => exact ⟨0, s.size + 1, rfl, by omega, HN⟩
  case round =>
    obtain ⟨pos, F, rfl, hF, HK⟩ := hrel
    obtain ⟨F', rfl⟩ : ∃ f, F = f + 1 := ⟨F - 1, by omega⟩
    by_cases hlt : pos < s.size
    · have hnx : ∀ ty, (Instr.next (.pointer (some ⟨w.heap.size, 0, none⟩)) true ty).run Tryz.prog (w.iter s pos) = _ := fun ty => run_next_any w s pos ty hlt
      have hwd := Lib.decode_width_pos s pos hlt
      obtain ⟨hne0, hk⟩ : ¬ (Utf8.decode s pos).1 = 65533 ∧ noBad s F' (pos + (Utf8.decode s pos).2) = true := by
        have := unhide HK
        rw [noBad, if_pos hlt, Bool.and_eq_true] at this
        exact ⟨by simpa using this.1, this.2⟩
      have hne : ¬ (((Utf8.decode s pos).1 : Nat) : Int) = 65533 := by omega
      clear hne0
      have HK2 := hide hk
      clear hk HK
      obtain ⟨v, hv⟩ : ∃ v, (Utf8.decode s pos).1 = v := ⟨_, rfl⟩
      obtain ⟨wd, hw⟩ : ∃ n, (Utf8.decode s pos).2 = n := ⟨_, rfl⟩
      rw [hv, hw] at hnx
      rw [hw] at hwd HK2
      rw [hv] at hne
      clear hv hw
      go_wp2_with fail
      go_roundw
      case rel => exact ⟨pos + wd, F', rfl, by omega, HK2⟩
      case measure => simp; omega
    · have hnx : ∀ ty, (Instr.next (.pointer (some ⟨w.heap.size, 0, none⟩)) true ty).run Tryz.prog (w.iter s pos) = _ := fun ty => run_next_end w s pos ty hlt
      go_wp2_with fail
      go_ret
      exact ⟨rfl, (Below.refl _ _).alloc (Nat.le_refl _) _⟩

end Go.Proofs.YtinndpnilmmmjaaGreatDoor
namespace Go.Proofs.YtinndpnilmmmjaaGreatDoor
open Go.RowKit

set_option maxRecDepth 100000 in
theorem sgs_ascii : (List.range 128).all (fun v => decide (0 ≤ Lib.indexByte sgs.data.toList v.toUInt8) == decide (v ∈ signCs)) = true := by kernel_rfl

/-- What ContainsRune says of a character of one byte. -/
theorem contains_small (v : Nat) (hv : v < 128) (W : World) : Calls Tryz.prog 190 #[.string sgs, .int .i32 (v : Int)] W fun e w' => e = .returned (.bool (decide (v ∈ signCs))) ∧ Below W.heap.size W w' := by
  have hq : decide (0 ≤ Lib.indexByte sgs.data.toList v.toUInt8) = decide (v ∈ signCs) := by simpa using List.all_eq_true.1 sgs_ascii v (List.mem_range.2 hv)
  refine (Any.strings_ContainsRune_ascii Tryz.containsS sgs (v : Int) W (by omega) (by omega)).mono ?_
  rintro e w' ⟨rfl, rfl⟩
  rw [Int.toNat_natCast, hq]
  exact ⟨rfl, Below.refl _ _⟩

/-- .. and of U+FFFD. -/
theorem contains_bad (W : World) : Calls Tryz.prog 190 #[.string sgs, .int .i32 ((65533 : Nat) : Int)] W fun e w' => e = .returned (.bool (decide ((65533 : Nat) ∈ signCs))) ∧ Below W.heap.size W w' := by
  have h := contains_of sgs 65533 (-1) W (indexRune_bad sgs W sgs_noBad)
  have e : decide ((0 : Int) ≤ -1) = decide ((65533 : Nat) ∈ signCs) := by decide
  rw [e] at h
  exact h

end Go.Proofs.YtinndpnilmmmjaaGreatDoor
