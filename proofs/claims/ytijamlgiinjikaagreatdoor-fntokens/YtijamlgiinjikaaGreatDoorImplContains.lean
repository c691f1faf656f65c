import Derived.Test.YtijamlgiinjikaaGreatDoorImplSign
namespace Go.Proofs.YtijamlgiinjikaaGreatDoor
open Go.RowKit

theorem contains_of (s : ByteArray) (v : Nat) (n : Int) (W : World) (h : Calls Tryz.prog 65 #[.string s, .int .i32 (v : Int)] W fun e w' => e = .returned (.int .i64 n) ∧ Below W.heap.size W w') :
    Calls Tryz.prog 52 #[.string s, .int .i32 (v : Int)] W fun e w' => e = .returned (.bool (decide (0 ≤ n))) ∧ Below W.heap.size W w' := by
  have H := hide h
  clear h
  go_enter Tryz.func52, Tryz.ntmps52
  go_wp2_with (go_at_call 65; refine (unhide H).mono ?_; rintro e w5 ⟨rfl, hb5⟩; have HB5 := hide hb5; clear hb5)
  go_ret
  exact ⟨ret_bool rfl, unhide HB5⟩

/-- No U+FFFD is read from a place on. -/
def noBad (s : ByteArray) : Nat → Nat → Bool
  | 0, _ => true
  | f + 1, i => if i < s.size then !(decide ((Utf8.decode s i).1 = 65533)) && noBad s f (i + (Utf8.decode s i).2) else true

set_option maxRecDepth 100000 in
theorem sgs_noBad : noBad sgs (sgs.size + 1) 0 = true := by kernel_rfl

set_option maxRecDepth 20000 in
set_option maxHeartbeats 2000000 in
/-- U+FFFD: the text is gone through; where no such character is read there is none. -/
theorem indexRune_bad (s : ByteArray) (w : World) (hno : noBad s (s.size + 1) 0 = true) :
    Calls Tryz.prog 65 #[.string s, .int .i32 65533] w fun e w' => e = .returned (.int .i64 (-1)) ∧ Below w.heap.size w w' := by
  have HN := hide hno
  clear hno
  go_enter Tryz.func65, Tryz.ntmps65
  go_wp2_with fail
  go_loopw [5] (fun _ w' => ∃ pos F : Nat, w' = w.iter s pos ∧ s.size - pos < F ∧ Hid (noBad s F pos = true)) (fun _ w' => s.size - w'.iterPos w.heap.size)
  case atStart => exact ⟨0, s.size + 1, rfl, by omega, HN⟩
  case round =>
    obtain ⟨pos, F, rfl, hF, HK⟩ := hrel
    obtain ⟨F', rfl⟩ : ∃ f, F = f + 1 := ⟨F - 1, by omega⟩
    by_cases hlt : pos < s.size
    · have hnx : ∀ ty, (Instr.next (.pointer (some ⟨w.heap.size, 0, none⟩)) true ty).run Tryz.prog (w.iter s pos) = _ := fun ty => run_next_any w s pos ty hlt
      have hwd := Lib.decode_width_pos s pos hlt
      obtain ⟨hne0, hk⟩ : ¬ (Utf8.decode s pos).1 = 65533 ∧ noBad s F' (pos + (Utf8.decode s pos).2) = true := by
        have := unhide HK
        rw [noBad, if_pos hlt, Bool.and_eq_true] at this
        exact ⟨by simpa using this.1, this.2⟩
      have hne : ¬ (((Utf8.decode s pos).1 : Nat) : Int) = 65533 := by omega
      clear hne0
      have HK2 := hide hk
      clear hk HK
      obtain ⟨v, hv⟩ : ∃ v, (Utf8.decode s pos).1 = v := ⟨_, rfl⟩
      obtain ⟨wd, hw⟩ : ∃ n, (Utf8.decode s pos).2 = n := ⟨_, rfl⟩
      rw [hv, hw] at hnx
      rw [hw] at hwd HK2
      rw [hv] at hne
      clear hv hw
      go_wp2_with fail
      go_roundw
      case rel => exact ⟨pos + wd, F', rfl, by omega, HK2⟩
      case measure => simp; omega
    · have hnx : ∀ ty, (Instr.next (.pointer (some ⟨w.heap.size, 0, none⟩)) true ty).run Tryz.prog (w.iter s pos) = _ := fun ty => run_next_end w s pos ty hlt
      go_wp2_with fail
      go_ret
      exact ⟨rfl, (Below.refl _ _).alloc (Nat.le_refl _) _⟩

end Go.Proofs.YtijamlgiinjikaaGreatDoor
