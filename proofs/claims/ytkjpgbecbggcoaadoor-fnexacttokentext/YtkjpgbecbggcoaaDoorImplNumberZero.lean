import Derived.Test.YtkjpgbecbggcoaaDoorImplNumA
namespace Go.Proofs.YtkjpgbecbggcoaaDoor
open Go.RowKit

set_option maxRecDepth 20000 in
set_option maxHeartbeats 2000000 in
theorem readNumber_zero (t d r x : ByteArray) (H : Bool) (c l : Nat) (w : World) (hH : high t 0 = H) (hd : (if H = true then t.extract 2 t.size else t) = d) (hc : stretchN isD d = c) (hr : d.extract c d.size = r) (hx : d.extract 0 c = x) (hl : stretchN isL r = l) (hs : t.size ≤ 17592186044416) (h0 : c = 0) :
    Calls Tryd.prog 36 #[.string t] w fun e w' => e = .returned (readV 0 0 ⟨#[]⟩ 0 1) ∧ Below w.heap.size w w' := by
  have hds : d.size ≤ t.size := by
    rw [← hd]
    by_cases hh : H = true
    · rw [if_pos hh, tail_size]; omega
    · rw [if_neg hh]; exact Nat.le_refl _
  have hle : c ≤ d.size := by rw [← hc]; exact strTo_le _ _
  have hrs : r.size ≤ d.size := by rw [← hr, tail_size]; omega
  have hxs : x.size ≤ d.size := by rw [← hx, ByteArray.size_extract]; omega
  have hlr : l ≤ r.size := by rw [← hl]; exact strTo_le _ _
  obtain ⟨Q, hQ⟩ : ∃ Q, Q = w.alloc (.cells #[.int .i64 0, .int .i64 0, .string ⟨#[]⟩, .int .i64 0] 36) := ⟨_, rfl⟩
  have HQ := hide hQ
  have HBX : Hid (TBox Q w.heap.size (.int .i64 0) (.int .i64 0) (.string ⟨#[]⟩) (.int .i64 0)) := by rw [hQ]; exact TBox.new w _ _ _ _
  have HBQ : Hid (Below w.heap.size w Q) := by rw [hQ]; exact (Below.refl _ _).alloc (Nat.le_refl _) _
  clear hQ
  have HT := hide (trimPre_any t)
  have HS1 := hide (fun W => stretch_any 35 eg_d isD (fun v W => implDigit_any v W) d W (by omega))
  have HS2 := hide (fun W => stretch_any 38 eg_l isL (fun v W => implLetter_any v W) r W (by omega))
  have HP := hide (hasPre_any r)
  have hsl := fun W => run_sub1 (s := d) (q := c) hle W
  have hsx := fun W => run_sub0 (s := d) (q := c) hle W
  rw [hH, hd] at HT
  rw [hc] at HS1
  rw [hl] at HS2
  rw [hr] at hsl
  rw [hx] at hsx
  clear hH hd hc hr hx hl
  subst h0
  go_enter Tryd.func36, Tryd.ntmps36
  go_wp2_with (first | (go_at_call 47; rw [← unhide HQ]; refine (unhide HT _).mono ?_; rintro e w1 ⟨rfl, hw⟩; obtain rfl := hw.symm) | (go_at_call 48; refine (unhide HS1 _).mono ?_; rintro e w5 ⟨rfl, hb5⟩; have HB5 := hide ((unhide HBQ).trans (hb5.mono (unhide HBQ).size)); have HX5 := hide ((unhide HBX).below (Nat.le_refl _) hb5); clear hb5; obtain ⟨q0, q1, q2, q3, f0, f1, f2, f3⟩ := (unhide HX5).all))
  refine bodyPost_ret (v := readV 0 0 ⟨#[]⟩ 0 1) (by simp [results, Tryd.results36, go_sem, q0, q1, q2, q3, readV]) rfl ?_
  exact ⟨rfl, (((((unhide HB5).setCell (Nat.le_refl _) _).setCell (Nat.le_refl _) _).setCell (Nat.le_refl _) _).setCell (Nat.le_refl _) _)⟩

end Go.Proofs.YtkjpgbecbggcoaaDoor
