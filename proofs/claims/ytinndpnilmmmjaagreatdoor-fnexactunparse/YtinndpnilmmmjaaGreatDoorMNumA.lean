import Derived.Test.YtinndpnilmmmjaaGreatDoorMLexA
import Derived.Test.YtinndpnilmmmjaaGreatDoorMLexA
import Derived.Test.YtinndpnilmmmjaaGreatDoorMLexA
import Derived.Test.YtinndpnilmmmjaaGreatDoorMShelf
import Derived.Test.YtinndpnilmmmjaaGreatDoorMShelf
import Derived.Test.YtinndpnilmmmjaaGreatDoorMShelf
import Derived.Test.YtinndpnilmmmjaaGreatDoorSpecNumber
namespace Go.Proofs.YtinndpnilmmmjaaGreatDoor
open Go.RowKit

theorem trimPre_any (t : ByteArray) (w : World) : Calls Tryz.prog 182 #[.string t, .string ⟨#[194, 175]⟩] w fun e w' => e = .returned (.string (if high t 0 = true then t.extract 2 t.size else t)) ∧ w' = w := by
  have h := Any.strings_TrimPrefix Tryz.trimPreS t ⟨#[194, 175]⟩ w
  rw [trim_starts, starts_high] at h
  exact h

theorem hasPre_any (t : ByteArray) (w : World) : Calls Tryz.prog 184 #[.string t, .string ⟨#[194, 175]⟩] w fun e w' => e = .returned (.bool (high t 0)) ∧ w' = w := by
  have h := Any.strings_HasPrefix Tryz.hasPreS t ⟨#[194, 175]⟩ w
  rw [pre_starts, starts_high] at h
  exact h

/-- Where strconv.ErrRange lies. -/
def RangeAt (w : World) : Prop := ∃ ev, w.cell? ⟨Tryz.atoiS_ren.g 16, 0, none⟩ = some ev ∧ (ev = .nilIface ∨ ∃ te pe, ev = .iface te pe)

theorem RangeAt.below {w w' : World} (h : RangeAt w) (hb : Below w.heap.size w w') : RangeAt w' := by
  obtain ⟨ev, h1, h2⟩ := h
  exact ⟨ev, (hb.cell (show (⟨Tryz.atoiS_ren.g 16, 0, none⟩ : Addr).block < w.heap.size from Lib.lt_of_cell h1)).trans h1, h2⟩

theorem atoi_ok (x : ByteArray) (n : Nat) (hs : x.size ≤ 17592186044416) (h : Lib.atoiAll x.data.toList = .ok (n : Int)) (w : World) : Calls Tryz.prog 185 #[.string x] w fun e w' => e = .returned (.tuple #[.int .i64 (n : Int), .nilIface]) ∧ Below w.heap.size w w' := by
  refine (Any.strconv_Atoi_ok Tryz.atoiS x (by omega) n h w).mono ?_
  rintro e w' ⟨rfl, hw⟩
  refine ⟨rfl, ?_⟩
  rcases hw with rfl | ⟨t, rfl⟩
  · exact Below.refl _ _
  · exact Lib.bytesWorld_below _ _ _

theorem atoi_range (x : ByteArray) (hs : x.size ≤ 17592186044416) (h : Lib.atoiAll x.data.toList = .range) (w : World) (hR : RangeAt w) : Calls Tryz.prog 185 #[.string x] w fun e w' => ∃ n ty p, e = .returned (.tuple #[.int .i64 n, .iface ty p]) ∧ Below w.heap.size w w' := by
  obtain ⟨ev, h1, h2⟩ := hR
  refine (Any.strconv_Atoi_range Tryz.atoiS x (by omega) h ev w h1 h2).mono ?_
  rintro e w' ⟨N, rfl, -, -, hb⟩
  exact ⟨_, _, _, rfl, hb⟩

theorem run_sub1 {s : ByteArray} {q : Nat} (h2 : q ≤ s.size) (W : World) : (Instr.slice 9 (.string s) (some (.int .i64 (q : Nat))) none none).run Tryz.prog W = .ok (.string (s.extract q s.size)) W := by
  have h3 : (q : Int) ≤ (s.size : Int) := by omega
  go_simp

end Go.Proofs.YtinndpnilmmmjaaGreatDoor
namespace Go.Proofs.YtinndpnilmmmjaaGreatDoor
open Go.RowKit

set_option maxRecDepth 20000 in
set_option maxHeartbeats 2000000 in
theorem readNumber_zero (t d r x : ByteArray) (H : Bool) (c l : Nat) (w : World) (hH : high t 0 = H) (hd : (if H = true then t.extract 2 t.size else t) = d) (hc : stretchN isD d = c) (hr : d.extract c d.size = r) (hx : d.extract 0 c = x) (hl : stretchN isL r = l) (hs : t.size ≤ 17592186044416) (h0 : c = 0) :
    Calls Tryz.prog 152 #[.string t] w fun e w' => e = .returned (readV 0 0 ⟨#[]⟩ 0 1) ∧ Below w.heap.size w w' := by
  have hds : d.size ≤ t.size := by
    rw [← hd]
    by_cases hh : H = true
    · rw [if_pos hh, tail_size]; omega
    · rw [if_neg hh]; exact Nat.le_refl _
  have hle : c ≤ d.size := by rw [← hc]; exact strTo_le _ _
  have hrs : r.size ≤ d.size := by rw [← hr, tail_size]; omega
  have hxs : x.size ≤ d.size := by rw [← hx, ByteArray.size_extract]; omega
  have hlr : l ≤ r.size := by rw [← hl]; exact strTo_le _ _
  obtain ⟨Q, hQ⟩ : ∃ Q, Q = w.alloc (.cells #[.int .i64 0, .int .i64 0, .string ⟨#[]⟩, .int .i64 0] 64) := ⟨_, rfl⟩
  have HQ := hide hQ
  have HBX : Hid (TBox Q w.heap.size (.int .i64 0) (.int .i64 0) (.string ⟨#[]⟩) (.int .i64 0)) := by rw [hQ]; exact TBox.new w _ _ _ _
  have HBQ : Hid (Below w.heap.size w Q) := by rw [hQ]; exact (Below.refl _ _).alloc (Nat.le_refl _) _
  clear hQ
  have HT := hide (trimPre_any t)
  have HS1 := hide (fun W => stretch_any 151 eg_d isD (fun v W => implDigit_any v W) d W (by omega))
  have HS2 := hide (fun W => stretch_any 154 eg_l isL (fun v W => implLetter_any v W) r W (by omega))
  have HP := hide (hasPre_any r)
  have hsl := fun W => run_sub1 (s := d) (q := c) hle W
  have hsx := fun W => run_sub0 (s := d) (q := c) hle W
  rw [hH, hd] at HT
  rw [hc] at HS1
  rw [hl] at HS2
  rw [hr] at hsl
  rw [hx] at hsx
  clear hH hd hc hr hx hl
  subst h0
  go_enter Tryz.func152, Tryz.ntmps152
  go_wp2_with (first | (go_at_call 182; rw [← unhide HQ]; refine (unhide HT _).mono ?_; rintro e w1 ⟨rfl, hw⟩; obtain rfl := hw.symm) | (go_at_call 183; refine (unhide HS1 _).mono ?_; rintro e w5 ⟨rfl, hb5⟩; have HB5 := hide ((unhide HBQ).trans (hb5.mono (unhide HBQ).size)); have HX5 := hide ((unhide HBX).below (Nat.le_refl _) hb5); clear hb5; obtain ⟨q0, q1, q2, q3, f0, f1, f2, f3⟩ := (unhide HX5).all))
  refine bodyPost_ret (v := readV 0 0 ⟨#[]⟩ 0 1) (by simp [results, Tryz.results152, go_sem, q0, q1, q2, q3, readV]) rfl ?_
  exact ⟨rfl, (((((unhide HB5).setCell (Nat.le_refl _) _).setCell (Nat.le_refl _) _).setCell (Nat.le_refl _) _).setCell (Nat.le_refl _) _)⟩

end Go.Proofs.YtinndpnilmmmjaaGreatDoor
namespace Go.Proofs.YtinndpnilmmmjaaGreatDoor
open Go.RowKit

set_option maxRecDepth 20000 in
set_option maxHeartbeats 2000000 in
theorem readNumber_letter (t d r x : ByteArray) (H : Bool) (c l : Nat) (w : World) (hH : high t 0 = H) (hd : (if H = true then t.extract 2 t.size else t) = d) (hc : stretchN isD d = c) (hr : d.extract c d.size = r) (hx : d.extract 0 c = x) (hl : stretchN isL r = l) (hs : t.size ≤ 17592186044416) (h0 : c ≠ 0) (h1 : 0 < l) :
    Calls Tryz.prog 152 #[.string t] w fun e w' => e = .returned (readV 0 0 ⟨#[]⟩ 0 1) ∧ Below w.heap.size w w' := by
  have hds : d.size ≤ t.size := by
    rw [← hd]
    by_cases hh : H = true
    · rw [if_pos hh, tail_size]; omega
    · rw [if_neg hh]; exact Nat.le_refl _
  have hle : c ≤ d.size := by rw [← hc]; exact strTo_le _ _
  have hrs : r.size ≤ d.size := by rw [← hr, tail_size]; omega
  have hxs : x.size ≤ d.size := by rw [← hx, ByteArray.size_extract]; omega
  have hlr : l ≤ r.size := by rw [← hl]; exact strTo_le _ _
  obtain ⟨Q, hQ⟩ : ∃ Q, Q = w.alloc (.cells #[.int .i64 0, .int .i64 0, .string ⟨#[]⟩, .int .i64 0] 64) := ⟨_, rfl⟩
  have HQ := hide hQ
  have HBX : Hid (TBox Q w.heap.size (.int .i64 0) (.int .i64 0) (.string ⟨#[]⟩) (.int .i64 0)) := by rw [hQ]; exact TBox.new w _ _ _ _
  have HBQ : Hid (Below w.heap.size w Q) := by rw [hQ]; exact (Below.refl _ _).alloc (Nat.le_refl _) _
  clear hQ
  have HT := hide (trimPre_any t)
  have HS1 := hide (fun W => stretch_any 151 eg_d isD (fun v W => implDigit_any v W) d W (by omega))
  have HS2 := hide (fun W => stretch_any 154 eg_l isL (fun v W => implLetter_any v W) r W (by omega))
  have HP := hide (hasPre_any r)
  have hsl := fun W => run_sub1 (s := d) (q := c) hle W
  have hsx := fun W => run_sub0 (s := d) (q := c) hle W
  rw [hH, hd] at HT
  rw [hc] at HS1
  rw [hl] at HS2
  rw [hr] at hsl
  rw [hx] at hsx
  clear hH hd hc hr hx hl
  have h0i : ¬ (c : Int) = 0 := by omega
  have h1i : (0 : Int) < (l : Int) := by omega
  go_enter Tryz.func152, Tryz.ntmps152
  go_wp2_with (first | (go_at_call 182; rw [← unhide HQ]; refine (unhide HT _).mono ?_; rintro e w1 ⟨rfl, hw⟩; obtain rfl := hw.symm) | (have hz5 := HB5; clear hz5; go_at_call 183; refine (unhide HS2 _).mono ?_; rintro e w6 ⟨rfl, hb6⟩; have HB6 := hide ((unhide HB5).trans (hb6.mono (unhide HB5).size)); have HX6 := hide ((unhide HX5).below (Nat.le_refl _) hb6); clear hb6; obtain ⟨q0, q1, q2, q3, f0, f1, f2, f3⟩ := (unhide HX6).all) | (go_at_call 183; refine (unhide HS1 _).mono ?_; rintro e w5 ⟨rfl, hb5⟩; have HB5 := hide ((unhide HBQ).trans (hb5.mono (unhide HBQ).size)); have HX5 := hide ((unhide HBX).below (Nat.le_refl _) hb5); clear hb5))
  refine bodyPost_ret (v := readV 0 0 ⟨#[]⟩ 0 1) (by simp [results, Tryz.results152, go_sem, q0, q1, q2, q3, readV]) rfl ?_
  exact ⟨rfl, (((((unhide HB6).setCell (Nat.le_refl _) _).setCell (Nat.le_refl _) _).setCell (Nat.le_refl _) _).setCell (Nat.le_refl _) _)⟩

end Go.Proofs.YtinndpnilmmmjaaGreatDoor
namespace Go.Proofs.YtinndpnilmmmjaaGreatDoor
open Go.RowKit

set_option maxRecDepth 20000 in
set_option maxHeartbeats 2000000 in
theorem readNumber_mark (t d r x : ByteArray) (H : Bool) (c l : Nat) (w : World) (hH : high t 0 = H) (hd : (if H = true then t.extract 2 t.size else t) = d) (hc : stretchN isD d = c) (hr : d.extract c d.size = r) (hx : d.extract 0 c = x) (hl : stretchN isL r = l) (hs : t.size ≤ 17592186044416) (h0 : c ≠ 0) (h1 : l = 0) (h2 : high r 0 = true) :
    Calls Tryz.prog 152 #[.string t] w fun e w' => e = .returned (readV 0 0 ⟨#[]⟩ 0 1) ∧ Below w.heap.size w w' := by
  have hds : d.size ≤ t.size := by
    rw [← hd]
    by_cases hh : H = true
    · rw [if_pos hh, tail_size]; omega
    · rw [if_neg hh]; exact Nat.le_refl _
  have hle : c ≤ d.size := by rw [← hc]; exact strTo_le _ _
  have hrs : r.size ≤ d.size := by rw [← hr, tail_size]; omega
  have hxs : x.size ≤ d.size := by rw [← hx, ByteArray.size_extract]; omega
  have hlr : l ≤ r.size := by rw [← hl]; exact strTo_le _ _
  obtain ⟨Q, hQ⟩ : ∃ Q, Q = w.alloc (.cells #[.int .i64 0, .int .i64 0, .string ⟨#[]⟩, .int .i64 0] 64) := ⟨_, rfl⟩
  have HQ := hide hQ
  have HBX : Hid (TBox Q w.heap.size (.int .i64 0) (.int .i64 0) (.string ⟨#[]⟩) (.int .i64 0)) := by rw [hQ]; exact TBox.new w _ _ _ _
  have HBQ : Hid (Below w.heap.size w Q) := by rw [hQ]; exact (Below.refl _ _).alloc (Nat.le_refl _) _
  clear hQ
  have HT := hide (trimPre_any t)
  have HS1 := hide (fun W => stretch_any 151 eg_d isD (fun v W => implDigit_any v W) d W (by omega))
  have HS2 := hide (fun W => stretch_any 154 eg_l isL (fun v W => implLetter_any v W) r W (by omega))
  have HP := hide (hasPre_any r)
  have hsl := fun W => run_sub1 (s := d) (q := c) hle W
  have hsx := fun W => run_sub0 (s := d) (q := c) hle W
  rw [hH, hd] at HT
  rw [hc] at HS1
  rw [hl] at HS2
  rw [hr] at hsl
  rw [hx] at hsx
  clear hH hd hc hr hx hl
  have h0i : ¬ (c : Int) = 0 := by omega
  subst h1
  rw [h2] at HP
  clear h2
  go_enter Tryz.func152, Tryz.ntmps152
  go_wp2_with (first | (go_at_call 182; rw [← unhide HQ]; refine (unhide HT _).mono ?_; rintro e w1 ⟨rfl, hw⟩; obtain rfl := hw.symm) | (have hz5 := HB5; clear hz5; go_at_call 183; refine (unhide HS2 _).mono ?_; rintro e w6 ⟨rfl, hb6⟩; have HB6 := hide ((unhide HB5).trans (hb6.mono (unhide HB5).size)); have HX6 := hide ((unhide HX5).below (Nat.le_refl _) hb6); clear hb6; obtain ⟨q0, q1, q2, q3, f0, f1, f2, f3⟩ := (unhide HX6).all) | (go_at_call 183; refine (unhide HS1 _).mono ?_; rintro e w5 ⟨rfl, hb5⟩; have HB5 := hide ((unhide HBQ).trans (hb5.mono (unhide HBQ).size)); have HX5 := hide ((unhide HBX).below (Nat.le_refl _) hb5); clear hb5) | (go_at_call 184; refine (unhide HP _).mono ?_; rintro e w1 ⟨rfl, hw⟩; obtain rfl := hw.symm))
  refine bodyPost_ret (v := readV 0 0 ⟨#[]⟩ 0 1) (by simp [results, Tryz.results152, go_sem, q0, q1, q2, q3, readV]) rfl ?_
  exact ⟨rfl, (((((unhide HB6).setCell (Nat.le_refl _) _).setCell (Nat.le_refl _) _).setCell (Nat.le_refl _) _).setCell (Nat.le_refl _) _)⟩

end Go.Proofs.YtinndpnilmmmjaaGreatDoor
namespace Go.Proofs.YtinndpnilmmmjaaGreatDoor
open Go.RowKit

set_option maxRecDepth 20000 in
set_option maxHeartbeats 2000000 in
theorem readNumber_big (t d r x : ByteArray) (H : Bool) (c l : Nat) (n : Nat) (w : World) (hH : high t 0 = H) (hd : (if H = true then t.extract 2 t.size else t) = d) (hc : stretchN isD d = c) (hr : d.extract c d.size = r) (hx : d.extract 0 c = x) (hl : stretchN isL r = l) (hs : t.size ≤ 17592186044416) (h0 : c ≠ 0) (h1 : l = 0) (h2 : high r 0 = false) (h3 : Lib.atoiAll x.data.toList = .ok (n : Int)) (h4 : 1000000000000000 < n) :
    Calls Tryz.prog 152 #[.string t] w fun e w' => e = .returned (readV 0 0 ⟨#[]⟩ 0 7) ∧ Below w.heap.size w w' := by
  have hds : d.size ≤ t.size := by
    rw [← hd]
    by_cases hh : H = true
    · rw [if_pos hh, tail_size]; omega
    · rw [if_neg hh]; exact Nat.le_refl _
  have hle : c ≤ d.size := by rw [← hc]; exact strTo_le _ _
  have hrs : r.size ≤ d.size := by rw [← hr, tail_size]; omega
  have hxs : x.size ≤ d.size := by rw [← hx, ByteArray.size_extract]; omega
  have hlr : l ≤ r.size := by rw [← hl]; exact strTo_le _ _
  obtain ⟨Q, hQ⟩ : ∃ Q, Q = w.alloc (.cells #[.int .i64 0, .int .i64 0, .string ⟨#[]⟩, .int .i64 0] 64) := ⟨_, rfl⟩
  have HQ := hide hQ
  have HBX : Hid (TBox Q w.heap.size (.int .i64 0) (.int .i64 0) (.string ⟨#[]⟩) (.int .i64 0)) := by rw [hQ]; exact TBox.new w _ _ _ _
  have HBQ : Hid (Below w.heap.size w Q) := by rw [hQ]; exact (Below.refl _ _).alloc (Nat.le_refl _) _
  clear hQ
  have HT := hide (trimPre_any t)
  have HS1 := hide (fun W => stretch_any 151 eg_d isD (fun v W => implDigit_any v W) d W (by omega))
  have HS2 := hide (fun W => stretch_any 154 eg_l isL (fun v W => implLetter_any v W) r W (by omega))
  have HP := hide (hasPre_any r)
  have hsl := fun W => run_sub1 (s := d) (q := c) hle W
  have hsx := fun W => run_sub0 (s := d) (q := c) hle W
  rw [hH, hd] at HT
  rw [hc] at HS1
  rw [hl] at HS2
  rw [hr] at hsl
  rw [hx] at hsx
  clear hH hd hc hr hx hl
  have h0i : ¬ (c : Int) = 0 := by omega
  subst h1
  rw [h2] at HP
  clear h2
  have h4i : (1000000000000000 : Int) < (n : Int) := by omega
  have HA := hide (fun W => atoi_ok x n (by omega) h3 W)
  clear h3
  go_enter Tryz.func152, Tryz.ntmps152
  go_wp2_with (first | (go_at_call 182; rw [← unhide HQ]; refine (unhide HT _).mono ?_; rintro e w1 ⟨rfl, hw⟩; obtain rfl := hw.symm) | (have hz5 := HB5; clear hz5; go_at_call 183; refine (unhide HS2 _).mono ?_; rintro e w6 ⟨rfl, hb6⟩; have HB6 := hide ((unhide HB5).trans (hb6.mono (unhide HB5).size)); have HX6 := hide ((unhide HX5).below (Nat.le_refl _) hb6); clear hb6) | (go_at_call 183; refine (unhide HS1 _).mono ?_; rintro e w5 ⟨rfl, hb5⟩; have HB5 := hide ((unhide HBQ).trans (hb5.mono (unhide HBQ).size)); have HX5 := hide ((unhide HBX).below (Nat.le_refl _) hb5); clear hb5) | (go_at_call 184; refine (unhide HP _).mono ?_; rintro e w1 ⟨rfl, hw⟩; obtain rfl := hw.symm) | (go_at_call 185; refine (unhide HA _).mono ?_; rintro e w7 ⟨rfl, hb7⟩; have HB7 := hide ((unhide HB6).trans (hb7.mono (unhide HB6).size)); obtain ⟨q0, q1, q2, q3, f0, f1, f2, f3⟩ := ((unhide HX6).below (Nat.le_refl _) hb7).all; clear hb7))
  refine bodyPost_ret (v := readV 0 0 ⟨#[]⟩ 0 7) (by simp [results, Tryz.results152, go_sem, q0, q1, q2, q3, readV]) rfl ?_
  exact ⟨rfl, (((((unhide HB7).setCell (Nat.le_refl _) _).setCell (Nat.le_refl _) _).setCell (Nat.le_refl _) _).setCell (Nat.le_refl _) _)⟩

end Go.Proofs.YtinndpnilmmmjaaGreatDoor
namespace Go.Proofs.YtinndpnilmmmjaaGreatDoor
open Go.RowKit

set_option maxRecDepth 20000 in
set_option maxHeartbeats 2000000 in
theorem readNumber_range (t d r x : ByteArray) (H : Bool) (c l : Nat) (w : World) (hH : high t 0 = H) (hd : (if H = true then t.extract 2 t.size else t) = d) (hc : stretchN isD d = c) (hr : d.extract c d.size = r) (hx : d.extract 0 c = x) (hl : stretchN isL r = l) (hs : t.size ≤ 17592186044416) (h0 : c ≠ 0) (h1 : l = 0) (h2 : high r 0 = false) (h3 : Lib.atoiAll x.data.toList = .range) (hR : RangeAt w) :
    Calls Tryz.prog 152 #[.string t] w fun e w' => e = .returned (readV 0 0 ⟨#[]⟩ 0 7) ∧ Below w.heap.size w w' := by
  have hds : d.size ≤ t.size := by
    rw [← hd]
    by_cases hh : H = true
    · rw [if_pos hh, tail_size]; omega
    · rw [if_neg hh]; exact Nat.le_refl _
  have hle : c ≤ d.size := by rw [← hc]; exact strTo_le _ _
  have hrs : r.size ≤ d.size := by rw [← hr, tail_size]; omega
  have hxs : x.size ≤ d.size := by rw [← hx, ByteArray.size_extract]; omega
  have hlr : l ≤ r.size := by rw [← hl]; exact strTo_le _ _
  obtain ⟨Q, hQ⟩ : ∃ Q, Q = w.alloc (.cells #[.int .i64 0, .int .i64 0, .string ⟨#[]⟩, .int .i64 0] 64) := ⟨_, rfl⟩
  have HQ := hide hQ
  have HBX : Hid (TBox Q w.heap.size (.int .i64 0) (.int .i64 0) (.string ⟨#[]⟩) (.int .i64 0)) := by rw [hQ]; exact TBox.new w _ _ _ _
  have HBQ : Hid (Below w.heap.size w Q) := by rw [hQ]; exact (Below.refl _ _).alloc (Nat.le_refl _) _
  clear hQ
  have HT := hide (trimPre_any t)
  have HS1 := hide (fun W => stretch_any 151 eg_d isD (fun v W => implDigit_any v W) d W (by omega))
  have HS2 := hide (fun W => stretch_any 154 eg_l isL (fun v W => implLetter_any v W) r W (by omega))
  have HP := hide (hasPre_any r)
  have hsl := fun W => run_sub1 (s := d) (q := c) hle W
  have hsx := fun W => run_sub0 (s := d) (q := c) hle W
  rw [hH, hd] at HT
  rw [hc] at HS1
  rw [hl] at HS2
  rw [hr] at hsl
  rw [hx] at hsx
  clear hH hd hc hr hx hl
  have h0i : ¬ (c : Int) = 0 := by omega
  subst h1
  rw [h2] at HP
  clear h2
  have HA := hide (fun W (hb : Below w.heap.size w W) => atoi_range x (by omega) h3 W (hR.below hb))
  clear h3 hR
  go_enter Tryz.func152, Tryz.ntmps152
  go_wp2_with (first | (go_at_call 182; rw [← unhide HQ]; refine (unhide HT _).mono ?_; rintro e w1 ⟨rfl, hw⟩; obtain rfl := hw.symm) | (have hz5 := HB5; clear hz5; go_at_call 183; refine (unhide HS2 _).mono ?_; rintro e w6 ⟨rfl, hb6⟩; have HB6 := hide ((unhide HB5).trans (hb6.mono (unhide HB5).size)); have HX6 := hide ((unhide HX5).below (Nat.le_refl _) hb6); clear hb6) | (go_at_call 183; refine (unhide HS1 _).mono ?_; rintro e w5 ⟨rfl, hb5⟩; have HB5 := hide ((unhide HBQ).trans (hb5.mono (unhide HBQ).size)); have HX5 := hide ((unhide HBX).below (Nat.le_refl _) hb5); clear hb5) | (go_at_call 184; refine (unhide HP _).mono ?_; rintro e w1 ⟨rfl, hw⟩; obtain rfl := hw.symm) | (go_at_call 185; refine (unhide HA _ (unhide HB6)).mono ?_; rintro e w7 ⟨n, ty, p, rfl, hb7⟩; have HB7 := hide ((unhide HB6).trans (hb7.mono (unhide HB6).size)); obtain ⟨q0, q1, q2, q3, f0, f1, f2, f3⟩ := ((unhide HX6).below (Nat.le_refl _) hb7).all; clear hb7))
  refine bodyPost_ret (v := readV 0 0 ⟨#[]⟩ 0 7) (by simp [results, Tryz.results152, go_sem, q0, q1, q2, q3, readV]) rfl ?_
  exact ⟨rfl, (((((unhide HB7).setCell (Nat.le_refl _) _).setCell (Nat.le_refl _) _).setCell (Nat.le_refl _) _).setCell (Nat.le_refl _) _)⟩

end Go.Proofs.YtinndpnilmmmjaaGreatDoor
namespace Go.Proofs.YtinndpnilmmmjaaGreatDoor
open Go.RowKit

set_option maxRecDepth 20000 in
set_option maxHeartbeats 2000000 in
theorem readNumber_ok (t d r x : ByteArray) (H : Bool) (c l : Nat) (n : Nat) (w : World) (hH : high t 0 = H) (hd : (if H = true then t.extract 2 t.size else t) = d) (hc : stretchN isD d = c) (hr : d.extract c d.size = r) (hx : d.extract 0 c = x) (hl : stretchN isL r = l) (hs : t.size ≤ 17592186044416) (h0 : c ≠ 0) (h1 : l = 0) (h2 : high r 0 = false) (h3 : Lib.atoiAll x.data.toList = .ok (n : Int)) (h4 : n ≤ 1000000000000000) (hT : H = false) :
    Calls Tryz.prog 152 #[.string t] w fun e w' => e = .returned (readV 1 ((n : Int)) ⟨#[]⟩ (t.size - r.size) 0) ∧ Below w.heap.size w w' := by
  have hds : d.size ≤ t.size := by
    rw [← hd]
    by_cases hh : H = true
    · rw [if_pos hh, tail_size]; omega
    · rw [if_neg hh]; exact Nat.le_refl _
  have hle : c ≤ d.size := by rw [← hc]; exact strTo_le _ _
  have hrs : r.size ≤ d.size := by rw [← hr, tail_size]; omega
  have hxs : x.size ≤ d.size := by rw [← hx, ByteArray.size_extract]; omega
  have hlr : l ≤ r.size := by rw [← hl]; exact strTo_le _ _
  have hdt : d.size = t.size := by rw [← hd, hT, if_neg (by decide)]
  obtain ⟨Q, hQ⟩ : ∃ Q, Q = w.alloc (.cells #[.int .i64 0, .int .i64 0, .string ⟨#[]⟩, .int .i64 0] 64) := ⟨_, rfl⟩
  have HQ := hide hQ
  have HBX : Hid (TBox Q w.heap.size (.int .i64 0) (.int .i64 0) (.string ⟨#[]⟩) (.int .i64 0)) := by rw [hQ]; exact TBox.new w _ _ _ _
  have HBQ : Hid (Below w.heap.size w Q) := by rw [hQ]; exact (Below.refl _ _).alloc (Nat.le_refl _) _
  clear hQ
  have HT := hide (trimPre_any t)
  have HS1 := hide (fun W => stretch_any 151 eg_d isD (fun v W => implDigit_any v W) d W (by omega))
  have HS2 := hide (fun W => stretch_any 154 eg_l isL (fun v W => implLetter_any v W) r W (by omega))
  have HP := hide (hasPre_any r)
  have hsl := fun W => run_sub1 (s := d) (q := c) hle W
  have hsx := fun W => run_sub0 (s := d) (q := c) hle W
  rw [hH, hd] at HT
  rw [hc] at HS1
  rw [hl] at HS2
  rw [hr] at hsl
  rw [hx] at hsx
  clear hH hd hc hr hx hl
  have h0i : ¬ (c : Int) = 0 := by omega
  subst h1
  rw [h2] at HP
  clear h2
  have hlt : ¬ (d.size : Int) < (t.size : Int) := by omega
  have h4i : ¬ (1000000000000000 : Int) < (n : Int) := by omega
  have HA := hide (fun W => atoi_ok x n (by omega) h3 W)
  have hwd : ((t.size - r.size : Nat) : Int) = (t.size : Int) - (r.size : Int) := by omega
  clear h3 hT
  go_enter Tryz.func152, Tryz.ntmps152
  go_wp2_with (first | (go_at_call 182; rw [← unhide HQ]; refine (unhide HT _).mono ?_; rintro e w1 ⟨rfl, hw⟩; obtain rfl := hw.symm) | (have hz5 := HB5; clear hz5; go_at_call 183; refine (unhide HS2 _).mono ?_; rintro e w6 ⟨rfl, hb6⟩; have HB6 := hide ((unhide HB5).trans (hb6.mono (unhide HB5).size)); have HX6 := hide ((unhide HX5).below (Nat.le_refl _) hb6); clear hb6) | (go_at_call 183; refine (unhide HS1 _).mono ?_; rintro e w5 ⟨rfl, hb5⟩; have HB5 := hide ((unhide HBQ).trans (hb5.mono (unhide HBQ).size)); have HX5 := hide ((unhide HBX).below (Nat.le_refl _) hb5); clear hb5) | (go_at_call 184; refine (unhide HP _).mono ?_; rintro e w1 ⟨rfl, hw⟩; obtain rfl := hw.symm) | (go_at_call 185; refine (unhide HA _).mono ?_; rintro e w7 ⟨rfl, hb7⟩; have HB7 := hide ((unhide HB6).trans (hb7.mono (unhide HB6).size)); obtain ⟨q0, q1, q2, q3, f0, f1, f2, f3⟩ := ((unhide HX6).below (Nat.le_refl _) hb7).all; clear hb7))
  refine bodyPost_ret (v := readV 1 ((n : Int)) ⟨#[]⟩ (t.size - r.size) 0) (by simp [results, Tryz.results152, go_sem, q0, q1, q2, q3, readV, hwd]) rfl ?_
  exact ⟨rfl, (((((unhide HB7).setCell (Nat.le_refl _) _).setCell (Nat.le_refl _) _).setCell (Nat.le_refl _) _).setCell (Nat.le_refl _) _)⟩

end Go.Proofs.YtinndpnilmmmjaaGreatDoor
namespace Go.Proofs.YtinndpnilmmmjaaGreatDoor
open Go.RowKit

set_option maxRecDepth 20000 in
set_option maxHeartbeats 2000000 in
theorem readNumber_neg (t d r x : ByteArray) (H : Bool) (c l : Nat) (n : Nat) (w : World) (hH : high t 0 = H) (hd : (if H = true then t.extract 2 t.size else t) = d) (hc : stretchN isD d = c) (hr : d.extract c d.size = r) (hx : d.extract 0 c = x) (hl : stretchN isL r = l) (hs : t.size ≤ 17592186044416) (h0 : c ≠ 0) (h1 : l = 0) (h2 : high r 0 = false) (h3 : Lib.atoiAll x.data.toList = .ok (n : Int)) (h4 : n ≤ 1000000000000000) (hT : H = true) :
    Calls Tryz.prog 152 #[.string t] w fun e w' => e = .returned (readV 1 (-(n : Int)) ⟨#[]⟩ (t.size - r.size) 0) ∧ Below w.heap.size w w' := by
  have hds : d.size ≤ t.size := by
    rw [← hd]
    by_cases hh : H = true
    · rw [if_pos hh, tail_size]; omega
    · rw [if_neg hh]; exact Nat.le_refl _
  have hle : c ≤ d.size := by rw [← hc]; exact strTo_le _ _
  have hrs : r.size ≤ d.size := by rw [← hr, tail_size]; omega
  have hxs : x.size ≤ d.size := by rw [← hx, ByteArray.size_extract]; omega
  have hlr : l ≤ r.size := by rw [← hl]; exact strTo_le _ _
  have hdt : d.size < t.size := by
    have h2 := of_decide_eq_true (hH.trans hT)
    rw [← hd, hT, if_pos rfl, tail_size]
    omega
  obtain ⟨Q, hQ⟩ : ∃ Q, Q = w.alloc (.cells #[.int .i64 0, .int .i64 0, .string ⟨#[]⟩, .int .i64 0] 64) := ⟨_, rfl⟩
  have HQ := hide hQ
  have HBX : Hid (TBox Q w.heap.size (.int .i64 0) (.int .i64 0) (.string ⟨#[]⟩) (.int .i64 0)) := by rw [hQ]; exact TBox.new w _ _ _ _
  have HBQ : Hid (Below w.heap.size w Q) := by rw [hQ]; exact (Below.refl _ _).alloc (Nat.le_refl _) _
  clear hQ
  have HT := hide (trimPre_any t)
  have HS1 := hide (fun W => stretch_any 151 eg_d isD (fun v W => implDigit_any v W) d W (by omega))
  have HS2 := hide (fun W => stretch_any 154 eg_l isL (fun v W => implLetter_any v W) r W (by omega))
  have HP := hide (hasPre_any r)
  have hsl := fun W => run_sub1 (s := d) (q := c) hle W
  have hsx := fun W => run_sub0 (s := d) (q := c) hle W
  rw [hH, hd] at HT
  rw [hc] at HS1
  rw [hl] at HS2
  rw [hr] at hsl
  rw [hx] at hsx
  clear hH hd hc hr hx hl
  have h0i : ¬ (c : Int) = 0 := by omega
  subst h1
  rw [h2] at HP
  clear h2
  have hlt : (d.size : Int) < (t.size : Int) := by omega
  have h4i : ¬ (1000000000000000 : Int) < (n : Int) := by omega
  have HA := hide (fun W => atoi_ok x n (by omega) h3 W)
  have hwd : ((t.size - r.size : Nat) : Int) = (t.size : Int) - (r.size : Int) := by omega
  clear h3 hT
  go_enter Tryz.func152, Tryz.ntmps152
  go_wp2_with (first | (go_at_call 182; rw [← unhide HQ]; refine (unhide HT _).mono ?_; rintro e w1 ⟨rfl, hw⟩; obtain rfl := hw.symm) | (have hz5 := HB5; clear hz5; go_at_call 183; refine (unhide HS2 _).mono ?_; rintro e w6 ⟨rfl, hb6⟩; have HB6 := hide ((unhide HB5).trans (hb6.mono (unhide HB5).size)); have HX6 := hide ((unhide HX5).below (Nat.le_refl _) hb6); clear hb6) | (go_at_call 183; refine (unhide HS1 _).mono ?_; rintro e w5 ⟨rfl, hb5⟩; have HB5 := hide ((unhide HBQ).trans (hb5.mono (unhide HBQ).size)); have HX5 := hide ((unhide HBX).below (Nat.le_refl _) hb5); clear hb5) | (go_at_call 184; refine (unhide HP _).mono ?_; rintro e w1 ⟨rfl, hw⟩; obtain rfl := hw.symm) | (go_at_call 185; refine (unhide HA _).mono ?_; rintro e w7 ⟨rfl, hb7⟩; have HB7 := hide ((unhide HB6).trans (hb7.mono (unhide HB6).size)); obtain ⟨q0, q1, q2, q3, f0, f1, f2, f3⟩ := ((unhide HX6).below (Nat.le_refl _) hb7).all; clear hb7))
  refine bodyPost_ret (v := readV 1 (-(n : Int)) ⟨#[]⟩ (t.size - r.size) 0) (by simp [results, Tryz.results152, go_sem, q0, q1, q2, q3, readV, hwd]) rfl ?_
  exact ⟨rfl, (((((unhide HB7).setCell (Nat.le_refl _) _).setCell (Nat.le_refl _) _).setCell (Nat.le_refl _) _).setCell (Nat.le_refl _) _)⟩

end Go.Proofs.YtinndpnilmmmjaaGreatDoor
namespace Go.Proofs.YtinndpnilmmmjaaGreatDoor
open Go.RowKit

theorem enc_one (v c : Nat) (hc : c < 128) : Utf8.encode (v : Int) = ⟨#[UInt8.ofNat c]⟩ ↔ v = c := by
  constructor
  · intro h
    have hsz := congrArg (fun b : ByteArray => b.data.toList) h
    by_cases hv : Utf8.valid (v : Int) = true
    · by_cases h1 : v < 128
      · unfold Utf8.encode at hsz
        simp only [hv, if_true, Int.toNat_natCast, if_pos h1] at hsz
        have e := congrArg (fun l : List UInt8 => (l.headD 0).toNat) hsz
        change (UInt8.ofNat v).toNat = (UInt8.ofNat c).toNat at e
        rw [UInt8.toNat_ofNat', UInt8.toNat_ofNat'] at e
        omega
      · have := (encode_facts v hv (by omega)).1
        rw [h] at this
        exact absurd this (by show ¬ 2 ≤ 1; omega)
    · unfold Utf8.encode at hsz
      simp [hv, Utf8.runeError] at hsz
  · rintro rfl
    have hv : Utf8.valid (v : Int) = true := by unfold Utf8.valid; simp; omega
    unfold Utf8.encode
    simp only [hv, if_true, Int.toNat_natCast, if_pos hc]

theorem enc_high (v : Nat) : Utf8.encode (v : Int) = ⟨#[194, 175]⟩ ↔ v = 175 := by
  constructor
  · intro h
    have hsz := congrArg (fun b : ByteArray => b.data.toList) h
    by_cases hv : Utf8.valid (v : Int) = true
    · unfold Utf8.encode at hsz
      simp only [hv, if_true, Int.toNat_natCast] at hsz
      by_cases h1 : v < 128
      · rw [if_pos h1] at hsz; simp at hsz
      · rw [if_neg h1] at hsz
        by_cases h2 : v < 2048
        · rw [if_pos h2] at hsz
          have a := congrArg (fun l : List UInt8 => (l.headD 0).toNat) hsz
          have b := congrArg (fun l : List UInt8 => (l.tail.headD 0).toNat) hsz
          change (UInt8.ofNat (192 + v / 64)).toNat = 194 at a
          change (UInt8.ofNat (128 + v % 64)).toNat = 175 at b
          rw [UInt8.toNat_ofNat'] at a b
          omega
        · rw [if_neg h2] at hsz
          split at hsz <;> simp at hsz
    · unfold Utf8.encode at hsz
      simp [hv, Utf8.runeError] at hsz
  · rintro rfl
    decide

end Go.Proofs.YtinndpnilmmmjaaGreatDoor
namespace Go.Proofs.YtinndpnilmmmjaaGreatDoor
open Go.RowKit

/-- A character within a text. -/
def isIn (v : Nat) : Bool := !(decide (v = 39)) && !(decide (v = 10))

theorem enc_list (v : Nat) (x b : ByteArray) (hx : Utf8.encode (v : Int) = x) (c : Nat) (he : Utf8.encode (v : Int) = b ↔ v = c) : x.toList = b.toList ↔ v = c := by
  rw [← hx, ← he, Lib.toList_data, Lib.toList_data]
  exact ⟨fun e => ByteArray.ext (Array.toList_inj.1 e), fun e => by rw [e]⟩

set_option maxRecDepth 20000 in
theorem enc39 (v : Nat) (x : ByteArray) (hx : Utf8.encode (v : Int) = x) : x.toList = [39] ↔ v = 39 := by
  have e := enc_list v x ⟨#[39]⟩ hx 39 (enc_one v 39 (by omega))
  simp only [Lib.toList_data] at e ⊢
  exact e

set_option maxRecDepth 20000 in
theorem enc175 (v : Nat) (x : ByteArray) (hx : Utf8.encode (v : Int) = x) : x.toList = [194, 175] ↔ v = 175 := by
  have e := enc_list v x ⟨#[194, 175]⟩ hx 175 (enc_high v)
  simp only [Lib.toList_data] at e ⊢
  exact e

theorem conv_any (v : Nat) (x : ByteArray) (hx : Utf8.encode (v : Int) = x) (w : World) : (convert 21 9 (.int .i32 (v : Int))).run Tryz.prog w = .ok (.string x) w := by
  rw [← hx]
  exact run_convert_int_string w _ _ .i32 _ (by kernel_rfl) (by kernel_rfl)

set_option maxRecDepth 20000 in
theorem implWithin_any (v : Nat) (w : World) : Calls Tryz.prog 186 #[.int .i32 (v : Nat)] w fun e w' => e = .returned (.bool (isIn v)) ∧ w' = w := by
  obtain ⟨r, hr⟩ : ∃ r, isIn v = r := ⟨_, rfl⟩
  rw [hr]
  have HR := hide hr
  clear hr
  obtain ⟨x, hx⟩ : ∃ x, Utf8.encode (v : Int) = x := ⟨_, rfl⟩
  have he := enc39 v x hx
  have hcv := conv_any v x hx
  clear hx
  by_cases h1 : v = 39
  · have hq := he.2 h1
    have HX := hide h1
    clear h1 he
    go_enter Tryz.func186, Tryz.ntmps186
    go_wp2
    go_ret
    exact ⟨ret_bool (by rw [← unhide HR, isIn, decide_eq_true (unhide HX)]; rfl), rfl⟩
  · have hq : ¬ x.toList = [39] := fun h => h1 (he.1 h)
    have HX := hide h1
    clear h1 he
    go_enter Tryz.func186, Tryz.ntmps186
    go_wp2
    go_ret
    refine ⟨ret_bool ?_, rfl⟩
    rw [← unhide HR, isIn, decide_eq_false (unhide HX)]
    by_cases h2 : v = 10
    · subst h2; simp
    · have h2i : ¬ (v : Int) = 10 := by omega
      rw [decide_eq_false h2]; simp [h2i, hq]

theorem eg_in : ∀ args w, (callFunc 186 args).run Tryz.prog w = .ok (.enter 186 args) w := enters_of Tryz.func186 (by kernel_rfl) rfl

/-- Which reader reads. -/
def readerN (v : Nat) : Nat := if isD v = true ∨ v = 175 then 152 else if v = 39 then 153 else if isL v = true then 155 else 156

set_option maxRecDepth 20000 in
set_option maxHeartbeats 2000000 in
theorem readerOf_any (v : Nat) (w : World) : Calls Tryz.prog 100 #[.int .i32 (v : Nat)] w fun e w' => e = .returned (.func (.func (readerN v)) #[] #[]) ∧ w' = w := by
  have HD := hide (implDigit_any v w)
  have HL := hide (implLetter_any v w)
  obtain ⟨x, hx⟩ : ∃ x, Utf8.encode (v : Int) = x := ⟨_, rfl⟩
  have he39 := enc39 v x hx
  have he175 := enc175 v x hx
  have hcv := conv_any v x hx
  clear hx
  cases hd : isD v with
  | true =>
    have HE : Hid (readerN v = 152) := hide (by unfold readerN; rw [if_pos (Or.inl hd)])
    rw [hd] at HD
    clear HL he39 he175
    go_enter Tryz.func100, Tryz.ntmps100
    go_wp2_with (go_at_call 151; refine (unhide HD).mono ?_; rintro e w1 ⟨rfl, hw⟩; obtain rfl := hw.symm)
    go_ret
    exact ⟨by rw [unhide HE]; rfl, rfl⟩
  | false =>
    rw [hd] at HD
    by_cases h1 : v = 175
    · have HE : Hid (readerN v = 152) := hide (by unfold readerN; rw [if_pos (Or.inr h1)])
      have he := he175.2 h1
      clear HL h1 hd he39 he175
      go_enter Tryz.func100, Tryz.ntmps100
      go_wp2_with (go_at_call 151; refine (unhide HD).mono ?_; rintro e w1 ⟨rfl, hw⟩; obtain rfl := hw.symm)
      go_ret
      exact ⟨by rw [unhide HE]; rfl, rfl⟩
    · have he : ¬ x.toList = [194, 175] := fun h => h1 (he175.1 h)
      have heb : (x.toList == [194, 175]) = false := beq_eq_false_iff_ne.2 he
      have hno : ¬ (isD v = true ∨ v = 175) := by rw [hd]; simp [h1]
      clear h1 hd he175
      by_cases h2 : v = 39
      · have HE : Hid (readerN v = 153) := hide (by unfold readerN; rw [if_neg hno, if_pos h2])
        have he2 := he39.2 h2
        clear HL h2 hno he39 he heb
        go_enter Tryz.func100, Tryz.ntmps100
        go_wp2_with (go_at_call 151; refine (unhide HD).mono ?_; rintro e w1 ⟨rfl, hw⟩; obtain rfl := hw.symm)
        go_ret
        exact ⟨by rw [unhide HE]; rfl, rfl⟩
      · have he2 : ¬ x.toList = [39] := fun h => h2 (he39.1 h)
        have heb2 : (x.toList == [39]) = false := beq_eq_false_iff_ne.2 he2
        cases hl : isL v with
        | true =>
          have HE : Hid (readerN v = 155) := hide (by unfold readerN; rw [if_neg hno, if_neg h2, if_pos hl])
          rw [hl] at HL
          clear h2 hno hl he39
          go_enter Tryz.func100, Tryz.ntmps100
          go_wp2_with (first | (go_at_call 151; refine (unhide HD).mono ?_; rintro e w1 ⟨rfl, hw⟩; obtain rfl := hw.symm) | (go_at_call 154; refine (unhide HL).mono ?_; rintro e w1 ⟨rfl, hw⟩; obtain rfl := hw.symm))
          go_ret
          exact ⟨by rw [unhide HE]; rfl, rfl⟩
        | false =>
          have HE : Hid (readerN v = 156) := hide (by unfold readerN; rw [if_neg hno, if_neg h2, if_neg (by rw [hl]; decide)])
          rw [hl] at HL
          clear h2 hno hl he39
          go_enter Tryz.func100, Tryz.ntmps100
          go_wp2_with (first | (go_at_call 151; refine (unhide HD).mono ?_; rintro e w1 ⟨rfl, hw⟩; obtain rfl := hw.symm) | (go_at_call 154; refine (unhide HL).mono ?_; rintro e w1 ⟨rfl, hw⟩; obtain rfl := hw.symm))
          go_ret
          exact ⟨by rw [unhide HE]; rfl, rfl⟩

end Go.Proofs.YtinndpnilmmmjaaGreatDoor
namespace Go.Proofs.YtinndpnilmmmjaaGreatDoor
open Go

theorem tail_list (s : ByteArray) (i : Nat) : (s.extract i s.size).data.toList = s.data.toList.drop i := by
  rw [sub_list, List.take_of_length_le]
  rw [List.length_drop, ← Lib.size_eq]
  exact Nat.le_refl _

theorem tail_tail (s : ByteArray) (i j : Nat) : (s.extract i s.size).extract j (s.extract i s.size).size = s.extract (i + j) s.size := by
  refine ByteArray.ext (Array.toList_inj.1 ?_)
  rw [tail_list, tail_list, tail_list, List.drop_drop]

/-- A quote stands at a place. -/
def quote1 (s : ByteArray) (i : Nat) : Bool := decide (i + 1 ≤ s.size ∧ bt s i = 39)

/-- Where the characters from a place on that stand within a text end. -/
def inEnd (s : ByteArray) (p : Nat) : Nat := p + stretchN isIn (s.extract p s.size)

/-- How a text is read from a place on: where it ends, and its bytes; none: it does not end. -/
def textR (s : ByteArray) : Nat → Nat → List UInt8 → Option (Nat × List UInt8)
  | 0, _, _ => none
  | f + 1, p, out =>
    if quote1 s (inEnd s p) = true then
      (if quote1 s (inEnd s p + 1) = true then textR s f (inEnd s p + 2) (out ++ (s.extract p (inEnd s p)).data.toList ++ [39]) else some (inEnd s p + 1, out ++ (s.extract p (inEnd s p)).data.toList))
    else none

end Go.Proofs.YtinndpnilmmmjaaGreatDoor
namespace Go.Proofs.YtinndpnilmmmjaaGreatDoor
open Go.RowKit

/-- What a reader gives, of what stands at a place. -/
def readG (g : Got) (i : Nat) : Value := readV g.k g.n g.t (g.e - i) g.c

theorem readNumber_any (s : ByteArray) (i : Nat) (w : World) (hi : i < s.size) (hs : s.size ≤ 17592186044416) (hR : RangeAt w) :
    Calls Tryz.prog 152 #[.string (s.extract i s.size)] w fun e w' => e = .returned (readG (numTok s i) i) ∧ Below w.heap.size w w' := by
  have hts : (s.extract i s.size).size = s.size - i := tail_size s i
  obtain ⟨H, hH⟩ : ∃ H, high s i = H := ⟨_, rfl⟩
  have hHt : high (s.extract i s.size) 0 = H := by rw [tail_high (by omega)]; exact hH
  obtain ⟨f, hf⟩ : ∃ f, (if high s i = true then i + 2 else i) = f := ⟨_, rfl⟩
  have hfi : i ≤ f := by rw [← hf]; split <;> omega
  have hfs : f ≤ s.size := by
    rw [← hf]
    split
    · rename_i h
      have := of_decide_eq_true h
      omega
    · omega
  have hd : (if H = true then (s.extract i s.size).extract 2 (s.extract i s.size).size else s.extract i s.size) = s.extract f s.size := by
    rw [← hf, hH]
    by_cases h : H = true
    · rw [if_pos h, if_pos h, tail_tail]
    · rw [if_neg h, if_neg h]
  obtain ⟨e, he⟩ : ∃ e, endOf isD s f = e := ⟨_, rfl⟩
  have hfe : f ≤ e := by rw [← he]; exact endOf_ge _ _ _
  have hes : e ≤ s.size := by rw [← he]; exact endOf_le _ _ _ hfs
  have hc : stretchN isD (s.extract f s.size) = e - f := by
    have := stretch_tail (p := isD) isD_small (s := s) (i := f) hfs
    omega
  have hr : (s.extract f s.size).extract (e - f) (s.extract f s.size).size = s.extract e s.size := by
    rw [tail_tail, show f + (e - f) = e by omega]
  obtain ⟨l, hl⟩ : ∃ l, stretchN isL (s.extract e s.size) = l := ⟨_, rfl⟩
  have hl2 : l + e = endOf isL s e := by rw [← hl]; exact stretch_tail isL_small hes
  have hlp : 0 < l ↔ e < s.size ∧ isL (bt s e) = true := by
    by_cases h : e < s.size ∧ isL (bt s e) = true
    · rw [endOf_go h.1 h.2] at hl2
      have := endOf_ge isL s (e + 1)
      exact ⟨fun _ => h, fun _ => by omega⟩
    · rw [endOf_stop h] at hl2
      exact ⟨fun h1 => by omega, fun h1 => absurd h1 h⟩
  have hhr : high (s.extract e s.size) 0 = high s e := tail_high hes
  have hrs : (s.extract e s.size).size = s.size - e := tail_size s e
  have hsz : (s.extract i s.size).size ≤ 17592186044416 := by omega
  by_cases hb : e = f ∨ (e < s.size ∧ isL (bt s e) = true) ∨ high s e = true
  · rw [numTok_bad hf he hb]
    show Calls _ _ _ _ fun e w' => e = .returned (readV 0 0 ⟨#[]⟩ (0 - i) 1) ∧ _
    rw [Nat.zero_sub]
    by_cases h0 : e = f
    · exact readNumber_zero _ _ _ _ H _ l w hHt hd hc hr rfl hl hsz (by omega)
    · by_cases h1 : 0 < l
      · exact readNumber_letter _ _ _ _ H _ l w hHt hd hc hr rfl hl hsz (by omega) h1
      · refine readNumber_mark _ _ _ _ H _ l w hHt hd hc hr rfl hl hsz (by omega) (by omega) ?_
        rw [hhr]
        rcases hb with hb | hb | hb
        · exact absurd hb h0
        · exact absurd (hlp.2 hb) h1
        · exact hb
  · have h0 : e ≠ f := fun h => hb (Or.inl h)
    have h1 : l = 0 := by
      by_cases h : 0 < l
      · exact absurd (Or.inr (Or.inl (hlp.1 h))) hb
      · omega
    have h2 : high (s.extract e s.size) 0 = false := by
      rw [hhr]
      cases h : high s e with
      | true => exact absurd (Or.inr (Or.inr h)) hb
      | false => rfl
    have hcd : e - f ≤ (s.extract f s.size).size := by rw [tail_size]; omega
    have hxl : ((s.extract f s.size).extract 0 (e - f)).data.toList = (s.extract f s.size).data.toList.take (e - f) := take_data _ _
    have hdv : dv 0 ((s.extract f s.size).extract 0 (e - f)).data.toList = decV s f (e - f) := by
      rw [hxl, dv_take _ _ hcd, tail_decV _ (by omega), Nat.add_zero]
    have hne : ((s.extract f s.size).extract 0 (e - f)).data.toList ≠ [] := by
      intro h
      have h3 := congrArg List.length h
      rw [hxl, List.length_take, ← Lib.size_eq, tail_size] at h3
      simp only [List.length_nil] at h3
      omega
    have hdg : ∀ c ∈ ((s.extract f s.size).extract 0 (e - f)).data.toList, isD c.toNat = true := by
      intro c hcm
      rw [hxl] at hcm
      obtain ⟨j, hj, rfl⟩ := List.mem_iff_getElem.1 hcm
      rw [List.length_take, ← Lib.size_eq, tail_size] at hj
      have hj2 : j < (s.extract f s.size).size := by rw [tail_size]; omega
      have hb2 : bt (s.extract f s.size) j = ((s.extract f s.size).data.toList[j]'(by rw [← Lib.size_eq]; exact hj2)).toNat := by
        rw [bt_data hj2, List.getD_eq_getElem?_getD, List.getElem?_eq_getElem (by rw [← Lib.size_eq]; exact hj2)]
        rfl
      rw [List.getElem_take, ← hb2, tail_bt (by omega)]
      exact (endOf_in (p := isD) (s := s) (i := f) (by omega) (by rw [he]; omega)).2
    have hA := atoi_digits _ hne hdg
    rw [hdv] at hA
    by_cases hv : 1000000000000000 < decV s f (e - f)
    · rw [numTok_big hf he hb hv]
      show Calls _ _ _ _ fun e w' => e = .returned (readV 0 0 ⟨#[]⟩ (0 - i) 7) ∧ _
      rw [Nat.zero_sub]
      rcases hA with hA | ⟨hA, -⟩
      · exact readNumber_big _ _ _ _ H _ l _ w hHt hd hc hr rfl hl hsz (by omega) h1 h2 hA hv
      · exact readNumber_range _ _ _ _ H _ l w hHt hd hc hr rfl hl hsz (by omega) h1 h2 hA hR
    · rw [numTok_ok hf he hb hv]
      have hA' : Lib.atoiAll ((s.extract f s.size).extract 0 (e - f)).data.toList = .ok ((decV s f (e - f) : Nat) : Int) := by
        rcases hA with hA | ⟨-, hA⟩
        · exact hA
        · omega
      have hwd : e - i = (s.extract i s.size).size - (s.extract e s.size).size := by rw [hts, hrs]; omega
      cases hh : H with
      | true =>
        rw [hH, hh, if_pos rfl]
        show Calls _ _ _ _ fun q w' => q = .returned (readV 1 (-(decV s f (e - f) : Int)) ⟨#[]⟩ (e - i) 0) ∧ _
        rw [hwd]
        exact readNumber_neg _ _ _ _ H _ l _ w hHt hd hc hr rfl hl hsz (by omega) h1 h2 hA' (by omega) hh
      | false =>
        rw [hH, hh, if_neg (by decide)]
        show Calls _ _ _ _ fun q w' => q = .returned (readV 1 (decV s f (e - f) : Int) ⟨#[]⟩ (e - i) 0) ∧ _
        rw [hwd]
        exact readNumber_ok _ _ _ _ H _ l _ w hHt hd hc hr rfl hl hsz (by omega) h1 h2 hA' (by omega) hh

/-- A name, at a place. -/
theorem readName_at (s : ByteArray) (i : Nat) (w : World) (hi : i < s.size) (hs : s.size ≤ 17592186044416) :
    Calls Tryz.prog 155 #[.string (s.extract i s.size)] w fun e w' => e = .returned (readG (if 20 < endOf isLD s i - i then bad 1 else ⟨3, 0, s.extract i (endOf isLD s i), endOf isLD s i, 0⟩) i) ∧ Below w.heap.size w w' := by
  have h := readName_any (s.extract i s.size) w (by rw [tail_size]; omega)
  have hst := stretch_tail (p := isLD) isLD_small (s := s) (i := i) (by omega)
  have hc : stretchN isLD (s.extract i s.size) = endOf isLD s i - i := by omega
  have hle := endOf_le isLD s i (by omega)
  rw [hc] at h
  have hx : (s.extract i s.size).extract 0 (endOf isLD s i - i) = s.extract i (endOf isLD s i) := by
    refine ByteArray.ext (Array.toList_inj.1 ?_)
    rw [take_data, tail_list, sub_list]
  rw [hx] at h
  by_cases h20 : 20 < endOf isLD s i - i
  · rw [if_pos h20] at h ⊢
    show Calls _ _ _ _ fun e w' => e = .returned (readV 0 0 ⟨#[]⟩ (0 - i) 1) ∧ _
    rw [Nat.zero_sub]
    exact h
  · rw [if_neg h20] at h ⊢
    exact h

end Go.Proofs.YtinndpnilmmmjaaGreatDoor
