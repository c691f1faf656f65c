import Derived.Test.YtmgjicgojlkpcaaGreatDoorSpecFun
namespace Go.Proofs.YtmgjicgojlkpcaaGreatDoor
open Go.RowKit

theorem primT_size (q : Nat) : (primT q).size ≤ 4 := by
  unfold primT
  by_cases h : q < primTs.length
  · have e : primTs.getD q ⟨#[]⟩ = primTs[q] := by simp [List.getD_eq_getElem?_getD, h]
    rw [e]
    exact prim_short _ (List.getElem_mem h)
  · have e : primTs.getD q ⟨#[]⟩ = ⟨#[]⟩ := by simp [List.getD_eq_getElem?_getD, List.getElem?_eq_none (Nat.le_of_not_lt h)]
    rw [e]
    decide

set_option maxRecDepth 20000 in
set_option maxHeartbeats 8000000 in
theorem says_fun14 (Z : World) (p : Nat) (a : Option Addr) (n cap : Nat) (xm : Int) (q : Nat) (hq33 : q < 33) (xs : ByteArray) (s1 s2 : Option Addr) (n1 c1 n2 c2 : Nat) :
    SaysP Z p a n cap 78 #[.pointer (some ⟨p, 0, none⟩), .agg #[.int .i64 14, .int .i64 ((q : Int) + 1), .int .i64 xm, .string xs, .slice s1 n1 c1, .slice s2 n2 c2]] (fun st => sayP st ((⟨#[226, 136, 152, 46]⟩ : ByteArray) ++ primT q).data.toList false) := by
  intro w g gc st h hq
  have hq' : lenP (sayP st ((⟨#[226, 136, 152, 46]⟩ : ByteArray) ++ primT q).data.toList false) ≤ mostP := hq
  have HQ := hide hq'
  have HX := hide h
  have hB : Hid (∀ o : Obj, Below w.heap.size w (w.alloc o)) := fun o => (Below.refl _ _).alloc (Nat.le_refl _) _
  have hlen := primTs_len
  have hsub : (q : Int) + 1 - 1 = (q : Int) := by omega
  have hp4 := primT_size q
  have hno : ¬ 9223372036854775807 < (⟨#[226, 136, 152, 46]⟩ : ByteArray).size + (primT q).size := by have : (⟨#[226, 136, 152, 46]⟩ : ByteArray).size = 4 := rfl; omega
  clear h hq hq'
  go_enter Tryz.func78, Tryz.ntmps78
  go_wp2_with (first | (go_at_call 122; refine (l2Prims_any _).mono ?_; rintro e w5 ⟨pg, pc, rfl, hr, hb⟩; simp only [hlen]; have b5 := (NBox.new w (.int .i64 14) (.int .i64 ((q : Int) + 1)) (.int .i64 xm) (.string xs) (.slice s1 n1 c1) (.slice s2 n2 c2)).below (by simp) hb; obtain ⟨e0, e1, e2, e3, e4, e5⟩ := b5.all; have HB5 := hide ((unhide hB _).trans (hb.mono (by simp))); have hpq := prims_at hr hq33; have hlt5 := b5.lt; clear hr hb b5) | (go_at_call 72; refine ((unhide HX).say (unhide HB5) _ _ (unhide HQ)).mono ?_; rintro e w6 ⟨⟨v6, rfl⟩, hw6⟩; have HW6 := hide hw6; clear hw6))
  go_end0
  exact ⟨⟨_, rfl⟩, unhide HW6⟩

set_option maxRecDepth 20000 in
set_option maxHeartbeats 8000000 in
theorem says_fun12_0 (Z : World) (p : Nat) (a : Option Addr) (n cap : Nat)  (q : Nat) (hq33 : q < 33) (xs : ByteArray) (s1 s2 : Option Addr) (n1 c1 n2 c2 : Nat) :
    SaysP Z p a n cap 78 #[.pointer (some ⟨p, 0, none⟩), .agg #[.int .i64 12, .int .i64 ((q : Int) + 1), .int .i64 0, .string xs, .slice s1 n1 c1, .slice s2 n2 c2]] (fun st => sayP st (primT q ++ (⟨#[47]⟩ : ByteArray)).data.toList false) := by
  intro w g gc st h hq
  have hq' : lenP (sayP st (primT q ++ (⟨#[47]⟩ : ByteArray)).data.toList false) ≤ mostP := hq
  have HQ := hide hq'
  have HX := hide h
  have hB : Hid (∀ o : Obj, Below w.heap.size w (w.alloc o)) := fun o => (Below.refl _ _).alloc (Nat.le_refl _) _
  have hlen := primTs_len
  have hsub : (q : Int) + 1 - 1 = (q : Int) := by omega
  have hp4 := primT_size q
  have hno : ¬ 9223372036854775807 < (primT q).size + (⟨#[47]⟩ : ByteArray).size := by have : (⟨#[47]⟩ : ByteArray).size = 1 := rfl; omega
  clear h hq hq'
  go_enter Tryz.func78, Tryz.ntmps78
  go_wp2_with (first | (go_at_call 122; refine (l2Prims_any _).mono ?_; rintro e w5 ⟨pg, pc, rfl, hr, hb⟩; simp only [hlen]; have b5 := (NBox.new w (.int .i64 12) (.int .i64 ((q : Int) + 1)) (.int .i64 0) (.string xs) (.slice s1 n1 c1) (.slice s2 n2 c2)).below (by simp) hb; obtain ⟨e0, e1, e2, e3, e4, e5⟩ := b5.all; have HB5 := hide ((unhide hB _).trans (hb.mono (by simp))); have hpq := prims_at hr hq33; have hlt5 := b5.lt; clear hr hb b5) | (go_at_call 72; refine ((unhide HX).say ((unhide HB5).alloc (unhide HB5).size _) _ _ (unhide HQ)).mono ?_; rintro e w6 ⟨⟨v6, rfl⟩, hw6⟩; have HW6 := hide hw6; clear hw6))
  go_end0
  exact ⟨⟨_, rfl⟩, unhide HW6⟩

set_option maxRecDepth 20000 in
set_option maxHeartbeats 8000000 in
theorem says_fun12_1 (Z : World) (p : Nat) (a : Option Addr) (n cap : Nat)  (q : Nat) (hq33 : q < 33) (xs : ByteArray) (s1 s2 : Option Addr) (n1 c1 n2 c2 : Nat) :
    SaysP Z p a n cap 78 #[.pointer (some ⟨p, 0, none⟩), .agg #[.int .i64 12, .int .i64 ((q : Int) + 1), .int .i64 1, .string xs, .slice s1 n1 c1, .slice s2 n2 c2]] (fun st => sayP st (primT q ++ (⟨#[226, 140, 191]⟩ : ByteArray)).data.toList false) := by
  intro w g gc st h hq
  have hq' : lenP (sayP st (primT q ++ (⟨#[226, 140, 191]⟩ : ByteArray)).data.toList false) ≤ mostP := hq
  have HQ := hide hq'
  have HX := hide h
  have hB : Hid (∀ o : Obj, Below w.heap.size w (w.alloc o)) := fun o => (Below.refl _ _).alloc (Nat.le_refl _) _
  have hlen := primTs_len
  have hsub : (q : Int) + 1 - 1 = (q : Int) := by omega
  have hp4 := primT_size q
  have hno : ¬ 9223372036854775807 < (primT q).size + (⟨#[226, 140, 191]⟩ : ByteArray).size := by have : (⟨#[226, 140, 191]⟩ : ByteArray).size = 3 := rfl; omega
  clear h hq hq'
  go_enter Tryz.func78, Tryz.ntmps78
  go_wp2_with (first | (go_at_call 122; refine (l2Prims_any _).mono ?_; rintro e w5 ⟨pg, pc, rfl, hr, hb⟩; simp only [hlen]; have b5 := (NBox.new w (.int .i64 12) (.int .i64 ((q : Int) + 1)) (.int .i64 1) (.string xs) (.slice s1 n1 c1) (.slice s2 n2 c2)).below (by simp) hb; obtain ⟨e0, e1, e2, e3, e4, e5⟩ := b5.all; have HB5 := hide ((unhide hB _).trans (hb.mono (by simp))); have hpq := prims_at hr hq33; have hlt5 := b5.lt; clear hr hb b5) | (go_at_call 72; refine ((unhide HX).say ((unhide HB5).alloc (unhide HB5).size _) _ _ (unhide HQ)).mono ?_; rintro e w6 ⟨⟨v6, rfl⟩, hw6⟩; have HW6 := hide hw6; clear hw6))
  go_end0
  exact ⟨⟨_, rfl⟩, unhide HW6⟩

set_option maxRecDepth 20000 in
set_option maxHeartbeats 8000000 in
theorem says_fun13_0 (Z : World) (p : Nat) (a : Option Addr) (n cap : Nat)  (q : Nat) (hq33 : q < 33) (xs : ByteArray) (s1 s2 : Option Addr) (n1 c1 n2 c2 : Nat) :
    SaysP Z p a n cap 78 #[.pointer (some ⟨p, 0, none⟩), .agg #[.int .i64 13, .int .i64 ((q : Int) + 1), .int .i64 0, .string xs, .slice s1 n1 c1, .slice s2 n2 c2]] (fun st => sayP st (primT q ++ (⟨#[92]⟩ : ByteArray)).data.toList false) := by
  intro w g gc st h hq
  have hq' : lenP (sayP st (primT q ++ (⟨#[92]⟩ : ByteArray)).data.toList false) ≤ mostP := hq
  have HQ := hide hq'
  have HX := hide h
  have hB : Hid (∀ o : Obj, Below w.heap.size w (w.alloc o)) := fun o => (Below.refl _ _).alloc (Nat.le_refl _) _
  have hlen := primTs_len
  have hsub : (q : Int) + 1 - 1 = (q : Int) := by omega
  have hp4 := primT_size q
  have hno : ¬ 9223372036854775807 < (primT q).size + (⟨#[92]⟩ : ByteArray).size := by have : (⟨#[92]⟩ : ByteArray).size = 1 := rfl; omega
  clear h hq hq'
  go_enter Tryz.func78, Tryz.ntmps78
  go_wp2_with (first | (go_at_call 122; refine (l2Prims_any _).mono ?_; rintro e w5 ⟨pg, pc, rfl, hr, hb⟩; simp only [hlen]; have b5 := (NBox.new w (.int .i64 13) (.int .i64 ((q : Int) + 1)) (.int .i64 0) (.string xs) (.slice s1 n1 c1) (.slice s2 n2 c2)).below (by simp) hb; obtain ⟨e0, e1, e2, e3, e4, e5⟩ := b5.all; have HB5 := hide ((unhide hB _).trans (hb.mono (by simp))); have hpq := prims_at hr hq33; have hlt5 := b5.lt; clear hr hb b5) | (go_at_call 72; refine ((unhide HX).say ((unhide HB5).alloc (unhide HB5).size _) _ _ (unhide HQ)).mono ?_; rintro e w6 ⟨⟨v6, rfl⟩, hw6⟩; have HW6 := hide hw6; clear hw6))
  go_end0
  exact ⟨⟨_, rfl⟩, unhide HW6⟩

set_option maxRecDepth 20000 in
set_option maxHeartbeats 8000000 in
theorem says_fun13_1 (Z : World) (p : Nat) (a : Option Addr) (n cap : Nat)  (q : Nat) (hq33 : q < 33) (xs : ByteArray) (s1 s2 : Option Addr) (n1 c1 n2 c2 : Nat) :
    SaysP Z p a n cap 78 #[.pointer (some ⟨p, 0, none⟩), .agg #[.int .i64 13, .int .i64 ((q : Int) + 1), .int .i64 1, .string xs, .slice s1 n1 c1, .slice s2 n2 c2]] (fun st => sayP st (primT q ++ (⟨#[226, 141, 128]⟩ : ByteArray)).data.toList false) := by
  intro w g gc st h hq
  have hq' : lenP (sayP st (primT q ++ (⟨#[226, 141, 128]⟩ : ByteArray)).data.toList false) ≤ mostP := hq
  have HQ := hide hq'
  have HX := hide h
  have hB : Hid (∀ o : Obj, Below w.heap.size w (w.alloc o)) := fun o => (Below.refl _ _).alloc (Nat.le_refl _) _
  have hlen := primTs_len
  have hsub : (q : Int) + 1 - 1 = (q : Int) := by omega
  have hp4 := primT_size q
  have hno : ¬ 9223372036854775807 < (primT q).size + (⟨#[226, 141, 128]⟩ : ByteArray).size := by have : (⟨#[226, 141, 128]⟩ : ByteArray).size = 3 := rfl; omega
  clear h hq hq'
  go_enter Tryz.func78, Tryz.ntmps78
  go_wp2_with (first | (go_at_call 122; refine (l2Prims_any _).mono ?_; rintro e w5 ⟨pg, pc, rfl, hr, hb⟩; simp only [hlen]; have b5 := (NBox.new w (.int .i64 13) (.int .i64 ((q : Int) + 1)) (.int .i64 1) (.string xs) (.slice s1 n1 c1) (.slice s2 n2 c2)).below (by simp) hb; obtain ⟨e0, e1, e2, e3, e4, e5⟩ := b5.all; have HB5 := hide ((unhide hB _).trans (hb.mono (by simp))); have hpq := prims_at hr hq33; have hlt5 := b5.lt; clear hr hb b5) | (go_at_call 72; refine ((unhide HX).say ((unhide HB5).alloc (unhide HB5).size _) _ _ (unhide HQ)).mono ?_; rintro e w6 ⟨⟨v6, rfl⟩, hw6⟩; have HW6 := hide hw6; clear hw6))
  go_end0
  exact ⟨⟨_, rfl⟩, unhide HW6⟩

end Go.Proofs.YtmgjicgojlkpcaaGreatDoor
