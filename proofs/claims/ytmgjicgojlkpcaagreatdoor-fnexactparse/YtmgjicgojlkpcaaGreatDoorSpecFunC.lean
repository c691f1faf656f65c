import Derived.Test.YtmgjicgojlkpcaaGreatDoorSpecFunB
namespace Go.Proofs.YtmgjicgojlkpcaaGreatDoor
open Go.RowKit

set_option maxRecDepth 20000 in
set_option maxHeartbeats 8000000 in
theorem says_fun15 (Z : World) (p : Nat) (a : Option Addr) (n cap : Nat) (q r : Nat) (hq33 : q < 33) (hr33 : r < 33) (xs : ByteArray) (s1 s2 : Option Addr) (n1 c1 n2 c2 : Nat) :
    SaysP Z p a n cap 78 #[.pointer (some ⟨p, 0, none⟩), .agg #[.int .i64 15, .int .i64 ((q : Int) + 1), .int .i64 ((r : Int) + 1), .string xs, .slice s1 n1 c1, .slice s2 n2 c2]] (fun st => sayP st ((primT q ++ (⟨#[46]⟩ : ByteArray)) ++ primT r).data.toList false) := by
  intro w g gc st h hq
  have hq' : lenP (sayP st ((primT q ++ (⟨#[46]⟩ : ByteArray)) ++ primT r).data.toList false) ≤ mostP := hq
  have HQ := hide hq'
  have HX := hide h
  have hB : Hid (∀ o : Obj, Below w.heap.size w (w.alloc o)) := fun o => (Below.refl _ _).alloc (Nat.le_refl _) _
  have hlen := primTs_len
  have hsub : (q : Int) + 1 - 1 = (q : Int) := by omega
  have hsub2 : (r : Int) + 1 - 1 = (r : Int) := by omega
  have hp4 := primT_size q
  have hr4 := primT_size r
  have h1 : (⟨#[46]⟩ : ByteArray).size = 1 := rfl
  have hno : ¬ 9223372036854775807 < (primT q).size + (⟨#[46]⟩ : ByteArray).size := by omega
  have hno2 : ¬ 9223372036854775807 < (primT q ++ (⟨#[46]⟩ : ByteArray)).size + (primT r).size := by rw [ByteArray.size_append]; omega
  have hno3 : ¬ 9223372036854775807 < (primT q).size + (⟨#[46]⟩ : ByteArray).size + (primT r).size := by omega
  clear h hq hq' h1
  go_enter Tryz.func78, Tryz.ntmps78
  go_wp2_with (first | (go_at_call 122; refine (l2Prims_any _).mono ?_; rintro e w5 ⟨pg, pc, rfl, hr, hb⟩; simp only [hlen]; have b5 := (NBox.new w (.int .i64 15) (.int .i64 ((q : Int) + 1)) (.int .i64 ((r : Int) + 1)) (.string xs) (.slice s1 n1 c1) (.slice s2 n2 c2)).below (by simp) hb; obtain ⟨e0, e1, e2, e3, e4, e5⟩ := b5.all; have HB5 := hide ((unhide hB _).trans (hb.mono (by simp))); have hpq := prims_at hr hq33; have hpr := prims_at hr hr33; have hlt5 := b5.lt; clear hr hb b5) | (go_at_call 72; refine ((unhide HX).say (unhide HB5) _ _ (unhide HQ)).mono ?_; rintro e w6 ⟨⟨v6, rfl⟩, hw6⟩; have HW6 := hide hw6; clear hw6))
  go_end0
  exact ⟨⟨_, rfl⟩, unhide HW6⟩

set_option maxRecDepth 20000 in
set_option maxHeartbeats 8000000 in
theorem says_fun16 (Z : World) (p : Nat) (a : Option Addr) (n cap : Nat) (xn xm : Int) (xs : ByteArray) (s1 s2 : Option Addr) (n1 c1 n2 c2 : Nat) (F : List UInt8 × Bool → List UInt8 × Bool)
    (hR : SaysP Z p a n cap 76 #[.pointer (some ⟨p, 0, none⟩), .slice s2 n2 c2, .string ⟨#[123]⟩, .string ⟨#[226, 139, 132]⟩, .string ⟨#[125]⟩] F) :
    SaysP Z p a n cap 78 #[.pointer (some ⟨p, 0, none⟩), .agg #[.int .i64 16, .int .i64 xn, .int .i64 xm, .string xs, .slice s1 n1 c1, .slice s2 n2 c2]] F := by
  intro w g gc st h hq
  have HQ := hide hq
  have HX := hide h
  have HR := hide hR
  have hB : Hid (∀ o : Obj, Below w.heap.size w (w.alloc o)) := fun o => (Below.refl _ _).alloc (Nat.le_refl _) _
  clear h hq hR
  go_enter Tryz.func78, Tryz.ntmps78
  go_wp2_with (first | (go_at_call 122; refine (l2Prims_any _).mono ?_; rintro e w5 ⟨pg, pc, rfl, hr, hb⟩; have b5 := (NBox.new w (.int .i64 16) (.int .i64 xn) (.int .i64 xm) (.string xs) (.slice s1 n1 c1) (.slice s2 n2 c2)).below (by simp) hb; obtain ⟨e0, e1, e2, e3, e4, e5⟩ := b5.all; have HB5 := hide ((unhide hB _).trans (hb.mono (by simp))); clear hr hb b5) | (go_at_call 76; refine (unhide HR _ g gc _ ((unhide HX).below (unhide HB5)) (unhide HQ)).mono ?_; rintro e w6 ⟨⟨v6, rfl⟩, hw6⟩; have HW6 := hide (Went.trans (But.of_below (unhide HB5)) (.inl rfl) hw6); clear hw6))
  go_end0
  exact ⟨⟨_, rfl⟩, unhide HW6⟩

end Go.Proofs.YtmgjicgojlkpcaaGreatDoor
