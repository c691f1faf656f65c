import Derived.Test.YtmgjicgojlkpcaaGreatDoorSpecApply
import Derived.Test.YtmgjicgojlkpcaaGreatDoorSpecPrims
namespace Go.Proofs.YtmgjicgojlkpcaaGreatDoor
open Go.RowKit

/-- A text said, from a world that the writer's has grown to. -/
theorem SX.say {Z w w1 : World} {p : Nat} {a : Option Addr} {n cap g gc : Nat} {st : List UInt8 × Bool} (h : SX Z p a n cap w g gc st) (hb : Below w.heap.size w w1) (s : ByteArray) (wd : Bool) (hl : lenP (sayP st s.data.toList wd) ≤ mostP) :
    Calls Tryz.prog 72 #[.pointer (some ⟨p, 0, none⟩), .string s, .bool wd] w1 fun e w' => (∃ v, e = .returned v) ∧ Went Z p a n cap w g (sayP st s.data.toList wd) w' := by
  refine (says_say Z p a n cap s wd w1 g gc st (h.below hb) hl).mono ?_
  rintro e w' ⟨hv, hw⟩
  exact ⟨hv, Went.trans (But.of_below hb) (.inl rfl) hw⟩

set_option maxRecDepth 20000 in
set_option maxHeartbeats 8000000 in
theorem says_fun17 (Z : World) (p : Nat) (a : Option Addr) (n cap : Nat) (k xn xm : Int) (xs : ByteArray) (s1 s2 : Option Addr) (n1 c1 n2 c2 : Nat) (hk : k = 17) :
    SaysP Z p a n cap 78 #[.pointer (some ⟨p, 0, none⟩), .agg #[.int .i64 k, .int .i64 xn, .int .i64 xm, .string xs, .slice s1 n1 c1, .slice s2 n2 c2]] (fun st => sayP st xs.data.toList true) := by
  intro w g gc st h hq
  have hq' : lenP (sayP st xs.data.toList true) ≤ mostP := hq
  have HQ := hide hq'
  have HX := hide h
  have hB : Hid (∀ o : Obj, Below w.heap.size w (w.alloc o)) := fun o => (Below.refl _ _).alloc (Nat.le_refl _) _
  clear h hq hq'
  subst hk
  go_enter Tryz.func78, Tryz.ntmps78
  go_wp2_with (first | (go_at_call 122; refine (l2Prims_any _).mono ?_; rintro e w5 ⟨pg, pc, rfl, hr, hb⟩; have b5 := (NBox.new w (.int .i64 17) (.int .i64 xn) (.int .i64 xm) (.string xs) (.slice s1 n1 c1) (.slice s2 n2 c2)).below (by simp) hb; obtain ⟨e0, e1, e2, e3, e4, e5⟩ := b5.all; have HB5 := hide ((unhide hB _).trans (hb.mono (by simp))); clear hr hb b5) | (go_at_call 72; refine ((unhide HX).say (unhide HB5) _ _ (unhide HQ)).mono ?_; rintro e w6 ⟨⟨v6, rfl⟩, hw6⟩; have HW6 := hide hw6; clear hw6))
  go_end0
  exact ⟨⟨_, rfl⟩, unhide HW6⟩

set_option maxRecDepth 20000 in
set_option maxHeartbeats 8000000 in
theorem says_fun18 (Z : World) (p : Nat) (a : Option Addr) (n cap : Nat) (k xn xm : Int) (xs : ByteArray) (s1 s2 : Option Addr) (n1 c1 n2 c2 : Nat) (hk : k = 18) :
    SaysP Z p a n cap 78 #[.pointer (some ⟨p, 0, none⟩), .agg #[.int .i64 k, .int .i64 xn, .int .i64 xm, .string xs, .slice s1 n1 c1, .slice s2 n2 c2]] (fun st => sayP st [226, 136, 135] false) := by
  intro w g gc st h hq
  have hq' : lenP (sayP st (⟨#[226, 136, 135]⟩ : ByteArray).data.toList false) ≤ mostP := hq
  have HQ := hide hq'
  have HX := hide h
  have hB : Hid (∀ o : Obj, Below w.heap.size w (w.alloc o)) := fun o => (Below.refl _ _).alloc (Nat.le_refl _) _
  clear h hq hq'
  subst hk
  go_enter Tryz.func78, Tryz.ntmps78
  go_wp2_with (first | (go_at_call 122; refine (l2Prims_any _).mono ?_; rintro e w5 ⟨pg, pc, rfl, hr, hb⟩; have b5 := (NBox.new w (.int .i64 18) (.int .i64 xn) (.int .i64 xm) (.string xs) (.slice s1 n1 c1) (.slice s2 n2 c2)).below (by simp) hb; obtain ⟨e0, e1, e2, e3, e4, e5⟩ := b5.all; have HB5 := hide ((unhide hB _).trans (hb.mono (by simp))); clear hr hb b5) | (go_at_call 72; refine ((unhide HX).say (unhide HB5) _ _ (unhide HQ)).mono ?_; rintro e w6 ⟨⟨v6, rfl⟩, hw6⟩; have HW6 := hide hw6; clear hw6))
  go_end0
  exact ⟨⟨_, rfl⟩, unhide HW6⟩

/-- A primitive's sign. -/
def primT (q : Nat) : ByteArray := primTs.getD q ⟨#[]⟩

theorem prims_at {w : World} {g q : Nat} (h : RowS w (some ⟨g, 0, none⟩) primTs.length primTs) (hq : q < 33) : w.cell? ⟨g, q, none⟩ = some (.string (primT q)) := by
  rcases h.at_ with h0 | ⟨b, off, e, _, hc⟩
  · rw [primTs_len] at h0; omega
  · cases e
    have := hc q (by rw [primTs_len]; exact hq)
    rwa [Nat.zero_add] at this

set_option maxRecDepth 20000 in
set_option maxHeartbeats 8000000 in
theorem says_fun11 (Z : World) (p : Nat) (a : Option Addr) (n cap : Nat) (k xm : Int) (q : Nat) (hq33 : q < 33) (xs : ByteArray) (s1 s2 : Option Addr) (n1 c1 n2 c2 : Nat) (hk : k = 11) :
    SaysP Z p a n cap 78 #[.pointer (some ⟨p, 0, none⟩), .agg #[.int .i64 k, .int .i64 ((q : Int) + 1), .int .i64 xm, .string xs, .slice s1 n1 c1, .slice s2 n2 c2]] (fun st => sayP st (primT q).data.toList false) := by
  intro w g gc st h hq
  have hq' : lenP (sayP st (primT q).data.toList false) ≤ mostP := hq
  have HQ := hide hq'
  have HX := hide h
  have hB : Hid (∀ o : Obj, Below w.heap.size w (w.alloc o)) := fun o => (Below.refl _ _).alloc (Nat.le_refl _) _
  have hlen := primTs_len
  have hsub : (q : Int) + 1 - 1 = (q : Int) := by omega
  clear h hq hq'
  subst hk
  go_enter Tryz.func78, Tryz.ntmps78
  go_wp2_with (first | (go_at_call 122; refine (l2Prims_any _).mono ?_; rintro e w5 ⟨pg, pc, rfl, hr, hb⟩; simp only [hlen]; have b5 := (NBox.new w (.int .i64 11) (.int .i64 ((q : Int) + 1)) (.int .i64 xm) (.string xs) (.slice s1 n1 c1) (.slice s2 n2 c2)).below (by simp) hb; obtain ⟨e0, e1, e2, e3, e4, e5⟩ := b5.all; have HB5 := hide ((unhide hB _).trans (hb.mono (by simp))); have hpq := prims_at hr hq33; clear hr hb b5) | (go_at_call 72; refine ((unhide HX).say (unhide HB5) _ _ (unhide HQ)).mono ?_; rintro e w6 ⟨⟨v6, rfl⟩, hw6⟩; have HW6 := hide hw6; clear hw6))

  go_end0
  exact ⟨⟨_, rfl⟩, unhide HW6⟩

end Go.Proofs.YtmgjicgojlkpcaaGreatDoor
