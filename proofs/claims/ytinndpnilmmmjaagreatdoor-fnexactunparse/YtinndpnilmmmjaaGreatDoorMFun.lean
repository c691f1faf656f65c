import Derived.Test.YtinndpnilmmmjaaGreatDoorMSay
import Derived.Test.YtinndpnilmmmjaaGreatDoorMTk
import Derived.Test.YtinndpnilmmmjaaGreatDoorMTk
namespace Go.Proofs.YtinndpnilmmmjaaGreatDoor
open Go.RowKit

theorem primT_size (q : Nat) : (primT q).size ≤ 4 := by
  unfold primT
  by_cases h : q < primTs.length
  · have e : primTs.getD q ⟨#[]⟩ = primTs[q] := by simp [List.getD_eq_getElem?_getD, h]
    rw [e]
    exact prim_short _ (List.getElem_mem h)
  · have e : primTs.getD q ⟨#[]⟩ = ⟨#[]⟩ := by simp [List.getD_eq_getElem?_getD, List.getElem?_eq_none (Nat.le_of_not_lt h)]
    rw [e]
    decide

set_option maxRecDepth 20000 in
set_option maxHeartbeats 8000000 in
theorem says_fun14 (Z : World) (p : Nat) (a : Option Addr) (n cap : Nat) (xm : Int) (q : Nat) (hq33 : q < 33) (xs : ByteArray) (s1 s2 : Option Addr) (n1 c1 n2 c2 : Nat) :
    SaysP Z p a n cap 78 #[.pointer (some ⟨p, 0, none⟩), .agg #[.int .i64 14, .int .i64 ((q : Int) + 1), .int .i64 xm, .string xs, .slice s1 n1 c1, .slice s2 n2 c2]] (fun st => sayP st ((⟨#[226, 136, 152, 46]⟩ : ByteArray) ++ primT q).data.toList false) := by
  intro w g gc st h hq
  have hq' : lenP (sayP st ((⟨#[226, 136, 152, 46]⟩ : ByteArray) ++ primT q).data.toList false) ≤ mostP := hq
  have HQ := hide hq'
  have HX := hide h
  have hB : Hid (∀ o : Obj, Below w.heap.size w (w.alloc o)) := fun o => (Below.refl _ _).alloc (Nat.le_refl _) _
  have hlen := primTs_len
  have hsub : (q : Int) + 1 - 1 = (q : Int) := by omega
  have hp4 := primT_size q
  have hno : ¬ 9223372036854775807 < (⟨#[226, 136, 152, 46]⟩ : ByteArray).size + (primT q).size := by have : (⟨#[226, 136, 152, 46]⟩ : ByteArray).size = 4 := rfl; omega
  clear h hq hq'
  go_enter Tryz.func78, Tryz.ntmps78
  go_wp2_with (first | (go_at_call 122; refine (l2Prims_any _).mono ?_; rintro e w5 ⟨pg, pc, rfl, hr, hb⟩; simp only [hlen]; have b5 := (NBox.new w (.int .i64 14) (.int .i64 ((q : Int) + 1)) (.int .i64 xm) (.string xs) (.slice s1 n1 c1) (.slice s2 n2 c2)).below (by simp) hb; obtain ⟨e0, e1, e2, e3, e4, e5⟩ := b5.all; have HB5 := hide ((unhide hB _).trans (hb.mono (by simp))); have hpq := prims_at hr hq33; have hlt5 := b5.lt; clear hr hb b5) | (go_at_call 72; refine ((unhide HX).say (unhide HB5) _ _ (unhide HQ)).mono ?_; rintro e w6 ⟨⟨v6, rfl⟩, hw6⟩; have HW6 := hide hw6; clear hw6))
  go_end0
  exact ⟨⟨_, rfl⟩, unhide HW6⟩

set_option maxRecDepth 20000 in
set_option maxHeartbeats 8000000 in
theorem says_fun12_0 (Z : World) (p : Nat) (a : Option Addr) (n cap : Nat)  (q : Nat) (hq33 : q < 33) (xs : ByteArray) (s1 s2 : Option Addr) (n1 c1 n2 c2 : Nat) :
    SaysP Z p a n cap 78 #[.pointer (some ⟨p, 0, none⟩), .agg #[.int .i64 12, .int .i64 ((q : Int) + 1), .int .i64 0, .string xs, .slice s1 n1 c1, .slice s2 n2 c2]] (fun st => sayP st (primT q ++ (⟨#[47]⟩ : ByteArray)).data.toList false) := by
  intro w g gc st h hq
  have hq' : lenP (sayP st (primT q ++ (⟨#[47]⟩ : ByteArray)).data.toList false) ≤ mostP := hq
  have HQ := hide hq'
  have HX := hide h
  have hB : Hid (∀ o : Obj, Below w.heap.size w (w.alloc o)) := fun o => (Below.refl _ _).alloc (Nat.le_refl _) _
  have hlen := primTs_len
  have hsub : (q : Int) + 1 - 1 = (q : Int) := by omega
  have hp4 := primT_size q
  have hno : ¬ 9223372036854775807 < (primT q).size + (⟨#[47]⟩ : ByteArray).size := by have : (⟨#[47]⟩ : ByteArray).size = 1 := rfl; omega
  clear h hq hq'
  go_enter Tryz.func78, Tryz.ntmps78
  go_wp2_with (first | (go_at_call 122; refine (l2Prims_any _).mono ?_; rintro e w5 ⟨pg, pc, rfl, hr, hb⟩; simp only [hlen]; have b5 := (NBox.new w (.int .i64 12) (.int .i64 ((q : Int) + 1)) (.int .i64 0) (.string xs) (.slice s1 n1 c1) (.slice s2 n2 c2)).below (by simp) hb; obtain ⟨e0, e1, e2, e3, e4, e5⟩ := b5.all; have HB5 := hide ((unhide hB _).trans (hb.mono (by simp))); have hpq := prims_at hr hq33; have hlt5 := b5.lt; clear hr hb b5) | (go_at_call 72; refine ((unhide HX).say ((unhide HB5).alloc (unhide HB5).size _) _ _ (unhide HQ)).mono ?_; rintro e w6 ⟨⟨v6, rfl⟩, hw6⟩; have HW6 := hide hw6; clear hw6))
  go_end0
  exact ⟨⟨_, rfl⟩, unhide HW6⟩

set_option maxRecDepth 20000 in
set_option maxHeartbeats 8000000 in
theorem says_fun12_1 (Z : World) (p : Nat) (a : Option Addr) (n cap : Nat)  (q : Nat) (hq33 : q < 33) (xs : ByteArray) (s1 s2 : Option Addr) (n1 c1 n2 c2 : Nat) :
    SaysP Z p a n cap 78 #[.pointer (some ⟨p, 0, none⟩), .agg #[.int .i64 12, .int .i64 ((q : Int) + 1), .int .i64 1, .string xs, .slice s1 n1 c1, .slice s2 n2 c2]] (fun st => sayP st (primT q ++ (⟨#[226, 140, 191]⟩ : ByteArray)).data.toList false) := by
  intro w g gc st h hq
  have hq' : lenP (sayP st (primT q ++ (⟨#[226, 140, 191]⟩ : ByteArray)).data.toList false) ≤ mostP := hq
  have HQ := hide hq'
  have HX := hide h
  have hB : Hid (∀ o : Obj, Below w.heap.size w (w.alloc o)) := fun o => (Below.refl _ _).alloc (Nat.le_refl _) _
  have hlen := primTs_len
  have hsub : (q : Int) + 1 - 1 = (q : Int) := by omega
  have hp4 := primT_size q
  have hno : ¬ 9223372036854775807 < (primT q).size + (⟨#[226, 140, 191]⟩ : ByteArray).size := by have : (⟨#[226, 140, 191]⟩ : ByteArray).size = 3 := rfl; omega
  clear h hq hq'
  go_enter Tryz.func78, Tryz.ntmps78
  go_wp2_with (first | (go_at_call 122; refine (l2Prims_any _).mono ?_; rintro e w5 ⟨pg, pc, rfl, hr, hb⟩; simp only [hlen]; have b5 := (NBox.new w (.int .i64 12) (.int .i64 ((q : Int) + 1)) (.int .i64 1) (.string xs) (.slice s1 n1 c1) (.slice s2 n2 c2)).below (by simp) hb; obtain ⟨e0, e1, e2, e3, e4, e5⟩ := b5.all; have HB5 := hide ((unhide hB _).trans (hb.mono (by simp))); have hpq := prims_at hr hq33; have hlt5 := b5.lt; clear hr hb b5) | (go_at_call 72; refine ((unhide HX).say ((unhide HB5).alloc (unhide HB5).size _) _ _ (unhide HQ)).mono ?_; rintro e w6 ⟨⟨v6, rfl⟩, hw6⟩; have HW6 := hide hw6; clear hw6))
  go_end0
  exact ⟨⟨_, rfl⟩, unhide HW6⟩

set_option maxRecDepth 20000 in
set_option maxHeartbeats 8000000 in
theorem says_fun13_0 (Z : World) (p : Nat) (a : Option Addr) (n cap : Nat)  (q : Nat) (hq33 : q < 33) (xs : ByteArray) (s1 s2 : Option Addr) (n1 c1 n2 c2 : Nat) :
    SaysP Z p a n cap 78 #[.pointer (some ⟨p, 0, none⟩), .agg #[.int .i64 13, .int .i64 ((q : Int) + 1), .int .i64 0, .string xs, .slice s1 n1 c1, .slice s2 n2 c2]] (fun st => sayP st (primT q ++ (⟨#[92]⟩ : ByteArray)).data.toList false) := by
  intro w g gc st h hq
  have hq' : lenP (sayP st (primT q ++ (⟨#[92]⟩ : ByteArray)).data.toList false) ≤ mostP := hq
  have HQ := hide hq'
  have HX := hide h
  have hB : Hid (∀ o : Obj, Below w.heap.size w (w.alloc o)) := fun o => (Below.refl _ _).alloc (Nat.le_refl _) _
  have hlen := primTs_len
  have hsub : (q : Int) + 1 - 1 = (q : Int) := by omega
  have hp4 := primT_size q
  have hno : ¬ 9223372036854775807 < (primT q).size + (⟨#[92]⟩ : ByteArray).size := by have : (⟨#[92]⟩ : ByteArray).size = 1 := rfl; omega
  clear h hq hq'
  go_enter Tryz.func78, Tryz.ntmps78
  go_wp2_with (first | (go_at_call 122; refine (l2Prims_any _).mono ?_; rintro e w5 ⟨pg, pc, rfl, hr, hb⟩; simp only [hlen]; have b5 := (NBox.new w (.int .i64 13) (.int .i64 ((q : Int) + 1)) (.int .i64 0) (.string xs) (.slice s1 n1 c1) (.slice s2 n2 c2)).below (by simp) hb; obtain ⟨e0, e1, e2, e3, e4, e5⟩ := b5.all; have HB5 := hide ((unhide hB _).trans (hb.mono (by simp))); have hpq := prims_at hr hq33; have hlt5 := b5.lt; clear hr hb b5) | (go_at_call 72; refine ((unhide HX).say ((unhide HB5).alloc (unhide HB5).size _) _ _ (unhide HQ)).mono ?_; rintro e w6 ⟨⟨v6, rfl⟩, hw6⟩; have HW6 := hide hw6; clear hw6))
  go_end0
  exact ⟨⟨_, rfl⟩, unhide HW6⟩

set_option maxRecDepth 20000 in
set_option maxHeartbeats 8000000 in
theorem says_fun13_1 (Z : World) (p : Nat) (a : Option Addr) (n cap : Nat)  (q : Nat) (hq33 : q < 33) (xs : ByteArray) (s1 s2 : Option Addr) (n1 c1 n2 c2 : Nat) :
    SaysP Z p a n cap 78 #[.pointer (some ⟨p, 0, none⟩), .agg #[.int .i64 13, .int .i64 ((q : Int) + 1), .int .i64 1, .string xs, .slice s1 n1 c1, .slice s2 n2 c2]] (fun st => sayP st (primT q ++ (⟨#[226, 141, 128]⟩ : ByteArray)).data.toList false) := by
  intro w g gc st h hq
  have hq' : lenP (sayP st (primT q ++ (⟨#[226, 141, 128]⟩ : ByteArray)).data.toList false) ≤ mostP := hq
  have HQ := hide hq'
  have HX := hide h
  have hB : Hid (∀ o : Obj, Below w.heap.size w (w.alloc o)) := fun o => (Below.refl _ _).alloc (Nat.le_refl _) _
  have hlen := primTs_len
  have hsub : (q : Int) + 1 - 1 = (q : Int) := by omega
  have hp4 := primT_size q
  have hno : ¬ 9223372036854775807 < (primT q).size + (⟨#[226, 141, 128]⟩ : ByteArray).size := by have : (⟨#[226, 141, 128]⟩ : ByteArray).size = 3 := rfl; omega
  clear h hq hq'
  go_enter Tryz.func78, Tryz.ntmps78
  go_wp2_with (first | (go_at_call 122; refine (l2Prims_any _).mono ?_; rintro e w5 ⟨pg, pc, rfl, hr, hb⟩; simp only [hlen]; have b5 := (NBox.new w (.int .i64 13) (.int .i64 ((q : Int) + 1)) (.int .i64 1) (.string xs) (.slice s1 n1 c1) (.slice s2 n2 c2)).below (by simp) hb; obtain ⟨e0, e1, e2, e3, e4, e5⟩ := b5.all; have HB5 := hide ((unhide hB _).trans (hb.mono (by simp))); have hpq := prims_at hr hq33; have hlt5 := b5.lt; clear hr hb b5) | (go_at_call 72; refine ((unhide HX).say ((unhide HB5).alloc (unhide HB5).size _) _ _ (unhide HQ)).mono ?_; rintro e w6 ⟨⟨v6, rfl⟩, hw6⟩; have HW6 := hide hw6; clear hw6))
  go_end0
  exact ⟨⟨_, rfl⟩, unhide HW6⟩

end Go.Proofs.YtinndpnilmmmjaaGreatDoor
namespace Go.Proofs.YtinndpnilmmmjaaGreatDoor
open Go.RowKit

set_option maxRecDepth 20000 in
set_option maxHeartbeats 8000000 in
theorem says_fun15 (Z : World) (p : Nat) (a : Option Addr) (n cap : Nat) (q r : Nat) (hq33 : q < 33) (hr33 : r < 33) (xs : ByteArray) (s1 s2 : Option Addr) (n1 c1 n2 c2 : Nat) :
    SaysP Z p a n cap 78 #[.pointer (some ⟨p, 0, none⟩), .agg #[.int .i64 15, .int .i64 ((q : Int) + 1), .int .i64 ((r : Int) + 1), .string xs, .slice s1 n1 c1, .slice s2 n2 c2]] (fun st => sayP st ((primT q ++ (⟨#[46]⟩ : ByteArray)) ++ primT r).data.toList false) := by
  intro w g gc st h hq
  have hq' : lenP (sayP st ((primT q ++ (⟨#[46]⟩ : ByteArray)) ++ primT r).data.toList false) ≤ mostP := hq
  have HQ := hide hq'
  have HX := hide h
  have hB : Hid (∀ o : Obj, Below w.heap.size w (w.alloc o)) := fun o => (Below.refl _ _).alloc (Nat.le_refl _) _
  have hlen := primTs_len
  have hsub : (q : Int) + 1 - 1 = (q : Int) := by omega
  have hsub2 : (r : Int) + 1 - 1 = (r : Int) := by omega
  have hp4 := primT_size q
  have hr4 := primT_size r
  have h1 : (⟨#[46]⟩ : ByteArray).size = 1 := rfl
  have hno : ¬ 9223372036854775807 < (primT q).size + (⟨#[46]⟩ : ByteArray).size := by omega
  have hno2 : ¬ 9223372036854775807 < (primT q ++ (⟨#[46]⟩ : ByteArray)).size + (primT r).size := by rw [ByteArray.size_append]; omega
  have hno3 : ¬ 9223372036854775807 < (primT q).size + (⟨#[46]⟩ : ByteArray).size + (primT r).size := by omega
  clear h hq hq' h1
  go_enter Tryz.func78, Tryz.ntmps78
  go_wp2_with (first | (go_at_call 122; refine (l2Prims_any _).mono ?_; rintro e w5 ⟨pg, pc, rfl, hr, hb⟩; simp only [hlen]; have b5 := (NBox.new w (.int .i64 15) (.int .i64 ((q : Int) + 1)) (.int .i64 ((r : Int) + 1)) (.string xs) (.slice s1 n1 c1) (.slice s2 n2 c2)).below (by simp) hb; obtain ⟨e0, e1, e2, e3, e4, e5⟩ := b5.all; have HB5 := hide ((unhide hB _).trans (hb.mono (by simp))); have hpq := prims_at hr hq33; have hpr := prims_at hr hr33; have hlt5 := b5.lt; clear hr hb b5) | (go_at_call 72; refine ((unhide HX).say (unhide HB5) _ _ (unhide HQ)).mono ?_; rintro e w6 ⟨⟨v6, rfl⟩, hw6⟩; have HW6 := hide hw6; clear hw6))
  go_end0
  exact ⟨⟨_, rfl⟩, unhide HW6⟩

set_option maxRecDepth 20000 in
set_option maxHeartbeats 8000000 in
theorem says_fun16 (Z : World) (p : Nat) (a : Option Addr) (n cap : Nat) (xn xm : Int) (xs : ByteArray) (s1 s2 : Option Addr) (n1 c1 n2 c2 : Nat) (F : List UInt8 × Bool → List UInt8 × Bool)
    (hR : SaysP Z p a n cap 76 #[.pointer (some ⟨p, 0, none⟩), .slice s2 n2 c2, .string ⟨#[123]⟩, .string ⟨#[226, 139, 132]⟩, .string ⟨#[125]⟩] F) :
    SaysP Z p a n cap 78 #[.pointer (some ⟨p, 0, none⟩), .agg #[.int .i64 16, .int .i64 xn, .int .i64 xm, .string xs, .slice s1 n1 c1, .slice s2 n2 c2]] F := by
  intro w g gc st h hq
  have HQ := hide hq
  have HX := hide h
  have HR := hide hR
  have hB : Hid (∀ o : Obj, Below w.heap.size w (w.alloc o)) := fun o => (Below.refl _ _).alloc (Nat.le_refl _) _
  clear h hq hR
  go_enter Tryz.func78, Tryz.ntmps78
  go_wp2_with (first | (go_at_call 122; refine (l2Prims_any _).mono ?_; rintro e w5 ⟨pg, pc, rfl, hr, hb⟩; have b5 := (NBox.new w (.int .i64 16) (.int .i64 xn) (.int .i64 xm) (.string xs) (.slice s1 n1 c1) (.slice s2 n2 c2)).below (by simp) hb; obtain ⟨e0, e1, e2, e3, e4, e5⟩ := b5.all; have HB5 := hide ((unhide hB _).trans (hb.mono (by simp))); clear hr hb b5) | (go_at_call 76; refine (unhide HR _ g gc _ ((unhide HX).below (unhide HB5)) (unhide HQ)).mono ?_; rintro e w6 ⟨⟨v6, rfl⟩, hw6⟩; have HW6 := hide (Went.trans (But.of_below (unhide HB5)) (.inl rfl) hw6); clear hw6))
  go_end0
  exact ⟨⟨_, rfl⟩, unhide HW6⟩

end Go.Proofs.YtinndpnilmmmjaaGreatDoor
namespace Go.Proofs.YtinndpnilmmmjaaGreatDoor
open Go.RowKit

def sgL (c : Nat) : List UInt8 := (bstr (encZ ((c : Nat) : Int))).data.toList

set_option maxRecDepth 100000 in
theorem sgL_eq (c : Nat) : sgL c = (bstr (encZ ((c : Nat) : Int))).data.toList := by delta sgL; exact rfl

/-- How the pieces look. -/
def looksD : Looks where
  sg := sgL
  prim n := (primT (n - 1).toNat).data.toList
  num z := if -1000000000000000 ≤ z ∧ z ≤ 1000000000000000 then (bstr (numT z)).data.toList else []
  txt s := quoteL s.data.toList

theorem enc_len (c : Int) : (encZ c).length ≤ 4 := by
  unfold encZ
  split
  · simp
  split
  · simp
  split <;> simp

theorem dl_size (s : ByteArray) : s.data.toList.length = s.size := by rw [← Lib.size_eq]

theorem looks_sg (c : Nat) : looksD.sg c = (bstr (encZ ((c : Nat) : Int))).data.toList := by
  have e : looksD.sg c = sgL c := by simp only [looksD]
  rw [e]
  exact sgL_eq c
theorem looks_prim (n : Int) : looksD.prim n = (primT (n - 1).toNat).data.toList := rfl
theorem looks_num (z : Int) : looksD.num z = if -1000000000000000 ≤ z ∧ z ≤ 1000000000000000 then (bstr (numT z)).data.toList else [] := rfl
theorem looks_txt (s : ByteArray) : looksD.txt s = quoteL s.data.toList := rfl

theorem looks_short {ns : List NodeD} (h : SmallD ns ns.length) : Short looksD ns where
  sg c := by
    rw [looks_sg, dl_size, bstr_size]
    exact enc_len _
  prim n := by
    rw [looks_prim, dl_size]
    exact primT_size _
  num z := by
    rw [looks_num]
    split
    · next hz =>
      rw [dl_size, bstr_size]
      have := wid_le hz
      unfold wid at this
      unfold numT
      rw [List.length_append]
      split at this <;> split <;> simp_all <;> omega
    · simp
  txt i hi := by
    rw [looks_txt]
    have h1 := (h i hi).1
    have h2 := (qd_len (node ns i).s.data.toList).1
    rw [dl_size] at h2
    have e : quoteL (node ns i).s.data.toList = 39 :: (qd (node ns i).s.data.toList ++ [39]) := by unfold quoteL qd; simp
    rw [e]
    simp only [List.length_cons, List.length_append, List.length_nil]
    omega
  s i hi := (h i hi).1
  nums i hi := (h i hi).2.1
  kids i hi := (h i hi).2.2

theorem say_say (st : List UInt8 × Bool) (a b : List UInt8) : sayP (sayP st a false) b false = sayP st (a ++ b) false := by simp [sayP, List.append_assoc]

theorem ba_app (a b : ByteArray) : (a ++ b).data.toList = a.data.toList ++ b.data.toList := by simp

theorem prim_at {n : Int} (h : 1 ≤ n) : ∃ q : Nat, n = (q : Int) + 1 ∧ (n - 1).toNat = q := ⟨(n - 1).toNat, by omega, rfl⟩

theorem says_congr {Z : World} {p : Nat} {a : Option Addr} {n cap f : Nat} {args : Array Value} {F F' : List UInt8 × Bool → List UInt8 × Bool} (h : SaysP Z p a n cap f args F) (e : ∀ st, F' st = F st) : SaysP Z p a n cap f args F' := by
  have : F' = F := funext e
  rw [this]
  exact h

theorem fields_at {T : ByteArray → Bool} {x : NodeD} (h : fieldsS T x = true) : (okN x = true ∧ okM x = true) ∧ okS T x = true ∧ okNums x = true := by
  rw [← fields_eq] at h
  unfold fieldsI at h
  simp only [Bool.and_eq_true] at h
  exact ⟨⟨h.1, h.2.1⟩, h.2.2.1, h.2.2.2⟩

theorem says_function (Z : World) (p : Nat) (a : Option Addr) (n cap : Nat) (ns : List NodeD) (G : Nat → List UInt8 × Bool → List UInt8 × Bool) (T : ByteArray → Bool) (x : NodeD) (hk : 11 ≤ x.k ∧ x.k ≤ 18) (hf : fieldsS T x = true) (s1 s2 : Option Addr) (n1 c1 n2 c2 : Nat)
    (hR : x.k = 16 → SaysP Z p a n cap 76 #[.pointer (some ⟨p, 0, none⟩), .slice s2 n2 c2, .string ⟨#[123]⟩, .string ⟨#[226, 139, 132]⟩, .string ⟨#[125]⟩] (fun st => sayS looksD (listP looksD G 8900 x.kids x.kids.length (sayS looksD st 123)) 125)) :
    SaysP Z p a n cap 78 #[.pointer (some ⟨p, 0, none⟩), .agg #[.int .i64 x.k, .int .i64 x.n, .int .i64 x.m, .string x.s, .slice s1 n1 c1, .slice s2 n2 c2]] (nodeP looksD ns G x) := by
  obtain ⟨⟨hN, hM⟩, -, -⟩ := fields_at hf
  clear hf
  obtain ⟨k, xn, xm, xs, nums, kids⟩ := x
  have hk1 : 11 ≤ k ∧ k ≤ 18 := hk
  clear hk
  have hcases : k = 11 ∨ k = 12 ∨ k = 13 ∨ k = 14 ∨ k = 15 ∨ k = 16 ∨ k = 17 ∨ k = 18 := by omega
  rcases hcases with rfl | rfl | rfl | rfl | rfl | rfl | rfl | rfl
  · have h1 : 1 ≤ xn ∧ xn ≤ 33 := by simpa [okN] using hN
    obtain ⟨q, rfl, hq⟩ := prim_at h1.1
    refine says_congr (says_fun11 Z p a n cap 11 xm q (by omega) xs s1 s2 n1 c1 n2 c2 rfl) (fun st => ?_)
    simp [nodeP, looks_prim]
  · have h1 : 1 ≤ xn ∧ xn ≤ 16 := by simpa [okN, isSc] using hN
    have h2 : 0 ≤ xm ∧ xm ≤ 1 := by simpa [okM] using hM
    obtain ⟨q, rfl, hq⟩ := prim_at h1.1
    have h3 : xm = 0 ∨ xm = 1 := by omega
    rcases h3 with rfl | rfl
    · refine says_congr (says_fun12_0 Z p a n cap q (by omega) xs s1 s2 n1 c1 n2 c2) (fun st => ?_)
      rw [ba_app, ← say_say]
      simp [nodeP, looks_sg, looks_prim, sayS, bstr, encZ]
    · refine says_congr (says_fun12_1 Z p a n cap q (by omega) xs s1 s2 n1 c1 n2 c2) (fun st => ?_)
      rw [ba_app, ← say_say]
      simp [nodeP, looks_sg, looks_prim, sayS, bstr, encZ]
  · have h1 : 1 ≤ xn ∧ xn ≤ 16 := by simpa [okN, isSc] using hN
    have h2 : 0 ≤ xm ∧ xm ≤ 1 := by simpa [okM] using hM
    obtain ⟨q, rfl, hq⟩ := prim_at h1.1
    have h3 : xm = 0 ∨ xm = 1 := by omega
    rcases h3 with rfl | rfl
    · refine says_congr (says_fun13_0 Z p a n cap q (by omega) xs s1 s2 n1 c1 n2 c2) (fun st => ?_)
      rw [ba_app, ← say_say]
      simp [nodeP, looks_sg, looks_prim, sayS, bstr, encZ]
    · refine says_congr (says_fun13_1 Z p a n cap q (by omega) xs s1 s2 n1 c1 n2 c2) (fun st => ?_)
      rw [ba_app, ← say_say]
      simp [nodeP, looks_sg, looks_prim, sayS, bstr, encZ]
  · have h1 : 1 ≤ xn ∧ xn ≤ 16 := by simpa [okN, isSc] using hN
    obtain ⟨q, rfl, hq⟩ := prim_at h1.1
    refine says_congr (says_fun14 Z p a n cap xm q (by omega) xs s1 s2 n1 c1 n2 c2) (fun st => ?_)
    have e : (⟨#[226, 136, 152, 46]⟩ : ByteArray).data.toList = [226, 136, 152] ++ [46] := rfl
    rw [ba_app, ← say_say, e, ← say_say]
    simp [nodeP, looks_sg, looks_prim, sayS, bstr, encZ]
  · have h1 : 1 ≤ xn ∧ xn ≤ 16 := by simpa [okN, isSc] using hN
    have h2 : 1 ≤ xm ∧ xm ≤ 16 := by simpa [okM, isSc] using hM
    obtain ⟨q, rfl, hq⟩ := prim_at h1.1
    obtain ⟨r, rfl, hr⟩ := prim_at h2.1
    refine says_congr (says_fun15 Z p a n cap q r (by omega) (by omega) xs s1 s2 n1 c1 n2 c2) (fun st => ?_)
    rw [ba_app, ← say_say, ba_app, ← say_say]
    simp [nodeP, looks_sg, looks_prim, sayS, bstr, encZ]
  · refine says_fun16 Z p a n cap xn xm xs s1 s2 n1 c1 n2 c2 _ (says_congr (hR rfl) (fun st => ?_))
    simp [nodeP]
  · refine says_congr (says_fun17 Z p a n cap 17 xn xm xs s1 s2 n1 c1 n2 c2 rfl) (fun st => ?_)
    simp [nodeP]
  · refine says_congr (says_fun18 Z p a n cap 18 xn xm xs s1 s2 n1 c1 n2 c2 rfl) (fun st => ?_)
    simp [nodeP, looks_sg, sayS, bstr, encZ]

end Go.Proofs.YtinndpnilmmmjaaGreatDoor
namespace Go.Proofs.YtinndpnilmmmjaaGreatDoor
open Go.RowKit

/-- The writer, and a node's box of the call's own, in a run that came from w0. -/
structure SB (Z : World) (p : Nat) (a : Option Addr) (n cap : Nat) (w0 : World) (g0 q : Nat) (v0 v1 v2 v3 v4 v5 : Value) (w : World) (g gc : Nat) (st : List UInt8 × Bool) : Prop where
  sx : SX Z p a n cap w g gc st
  box : NBox w q v0 v1 v2 v3 v4 v5
  nep : q ≠ p
  neg : q ≠ g
  but : But (fun x => x = p ∨ x = g0) w0 w
  at_ : g = g0 ∨ w0.heap.size ≤ g

section
variable {Z w w0 w' : World} {p : Nat} {a : Option Addr} {n cap g g0 gc q : Nat} {v0 v1 v2 v3 v4 v5 : Value} {st st' : List UInt8 × Bool}

theorem SB.new (h : SX Z p a n cap w g gc st) (v0 v1 v2 v3 v4 v5 : Value) : SB Z p a n cap w g w.heap.size v0 v1 v2 v3 v4 v5 (w.alloc (.cells #[v0, v1, v2, v3, v4, v5] 47)) g gc st := by
  have hl := h.sw.lt
  exact ⟨h.below ((Below.refl _ _).alloc (Nat.le_refl _) _), NBox.new _ _ _ _ _ _ _, by omega, by omega, But.of_below ((Below.refl _ _).alloc (Nat.le_refl _) _), .inl rfl⟩

theorem SB.went (h : SB Z p a n cap w0 g0 q v0 v1 v2 v3 v4 v5 w g gc st) (hw : Went Z p a n cap w g st' w') : ∃ g' gc', SB Z p a n cap w0 g0 q v0 v1 v2 v3 v4 v5 w' g' gc' st' := by
  have hq := h.box.lt
  have hnp := h.nep
  have hng := h.neg
  obtain ⟨g1, gc1, h1, h2, h3⟩ := hw
  obtain ⟨g2, gc2, k1, k2, k3⟩ := Went.trans h.but h.at_ ⟨g1, gc1, h1, h2, h3⟩
  exact ⟨g1, gc1, h1, h.box.but h2 (by omega), hnp, by omega, k2, by have := h.at_; have := h.but.size; omega⟩

theorem SB.below (h : SB Z p a n cap w0 g0 q v0 v1 v2 v3 v4 v5 w g gc st) (hb : Below w.heap.size w w') : SB Z p a n cap w0 g0 q v0 v1 v2 v3 v4 v5 w' g gc st := by
  obtain ⟨g2, gc2, k1, k2, k3⟩ := Went.trans h.but h.at_ ⟨g, gc, h.sx.below hb, But.of_below hb, .inl rfl⟩
  exact ⟨h.sx.below hb, h.box.below h.box.lt hb, h.nep, h.neg, k2, h.at_⟩

theorem SB.done (h : SB Z p a n cap w0 g0 q v0 v1 v2 v3 v4 v5 w g gc st) : Went Z p a n cap w0 g0 st w := ⟨g, gc, h.sx, h.but, h.at_⟩

/-- A call that writes, in such a run. -/
theorem SB.call (h : SB Z p a n cap w0 g0 q v0 v1 v2 v3 v4 v5 w g gc st) {f : Nat} {args : Array Value} {F : List UInt8 × Bool → List UInt8 × Bool} (hs : SaysP Z p a n cap f args F) (hl : lenP (F st) ≤ mostP) :
    Calls Tryz.prog f args w fun e w' => (∃ v, e = .returned v) ∧ ∃ g' gc', SB Z p a n cap w0 g0 q v0 v1 v2 v3 v4 v5 w' g' gc' (F st) := by
  refine (hs w g gc st h.sx hl).mono ?_
  rintro e w' ⟨hv, hw⟩
  exact ⟨hv, h.went hw⟩

/-- The same from a world that the run has grown to. -/
theorem SB.callB (h : SB Z p a n cap w0 g0 q v0 v1 v2 v3 v4 v5 w g gc st) {w1 : World} (hb : Below w.heap.size w w1) {f : Nat} {args : Array Value} {F : List UInt8 × Bool → List UInt8 × Bool} (hs : SaysP Z p a n cap f args F) (hl : lenP (F st) ≤ mostP) :
    Calls Tryz.prog f args w1 fun e w' => (∃ v, e = .returned v) ∧ ∃ g' gc', SB Z p a n cap w0 g0 q v0 v1 v2 v3 v4 v5 w' g' gc' (F st) := (h.below hb).call hs hl

end

theorem says_sign (Z : World) (p : Nat) (a : Option Addr) (n cap : Nat) (s : ByteArray) (c : Nat) (h : s.data.toList = looksD.sg c) : SaysP Z p a n cap 72 #[.pointer (some ⟨p, 0, none⟩), .string s, .bool false] (fun st => sayS looksD st c) :=
  says_congr (says_say Z p a n cap s false) (fun st => by unfold sayS; rw [h])

/-- A row's end cut off. -/
theorem Row.cutTo {w : World} {b off n : Nat} {zs : List Int} (h : Row w (some ⟨b, off, none⟩) n zs) {m : Nat} (hm : m ≤ n) : Row w (some ⟨b, off, none⟩) m (zs.take m) := by
  have hl := h.len
  refine ⟨by rw [List.length_take]; omega, by have := h.small; omega, ?_⟩
  rcases h.at_ with h0 | ⟨b', off', e, hlt, hc⟩
  · exact .inl (by omega)
  · cases e
    refine .inr ⟨b, off, rfl, hlt, fun i hi => ?_⟩
    rw [hc i (by omega)]
    simp [List.getD_eq_getElem?_getD, hi]

/-- A row's first element cut off. -/
theorem Row.cut1 {w : World} {b off n : Nat} {zs : List Int} (h : Row w (some ⟨b, off, none⟩) (n + 1) zs) : Row w (some ⟨b, off + 1, none⟩) n (zs.drop 1) := by
  have hl := h.len
  refine ⟨by rw [List.length_drop]; omega, by have := h.small; omega, ?_⟩
  rcases h.at_ with h0 | ⟨b', off', e, hlt, hc⟩
  · omega
  · cases e
    refine .inr ⟨b, off + 1, rfl, hlt, fun i hi => ?_⟩
    have := hc (i + 1) (by omega)
    rw [show off + 1 + i = off + (i + 1) by omega, this]
    simp [List.getD_eq_getElem?_getD]

end Go.Proofs.YtinndpnilmmmjaaGreatDoor
