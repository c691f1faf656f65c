import Derived.Test.YtmgjicgojlkpcaaGreatDoorSpecNodeA
namespace Go.Proofs.YtmgjicgojlkpcaaGreatDoor
open Go.RowKit

theorem nums_app (L : Looks) : ∀ (u v : List Int) (st : List UInt8 × Bool), numsP L (u ++ v) st = numsP L v (numsP L u st)
  | [], v, st => rfl
  | z :: u, v, st => by
    show numsP L (u ++ v) (sayP st (L.num z) true) = numsP L v (numsP L u (sayP st (L.num z) true))
    exact nums_app L u v _

theorem nums_mono (L : Looks) : ∀ (u : List Int) (st : List UInt8 × Bool), lenP st ≤ lenP (numsP L u st)
  | [], _ => Nat.le_refl _
  | z :: u, st => Nat.le_trans (say_len st (L.num z) true).1 (nums_mono L u _)

theorem nums_step (L : Looks) {zs : List Int} {j : Nat} (h : j < zs.length) (st : List UInt8 × Bool) : numsP L (zs.take (j + 1)) st = sayP (numsP L (zs.take j) st) (L.num (zs.getD j 0)) true ∧ lenP (numsP L (zs.take (j + 1)) st) ≤ lenP (numsP L zs st) := by
  constructor
  · rw [List.take_succ_eq_append_getElem h, nums_app]
    have e : zs.getD j 0 = zs[j] := by simp [List.getD_eq_getElem?_getD, h]
    rw [e]
    rfl
  · have e : zs = zs.take (j + 1) ++ zs.drop (j + 1) := (List.take_append_drop _ _).symm
    conv => rhs; rw [e, nums_app]
    exact nums_mono L _ _

theorem says_num (Z : World) (p : Nat) (a : Option Addr) (n cap : Nat) (z : Int) (h : isNum z = true) : SaysP Z p a n cap 72 #[.pointer (some ⟨p, 0, none⟩), .string (bstr (numT z)), .bool true] (fun st => sayP st (looksD.num z) true) := by
  have h' : -1000000000000000 ≤ z ∧ z ≤ 1000000000000000 := by unfold isNum at h; exact of_decide_eq_true h
  exact says_congr (says_say Z p a n cap (bstr (numT z)) true) (fun st => by rw [looks_num, if_pos h'])

set_option maxRecDepth 20000 in
set_option maxHeartbeats 8000000 in
theorem says_node1 (Z : World) (p b off n cap i : Nat) (hi : i < n) (k xn xm : Int) (xs : ByteArray) (s1 : Option Addr) (n1 c1 : Nat) (s2 : Option Addr) (n2 c2 : Nat) (hx : NodeIs Z b (off + i * 6) k xn xm xs (.slice s1 n1 c1) (.slice s2 n2 c2)) (hk : k = 1) (nums : List Int) (hr : Row Z s1 n1 nums) (hnum : nums.all isNum = true) :
    SaysP Z p (some ⟨b, off, none⟩) n cap 34 #[.pointer (some ⟨p, 0, none⟩), .int .i64 (i : Nat)] (fun st => numsP looksD nums st) := by
  intro w g gc st h hq
  obtain ⟨hbl, x0, x1, x2, x3, x4, x5⟩ := hx
  have c0' := (h.low.cell (p := ⟨b, off + i * 6, none⟩) hbl).trans x0
  have c1' := (h.low.cell (p := ⟨b, off + i * 6 + 1, none⟩) hbl).trans x1
  have c2' := (h.low.cell (p := ⟨b, off + i * 6 + 2, none⟩) hbl).trans x2
  have c3' := (h.low.cell (p := ⟨b, off + i * 6 + 3, none⟩) hbl).trans x3
  have c4' := (h.low.cell (p := ⟨b, off + i * 6 + 4, none⟩) hbl).trans x4
  have c5' := (h.low.cell (p := ⟨b, off + i * 6 + 5, none⟩) hbl).trans x5
  obtain ⟨d0, d1, d2, f0, f1, f2⟩ := h.sw.all
  have hii : (i : Int) < (n : Int) := by omega
  have hbw : b < w.heap.size := Nat.lt_of_lt_of_le hbl h.low.size
  have hpw := h.sw.lt.1
  have HB0 := hide (SB.new h (.int .i64 k) (.int .i64 xn) (.int .i64 xm) (.string xs) (.slice s1 n1 c1) (.slice s2 n2 c2))
  have hlen := hr.len
  have hsm := hr.small
  have HQ := hide hq
  have HR := hide hr
  have HN : Hid (∀ j, j < n1 → isNum (nums.getD j 0) = true) := fun j hj => by
    refine List.all_eq_true.mp hnum _ ?_
    have e : nums.getD j 0 = nums[j]'(by omega) := by simp [List.getD_eq_getElem?_getD, show j < nums.length by omega]
    rw [e]
    exact List.getElem_mem _
  clear h hq x0 x1 x2 x3 x4 x5
  clear hr hnum
  subst hk
  go_enter Tryz.func34, Tryz.ntmps34
  go_wp2_with fail
  go_loopw [5] (fun u wr => ∃ (j gk gck : Nat), u = .int .i64 (j : Nat) ∧ j ≤ n1 ∧ Hid (SB Z p (some ⟨b, off, none⟩) n cap w g w.heap.size (.int .i64 1) (.int .i64 xn) (.int .i64 xm) (.string xs) (.slice s1 n1 c1) (.slice s2 n2 c2) wr gk gck (numsP looksD (nums.take j) st))) (fun e _ => n1 - (intOf e).toNat)
  case atStart => exact ⟨0, g, gc, rfl, Nat.zero_le _, HB0⟩
  case round =>
    clear HB0
    obtain ⟨j, gk, gck, rfl, hj, HX⟩ := hrel
    obtain ⟨q0, q1, q2, q3, q4, q5⟩ := (unhide HX).box.all
    have hqlt := (unhide HX).box.lt
    by_cases hlt : j < n1
    case neg =>
      have he : j = n1 := by omega
      subst he
      have hlti : ¬ (j : Int) < (j : Int) := by omega
      have HT : Hid (nums.take j = nums) := by show _ = _; exact List.take_of_length_le (by omega)
      go_wp2_with fail
      go_end0
      have hd := (unhide HX).done
      rw [unhide HT] at hd
      exact ⟨⟨_, rfl⟩, hd⟩
    case pos =>
      have hlti : (j : Int) < (n1 : Int) := by omega
      obtain ⟨bb, oo, rfl, hbb, hcc⟩ := (unhide HR).get hlt
      have hcw := ((unhide HX).sx.low.cell (p := ⟨bb, oo + j, none⟩) hbb).trans hcc
      have hnm := unhide HN j hlt
      obtain ⟨hst, hle⟩ := nums_step looksD (show j < nums.length by omega) st
      have hqq := unhide HQ
      have HL : Hid (lenP (sayP (numsP looksD (nums.take j) st) (looksD.num (nums.getD j 0)) true) ≤ mostP) := by
        show _ ≤ _
        rw [← hst]
        exact Nat.le_trans hle hqq
      have HST := hide hst
      obtain ⟨z, hz⟩ : ∃ z, nums.getD j 0 = z := ⟨_, rfl⟩
      rw [hz] at hcw hnm HL HST
      have hzz : -1000000000000000 ≤ z ∧ z ≤ 1000000000000000 := by unfold isNum at hnm; exact of_decide_eq_true hnm
      have HS := hide (says_num Z p (some ⟨b, off, none⟩) n cap z hnm)
      clear hst hle hqq hz hcc hnm
      go_wp2_with (first | (go_at_call 73; refine (l1Dec_any z hzz _).mono ?_; rintro e w5 ⟨rfl, hb5⟩; have HB5 := hide hb5; clear hb5) | (go_at_call 72; refine ((unhide HX).callB (unhide HB5) (unhide HS) (unhide HL)).mono ?_; rintro e w6 ⟨⟨v6, rfl⟩, g6, gc6, hb6⟩; have HB6 := hide hb6; clear hb6))
      go_roundw
      case rel =>
        refine ⟨j + 1, g6, gc6, by go_num, by omega, ?_⟩
        rw [unhide HST]
        exact HB6
      case measure => simp [intOf]; omega

end Go.Proofs.YtmgjicgojlkpcaaGreatDoor
