import Derived.Test.YtinndpnilmmmjaaGreatDoorSpecNodeA
import Derived.Deep.RegionHeld3
import Derived.Test.YtinndpnilmmmjaaGreatDoorMSt
import Derived.Test.YtinndpnilmmmjaaGreatDoorMFd
namespace Go.Proofs.YtinndpnilmmmjaaGreatDoor
open Go.RowKit

set_option maxRecDepth 20000 in
set_option maxHeartbeats 8000000 in
theorem says_node9 (Z : World) (p b off n cap i : Nat) (hi : i < n) (k xn xm : Int) (xs : ByteArray) (s1 : Option Addr) (n1 c1 : Nat) (kb ko : Nat) (n2 c2 : Nat) (hx : NodeIs Z b (off + i * 6) k xn xm xs (.slice s1 n1 c1) (.slice (some ⟨kb, ko, none⟩) n2 c2)) (hk : k = 9) (hn2 : n2 = 2) (f z : Nat) (hf : Z.cell? ⟨kb, ko, none⟩ = some (.int .i64 (f : Nat))) (hz : Z.cell? ⟨kb, ko + 1, none⟩ = some (.int .i64 (z : Nat))) (hkb : kb < Z.heap.size) (F : List UInt8 × Bool → List UInt8 × Bool) (hA : SaysP Z p (some ⟨b, off, none⟩) n cap 77 #[.pointer (some ⟨p, 0, none⟩), .int .i64 (f : Nat), .int .i64 (z : Nat)] F) :
    SaysP Z p (some ⟨b, off, none⟩) n cap 34 #[.pointer (some ⟨p, 0, none⟩), .int .i64 (i : Nat)] (F) := by
  intro w g gc st h hq
  obtain ⟨hbl, x0, x1, x2, x3, x4, x5⟩ := hx
  have c0' := (h.low.cell (p := ⟨b, off + i * 6, none⟩) hbl).trans x0
  have c1' := (h.low.cell (p := ⟨b, off + i * 6 + 1, none⟩) hbl).trans x1
  have c2' := (h.low.cell (p := ⟨b, off + i * 6 + 2, none⟩) hbl).trans x2
  have c3' := (h.low.cell (p := ⟨b, off + i * 6 + 3, none⟩) hbl).trans x3
  have c4' := (h.low.cell (p := ⟨b, off + i * 6 + 4, none⟩) hbl).trans x4
  have c5' := (h.low.cell (p := ⟨b, off + i * 6 + 5, none⟩) hbl).trans x5
  obtain ⟨d0, d1, d2, f0, f1, f2⟩ := h.sw.all
  have hii : (i : Int) < (n : Int) := by omega
  have hbw : b < w.heap.size := Nat.lt_of_lt_of_le hbl h.low.size
  have hpw := h.sw.lt.1
  have HB0 := hide (SB.new h (.int .i64 k) (.int .i64 xn) (.int .i64 xm) (.string xs) (.slice s1 n1 c1) (.slice (some ⟨kb, ko, none⟩) n2 c2))
  have HA := hide hA
  have HQ1 := hide hq
  subst hn2
  have HKEEP : Hid (∀ wx gx gcx stx, SB Z p (some ⟨b, off, none⟩) n cap w g w.heap.size (.int .i64 k) (.int .i64 xn) (.int .i64 xm) (.string xs) (.slice s1 n1 c1) (.slice (some ⟨kb, ko, none⟩) 2 c2) wx gx gcx stx → wx.cell? ⟨w.heap.size, 5, none⟩ = some (.slice (some ⟨kb, ko, none⟩) 2 c2) ∧ wx.cell? ⟨kb, ko, none⟩ = some (.int .i64 (f : Nat)) ∧ wx.cell? ⟨kb, ko + 1, none⟩ = some (.int .i64 (z : Nat))) := fun wx gx gcx stx hs => ⟨hs.box.all.2.2.2.2.2, (hs.sx.low.cell (p := ⟨kb, ko, none⟩) hkb).trans hf, (hs.sx.low.cell (p := ⟨kb, ko + 1, none⟩) hkb).trans hz⟩
  clear h hq x0 x1 x2 x3 x4 x5
  clear hA hf hz hkb
  subst hk
  go_enter Tryz.func34, Tryz.ntmps34
  go_wp2_with fail
  go_region_held3 (fun wx => wx.cell? ⟨w.heap.size, 5, none⟩ = some (.slice (some ⟨kb, ko, none⟩) 2 c2) ∧ wx.cell? ⟨kb, ko, none⟩ = some (.int .i64 (f : Nat)) ∧ wx.cell? ⟨kb, ko + 1, none⟩ = some (.int .i64 (z : Nat))) (first | exact unhide HKEEP _ _ _ _ (unhide HB1) | exact unhide HKEEP _ _ _ _ ((unhide HB0).below (Below.refl _ _).drew)) (first | (go_at_call 77; refine ((unhide HB0).callB (Below.refl _ _).drew (unhide HA) (unhide HQ1)).mono ?_; rintro e w1 ⟨⟨v1, rfl⟩, g1, gc1, hb1⟩; have HB1 := hide hb1; clear hb1))
  all_goals go_wp2_with fail
  all_goals go_end0
  all_goals exact ⟨⟨_, rfl⟩, (unhide HB1).done⟩

set_option maxRecDepth 20000 in
set_option maxHeartbeats 8000000 in
theorem says_node10 (Z : World) (p b off n cap i : Nat) (hi : i < n) (k xn xm : Int) (xs : ByteArray) (s1 : Option Addr) (n1 c1 : Nat) (kb ko : Nat) (n2 c2 : Nat) (hx : NodeIs Z b (off + i * 6) k xn xm xs (.slice s1 n1 c1) (.slice (some ⟨kb, ko, none⟩) n2 c2)) (hk : k = 10) (hn2 : n2 = 3) (z0 f z : Nat) (hz0 : Z.cell? ⟨kb, ko, none⟩ = some (.int .i64 (z0 : Nat))) (hf : Z.cell? ⟨kb, ko + 1, none⟩ = some (.int .i64 (f : Nat))) (hz : Z.cell? ⟨kb, ko + 2, none⟩ = some (.int .i64 (z : Nat))) (hkb : kb < Z.heap.size) (F1 F : List UInt8 × Bool → List UInt8 × Bool) (hO : SaysP Z p (some ⟨b, off, none⟩) n cap 75 #[.pointer (some ⟨p, 0, none⟩), .int .i64 (z0 : Nat)] F1) (hA : SaysP Z p (some ⟨b, off, none⟩) n cap 77 #[.pointer (some ⟨p, 0, none⟩), .int .i64 (f : Nat), .int .i64 (z : Nat)] F) (h2 : ∀ st, lenP st ≤ lenP (F st)) :
    SaysP Z p (some ⟨b, off, none⟩) n cap 34 #[.pointer (some ⟨p, 0, none⟩), .int .i64 (i : Nat)] (fun st => F (F1 st)) := by
  intro w g gc st h hq
  obtain ⟨hbl, x0, x1, x2, x3, x4, x5⟩ := hx
  have c0' := (h.low.cell (p := ⟨b, off + i * 6, none⟩) hbl).trans x0
  have c1' := (h.low.cell (p := ⟨b, off + i * 6 + 1, none⟩) hbl).trans x1
  have c2' := (h.low.cell (p := ⟨b, off + i * 6 + 2, none⟩) hbl).trans x2
  have c3' := (h.low.cell (p := ⟨b, off + i * 6 + 3, none⟩) hbl).trans x3
  have c4' := (h.low.cell (p := ⟨b, off + i * 6 + 4, none⟩) hbl).trans x4
  have c5' := (h.low.cell (p := ⟨b, off + i * 6 + 5, none⟩) hbl).trans x5
  obtain ⟨d0, d1, d2, f0, f1, f2⟩ := h.sw.all
  have hii : (i : Int) < (n : Int) := by omega
  have hbw : b < w.heap.size := Nat.lt_of_lt_of_le hbl h.low.size
  have hpw := h.sw.lt.1
  have HB0 := hide (SB.new h (.int .i64 k) (.int .i64 xn) (.int .i64 xm) (.string xs) (.slice s1 n1 c1) (.slice (some ⟨kb, ko, none⟩) n2 c2))
  have HO := hide hO
  have HA := hide hA
  have hq2 : lenP (F (F1 st)) ≤ mostP := hq
  have hq1 : lenP (F1 st) ≤ mostP := Nat.le_trans (h2 _) hq2
  have HQ1 := hide hq1
  have HQ2 := hide hq2
  subst hn2
  have zc : (w.alloc (.cells #[.int .i64 k, .int .i64 xn, .int .i64 xm, .string xs, .slice s1 n1 c1, .slice (some ⟨kb, ko, none⟩) 3 c2] 47)).cell? ⟨kb, ko, none⟩ = some (.int .i64 (z0 : Nat)) := ((h.below ((Below.refl _ _).alloc (Nat.le_refl _) _)).low.cell (p := ⟨kb, ko, none⟩) hkb).trans hz0
  have HKEEP : Hid (∀ wx gx gcx stx, SB Z p (some ⟨b, off, none⟩) n cap w g w.heap.size (.int .i64 k) (.int .i64 xn) (.int .i64 xm) (.string xs) (.slice s1 n1 c1) (.slice (some ⟨kb, ko, none⟩) 3 c2) wx gx gcx stx → wx.cell? ⟨w.heap.size, 5, none⟩ = some (.slice (some ⟨kb, ko, none⟩) 3 c2) ∧ wx.cell? ⟨kb, ko + 1, none⟩ = some (.int .i64 (f : Nat)) ∧ wx.cell? ⟨kb, ko + 2, none⟩ = some (.int .i64 (z : Nat))) := fun wx gx gcx stx hs => ⟨hs.box.all.2.2.2.2.2, (hs.sx.low.cell (p := ⟨kb, ko + 1, none⟩) hkb).trans hf, (hs.sx.low.cell (p := ⟨kb, ko + 2, none⟩) hkb).trans hz⟩
  clear h hq x0 x1 x2 x3 x4 x5
  clear hO hA hf hz hz0 hkb h2 hq1 hq2
  subst hk
  go_enter Tryz.func34, Tryz.ntmps34
  go_wp2_with (go_at_call 75; refine ((unhide HB0).call (unhide HO) (unhide HQ1)).mono ?_; rintro e w1 ⟨⟨v1, rfl⟩, g1, gc1, hb1⟩; obtain ⟨e0, e1, e2, e3, e4, e5⟩ := hb1.box.all; have HB1 := hide hb1; have hlt1 := hb1.box.lt; clear hb1 HB0)
  go_region_held3 (fun wx => wx.cell? ⟨w.heap.size, 5, none⟩ = some (.slice (some ⟨kb, ko, none⟩) 3 c2) ∧ wx.cell? ⟨kb, ko + 1, none⟩ = some (.int .i64 (f : Nat)) ∧ wx.cell? ⟨kb, ko + 2, none⟩ = some (.int .i64 (z : Nat))) (first | exact unhide HKEEP _ _ _ _ (unhide HB2) | exact unhide HKEEP _ _ _ _ ((unhide HB1).below (Below.refl _ _).drew)) (first | (go_at_call 77; refine ((unhide HB1).callB (Below.refl _ _).drew (unhide HA) (unhide HQ2)).mono ?_; rintro e w2 ⟨⟨v2, rfl⟩, g2, gc2, hb2⟩; have HB2 := hide hb2; clear hb2))
  all_goals go_wp2_with fail
  all_goals go_end0
  all_goals exact ⟨⟨_, rfl⟩, (unhide HB2).done⟩

end Go.Proofs.YtinndpnilmmmjaaGreatDoor
namespace Go.Proofs.YtinndpnilmmmjaaGreatDoor
open Go.RowKit

theorem nums_app (L : Looks) : ∀ (u v : List Int) (st : List UInt8 × Bool), numsP L (u ++ v) st = numsP L v (numsP L u st)
  | [], v, st => rfl
  | z :: u, v, st => by
    show numsP L (u ++ v) (sayP st (L.num z) true) = numsP L v (numsP L u (sayP st (L.num z) true))
    exact nums_app L u v _

theorem nums_mono (L : Looks) : ∀ (u : List Int) (st : List UInt8 × Bool), lenP st ≤ lenP (numsP L u st)
  | [], _ => Nat.le_refl _
  | z :: u, st => Nat.le_trans (say_len st (L.num z) true).1 (nums_mono L u _)

theorem nums_step (L : Looks) {zs : List Int} {j : Nat} (h : j < zs.length) (st : List UInt8 × Bool) : numsP L (zs.take (j + 1)) st = sayP (numsP L (zs.take j) st) (L.num (zs.getD j 0)) true ∧ lenP (numsP L (zs.take (j + 1)) st) ≤ lenP (numsP L zs st) := by
  constructor
  · rw [List.take_succ_eq_append_getElem h, nums_app]
    have e : zs.getD j 0 = zs[j] := by simp [List.getD_eq_getElem?_getD, h]
    rw [e]
    rfl
  · have e : zs = zs.take (j + 1) ++ zs.drop (j + 1) := (List.take_append_drop _ _).symm
    conv => rhs; rw [e, nums_app]
    exact nums_mono L _ _

theorem says_num (Z : World) (p : Nat) (a : Option Addr) (n cap : Nat) (z : Int) (h : isNum z = true) : SaysP Z p a n cap 72 #[.pointer (some ⟨p, 0, none⟩), .string (bstr (numT z)), .bool true] (fun st => sayP st (looksD.num z) true) := by
  have h' : -1000000000000000 ≤ z ∧ z ≤ 1000000000000000 := by unfold isNum at h; exact of_decide_eq_true h
  exact says_congr (says_say Z p a n cap (bstr (numT z)) true) (fun st => by rw [looks_num, if_pos h'])

set_option maxRecDepth 20000 in
set_option maxHeartbeats 8000000 in
theorem says_node1 (Z : World) (p b off n cap i : Nat) (hi : i < n) (k xn xm : Int) (xs : ByteArray) (s1 : Option Addr) (n1 c1 : Nat) (s2 : Option Addr) (n2 c2 : Nat) (hx : NodeIs Z b (off + i * 6) k xn xm xs (.slice s1 n1 c1) (.slice s2 n2 c2)) (hk : k = 1) (nums : List Int) (hr : Row Z s1 n1 nums) (hnum : nums.all isNum = true) :
    SaysP Z p (some ⟨b, off, none⟩) n cap 34 #[.pointer (some ⟨p, 0, none⟩), .int .i64 (i : Nat)] (fun st => numsP looksD nums st) := by
  intro w g gc st h hq
  obtain ⟨hbl, x0, x1, x2, x3, x4, x5⟩ := hx
  have c0' := (h.low.cell (p := ⟨b, off + i * 6, none⟩) hbl).trans x0
  have c1' := (h.low.cell (p := ⟨b, off + i * 6 + 1, none⟩) hbl).trans x1
  have c2' := (h.low.cell (p := ⟨b, off + i * 6 + 2, none⟩) hbl).trans x2
  have c3' := (h.low.cell (p := ⟨b, off + i * 6 + 3, none⟩) hbl).trans x3
  have c4' := (h.low.cell (p := ⟨b, off + i * 6 + 4, none⟩) hbl).trans x4
  have c5' := (h.low.cell (p := ⟨b, off + i * 6 + 5, none⟩) hbl).trans x5
  obtain ⟨d0, d1, d2, f0, f1, f2⟩ := h.sw.all
  have hii : (i : Int) < (n : Int) := by omega
  have hbw : b < w.heap.size := Nat.lt_of_lt_of_le hbl h.low.size
  have hpw := h.sw.lt.1
  have HB0 := hide (SB.new h (.int .i64 k) (.int .i64 xn) (.int .i64 xm) (.string xs) (.slice s1 n1 c1) (.slice s2 n2 c2))
  have hlen := hr.len
  have hsm := hr.small
  have HQ := hide hq
  have HR := hide hr
  have HN : Hid (∀ j, j < n1 → isNum (nums.getD j 0) = true) := fun j hj => by
    refine List.all_eq_true.mp hnum _ ?_
    have e : nums.getD j 0 = nums[j]'(by omega) := by simp [List.getD_eq_getElem?_getD, show j < nums.length by omega]
    rw [e]
    exact List.getElem_mem _
  clear h hq x0 x1 x2 x3 x4 x5
  clear hr hnum
  subst hk
  go_enter Tryz.func34, Tryz.ntmps34
  go_wp2_with fail
  go_loopw [5] (fun u wr => ∃ (j gk gck : Nat), u = .int .i64 (j : Nat) ∧ j ≤ n1 ∧ Hid (SB Z p (some ⟨b, off, none⟩) n cap w g w.heap.size (.int .i64 1) (.int .i64 xn) (.int .i64 xm) (.string xs) (.slice s1 n1 c1) (.slice s2 n2 c2) wr gk gck (numsP looksD (nums.take j) st))) (fun e _ => n1 - (intOf e).toNat)
  case atStart => exact ⟨0, g, gc, rfl, Nat.zero_le _, HB0⟩
  case round =>
    clear HB0
    obtain ⟨j, gk, gck, rfl, hj, HX⟩ := hrel
    obtain ⟨q0, q1, q2, q3, q4, q5⟩ := (unhide HX).box.all
    have hqlt := (unhide HX).box.lt
    by_cases hlt : j < n1
    case neg =>
      have he : j = n1 := by omega
      subst he
      have hlti : ¬ (j : Int) < (j : Int) := by omega
      have HT : Hid (nums.take j = nums) := by show _ = _; exact List.take_of_length_le (by omega)
      go_wp2_with fail
      go_end0
      have hd := (unhide HX).done
      rw [unhide HT] at hd
      exact ⟨⟨_, rfl⟩, hd⟩
    case pos =>
      have hlti : (j : Int) < (n1 : Int) := by omega
      obtain ⟨bb, oo, rfl, hbb, hcc⟩ := (unhide HR).get hlt
      have hcw := ((unhide HX).sx.low.cell (p := ⟨bb, oo + j, none⟩) hbb).trans hcc
      have hnm := unhide HN j hlt
      obtain ⟨hst, hle⟩ := nums_step looksD (show j < nums.length by omega) st
      have hqq := unhide HQ
      have HL : Hid (lenP (sayP (numsP looksD (nums.take j) st) (looksD.num (nums.getD j 0)) true) ≤ mostP) := by
        show _ ≤ _
        rw [← hst]
        exact Nat.le_trans hle hqq
      have HST := hide hst
      obtain ⟨z, hz⟩ : ∃ z, nums.getD j 0 = z := ⟨_, rfl⟩
      rw [hz] at hcw hnm HL HST
      have hzz : -1000000000000000 ≤ z ∧ z ≤ 1000000000000000 := by unfold isNum at hnm; exact of_decide_eq_true hnm
      have HS := hide (says_num Z p (some ⟨b, off, none⟩) n cap z hnm)
      clear hst hle hqq hz hcc hnm
      go_wp2_with (first | (go_at_call 73; refine (l1Dec_any z hzz _).mono ?_; rintro e w5 ⟨rfl, hb5⟩; have HB5 := hide hb5; clear hb5) | (go_at_call 72; refine ((unhide HX).callB (unhide HB5) (unhide HS) (unhide HL)).mono ?_; rintro e w6 ⟨⟨v6, rfl⟩, g6, gc6, hb6⟩; have HB6 := hide hb6; clear hb6))
      go_roundw
      case rel =>
        refine ⟨j + 1, g6, gc6, by go_num, by omega, ?_⟩
        rw [unhide HST]
        exact HB6
      case measure => simp [intOf]; omega

end Go.Proofs.YtinndpnilmmmjaaGreatDoor
namespace Go.Proofs.YtinndpnilmmmjaaGreatDoor
open Go.RowKit

/-- What is known of a right tree. -/
structure GoodT (T : ByteArray → Bool) (ns : List NodeD) (st0 : List (Nat × Nat)) : Prop where
  some_ : 1 ≤ ns.length ∧ ns.length ≤ 600
  ord : ordN ns ns.length = some st0
  kind : ∀ i, i < ns.length → 1 ≤ (node ns i).k ∧ (node ns i).k ≤ 25
  kids : ∀ i, i < ns.length → kidsB (node ns i).k (kinds ns (node ns i).kids) = true
  fields : ∀ i, i < ns.length → fieldsS T (node ns i) = true

theorem sort_in {k : Int} (h : sortK k ≠ 0) : 1 ≤ k ∧ k ≤ 25 := by
  unfold sortK at h
  repeat (split at h; omega)
  exact absurd rfl h

theorem tree_known {T : ByteArray → Bool} {ns : List NodeD} (h : treeB T ns = true) : ∃ st0, GoodT T ns st0 := by
  unfold treeB at h
  rw [Bool.and_eq_true, decide_eq_true_eq] at h
  obtain ⟨h1, h2⟩ := h
  cases ho : ordN ns ns.length with
  | none => rw [ho] at h2; cases h2
  | some st0 =>
    rw [ho] at h2
    simp only [Bool.and_eq_true, List.all_eq_true, List.mem_range] at h2
    have key : ∀ i, i < ns.length → nodeB T ns st0 i = true := fun i hi => h2.1 i hi
    refine ⟨st0, h1, ho, fun i hi => ?_, fun i hi => ?_, fun i hi => ?_⟩ <;>
    · have := key i hi
      unfold nodeB at this
      simp only [Bool.and_eq_true, decide_eq_true_eq] at this
      first | exact sort_in this.1.1 | exact this.2.1 | exact this.2.2.1

section
variable {T : ByteArray → Bool} {ns : List NodeD} {st0 : List (Nat × Nat)}

theorem GoodT.kidIn (h : GoodT T ns st0) {i : Nat} (hi : i < ns.length) : ∀ q, q < (node ns i).kids.length → (node ns i).kids.getD q 0 = ((kidN (node ns i) q : Nat) : Int) ∧ kidN (node ns i) q < i := fun q hq => by
  have := ord_kids h.ord hi q hq
  unfold kidN
  omega

theorem GoodT.mono (h : GoodT T ns st0) (hs : SmallD ns ns.length) (f i : Nat) (hif : i < f) (hi : i < ns.length) (st : List UInt8 × Bool) : lenP st ≤ lenP (prP looksD ns f i st) := (pr_len (looks_short hs) h.ord h.kids f i hif hi st).1

end

theorem says_node_any (Z : World) (p : Nat) (a : Option Addr) (n cap : Nat) (T : ByteArray → Bool) (ns : List NodeD) (st0 : List (Nat × Nat)) (hT : GoodT T ns st0) (hs : SmallD ns n) (hr : NRow Z a n ns)
    (hcap : ∀ b off, a = some ⟨b, off, none⟩ → ∀ i, i < n → ∀ s m c, Z.cell? ⟨b, off + i * 6 + 5, none⟩ = some (.slice s m c) → m ≤ c) :
    ∀ f i, i < f → i < n → SaysP Z p a n cap 34 #[.pointer (some ⟨p, 0, none⟩), .int .i64 (i : Nat)] (prP looksD ns f i)
  | 0, i, h, _ => absurd h (Nat.not_lt_zero _)
  | f + 1, i, hif, hi => by
    have hln : ns.length = n := hr.len
    have hs' : SmallD ns ns.length := by rw [hln]; exact hs
    have hil : i < ns.length := by omega
    have IH : ∀ z, z < f → z < n → SaysP Z p a n cap 34 #[.pointer (some ⟨p, 0, none⟩), .int .i64 (z : Nat)] (prP looksD ns f z) := fun z hz hzn => says_node_any Z p a n cap T ns st0 hT hs hr hcap f z hz hzn
    have hki := hT.kidIn hil
    have hkb := hT.kids i hil
    have hfd := hT.fields i hil
    have hkd := hT.kind i hil
    have hcn := kids_cnt hkb
    rw [kinds_len] at hcn
    obtain ⟨b, off, rfl, hbl, s1, n1, c1, s2, n2, c2, x0, x1, x2, x3, x4, x5, r1, r2⟩ := hr.get hi
    have hroom := hcap b off rfl i hi s2 n2 c2 x5
    have hl2 := r2.len
    have HK : KidsP Z p (some ⟨b, off, none⟩) n cap (prP looksD ns f) (node ns i) s2 n2 c2 := ⟨r2, hroom, fun q hq => (hki q (by omega)).1, fun q hq => IH _ (by have := hki q (by omega); omega) (by have := hki q (by omega); omega), fun q hq st => hT.mono hs' f _ (by have := hki q (by omega); omega) (by have := hki q (by omega); omega) st⟩
    have hx : NodeIs Z b (off + i * 6) (node ns i).k (node ns i).n (node ns i).m (node ns i).s (.slice s1 n1 c1) (.slice s2 n2 c2) := ⟨hbl, x0, x1, x2, x3, x4, x5⟩
    have hsi := hs i hi
    have OP : ∀ z, z < f → z < n → SaysP Z p (some ⟨b, off, none⟩) n cap 75 #[.pointer (some ⟨p, 0, none⟩), .int .i64 (z : Nat)] (operP looksD ns (prP looksD ns f) z) := fun z hz hzn => says_operand Z p (some ⟨b, off, none⟩) n cap looksD ns hr (prP looksD ns f) (by kernel_rfl) (by kernel_rfl) z hzn (IH z hz hzn) (fun st => hT.mono hs' f z hz (by omega) st)
    have AP : ∀ y z, y < f → z < f → y < n → z < n → SaysP Z p (some ⟨b, off, none⟩) n cap 77 #[.pointer (some ⟨p, 0, none⟩), .int .i64 (y : Nat), .int .i64 (z : Nat)] (applP looksD ns (prP looksD ns f) y z) := fun y z hy hz hyn hzn => by
      refine says_apply Z p (some ⟨b, off, none⟩) n cap looksD ns hr (prP looksD ns f) y z hyn hzn (fun e => ?_) (fun e => ?_) (IH y hy hyn) (IH z hz hzn) (fun st => hT.mono hs' f z hz (by omega) st) (OP z hz hzn)
      · have := (fields_at (hT.fields y (by omega))).1.1
        have h1 : 1 ≤ (node ns y).n ∧ (node ns y).n ≤ 33 := by simpa [okN, e] using this
        exact h1.1
      · have hc9 := (kids_cnt (hT.kids z (by omega))).2.1 e
        rw [kinds_len] at hc9
        have hk0 := hT.kidIn (i := z) (by omega) 0 (by omega)
        exact ⟨by omega, hk0.1, by omega⟩
    rw [show prP looksD ns (f + 1) i = nodeP looksD ns (prP looksD ns f) (node ns i) from rfl]
    obtain ⟨x, hxe⟩ : ∃ x, node ns i = x := ⟨_, rfl⟩
    rw [hxe] at hki hkb hfd hkd hcn hl2 HK hx hsi r1 r2 ⊢
    obtain ⟨⟨hN, hM⟩, hS, hU⟩ := fields_at hfd
    by_cases e1 : x.k = 1
    · refine says_congr (says_node1 Z p b off n cap i hi x.k x.n x.m x.s s1 n1 c1 s2 n2 c2 hx e1 x.nums r1 ?_) (fun st => ?_)
      · unfold okNums at hU
        rw [if_pos e1, Bool.and_eq_true] at hU
        exact hU.1
      · unfold nodeP
        rw [if_pos e1]
    by_cases e2 : x.k = 2
    · refine says_congr (says_node2 Z p b off n cap i hi x.k x.n x.m x.s s1 n1 c1 s2 n2 c2 hx e2 hsi.1) (fun st => ?_)
      unfold nodeP
      simp [e2]
    by_cases e3 : x.k = 3
    · refine says_congr (says_node3 Z p b off n cap i hi x.k x.n x.m x.s s1 n1 c1 s2 n2 c2 hx e3) (fun st => ?_)
      unfold nodeP
      simp [e3]
    by_cases e4 : x.k = 4
    · refine says_congr (says_node4 Z p b off n cap i hi x.k x.n x.m x.s s1 n1 c1 s2 n2 c2 hx e4) (fun st => ?_)
      unfold nodeP
      simp [e4]
    by_cases e5 : x.k = 5
    · refine says_congr (says_node5 Z p b off n cap i hi x.k x.n x.m x.s s1 n1 c1 s2 n2 c2 hx e5) (fun st => ?_)
      unfold nodeP
      simp [e5]
    by_cases e6 : x.k = 6
    · refine says_congr (says_node6 Z p b off n cap i hi x.k x.n x.m x.s s1 n1 c1 s2 n2 c2 hx e6) (fun st => ?_)
      unfold nodeP
      simp [e6]
    by_cases e8 : x.k = 8
    · refine says_congr (says_node8 Z p b off n cap i hi x.k x.n x.m x.s s1 n1 c1 s2 n2 c2 hx e8) (fun st => ?_)
      unfold nodeP
      simp [e8]
    by_cases e25 : x.k = 25
    · refine says_congr (says_node25 Z p b off n cap i hi x.k x.n x.m x.s s1 n1 c1 s2 n2 c2 hx e25 _ (HK.list 8900 ⟨#[226, 139, 132]⟩ sg_8900)) (fun st => ?_)
      unfold nodeP
      simp [e25]
    by_cases eF : 11 ≤ x.k ∧ x.k ≤ 18
    · refine says_nodeF Z p b off n cap i hi x.k x.n x.m x.s s1 n1 c1 s2 n2 c2 hx (by omega) _ (says_function Z p (some ⟨b, off, none⟩) n cap ns (prP looksD ns f) T x eF hfd s1 s2 n1 c1 n2 c2 (fun _ => ?_))
      have hL := HK.list 8900 ⟨#[226, 139, 132]⟩ sg_8900
      rw [hl2] at hL ⊢
      exact says_round Z p (some ⟨b, off, none⟩) n cap looksD (prP looksD ns f) 8900 123 125 ⟨#[226, 139, 132]⟩ ⟨#[123]⟩ ⟨#[125]⟩ sg_123 sg_125 s2 n2 c2 x.kids hL (list_mono0 (fun q hq => HK.mono q hq))
    by_cases eS : 19 ≤ x.k ∧ x.k ≤ 24
    · exact says_nodeS Z p b off n cap i hi x.k x.n x.m x.s s1 n1 c1 s2 n2 c2 hx (by omega) _ (says_stmt ns (prP looksD ns f) T x eS hfd hkb s1 s2 n1 c1 n2 c2 HK)
    have hpos : 0 < n2 := by omega
    have hk0 := hki 0 (by omega)
    obtain ⟨kb, ko, rfl, hkl, hk0c⟩ := r2.get hpos
    have hcellK : ∀ q, q < n2 → Z.cell? ⟨kb, ko + q, none⟩ = some (.int .i64 (kidN x q : Nat)) := fun q hq => by
      rcases r2.at_ with h0 | ⟨b', o', e', _, hcc⟩
      · omega
      · cases e'
        rw [hcc q hq, (hki q (by omega)).1]
    by_cases e7 : x.k = 7
    · obtain ⟨m, rfl⟩ : ∃ m, n2 = m + 1 := ⟨n2 - 1, by omega⟩
      obtain ⟨hL, hLm⟩ := HK.listFrom 59 ⟨#[59]⟩ sg_59 (c2 - 1)
      have hR := says_round Z p (some ⟨b, off, none⟩) n cap looksD (prP looksD ns f) 59 91 93 ⟨#[59]⟩ ⟨#[91]⟩ ⟨#[93]⟩ sg_91 sg_93 (some ⟨kb, ko + 1, none⟩) m (c2 - 1) (x.kids.drop 1) hL hLm
      refine says_congr (says_node7 Z p b off n cap i hi x.k x.n x.m x.s s1 n1 c1 kb ko (m + 1) c2 hx e7 m rfl (by omega) hroom (kidN x 0) (hcellK 0 (by omega)) hkl _ _ (OP (kidN x 0) (by omega) (by omega)) hR (fun st => ?_)) (fun st => ?_)
      · exact Nat.le_trans (Nat.le_trans (say_len _ _ _).1 (hLm _)) (say_len _ _ _).1
      · unfold nodeP
        simp [e7, show x.kids.length - 1 = m by omega]
    by_cases e9 : x.k = 9
    · have h2 : n2 = 2 := by omega
      subst h2
      have hk1 := hki 1 (by omega)
      refine says_congr (says_node9 Z p b off n cap i hi x.k x.n x.m x.s s1 n1 c1 kb ko 2 c2 hx e9 rfl (kidN x 0) (kidN x 1) (hcellK 0 (by omega)) (hcellK 1 (by omega)) hkl _ (AP (kidN x 0) (kidN x 1) (by omega) (by omega) (by omega) (by omega))) (fun st => ?_)
      unfold nodeP
      simp [e9]
    have e10 : x.k = 10 := by omega
    have h3 : n2 = 3 := by omega
    subst h3
    have hk1 := hki 1 (by omega)
    have hk2 := hki 2 (by omega)
    refine says_congr (says_node10 Z p b off n cap i hi x.k x.n x.m x.s s1 n1 c1 kb ko 3 c2 hx e10 rfl (kidN x 0) (kidN x 1) (kidN x 2) (hcellK 0 (by omega)) (hcellK 1 (by omega)) (hcellK 2 (by omega)) hkl _ _ (OP (kidN x 0) (by omega) (by omega)) (AP (kidN x 1) (kidN x 2) (by omega) (by omega) (by omega) (by omega)) (fun st => ?_)) (fun st => ?_)
    · exact (appl_len (looks_short hs') (prP looksD ns f) (kidN x 1) (kidN x 2) _ _ (fun st => pr_len (looks_short hs') hT.ord hT.kids f (kidN x 1) (by omega) (by omega) st) (fun st => pr_len (looks_short hs') hT.ord hT.kids f (kidN x 2) (by omega) (by omega) st) st).1
    · unfold nodeP
      simp [e10]

end Go.Proofs.YtinndpnilmmmjaaGreatDoor
namespace Go.Proofs.YtinndpnilmmmjaaGreatDoor
open Go.RowKit

/-- A tree's text. -/
def unpT (ns : List NodeD) : List UInt8 := if treeB txtB ns = true then (prP looksD ns ns.length (ns.length - 1) ([], false)).1 else []

theorem unp_len {ns : List NodeD} (hs : SmallD ns ns.length) : (unpT ns).length ≤ 60000000 * 600 := by
  unfold unpT
  split
  · rename_i h
    obtain ⟨st0, hT⟩ := tree_known h
    have h1 := hT.some_
    have h2 := (pr_len (looks_short hs) hT.ord hT.kids ns.length (ns.length - 1) (by omega) (by omega) ([], false)).2
    have h3 : lenP (([], false) : List UInt8 × Bool) = 0 := rfl
    rw [h3] at h2
    have h4 : ns.length - 1 + 1 - (st0.getD (ns.length - 1) (0, 0)).1 ≤ 600 := by omega
    have h5 : lenP (prP looksD ns ns.length (ns.length - 1) ([], false)) ≤ 0 + 60000000 * 600 := Nat.le_trans h2 (by omega)
    unfold lenP at h5
    omega
  · simp

theorem rowB_ownU {w : World} {B g cap n : Nat} {zs : List Int} (hl : zs.length = n) (h : w.ownsRow B 5 1 (.slice (some ⟨g, 0, none⟩) n cap) n (zs.map (Value.int .u8))) : RowB w (some ⟨g, 0, none⟩) n zs := by
  refine ⟨hl, ?_⟩
  rcases h.2 with ⟨h', _⟩ | ⟨g', cap', cur, h', _, hg, _, _, hcs, ht⟩
  · simp at h'
  · cases h'
    refine .inr ⟨g, 0, rfl, lt_of_block hg, fun i hi => ?_⟩
    have e : cur.toList[i]? = some (.int .u8 (zs.getD i 0)) := by
      have : (cur.toList.take (n * 1))[i]? = (zs.map (Value.int .u8))[i]? := by rw [ht]
      rw [List.getElem?_take, if_pos (by omega)] at this
      rw [this]
      simp [List.getD_eq_getElem?_getD, show i < zs.length by omega]
    rw [Nat.zero_add]
    unfold World.cell?
    show (match w.heap[g]? with | some (Obj.cells c _ _) => c[i]? | _ => none) = _
    rw [hg]
    show cur[i]? = _
    rw [← Array.getElem?_toList]
    exact e

/-- The writer as it is made. -/
theorem SX.start (Z : World) (a : Option Addr) (n cap : Nat) : SX Z (Z.heap.size + 1) a n cap ((Z.alloc (.cells #[] 5)).alloc (.cells #[.slice a n cap, .slice (some ⟨Z.heap.size, 0, none⟩) 0 0, .bool false] 58)) Z.heap.size 0 ([], false) := by
  have hs : (Z.alloc (.cells #[] 5)).heap.size = Z.heap.size + 1 := by simp
  have hb : Below Z.heap.size Z ((Z.alloc (.cells #[] 5)).alloc (.cells #[.slice a n cap, .slice (some ⟨Z.heap.size, 0, none⟩) 0 0, .bool false] 58)) := ((Below.refl _ _).alloc (Nat.le_refl _) _).alloc (by rw [hs]; omega) _
  refine ⟨⟨?_, ⟨rfl, .inr ⟨Z.heap.size, 0, #[], rfl, Nat.le_refl _, ?_, by simp, by unfold maxLen; omega, by simp, by simp [uz]⟩⟩, by omega, hb.size⟩, hb, by omega⟩
  · rw [← hs]
    generalize Z.alloc (.cells #[] 5) = W
    show (W.heap.push _)[W.heap.size]? = _
    simp
  · rw [Below.heap_alloc _ _ _ (by rw [hs]; omega)]
    show (Z.heap.push _)[Z.heap.size]? = _
    simp

set_option maxRecDepth 20000 in
set_option maxHeartbeats 2000000 in
theorem specUnparse_any (a : Option Addr) (n cap : Nat) (ns : List NodeD) (w : World) (h : NRow w a n ns) (hsm : SmallD ns n)
    (hcap : ∀ b off, a = some ⟨b, off, none⟩ → ∀ i, i < n → ∀ s m c, w.cell? ⟨b, off + i * 6 + 5, none⟩ = some (.slice s m c) → m ≤ c) :
    Calls Tryz.prog 12 #[.agg #[.slice a n cap]] w fun e w' => ∃ b m d, e = .returned (.tuple #[.slice b m d, .bool (treeB txtB ns)]) ∧ RowB w' b m (uz (unpT ns)) ∧ Below w.heap.size w w' := by
  have hln : ns.length = n := h.len
  have hn1 := h.small
  obtain ⟨Q, hQ⟩ : ∃ Q, Q = w.alloc (.cells #[.slice a n cap] 29) := ⟨_, rfl⟩
  have HQ := hide hQ
  have HBQ : Hid (Below w.heap.size w Q) := by rw [hQ]; exact (Below.refl _ _).alloc (Nat.le_refl _) _
  have hQlt : w.heap.size < Q.heap.size := by rw [hQ]; simp
  have HQC : Hid (Q.cell? ⟨w.heap.size, 0, none⟩ = some (.slice a n cap)) := by rw [hQ]; show (w.alloc _).cell? _ = _; simp
  have HTC := hide (specTree_of l2FieldsOk_any a n cap ns Q (h.below (Nat.le_refl _) (unhide HBQ)) hsm)
  have HH := hide h
  have HCAP := hide hcap
  have HSM := hide hsm
  obtain ⟨r, hr⟩ : ∃ r, treeB txtB ns = r := ⟨_, rfl⟩
  rw [hr] at HTC
  rw [hr]
  clear hQ h hcap hsm
  cases r with
  | false =>
    have HU : Hid (unpT ns = []) := by show _ = _; unfold unpT; rw [hr]; rfl
    clear hr HH HCAP HSM
    go_enter Tryz.func12, Tryz.ntmps12
    go_wp2_with (go_at_call 8; rw [← unhide HQ]; refine (unhide HTC).mono ?_; rintro e w1 ⟨rfl, hb1⟩; have HB1 := hide ((unhide HBQ).trans (hb1.mono (unhide HBQ).size)); clear hb1)
    go_ret2
    refine ⟨some ⟨w1.heap.size, 0, none⟩, 0, 0, rfl, ?_, (unhide HB1).alloc (unhide HB1).size _⟩
    rw [unhide HU]
    exact ⟨rfl, .inl rfl⟩
  | true =>
    obtain ⟨st0, hT⟩ := tree_known hr
    have h1 := hT.some_
    obtain ⟨m, rfl⟩ : ∃ m, n = m + 1 := ⟨n - 1, by omega⟩
    have HT := hide hT
    have hlen : lenP (prP looksD ns (m + 1) m ([], false)) ≤ mostP := by
      have hs' : SmallD ns ns.length := by rw [hln]; exact unhide HSM
      have h2 := unp_len hs'
      unfold unpT at h2
      rw [if_pos hr, hln] at h2
      show (prP looksD ns (m + 1) (m + 1 - 1) ([], false)).1.length ≤ mostP
      unfold mostP
      omega
    have HLEN := hide hlen
    have HU : Hid (unpT ns = (prP looksD ns (m + 1) m ([], false)).1) := by show _ = _; unfold unpT; rw [if_pos hr, hln]; rfl
    have hsub : ((m + 1 : Nat) : Int) - 1 = (m : Nat) := by omega
    have hsub' : (m : Int) + 1 - 1 = (m : Nat) := by omega
    clear hr hT h1 hlen
    go_enter Tryz.func12, Tryz.ntmps12
    go_wp2_with (first | (go_at_call 8; rw [← unhide HQ]; refine (unhide HTC).mono ?_; rintro e w1 ⟨rfl, hb1⟩; have HB1 := hide ((unhide HBQ).trans (hb1.mono (unhide HBQ).size)); have hc1 := (hb1.cell (p := ⟨w.heap.size, 0, none⟩) hQlt).trans (unhide HQC); have hl1 : w.heap.size < w1.heap.size := Nat.lt_of_lt_of_le hQlt hb1.size; have HX0 := hide (SX.start w1 a (m + 1) cap); clear hb1 HTC) | (go_at_call 34; refine ((says_node_any w1 (w1.heap.size + 1) a (m + 1) cap txtB ns st0 (unhide HT) (unhide HSM) ((unhide HH).below (Nat.le_refl _) (unhide HB1)) (fun b off e i hi s m' c hcc => unhide HCAP b off e i hi s m' c (by obtain ⟨b', off', e', hlt', _⟩ := (unhide HH).get hi; rw [e] at e'; cases e'; rw [(unhide HB1).cell (p := ⟨b, off + i * 6 + 5, none⟩) hlt'] at hcc; exact hcc)) (m + 1) m (by omega) (by omega)) _ _ _ _ (unhide HX0) (unhide HLEN)).mono ?_; rintro e w2 ⟨⟨v2, rfl⟩, g2, gc2, hx2, hb2, hg2⟩; obtain ⟨d0, d1, d2, f0, f1, f2⟩ := hx2.sw.all; have hpl := hx2.sw.lt.1; have HX2 := hide hx2; clear hx2 hb2 hg2 HX0))
    go_ret2
    refine ⟨some ⟨g2, 0, none⟩, _, gc2, rfl, ?_, (unhide HB1).trans ((unhide HX2).low.mono (unhide HB1).size)⟩
    rw [unhide HU]
    exact rowB_ownU (uz_len _) (unhide HX2).sw.own

end Go.Proofs.YtinndpnilmmmjaaGreatDoor
