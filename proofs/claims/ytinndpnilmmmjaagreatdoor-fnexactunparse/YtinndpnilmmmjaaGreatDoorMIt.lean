import Derived.Test.YtinndpnilmmmjaaGreatDoorImplOrder
import Derived.Test.YtinndpnilmmmjaaGreatDoorMKd
import Derived.Test.YtinndpnilmmmjaaGreatDoorImplFields
import Derived.Test.YtinndpnilmmmjaaGreatDoorMNode
namespace Go.Proofs.YtinndpnilmmmjaaGreatDoor
open Go.RowKit

/-- The nodes, and each list of kids within its room. -/
structure NRowC (w : World) (a : Option Addr) (n : Nat) (ns : List NodeD) : Prop where
  row : NRow w a n ns
  cap : ∀ b off, a = some ⟨b, off, none⟩ → ∀ i, i < n → ∀ s m c, w.cell? ⟨b, off + i * 6 + 5, none⟩ = some (.slice s m c) → m ≤ c

theorem NRowC.below {w w' : World} {a : Option Addr} {n : Nat} {ns : List NodeD} {B : Nat} (h : NRowC w a n ns) (hB : w.heap.size ≤ B) (hb : Below B w w') : NRowC w' a n ns := by
  refine ⟨h.row.below hB hb, fun b off e i hi s m c hc => ?_⟩
  obtain ⟨b', off', e', hlt', _⟩ := h.row.get hi
  rw [e] at e'
  cases e'
  rw [hb.cell (p := ⟨b, off + i * 6 + 5, none⟩) (Nat.lt_of_lt_of_le hlt' hB)] at hc
  exact h.cap b off e i hi s m c hc

theorem sel_okI {T : ByteArray → Bool} {ns : List NodeD} {st : List (Nat × Nat)} {i z : Nat} (ho : ordN ns ns.length = some st) (hi : i ≤ ns.length) (ha : ∀ j, j < i → nodeI T ns j = true) (hz : z < i) : SelOk ns z := SelOk.of fun j hj => by
  have hk := ha j (by omega)
  rw [node_eq] at hk
  simp only [Bool.and_eq_true] at hk
  have hf := kids_few hk.1
  rw [kinds_len] at hf
  exact ⟨ord_kids ho (by omega), hf⟩

theorem fieldsIm_any (k n m : Int) (s : ByteArray) (a1 a2 : Option Addr) (n1 c1 n2 c2 : Nat) (nums kids : List Int) (w : World) (hs : s.size ≤ 1048576) (hG : GlTree w) (h1 : Row w a1 n1 nums) :
    Calls Tryz.prog 31 #[.agg #[.int .i64 k, .int .i64 n, .int .i64 m, .string s, .slice a1 n1 c1, .slice a2 n2 c2]] w fun e w' => e = .returned (.bool (fieldsI txtB ⟨k, n, m, s, nums, kids⟩)) ∧ Below w.heap.size w w' := by
  by_cases e1 : k = 1
  · subst e1; exact fieldsIm_1 n m s a1 a2 n1 c1 n2 c2 nums kids w hs hG h1
  by_cases e2 : k = 2
  · subst e2; exact fieldsIm_2 n m s a1 a2 n1 c1 n2 c2 nums kids w hs hG h1
  by_cases e3 : k = 3
  · subst e3; exact fieldsIm_3 3 n m s a1 a2 n1 c1 n2 c2 nums kids w (.inl rfl) hs hG h1
  by_cases e11 : k = 11
  · subst e11; exact fieldsIm_11 n m s a1 a2 n1 c1 n2 c2 nums kids w hs hG h1
  by_cases e12 : k = 12
  · subst e12; exact fieldsIm_12 12 n m s a1 a2 n1 c1 n2 c2 nums kids w (.inl rfl) hs hG h1
  by_cases e13 : k = 13
  · subst e13; exact fieldsIm_12 13 n m s a1 a2 n1 c1 n2 c2 nums kids w (.inr rfl) hs hG h1
  by_cases e14 : k = 14
  · subst e14; exact fieldsIm_14 n m s a1 a2 n1 c1 n2 c2 nums kids w hs hG h1
  by_cases e15 : k = 15
  · subst e15; exact fieldsIm_15 n m s a1 a2 n1 c1 n2 c2 nums kids w hs hG h1
  by_cases e17 : k = 17
  · subst e17; exact fieldsIm_17 17 n m s a1 a2 n1 c1 n2 c2 nums kids w (.inl rfl) hs hG h1
  by_cases e19 : k = 19
  · subst e19; exact fieldsIm_3 19 n m s a1 a2 n1 c1 n2 c2 nums kids w (.inr (.inl rfl)) hs hG h1
  by_cases e20 : k = 20
  · subst e20; exact fieldsIm_17 20 n m s a1 a2 n1 c1 n2 c2 nums kids w (.inr rfl) hs hG h1
  by_cases e21 : k = 21
  · subst e21; exact fieldsIm_3 21 n m s a1 a2 n1 c1 n2 c2 nums kids w (.inr (.inr rfl)) hs hG h1
  by_cases e22 : k = 22
  · subst e22; exact fieldsIm_22 n m s a1 a2 n1 c1 n2 c2 nums kids w hs hG h1
  exact fieldsIm_P k n m s a1 a2 n1 c1 n2 c2 nums kids w ⟨e1, e2, e3, e11, e12, e13, e14, e15, e17, e19, e20, e21, e22⟩ hs hG h1

theorem treeI_size {T : ByteArray → Bool} {ns : List NodeD} (h : ¬ (1 ≤ ns.length ∧ ns.length ≤ 600)) : treeI T ns = false := by unfold treeI; rw [decide_eq_false h]; rfl
theorem treeI_order {T : ByteArray → Bool} {ns : List NodeD} (h : orderI ns = false) : treeI T ns = false := by unfold treeI; rw [h, Bool.false_and, Bool.and_false]
theorem treeI_node {T : ByteArray → Bool} {ns : List NodeD} {i : Nat} (hi : i < ns.length) (h : nodeI T ns i = false) : treeI T ns = false := by
  unfold treeI
  rw [List.all_eq_false.2 ⟨i, List.mem_range.2 hi, by rw [h]; decide⟩, Bool.false_and, Bool.and_false, Bool.and_false]
theorem treeI_good {T : ByteArray → Bool} {ns : List NodeD} (h1 : 1 ≤ ns.length ∧ ns.length ≤ 600) (h2 : orderI ns = true) (h3 : ∀ j, j < ns.length → nodeI T ns j = true) : treeI T ns = decide ((node ns (ns.length - 1)).k = 25) := by
  unfold treeI
  rw [decide_eq_true h1, h2, List.all_eq_true.2 (fun j hj => h3 j (List.mem_range.1 hj))]
  rfl

set_option maxRecDepth 20000 in
set_option maxHeartbeats 16000000 in
theorem implTree_any (a : Option Addr) (n cap : Nat) (ns : List NodeD) (w : World) (hC : NRowC w a n ns) (hsm : SmallD ns n) (hG : GlTree w) :
    Calls Tryz.prog 10 #[.agg #[.slice a n cap]] w fun e w' => e = .returned (.bool (treeB txtB ns)) ∧ Below w.heap.size w w' := by
  rw [← tree_eq]
  have h := hC.row
  have hlen := h.len
  have hn1 := h.small
  obtain ⟨r, hr⟩ : ∃ r, treeI txtB ns = r := ⟨_, rfl⟩
  rw [hr]
  have HR := hide hr
  obtain ⟨Q, hQ⟩ : ∃ Q, Q = w.alloc (.cells #[.slice a n cap] 29) := ⟨_, rfl⟩
  have HQ := hide hQ
  have HBQ : Hid (Below w.heap.size w Q) := by rw [hQ]; exact (Below.refl _ _).alloc (Nat.le_refl _) _
  have hQlt : w.heap.size < Q.heap.size := by rw [hQ]; simp
  have HQC : Hid (Q.cell? ⟨w.heap.size, 0, none⟩ = some (.slice a n cap)) := by rw [hQ]; show (w.alloc _).cell? _ = _; simp
  have HG : Hid (∀ v, Below w.heap.size w v → GlTree v) := fun v hv => hG.below hv
  have HCC := hide hC
  have HSM := hide hsm
  clear hr hQ hC hsm hG
  by_cases hs : 1 ≤ n ∧ n ≤ 600
  case neg =>
    have HW := hide (fun W => withinOk (n : Int) 1 600 false (decide_eq_false (by omega)) W)
    have HE : Hid (false = r) := by show _ = _; rw [← unhide HR, treeI_size (by rw [hlen]; exact hs)]
    clear HR h
    go_enter Tryz.func10, Tryz.ntmps10
    go_wp2_with (first | (go_at_call 29; refine (unhide HW _).mono ?_; rintro e w1 ⟨rfl, hw1⟩; obtain rfl := hw1.symm))
    rw [← unhide HQ]
    go_ret
    exact ⟨ret_bool (unhide HE), unhide HBQ⟩
  have HW := hide (fun W => withinOk (n : Int) 1 600 true (decide_eq_true (by omega)) W)
  cases ho : orderI ns with
  | false =>
    have HOC : Hid (Calls Tryz.prog 30 #[.agg #[.slice a n cap]] Q fun e w' => e = .returned (.bool false) ∧ Below Q.heap.size Q w') := by rw [← ho]; exact isInOrder_any a n cap ns Q (h.below (Nat.le_refl _) (unhide HBQ)) (unhide HSM) hs
    have HE : Hid (false = r) := by show _ = _; rw [← unhide HR, treeI_order ho]
    clear HR ho h
    go_enter Tryz.func10, Tryz.ntmps10
    go_wp2_with (first | (go_at_call 29; refine (unhide HW _).mono ?_; rintro e w1 ⟨rfl, hw1⟩; obtain rfl := hw1.symm) | (go_at_call 30; rw [← unhide HQ]; refine (unhide HOC).mono ?_; rintro e w2 ⟨rfl, hb2⟩; have HB2 := hide ((unhide HBQ).trans (hb2.mono (unhide HBQ).size)); clear hb2))
    go_ret
    exact ⟨ret_bool (unhide HE), unhide HB2⟩
  | true =>
    have HOC : Hid (Calls Tryz.prog 30 #[.agg #[.slice a n cap]] Q fun e w' => e = .returned (.bool true) ∧ Below Q.heap.size Q w') := by rw [← ho]; exact isInOrder_any a n cap ns Q (h.below (Nat.le_refl _) (unhide HBQ)) (unhide HSM) hs
    obtain ⟨st, hst⟩ : ∃ st, ordN ns ns.length = some st := by
      unfold orderI at ho
      cases hq : ordN ns ns.length with
      | none => rw [hq] at ho; cases ho
      | some st => exact ⟨st, rfl⟩
    have HO := hide ho
    have HST := hide hst
    clear ho hst h
    go_enter Tryz.func10, Tryz.ntmps10
    go_wp2_with (first | (go_at_call 29; refine (unhide HW _).mono ?_; rintro e w1 ⟨rfl, hw1⟩; obtain rfl := hw1.symm) | (go_at_call 30; rw [← unhide HQ]; refine (unhide HOC).mono ?_; rintro e w2 ⟨rfl, hb2⟩; have HB2 := hide hb2; have ct2 : w2.cell? ⟨w.heap.size, 0, none⟩ = some (.slice a n cap) := (hb2.cell (p := ⟨w.heap.size, 0, none⟩) hQlt).trans (unhide HQC); clear hb2))
    clear ct2
    go_loopw [20] (fun v wr => ∃ i : Nat, i ≤ n ∧ v = .int .i64 i ∧ Hid (∀ j, j < i → nodeI txtB ns j = true) ∧ Hid (Below Q.heap.size Q wr)) (fun v _ => n - (intOf v).toNat)
    case atStart => exact ⟨0, Nat.zero_le _, rfl, fun j hj => absurd hj (Nat.not_lt_zero _), HB2⟩
    case round =>
      obtain ⟨i, hin, rfl, HA, HBL⟩ := hrel
      clear HB2 HOC HW
      have hbW := (unhide HBQ).trans ((unhide HBL).mono (by omega))
      have HBW := hide hbW
      have ct : wr.cell? ⟨w.heap.size, 0, none⟩ = some (.slice a n cap) := ((unhide HBL).cell (p := ⟨w.heap.size, 0, none⟩) hQlt).trans (unhide HQC)
      have hszw : w.heap.size < wr.heap.size := by have := (unhide HBL).size; omega
      have hCr := (unhide HCC).below (Nat.le_refl _) hbW
      by_cases hlt : i < n
      case neg =>
        have hin' : i = n := by omega
        obtain ⟨y, hy⟩ : ∃ y, n = y + 1 := ⟨n - 1, by omega⟩
        obtain ⟨b, off, rfl, hbl, _, _, _, _, _, _, e0, _, _, _, _, _, _, _⟩ := hCr.row.get (k := y) (by omega)
        have HE : Hid (decide ((node ns y).k = 25) = r) := by
          show _ = r
          rw [← unhide HR, treeI_good (by rw [hlen]; exact hs) (unhide HO) (by rw [hlen, ← hin']; exact unhide HA), hlen, show n - 1 = y by omega]
        obtain ⟨xk, hxk⟩ : ∃ x, (node ns y).k = x := ⟨_, rfl⟩
        rw [hxk] at e0 HE
        have hgi : ¬ (i : Int) < (n : Int) := by omega
        have hyi : (n : Int) - 1 = (y : Int) := by omega
        have hyn : (y : Int) < (n : Int) := by omega
        clear HR HA hCr hxk hy hbW hin'
        go_wp2_with fail
        go_ret
        refine ⟨ret_bool ?_, unhide HBW⟩
        rw [← unhide HE]
        by_cases e : xk = 25
        · subst e; rfl
        · rw [decide_eq_false e]; simpa using e
      obtain ⟨b, off, rfl, hbl, s1, n1, c1, s2, n2, c2, e0, e1, e2, e3, e4, e5, r1, r2⟩ := hCr.row.get hlt
      have hcap := hCr.cap b off rfl i hlt _ _ _ e5
      have hsn := unhide HSM i hlt
      have hl2 := r2.len
      have hkz := ord_kids (unhide HST) (i := i) (by omega)
      have HNB : Hid (nodeI txtB ns i = (fieldsI txtB (node ns i) && kidsI (node ns i).k (kinds ns (node ns i).kids) (selB ns (kidN (node ns i) 0)))) := rfl
      have HTB : Hid (nodeI txtB ns i = false → false = r) := fun hh => by rw [← unhide HR, treeI_node (by omega) hh]
      have HPSH : Hid (nodeI txtB ns i = true → ∀ j, j < i + 1 → nodeI txtB ns j = true) := fun hh j hj => by
        by_cases e : j = i
        · subst e; exact hh
        · exact unhide HA j (by omega)
      obtain ⟨W1, hW1⟩ : ∃ x, x = wr.alloc (.cells #[.int .i64 (node ns i).k, .int .i64 (node ns i).n, .int .i64 (node ns i).m, .string (node ns i).s, .slice s1 n1 c1, .slice s2 n2 c2] 47) := ⟨_, rfl⟩
      have HB1 : Hid (Below wr.heap.size wr W1) := by rw [hW1]; exact (Below.refl _ _).alloc (Nat.le_refl _) _
      have HBOX : Hid (NBox W1 wr.heap.size (.int .i64 (node ns i).k) (.int .i64 (node ns i).n) (.int .i64 (node ns i).m) (.string (node ns i).s) (.slice s1 n1 c1) (.slice s2 n2 c2)) := by rw [hW1]; exact NBox.new wr _ _ _ _ _ _
      have hs1w : wr.heap.size < W1.heap.size := by rw [hW1]; simp
      have HFC : Hid (Calls Tryz.prog 31 #[.agg #[.int .i64 (node ns i).k, .int .i64 (node ns i).n, .int .i64 (node ns i).m, .string (node ns i).s, .slice s1 n1 c1, .slice s2 n2 c2]] W1 fun e w' => e = .returned (.bool (fieldsI txtB (node ns i))) ∧ Below W1.heap.size W1 w') := fieldsIm_any _ _ _ _ s1 s2 n1 c1 n2 c2 (node ns i).nums (node ns i).kids W1 hsn.1 (unhide HG _ (hbW.trans ((unhide HB1).mono hbW.size))) (r1.below (Nat.le_refl _) (unhide HB1))
      have HKC : Hid (∀ v, Below W1.heap.size W1 v → Calls Tryz.prog 32 #[.agg #[.slice (some ⟨b, off, none⟩) n cap], .agg #[.int .i64 (node ns i).k, .int .i64 (node ns i).n, .int .i64 (node ns i).m, .string (node ns i).s, .slice s1 n1 c1, .slice s2 n2 c2]] v fun e w' => e = .returned (.bool (kidsI (node ns i).k (kinds ns (node ns i).kids) (selB ns (kidN (node ns i) 0)))) ∧ Below v.heap.size v w') := fun v hv => kidsIm_any _ _ _ _ _ _ s2 n cap n2 c2 ns (node ns i).kids v ((hCr.row.below (Nat.le_refl _) (unhide HB1)).below (Nat.le_refl _) hv) ((r2.below (Nat.le_refl _) (unhide HB1)).below (Nat.le_refl _) hv) hcap (fun q hq => by have := hkz q (by omega); omega) (fun _ h2 => sel_okI (unhide HST) (i := i) (by omega) (unhide HA) (by have := hkz 0 (by omega); omega))
      obtain ⟨xk, hxk⟩ : ∃ x, (node ns i).k = x := ⟨_, rfl⟩
      obtain ⟨xn, hxn⟩ : ∃ x, (node ns i).n = x := ⟨_, rfl⟩
      obtain ⟨xm, hxm⟩ : ∃ x, (node ns i).m = x := ⟨_, rfl⟩
      obtain ⟨xs, hxs⟩ : ∃ x, (node ns i).s = x := ⟨_, rfl⟩
      obtain ⟨fq, hfq⟩ : ∃ x, fieldsI txtB (node ns i) = x := ⟨_, rfl⟩
      obtain ⟨kq, hkq⟩ : ∃ x, kidsI (node ns i).k (kinds ns (node ns i).kids) (selB ns (kidN (node ns i) 0)) = x := ⟨_, rfl⟩
      rw [hfq] at HFC HNB
      rw [hkq] at HKC HNB
      rw [hxk] at e0 HBOX HFC HKC hW1
      rw [hxn] at e1 HBOX HFC HKC hW1
      rw [hxm] at e2 HBOX HFC HKC hW1
      rw [hxs] at e3 HBOX HFC HKC hW1
      have HW1 := hide hW1
      have hlti : (i : Int) < (n : Int) := by omega
      have HPOST : Hid (∀ v, Below W1.heap.size W1 v → v.cell? ⟨w.heap.size, 0, none⟩ = some (.slice (some ⟨b, off, none⟩) n cap) ∧ v.cell? ⟨wr.heap.size, 0, none⟩ = some (.int .i64 xk) ∧ v.cell? ⟨wr.heap.size, 1, none⟩ = some (.int .i64 xn) ∧ v.cell? ⟨wr.heap.size, 2, none⟩ = some (.int .i64 xm) ∧ v.cell? ⟨wr.heap.size, 3, none⟩ = some (.string xs) ∧ v.cell? ⟨wr.heap.size, 4, none⟩ = some (.slice s1 n1 c1) ∧ v.cell? ⟨wr.heap.size, 5, none⟩ = some (.slice s2 n2 c2) ∧ Below Q.heap.size Q v ∧ Below w.heap.size w v) := fun v hv => by
        obtain ⟨f0, f1, f2, f3, f4, f5⟩ := ((unhide HBOX).below hs1w hv).all
        have hq := (unhide HBL).trans (((unhide HB1).trans (hv.mono (unhide HB1).size)).mono (unhide HBL).size)
        exact ⟨(hv.cell (p := ⟨w.heap.size, 0, none⟩) (by show w.heap.size < _; omega)).trans (((unhide HB1).cell (p := ⟨w.heap.size, 0, none⟩) hszw).trans ct), f0, f1, f2, f3, f4, f5, hq, (unhide HBQ).trans (hq.mono (by omega))⟩
      clear hW1 hxk hxn hxm hxs hfq hkq hkz hcap hsn hl2 r1 r2 hCr hbW HA HR HB1 HBOX
      have hfld : True := trivial
      cases fq with
      | false =>
        have HE : Hid (false = r) := unhide HTB (by rw [unhide HNB]; rfl)
        clear HNB HTB HPSH HKC
        go_wp2_with (first | (go_at_call 31; rw [← unhide HW1]; refine (unhide HFC).mono ?_; rintro e w3 ⟨rfl, hb3⟩; have HBW3 := hide (unhide HPOST _ hb3).2.2.2.2.2.2.2.2; clear hb3))
        go_ret
        exact ⟨ret_bool (unhide HE), unhide HBW3⟩
      | true =>
        cases kq with
        | false =>
          have HE : Hid (false = r) := unhide HTB (by rw [unhide HNB]; rfl)
          clear HNB HTB HPSH
          go_wp2_with (first | (go_at_call 31; rw [← unhide HW1]; refine (unhide HFC).mono ?_; rintro e w3 ⟨rfl, hb3⟩; obtain ⟨g0, g1, g2, g3, g4, g5, g6, -, -⟩ := unhide HPOST _ hb3; have HB3 := hide hb3; clear hb3) | (go_at_call 32; refine (unhide HKC _ (unhide HB3)).mono ?_; rintro e w4 ⟨rfl, hb4⟩; have HBW4 := hide (unhide HPOST _ ((unhide HB3).trans (hb4.mono (unhide HB3).size))).2.2.2.2.2.2.2.2; clear hb4))
          go_ret
          exact ⟨ret_bool (unhide HE), unhide HBW4⟩
        | true =>
          have HNX := hide (unhide HPSH (by rw [unhide HNB]; rfl))
          clear HNB HTB HPSH
          go_wp2_with (first | (go_at_call 31; rw [← unhide HW1]; refine (unhide HFC).mono ?_; rintro e w3 ⟨rfl, hb3⟩; obtain ⟨g0, g1, g2, g3, g4, g5, g6, -, -⟩ := unhide HPOST _ hb3; have HB3 := hide hb3; clear hb3) | (go_at_call 32; refine (unhide HKC _ (unhide HB3)).mono ?_; rintro e w4 ⟨rfl, hb4⟩; have HBQ4 := hide (unhide HPOST _ ((unhide HB3).trans (hb4.mono (unhide HB3).size))).2.2.2.2.2.2.2.1; clear hb4))
          go_roundw
          case rel => exact ⟨i + 1, by omega, by go_num, HNX, HBQ4⟩
          case measure => simp [intOf]; omega

end Go.Proofs.YtinndpnilmmmjaaGreatDoor
namespace Go.Proofs.YtinndpnilmmmjaaGreatDoor
open Go.RowKit

theorem NNew.rowC {w : World} {g n H : Nat} {ns : List NodeD} (h : NNew w g n H ns) : NRowC w (some ⟨g, 0, none⟩) n ns := by
  refine ⟨h.row, fun b off e i hi s m c hc => ?_⟩
  cases e
  obtain ⟨h0, h1, h2, h3, f, s1, s2, h4⟩ := h
  obtain ⟨_, _, _, _, _, e5⟩ := h4.cells i hi
  rw [Nat.zero_add, h4.row.cell (by omega), e5] at hc
  cases hc
  exact Nat.le_refl _

end Go.Proofs.YtinndpnilmmmjaaGreatDoor
