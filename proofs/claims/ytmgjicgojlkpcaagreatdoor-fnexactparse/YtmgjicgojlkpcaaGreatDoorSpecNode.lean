import Derived.Test.YtmgjicgojlkpcaaGreatDoorSpecNodeB
import Derived.Test.YtmgjicgojlkpcaaGreatDoorSpecNodeC
namespace Go.Proofs.YtmgjicgojlkpcaaGreatDoor
open Go.RowKit

/-- What is known of a right tree. -/
structure GoodT (T : ByteArray → Bool) (ns : List NodeD) (st0 : List (Nat × Nat)) : Prop where
  some_ : 1 ≤ ns.length ∧ ns.length ≤ 600
  ord : ordN ns ns.length = some st0
  kind : ∀ i, i < ns.length → 1 ≤ (node ns i).k ∧ (node ns i).k ≤ 25
  kids : ∀ i, i < ns.length → kidsB (node ns i).k (kinds ns (node ns i).kids) = true
  fields : ∀ i, i < ns.length → fieldsS T (node ns i) = true

theorem sort_in {k : Int} (h : sortK k ≠ 0) : 1 ≤ k ∧ k ≤ 25 := by
  unfold sortK at h
  repeat (split at h; omega)
  exact absurd rfl h

theorem tree_known {T : ByteArray → Bool} {ns : List NodeD} (h : treeB T ns = true) : ∃ st0, GoodT T ns st0 := by
  unfold treeB at h
  rw [Bool.and_eq_true, decide_eq_true_eq] at h
  obtain ⟨h1, h2⟩ := h
  cases ho : ordN ns ns.length with
  | none => rw [ho] at h2; cases h2
  | some st0 =>
    rw [ho] at h2
    simp only [Bool.and_eq_true, List.all_eq_true, List.mem_range] at h2
    have key : ∀ i, i < ns.length → nodeB T ns st0 i = true := fun i hi => h2.1 i hi
    refine ⟨st0, h1, ho, fun i hi => ?_, fun i hi => ?_, fun i hi => ?_⟩ <;>
    · have := key i hi
      unfold nodeB at this
      simp only [Bool.and_eq_true, decide_eq_true_eq] at this
      first | exact sort_in this.1.1 | exact this.2.1 | exact this.2.2.1

section
variable {T : ByteArray → Bool} {ns : List NodeD} {st0 : List (Nat × Nat)}

theorem GoodT.kidIn (h : GoodT T ns st0) {i : Nat} (hi : i < ns.length) : ∀ q, q < (node ns i).kids.length → (node ns i).kids.getD q 0 = ((kidN (node ns i) q : Nat) : Int) ∧ kidN (node ns i) q < i := fun q hq => by
  have := ord_kids h.ord hi q hq
  unfold kidN
  omega

theorem GoodT.mono (h : GoodT T ns st0) (hs : SmallD ns ns.length) (f i : Nat) (hif : i < f) (hi : i < ns.length) (st : List UInt8 × Bool) : lenP st ≤ lenP (prP looksD ns f i st) := (pr_len (looks_short hs) h.ord h.kids f i hif hi st).1

end

theorem says_node_any (Z : World) (p : Nat) (a : Option Addr) (n cap : Nat) (T : ByteArray → Bool) (ns : List NodeD) (st0 : List (Nat × Nat)) (hT : GoodT T ns st0) (hs : SmallD ns n) (hr : NRow Z a n ns)
    (hcap : ∀ b off, a = some ⟨b, off, none⟩ → ∀ i, i < n → ∀ s m c, Z.cell? ⟨b, off + i * 6 + 5, none⟩ = some (.slice s m c) → m ≤ c) :
    ∀ f i, i < f → i < n → SaysP Z p a n cap 34 #[.pointer (some ⟨p, 0, none⟩), .int .i64 (i : Nat)] (prP looksD ns f i)
  | 0, i, h, _ => absurd h (Nat.not_lt_zero _)
  | f + 1, i, hif, hi => by
    have hln : ns.length = n := hr.len
    have hs' : SmallD ns ns.length := by rw [hln]; exact hs
    have hil : i < ns.length := by omega
    have IH : ∀ z, z < f → z < n → SaysP Z p a n cap 34 #[.pointer (some ⟨p, 0, none⟩), .int .i64 (z : Nat)] (prP looksD ns f z) := fun z hz hzn => says_node_any Z p a n cap T ns st0 hT hs hr hcap f z hz hzn
    have hki := hT.kidIn hil
    have hkb := hT.kids i hil
    have hfd := hT.fields i hil
    have hkd := hT.kind i hil
    have hcn := kids_cnt hkb
    rw [kinds_len] at hcn
    obtain ⟨b, off, rfl, hbl, s1, n1, c1, s2, n2, c2, x0, x1, x2, x3, x4, x5, r1, r2⟩ := hr.get hi
    have hroom := hcap b off rfl i hi s2 n2 c2 x5
    have hl2 := r2.len
    have HK : KidsP Z p (some ⟨b, off, none⟩) n cap (prP looksD ns f) (node ns i) s2 n2 c2 := ⟨r2, hroom, fun q hq => (hki q (by omega)).1, fun q hq => IH _ (by have := hki q (by omega); omega) (by have := hki q (by omega); omega), fun q hq st => hT.mono hs' f _ (by have := hki q (by omega); omega) (by have := hki q (by omega); omega) st⟩
    have hx : NodeIs Z b (off + i * 6) (node ns i).k (node ns i).n (node ns i).m (node ns i).s (.slice s1 n1 c1) (.slice s2 n2 c2) := ⟨hbl, x0, x1, x2, x3, x4, x5⟩
    have hsi := hs i hi
    have OP : ∀ z, z < f → z < n → SaysP Z p (some ⟨b, off, none⟩) n cap 75 #[.pointer (some ⟨p, 0, none⟩), .int .i64 (z : Nat)] (operP looksD ns (prP looksD ns f) z) := fun z hz hzn => says_operand Z p (some ⟨b, off, none⟩) n cap looksD ns hr (prP looksD ns f) (by kernel_rfl) (by kernel_rfl) z hzn (IH z hz hzn) (fun st => hT.mono hs' f z hz (by omega) st)
    have AP : ∀ y z, y < f → z < f → y < n → z < n → SaysP Z p (some ⟨b, off, none⟩) n cap 77 #[.pointer (some ⟨p, 0, none⟩), .int .i64 (y : Nat), .int .i64 (z : Nat)] (applP looksD ns (prP looksD ns f) y z) := fun y z hy hz hyn hzn => by
      refine says_apply Z p (some ⟨b, off, none⟩) n cap looksD ns hr (prP looksD ns f) y z hyn hzn (fun e => ?_) (fun e => ?_) (IH y hy hyn) (IH z hz hzn) (fun st => hT.mono hs' f z hz (by omega) st) (OP z hz hzn)
      · have := (fields_at (hT.fields y (by omega))).1.1
        have h1 : 1 ≤ (node ns y).n ∧ (node ns y).n ≤ 33 := by simpa [okN, e] using this
        exact h1.1
      · have hc9 := (kids_cnt (hT.kids z (by omega))).2.1 e
        rw [kinds_len] at hc9
        have hk0 := hT.kidIn (i := z) (by omega) 0 (by omega)
        exact ⟨by omega, hk0.1, by omega⟩
    rw [show prP looksD ns (f + 1) i = nodeP looksD ns (prP looksD ns f) (node ns i) from rfl]
    obtain ⟨x, hxe⟩ : ∃ x, node ns i = x := ⟨_, rfl⟩
    rw [hxe] at hki hkb hfd hkd hcn hl2 HK hx hsi r1 r2 ⊢
    obtain ⟨⟨hN, hM⟩, hS, hU⟩ := fields_at hfd
    by_cases e1 : x.k = 1
    · refine says_congr (says_node1 Z p b off n cap i hi x.k x.n x.m x.s s1 n1 c1 s2 n2 c2 hx e1 x.nums r1 ?_) (fun st => ?_)
      · unfold okNums at hU
        rw [if_pos e1, Bool.and_eq_true] at hU
        exact hU.1
      · unfold nodeP
        rw [if_pos e1]
    by_cases e2 : x.k = 2
    · refine says_congr (says_node2 Z p b off n cap i hi x.k x.n x.m x.s s1 n1 c1 s2 n2 c2 hx e2 hsi.1) (fun st => ?_)
      unfold nodeP
      simp [e2]
    by_cases e3 : x.k = 3
    · refine says_congr (says_node3 Z p b off n cap i hi x.k x.n x.m x.s s1 n1 c1 s2 n2 c2 hx e3) (fun st => ?_)
      unfold nodeP
      simp [e3]
    by_cases e4 : x.k = 4
    · refine says_congr (says_node4 Z p b off n cap i hi x.k x.n x.m x.s s1 n1 c1 s2 n2 c2 hx e4) (fun st => ?_)
      unfold nodeP
      simp [e4]
    by_cases e5 : x.k = 5
    · refine says_congr (says_node5 Z p b off n cap i hi x.k x.n x.m x.s s1 n1 c1 s2 n2 c2 hx e5) (fun st => ?_)
      unfold nodeP
      simp [e5]
    by_cases e6 : x.k = 6
    · refine says_congr (says_node6 Z p b off n cap i hi x.k x.n x.m x.s s1 n1 c1 s2 n2 c2 hx e6) (fun st => ?_)
      unfold nodeP
      simp [e6]
    by_cases e8 : x.k = 8
    · refine says_congr (says_node8 Z p b off n cap i hi x.k x.n x.m x.s s1 n1 c1 s2 n2 c2 hx e8) (fun st => ?_)
      unfold nodeP
      simp [e8]
    by_cases e25 : x.k = 25
    · refine says_congr (says_node25 Z p b off n cap i hi x.k x.n x.m x.s s1 n1 c1 s2 n2 c2 hx e25 _ (HK.list 8900 ⟨#[226, 139, 132]⟩ sg_8900)) (fun st => ?_)
      unfold nodeP
      simp [e25]
    by_cases eF : 11 ≤ x.k ∧ x.k ≤ 18
    · refine says_nodeF Z p b off n cap i hi x.k x.n x.m x.s s1 n1 c1 s2 n2 c2 hx (by omega) _ (says_function Z p (some ⟨b, off, none⟩) n cap ns (prP looksD ns f) T x eF hfd s1 s2 n1 c1 n2 c2 (fun _ => ?_))
      have hL := HK.list 8900 ⟨#[226, 139, 132]⟩ sg_8900
      rw [hl2] at hL ⊢
      exact says_round Z p (some ⟨b, off, none⟩) n cap looksD (prP looksD ns f) 8900 123 125 ⟨#[226, 139, 132]⟩ ⟨#[123]⟩ ⟨#[125]⟩ sg_123 sg_125 s2 n2 c2 x.kids hL (list_mono0 (fun q hq => HK.mono q hq))
    by_cases eS : 19 ≤ x.k ∧ x.k ≤ 24
    · exact says_nodeS Z p b off n cap i hi x.k x.n x.m x.s s1 n1 c1 s2 n2 c2 hx (by omega) _ (says_stmt ns (prP looksD ns f) T x eS hfd hkb s1 s2 n1 c1 n2 c2 HK)
    have hpos : 0 < n2 := by omega
    have hk0 := hki 0 (by omega)
    obtain ⟨kb, ko, rfl, hkl, hk0c⟩ := r2.get hpos
    have hcellK : ∀ q, q < n2 → Z.cell? ⟨kb, ko + q, none⟩ = some (.int .i64 (kidN x q : Nat)) := fun q hq => by
      rcases r2.at_ with h0 | ⟨b', o', e', _, hcc⟩
      · omega
      · cases e'
        rw [hcc q hq, (hki q (by omega)).1]
    by_cases e7 : x.k = 7
    · obtain ⟨m, rfl⟩ : ∃ m, n2 = m + 1 := ⟨n2 - 1, by omega⟩
      obtain ⟨hL, hLm⟩ := HK.listFrom 59 ⟨#[59]⟩ sg_59 (c2 - 1)
      have hR := says_round Z p (some ⟨b, off, none⟩) n cap looksD (prP looksD ns f) 59 91 93 ⟨#[59]⟩ ⟨#[91]⟩ ⟨#[93]⟩ sg_91 sg_93 (some ⟨kb, ko + 1, none⟩) m (c2 - 1) (x.kids.drop 1) hL hLm
      refine says_congr (says_node7 Z p b off n cap i hi x.k x.n x.m x.s s1 n1 c1 kb ko (m + 1) c2 hx e7 m rfl (by omega) hroom (kidN x 0) (hcellK 0 (by omega)) hkl _ _ (OP (kidN x 0) (by omega) (by omega)) hR (fun st => ?_)) (fun st => ?_)
      · exact Nat.le_trans (Nat.le_trans (say_len _ _ _).1 (hLm _)) (say_len _ _ _).1
      · unfold nodeP
        simp [e7, show x.kids.length - 1 = m by omega]
    by_cases e9 : x.k = 9
    · have h2 : n2 = 2 := by omega
      subst h2
      have hk1 := hki 1 (by omega)
      refine says_congr (says_node9 Z p b off n cap i hi x.k x.n x.m x.s s1 n1 c1 kb ko 2 c2 hx e9 rfl (kidN x 0) (kidN x 1) (hcellK 0 (by omega)) (hcellK 1 (by omega)) hkl _ (AP (kidN x 0) (kidN x 1) (by omega) (by omega) (by omega) (by omega))) (fun st => ?_)
      unfold nodeP
      simp [e9]
    have e10 : x.k = 10 := by omega
    have h3 : n2 = 3 := by omega
    subst h3
    have hk1 := hki 1 (by omega)
    have hk2 := hki 2 (by omega)
    refine says_congr (says_node10 Z p b off n cap i hi x.k x.n x.m x.s s1 n1 c1 kb ko 3 c2 hx e10 rfl (kidN x 0) (kidN x 1) (kidN x 2) (hcellK 0 (by omega)) (hcellK 1 (by omega)) (hcellK 2 (by omega)) hkl _ _ (OP (kidN x 0) (by omega) (by omega)) (AP (kidN x 1) (kidN x 2) (by omega) (by omega) (by omega) (by omega)) (fun st => ?_)) (fun st => ?_)
    · exact (appl_len (looks_short hs') (prP looksD ns f) (kidN x 1) (kidN x 2) _ _ (fun st => pr_len (looks_short hs') hT.ord hT.kids f (kidN x 1) (by omega) (by omega) st) (fun st => pr_len (looks_short hs') hT.ord hT.kids f (kidN x 2) (by omega) (by omega) st) st).1
    · unfold nodeP
      simp [e10]

end Go.Proofs.YtmgjicgojlkpcaaGreatDoor
