import Derived.Test.YtabjnlhhefkekaaDoorScanLAll
import Derived.Test.YtabjnlhhefkekaaDoorImplAxisP
import Derived.Test.YtabjnlhhefkekaaDoorGives
import Derived.Test.YtabjnlhhefkekaaDoorImplOkW
import Derived.Test.YtabjnlhhefkekaaDoorImplClone
import Derived.Test.YtabjnlhhefkekaaDoorImplJoint
import Derived.Deep.RegionHeld
import Derived.Test.YtabjnlhhefkekaaDoorImplAxisZ
namespace Go.Proofs.YtabjnlhhefkekaaDoor
open Go.RowKit Go.Shelf

/-- The axis' numbers as axisOf gives them: before, along, behind. -/
structure AxisIs (sh : List Int) (fl : Bool) (B L A : Nat) : Prop where
  b : axisB sh fl = B
  l : axisN sh fl = L
  a : axisA sh fl = A

theorem axis_is {c : Bool} {sh dt : List Int} (fl : Bool) (hok : arrOk c sh dt = true) (hne : sh ≠ []) : ∃ B L A : Nat, AxisIs sh fl B L A ∧ B * L * A = dt.length ∧ B ≤ 10000 ∧ L ≤ 10000 ∧ A ≤ 10000 := by
  obtain ⟨hin, hp, _⟩ := shapeIn_of hok
  have h1 := (hin.take (axisAt sh fl)).bd
  have h2 := hin.cell (axisAt sh fl)
  have h3 := (hin.drop (axisAt sh fl + 1)).bd
  have e := axis_all sh fl hne
  rw [hp] at e
  obtain ⟨B, hB⟩ : ∃ B : Nat, axisB sh fl = B := ⟨(axisB sh fl).toNat, by unfold axisB; omega⟩
  obtain ⟨L, hL⟩ : ∃ L : Nat, axisN sh fl = L := ⟨(axisN sh fl).toNat, by unfold axisN; omega⟩
  obtain ⟨A, hA⟩ : ∃ A : Nat, axisA sh fl = A := ⟨(axisA sh fl).toNat, by unfold axisA; omega⟩
  refine ⟨B, L, A, ⟨hB, hL, hA⟩, ?_, ?_, ?_, ?_⟩
  · rw [hB, hL, hA] at e
    exact_mod_cast e
  · unfold axisB at hB; omega
  · unfold axisN at hL; omega
  · unfold axisA at hA; omega

theorem without_eq (sh : List Int) (n : Nat) (fl : Bool) (hl : sh.length = n + 1) : without sh fl = sh.take (if fl = true then 0 else n) ++ sh.drop ((if fl = true then 0 else n) + 1) := by
  cases fl
  · simp only [without, hl, Nat.add_sub_cancel, Bool.false_eq_true, if_false]
    rw [List.drop_of_length_le (by omega), List.append_nil]
  · simp [without]

theorem at_eq' (sh : List Int) (n : Nat) (fl : Bool) (hl : sh.length = n + 1) : axisAt sh fl = if fl = true then 0 else n := by
  cases fl <;> simp [axisAt, hl]

theorem one_at (sh : List Int) (k : Nat) (h : k < sh.length) : prodAll ((sh.drop k).take 1) = sh.getD k 0 := by
  rw [List.drop_eq_getElem_cons h, List.take_succ_cons, List.take_zero]; simp [prodAll, h]

/-- axisOf of a shape with axes, in the document's words. -/
theorem axisOf_any (fl : Bool) (a : Addr) (n c B L A : Nat) (sh : List Int) (w : World) (h : Row w (some a) (n + 1) sh) (hc : n + 1 ≤ c) (hin : ShapeIn sh) (hl5 : n + 1 ≤ 5) (hx : AxisIs sh fl B L A) :
    Calls Tryd.prog 55 #[.slice (some a) (n + 1) c, .bool fl] w (AxisOk w B L A (without sh fl)) := by
  obtain ⟨b, off, hab, _, _⟩ := h.get (Nat.succ_pos n)
  cases hab
  have hl := h.len
  have hat := at_eq' sh n fl hl
  have h1 := hx.b
  have h2 := hx.l
  have h3 := hx.a
  unfold axisB at h1
  unfold axisN at h2
  unfold axisA at h3
  rw [hat] at h1 h2 h3
  rw [without_eq sh n fl hl]
  refine axisOf_pos fl b off n c (if fl = true then 0 else n) sh B L A w h hc hin hl5 ?_ h1 ?_ h3
  · cases fl
    · exact .inr ⟨rfl, rfl⟩
    · exact .inl ⟨rfl, rfl⟩
  · rw [one_at _ _ (by rw [hl]; split <;> omega)]; exact h2

/-- What Fold reckons at a place. -/
def foldAt (op : Int) (dt : List Int) (L A k : Nat) : Int × Int := foldR op (stripOf dt (k / A * L * A + k % A) A L)
def scanAt (op : Int) (dt : List Int) (L A k : Nat) : Int × Int := foldR op (stripOf dt (k - k / A % L * A) A (k / A % L + 1))

theorem line_strip (dt : List Int) (p n after q : Nat) : lineOf dt p n after q = stripOf dt (p * n * after + q) after n := by
  unfold lineOf stripOf
  apply List.map_congr_left
  intro i _
  congr 1
  rw [Nat.add_mul]; omega

theorem strip_in {B L A L2 k i : Nat} (hL : B * L * A = L2) (hk : k < B * A) (hA : 0 < A) (hi : i < L) : k / A * L * A + k % A + i * A < L2 := by
  have hp : k / A < B := (Nat.div_lt_iff_lt_mul hA).mpr hk
  have hq : k % A < A := Nat.mod_lt _ hA
  have := line_in hL hp hq hi
  rw [Nat.add_mul] at this
  omega

end Go.Proofs.YtabjnlhhefkekaaDoor
namespace Go.Proofs.YtabjnlhhefkekaaDoor
open Go.RowKit Go.Shelf

theorem without_in {c : Bool} {sh dt : List Int} (fl : Bool) (hok : arrOk c sh dt = true) (B L A : Nat) (hx : AxisIs sh fl B L A) (hne : sh ≠ []) : shapeB (without sh fl) = true ∧ countOf (without sh fl) = ((B * A : Nat) : Int) := by
  obtain ⟨hin, _, h5⟩ := shapeIn_of hok
  have hl : 0 < sh.length := List.length_pos_iff.mpr hne
  have hw : ShapeIn (without sh fl) := by unfold without; split; exact hin.drop 1; exact hin.take _
  have hl5 : (without sh fl).length ≤ 5 := by unfold without; split <;> simp <;> omega
  obtain ⟨h1, m, h2⟩ := hw
  have hs : shapeB (without sh fl) = true := shape_good rfl hl5 m h1 h2
  refine ⟨hs, ?_⟩
  rw [← prodAll_count _ hs]
  have hb := hx.b
  have ha := hx.a
  unfold axisB axisAt at hb
  unfold axisA axisAt at ha
  unfold without
  cases fl
  · simp only [Bool.false_eq_true, if_false] at hb ha ⊢
    rw [show sh.length - 1 + 1 = sh.length by omega, List.drop_of_length_le (Nat.le_refl _)] at ha
    have e : prodAll [] = 1 := rfl
    rw [e] at ha
    rw [hb]
    have : A = 1 := by omega
    subst this
    simp
  · simp only [if_true, Nat.zero_add, List.take_zero] at hb ha ⊢
    have e : prodAll [] = 1 := rfl
    rw [e] at hb
    rw [ha]
    have : B = 1 := by omega
    subst this
    simp

theorem But.cell {S : Nat → Prop} {w w' : World} (h : But S w w') {k o : Nat} (hk : k < w.heap.size) (hn : ¬ S k) : w'.cell? ⟨k, o, none⟩ = w.cell? ⟨k, o, none⟩ := World.cell?_of_block (w := w) (a := ⟨k, o, none⟩) (h.block k hk hn)

set_option maxRecDepth 20000 in
set_option maxHeartbeats 4000000 in
theorem implFold_bad1 (op : Int) (c fl : Bool) (a1 a2 : Addr) (n1 n2 c1 c2 : Nat) (w : World) (hop : opIn op = false) :
    Calls Tryd.prog 22 #[.int .i64 op, .agg #[.bool c, .slice (some a1) n1 c1, .slice (some a2) n2 c2], .bool fl] w (GivesOwn w (noAns 3)) := by
  have HOP := hide hop
  clear hop
  go_enter Tryd.func22, Tryd.ntmps22
  go_wp2_with (first | (go_at_call 41; refine (isScalarFn_any op _ _ HOP).mono ?_; rintro e w0 ⟨rfl, rfl⟩))
  refine bodyPost_ret (v := .tuple #[.agg #[.bool false, .slice none 0 0, .slice none 0 0], .int .i64 3]) (by simp [results, Tryd.results22, go_sem]) rfl ?_
  exact gives_none (((Below.refl _ _).alloc (Nat.le_refl _) _).alloc (by simp) _)

set_option maxRecDepth 20000 in
set_option maxHeartbeats 4000000 in
theorem implFold_bad2 (op : Int) (c fl : Bool) (a1 a2 : Addr) (n1 n2 c1 c2 : Nat) (sh dt : List Int) (w : World) (h1 : Row w (some a1) n1 sh) (h2 : Row w (some a2) n2 dt) (hop : opIn op = true) (hok : arrOk c sh dt = false) :
    Calls Tryd.prog 22 #[.int .i64 op, .agg #[.bool c, .slice (some a1) n1 c1, .slice (some a2) n2 c2], .bool fl] w (GivesOwn w (noAns 3)) := by
  have HR := hide hok
  have HOP := hide hop
  have hs2 := h2.small
  have H1 := hide h1
  have H2 := hide h2
  clear h1 h2 hok hop
  go_enter Tryd.func22, Tryd.ntmps22
  go_wp2_with (first | (go_at_call 41; refine (isScalarFn_any op _ _ HOP).mono ?_; rintro e w0 ⟨rfl, rfl⟩) | (go_at_call 30; refine (implArrayOk_eq _ _ _ _ _ _ _ sh dt _ (((unhide H1).alloc _).alloc _) (((unhide H2).alloc _).alloc _) _ HR).mono ?_; rintro e w1 ⟨rfl, hb1⟩; obtain ⟨B0, B2, hB1⟩ := boxes2 hb1; have HB0 := hide B0; have HB2 := hide B2; have HB := hide hB1; obtain ⟨x0, x1, x2, x3, x4, x5, x6⟩ := B0.all; obtain ⟨q0, q1, q2, q3, q4, q5, q6⟩ := B2.all; clear hb1 hB1 B0 B2))
  refine bodyPost_ret (v := .tuple #[.agg #[.bool false, .slice none 0 0, .slice none 0 0], .int .i64 3]) (by simp [results, Tryd.results22, go_sem, q0, q1, q2]) rfl ?_
  exact gives_none ((((unhide HB).setCell (by simp) _).setCell (by simp) _).setCell (by simp) _)

set_option maxRecDepth 20000 in
set_option maxHeartbeats 4000000 in
theorem implFold_bad3 (op : Int) (c fl : Bool) (a1 a2 : Addr) (n1 n2 c1 c2 : Nat) (sh dt : List Int) (w : World) (h1 : Row w (some a1) n1 sh) (h2 : Row w (some a2) n2 dt) (hop : opIn op = true) (hok : arrOk c sh dt = true) (B L A : Nat) (others : List Int) (hax : ∀ W, Below w.heap.size w W → Calls Tryd.prog 55 #[.slice (some a1) n1 c1, .bool fl] W (AxisOk W B L A others)) (hc : c = true) (hL : L ≠ 1) :
    Calls Tryd.prog 22 #[.int .i64 op, .agg #[.bool c, .slice (some a1) n1 c1, .slice (some a2) n2 c2], .bool fl] w (GivesOwn w (noAns 3)) := by
  have HR := hide hok
  have HOP := hide hop
  have hs2 := h2.small
  have H1 := hide h1
  have H2 := hide h2
  clear h1 h2 hok hop
  have HAX := hide hax
  have ql : ((L : Int) == 1) = false := by simp; omega
  subst hc
  clear hax hL
  go_enter Tryd.func22, Tryd.ntmps22
  go_wp2_with (first | (go_at_call 41; refine (isScalarFn_any op _ _ HOP).mono ?_; rintro e w0 ⟨rfl, rfl⟩) | (go_at_call 30; refine (implArrayOk_eq _ _ _ _ _ _ _ sh dt _ (((unhide H1).alloc _).alloc _) (((unhide H2).alloc _).alloc _) _ HR).mono ?_; rintro e w1 ⟨rfl, hb1⟩; obtain ⟨B0, B2, hB1⟩ := boxes2 hb1; have HB0 := hide B0; have HB2 := hide B2; have HB := hide hB1; obtain ⟨x0, x1, x2, x3, x4, x5, x6⟩ := B0.all; obtain ⟨q0, q1, q2, q3, q4, q5, q6⟩ := B2.all; clear hb1 hB1 B0 B2) | (go_at_call 55; refine (unhide HAX _ (unhide HB)).mono ?_; rintro e w2 ⟨oa, ol, oc, rfl, hO, hb2⟩; have hs12 := hb2.size; have hw1b := q6; have HO := hide (hO.mono (B' := w.heap.size + 2) (by omega)); have HB0' := hide ((unhide HB0).below (Nat.le_refl _) hb2); have HB2' := hide ((unhide HB2).below (Nat.le_refl _) hb2); have HC := hide ((unhide HB).trans (hb2.mono (by omega))); clear hb2 hO x0 x1 x2 x3 x4 x5 x6 q0 q1 q2 q3 q4 q5 q6 HB0 HB2 HB; obtain ⟨x0, x1, x2, x3, x4, x5, x6⟩ := (unhide HB0').all; obtain ⟨q0, q1, q2, q3, q4, q5, q6⟩ := (unhide HB2').all))
  refine bodyPost_ret (v := .tuple #[.agg #[.bool false, .slice none 0 0, .slice none 0 0], .int .i64 3]) (by simp [results, Tryd.results22, go_sem, q0, q1, q2, q6]) rfl ?_
  first | exact gives_none (((((unhide HC).alloc (by omega) _).setCell (by simp) _).setCell (by simp) _).setCell (by simp) _) | exact gives_none (((((unhide HC).setCell (by simp) _).setCell (by simp) _).setCell (by simp) _).alloc (by simp <;> omega) _)

set_option maxRecDepth 20000 in
set_option maxHeartbeats 4000000 in
theorem implFold_one (op : Int) (c fl : Bool) (a1 a2 : Addr) (n1 n2 c1 c2 : Nat) (sh dt : List Int) (w : World) (h1 : Row w (some a1) n1 sh) (h2 : Row w (some a2) n2 dt) (hop : opIn op = true) (hok : arrOk c sh dt = true) (B L A : Nat) (others : List Int) (hax : ∀ W, Below w.heap.size w W → Calls Tryd.prog 55 #[.slice (some a1) n1 c1, .bool fl] W (AxisOk W B L A others)) (hL : L = 1) :
    Calls Tryd.prog 22 #[.int .i64 op, .agg #[.bool c, .slice (some a1) n1 c1, .slice (some a2) n2 c2], .bool fl] w (GivesOwn w ((⟨c, others, dt, 0⟩ : Ans))) := by
  have HR := hide hok
  have HOP := hide hop
  have hs2 := h2.small
  have H1 := hide h1
  have H2 := hide h2
  clear h1 h2 hok hop
  have HAX := hide hax
  have ql : ((L : Int) == 1) = true := by simp [hL]
  clear hax hL
  go_enter Tryd.func22, Tryd.ntmps22
  go_wp2_with (first | (go_at_call 41; refine (isScalarFn_any op _ _ HOP).mono ?_; rintro e w0 ⟨rfl, rfl⟩) | (go_at_call 30; refine (implArrayOk_eq _ _ _ _ _ _ _ sh dt _ (((unhide H1).alloc _).alloc _) (((unhide H2).alloc _).alloc _) _ HR).mono ?_; rintro e w1 ⟨rfl, hb1⟩; obtain ⟨B0, B2, hB1⟩ := boxes2 hb1; have HB0 := hide B0; have HB2 := hide B2; have HB := hide hB1; obtain ⟨x0, x1, x2, x3, x4, x5, x6⟩ := B0.all; obtain ⟨q0, q1, q2, q3, q4, q5, q6⟩ := B2.all; clear hb1 hB1 B0 B2) | (go_at_call 55; refine (unhide HAX _ (unhide HB)).mono ?_; rintro e w2 ⟨oa, ol, oc, rfl, hO, hb2⟩; have hs12 := hb2.size; have hw1b := q6; have HO := hide (hO.mono (B' := w.heap.size + 2) (by omega)); have HB0' := hide ((unhide HB0).below (Nat.le_refl _) hb2); have HB2' := hide ((unhide HB2).below (Nat.le_refl _) hb2); have HC := hide ((unhide HB).trans (hb2.mono (by omega))); clear hb2 hO x0 x1 x2 x3 x4 x5 x6 q0 q1 q2 q3 q4 q5 q6 HB0 HB2 HB; obtain ⟨x0, x1, x2, x3, x4, x5, x6⟩ := (unhide HB0').all; obtain ⟨q0, q1, q2, q3, q4, q5, q6⟩ := (unhide HB2').all))
  obtain ⟨W2, hW2⟩ : ∃ W2, W2 = w2.alloc (.cells #[.int .i64 (B : Nat), .int .i64 (L : Nat), .int .i64 (A : Nat), .slice oa ol oc] 73) := ⟨_, rfl⟩
  have hKW : Below w2.heap.size w2 W2 := by rw [hW2]; exact (Below.refl _ _).alloc (Nat.le_refl _) _
  have hzW : W2.heap.size = w2.heap.size + 1 := by rw [hW2]; simp
  have AX : Hid (ABox W2 w2.heap.size B L A (.slice oa ol oc)) := by rw [hW2]; exact heap_alloc_last w2 _
  rw [← hW2]
  clear hW2
  have HBW := hide ((unhide HB0').below (Nat.le_refl _) hKW)
  have HQW := hide ((unhide HB2').below (Nat.le_refl _) hKW)
  have HEW := hide ((unhide HC).trans (hKW.mono (by omega)))
  have hne : ¬ (w2.heap.size = w.heap.size + 1) := by omega
  have HKEEP : ∀ wx, But (fun k => k = w.heap.size + 1) W2 wx → wx.cell? ⟨w.heap.size, 0, none⟩ = some (.bool c) ∧ wx.cell? ⟨w.heap.size, 2, none⟩ = some (.slice (some a2) n2 c2) ∧ wx.cell? ⟨w2.heap.size, 3, none⟩ = some (.slice oa ol oc) := fun wx hwx => ⟨(hwx.cell (by omega) (by omega)).trans (unhide HBW).cells.1, (hwx.cell (by omega) (by omega)).trans (unhide HBW).cells.2.2, (hwx.cell (by omega) hne).trans (unhide AX).cells.2.2.2⟩
  clear x0 x1 x2 x3 x4 x5 x6 q0 q1 q2 q3 q4 q5
  obtain ⟨x0, x2, x3⟩ := HKEEP _ (But.refl _ _)
  go_region_held (fun wx => wx.cell? ⟨w.heap.size, 0, none⟩ = some (.bool c) ∧ wx.cell? ⟨w.heap.size, 2, none⟩ = some (.slice (some a2) n2 c2) ∧ wx.cell? ⟨w2.heap.size, 3, none⟩ = some (.slice oa ol oc)) (first | (refine HKEEP _ ?_; repeat (first | exact But.of_below hKA | exact But.refl _ _ | exact But.of_below (Below.refl _ _).drew | refine But.setCell ?_ (by first | rfl | (simp <;> omega)) _)))
    (first
    | (go_at_call 32; refine (Clone_any a2 n2 c2 dt _ ((unhide H2).below (Nat.le_refl _) (unhide HEW).drew)).mono ?_; rintro e wA ⟨ad, cd, rfl, hcd, hOA, hbA⟩; have hKA : Below W2.heap.size W2 wA := (Below.refl _ _).drew.trans (hbA.mono (by simp)); have HOA := hide hOA; obtain ⟨x0, x2, x3⟩ := HKEEP _ (But.of_below hKA); obtain ⟨r0, r1, r2, r3, r4, r5, r6⟩ := ((unhide HQW).below (Nat.le_refl _) hKA).all; clear hOA))
  all_goals go_wp2
  all_goals refine bodyPost_ret (v := .tuple #[.agg #[.bool c, .slice oa ol oc, .slice ad n2 cd], .int .i64 0]) (by simp [results, Tryd.results22, go_sem, r0, r1, r2]) rfl ?_
  all_goals
    have hOA' : Own wA (w2.heap.size + 1) ad n2 dt := (unhide HOA).mono (by simp; omega)
    have hO' := ((unhide HO).below (Nat.le_refl _) hKW).below (Nat.le_refl _) hKA
    have hk : ∀ k, At oa ol k → k ≠ w.heap.size + 1 := fun k hk => by have := (unhide HO).low hk; omega
    have hk2 : ∀ k, At ad n2 k → k ≠ w.heap.size + 1 := fun k hk => by have := hOA'.low hk; omega
    refine ⟨oa, ol, oc, ad, n2, cd, rfl, (((hO'.mono (by omega)).other hk _).other hk _).other hk _, (((hOA'.mono (by omega)).other hk2 _).other hk2 _).other hk2 _, fun k h1 h2 => ?_, ((((unhide HEW).trans (hKA.mono (by omega))).setCell (by simp) _).setCell (by simp) _).setCell (by simp) _⟩
    have := (unhide HO).row.hi h1
    have := hOA'.low h2
    omega

end Go.Proofs.YtabjnlhhefkekaaDoor
namespace Go.Proofs.YtabjnlhhefkekaaDoor
open Go.RowKit Go.Shelf

set_option maxRecDepth 20000 in
set_option maxHeartbeats 4000000 in
theorem implScan_bad1 (op : Int) (c fl : Bool) (a1 a2 : Addr) (n1 n2 c1 c2 : Nat) (w : World) (hop : opIn op = false) :
    Calls Tryd.prog 20 #[.int .i64 op, .agg #[.bool c, .slice (some a1) n1 c1, .slice (some a2) n2 c2], .bool fl] w (GivesOwn w (noAns 3)) := by
  have HOP := hide hop
  clear hop
  go_enter Tryd.func20, Tryd.ntmps20
  go_wp2_with (first | (go_at_call 41; refine (isScalarFn_any op _ _ HOP).mono ?_; rintro e w0 ⟨rfl, rfl⟩))
  refine bodyPost_ret (v := .tuple #[.agg #[.bool false, .slice none 0 0, .slice none 0 0], .int .i64 3]) (by simp [results, Tryd.results20, go_sem]) rfl ?_
  exact gives_none (((Below.refl _ _).alloc (Nat.le_refl _) _).alloc (by simp) _)

set_option maxRecDepth 20000 in
set_option maxHeartbeats 4000000 in
theorem implScan_bad2 (op : Int) (c fl : Bool) (a1 a2 : Addr) (n1 n2 c1 c2 : Nat) (sh dt : List Int) (w : World) (h1 : Row w (some a1) n1 sh) (h2 : Row w (some a2) n2 dt) (hop : opIn op = true) (hok : arrOk c sh dt = false) :
    Calls Tryd.prog 20 #[.int .i64 op, .agg #[.bool c, .slice (some a1) n1 c1, .slice (some a2) n2 c2], .bool fl] w (GivesOwn w (noAns 3)) := by
  have HR := hide hok
  have HOP := hide hop
  have hs2 := h2.small
  have H1 := hide h1
  have H2 := hide h2
  clear h1 h2 hok hop
  go_enter Tryd.func20, Tryd.ntmps20
  go_wp2_with (first | (go_at_call 41; refine (isScalarFn_any op _ _ HOP).mono ?_; rintro e w0 ⟨rfl, rfl⟩) | (go_at_call 30; refine (implArrayOk_eq _ _ _ _ _ _ _ sh dt _ (((unhide H1).alloc _).alloc _) (((unhide H2).alloc _).alloc _) _ HR).mono ?_; rintro e w1 ⟨rfl, hb1⟩; obtain ⟨B0, B2, hB1⟩ := boxes2 hb1; have HB0 := hide B0; have HB2 := hide B2; have HB := hide hB1; obtain ⟨x0, x1, x2, x3, x4, x5, x6⟩ := B0.all; obtain ⟨q0, q1, q2, q3, q4, q5, q6⟩ := B2.all; clear hb1 hB1 B0 B2))
  refine bodyPost_ret (v := .tuple #[.agg #[.bool false, .slice none 0 0, .slice none 0 0], .int .i64 3]) (by simp [results, Tryd.results20, go_sem, q0, q1, q2]) rfl ?_
  exact gives_none ((((unhide HB).setCell (by simp) _).setCell (by simp) _).setCell (by simp) _)

set_option maxRecDepth 20000 in
set_option maxHeartbeats 4000000 in
theorem implScan_bad3 (op : Int) (c fl : Bool) (a1 a2 : Addr) (n1 n2 c1 c2 : Nat) (sh dt : List Int) (w : World) (h1 : Row w (some a1) n1 sh) (h2 : Row w (some a2) n2 dt) (hop : opIn op = true) (hok : arrOk c sh dt = true) (B L A : Nat) (others : List Int) (hax : ∀ W, Below w.heap.size w W → Calls Tryd.prog 55 #[.slice (some a1) n1 c1, .bool fl] W (AxisOk W B L A others)) (hc : c = true) (hL : 1 < L) :
    Calls Tryd.prog 20 #[.int .i64 op, .agg #[.bool c, .slice (some a1) n1 c1, .slice (some a2) n2 c2], .bool fl] w (GivesOwn w (noAns 3)) := by
  have HR := hide hok
  have HOP := hide hop
  have hs2 := h2.small
  have H1 := hide h1
  have H2 := hide h2
  clear h1 h2 hok hop
  have HAX := hide hax
  have ql : ¬ ((L : Int) ≤ 1) := by omega
  subst hc
  clear hax hL
  go_enter Tryd.func20, Tryd.ntmps20
  go_wp2_with (first | (go_at_call 41; refine (isScalarFn_any op _ _ HOP).mono ?_; rintro e w0 ⟨rfl, rfl⟩) | (go_at_call 30; refine (implArrayOk_eq _ _ _ _ _ _ _ sh dt _ (((unhide H1).alloc _).alloc _) (((unhide H2).alloc _).alloc _) _ HR).mono ?_; rintro e w1 ⟨rfl, hb1⟩; obtain ⟨B0, B2, hB1⟩ := boxes2 hb1; have HB0 := hide B0; have HB2 := hide B2; have HB := hide hB1; obtain ⟨x0, x1, x2, x3, x4, x5, x6⟩ := B0.all; obtain ⟨q0, q1, q2, q3, q4, q5, q6⟩ := B2.all; clear hb1 hB1 B0 B2) | (go_at_call 55; refine (unhide HAX _ (unhide HB)).mono ?_; rintro e w2 ⟨oa, ol, oc, rfl, hO, hb2⟩; have hs12 := hb2.size; have hw1b := q6; have HO := hide (hO.mono (B' := w.heap.size + 2) (by omega)); have HB0' := hide ((unhide HB0).below (Nat.le_refl _) hb2); have HB2' := hide ((unhide HB2).below (Nat.le_refl _) hb2); have HC := hide ((unhide HB).trans (hb2.mono (by omega))); clear hb2 hO x0 x1 x2 x3 x4 x5 x6 q0 q1 q2 q3 q4 q5 q6 HB0 HB2 HB; obtain ⟨x0, x1, x2, x3, x4, x5, x6⟩ := (unhide HB0').all; obtain ⟨q0, q1, q2, q3, q4, q5, q6⟩ := (unhide HB2').all))
  refine bodyPost_ret (v := .tuple #[.agg #[.bool false, .slice none 0 0, .slice none 0 0], .int .i64 3]) (by simp [results, Tryd.results20, go_sem, q0, q1, q2, q6]) rfl ?_
  first | exact gives_none (((((unhide HC).alloc (by omega) _).setCell (by simp) _).setCell (by simp) _).setCell (by simp) _) | exact gives_none (((((unhide HC).setCell (by simp) _).setCell (by simp) _).setCell (by simp) _).alloc (by simp <;> omega) _)

set_option maxRecDepth 20000 in
set_option maxHeartbeats 4000000 in
theorem implScan_one (op : Int) (c fl : Bool) (a1 a2 : Addr) (n1 n2 c1 c2 : Nat) (sh dt : List Int) (w : World) (h1 : Row w (some a1) n1 sh) (h2 : Row w (some a2) n2 dt) (hop : opIn op = true) (hok : arrOk c sh dt = true) (B L A : Nat) (others : List Int) (hax : ∀ W, Below w.heap.size w W → Calls Tryd.prog 55 #[.slice (some a1) n1 c1, .bool fl] W (AxisOk W B L A others)) (hL : L ≤ 1) :
    Calls Tryd.prog 20 #[.int .i64 op, .agg #[.bool c, .slice (some a1) n1 c1, .slice (some a2) n2 c2], .bool fl] w (GivesOwn w ((⟨c, sh, dt, 0⟩ : Ans))) := by
  have HR := hide hok
  have HOP := hide hop
  have hs2 := h2.small
  have H1 := hide h1
  have H2 := hide h2
  clear h1 h2 hok hop
  have HAX := hide hax
  have ql : (L : Int) ≤ 1 := by omega
  clear hax hL
  go_enter Tryd.func20, Tryd.ntmps20
  go_wp2_with (first | (go_at_call 41; refine (isScalarFn_any op _ _ HOP).mono ?_; rintro e w0 ⟨rfl, rfl⟩) | (go_at_call 30; refine (implArrayOk_eq _ _ _ _ _ _ _ sh dt _ (((unhide H1).alloc _).alloc _) (((unhide H2).alloc _).alloc _) _ HR).mono ?_; rintro e w1 ⟨rfl, hb1⟩; obtain ⟨B0, B2, hB1⟩ := boxes2 hb1; have HB0 := hide B0; have HB2 := hide B2; have HB := hide hB1; obtain ⟨x0, x1, x2, x3, x4, x5, x6⟩ := B0.all; obtain ⟨q0, q1, q2, q3, q4, q5, q6⟩ := B2.all; clear hb1 hB1 B0 B2) | (go_at_call 55; refine (unhide HAX _ (unhide HB)).mono ?_; rintro e w2 ⟨oa, ol, oc, rfl, hO, hb2⟩; have hs12 := hb2.size; have hw1b := q6; have HO := hide (hO.mono (B' := w.heap.size + 2) (by omega)); have HB0' := hide ((unhide HB0).below (Nat.le_refl _) hb2); have HB2' := hide ((unhide HB2).below (Nat.le_refl _) hb2); have HC := hide ((unhide HB).trans (hb2.mono (by omega))); clear hb2 hO x0 x1 x2 x3 x4 x5 x6 q0 q1 q2 q3 q4 q5 q6 HB0 HB2 HB; obtain ⟨x0, x1, x2, x3, x4, x5, x6⟩ := (unhide HB0').all; obtain ⟨q0, q1, q2, q3, q4, q5, q6⟩ := (unhide HB2').all))
  obtain ⟨W2, hW2⟩ : ∃ W2, W2 = w2.alloc (.cells #[.int .i64 (B : Nat), .int .i64 (L : Nat), .int .i64 (A : Nat), .slice oa ol oc] 73) := ⟨_, rfl⟩
  have hKW : Below w2.heap.size w2 W2 := by rw [hW2]; exact (Below.refl _ _).alloc (Nat.le_refl _) _
  have hzW : W2.heap.size = w2.heap.size + 1 := by rw [hW2]; simp
  rw [← hW2]
  clear hW2
  have HBW := hide ((unhide HB0').below (Nat.le_refl _) hKW)
  have HQW := hide ((unhide HB2').below (Nat.le_refl _) hKW)
  have HEW := hide ((unhide HC).trans (hKW.mono (by omega)))
  have HKEEP : ∀ wx, But (fun k => k = w.heap.size + 1) W2 wx → wx.cell? ⟨w.heap.size, 0, none⟩ = some (.bool c) ∧ wx.cell? ⟨w.heap.size, 1, none⟩ = some (.slice (some a1) n1 c1) ∧ wx.cell? ⟨w.heap.size, 2, none⟩ = some (.slice (some a2) n2 c2) := fun wx hwx => ⟨(hwx.cell (by omega) (by omega)).trans (unhide HBW).cells.1, (hwx.cell (by omega) (by omega)).trans (unhide HBW).cells.2.1, (hwx.cell (by omega) (by omega)).trans (unhide HBW).cells.2.2⟩
  clear x0 x1 x2 x3 x4 x5 x6 q0 q1 q2 q3 q4 q5
  obtain ⟨x0, x1, x2⟩ := HKEEP _ (But.refl _ _)
  go_region_held (fun wx => wx.cell? ⟨w.heap.size, 0, none⟩ = some (.bool c) ∧ wx.cell? ⟨w.heap.size, 1, none⟩ = some (.slice (some a1) n1 c1) ∧ wx.cell? ⟨w.heap.size, 2, none⟩ = some (.slice (some a2) n2 c2)) (first | (refine HKEEP _ ?_; repeat (first | exact But.of_below hKB | exact But.of_below hKA | exact But.refl _ _ | exact But.of_below (Below.refl _ _).drew | refine But.setCell ?_ (by first | rfl | (simp <;> omega)) _)))
    (first
    | (go_at_call_of 32 (Value.slice (some a1) n1 c1); refine (Clone_any a1 n1 c1 sh _ ((unhide H1).below (Nat.le_refl _) (unhide HEW).drew)).mono ?_; rintro e wA ⟨ash, csh, rfl, hcs, hOA, hbA⟩; have hKA : Below W2.heap.size W2 wA := (Below.refl _ _).drew.trans (hbA.mono (by simp)); have HOA := hide hOA; obtain ⟨x0, x1, x2⟩ := HKEEP _ (But.of_below hKA); clear hOA)
    | (go_at_call_of 32 (Value.slice (some a2) n2 c2); refine (Clone_any a2 n2 c2 dt _ ((unhide H2).below (Nat.le_refl _) ((unhide HEW).trans (hKA.mono (by omega))))).mono ?_; rintro e wB ⟨ad, cd, rfl, hcd, hOB, hbB⟩; have hAs := hKA.size; have hKB : Below W2.heap.size W2 wB := hKA.trans (hbB.mono hKA.size); have HOB := hide hOB; have HOA2 := hide ((unhide HOA).below (Nat.le_refl _) hbB); obtain ⟨x0, x1, x2⟩ := HKEEP _ (But.of_below hKB); obtain ⟨r0, r1, r2, r3, r4, r5, r6⟩ := ((unhide HQW).below (Nat.le_refl _) hKB).all; clear hOB))
  all_goals go_wp2
  all_goals refine bodyPost_ret (v := .tuple #[.agg #[.bool c, .slice ash n1 csh, .slice ad n2 cd], .int .i64 0]) (by simp [results, Tryd.results20, go_sem, r0, r1, r2]) rfl ?_
  all_goals
    have hOA' : Own wB (w2.heap.size + 1) ash n1 sh := (unhide HOA2).mono (by simp; omega)
    have hOB' := unhide HOB
    have hk : ∀ k, At ash n1 k → k ≠ w.heap.size + 1 := fun k hk => by have := hOA'.low hk; omega
    have hk2 : ∀ k, At ad n2 k → k ≠ w.heap.size + 1 := fun k hk => by have := hOB'.low hk; omega
    refine ⟨ash, n1, csh, ad, n2, cd, rfl, (((hOA'.mono (by omega)).other hk _).other hk _).other hk _, (((hOB'.mono (by omega)).other hk2 _).other hk2 _).other hk2 _, fun k h1 h2 => ?_, ((((unhide HEW).trans (hKB.mono (by omega))).setCell (by simp) _).setCell (by simp) _).setCell (by simp) _⟩
    have := (unhide HOA).row.hi h1
    have := hOB'.low h2
    omega

end Go.Proofs.YtabjnlhhefkekaaDoor
namespace Go.Proofs.YtabjnlhhefkekaaDoor
open Go.RowKit Go.Shelf

theorem scan_in {k A L n2 i : Nat} (hk : k < n2) (hi : i < k / A % L + 1) : k - k / A % L * A + i * A < n2 := by
  have h1 : k / A % L * A ≤ k := Nat.le_trans (Nat.mul_le_mul_right A (Nat.mod_le _ _)) (Nat.div_mul_le_self k A)
  have h2 : i * A ≤ k / A % L * A := Nat.mul_le_mul_right A (by omega)
  omega

set_option maxRecDepth 20000 in
set_option maxHeartbeats 4000000 in
theorem implScan_good0 (op : Int) (c fl : Bool) (a1 a2 : Addr) (n1 n2 c1 c2 : Nat) (sh dt : List Int) (w : World) (h1 : Row w (some a1) n1 sh) (h2 : Row w (some a2) n2 dt) (ga gb : Addr) (hG : GlF w ga gb) (hop : opIn op = true) (hok : arrOk c sh dt = true) (B L A : Nat) (others : List Int) (hax : ∀ W, Below w.heap.size w W → Calls Tryd.prog 55 #[.slice (some a1) n1 c1, .bool fl] W (AxisOk W B L A others)) (hc : c = false) (hL : 1 < L) (hLb : L ≤ 10000) (hAb : A ≤ 10000) (hprod : B * L * A = n2) (hfc : firstCode (scanAt op dt L A) n2 = 0) :
    Calls Tryd.prog 20 #[.int .i64 op, .agg #[.bool c, .slice (some a1) n1 c1, .slice (some a2) n2 c2], .bool fl] w (GivesOwn w (gatherAns false sh (scanAt op dt L A) n2)) := by
  have HR := hide hok
  have HOP := hide hop
  have hs2 := h2.small
  have H1 := hide h1
  have H2 := hide h2
  clear h1 h2 hok hop
  have HAX := hide hax
  have HG := hide hG
  have ql : ¬ ((L : Int) ≤ 1) := by omega
  have HS : Hid (shapeB sh = true ∧ countOf sh = (n2 : Int)) := by have := arr_parts (unhide HR); rw [(unhide H2).len] at this; exact this
  have hn16 : n2 ≤ 100000000 := by
    have := (prodAll_bd sh (unhide HS).1 sh.length).2
    rw [List.take_length, prodAll_count sh (unhide HS).1, (unhide HS).2] at this
    omega
  have HXB : Hid (∀ k, k < n2 → -1000000000000000 ≤ dt.getD k 0 ∧ dt.getD k 0 ≤ 1000000000000000) := fun k hk => dataOk_bd (unhide HR) (by rw [(unhide H2).len]; exact hk)
  have HFC := hide hfc
  have HEL : ∀ (p9 p8 : Nat) (v v1 : Value) (oa : Option Addr) (ol oc : Nat) (W : World), FoldIs ga gb op v W → W.cell? ⟨p9, 0, none⟩ = some v → ABox W p8 B L A (.slice oa ol oc) → Box W w.heap.size c v1 (.slice (some a2) n2 c2) → Row W (some a2) n2 dt → ElemOk ga gb 57 #[.pointer (some ⟨p9, 0, none⟩), .pointer (some ⟨p8, 0, none⟩), .pointer (some ⟨w.heap.size, 0, none⟩)] (scanAt op dt L A) n2 W := by
    intro p9 p8 v v1 oa ol oc W hv hc hX hB h2 k hk W' hW
    have hA0 : 0 < A := by
      rcases Nat.eq_zero_or_pos A with h | h
      · subst h; simp at hprod; omega
      · exact h
    exact scanClo op ga gb a2 v v1 _ p9 p8 w.heap.size B L A n2 c2 k c dt W' (hv.below hW) ((hW.cell (p := ⟨p9, 0, none⟩) (World.block_lt_of_cell? _ _ hc)).trans hc) (hX.below (Nat.le_refl _) hW) ⟨oa, ol, oc, rfl⟩ (hB.below (Nat.le_refl _) hW) (h2.below (Nat.le_refl _) hW) (by omega) hA0 (by omega) (by omega) (by omega) (fun i hi => scan_in hk hi) (unhide HXB)
  have HELL := hide HEL
  clear hax hL hG hfc HEL hprod
  subst hc
  go_enter Tryd.func20, Tryd.ntmps20
  go_wp2_with (first | (go_at_call 41; refine (isScalarFn_any op _ _ HOP).mono ?_; rintro e w0 ⟨rfl, rfl⟩) | (go_at_call 30; refine (implArrayOk_eq _ _ _ _ _ _ _ sh dt _ (((unhide H1).alloc _).alloc _) (((unhide H2).alloc _).alloc _) _ HR).mono ?_; rintro e w1 ⟨rfl, hb1⟩; obtain ⟨B0, B2, hB1⟩ := boxes2 hb1; have HB0 := hide B0; have HB2 := hide B2; have HB := hide hB1; obtain ⟨x0, x1, x2, x3, x4, x5, x6⟩ := B0.all; obtain ⟨q0, q1, q2, q3, q4, q5, q6⟩ := B2.all; clear hb1 hB1 B0 B2) | (go_at_call 55; refine (unhide HAX _ (unhide HB)).mono ?_; rintro e w2 ⟨oa, ol, oc, rfl, hO, hb2⟩; have hs12 := hb2.size; have hw1b := q6; have HO := hide (hO.mono (B' := w.heap.size + 2) (by omega)); have HB0' := hide ((unhide HB0).below (Nat.le_refl _) hb2); have HB2' := hide ((unhide HB2).below (Nat.le_refl _) hb2); have HC := hide ((unhide HB).trans (hb2.mono (by omega))); clear hb2 hO x0 x1 x2 x3 x4 x5 x6 q0 q1 q2 q3 q4 q5 q6 HB0 HB2 HB; obtain ⟨x0, x1, x2, x3, x4, x5, x6⟩ := (unhide HB0').all; obtain ⟨q0, q1, q2, q3, q4, q5, q6⟩ := (unhide HB2').all) | (go_at_call 56; refine (foldingBy_any op ga gb _ ((unhide HG).below (unhide HC) |>.alloc _) (unhide HOP)).mono ?_; rintro e w3 ⟨v, rfl, hv, hb3⟩; have hs23 : w2.heap.size + 1 ≤ w3.heap.size := (by have := hb3.size; simpa using this); have hK3 : Below w2.heap.size w2 w3 := ((Below.refl _ _).alloc (Nat.le_refl _) _).trans (hb3.mono (by simp)); have AX : Hid (ABox w3 w2.heap.size B L A (.slice oa ol oc)) := ABox.below (by exact heap_alloc_last w2 _) (Nat.le_refl _) hb3; have HV := hide hv; have HB0t := hide ((unhide HB0').below (Nat.le_refl _) hK3); have HB2t := hide ((unhide HB2').below (Nat.le_refl _) hK3); have HE := hide ((unhide HC).trans (hK3.mono (by omega))); have HOt := hide ((unhide HO).below (Nat.le_refl _) hK3); clear hb3 hK3 x0 x1 x2 x3 x4 x5 x6 q0 q1 q2 q3 q4 q5 q6 HB0' HB2'; obtain ⟨x0, x1, x2, x3, x4, x5, x6⟩ := (unhide HB0t).all; obtain ⟨q0, q1, q2, q3, q4, q5, q6⟩ := (unhide HB2t).all; obtain ⟨z0, z1, z2, z3⟩ := (unhide AX).cells; have zl := (unhide AX).lt; obtain ⟨g, lb, rfl, eg, _⟩ := hv) | (go_at_call 32; have hW4 : Below w.heap.size w (w3.alloc (.cells #[.func (.func g) #[] lb] 75)) := (unhide HE).alloc (by omega) _; refine (Clone_any a1 n1 c1 sh _ ((unhide H1).below (Nat.le_refl _) hW4)).mono ?_; rintro e w4 ⟨ash, csh, rfl, hcsh, hOS, hb4⟩; have hs34 : w3.heap.size + 1 ≤ w4.heap.size := (by have := hb4.size; simpa using this); have hK4 : Below w3.heap.size w3 w4 := ((Below.refl _ _).alloc (Nat.le_refl _) _).trans (hb4.mono (by simp)); have hc9 : w4.cell? ⟨w3.heap.size, 0, none⟩ = some (.func (.func g) #[] lb) := (hb4.cell (p := ⟨w3.heap.size, 0, none⟩) (by simp)).trans (cell_of_row _ _ 0 _ _ (0, 0) (heap_alloc_last w3 _)); have HC9 := hide hc9; have HOS : Hid (Own w4 (w3.heap.size + 1) ash n1 sh) := hOS.mono (by simp); have AX4 := hide ((unhide AX).below (Nat.le_refl _) hK4); have HV4 := hide ((unhide HV).below hK4); have HB04 := hide ((unhide HB0t).below (Nat.le_refl _) hK4); have HB24 := hide ((unhide HB2t).below (Nat.le_refl _) hK4); have HE4 := hide ((unhide HE).trans (hK4.mono (by omega))); clear hb4 hOS hK4 hc9 hW4 x0 x1 x2 x3 x4 x5 x6 q0 q1 q2 q3 q4 q5 z0 z1 z2 z3; obtain ⟨x0, x1, x2, x3, x4, x5, x6⟩ := (unhide HB04).all; obtain ⟨q0, q1, q2, q3, q4, q5, q7⟩ := (unhide HB24).all) | (go_at_call 31; refine (reckoned_any ga gb 57 _ (enters_of Tryd.func57 (by kernel_rfl) rfl) (scanAt op dt L A) n2 _ _ _ sh _ (unhide HOS).row (unhide HS).1 (unhide HS).2 ((unhide HG).below (unhide HE4)).gl (fun k _ => foldR_codeIn _ _) (unhide HELL _ _ _ _ _ _ _ _ (unhide HV4) (unhide HC9) (unhide AX4) (unhide HB04) ((unhide H2).below (Nat.le_refl _) (unhide HE4)))).mono ?_; rintro e w5 ⟨hr, hb5⟩; obtain ⟨_, p, hpl, rfl, hblk⟩ | ⟨hne, _⟩ := hr; rotate_left; exact absurd (unhide HFC) hne; have HBK := hide hblk; clear hblk; have HKD := hide hb5; obtain ⟨r0, r1, r2, r3, r4, r5, r6⟩ := ((unhide HB24).below (Nat.le_refl _) hb5).all; clear hb5))
  refine bodyPost_ret (v := .tuple #[.agg #[.bool false, .slice ash n1 csh, .slice (some ⟨p, 0, none⟩) n2 n2], .int .i64 0]) (by simp [results, Tryd.results20, go_sem, r0, r1, r2]) rfl ?_
  have hO := (unhide HOS).below (Nat.le_refl _) (unhide HKD)
  have hk : ∀ k, At ash n1 k → k ≠ w.heap.size + 1 := fun k hk => by have := (unhide HOS).low hk; omega
  have hD : Own w5 w.heap.size (some ⟨p, 0, none⟩) n2 (vals (scanAt op dt L A) n2) := (unhide HBK).own (vals_len _ _) (by omega) (by omega)
  have hk2 : ∀ k, At (some ⟨p, 0, none⟩) n2 k → k ≠ w.heap.size + 1 := fun k hk => by have := at_eq hk; omega
  rw [gather_good (unhide HFC)]
  refine ⟨ash, n1, csh, some ⟨p, 0, none⟩, n2, n2, rfl, (((hO.mono (by omega)).other hk _).other hk _).other hk _, ((hD.other hk2 _).other hk2 _).other hk2 _, fun k h1 h2 => ?_, ((((unhide HE4).trans ((unhide HKD).mono (by omega))).setCell (by simp) _).setCell (by simp) _).setCell (by simp) _⟩
  have := (unhide HOS).row.hi h1
  have := at_eq h2
  omega

set_option maxRecDepth 20000 in
set_option maxHeartbeats 4000000 in
theorem implScan_good1 (op : Int) (c fl : Bool) (a1 a2 : Addr) (n1 n2 c1 c2 : Nat) (sh dt : List Int) (w : World) (h1 : Row w (some a1) n1 sh) (h2 : Row w (some a2) n2 dt) (ga gb : Addr) (hG : GlF w ga gb) (hop : opIn op = true) (hok : arrOk c sh dt = true) (B L A : Nat) (others : List Int) (hax : ∀ W, Below w.heap.size w W → Calls Tryd.prog 55 #[.slice (some a1) n1 c1, .bool fl] W (AxisOk W B L A others)) (hc : c = false) (hL : 1 < L) (hLb : L ≤ 10000) (hAb : A ≤ 10000) (hprod : B * L * A = n2) (ccc : Int) (hfc : ccc = firstCode (scanAt op dt L A) n2) (hc0 : ccc ≠ 0) :
    Calls Tryd.prog 20 #[.int .i64 op, .agg #[.bool c, .slice (some a1) n1 c1, .slice (some a2) n2 c2], .bool fl] w (GivesOwn w (gatherAns false sh (scanAt op dt L A) n2)) := by
  have HR := hide hok
  have HOP := hide hop
  have hs2 := h2.small
  have H1 := hide h1
  have H2 := hide h2
  clear h1 h2 hok hop
  have HAX := hide hax
  have HG := hide hG
  have ql : ¬ ((L : Int) ≤ 1) := by omega
  have HS : Hid (shapeB sh = true ∧ countOf sh = (n2 : Int)) := by have := arr_parts (unhide HR); rw [(unhide H2).len] at this; exact this
  have hn16 : n2 ≤ 100000000 := by
    have := (prodAll_bd sh (unhide HS).1 sh.length).2
    rw [List.take_length, prodAll_count sh (unhide HS).1, (unhide HS).2] at this
    omega
  have HXB : Hid (∀ k, k < n2 → -1000000000000000 ≤ dt.getD k 0 ∧ dt.getD k 0 ≤ 1000000000000000) := fun k hk => dataOk_bd (unhide HR) (by rw [(unhide H2).len]; exact hk)
  have HFC := hide hfc
  have HC0 := hide hc0
  have HEL : ∀ (p9 p8 : Nat) (v v1 : Value) (oa : Option Addr) (ol oc : Nat) (W : World), FoldIs ga gb op v W → W.cell? ⟨p9, 0, none⟩ = some v → ABox W p8 B L A (.slice oa ol oc) → Box W w.heap.size c v1 (.slice (some a2) n2 c2) → Row W (some a2) n2 dt → ElemOk ga gb 57 #[.pointer (some ⟨p9, 0, none⟩), .pointer (some ⟨p8, 0, none⟩), .pointer (some ⟨w.heap.size, 0, none⟩)] (scanAt op dt L A) n2 W := by
    intro p9 p8 v v1 oa ol oc W hv hc hX hB h2 k hk W' hW
    have hA0 : 0 < A := by
      rcases Nat.eq_zero_or_pos A with h | h
      · subst h; simp at hprod; omega
      · exact h
    exact scanClo op ga gb a2 v v1 _ p9 p8 w.heap.size B L A n2 c2 k c dt W' (hv.below hW) ((hW.cell (p := ⟨p9, 0, none⟩) (World.block_lt_of_cell? _ _ hc)).trans hc) (hX.below (Nat.le_refl _) hW) ⟨oa, ol, oc, rfl⟩ (hB.below (Nat.le_refl _) hW) (h2.below (Nat.le_refl _) hW) (by omega) hA0 (by omega) (by omega) (by omega) (fun i hi => scan_in hk hi) (unhide HXB)
  have HELL := hide HEL
  clear hax hL hG hfc HEL hprod hc0
  subst hc
  go_enter Tryd.func20, Tryd.ntmps20
  go_wp2_with (first | (go_at_call 41; refine (isScalarFn_any op _ _ HOP).mono ?_; rintro e w0 ⟨rfl, rfl⟩) | (go_at_call 30; refine (implArrayOk_eq _ _ _ _ _ _ _ sh dt _ (((unhide H1).alloc _).alloc _) (((unhide H2).alloc _).alloc _) _ HR).mono ?_; rintro e w1 ⟨rfl, hb1⟩; obtain ⟨B0, B2, hB1⟩ := boxes2 hb1; have HB0 := hide B0; have HB2 := hide B2; have HB := hide hB1; obtain ⟨x0, x1, x2, x3, x4, x5, x6⟩ := B0.all; obtain ⟨q0, q1, q2, q3, q4, q5, q6⟩ := B2.all; clear hb1 hB1 B0 B2) | (go_at_call 55; refine (unhide HAX _ (unhide HB)).mono ?_; rintro e w2 ⟨oa, ol, oc, rfl, hO, hb2⟩; have hs12 := hb2.size; have hw1b := q6; have HO := hide (hO.mono (B' := w.heap.size + 2) (by omega)); have HB0' := hide ((unhide HB0).below (Nat.le_refl _) hb2); have HB2' := hide ((unhide HB2).below (Nat.le_refl _) hb2); have HC := hide ((unhide HB).trans (hb2.mono (by omega))); clear hb2 hO x0 x1 x2 x3 x4 x5 x6 q0 q1 q2 q3 q4 q5 q6 HB0 HB2 HB; obtain ⟨x0, x1, x2, x3, x4, x5, x6⟩ := (unhide HB0').all; obtain ⟨q0, q1, q2, q3, q4, q5, q6⟩ := (unhide HB2').all) | (go_at_call 56; refine (foldingBy_any op ga gb _ ((unhide HG).below (unhide HC) |>.alloc _) (unhide HOP)).mono ?_; rintro e w3 ⟨v, rfl, hv, hb3⟩; have hs23 : w2.heap.size + 1 ≤ w3.heap.size := (by have := hb3.size; simpa using this); have hK3 : Below w2.heap.size w2 w3 := ((Below.refl _ _).alloc (Nat.le_refl _) _).trans (hb3.mono (by simp)); have AX : Hid (ABox w3 w2.heap.size B L A (.slice oa ol oc)) := ABox.below (by exact heap_alloc_last w2 _) (Nat.le_refl _) hb3; have HV := hide hv; have HB0t := hide ((unhide HB0').below (Nat.le_refl _) hK3); have HB2t := hide ((unhide HB2').below (Nat.le_refl _) hK3); have HE := hide ((unhide HC).trans (hK3.mono (by omega))); have HOt := hide ((unhide HO).below (Nat.le_refl _) hK3); clear hb3 hK3 x0 x1 x2 x3 x4 x5 x6 q0 q1 q2 q3 q4 q5 q6 HB0' HB2'; obtain ⟨x0, x1, x2, x3, x4, x5, x6⟩ := (unhide HB0t).all; obtain ⟨q0, q1, q2, q3, q4, q5, q6⟩ := (unhide HB2t).all; obtain ⟨z0, z1, z2, z3⟩ := (unhide AX).cells; have zl := (unhide AX).lt; obtain ⟨g, lb, rfl, eg, _⟩ := hv) | (go_at_call 32; have hW4 : Below w.heap.size w (w3.alloc (.cells #[.func (.func g) #[] lb] 75)) := (unhide HE).alloc (by omega) _; refine (Clone_any a1 n1 c1 sh _ ((unhide H1).below (Nat.le_refl _) hW4)).mono ?_; rintro e w4 ⟨ash, csh, rfl, hcsh, hOS, hb4⟩; have hs34 : w3.heap.size + 1 ≤ w4.heap.size := (by have := hb4.size; simpa using this); have hK4 : Below w3.heap.size w3 w4 := ((Below.refl _ _).alloc (Nat.le_refl _) _).trans (hb4.mono (by simp)); have hc9 : w4.cell? ⟨w3.heap.size, 0, none⟩ = some (.func (.func g) #[] lb) := (hb4.cell (p := ⟨w3.heap.size, 0, none⟩) (by simp)).trans (cell_of_row _ _ 0 _ _ (0, 0) (heap_alloc_last w3 _)); have HC9 := hide hc9; have HOS : Hid (Own w4 (w3.heap.size + 1) ash n1 sh) := hOS.mono (by simp); have AX4 := hide ((unhide AX).below (Nat.le_refl _) hK4); have HV4 := hide ((unhide HV).below hK4); have HB04 := hide ((unhide HB0t).below (Nat.le_refl _) hK4); have HB24 := hide ((unhide HB2t).below (Nat.le_refl _) hK4); have HE4 := hide ((unhide HE).trans (hK4.mono (by omega))); clear hb4 hOS hK4 hc9 hW4 x0 x1 x2 x3 x4 x5 x6 q0 q1 q2 q3 q4 q5 z0 z1 z2 z3; obtain ⟨x0, x1, x2, x3, x4, x5, x6⟩ := (unhide HB04).all; obtain ⟨q0, q1, q2, q3, q4, q5, q7⟩ := (unhide HB24).all) | (go_at_call 31; refine (reckoned_any ga gb 57 _ (enters_of Tryd.func57 (by kernel_rfl) rfl) (scanAt op dt L A) n2 _ _ _ sh _ (unhide HOS).row (unhide HS).1 (unhide HS).2 ((unhide HG).below (unhide HE4)).gl (fun k _ => foldR_codeIn _ _) (unhide HELL _ _ _ _ _ _ _ _ (unhide HV4) (unhide HC9) (unhide AX4) (unhide HB04) ((unhide H2).below (Nat.le_refl _) (unhide HE4)))).mono ?_; rintro e w5 ⟨hr, hb5⟩; obtain ⟨hne, _⟩ | ⟨_, he⟩ := hr; exact absurd hne (by rw [← unhide HFC]; exact unhide HC0); rw [← unhide HFC] at he; subst he; have HKD := hide hb5; obtain ⟨r0, r1, r2, r3, r4, r5, r6⟩ := ((unhide HB24).below (Nat.le_refl _) hb5).all; clear hb5))
  refine bodyPost_ret (v := .tuple #[.agg #[.bool false, .slice none 0 0, .slice none 0 0], .int .i64 ccc]) (by simp [results, Tryd.results20, go_sem, r0, r1, r2]) rfl ?_
  have hga : gatherAns false sh (scanAt op dt L A) n2 = noAns ccc := by unfold gatherAns; rw [← unhide HFC, if_neg (unhide HC0)]
  rw [hga]
  exact gives_none (((((unhide HE4).trans ((unhide HKD).mono (by omega))).setCell (by simp) _).setCell (by simp) _).setCell (by simp) _)

end Go.Proofs.YtabjnlhhefkekaaDoor
namespace Go.Proofs.YtabjnlhhefkekaaDoor
open Go.RowKit Go.Shelf

theorem scan_strip {dt : List Int} {L A k : Nat} (hL : 0 < L) : (lineOf dt (k / A / L) L A (k % A)).take (k / A % L + 1) = stripOf dt (k - k / A % L * A) A (k / A % L + 1) := by
  have hr : k / A % L < L := Nat.mod_lt _ hL
  apply List.ext_getElem
  · simp [lineOf, stripOf]; omega
  · intro i hi hi'
    simp only [List.length_take, line_len] at hi
    have hiL : i < k / A % L + 1 := by omega
    simp only [List.getElem_take, lineOf, stripOf, List.getElem_map, List.getElem_range]
    congr 1
    have e1 : k / A = k / A / L * L + k / A % L := by rw [Nat.mul_comm]; exact (Nat.div_add_mod (k / A) L).symm
    have e2 : k = k / A * A + k % A := by rw [Nat.mul_comm]; exact (Nat.div_add_mod k A).symm
    have e3 : k / A * A = k / A / L * L * A + k / A % L * A := by rw [← Nat.add_mul, ← e1]
    rw [Nat.add_mul]
    omega

theorem scan_one_eq {c : Bool} {op : Int} {sh dt : List Int} {B L A : Nat} (hL : L ≤ 1) (hp : B * L * A = dt.length) : gatherAns c sh (fun k => foldR op ((lineOf dt (k / A / L) L A (k % A)).take (k / A % L + 1))) (B * L * A) = ⟨c, sh, dt, 0⟩ := by
  have hf : ∀ k, k < B * L * A → foldR op ((lineOf dt (k / A / L) L A (k % A)).take (k / A % L + 1)) = (dt.getD k 0, 0) := by
    intro k hk
    have hL1 : L = 1 := by
      rcases Nat.eq_zero_or_pos L with h | h
      · subst h; simp at hk
      · omega
    subst hL1
    have e : lineOf dt (k / A / 1) 1 A (k % A) = [dt.getD k 0] := by
      have : (k / A * 1 + 0) * A + k % A = k := by rw [Nat.mul_one, Nat.add_zero, Nat.mul_comm]; exact Nat.div_add_mod k A
      simp only [Nat.div_one, lineOf, List.range_one, List.map_cons, List.map_nil, this]
    rw [e, Nat.mod_one]; rfl
  have hz : firstCode (fun k => foldR op ((lineOf dt (k / A / L) L A (k % A)).take (k / A % L + 1))) (B * L * A) = 0 := firstCode_zero.mpr fun k hk => by rw [hf k hk]
  rw [gather_good hz]
  have hv : vals (fun k => foldR op ((lineOf dt (k / A / L) L A (k % A)).take (k / A % L + 1))) (B * L * A) = dt := by
    rw [hp]
    apply List.ext_getElem (by simp [vals])
    intro i hi hi'
    have := hf i (by rw [hp]; exact hi')
    simp only [vals, List.getElem_map, List.getElem_range]
    rw [this]
    simp [hi']
  rw [hv]

theorem code_same {f g : Nat → Int × Int} {n : Nat} (h : ∀ k, k < n → f k = g k) : firstCode f n = firstCode g n := by
  induction n with
  | zero => rfl
  | succ n ih => simp only [firstCode, ih (fun k hk => h k (by omega)), h n (by omega)]

theorem vals_same {f g : Nat → Int × Int} {n : Nat} (h : ∀ k, k < n → f k = g k) : vals f n = vals g n := by
  unfold vals
  apply List.map_congr_left
  intro k hk
  rw [h k (List.mem_range.mp hk)]

theorem implScan_any (op : Int) (c : Bool) (a1 a2 : Addr) (n1 n2 c1 c2 : Nat) (sh dt : List Int) (fl : Bool) (w : World) (h1 : Row w (some a1) n1 sh) (h2 : Row w (some a2) n2 dt) (hc1 : n1 ≤ c1) (ga gb : Addr) (hG : GlF w ga gb) :
    Calls Tryd.prog 20 #[.int .i64 op, .agg #[.bool c, .slice (some a1) n1 c1, .slice (some a2) n2 c2], .bool fl] w (GivesOwn w (scan op c sh dt fl)) := by
  cases hop : opIn op with
  | false =>
    have e : scan op c sh dt fl = noAns 3 := by unfold scan; rw [if_neg (by rw [hop]; simp)]
    rw [e]
    exact implScan_bad1 op c fl a1 a2 n1 n2 c1 c2 w hop
  | true =>
    cases hok : arrOk c sh dt with
    | false =>
      have e : scan op c sh dt fl = noAns 3 := by unfold scan; rw [if_neg (by rw [hok]; simp)]
      rw [e]
      exact implScan_bad2 op c fl a1 a2 n1 n2 c1 c2 sh dt w h1 h2 hop hok
    | true =>
      have l1 := h1.len
      have l2 := h2.len
      by_cases hne : sh = []
      · have e : scan op c sh dt fl = ⟨c, sh, dt, 0⟩ := by unfold scan; rw [if_pos ⟨hok, hop⟩, if_pos hne, hne]
        rw [e]
        have hn0 : n1 = 0 := by rw [← l1, hne]; rfl
        subst hn0
        exact implScan_one op c fl a1 a2 0 n2 c1 c2 sh dt w h1 h2 hop hok 1 1 1 [] (fun W _ => axisOf_zero fl a1 c1 W) (Nat.le_refl _)
      · obtain ⟨B, L, A, hx, hp, _, hL, hA⟩ := axis_is fl hok hne
        obtain ⟨hin, _, h5⟩ := shapeIn_of hok
        obtain ⟨m, rfl⟩ : ∃ m, n1 = m + 1 := ⟨n1 - 1, by have := List.length_pos_iff.mpr hne; omega⟩
        have hax : ∀ W, Below w.heap.size w W → Calls Tryd.prog 55 #[.slice (some a1) (m + 1) c1, .bool fl] W (AxisOk W B L A (without sh fl)) := fun W hW => axisOf_any fl a1 m c1 B L A sh W (h1.below (Nat.le_refl _) hW) hc1 hin (by omega) hx
        by_cases hcn : c = true ∧ 1 < axisN sh fl
        · have e : scan op c sh dt fl = noAns 3 := by unfold scan; rw [if_pos ⟨hok, hop⟩, if_neg hne, if_pos hcn]
          rw [e]
          exact implScan_bad3 op c fl a1 a2 (m + 1) n2 c1 c2 sh dt w h1 h2 hop hok B L A _ hax hcn.1 (by have := hcn.2; rw [hx.l] at this; omega)
        · have e : scan op c sh dt fl = gatherAns c sh (fun k => foldR op ((lineOf dt (k / A / L) L A (k % A)).take (k / A % L + 1))) (B * L * A) := by
            unfold scan
            rw [if_pos ⟨hok, hop⟩, if_neg hne, if_neg hcn, hx.b, hx.l, hx.a]
            simp only [Int.toNat_natCast]
          rw [e]
          by_cases hL1 : L ≤ 1
          · rw [scan_one_eq hL1 hp]
            exact implScan_one op c fl a1 a2 (m + 1) n2 c1 c2 sh dt w h1 h2 hop hok B L A _ hax hL1
          · have hcf : c = false := by
              cases c
              · rfl
              · exact absurd ⟨rfl, by rw [hx.l]; omega⟩ hcn
            have ef : ∀ k, k < B * L * A → (fun k => foldR op ((lineOf dt (k / A / L) L A (k % A)).take (k / A % L + 1))) k = scanAt op dt L A k := by
              intro k _
              show foldR op ((lineOf dt (k / A / L) L A (k % A)).take (k / A % L + 1)) = _
              rw [scan_strip (by omega)]; rfl
            have eg : gatherAns c sh (fun k => foldR op ((lineOf dt (k / A / L) L A (k % A)).take (k / A % L + 1))) (B * L * A) = gatherAns c sh (scanAt op dt L A) n2 := by
              have e1 : firstCode (fun k => foldR op ((lineOf dt (k / A / L) L A (k % A)).take (k / A % L + 1))) (B * L * A) = firstCode (scanAt op dt L A) (B * L * A) := code_same ef
              have e2 : vals (fun k => foldR op ((lineOf dt (k / A / L) L A (k % A)).take (k / A % L + 1))) (B * L * A) = vals (scanAt op dt L A) (B * L * A) := vals_same ef
              unfold gatherAns
              rw [e1, e2, hp, l2]
            rw [eg]
            subst hcf
            by_cases hfc : firstCode (scanAt op dt L A) n2 = 0
            · exact implScan_good0 op false fl a1 a2 (m + 1) n2 c1 c2 sh dt w h1 h2 ga gb hG hop hok B L A _ hax rfl (by omega) hL hA (by rw [hp, l2]) hfc
            · exact implScan_good1 op false fl a1 a2 (m + 1) n2 c1 c2 sh dt w h1 h2 ga gb hG hop hok B L A _ hax rfl (by omega) hL hA (by rw [hp, l2]) _ rfl hfc

end Go.Proofs.YtabjnlhhefkekaaDoor
