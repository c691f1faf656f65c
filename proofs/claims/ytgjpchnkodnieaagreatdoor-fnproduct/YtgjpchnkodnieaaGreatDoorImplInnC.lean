import Derived.Test.YtgjpchnkodnieaaGreatDoorImplSpread
import Derived.Test.YtgjpchnkodnieaaGreatDoorImplPair
import Derived.Test.YtgjpchnkodnieaaGreatDoorImplFoldB
import Derived.Test.YtgjpchnkodnieaaGreatDoorImplReck
import Derived.Deep.RegionHeld
namespace Go.Proofs.YtgjpchnkodnieaaGreatDoor
open Go.RowKit Go.Shelf

theorem elemFn_codeI (op : Int) (c d : Bool) (x y : Int) : codeIn (elemFn op c d x y).2 := by
  unfold elemFn
  split
  · exact .inl rfl
  · exact two_codeIn op x y

/-- What the developers' closure reckons with before it folds. -/
def innS (g : Int) (c d : Bool) (x y : List Int) (s1 t1 s2 t2 i : Nat) : Int × Int := elemFn g c d (x.getD (s1 + i * t1) 0) (y.getD (s2 + i * t2) 0)

theorem innS_bd (g : Int) (c d : Bool) (x y : List Int) (s1 t1 s2 t2 k : Nat) : -1000000000000000 ≤ (innS g c d x y s1 t1 s2 t2 k).1 ∧ (innS g c d x y s1 t1 s2 t2 k).1 ≤ 1000000000000000 := by
  unfold innS elemFn
  split
  · unfold truth; split <;> omega
  · exact two_bd _ _ _

theorem strip_vals (p : Nat → Int × Int) (n : Nat) : stripOf (vals p n) 0 1 n = vals p n := by
  unfold stripOf
  apply List.ext_getElem
  · simp [vals]
  · intro i h1 h2
    have hi : i < n := by simpa [vals] using h2
    simp [vals, hi]

theorem innEl_clo {f g : Int} {c d : Bool} {x y : List Int} {L A k : Nat} (hA : 0 < A) (hno : innBad g c d = false) : innEl f g c d x y L A k = if firstCode (innS g c d x y (k / A / 1 * L * 1 + k / A % 1) 1 (k % A / A * L * A + k % A % A) A) L = 0 then foldR f (vals (innS g c d x y (k / A / 1 * L * 1 + k / A % 1) 1 (k % A / A * L * A + k % A % A) A) L) else (0, firstCode (innS g c d x y (k / A / 1 * L * 1 + k / A % 1) 1 (k % A / A * L * A + k % A % A) A) L) := by
  have h : ∀ i, i < L → innPair g c d x y L A k i = innS g c d x y (k / A / 1 * L * 1 + k / A % 1) 1 (k % A / A * L * A + k % A % A) A i := by
    intro i hi
    have hm : k % A < A := Nat.mod_lt _ hA
    show elemFn g c d ((lineOf x (k / A) L 1 0).getD i 0) ((lineOf y 0 L A (k % A)).getD i 0) = _
    rw [line_get _ _ _ _ _ _ hi, line_get _ _ _ _ _ _ hi]
    unfold innS
    rw [Nat.div_eq_of_lt hm, Nat.mod_eq_of_lt hm, Nat.div_one, Nat.mod_one]
    simp only [Nat.mul_one, Nat.add_zero, Nat.zero_mul, Nat.zero_add]
    rw [Nat.add_comm (i * A)]
  unfold innEl
  rw [if_neg (by simp [hno]), firstCode_congr h, vals_congr h]

theorem code_in_of {p : Nat → Int × Int} {n : Nat} (h : ∀ k, k < n → codeIn (p k).2) : codeIn (firstCode p n) := by
  induction n with
  | zero => exact .inl rfl
  | succ n ih =>
    simp only [firstCode]
    split
    · exact h n (by omega)
    · exact ih fun k hk => h k (by omega)

/-- An empty strip's box. -/
def SB0 (w : World) (p : Nat) : Prop := w.heap[p]? = some (.cells #[.slice none 0 0, .int .i64 0, .int .i64 0, .int .i64 0] 145 (0, 0))
theorem SB0.new (w : World) : SB0 (w.alloc (.cells #[.slice none 0 0, .int .i64 0, .int .i64 0, .int .i64 0] 145)) w.heap.size := heap_alloc_last w _
theorem SB0.lt {w : World} {p : Nat} (h : SB0 w p) : p < w.heap.size := lt_of_block h
theorem SB0.drew {w : World} {p : Nat} (h : SB0 w p) : SB0 w.drew p := h
theorem SB0.below {w w' : World} {p B : Nat} (h : SB0 w p) (hB : w.heap.size ≤ B) (hb : Below B w w') : SB0 w' p := (hb.block p (Nat.lt_of_lt_of_le h.lt hB)).trans h
theorem SB0.all {w : World} {p : Nat} (h : SB0 w p) : w.cell? ⟨p, 0, none⟩ = some (.slice none 0 0) ∧ w.cell? ⟨p, 1, none⟩ = some (.int .i64 0) ∧ w.cell? ⟨p, 2, none⟩ = some (.int .i64 0) ∧ w.cell? ⟨p, 3, none⟩ = some (.int .i64 0) ∧ w.frozen? ⟨p, 0, none⟩ = false ∧ w.frozen? ⟨p, 1, none⟩ = false ∧ w.frozen? ⟨p, 2, none⟩ = false ∧ w.frozen? ⟨p, 3, none⟩ = false ∧ p < w.heap.size :=
  ⟨cell_of_row _ _ 0 _ _ _ h, cell_of_row _ _ 1 _ _ _ h, cell_of_row _ _ 2 _ _ _ h, cell_of_row _ _ 3 _ _ _ h, frozen_of_row _ _ 0 _ _ h, frozen_of_row _ _ 1 _ _ h, frozen_of_row _ _ 2 _ _ h, frozen_of_row _ _ 3 _ _ h, h.lt⟩

theorem sb_cz {W wA : World} {a : Option Addr} {n c s t L : Nat} (hK : Below W.heap.size W wA) : ∃ p, (Value.pointer (some ⟨wA.heap.size, 0, none⟩)) = .pointer (some ⟨p, 0, none⟩) ∧ SBox (wA.alloc (.cells #[.slice a n c, .int .i64 (s : Nat), .int .i64 (t : Nat), .int .i64 (L : Nat)] 145)) p a n c s t L ∧ Below W.heap.size W (wA.alloc (.cells #[.slice a n c, .int .i64 (s : Nat), .int .i64 (t : Nat), .int .i64 (L : Nat)] 145)) :=
  ⟨_, rfl, SBox.new _ _ _ _ _ _ _, hK.alloc hK.size _⟩

theorem sb_zc {W wA : World} {a : Option Addr} {n c s t L p : Nat} (hK : Below W.heap.size W wA) (hP : SB0 wA p) (hp : W.heap.size ≤ p) : ∃ q, (Value.pointer (some ⟨p, 0, none⟩)) = .pointer (some ⟨q, 0, none⟩) ∧ SBox ((((wA.setCell ⟨p, 0, none⟩ (.slice a n c)).setCell ⟨p, 1, none⟩ (.int .i64 (s : Nat))).setCell ⟨p, 2, none⟩ (.int .i64 (t : Nat))).setCell ⟨p, 3, none⟩ (.int .i64 (L : Nat))) q a n c s t L ∧ Below W.heap.size W ((((wA.setCell ⟨p, 0, none⟩ (.slice a n c)).setCell ⟨p, 1, none⟩ (.int .i64 (s : Nat))).setCell ⟨p, 2, none⟩ (.int .i64 (t : Nat))).setCell ⟨p, 3, none⟩ (.int .i64 (L : Nat))) := by
  refine ⟨p, rfl, ?_, (((hK.setCell hp _).setCell hp _).setCell hp _).setCell hp _⟩
  have h1 := heap_setCell_same wA p 0 _ _ (.slice a n c) hP
  have h2 := heap_setCell_same _ p 1 _ _ (.int .i64 (s : Nat)) h1
  have h3 := heap_setCell_same _ p 2 _ _ (.int .i64 (t : Nat)) h2
  have h4 := heap_setCell_same _ p 3 _ _ (.int .i64 (L : Nat)) h3
  exact h4

theorem eg_inn : ∀ args w, (callFunc 119 args).run Tryz.prog w = .ok (.enter 119 args) w := enters_of Tryz.func119 (by kernel_rfl) rfl

set_option maxRecDepth 20000 in
set_option maxHeartbeats 8000000 in
theorem innClo (f g : Int) (c d : Bool) (ga gb a2 b2 : Addr) (vo vf v1 u1 : Value) (oa oa' : Option Addr) (pr pa pc pb po pf B L u Bc A n2 c2 m2 d2 k ol oc ol' oc' : Nat) (x y : List Int) (W : World)
    (hv : OpIs ga gb (elemFn g c d) vo W) (hf : FoldIs ga gb f vf W) (hr : ABox W pr B L u (.slice oa ol oc)) (hcx : ABox W pc Bc L A (.slice oa' ol' oc')) (hA : Box W pa c v1 (.slice (some a2) n2 c2)) (hB : Box W pb d u1 (.slice (some b2) m2 d2)) (ho : W.cell? ⟨po, 0, none⟩ = some vo) (hfc : W.cell? ⟨pf, 0, none⟩ = some vf)
    (hx : Row W (some a2) n2 x) (hy : Row W (some b2) m2 y) (hu : u = 1) (hall1 : B * L * 1 = n2) (hall2 : 1 * L * A = m2) (hk : k < B * A) (hBb : B ≤ 10000) (hLb : L ≤ 10000) (hAb : A ≤ 10000) (hxb : ∀ k, k < n2 → -1000000000000000 ≤ x.getD k 0 ∧ x.getD k 0 ≤ 1000000000000000) (hyb : ∀ k, k < m2 → -1000000000000000 ≤ y.getD k 0 ∧ y.getD k 0 ≤ 1000000000000000) (hno : innBad g c d = false) :
    Calls Tryz.prog 119 #[.int .i64 (k : Nat), .pointer (some ⟨pr, 0, none⟩), .pointer (some ⟨pa, 0, none⟩), .pointer (some ⟨pc, 0, none⟩), .pointer (some ⟨pb, 0, none⟩), .pointer (some ⟨po, 0, none⟩), .pointer (some ⟨pf, 0, none⟩)] W fun e w' => e = .returned (.tuple #[.int .i64 (innEl f g c d x y L A k).1, errV ga gb (innEl f g c d x y L A k).2]) ∧ Below W.heap.size W w' := by
  have hA0 : 0 < A := by
    rcases Nat.eq_zero_or_pos A with h | h
    · subst h; simp at hk
    · exact h
  have hq : k / A < B := (Nat.div_lt_iff_lt_mul hA0).mpr hk
  have hrm : k % A < A := Nat.mod_lt _ hA0
  rw [innEl_clo hA0 hno]
  have hq' : (k : Int).tdiv (A : Int) = ((k / A : Nat) : Int) := by rw [Int.tdiv_eq_ediv_of_nonneg (by omega)]; simp
  have hr' : (k : Int).tmod (A : Int) = ((k % A : Nat) : Int) := by rw [Int.tmod_eq_emod_of_nonneg (by omega)]; simp
  have HIN1 : Hid (∀ i, i < L → k / A / 1 * L * 1 + k / A % 1 + i * 1 < n2) := fun i hi => by
    have := line_in hall1 hq (by omega : 0 < 1) hi
    rw [Nat.div_one, Nat.mod_one]; omega
  have HIN2 : Hid (∀ i, i < L → k % A / A * L * A + k % A % A + i * A < m2) := fun i hi => by
    have := line_in hall2 (by omega : 0 < 1) hrm hi
    rw [Nat.div_eq_of_lt hrm, Nat.mod_eq_of_lt hrm]
    simp only [Nat.zero_mul, Nat.zero_add] at this ⊢
    omega
  have HS1 : Hid (∀ wx, Calls Tryz.prog 120 #[.agg #[.int .i64 (B : Nat), .int .i64 (L : Nat), .int .i64 (u : Nat), .slice oa ol oc], .slice (some a2) n2 c2, .int .i64 ((k / A : Nat) : Int)] wx fun e w' => e = .returned (.agg #[.slice (some a2) n2 c2, .int .i64 ((k / A / u * L * u + k / A % u : Nat) : Int), .int .i64 (u : Nat), .int .i64 (L : Nat)]) ∧ Below wx.heap.size wx w') := fun wx => stripAt_any B L u (k / A) n2 c2 oc ol oa a2 wx (by omega) (by omega) (by omega) (by omega)
  have HS2 : Hid (∀ wx, Calls Tryz.prog 120 #[.agg #[.int .i64 (Bc : Nat), .int .i64 (L : Nat), .int .i64 (A : Nat), .slice oa' ol' oc'], .slice (some b2) m2 d2, .int .i64 ((k % A : Nat) : Int)] wx fun e w' => e = .returned (.agg #[.slice (some b2) m2 d2, .int .i64 ((k % A / A * L * A + k % A % A : Nat) : Int), .int .i64 (A : Nat), .int .i64 (L : Nat)]) ∧ Below wx.heap.size wx w') := fun wx => stripAt_any Bc L A (k % A) m2 d2 oc' ol' oa' b2 wx hA0 (by omega) (by omega) (by omega)
  rw [← hu] at HIN1 ⊢
  generalize k / A / u * L * u + k / A % u = s1 at *
  generalize k % A / A * L * A + k % A % A = s2 at *
  generalize k / A = q at *
  generalize k % A = r at *
  obtain ⟨x0, x1, x2, x3⟩ := hr.cells
  obtain ⟨y0, y1, y2, y3⟩ := hcx.cells
  have z2 := hA.cells.2.2
  have q2 := hB.cells.2.2
  have HX := hide hx
  have HY := hide hy
  have HXB := hide hxb
  have HYB := hide hyb
  have HV := hide hv
  have HF := hide hf
  clear hall1 hall2 hk hx hy hxb hyb hr hcx hA hB hu hv hf
  have hAz : ¬ ((A : Int) = 0) := by omega
  obtain ⟨P, hP⟩ : ∃ P, P = innS g c d x y s1 u s2 A := ⟨_, rfl⟩
  rw [← hP]
  obtain ⟨res, hres⟩ : ∃ res, (if firstCode P L = 0 then foldR f (vals P L) else (0, firstCode P L)) = res := ⟨_, rfl⟩
  rw [hres]
  obtain ⟨r1, r2⟩ := res
  dsimp only
  obtain ⟨ev, hev⟩ : ∃ ev, ev = errV ga gb r2 := ⟨_, rfl⟩
  rw [← hev]
  have HRES := hide hres
  have HEV := hide hev
  have HPP := hide hP
  clear hres hev hP
  go_enter Tryz.func119, Tryz.ntmps119
  go_upto_region 1 with fail
  go_cut [10] (fun r wx => ∃ p, r = .pointer (some ⟨p, 0, none⟩) ∧ SBox wx p (some a2) n2 c2 s1 u L ∧ Below W.heap.size W wx)
  case first =>
    as_aux_lemma =>
      have HKEEP : ∀ wx, Below W.heap.size W wx → Below W.heap.size W wx ∧ wx.cell? ⟨pr, 0, none⟩ = some (.int .i64 (B : Nat)) ∧ wx.cell? ⟨pr, 1, none⟩ = some (.int .i64 (L : Nat)) ∧ wx.cell? ⟨pr, 2, none⟩ = some (.int .i64 (u : Nat)) ∧ wx.cell? ⟨pr, 3, none⟩ = some (.slice oa ol oc) ∧ wx.cell? ⟨pc, 0, none⟩ = some (.int .i64 (Bc : Nat)) ∧ wx.cell? ⟨pc, 1, none⟩ = some (.int .i64 (L : Nat)) ∧ wx.cell? ⟨pc, 2, none⟩ = some (.int .i64 (A : Nat)) ∧ wx.cell? ⟨pc, 3, none⟩ = some (.slice oa' ol' oc') ∧ wx.cell? ⟨pa, 2, none⟩ = some (.slice (some a2) n2 c2) ∧ wx.cell? ⟨pb, 2, none⟩ = some (.slice (some b2) m2 d2) := fun wx hwx => ⟨hwx, (hwx.cell (World.block_lt_of_cell? _ _ x0)).trans x0, (hwx.cell (World.block_lt_of_cell? _ _ x1)).trans x1, (hwx.cell (World.block_lt_of_cell? _ _ x2)).trans x2, (hwx.cell (World.block_lt_of_cell? _ _ x3)).trans x3, (hwx.cell (World.block_lt_of_cell? _ _ y0)).trans y0, (hwx.cell (World.block_lt_of_cell? _ _ y1)).trans y1, (hwx.cell (World.block_lt_of_cell? _ _ y2)).trans y2, (hwx.cell (World.block_lt_of_cell? _ _ y3)).trans y3, (hwx.cell (World.block_lt_of_cell? _ _ z2)).trans z2, (hwx.cell (World.block_lt_of_cell? _ _ q2)).trans q2⟩
      go_region_held (fun wx => Below W.heap.size W wx ∧ wx.cell? ⟨pr, 0, none⟩ = some (.int .i64 (B : Nat)) ∧ wx.cell? ⟨pr, 1, none⟩ = some (.int .i64 (L : Nat)) ∧ wx.cell? ⟨pr, 2, none⟩ = some (.int .i64 (u : Nat)) ∧ wx.cell? ⟨pr, 3, none⟩ = some (.slice oa ol oc) ∧ wx.cell? ⟨pc, 0, none⟩ = some (.int .i64 (Bc : Nat)) ∧ wx.cell? ⟨pc, 1, none⟩ = some (.int .i64 (L : Nat)) ∧ wx.cell? ⟨pc, 2, none⟩ = some (.int .i64 (A : Nat)) ∧ wx.cell? ⟨pc, 3, none⟩ = some (.slice oa' ol' oc') ∧ wx.cell? ⟨pa, 2, none⟩ = some (.slice (some a2) n2 c2) ∧ wx.cell? ⟨pb, 2, none⟩ = some (.slice (some b2) m2 d2)) (first | (refine HKEEP _ ?_; (repeat (first | exact hKA | exact Below.refl _ _ | refine Below.drew ?_ | refine Below.alloc ?_ (by first | exact hKA.size | (simp <;> omega)) _ | refine Below.setCell ?_ (by first | exact hKA.size | (simp <;> omega)) _))))
        (first
        | (go_at_call 120; go_loud (refine ((unhide HS1) _).mono ?_); rintro e wA ⟨rfl, hbA⟩; have hKA : Below W.heap.size W wA := (by refine Below.trans ?_ (hbA.mono (by first | exact Nat.le_refl _ | (simp <;> omega))); (repeat (first | exact Below.refl _ _ | refine Below.drew ?_ | refine Below.alloc ?_ (by first | exact Nat.le_refl _ | (simp <;> omega)) _))); have hsA := hKA.size; (first | (have hP5 := (SB0.new _).drew.below (Nat.le_refl _) hbA; obtain ⟨t0, t1, t2, t3, t4, t5, t6, t7, t8⟩ := hP5.all; (try simp at t0 t1 t2 t3 t4 t5 t6 t7 t8)) | skip)))
      all_goals go_wp2_with fail
      all_goals (go_meet; case rel => first
        | with_reducible exact sb_cz hKA
        | with_reducible exact sb_zc hKA (by simpa using hP5) (by first | exact Nat.le_refl _ | (simp <;> omega)))
  case rest =>
    obtain ⟨W1, hW1⟩ : ∃ x, x = wc := ⟨_, rfl⟩
    subst hW1
    obtain ⟨p1, rfl, hSB1, hb1⟩ := hcut
    have HSB1 := hide hSB1
    have HB1 := hide hb1
    have x0 := (hb1.cell (World.block_lt_of_cell? _ _ x0)).trans x0
    have x1 := (hb1.cell (World.block_lt_of_cell? _ _ x1)).trans x1
    have x2 := (hb1.cell (World.block_lt_of_cell? _ _ x2)).trans x2
    have x3 := (hb1.cell (World.block_lt_of_cell? _ _ x3)).trans x3
    have y0 := (hb1.cell (World.block_lt_of_cell? _ _ y0)).trans y0
    have y1 := (hb1.cell (World.block_lt_of_cell? _ _ y1)).trans y1
    have y2 := (hb1.cell (World.block_lt_of_cell? _ _ y2)).trans y2
    have y3 := (hb1.cell (World.block_lt_of_cell? _ _ y3)).trans y3
    have z2 := (hb1.cell (World.block_lt_of_cell? _ _ z2)).trans z2
    have q2 := (hb1.cell (World.block_lt_of_cell? _ _ q2)).trans q2
    have ho := (hb1.cell (World.block_lt_of_cell? _ _ ho)).trans ho
    have hfc := (hb1.cell (World.block_lt_of_cell? _ _ hfc)).trans hfc
    clear hSB1 hb1
    go_upto_region 2 with fail
    go_cut [11] (fun r wx => ∃ p, r = .pointer (some ⟨p, 0, none⟩) ∧ SBox wx p (some b2) m2 d2 s2 A L ∧ Below W1.heap.size W1 wx)
    case first =>
      as_aux_lemma =>
        have HKEEP : ∀ wx, Below W1.heap.size W1 wx → Below W1.heap.size W1 wx ∧ wx.cell? ⟨pr, 0, none⟩ = some (.int .i64 (B : Nat)) ∧ wx.cell? ⟨pr, 1, none⟩ = some (.int .i64 (L : Nat)) ∧ wx.cell? ⟨pr, 2, none⟩ = some (.int .i64 (u : Nat)) ∧ wx.cell? ⟨pr, 3, none⟩ = some (.slice oa ol oc) ∧ wx.cell? ⟨pc, 0, none⟩ = some (.int .i64 (Bc : Nat)) ∧ wx.cell? ⟨pc, 1, none⟩ = some (.int .i64 (L : Nat)) ∧ wx.cell? ⟨pc, 2, none⟩ = some (.int .i64 (A : Nat)) ∧ wx.cell? ⟨pc, 3, none⟩ = some (.slice oa' ol' oc') ∧ wx.cell? ⟨pa, 2, none⟩ = some (.slice (some a2) n2 c2) ∧ wx.cell? ⟨pb, 2, none⟩ = some (.slice (some b2) m2 d2) := fun wx hwx => ⟨hwx, (hwx.cell (World.block_lt_of_cell? _ _ x0)).trans x0, (hwx.cell (World.block_lt_of_cell? _ _ x1)).trans x1, (hwx.cell (World.block_lt_of_cell? _ _ x2)).trans x2, (hwx.cell (World.block_lt_of_cell? _ _ x3)).trans x3, (hwx.cell (World.block_lt_of_cell? _ _ y0)).trans y0, (hwx.cell (World.block_lt_of_cell? _ _ y1)).trans y1, (hwx.cell (World.block_lt_of_cell? _ _ y2)).trans y2, (hwx.cell (World.block_lt_of_cell? _ _ y3)).trans y3, (hwx.cell (World.block_lt_of_cell? _ _ z2)).trans z2, (hwx.cell (World.block_lt_of_cell? _ _ q2)).trans q2⟩
        go_region_held (fun wx => Below W1.heap.size W1 wx ∧ wx.cell? ⟨pr, 0, none⟩ = some (.int .i64 (B : Nat)) ∧ wx.cell? ⟨pr, 1, none⟩ = some (.int .i64 (L : Nat)) ∧ wx.cell? ⟨pr, 2, none⟩ = some (.int .i64 (u : Nat)) ∧ wx.cell? ⟨pr, 3, none⟩ = some (.slice oa ol oc) ∧ wx.cell? ⟨pc, 0, none⟩ = some (.int .i64 (Bc : Nat)) ∧ wx.cell? ⟨pc, 1, none⟩ = some (.int .i64 (L : Nat)) ∧ wx.cell? ⟨pc, 2, none⟩ = some (.int .i64 (A : Nat)) ∧ wx.cell? ⟨pc, 3, none⟩ = some (.slice oa' ol' oc') ∧ wx.cell? ⟨pa, 2, none⟩ = some (.slice (some a2) n2 c2) ∧ wx.cell? ⟨pb, 2, none⟩ = some (.slice (some b2) m2 d2)) (first | (refine HKEEP _ ?_; (repeat (first | exact hKA | exact Below.refl _ _ | refine Below.drew ?_ | refine Below.alloc ?_ (by first | exact hKA.size | (simp <;> omega)) _ | refine Below.setCell ?_ (by first | exact hKA.size | (simp <;> omega)) _))))
          (first
          | (go_at_call 120; go_loud (refine ((unhide HS2) _).mono ?_); rintro e wA ⟨rfl, hbA⟩; have hKA : Below W1.heap.size W1 wA := (by refine Below.trans ?_ (hbA.mono (by first | exact Nat.le_refl _ | (simp <;> omega))); (repeat (first | exact Below.refl _ _ | refine Below.drew ?_ | refine Below.alloc ?_ (by first | exact Nat.le_refl _ | (simp <;> omega)) _))); have hsA := hKA.size; (first | (have hP5 := (SB0.new _).drew.below (Nat.le_refl _) hbA; obtain ⟨t0, t1, t2, t3, t4, t5, t6, t7, t8⟩ := hP5.all; (try simp at t0 t1 t2 t3 t4 t5 t6 t7 t8)) | skip)))
        all_goals go_wp2_with fail
        all_goals (go_meet; case rel => first
          | with_reducible exact sb_cz hKA
          | with_reducible exact sb_zc hKA (by simpa using hP5) (by first | exact Nat.le_refl _ | (simp <;> omega)))
    case rest =>
      obtain ⟨W2, hW2⟩ : ∃ x, x = wc := ⟨_, rfl⟩
      subst hW2
      obtain ⟨p2, rfl, hSB2, hb2⟩ := hcut
      have HSB2 := hide hSB2
      have HSB1' := hide ((unhide HSB1).below (Nat.le_refl _) hb2)
      have HB2 := hide ((unhide HB1).trans (hb2.mono (unhide HB1).size))
      have ho := (hb2.cell (World.block_lt_of_cell? _ _ ho)).trans ho
      have hfc := (hb2.cell (World.block_lt_of_cell? _ _ hfc)).trans hfc
      clear hSB2 hb2 x0 x1 x2 x3 y0 y1 y2 y3 z2 q2 HSB1 HB1
      have hWs := (unhide HB2).size
      have HV2 := hide ((unhide HV).below (unhide HB2))
      obtain ⟨go, lo, hvo, _, _⟩ := unhide HV
      subst hvo
      obtain ⟨u0, u1, u2, u3⟩ := (unhide HSB1').cells
      obtain ⟨t0, t1, t2, t3⟩ := (unhide HSB2).cells
      have hP := unhide HPP
      have HCO : Hid (∀ k, k < L → codeIn (P k).2) := fun k _ => by rw [hP]; exact elemFn_codeI _ _ _ _ _
      have HPB : Hid (∀ k, -1000000000000000 ≤ (P k).1 ∧ (P k).1 ≤ 1000000000000000) := fun k => by rw [hP]; exact innS_bd _ _ _ _ _ _ _ _ _ _
      have HEL : Hid (∀ p3 p4 p5 wx, Below W2.heap.size W2 wx → SBox wx p3 (some a2) n2 c2 s1 u L → SBox wx p4 (some b2) m2 d2 s2 A L → wx.cell? ⟨p5, 0, none⟩ = some (.func (.func go) #[] lo) → ElemOk ga gb 191 #[.pointer (some ⟨p5, 0, none⟩), .pointer (some ⟨p3, 0, none⟩), .pointer (some ⟨p4, 0, none⟩)] P L wx) := fun p3 p4 p5 wx hwx h3 h4 h5 => by
        rw [hP]
        exact pair_elem (elemFn g c d) ga gb a2 b2 _ p5 p3 p4 n2 c2 s1 u L m2 d2 s2 A L L x y wx ((unhide HV2).below hwx) h5 h3 h4 ((unhide HX).below (Nat.le_refl _) ((unhide HB2).trans (hwx.mono hWs))) ((unhide HY).below (Nat.le_refl _) ((unhide HB2).trans (hwx.mono hWs))) (unhide HIN1) (unhide HIN2) (unhide HXB) (unhide HYB)
      have HKEEP : ∀ wx, Below W2.heap.size W2 wx → Below W2.heap.size W2 wx ∧ wx.cell? ⟨p1, 0, none⟩ = some (.slice (some a2) n2 c2) ∧ wx.cell? ⟨p1, 1, none⟩ = some (.int .i64 (s1 : Nat)) ∧ wx.cell? ⟨p1, 2, none⟩ = some (.int .i64 (u : Nat)) ∧ wx.cell? ⟨p1, 3, none⟩ = some (.int .i64 (L : Nat)) ∧ wx.cell? ⟨p2, 0, none⟩ = some (.slice (some b2) m2 d2) ∧ wx.cell? ⟨p2, 1, none⟩ = some (.int .i64 (s2 : Nat)) ∧ wx.cell? ⟨p2, 2, none⟩ = some (.int .i64 (A : Nat)) ∧ wx.cell? ⟨p2, 3, none⟩ = some (.int .i64 (L : Nat)) ∧ wx.cell? ⟨po, 0, none⟩ = some (.func (.func go) #[] lo) := fun wx hwx => ⟨hwx, (hwx.cell (World.block_lt_of_cell? _ _ u0)).trans u0, (hwx.cell (World.block_lt_of_cell? _ _ u1)).trans u1, (hwx.cell (World.block_lt_of_cell? _ _ u2)).trans u2, (hwx.cell (World.block_lt_of_cell? _ _ u3)).trans u3, (hwx.cell (World.block_lt_of_cell? _ _ t0)).trans t0, (hwx.cell (World.block_lt_of_cell? _ _ t1)).trans t1, (hwx.cell (World.block_lt_of_cell? _ _ t2)).trans t2, (hwx.cell (World.block_lt_of_cell? _ _ t3)).trans t3, (hwx.cell (World.block_lt_of_cell? _ _ ho)).trans ho⟩
      clear hP HIN1 HIN2 HS1 HS2 HX HY HXB HYB HSB1' HSB2
      by_cases h0 : firstCode P L = 0
      · have H0 := hide h0
        have hrr : foldR f (vals P L) = (r1, r2) := by have := unhide HRES; rw [if_pos h0] at this; exact this
        clear h0
        obtain ⟨gF, lF, hvf, egF, hcF⟩ := unhide HF
        subst hvf
        have HFC : Hid (∀ wx p, Below W2.heap.size W2 wx → Blk wx p (vals P L) → Calls Tryz.prog gF (#[.agg #[.slice (some ⟨p, 0, none⟩) L L, .int .i64 0, .int .i64 1, .int .i64 (L : Nat)]] ++ lF) wx fun e w' => e = .returned (.tuple #[.int .i64 r1, ev]) ∧ Below wx.heap.size wx w') := fun wx p hwx hbk => by
          have := hcF wx ⟨p, 0, none⟩ L L 0 1 L (vals P L) ((unhide HB2).trans (hwx.mono hWs)) (by omega) (hbk.row (vals_len _ _) (by omega)) (fun k hk => by omega) (fun k _ => vals_bd (unhide HPB) L k)
          rw [strip_vals, hrr] at this
          dsimp only at this
          rw [← unhide HEV] at this
          exact this
        have hnn := neq_nil_nil
        clear hrr HF hcF HV HV2
        go_upto_region 3 with fail
        go_region_held (fun wx => Below W2.heap.size W2 wx ∧ wx.cell? ⟨p1, 0, none⟩ = some (.slice (some a2) n2 c2) ∧ wx.cell? ⟨p1, 1, none⟩ = some (.int .i64 (s1 : Nat)) ∧ wx.cell? ⟨p1, 2, none⟩ = some (.int .i64 (u : Nat)) ∧ wx.cell? ⟨p1, 3, none⟩ = some (.int .i64 (L : Nat)) ∧ wx.cell? ⟨p2, 0, none⟩ = some (.slice (some b2) m2 d2) ∧ wx.cell? ⟨p2, 1, none⟩ = some (.int .i64 (s2 : Nat)) ∧ wx.cell? ⟨p2, 2, none⟩ = some (.int .i64 (A : Nat)) ∧ wx.cell? ⟨p2, 3, none⟩ = some (.int .i64 (L : Nat)) ∧ wx.cell? ⟨po, 0, none⟩ = some (.func (.func go) #[] lo)) (first | (refine HKEEP _ ?_; first | exact hKB | exact hKA | exact (Below.refl _ _).drew | exact Below.refl _ _))
          (first
          | (go_at_call 122; refine (pairwise_any go lo a2 b2 n2 c2 s1 u L m2 d2 s2 A L _).mono ?_; rintro e w3 ⟨p3, p4, p5, rfl, hs3, hs4, hc5, hb3⟩; have hKA : Below W2.heap.size W2 w3 := (Below.refl _ _).drew.trans (hb3.mono (by simp)); have HE : Hid (ElemOk ga gb 191 #[.pointer (some ⟨p5, 0, none⟩), .pointer (some ⟨p3, 0, none⟩), .pointer (some ⟨p4, 0, none⟩)] P L w3) := unhide HEL p3 p4 p5 w3 hKA hs3 hs4 hc5; clear hs3 hs4 hc5 hb3)
          | (go_at_call 121; refine (listOf_any ga gb 191 _ eg_pair P L _ (by omega) (unhide HCO) (unhide HE)).mono ?_; rintro e w4 ⟨hres, hb4⟩; have hKB : Below W2.heap.size W2 w4 := hKA.trans (hb4.mono hKA.size); obtain ⟨_, rfl, hblk⟩ | ⟨hne, _, _⟩ := hres; rotate_left; exact absurd (unhide H0) hne; have HBK := hide hblk; obtain ⟨pq, hpq⟩ : ∃ pq, pq = w3.heap.size := ⟨_, rfl⟩; rw [← hpq] at HBK; simp only [← hpq]; have hfc := (hKB.cell (World.block_lt_of_cell? _ _ hfc)).trans hfc; clear hblk hpq hb4))
        go_wp2_with (go_at_fn gF; refine (unhide HFC _ _ hKB (unhide HBK)).mono ?_; rintro e w5 ⟨rfl, hb5⟩; have HK5 := hide (hKB.trans (hb5.mono hKB.size)); clear hb5)
        go_ret2
        exact ⟨rfl, (unhide HB2).trans ((unhide HK5).mono hWs)⟩
      · have H0 := hide h0
        have hrr : (0, firstCode P L) = (r1, r2) := by have := unhide HRES; rw [if_neg h0] at this; exact this
        obtain ⟨hr0, hcc⟩ : 0 = r1 ∧ firstCode P L = r2 := by simpa using hrr
        clear hrr h0
        subst hr0
        have HCC := hide hcc
        have hci : codeIn r2 := by
          rw [← hcc]
          exact code_in_of (unhide HCO)
        have hc0 : r2 ≠ 0 := by rw [← hcc]; exact unhide H0
        obtain ⟨pe, hpe⟩ : ∃ pe, errV ga gb r2 = .iface 278 (.pointer (some pe)) := by
          rcases hci with h | rfl | rfl
          · exact absurd h hc0
          · exact ⟨ga, rfl⟩
          · exact ⟨gb, rfl⟩
        have HPE := hide hpe
        clear hcc hci hc0 hpe HF HV HV2 hfc
        go_upto_region 3 with fail
        go_region_held (fun wx => Below W2.heap.size W2 wx ∧ wx.cell? ⟨p1, 0, none⟩ = some (.slice (some a2) n2 c2) ∧ wx.cell? ⟨p1, 1, none⟩ = some (.int .i64 (s1 : Nat)) ∧ wx.cell? ⟨p1, 2, none⟩ = some (.int .i64 (u : Nat)) ∧ wx.cell? ⟨p1, 3, none⟩ = some (.int .i64 (L : Nat)) ∧ wx.cell? ⟨p2, 0, none⟩ = some (.slice (some b2) m2 d2) ∧ wx.cell? ⟨p2, 1, none⟩ = some (.int .i64 (s2 : Nat)) ∧ wx.cell? ⟨p2, 2, none⟩ = some (.int .i64 (A : Nat)) ∧ wx.cell? ⟨p2, 3, none⟩ = some (.int .i64 (L : Nat)) ∧ wx.cell? ⟨po, 0, none⟩ = some (.func (.func go) #[] lo)) (first | (refine HKEEP _ ?_; first | exact hKB | exact hKA | exact (Below.refl _ _).drew | exact Below.refl _ _))
          (first
          | (go_at_call 122; refine (pairwise_any go lo a2 b2 n2 c2 s1 u L m2 d2 s2 A L _).mono ?_; rintro e w3 ⟨p3, p4, p5, rfl, hs3, hs4, hc5, hb3⟩; have hKA : Below W2.heap.size W2 w3 := (Below.refl _ _).drew.trans (hb3.mono (by simp)); have HE : Hid (ElemOk ga gb 191 #[.pointer (some ⟨p5, 0, none⟩), .pointer (some ⟨p3, 0, none⟩), .pointer (some ⟨p4, 0, none⟩)] P L w3) := unhide HEL p3 p4 p5 w3 hKA hs3 hs4 hc5; clear hs3 hs4 hc5 hb3)
          | (go_at_call 121; refine (listOf_any ga gb 191 _ eg_pair P L _ (by omega) (unhide HCO) (unhide HE)).mono ?_; rintro e w4 ⟨hres, hb4⟩; have hKB : Below W2.heap.size W2 w4 := hKA.trans (hb4.mono hKA.size); obtain ⟨h00, _⟩ | ⟨_, _, he⟩ := hres; exact absurd h00 (unhide H0); rw [unhide HCC, unhide HPE] at he; subst he; clear hb4))
        go_wp2
        go_ret2
        exact ⟨by rw [unhide HEV, unhide HPE]; rfl, (unhide HB2).trans (hKB.mono hWs)⟩

end Go.Proofs.YtgjpchnkodnieaaGreatDoor
