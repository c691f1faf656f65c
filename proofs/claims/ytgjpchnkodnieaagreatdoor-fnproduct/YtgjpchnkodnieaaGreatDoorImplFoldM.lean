import Derived.Test.YtgjpchnkodnieaaGreatDoorMFit2
import Derived.Test.YtgjpchnkodnieaaGreatDoorImplStrip
import Derived.Test.YtgjpchnkodnieaaGreatDoorImplAxisP
import Derived.Test.YtgjpchnkodnieaaGreatDoorMFit0
import Derived.Test.YtgjpchnkodnieaaGreatDoorMFit2
namespace Go.Proofs.YtgjpchnkodnieaaGreatDoor
open Go.RowKit Go.Shelf

theorem without_eq (sh : List Int) (n : Nat) (fl : Bool) (hl : sh.length = n + 1) : without sh fl = sh.take (if fl = true then 0 else n) ++ sh.drop ((if fl = true then 0 else n) + 1) := by
  cases fl
  · simp only [without, hl, Nat.add_sub_cancel, Bool.false_eq_true, if_false]
    rw [List.drop_of_length_le (by omega), List.append_nil]
  · simp [without]

theorem at_eq' (sh : List Int) (n : Nat) (fl : Bool) (hl : sh.length = n + 1) : axisAt sh fl = if fl = true then 0 else n := by
  cases fl <;> simp [axisAt, hl]

theorem one_at (sh : List Int) (k : Nat) (h : k < sh.length) : prodAll ((sh.drop k).take 1) = sh.getD k 0 := by
  rw [List.drop_eq_getElem_cons h, List.take_succ_cons, List.take_zero]; simp [prodAll, h]

/-- axisOf of a shape with axes, in the document's words. -/
theorem axisOf_any (fl : Bool) (a : Addr) (n c B L A : Nat) (sh : List Int) (w : World) (h : Row w (some a) (n + 1) sh) (hc : n + 1 ≤ c) (hin : ShapeIn sh) (hl5 : n + 1 ≤ 5) (hx : AxisIs sh fl B L A) :
    Calls Tryz.prog 112 #[.slice (some a) (n + 1) c, .bool fl] w (AxisOk w B L A (without sh fl)) := by
  obtain ⟨b, off, hab, _, _⟩ := h.get (Nat.succ_pos n)
  cases hab
  have hl := h.len
  have hat := at_eq' sh n fl hl
  have h1 := hx.b
  have h2 := hx.l
  have h3 := hx.a
  unfold axisB at h1
  unfold axisN at h2
  unfold axisA at h3
  rw [hat] at h1 h2 h3
  rw [without_eq sh n fl hl]
  refine axisOf_pos fl b off n c (if fl = true then 0 else n) sh B L A w h hc hin hl5 ?_ h1 ?_ h3
  · cases fl
    · exact .inr ⟨rfl, rfl⟩
    · exact .inl ⟨rfl, rfl⟩
  · rw [one_at _ _ (by rw [hl]; split <;> omega)]; exact h2

/-- What Fold reckons at a place. -/
def foldAt (op : Int) (dt : List Int) (L A k : Nat) : Int × Int := foldR op (stripOf dt (k / A * L * A + k % A) A L)
def scanAt (op : Int) (dt : List Int) (L A k : Nat) : Int × Int := foldR op (stripOf dt (k - k / A % L * A) A (k / A % L + 1))

theorem line_strip (dt : List Int) (p n after q : Nat) : lineOf dt p n after q = stripOf dt (p * n * after + q) after n := by
  unfold lineOf stripOf
  apply List.map_congr_left
  intro i _
  congr 1
  rw [Nat.add_mul]; omega

theorem strip_in {B L A L2 k i : Nat} (hL : B * L * A = L2) (hk : k < B * A) (hA : 0 < A) (hi : i < L) : k / A * L * A + k % A + i * A < L2 := by
  have hp : k / A < B := (Nat.div_lt_iff_lt_mul hA).mpr hk
  have hq : k % A < A := Nat.mod_lt _ hA
  have := line_in hL hp hq hi
  rw [Nat.add_mul] at this
  omega

theorem without_in {c : Bool} {sh dt : List Int} (fl : Bool) (hok : arrOk c sh dt = true) (B L A : Nat) (hx : AxisIs sh fl B L A) (hne : sh ≠ []) : shapeB (without sh fl) = true ∧ countOf (without sh fl) = ((B * A : Nat) : Int) := by
  obtain ⟨hin, _, h5⟩ := shapeIn_of hok
  have hl : 0 < sh.length := List.length_pos_iff.mpr hne
  have hw : ShapeIn (without sh fl) := by unfold without; split; exact hin.drop 1; exact hin.take _
  have hl5 : (without sh fl).length ≤ 5 := by unfold without; split <;> simp <;> omega
  obtain ⟨h1, m, h2⟩ := hw
  have hs : shapeB (without sh fl) = true := shape_good rfl hl5 m h1 h2
  refine ⟨hs, ?_⟩
  rw [← prodAll_count _ hs]
  have hb := hx.b
  have ha := hx.a
  unfold axisB axisAt at hb
  unfold axisA axisAt at ha
  unfold without
  cases fl
  · simp only [Bool.false_eq_true, if_false] at hb ha ⊢
    rw [show sh.length - 1 + 1 = sh.length by omega, List.drop_of_length_le (Nat.le_refl _)] at ha
    have e : prodAll [] = 1 := rfl
    rw [e] at ha
    rw [hb]
    have : A = 1 := by omega
    subst this
    simp
  · simp only [if_true, Nat.zero_add, List.take_zero] at hb ha ⊢
    have e : prodAll [] = 1 := rfl
    rw [e] at hb
    rw [ha]
    have : B = 1 := by omega
    subst this
    simp

theorem But.cell {S : Nat → Prop} {w w' : World} (h : But S w w') {k o : Nat} (hk : k < w.heap.size) (hn : ¬ S k) : w'.cell? ⟨k, o, none⟩ = w.cell? ⟨k, o, none⟩ := World.cell?_of_block (w := w) (a := ⟨k, o, none⟩) (h.block k hk hn)

end Go.Proofs.YtgjpchnkodnieaaGreatDoor
