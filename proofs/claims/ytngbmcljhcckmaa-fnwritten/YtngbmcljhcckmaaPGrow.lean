import Derived.Test.YtngbmcljhcckmaaLwArrO
import Derived.Test.YtngbmcljhcckmaaPRows
import Derived.Test.YtngbmcljhcckmaaMBase
namespace Go.Proofs.Ytngbmcljhcckmaa
open Go.RowKit

theorem info_part : (Try.prog.info? 96).map (fun i => (i.zero, i.size, i.bytes)) = some (some (.agg #[.bool false, .bool false, .slice none 0 0, .slice none 0 0]), 4, 64) := by kernel_rfl

/-- The lists of a part, laid from B on and not in g. -/
structure PItem (B : Nat) (w : World) (g : Nat) (s1 : Option Addr) (n1 c1 : Nat) (s2 : Option Addr) (n2 c2 : Nat) (p : PartD) : Prop where
  r1 : Src w s1 n1 c1 p.sh
  r2 : Src w s2 n2 c2 p.dt
  ne1 : ¬ At s1 n1 g
  ne2 : ¬ At s2 n2 g
  low1 : ∀ x, At s1 n1 x → B ≤ x
  low2 : ∀ x, At s2 n2 x → B ≤ x
  m1 : n1 ≤ 20000
  m2 : n2 ≤ 20000
  nn : p.all = false → ∃ ad, s1 = some ad

/-- A list of parts of the call's own that grows. -/
structure PGrow (B : Nat) (w : World) (g cap k : Nat) (xs : List Value) (ps : List PartD) : Prop where
  own : w.ownsRow B 96 4 (.slice (some ⟨g, 0, none⟩) k cap) k xs
  len : ps.length = k
  items : ∀ i, i < k → ∃ s1 n1 c1 s2 n2 c2, xs[i * 4]? = some (.bool (part ps i).all) ∧ xs[i * 4 + 1]? = some (.bool (part ps i).c) ∧ xs[i * 4 + 2]? = some (.slice s1 n1 c1) ∧ xs[i * 4 + 3]? = some (.slice s2 n2 c2) ∧ PItem B w g s1 n1 c1 s2 n2 c2 (part ps i)

section
variable {B : Nat} {w w' : World} {g cap k : Nat} {xs : List Value} {ps : List PartD}

theorem Src.but {S : Nat → Prop} {s : Option Addr} {n c : Nat} {zs : List Int} (h : Src w s n c zs) (hb : But S w w') (hs : ∀ x, S x → ¬ At s n x) : Src w' s n c zs := ⟨hb.row h.1 hs, h.2⟩

theorem PItem.but {S : Nat → Prop} {s1 s2 : Option Addr} {n1 c1 n2 c2 g' : Nat} {p : PartD} (h : PItem B w g s1 n1 c1 s2 n2 c2 p) (hb : But S w w') (hs1 : ∀ x, S x → ¬ At s1 n1 x) (hs2 : ∀ x, S x → ¬ At s2 n2 x) (e1 : ¬ At s1 n1 g') (e2 : ¬ At s2 n2 g') : PItem B w' g' s1 n1 c1 s2 n2 c2 p :=
  ⟨h.r1.but hb hs1, h.r2.but hb hs2, e1, e2, h.low1, h.low2, h.m1, h.m2, h.nn⟩

theorem PGrow.ge (h : PGrow B w g cap k xs ps) : B ≤ g := by
  rcases h.own.2 with ⟨h', _⟩ | ⟨g', cap', cur, h', hb, _⟩
  · simp at h'
  · cases h'; exact hb

theorem PGrow.lt (h : PGrow B w g cap k xs ps) : g < w.heap.size := by
  rcases h.own.2 with ⟨h', _⟩ | ⟨g', cap', cur, h', hb, hg, _⟩
  · simp at h'
  · cases h'; exact lt_of_block hg

theorem PGrow.room (h : PGrow B w g cap k xs ps) : k ≤ cap := by
  rcases h.own.2 with ⟨h', _⟩ | ⟨g', cap', cur, h', hb, hg, hr, _⟩
  · simp at h'
  · cases h'; exact hr

theorem PGrow.but {S : Nat → Prop} (h : PGrow B w g cap k xs ps) (hb : But S w w') (hs : ∀ x, S x → x < B) : PGrow B w' g cap k xs ps := by
  refine ⟨?_, h.len, fun i hi => ?_⟩
  · have hge := h.ge
    obtain ⟨o1, o2⟩ := h.own
    refine ⟨o1, ?_⟩
    rcases o2 with o2 | ⟨g', cap', cur, hv, hg', hh, r⟩
    · exact Or.inl o2
    · exact Or.inr ⟨g', cap', cur, hv, hg', (hb.block g' (lt_of_block hh) (fun e => by have := hs _ e; omega)).trans hh, r⟩
  · obtain ⟨s1, n1, c1, s2, n2, c2, e0, e1, e2, e3, it⟩ := h.items i hi
    exact ⟨s1, n1, c1, s2, n2, c2, e0, e1, e2, e3, it.but hb (fun x hx hh => by have := it.low1 x hh; have := hs x hx; omega) (fun x hx hh => by have := it.low2 x hh; have := hs x hx; omega) it.ne1 it.ne2⟩

theorem PGrow.below (h : PGrow B w g cap k xs ps) (hb : Below w.heap.size w w') : PGrow B w' g cap k xs ps := h.but (S := fun _ => False) (But.of_below hb) (fun _ h => h.elim)

theorem PGrow.start (w : World) (hB : B ≤ w.heap.size) : PGrow B (w.alloc (.cells #[] 96)) w.heap.size 0 0 [] [] := by
  refine ⟨World.ownsRow_lit w #[] 0 hB (by unfold maxLen; omega) rfl, rfl, fun i hi => by omega⟩

theorem PGrow.cell (h : PGrow B w g cap k xs ps) {j : Nat} (hj : j < k * 4) : w.cell? ⟨g, j, none⟩ = xs[j]? := by
  rcases h.own.2 with ⟨h', _⟩ | ⟨g', cap', cur, h', hb, hg, hr, hm, hs, ht⟩
  · simp at h'
  · cases h'
    have h1 : (cur.toList.take (k * 4))[j]? = cur.toList[j]? := by rw [List.getElem?_take, if_pos hj]
    rw [← ht, h1]
    simp [World.cell?, hg]

theorem PGrow.get (h : PGrow B w g cap k xs ps) {i : Nat} (hi : i < k) : ∃ s1 n1 c1 s2 n2 c2, w.cell? ⟨g, i * 4, none⟩ = some (.bool (part ps i).all) ∧ w.cell? ⟨g, i * 4 + 1, none⟩ = some (.bool (part ps i).c) ∧ w.cell? ⟨g, i * 4 + 2, none⟩ = some (.slice s1 n1 c1) ∧ w.cell? ⟨g, i * 4 + 3, none⟩ = some (.slice s2 n2 c2) ∧ PItem B w g s1 n1 c1 s2 n2 c2 (part ps i) := by
  obtain ⟨s1, n1, c1, s2, n2, c2, e0, e1, e2, e3, it⟩ := h.items i hi
  exact ⟨s1, n1, c1, s2, n2, c2, (h.cell (by omega)).trans e0, (h.cell (by omega)).trans e1, (h.cell (by omega)).trans e2, (h.cell (by omega)).trans e3, it⟩

theorem PGrow.rowN (h : PGrow B w g cap k xs ps) (hk : k ≤ 1000) : PRowN w (some ⟨g, 0, none⟩) k ps := by
  refine ⟨⟨h.len, by omega, .inr ⟨g, 0, rfl, h.lt, fun i hi => ?_⟩⟩, fun b off e hlt i hi hall => ?_⟩
  · obtain ⟨s1, n1, c1, s2, n2, c2, e0, e1, e2, e3, it⟩ := h.get hi
    rw [Nat.zero_add]
    exact ⟨s1, n1, c1, s2, n2, c2, e0, e1, e2, e3, it.r1.1, it.r2.1⟩
  · cases e
    obtain ⟨s1, n1, c1, s2, n2, c2, e0, e1, e2, e3, it⟩ := h.get hi
    obtain ⟨ad, rfl⟩ := it.nn hall
    rw [Nat.zero_add]
    exact ⟨ad, n1, c1, e2⟩

theorem part_snoc {p : PartD} {i : Nat} (hi : i < ps.length) : part (ps ++ [p]) i = part ps i := by
  unfold part List.getD; rw [List.getElem?_append_left hi]
theorem part_last {p : PartD} : part (ps ++ [p]) ps.length = p := by
  unfold part; simp [List.getD]

/-- One part more. -/
theorem PGrow.push {w1 : World} {g' cap' n1 c1 n2 c2 : Nat} {s1 s2 : Option Addr} {p : PartD} (o : Obj) (h : PGrow B w g cap k xs ps) (it : PItem B w g s1 n1 c1 s2 n2 c2 p)
    (hown : w1.ownsRow B 96 4 (.slice (some ⟨g', 0, none⟩) (k + 1) cap') (k + 1) (xs ++ [.bool p.all, .bool p.c, .slice s1 n1 c1, .slice s2 n2 c2])) (hg : (w.alloc o).grownBy w1 (some g)) (hat : g' = g ∨ g' = w.heap.size + 1) :
    PGrow B w1 g' cap' (k + 1) (xs ++ [.bool p.all, .bool p.c, .slice s1 n1 c1, .slice s2 n2 c2]) (ps ++ [p]) ∧ But (fun x => x = g) w w1 := by
  have hb : But (fun x => x = g) w w1 :=
    ⟨hg.os, hg.tape, hg.output, by have := hg.size; simp at this; omega, fun x hx hn => (hg.block x (by simp; omega) (fun e => hn (Option.some.inj e))).trans (Below.heap_alloc w o x hx)⟩
  have hl : xs.length = k * 4 := by have := h.own.1; omega
  have hne : ∀ (s : Option Addr) (m : Nat) (c : Nat) (zs : List Int), Src w s m c zs → ¬ At s m g → ¬ At s m g' := fun s m c zs hr hn hh => by
    rcases hat with e | e
    · rw [e] at hh; exact hn hh
    · have := hr.1.hi hh; omega
  have hit : ∀ (t1 : Option Addr) (m1 d1 : Nat) (t2 : Option Addr) (m2 d2 : Nat) (q : PartD), PItem B w g t1 m1 d1 t2 m2 d2 q → PItem B w1 g' t1 m1 d1 t2 m2 d2 q := fun t1 m1 d1 t2 m2 d2 q ih =>
    ih.but hb (fun x hx hh => ih.ne1 (by rw [← hx]; exact hh)) (fun x hx hh => ih.ne2 (by rw [← hx]; exact hh)) (hne _ _ _ _ ih.r1 ih.ne1) (hne _ _ _ _ ih.r2 ih.ne2)
  refine ⟨⟨hown, by simp [h.len], fun i hi => ?_⟩, hb⟩
  by_cases e : i = k
  · subst e
    have hp : part (ps ++ [p]) i = p := by rw [← h.len]; exact part_last
    rw [hp]
    refine ⟨s1, n1, c1, s2, n2, c2, ?_, ?_, ?_, ?_, hit _ _ _ _ _ _ _ it⟩
    all_goals (rw [List.getElem?_append_right (by omega), hl]; simp)
  · obtain ⟨t1, m1, d1, t2, m2, d2, e0, e1, e2, e3, ih⟩ := h.items i (by omega)
    rw [part_snoc (by rw [h.len]; omega)]
    exact ⟨t1, m1, d1, t2, m2, d2, by rw [List.getElem?_append_left (by omega)]; exact e0, by rw [List.getElem?_append_left (by omega)]; exact e1, by rw [List.getElem?_append_left (by omega)]; exact e2, by rw [List.getElem?_append_left (by omega)]; exact e3, hit _ _ _ _ _ _ _ ih⟩

end

end Go.Proofs.Ytngbmcljhcckmaa
