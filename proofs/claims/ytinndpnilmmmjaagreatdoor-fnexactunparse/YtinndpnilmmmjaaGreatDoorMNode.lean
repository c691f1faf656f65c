import Derived.Test.YtinndpnilmmmjaaGreatDoorMTree
import Derived.Test.YtinndpnilmmmjaaGreatDoorMBase
import Derived.Deep.AppendLies
import Derived.Deep.OwnRows
import Derived.BigQuiet
import Derived.Deep.RegionWith
import Derived.Deep.DeepCutAuto
namespace Go.Proofs.YtinndpnilmmmjaaGreatDoor
open Go.RowKit

/-- At cell off of block b lies the node x, its lists read by R. -/
def NAt (R : World → Option Addr → Nat → List Int → Prop) (w : World) (b off : Nat) (x : NodeD) : Prop :=
  ∃ s1 n1 c1 s2 n2 c2, w.cell? ⟨b, off, none⟩ = some (.int .i64 x.k) ∧ w.cell? ⟨b, off + 1, none⟩ = some (.int .i64 x.n) ∧ w.cell? ⟨b, off + 2, none⟩ = some (.int .i64 x.m) ∧ w.cell? ⟨b, off + 3, none⟩ = some (.string x.s) ∧ w.cell? ⟨b, off + 4, none⟩ = some (.slice s1 n1 c1) ∧ w.cell? ⟨b, off + 5, none⟩ = some (.slice s2 n2 c2) ∧ R w s1 n1 x.nums ∧ R w s2 n2 x.kids

/-- The slice (a, n, _) reads as the nodes ns. -/
structure NRow (w : World) (a : Option Addr) (n : Nat) (ns : List NodeD) : Prop where
  len : ns.length = n
  small : n ≤ 1048576
  at_ : n = 0 ∨ ∃ b off, a = some ⟨b, off, none⟩ ∧ b < w.heap.size ∧ ∀ i, i < n → NAt Row w b (off + i * 6) (node ns i)

structure NRaw (w : World) (a : Option Addr) (n : Nat) (ns : List NodeD) : Prop where
  len : ns.length = n
  max : n ≤ 9223372036854775807
  smax : ∀ i, i < n → (node ns i).s.size ≤ 9223372036854775807
  at_ : n = 0 ∨ ∃ b off, a = some ⟨b, off, none⟩ ∧ b < w.heap.size ∧ ∀ i, i < n → NAt Raw w b (off + i * 6) (node ns i)

theorem Raw.below {w w' : World} {a : Option Addr} {n : Nat} {zs : List Int} {B : Nat} (h : Raw w a n zs) (hB : w.heap.size ≤ B) (hb : Below B w w') : Raw w' a n zs := by
  refine ⟨h.len, h.max, ?_⟩
  rcases h.at_ with h0 | ⟨b, off, rfl, hlt, hc⟩
  · exact .inl h0
  · exact .inr ⟨b, off, rfl, Nat.lt_of_lt_of_le hlt hb.size, fun i hi => (hb.cell (p := ⟨b, off + i, none⟩) (Nat.lt_of_lt_of_le hlt hB)).trans (hc i hi)⟩

theorem NAt.below {R : World → Option Addr → Nat → List Int → Prop} {w w' : World} {b off B : Nat} {x : NodeD} (h : NAt R w b off x) (hR : ∀ a n zs, R w a n zs → R w' a n zs) (hlt : b < B) (hb : Below B w w') : NAt R w' b off x := by
  obtain ⟨s1, n1, c1, s2, n2, c2, e0, e1, e2, e3, e4, e5, r1, r2⟩ := h
  exact ⟨s1, n1, c1, s2, n2, c2, (hb.cell (p := ⟨b, off, none⟩) hlt).trans e0, (hb.cell (p := ⟨b, off + 1, none⟩) hlt).trans e1, (hb.cell (p := ⟨b, off + 2, none⟩) hlt).trans e2, (hb.cell (p := ⟨b, off + 3, none⟩) hlt).trans e3, (hb.cell (p := ⟨b, off + 4, none⟩) hlt).trans e4, (hb.cell (p := ⟨b, off + 5, none⟩) hlt).trans e5, hR _ _ _ r1, hR _ _ _ r2⟩

theorem NRow.below {w w' : World} {a : Option Addr} {n : Nat} {ns : List NodeD} {B : Nat} (h : NRow w a n ns) (hB : w.heap.size ≤ B) (hb : Below B w w') : NRow w' a n ns := by
  refine ⟨h.len, h.small, ?_⟩
  rcases h.at_ with h0 | ⟨b, off, rfl, hlt, hc⟩
  · exact .inl h0
  · exact .inr ⟨b, off, rfl, Nat.lt_of_lt_of_le hlt hb.size, fun i hi => (hc i hi).below (fun _ _ _ hr => hr.below hB hb) (Nat.lt_of_lt_of_le hlt hB) hb⟩

theorem NRaw.below {w w' : World} {a : Option Addr} {n : Nat} {ns : List NodeD} {B : Nat} (h : NRaw w a n ns) (hB : w.heap.size ≤ B) (hb : Below B w w') : NRaw w' a n ns := by
  refine ⟨h.len, h.max, h.smax, ?_⟩
  rcases h.at_ with h0 | ⟨b, off, rfl, hlt, hc⟩
  · exact .inl h0
  · exact .inr ⟨b, off, rfl, Nat.lt_of_lt_of_le hlt hb.size, fun i hi => (hc i hi).below (fun _ _ _ hr => hr.below hB hb) (Nat.lt_of_lt_of_le hlt hB) hb⟩

theorem NRow.alloc {w : World} {a : Option Addr} {n : Nat} {ns : List NodeD} (h : NRow w a n ns) (o : Obj) : NRow (w.alloc o) a n ns := h.below (Nat.le_refl _) ((Below.refl _ _).alloc (Nat.le_refl _) _)
theorem NRow.drew {w : World} {a : Option Addr} {n : Nat} {ns : List NodeD} (h : NRow w a n ns) : NRow w.drew a n ns := h.below (Nat.le_refl _) (Below.refl _ _).drew

theorem NRow.get {w : World} {a : Option Addr} {n : Nat} {ns : List NodeD} (h : NRow w a n ns) {k : Nat} (hk : k < n) : ∃ b off, a = some ⟨b, off, none⟩ ∧ b < w.heap.size ∧ NAt Row w b (off + k * 6) (node ns k) := by
  rcases h.at_ with h0 | ⟨b, off, rfl, hlt, hc⟩
  · omega
  · exact ⟨b, off, rfl, hlt, hc k hk⟩

theorem NRaw.get {w : World} {a : Option Addr} {n : Nat} {ns : List NodeD} (h : NRaw w a n ns) {k : Nat} (hk : k < n) : ∃ b off, a = some ⟨b, off, none⟩ ∧ b < w.heap.size ∧ NAt Raw w b (off + k * 6) (node ns k) := by
  rcases h.at_ with h0 | ⟨b, off, rfl, hlt, hc⟩
  · omega
  · exact ⟨b, off, rfl, hlt, hc k hk⟩

/-- How long the texts and lists of the first k nodes may be. -/
def SmallD (ns : List NodeD) (k : Nat) : Prop := ∀ i, i < k → (node ns i).s.size ≤ 1048576 ∧ (node ns i).nums.length ≤ 1048576 ∧ (node ns i).kids.length ≤ 1048576

theorem SmallD.step {ns : List NodeD} {k : Nat} (h : SmallD ns k) (h1 : (node ns k).s.size ≤ 1048576) (h2 : (node ns k).nums.length ≤ 1048576) (h3 : (node ns k).kids.length ≤ 1048576) : SmallD ns (k + 1) := fun i hi => by
  by_cases e : i = k
  · subst e; exact ⟨h1, h2, h3⟩
  · exact h i (by omega)

theorem NRaw.row {w : World} {a : Option Addr} {n : Nat} {ns : List NodeD} (h : NRaw w a n ns) (hn : n ≤ 1048576) (hs : SmallD ns n) : NRow w a n ns := by
  refine ⟨h.len, hn, ?_⟩
  rcases h.at_ with h0 | ⟨b, off, rfl, hlt, hc⟩
  · exact .inl h0
  · refine .inr ⟨b, off, rfl, hlt, fun i hi => ?_⟩
    obtain ⟨s1, n1, c1, s2, n2, c2, e0, e1, e2, e3, e4, e5, r1, r2⟩ := hc i hi
    have := hs i hi
    exact ⟨s1, n1, c1, s2, n2, c2, e0, e1, e2, e3, e4, e5, r1.row (by have := r1.len; omega), r2.row (by have := r2.len; omega)⟩

end Go.Proofs.YtinndpnilmmmjaaGreatDoor
namespace Go.Proofs.YtinndpnilmmmjaaGreatDoor
open Go.RowKit

theorem appBelow {w w1 : World} {base n : Nat} {v : Value} {xs : List Value} (o : Obj) (hown : w.ownsRow base 3 1 v n xs) (hb : base ≤ w.heap.size) (hg : (w.alloc o).grownBy w1 v.ownBlock) : Below base w w1 :=
  ((Below.refl _ _).alloc hb _).grown hg (by simp; omega) (by
    intro k hk
    rcases hown.2 with ⟨rfl, _⟩ | ⟨g, cap, cur, rfl, hbg, _⟩
    · cases hk
    · cases hk; exact hbg)

theorem newCells (w : World) (x : Int) : ∀ (j : Nat) u, ([.int .i64 x] : List Value)[j]? = some u → (w.alloc (.cells #[.int .i64 x] 3)).cell? ((⟨w.heap.size, 0, none⟩ : Addr).add j) = some u := by
  intro j u hj
  match j, hj with
  | 0, hj => simp at hj; subst hj; simp [Addr.add]

theorem oneOne (x : Int) : ∀ u ∈ ([.int .i64 x] : List Value), u.oneCell' = true := by intro u hu; simp at hu; subst hu; rfl

theorem ownLt {w : World} {base e size n g : Nat} {v : Value} {xs : List Value} (h : w.ownsRow base e size v n xs) (hg : v.ownBlock = some g) : g < w.heap.size := by
  rcases h.2 with ⟨rfl, _⟩ | ⟨g', cap, cur, rfl, _, hh, _⟩
  · cases hg
  · cases hg; exact lt_of_block hh

theorem ownGrown {w w1 : World} {base base' n g g2 cap : Nat} {xs : List Value} (h : w.ownsRow base 3 1 (.slice (some ⟨g, 0, none⟩) n cap) n xs) (o : Obj) (hg : (w.alloc o).grownBy w1 (some g2)) (hne : g ≠ g2) (hb : base' ≤ base) : w1.ownsRow base' 3 1 (.slice (some ⟨g, 0, none⟩) n cap) n xs := by
  obtain ⟨h1, h2⟩ := h
  refine ⟨h1, ?_⟩
  rcases h2 with ⟨h2, _⟩ | ⟨g', cap', cur, hv, hg', hh, r⟩
  · simp at h2
  · have e : g = g' := by simp at hv; exact hv.1
    subst e
    refine Or.inr ⟨g, cap', cur, hv, by omega, ?_, r⟩
    have hlt := lt_of_block hh
    exact (hg.block g (by simp; omega) (fun e => hne (by simpa using e))).trans ((Below.heap_alloc w o g hlt).trans hh)

/-- Two slices of the call's own hold these lists. -/
structure Two2 (W wr : World) (k1 : Nat) (xs : List Int) (k2 : Nat) (ys : List Int) (g1 p1 g2 p2 : Nat) : Prop where
  o1 : wr.ownsRow W.heap.size 3 1 (.slice (some ⟨g1, 0, none⟩) k1 p1) k1 (xs.map (Value.int .i64))
  o2 : wr.ownsRow W.heap.size 3 1 (.slice (some ⟨g2, 0, none⟩) k2 p2) k2 (ys.map (Value.int .i64))
  ne : g1 ≠ g2
  low : Below W.heap.size W wr

theorem Two2.below {W wr w' : World} {k1 k2 : Nat} {xs ys : List Int} {g1 p1 g2 p2 : Nat} (h : Two2 W wr k1 xs k2 ys g1 p1 g2 p2) (hb : Below wr.heap.size wr w') : Two2 W w' k1 xs k2 ys g1 p1 g2 p2 :=
  ⟨ownsB_below h.o1 (Nat.le_refl _) hb, ownsB_below h.o2 (Nat.le_refl _) hb, h.ne, h.low.trans (hb.mono h.low.size)⟩

theorem ownBut {S : Nat → Prop} {w w' : World} {base e size n g cap : Nat} {xs : List Value} (h : w.ownsRow base e size (.slice (some ⟨g, 0, none⟩) n cap) n xs) (hb : But S w w') (hg : ¬ S g) : w'.ownsRow base e size (.slice (some ⟨g, 0, none⟩) n cap) n xs := by
  obtain ⟨h1, h2⟩ := h
  refine ⟨h1, ?_⟩
  rcases h2 with h2 | ⟨g', cap', cur, hv, hg', hh, r⟩
  · exact Or.inl h2
  · have e : g = g' := by simp at hv; exact hv.1
    subst e
    exact Or.inr ⟨g, cap', cur, hv, hg', (hb.block g (lt_of_block hh) hg).trans hh, r⟩

theorem Two2.but {S : Nat → Prop} {W wr w' : World} {k1 k2 : Nat} {xs ys : List Int} {g1 p1 g2 p2 : Nat} (h : Two2 W wr k1 xs k2 ys g1 p1 g2 p2) (hb : But S wr w') (h1 : ¬ S g1) (h2 : ¬ S g2) (hS : ∀ k, S k → W.heap.size ≤ k) : Two2 W w' k1 xs k2 ys g1 p1 g2 p2 :=
  ⟨ownBut h.o1 hb h1, ownBut h.o2 hb h2, h.ne, h.low.trans (hb.below h.low.size hS)⟩

theorem Two2.start (W : World) : Two2 W ((W.alloc (.cells #[] 3)).alloc (.cells #[] 3)) 0 [] 0 [] W.heap.size 0 (W.heap.size + 1) 0 := by
  refine ⟨⟨by simp, .inr ⟨W.heap.size, 0, #[], rfl, Nat.le_refl _, ?_, by simp, by unfold maxLen; omega, by simp, by simp⟩⟩, ⟨by simp, .inr ⟨W.heap.size + 1, 0, #[], rfl, by omega, ?_, by simp, by unfold maxLen; omega, by simp, by simp⟩⟩, by omega, ((Below.refl _ _).alloc (Nat.le_refl _) _).alloc (by simp) _⟩
  · refine (Below.heap_alloc _ _ _ (by simp)).trans ?_
    show (W.heap.push _)[W.heap.size]? = _
    simp
  · have h2 : ((W.alloc (.cells #[] 3)).heap.push (.cells #[] 3))[(W.alloc (.cells #[] 3)).heap.size]? = some (.cells #[] 3) := Array.getElem?_push_size
    rw [World.size_alloc] at h2
    exact h2

theorem Two2.push1 {W wr w7 : World} {k1 k2 : Nat} {xs ys : List Int} {g1 p1 g2 p2 g' p' : Nat} {x : Int} (o : Obj) (h : Two2 W wr k1 xs k2 ys g1 p1 g2 p2)
    (hown : w7.ownsRow W.heap.size 3 1 (.slice (some ⟨g', 0, none⟩) (k1 + 1) p') (k1 + 1) (xs.map (Value.int .i64) ++ [.int .i64 x])) (hg : (wr.alloc o).grownBy w7 (Value.ownBlock (.slice (some ⟨g1, 0, none⟩) k1 p1))) (hat : Value.ownBlock (.slice (some ⟨g1, 0, none⟩) k1 p1) = some g' ∨ g' = wr.heap.size + 1) :
    Two2 W w7 (k1 + 1) (xs ++ [x]) k2 ys g' p' g2 p2 := by
  have hg1 : (wr.alloc o).grownBy w7 (some g1) := hg
  refine ⟨?_, ownGrown h.o2 o hg1 (fun e => h.ne e.symm) (Nat.le_refl _), ?_, h.low.trans (appBelow o h.o1 h.low.size hg)⟩
  · rw [List.map_append]; simpa using hown
  · rcases hat with e | e
    · have e' : g1 = g' := by simpa [Value.ownBlock] using e
      rw [← e']; exact h.ne
    · have := ownLt h.o2 (g := g2) rfl; omega

theorem Two2.push2 {W wr w7 : World} {k1 k2 : Nat} {xs ys : List Int} {g1 p1 g2 p2 g' p' : Nat} {x : Int} (o : Obj) (h : Two2 W wr k1 xs k2 ys g1 p1 g2 p2)
    (hown : w7.ownsRow W.heap.size 3 1 (.slice (some ⟨g', 0, none⟩) (k2 + 1) p') (k2 + 1) (ys.map (Value.int .i64) ++ [.int .i64 x])) (hg : (wr.alloc o).grownBy w7 (Value.ownBlock (.slice (some ⟨g2, 0, none⟩) k2 p2))) (hat : Value.ownBlock (.slice (some ⟨g2, 0, none⟩) k2 p2) = some g' ∨ g' = wr.heap.size + 1) :
    Two2 W w7 k1 xs (k2 + 1) (ys ++ [x]) g1 p1 g' p' := by
  have hg1 : (wr.alloc o).grownBy w7 (some g2) := hg
  refine ⟨ownGrown h.o1 o hg1 h.ne (Nat.le_refl _), ?_, ?_, h.low.trans (appBelow o h.o2 h.low.size hg)⟩
  · rw [List.map_append]; simpa using hown
  · rcases hat with e | e
    · have e' : g2 = g' := by simpa [Value.ownBlock] using e
      rw [← e']; exact h.ne
    · have := ownLt h.o1 (g := g1) rfl; omega

/-- Where stretches begin, and how tall they are. -/
def bgL (st : List (Nat × Nat)) : List Int := st.map fun p => ((p.1 : Nat) : Int)
def tlL (st : List (Nat × Nat)) : List Int := st.map fun p => ((p.2 : Nat) : Int)

theorem bgL_get {st : List (Nat × Nat)} {y : Nat} (h : y < st.length) : (bgL st).getD y 0 = (((st.getD y (0, 0)).1 : Nat) : Int) := by unfold bgL; simp [List.getD_eq_getElem?_getD, h]
theorem tlL_get {st : List (Nat × Nat)} {y : Nat} (h : y < st.length) : (tlL st).getD y 0 = (((st.getD y (0, 0)).2 : Nat) : Int) := by unfold tlL; simp [List.getD_eq_getElem?_getD, h]
theorem bgL_push (st : List (Nat × Nat)) (p : Nat × Nat) : bgL (st ++ [p]) = bgL st ++ [((p.1 : Nat) : Int)] := by unfold bgL; simp
theorem tlL_push (st : List (Nat × Nat)) (p : Nat × Nat) : tlL (st ++ [p]) = tlL st ++ [((p.2 : Nat) : Int)] := by unfold tlL; simp

theorem own_cell {w : World} {B n g cap : Nat} {xs : List Int} (h : w.ownsRow B 3 1 (.slice (some ⟨g, 0, none⟩) n cap) n (xs.map (Value.int .i64))) {i : Nat} (hi : i < n) : w.cell? ⟨g, i, none⟩ = some (.int .i64 (xs.getD i 0)) ∧ g < w.heap.size ∧ B ≤ g := by
  have hl : xs.length = n := by simpa using h.1
  rcases h.2 with ⟨h', _⟩ | ⟨g', cap', cur, h', hb, hg, _, _, hcs, ht⟩
  · simp at h'
  · cases h'
    refine ⟨?_, lt_of_block hg, hb⟩
    have e : cur.toList[i]? = (xs.map (Value.int .i64))[i]? := by rw [← ht, List.getElem?_take, if_pos (by omega)]
    have e2 : (xs.map (Value.int .i64))[i]? = some (.int .i64 (xs.getD i 0)) := by
      rw [List.getElem?_map, List.getElem?_eq_getElem (by omega)]
      simp [List.getD_eq_getElem?_getD, show i < xs.length by omega]
    rw [e2] at e
    simpa [World.cell?, hg] using e

end Go.Proofs.YtinndpnilmmmjaaGreatDoor
namespace Go.Proofs.YtinndpnilmmmjaaGreatDoor
open Go.RowKit

/-- Block p holds a node. -/
def NBox (w : World) (p : Nat) (v0 v1 v2 v3 v4 v5 : Value) : Prop := w.heap[p]? = some (.cells #[v0, v1, v2, v3, v4, v5] 47 (0, 0))

theorem NBox.all {w : World} {p : Nat} {v0 v1 v2 v3 v4 v5 : Value} (h : NBox w p v0 v1 v2 v3 v4 v5) : w.cell? ⟨p, 0, none⟩ = some v0 ∧ w.cell? ⟨p, 1, none⟩ = some v1 ∧ w.cell? ⟨p, 2, none⟩ = some v2 ∧ w.cell? ⟨p, 3, none⟩ = some v3 ∧ w.cell? ⟨p, 4, none⟩ = some v4 ∧ w.cell? ⟨p, 5, none⟩ = some v5 := by
  unfold NBox at h
  refine ⟨?_, ?_, ?_, ?_, ?_, ?_⟩ <;> simp [World.cell?, h]

theorem NBox.lt {w : World} {p : Nat} {v0 v1 v2 v3 v4 v5 : Value} (h : NBox w p v0 v1 v2 v3 v4 v5) : p < w.heap.size := lt_of_block h
theorem NBox.below {w w' : World} {p B : Nat} {v0 v1 v2 v3 v4 v5 : Value} (h : NBox w p v0 v1 v2 v3 v4 v5) (hp : p < B) (hb : Below B w w') : NBox w' p v0 v1 v2 v3 v4 v5 := (hb.block p hp).trans h
theorem NBox.but {S : Nat → Prop} {w w' : World} {p : Nat} {v0 v1 v2 v3 v4 v5 : Value} (h : NBox w p v0 v1 v2 v3 v4 v5) (hb : But S w w') (hp : ¬ S p) : NBox w' p v0 v1 v2 v3 v4 v5 := (hb.block p h.lt hp).trans h
theorem NBox.new (w : World) (v0 v1 v2 v3 v4 v5 : Value) : NBox (w.alloc (.cells #[v0, v1, v2, v3, v4, v5] 47)) w.heap.size v0 v1 v2 v3 v4 v5 := by
  show (w.heap.push _)[w.heap.size]? = _
  simp

theorem NRow.butN {S : Nat → Prop} {w w1 w' : World} {a : Option Addr} {n : Nat} {ns : List NodeD} (h : NRow w a n ns) (hb1 : Below w.heap.size w w1) (hb : But S w1 w') (hS : ∀ k, k < w.heap.size → ¬ S k) : NRow w' a n ns := by
  refine ⟨h.len, h.small, ?_⟩
  rcases h.at_ with h0 | ⟨b, off, e, hlt, hc⟩
  · exact .inl h0
  · refine .inr ⟨b, off, e, by have := hb1.size; have := hb.size; omega, fun i hi => ?_⟩
    obtain ⟨s1, n1, c1, s2, n2, c2, e0, e1, e2, e3, e4, e5, r1, r2⟩ := hc i hi
    have hcc : ∀ o, w'.cell? ⟨b, o, none⟩ = w.cell? ⟨b, o, none⟩ := fun o => (World.cell?_of_block (hb.block b (by have := hb1.size; omega) (hS b hlt))).trans (hb1.cell (p := ⟨b, o, none⟩) hlt)
    exact ⟨s1, n1, c1, s2, n2, c2, (hcc _).trans e0, (hcc _).trans e1, (hcc _).trans e2, (hcc _).trans e3, (hcc _).trans e4, (hcc _).trans e5, hb.row (r1.below (Nat.le_refl _) hb1) (fun k hk hk' => hS k (r1.hi hk') hk), hb.row (r2.below (Nat.le_refl _) hb1) (fun k hk hk' => hS k (r2.hi hk') hk)⟩

end Go.Proofs.YtinndpnilmmmjaaGreatDoor
namespace Go.Proofs.YtinndpnilmmmjaaGreatDoor
open Go.RowKit

set_option maxHeartbeats 2000000 in
theorem szNode_any (k n m : Int) (s : ByteArray) (a1 a2 : Option Addr) (n1 n2 c1 c2 : Nat) (left : Int) (w : World) (hs : s.size ≤ 9223372036854775807) (h1 : n1 ≤ 9223372036854775807) (h2 : n2 ≤ 9223372036854775807) (hl : 0 ≤ left) (hl2 : left ≤ 1048576) :
    Calls Tryz.prog 52 #[.agg #[.int .i64 k, .int .i64 n, .int .i64 m, .string s, .slice a1 n1 c1, .slice a2 n2 c2], .int .i64 left] w fun e w' => ∃ r : Int, e = .returned (.int .i64 r) ∧ (r = -1 ∨ (0 ≤ r ∧ r ≤ left ∧ s.size ≤ 1048576 ∧ n1 ≤ 1048576 ∧ n2 ≤ 1048576)) ∧ Below w.heap.size w w' := by
  by_cases hA : left - s.size < 0
  · go_enter Tryz.func52, Tryz.ntmps52
    go_wp2_with fail
    go_ret
    exact ⟨_, rfl, .inl rfl, (Below.refl _ _).alloc (Nat.le_refl _) _⟩
  by_cases hB : left - s.size < n1
  · go_enter Tryz.func52, Tryz.ntmps52
    go_wp2_with fail
    refine (szIntS_big _ _ _ _ _ h1 (by omega) (by omega) hB).mono ?_
    rintro e w' ⟨rfl, rfl⟩
    go_wp2
    go_ret
    exact ⟨_, rfl, .inl rfl, (Below.refl _ _).alloc (Nat.le_refl _) _⟩
  have hq1 : ¬ (left - s.size - n1 < 0) := by omega
  by_cases hC : left - s.size - n1 < n2
  · go_enter Tryz.func52, Tryz.ntmps52
    go_wp2_with fail
    refine (szIntS_ok _ _ _ _ _ (by omega) (by omega)).mono ?_
    rintro e w' ⟨rfl, rfl⟩
    go_wp2_with fail
    refine (szIntS_big _ _ _ _ _ h2 (by omega) (by omega) hC).mono ?_
    rintro e w' ⟨rfl, rfl⟩
    go_wp2
    go_ret
    exact ⟨_, rfl, .inl rfl, (Below.refl _ _).alloc (Nat.le_refl _) _⟩
  have hq2 : ¬ (left - s.size - n1 - n2 < 0) := by omega
  go_enter Tryz.func52, Tryz.ntmps52
  go_wp2_with fail
  refine (szIntS_ok _ _ _ _ _ (by omega) (by omega)).mono ?_
  rintro e w' ⟨rfl, rfl⟩
  go_wp2_with fail
  refine (szIntS_ok _ _ _ _ _ (by omega) (by omega)).mono ?_
  rintro e w' ⟨rfl, rfl⟩
  go_wp2
  go_ret
  exact ⟨_, rfl, .inr ⟨by omega, by omega, by omega, by omega, by omega⟩, (Below.refl _ _).alloc (Nat.le_refl _) _⟩

set_option maxHeartbeats 2000000 in
theorem szNodeS_any (a : Option Addr) (n cap : Nat) (ns : List NodeD) (left : Int) (w : World) (h : NRaw w a n ns) (hl : 0 ≤ left) (hl2 : left ≤ 1048576) :
    Calls Tryz.prog 23 #[.slice a n cap, .int .i64 left] w fun e w' => ∃ r : Int, e = .returned (.int .i64 r) ∧ (r = -1 ∨ (0 ≤ r ∧ r ≤ left ∧ n ≤ 1048576 ∧ SmallD ns n)) ∧ Below w.heap.size w w' := by
  have hmx := h.max
  by_cases hA : left < n
  · go_enter Tryz.func23, Tryz.ntmps23
    go_wp2
    go_ret
    exact ⟨_, rfl, .inl rfl, Below.refl _ _⟩
  have H := hide h
  clear h
  have hn2 : (n : Int) ≤ left := by omega
  clear hA
  go_enter Tryz.func23, Tryz.ntmps23
  go_wp2_with fail
  go_loopw [1, 5] (fun l i wr => ∃ (k : Nat) (r : Int), k ≤ n ∧ i = .int .i64 k ∧ l = .int .i64 r ∧ Hid (0 ≤ r ∧ r ≤ left ∧ SmallD ns k ∧ Below w.heap.size w wr)) (fun _ i _ => n - (intOf i).toNat)
  case atStart => exact ⟨0, left - n, Nat.zero_le _, rfl, rfl, by omega, by omega, fun i hi => absurd hi (Nat.not_lt_zero _), Below.refl _ _⟩
  case round =>
    obtain ⟨k, r, hk, rfl, rfl, HX⟩ := hrel
    by_cases hlt : k < n
    · obtain ⟨hr0, hr1, hsm, hbl⟩ := unhide HX
      obtain ⟨b, off, rfl, hbs, s1, n1, c1, s2, n2, c2, e0, e1, e2, e3, e4, e5, r1, r2⟩ := ((unhide H).below (Nat.le_refl _) hbl).get hlt
      have HSM := hide hsm
      have HBL := hide hbl
      have HR1 := hide r1
      have HR2 := hide r2
      have HN : Hid ((node ns k).s.size ≤ 9223372036854775807 ∧ n1 ≤ 9223372036854775807 ∧ n2 ≤ 9223372036854775807) := ⟨(unhide H).smax k hlt, r1.max, r2.max⟩
      clear HX hsm hbl r1 r2
      obtain ⟨xk, hxk⟩ : ∃ x, x = (node ns k).k := ⟨_, rfl⟩
      obtain ⟨xn, hxn⟩ : ∃ x, x = (node ns k).n := ⟨_, rfl⟩
      obtain ⟨xm, hxm⟩ : ∃ x, x = (node ns k).m := ⟨_, rfl⟩
      obtain ⟨xs, hxs⟩ : ∃ x, x = (node ns k).s := ⟨_, rfl⟩
      rw [← hxk] at e0
      rw [← hxn] at e1
      rw [← hxm] at e2
      rw [← hxs] at e3 HN
      have HXS := hide hxs
      clear hxk hxn hxm hxs
      go_wp2_with fail
      refine (szNode_any _ _ _ _ _ _ _ _ _ _ _ _ (unhide HN).1 (unhide HN).2.1 (unhide HN).2.2 hr0 (by omega)).mono ?_
      rintro e w1 ⟨r1, rfl, hr, hb1⟩
      have HBL1 := hide ((unhide HBL).trans (hb1.mono (unhide HBL).size))
      clear hb1 HBL e0 e1 e2 e3 e4 e5
      rcases hr with rfl | ⟨q0, q1, q2, q3, q4⟩
      · go_wp2
        go_ret
        exact ⟨_, rfl, .inl rfl, unhide HBL1⟩
      · have hq : ¬ (r1 < 0) := by omega
        have HS1 : Hid (SmallD ns (k + 1)) := (unhide HSM).step (by rw [← unhide HXS]; exact q2) (by rw [(unhide HR1).len]; exact q3) (by rw [(unhide HR2).len]; exact q4)
        clear HR1 HR2 HSM
        go_wp2
        go_roundw
        case rel => exact ⟨k + 1, r1, by omega, by go_num, rfl, q0, by omega, unhide HS1, unhide HBL1⟩
        case measure => simp [intOf]; omega
    · have hkn : k = n := by omega
      subst hkn
      obtain ⟨hr0, hr1, hsm, hbl⟩ := unhide HX
      have HSM := hide hsm
      have HBL := hide hbl
      clear HX hsm hbl
      go_wp2
      go_ret
      exact ⟨_, rfl, .inr ⟨hr0, hr1, by omega, unhide HSM⟩, unhide HBL⟩

set_option maxHeartbeats 2000000 in
theorem szTree_any (a : Option Addr) (n cap : Nat) (ns : List NodeD) (left : Int) (w : World) (h : NRaw w a n ns) (hl : 0 ≤ left) (hl2 : left ≤ 1048576) :
    Calls Tryz.prog 7 #[.agg #[.slice a n cap], .int .i64 left] w fun e w' => ∃ r : Int, e = .returned (.int .i64 r) ∧ (r = -1 ∨ (0 ≤ r ∧ r ≤ left ∧ n ≤ 1048576 ∧ SmallD ns n)) ∧ Below w.heap.size w w' := by
  go_enter Tryz.func7, Tryz.ntmps7
  go_wp2_with fail
  refine (szNodeS_any _ _ _ ns _ _ (h.below (Nat.le_refl _) ((Below.refl _ _).alloc (Nat.le_refl _) _)) hl hl2).mono ?_
  rintro e w1 ⟨r, rfl, hr, hb⟩
  have hB := ((Below.refl w.heap.size w).alloc (Nat.le_refl _) (.cells #[.slice a n cap] 24)).trans (hb.mono (by simp))
  clear hb
  rcases hr with rfl | ⟨q0, q1, q2, q3⟩
  · go_wp2
    go_ret
    exact ⟨_, rfl, .inl rfl, hB⟩
  · have hq : ¬ (r < 0) := by omega
    go_wp2
    go_ret
    exact ⟨_, rfl, .inr ⟨q0, q1, q2, q3⟩, hB⟩

end Go.Proofs.YtinndpnilmmmjaaGreatDoor
namespace Go.Proofs.YtinndpnilmmmjaaGreatDoor
open Go.RowKit

theorem info_node : (Tryz.prog.info? 47).map (fun i => (i.zero, i.size, i.bytes)) = some (some (.agg #[.int .i64 0, .int .i64 0, .int .i64 0, .string ⟨#[]⟩, .slice none 0 0, .slice none 0 0]), 6, 88) := by kernel_rfl

/-- The first k of n nodes lie in block g, each list in a block of its own, all below H. -/
structure NMid (w : World) (g n k H : Nat) (ns : List NodeD) (f : Nat → Value) (s1 s2 : Nat → Nat) : Prop where
  row : w.rowIs g 47 (n * 6) f
  hi : H ≤ w.heap.size
  cells : ∀ i, i < k → f (i * 6) = .int .i64 (node ns i).k ∧ f (i * 6 + 1) = .int .i64 (node ns i).n ∧ f (i * 6 + 2) = .int .i64 (node ns i).m ∧ f (i * 6 + 3) = .string (node ns i).s ∧ f (i * 6 + 4) = .slice (some ⟨s1 i, 0, none⟩) (node ns i).nums.length (node ns i).nums.length ∧ f (i * 6 + 5) = .slice (some ⟨s2 i, 0, none⟩) (node ns i).kids.length (node ns i).kids.length
  blk : ∀ i, i < k → Blk w (s1 i) (node ns i).nums ∧ Blk w (s2 i) (node ns i).kids
  low : ∀ i, i < k → g < s1 i ∧ s1 i < s2 i ∧ s2 i < H
  apart : ∀ i j, i < j → j < k → s2 i < s1 j

theorem NMid.below {w w' : World} {g n k H B : Nat} {ns : List NodeD} {f : Nat → Value} {s1 s2 : Nat → Nat} (h : NMid w g n k H ns f s1 s2) (hB : w.heap.size ≤ B) (hb : Below B w w') : NMid w' g n k H ns f s1 s2 :=
  ⟨h.row.of_block (hb.block g (Nat.lt_of_lt_of_le h.row.lt hB)), Nat.le_trans h.hi hb.size, h.cells, fun i hi => ⟨(h.blk i hi).1.below hB hb, (h.blk i hi).2.below hB hb⟩, h.low, h.apart⟩

theorem NMid.alloc {w : World} {g n k H : Nat} {ns : List NodeD} {f : Nat → Value} {s1 s2 : Nat → Nat} (h : NMid w g n k H ns f s1 s2) (o : Obj) : NMid (w.alloc o) g n k H ns f s1 s2 := h.below (Nat.le_refl _) ((Below.refl _ _).alloc (Nat.le_refl _) _)

theorem NMid.but {S : Nat → Prop} {w w' : World} {g n k H : Nat} {ns : List NodeD} {f : Nat → Value} {s1 s2 : Nat → Nat} (h : NMid w g n k H ns f s1 s2) (hb : But S w w') (hn : ∀ x, g ≤ x → x < H → ¬ S x) (hg : g < H) : NMid w' g n k H ns f s1 s2 :=
  ⟨h.row.of_block (hb.block g h.row.lt (hn g (Nat.le_refl _) hg)), Nat.le_trans h.hi hb.size, h.cells,
    fun i hi => ⟨(hb.block _ (h.blk i hi).1.lt (hn _ (by have := h.low i hi; omega) (by have := h.low i hi; omega))).trans (h.blk i hi).1, (hb.block _ (h.blk i hi).2.lt (hn _ (by have := h.low i hi; omega) (by have := h.low i hi; omega))).trans (h.blk i hi).2⟩, h.low, h.apart⟩

/-- What toNodeS gives: the nodes in block g, new memory below H. -/
def NNew (w : World) (g n H : Nat) (ns : List NodeD) : Prop := g < H ∧ ns.length = n ∧ n ≤ 1048576 ∧ SmallD ns n ∧ ∃ f s1 s2, NMid w g n n H ns f s1 s2

theorem NNew.below {w w' : World} {g n H B : Nat} {ns : List NodeD} (h : NNew w g n H ns) (hB : w.heap.size ≤ B) (hb : Below B w w') : NNew w' g n H ns := by
  obtain ⟨h0, h1, h2, h3, f, s1, s2, h4⟩ := h
  exact ⟨h0, h1, h2, h3, f, s1, s2, h4.below hB hb⟩
theorem NNew.alloc {w : World} {g n H : Nat} {ns : List NodeD} (h : NNew w g n H ns) (o : Obj) : NNew (w.alloc o) g n H ns := h.below (Nat.le_refl _) ((Below.refl _ _).alloc (Nat.le_refl _) _)
theorem NNew.but {S : Nat → Prop} {w w' : World} {g n H : Nat} {ns : List NodeD} (h : NNew w g n H ns) (hb : But S w w') (hn : ∀ x, g ≤ x → x < H → ¬ S x) : NNew w' g n H ns := by
  obtain ⟨h0, h1, h2, h3, f, s1, s2, h4⟩ := h
  exact ⟨h0, h1, h2, h3, f, s1, s2, h4.but hb hn h0⟩

theorem NNew.row {w : World} {g n H : Nat} {ns : List NodeD} (h : NNew w g n H ns) : NRow w (some ⟨g, 0, none⟩) n ns := by
  obtain ⟨h0, h1, h2, h3, f, s1, s2, h4⟩ := h
  refine ⟨h1, h2, .inr ⟨g, 0, rfl, h4.row.lt, fun i hi => ?_⟩⟩
  obtain ⟨e0, e1, e2, e3, e4, e5⟩ := h4.cells i hi
  obtain ⟨b1, b2⟩ := h4.blk i hi
  have hs := h3 i hi
  refine ⟨_, _, (node ns i).nums.length, _, _, (node ns i).kids.length, ?_, ?_, ?_, ?_, ?_, ?_, b1.row rfl (by omega), b2.row rfl (by omega)⟩
  · rw [Nat.zero_add, h4.row.cell (by omega), e0]
  · rw [Nat.zero_add, h4.row.cell (by omega), e1]
  · rw [Nat.zero_add, h4.row.cell (by omega), e2]
  · rw [Nat.zero_add, h4.row.cell (by omega), e3]
  · rw [Nat.zero_add, h4.row.cell (by omega), e4]
  · rw [Nat.zero_add, h4.row.cell (by omega), e5]

set_option maxHeartbeats 2000000 in
theorem toNode_any (k n m : Int) (s : ByteArray) (a1 a2 : Option Addr) (n1 n2 c1 c2 : Nat) (nums kids : List Int) (w : World) (h1 : Row w a1 n1 nums) (h2 : Row w a2 n2 kids) :
    Calls Tryz.prog 57 #[.agg #[.int .i64 k, .int .i64 n, .int .i64 m, .string s, .slice a1 n1 c1, .slice a2 n2 c2]] w fun e w' => ∃ g1 g2, e = .returned (.agg #[.int .i64 k, .int .i64 n, .int .i64 m, .string s, .slice (some ⟨g1, 0, none⟩) n1 n1, .slice (some ⟨g2, 0, none⟩) n2 n2]) ∧ w.heap.size ≤ g1 ∧ g1 < g2 ∧ Blk w' g1 nums ∧ Blk w' g2 kids ∧ Below w.heap.size w w' := by
  go_enter Tryz.func57, Tryz.ntmps57
  go_wp2_with fail
  refine (toIntS_any _ _ _ nums _ (by exact h1.below (Nat.le_refl _) (by repeat (first | exact Below.refl _ _ | refine Below.setCell ?_ (by simp <;> omega) _ | refine Below.alloc ?_ (by simp <;> omega) _)))).mono ?_
  rintro e w1 ⟨g1, rfl, hg1, hb1, hbe1⟩
  obtain ⟨hc, hf⟩ := bcell hbe1
  have hz := hbe1.size
  have hbW : Below w.heap.size w w1 := Below.trans (by repeat (first | exact Below.refl _ _ | refine Below.setCell ?_ (by simp <;> omega) _ | refine Below.alloc ?_ (by simp <;> omega) _)) (hbe1.mono (by simp <;> omega))
  simp at hc hf hz hg1
  have hz0 : w.heap.size < w1.heap.size := by omega
  have hz1 : w.heap.size + 1 < w1.heap.size := by omega
  have hz3 : w.heap.size + 1 + 1 < w1.heap.size := by omega
  clear hbe1
  go_wp2_with fail
  refine (toIntS_any _ _ _ kids _ (by exact h2.below (Nat.le_refl _) (hbW.setCell (by simp <;> omega) _))).mono ?_
  rintro e w2 ⟨g2, rfl, hg2, hb2, hbe2⟩
  obtain ⟨hc2, hf2⟩ := bcell hbe2
  have hz2 := hbe2.size
  have hbW2 : Below w.heap.size w w2 := (hbW.setCell (p := ⟨w.heap.size + 1 + 1, 4, none⟩) (by simp <;> omega) _).trans (hbe2.mono (by simp <;> omega))
  have hb1' : Blk w2 g1 nums := (hb1.other (p := ⟨w.heap.size + 1 + 1, 4, none⟩) (by simp; omega) _).below (Nat.le_refl _) hbe2
  simp at hc2 hf2 hz2 hg2
  clear hbe2
  go_wp2
  refine bodyPost_ret (v := .agg #[.int .i64 k, .int .i64 n, .int .i64 m, .string s, .slice (some ⟨g1, 0, none⟩) n1 n1, .slice (some ⟨g2, 0, none⟩) n2 n2]) (by simp [results, Tryz.results57, go_sem, hc2, hc, hz1]) rfl ⟨g1, g2, rfl, by omega, ?_, ?_, ?_, ?_⟩
  · have := hb1.lt; omega
  · repeat (first | with_reducible exact hb1' | refine Blk.other ?_ (by simp; omega) _)
  · repeat (first | with_reducible exact hb2 | refine Blk.other ?_ (by simp; omega) _)
  · repeat (first | with_reducible exact hbW2 | refine Below.setCell ?_ (by simp <;> omega) _)

theorem six_set {w : World} {g n k H g1 g2 : Nat} {ns : List NodeD} {f : Nat → Value} {s1 s2 : Nat → Nat} {w1 : World} (h : NMid w g n k H ns f s1 s2) (hk : k < n) (hb : Below w.heap.size w w1)
    (h1 : w.heap.size ≤ g1) (h2 : g1 < g2) (b1 : Blk w1 g1 (node ns k).nums) (b2 : Blk w1 g2 (node ns k).kids) :
    ∃ f' s1' s2', NMid ((((((w1.setCell ⟨g, k * 6, none⟩ (.int .i64 (node ns k).k)).setCell ⟨g, k * 6 + 1, none⟩ (.int .i64 (node ns k).n)).setCell ⟨g, k * 6 + 2, none⟩ (.int .i64 (node ns k).m)).setCell ⟨g, k * 6 + 3, none⟩ (.string (node ns k).s)).setCell ⟨g, k * 6 + 4, none⟩ (.slice (some ⟨g1, 0, none⟩) (node ns k).nums.length (node ns k).nums.length)).setCell ⟨g, k * 6 + 5, none⟩ (.slice (some ⟨g2, 0, none⟩) (node ns k).kids.length (node ns k).kids.length)) g n (k + 1) w1.heap.size ns f' s1' s2' := by
  have hg := h.row.lt
  have hm := h.below (Nat.le_refl _) hb
  have hr := (((((hm.row.set (k * 6) (.int .i64 (node ns k).k)).set (k * 6 + 1) (.int .i64 (node ns k).n)).set (k * 6 + 2) (.int .i64 (node ns k).m)).set (k * 6 + 3) (.string (node ns k).s)).set (k * 6 + 4) (.slice (some ⟨g1, 0, none⟩) (node ns k).nums.length (node ns k).nums.length)).set (k * 6 + 5) (.slice (some ⟨g2, 0, none⟩) (node ns k).kids.length (node ns k).kids.length)
  refine ⟨_, fun i => if i = k then g1 else s1 i, fun i => if i = k then g2 else s2 i, hr, by simp, ?_, ?_, ?_, ?_⟩
  · intro i hi
    by_cases e : i = k
    · subst e
      refine ⟨?_, ?_, ?_, ?_, ?_, ?_⟩
      · (try dsimp only); rw [if_neg (by omega), if_neg (by omega), if_neg (by omega), if_neg (by omega), if_neg (by omega), if_pos rfl]
      · (try dsimp only); rw [if_neg (by omega), if_neg (by omega), if_neg (by omega), if_neg (by omega), if_pos rfl]
      · (try dsimp only); rw [if_neg (by omega), if_neg (by omega), if_neg (by omega), if_pos rfl]
      · (try dsimp only); rw [if_neg (by omega), if_neg (by omega), if_pos rfl]
      · (try dsimp only); rw [if_neg (by omega), if_pos rfl, if_pos rfl]
      · (try dsimp only); rw [if_pos rfl, if_pos rfl]
    · obtain ⟨c0, c1, c2, c3, c4, c5⟩ := h.cells i (by omega)
      refine ⟨?_, ?_, ?_, ?_, ?_, ?_⟩
      · (try dsimp only); rw [if_neg (by omega), if_neg (by omega), if_neg (by omega), if_neg (by omega), if_neg (by omega), if_neg (by omega)]; exact c0
      · (try dsimp only); rw [if_neg (by omega), if_neg (by omega), if_neg (by omega), if_neg (by omega), if_neg (by omega), if_neg (by omega)]; exact c1
      · (try dsimp only); rw [if_neg (by omega), if_neg (by omega), if_neg (by omega), if_neg (by omega), if_neg (by omega), if_neg (by omega)]; exact c2
      · (try dsimp only); rw [if_neg (by omega), if_neg (by omega), if_neg (by omega), if_neg (by omega), if_neg (by omega), if_neg (by omega)]; exact c3
      · (try dsimp only); rw [if_neg (by omega), if_neg (by omega), if_neg (by omega), if_neg (by omega), if_neg (by omega), if_neg (by omega), if_neg e]; exact c4
      · (try dsimp only); rw [if_neg (by omega), if_neg (by omega), if_neg (by omega), if_neg (by omega), if_neg (by omega), if_neg (by omega), if_neg e]; exact c5
  · intro i hi
    by_cases e : i = k
    · subst e
      (try dsimp only); rw [if_pos rfl, if_pos rfl]
      exact ⟨(((((b1.other (by simp; omega) _).other (by simp; omega) _).other (by simp; omega) _).other (by simp; omega) _).other (by simp; omega) _).other (by simp; omega) _, (((((b2.other (by simp; omega) _).other (by simp; omega) _).other (by simp; omega) _).other (by simp; omega) _).other (by simp; omega) _).other (by simp; omega) _⟩
    · have hl := h.low i (by omega)
      obtain ⟨d1, d2⟩ := hm.blk i (by omega)
      (try dsimp only); rw [if_neg e, if_neg e]
      exact ⟨(((((d1.other (by simp; omega) _).other (by simp; omega) _).other (by simp; omega) _).other (by simp; omega) _).other (by simp; omega) _).other (by simp; omega) _, (((((d2.other (by simp; omega) _).other (by simp; omega) _).other (by simp; omega) _).other (by simp; omega) _).other (by simp; omega) _).other (by simp; omega) _⟩
  · intro i hi
    by_cases e : i = k
    · subst e
      have := b2.lt
      (try dsimp only); rw [if_pos rfl, if_pos rfl]; omega
    · have hl := h.low i (by omega)
      have := h.hi
      have := hb.size
      (try dsimp only); rw [if_neg e, if_neg e]; omega
  · intro i j hij hj
    (try dsimp only)
    rw [if_neg (by omega)]
    by_cases e : j = k
    · rw [if_pos e]; have := h.low i (by omega); have := h.hi; omega
    · rw [if_neg e]; exact h.apart i j hij (by omega)

set_option maxHeartbeats 4000000 in
theorem toNodeS_any (a : Option Addr) (n cap : Nat) (ns : List NodeD) (w : World) (h : NRow w a n ns) (hsm : SmallD ns n) :
    Calls Tryz.prog 28 #[.slice a n cap] w fun e w' => ∃ g, e = .returned (.slice (some ⟨g, 0, none⟩) n n) ∧ w.heap.size ≤ g ∧ NNew w' g n w'.heap.size ns ∧ Below w.heap.size w w' := by
  have hn := h.small
  have H := hide h
  have HSM := hide hsm
  clear h hsm
  obtain ⟨i0, hi, hz0, hz1, hz2⟩ := info_parts info_node
  go_enter Tryz.func28, Tryz.ntmps28
  go_wp2_with (at_make; refine wpList_make_full _ rfl _ _ 27 rfl w.heap.size 47 i0 (.agg #[.int .i64 0, .int .i64 0, .int .i64 0, .string ⟨#[]⟩, .slice none 0 0, .slice none 0 0]) 6 Tryz.underlying27 hi hz0 hz1 _ _ _ _ n rfl rfl rfl rfl (by rw [hz2]; omega) (by unfold maxLen; omega) (Nat.le_refl _) ?_; intro w1 hown hgrow)
  have hbel : Below w.heap.size w w1 := (Below.refl _ _).grown hgrow (Nat.le_refl _) (by simp)
  have hrow : ∃ f, w1.rowIs w.heap.size 47 (n * 6) f := by
    rcases hown.2 with ⟨h', _⟩ | ⟨g', cap', cur, h', _, hg, _, _, hs, _⟩
    · simp at h'
    · simp only [Value.slice.injEq, Option.some.injEq, Addr.mk.injEq, and_true, true_and] at h'
      obtain ⟨rfl, rfl⟩ := h'
      exact ⟨fun i => cur.getD i default, cur, hg, hs, fun i hi => by simp [Array.getD, show i < cur.size by omega]⟩
  obtain ⟨f0, hrow⟩ := hrow
  have HST : Hid (NMid w1 w.heap.size n 0 w1.heap.size ns f0 (fun _ => 0) (fun _ => 0)) := ⟨hrow, Nat.le_refl _, fun i hi => by omega, fun i hi => by omega, fun i hi => by omega, fun i j _ hj => by omega⟩
  have HBEL := hide hbel
  clear hown hgrow hi hz0 hz1 hz2 hrow hbel
  go_wp2_with fail
  go_loopw [4] (fun i wr => ∃ k : Nat, k ≤ n ∧ i = .int .i64 k ∧ Hid (∃ f s1 s2, NMid wr w.heap.size n k wr.heap.size ns f s1 s2) ∧ Hid (Below w.heap.size w wr)) (fun i _ => n - (intOf i).toNat)
  case atStart => exact ⟨0, Nat.zero_le _, rfl, ⟨_, _, _, unhide HST⟩, unhide HBEL⟩
  case round =>
    obtain ⟨k, hk, rfl, HX, HB⟩ := hrel
    clear HST HBEL
    by_cases hlt : k < n
    · obtain ⟨b, off, rfl, hbs, t1, n1, c1, t2, n2, c2, e0, e1, e2, e3, e4, e5, r1, r2⟩ := ((unhide H).below (Nat.le_refl _) (unhide HB)).get hlt
      have HR1 := hide r1
      have HR2 := hide r2
      obtain ⟨f, s1, s2, hm⟩ := unhide HX
      have HM := hide hm
      have x0 := hm.row.cell (i := k * 6) (by omega)
      have x1 := hm.row.cell (i := k * 6 + 1) (by omega)
      have x2 := hm.row.cell (i := k * 6 + 2) (by omega)
      have x3 := hm.row.cell (i := k * 6 + 3) (by omega)
      have x4 := hm.row.cell (i := k * 6 + 4) (by omega)
      have x5 := hm.row.cell (i := k * 6 + 5) (by omega)
      have y0 := hm.row.frozen (k * 6)
      have y1 := hm.row.frozen (k * 6 + 1)
      have y2 := hm.row.frozen (k * 6 + 2)
      have y3 := hm.row.frozen (k * 6 + 3)
      have y4 := hm.row.frozen (k * 6 + 4)
      have y5 := hm.row.frozen (k * 6 + 5)
      have hgl := hm.row.lt
      clear HX r1 r2 hm
      obtain ⟨xk, hxk⟩ : ∃ x, x = (node ns k).k := ⟨_, rfl⟩
      obtain ⟨xn, hxn⟩ : ∃ x, x = (node ns k).n := ⟨_, rfl⟩
      obtain ⟨xm, hxm⟩ : ∃ x, x = (node ns k).m := ⟨_, rfl⟩
      obtain ⟨xs, hxs⟩ : ∃ x, x = (node ns k).s := ⟨_, rfl⟩
      rw [← hxk] at e0
      rw [← hxn] at e1
      rw [← hxm] at e2
      rw [← hxs] at e3
      have HXX := hide (And.intro hxk (And.intro hxn (And.intro hxm hxs)))
      clear hxk hxn hxm hxs
      go_wp2_with fail
      refine (toNode_any _ _ _ _ _ _ _ _ _ _ (node ns k).nums (node ns k).kids _ (by exact unhide HR1) (by exact unhide HR2)).mono ?_
      rintro e w2 ⟨g1, g2, rfl, hg1, hg2, hb1, hb2, hbe⟩
      obtain ⟨hc, hf⟩ := bcell hbe
      rw [← hc _ _ hgl] at x0 x1 x2 x3 x4 x5
      rw [← hf _ _ hgl] at y0 y1 y2 y3 y4 y5
      have hz := hbe.size
      have hg' : w.heap.size < w2.heap.size := by omega
      have HFS : Hid (∃ f' s1' s2', NMid ((((((w2.setCell ⟨w.heap.size, k * 6, none⟩ (.int .i64 xk)).setCell ⟨w.heap.size, k * 6 + 1, none⟩ (.int .i64 xn)).setCell ⟨w.heap.size, k * 6 + 2, none⟩ (.int .i64 xm)).setCell ⟨w.heap.size, k * 6 + 3, none⟩ (.string xs)).setCell ⟨w.heap.size, k * 6 + 4, none⟩ (.slice (some ⟨g1, 0, none⟩) n1 n1)).setCell ⟨w.heap.size, k * 6 + 5, none⟩ (.slice (some ⟨g2, 0, none⟩) n2 n2)) w.heap.size n (k + 1) w2.heap.size ns f' s1' s2') := by
        have := six_set (unhide HM) hlt hbe hg1 hg2 hb1 hb2
        rw [← (unhide HXX).1, ← (unhide HXX).2.1, ← (unhide HXX).2.2.1, ← (unhide HXX).2.2.2, (unhide HR1).len, (unhide HR2).len] at this
        exact this
      have HB2 := hide ((unhide HB).trans (hbe.mono (unhide HB).size))
      clear hc hf hbe HB HM hb1 hb2 HR1 HR2 HXX e0 e1 e2 e3 e4 e5 hg1 hg2 hz hgl
      go_wp2_with fail
      go_roundw
      case rel =>
        refine ⟨k + 1, by omega, by go_num, ?_, ?_⟩
        · obtain ⟨f', s1', s2', h'⟩ := unhide HFS
          exact ⟨f', s1', s2', by simpa using h'⟩
        · exact ((((((unhide HB2).setCell (Nat.le_refl _) _).setCell (Nat.le_refl _) _).setCell (Nat.le_refl _) _).setCell (Nat.le_refl _) _).setCell (Nat.le_refl _) _).setCell (Nat.le_refl _) _
      case measure => simp [intOf]; omega
    · have hkn : k = n := by omega
      subst hkn
      go_wp2
      go_ret
      obtain ⟨f, s1, s2, hm⟩ := unhide HX
      exact ⟨_, rfl, Nat.le_refl _, ⟨hm.row.lt, (unhide H).len, hn, unhide HSM, f, s1, s2, hm⟩, unhide HB⟩

set_option maxHeartbeats 2000000 in
theorem toTree_any (a : Option Addr) (n cap : Nat) (ns : List NodeD) (w : World) (h : NRow w a n ns) (hsm : SmallD ns n) :
    Calls Tryz.prog 9 #[.agg #[.slice a n cap]] w fun e w' => ∃ g, e = .returned (.agg #[.slice (some ⟨g, 0, none⟩) n n]) ∧ w.heap.size ≤ g ∧ NNew w' g n w'.heap.size ns ∧ Below w.heap.size w w' := by
  go_enter Tryz.func9, Tryz.ntmps9
  go_wp2_with fail
  refine (toNodeS_any _ _ _ ns _ (by exact h.below (Nat.le_refl _) (by repeat (first | exact Below.refl _ _ | refine Below.alloc ?_ (by simp <;> omega) _))) hsm).mono ?_
  rintro e w1 ⟨g, rfl, hg, hN, hbe⟩
  obtain ⟨hc, hf⟩ := bcell hbe
  have hz := hbe.size
  have hbW : Below w.heap.size w w1 := Below.trans (by repeat (first | exact Below.refl _ _ | refine Below.alloc ?_ (by simp <;> omega) _)) (hbe.mono (by simp <;> omega))
  simp at hc hf hz hg
  have hz0 : w.heap.size < w1.heap.size := by omega
  have hz1 : w.heap.size + 1 < w1.heap.size := by omega
  clear hbe
  go_wp2
  refine bodyPost_ret (v := .agg #[.slice (some ⟨g, 0, none⟩) n n]) (by simp [results, Tryz.results9, go_sem, hc]) rfl ⟨g, rfl, by omega, ?_, ?_⟩
  · have h1 := hN.but (But.setCell (S := fun x => x = w.heap.size + 1 ∨ x = w.heap.size + 1 + 1) (But.setCell (But.refl _ w1) (p := ⟨w.heap.size + 1 + 1, 0, none⟩) (.inr rfl) (.slice (some ⟨g, 0, none⟩) n n)) (p := ⟨w.heap.size + 1, 0, none⟩) (.inl rfl) (.slice (some ⟨g, 0, none⟩) n n)) (fun x h1 h2 h3 => by omega)
    simpa using h1
  · repeat (first | with_reducible exact hbW | refine Below.setCell ?_ (by simp <;> omega) _)

end Go.Proofs.YtinndpnilmmmjaaGreatDoor
namespace Go.Proofs.YtinndpnilmmmjaaGreatDoor
open Go.RowKit

theorem eqIntS_refl (a b : Option Addr) (n m ca cb : Nat) (xs : List Int) (w : World) (hx : Row w a n xs) (hy : Row w b m xs) :
    Calls Tryz.prog 120 #[.slice a n ca, .slice b m cb] w fun e w' => e = .returned (.bool true) ∧ ∃ q, w' = w.drewN q := by
  have := eqIntS_any a b n m ca cb xs xs w hx hy
  rwa [decide_eq_true rfl] at this

set_option maxHeartbeats 2000000 in
theorem eqNode_refl (k n m : Int) (s : ByteArray) (a1 a2 b1 b2 : Option Addr) (n1 n2 m1 m2 c1 c2 d1 d2 : Nat) (nums kids : List Int) (w : World) (h1 : Row w a1 n1 nums) (h2 : Row w a2 n2 kids) (k1 : Row w b1 m1 nums) (k2 : Row w b2 m2 kids) :
    Calls Tryz.prog 71 #[.agg #[.int .i64 k, .int .i64 n, .int .i64 m, .string s, .slice a1 n1 c1, .slice a2 n2 c2], .agg #[.int .i64 k, .int .i64 n, .int .i64 m, .string s, .slice b1 m1 d1, .slice b2 m2 d2]] w fun e w' => e = .returned (.bool true) ∧ Below w.heap.size w w' := by
  have q0 : (k != k) = false := by simp
  have q1 : (n != n) = false := by simp
  have q2 : (m != m) = false := by simp
  have q3 : (s.toList != s.toList) = false := by simp
  have H1 := hide ((h1.alloc (.cells #[.int .i64 k, .int .i64 n, .int .i64 m, .string s, .slice a1 n1 c1, .slice a2 n2 c2] 47)).alloc (.cells #[.int .i64 k, .int .i64 n, .int .i64 m, .string s, .slice b1 m1 d1, .slice b2 m2 d2] 47))
  have H2 := hide ((h2.alloc (.cells #[.int .i64 k, .int .i64 n, .int .i64 m, .string s, .slice a1 n1 c1, .slice a2 n2 c2] 47)).alloc (.cells #[.int .i64 k, .int .i64 n, .int .i64 m, .string s, .slice b1 m1 d1, .slice b2 m2 d2] 47))
  have K1 := hide ((k1.alloc (.cells #[.int .i64 k, .int .i64 n, .int .i64 m, .string s, .slice a1 n1 c1, .slice a2 n2 c2] 47)).alloc (.cells #[.int .i64 k, .int .i64 n, .int .i64 m, .string s, .slice b1 m1 d1, .slice b2 m2 d2] 47))
  have K2 := hide ((k2.alloc (.cells #[.int .i64 k, .int .i64 n, .int .i64 m, .string s, .slice a1 n1 c1, .slice a2 n2 c2] 47)).alloc (.cells #[.int .i64 k, .int .i64 n, .int .i64 m, .string s, .slice b1 m1 d1, .slice b2 m2 d2] 47))
  clear h1 h2 k1 k2
  go_enter Tryz.func71, Tryz.ntmps71
  go_wp2_with fail
  refine (eqIntS_refl _ _ _ _ _ _ nums _ (by exact unhide H1) (by exact unhide K1)).mono ?_
  rintro e w1 ⟨rfl, q, rfl⟩
  go_wp2_with fail
  refine (eqIntS_refl _ _ _ _ _ _ kids _ (by exact (unhide H2).drewN q) (by exact (unhide K2).drewN q)).mono ?_
  rintro e w1 ⟨rfl, q', rfl⟩
  go_wp2_with fail
  go_ret
  exact ⟨rfl, Below.drewN (((Below.refl _ _).alloc (Nat.le_refl _) _).alloc (by simp) _) _⟩

set_option maxHeartbeats 2000000 in
theorem eqNodeS_refl (a b : Option Addr) (n c d : Nat) (ns : List NodeD) (w : World) (h : NRow w a n ns) (k : NRow w b n ns) :
    Calls Tryz.prog 33 #[.slice a n c, .slice b n d] w fun e w' => e = .returned (.bool true) ∧ Below w.heap.size w w' := by
  have hn := h.small
  have H := hide h
  have K := hide k
  clear h k
  have hnn : ((n : Int) != (n : Int)) = false := by simp
  go_enter Tryz.func33, Tryz.ntmps33
  go_wp2_with fail
  go_loopw [5] (fun i wr => ∃ k : Nat, k ≤ n ∧ i = .int .i64 k ∧ Hid (Below w.heap.size w wr)) (fun i _ => n - (intOf i).toNat)
  case atStart => exact ⟨0, Nat.zero_le _, rfl, Below.refl _ _⟩
  case round =>
    obtain ⟨k, hk, rfl, HB⟩ := hrel
    by_cases hlt : k < n
    · obtain ⟨p1, o1, rfl, hl1, t1, m1, e1, t2, m2, e2, x0, x1, x2, x3, x4, x5, r1, r2⟩ := ((unhide H).below (Nat.le_refl _) (unhide HB)).get hlt
      obtain ⟨p2, o2, rfl, hl2, u1, q1, f1, u2, q2, f2, y0, y1, y2, y3, y4, y5, s1, s2⟩ := ((unhide K).below (Nat.le_refl _) (unhide HB)).get hlt
      have R1 := hide r1
      have R2 := hide r2
      have S1 := hide s1
      have S2 := hide s2
      obtain ⟨xk, hxk⟩ : ∃ x, x = (node ns k).k := ⟨_, rfl⟩
      obtain ⟨xn, hxn⟩ : ∃ x, x = (node ns k).n := ⟨_, rfl⟩
      obtain ⟨xm, hxm⟩ : ∃ x, x = (node ns k).m := ⟨_, rfl⟩
      obtain ⟨xs, hxs⟩ : ∃ x, x = (node ns k).s := ⟨_, rfl⟩
      rw [← hxk] at x0 y0
      rw [← hxn] at x1 y1
      rw [← hxm] at x2 y2
      rw [← hxs] at x3 y3
      clear r1 r2 s1 s2 hxk hxn hxm hxs
      go_wp2_with fail
      go_region_with (go_at_call 71; refine (eqNode_refl _ _ _ _ _ _ _ _ _ _ _ _ _ _ _ _ (node ns k).nums (node ns k).kids _ (by exact (unhide R1).below (Nat.le_refl _) (Below.refl _ _).drew) (by exact (unhide R2).below (Nat.le_refl _) (Below.refl _ _).drew) (by exact (unhide S1).below (Nat.le_refl _) (Below.refl _ _).drew) (by exact (unhide S2).below (Nat.le_refl _) (Below.refl _ _).drew)).mono ?_; rintro e w1 ⟨rfl, hb1⟩; have HB1 := hide ((unhide HB).trans ((Below.refl _ _).drew.trans (hb1.mono (unhide HB).size))); clear hb1)
      all_goals go_wp2_with fail
      all_goals (go_roundw; (case rel => exact ⟨k + 1, by omega, by go_num, unhide HB1⟩); (case measure => simp [intOf]; omega))
    · have hkn : k = n := by omega
      subst hkn
      go_wp2
      go_ret
      exact ⟨rfl, unhide HB⟩

set_option maxHeartbeats 2000000 in
theorem eqTree_refl (a b : Option Addr) (n c d : Nat) (ns : List NodeD) (w : World) (h : NRow w a n ns) (k : NRow w b n ns) :
    Calls Tryz.prog 11 #[.agg #[.slice a n c], .agg #[.slice b n d]] w fun e w' => e = .returned (.bool true) ∧ Below w.heap.size w w' := by
  go_enter Tryz.func11, Tryz.ntmps11
  go_wp2_with fail
  refine (eqNodeS_refl _ _ _ _ _ ns _ (by exact (h.alloc _).alloc _) (by exact (k.alloc _).alloc _)).mono ?_
  rintro e w1 ⟨rfl, hb1⟩
  have hB : Below w.heap.size w w1 := (((Below.refl _ _).alloc (Nat.le_refl _) _).alloc (by simp) _).trans (hb1.mono (by simp; omega))
  clear hb1
  go_wp2
  go_ret
  exact ⟨rfl, hB⟩

end Go.Proofs.YtinndpnilmmmjaaGreatDoor
