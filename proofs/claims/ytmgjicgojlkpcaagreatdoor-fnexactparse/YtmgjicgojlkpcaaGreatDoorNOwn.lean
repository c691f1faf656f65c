import Derived.Test.YtmgjicgojlkpcaaGreatDoorPRow
import Derived.Test.YtmgjicgojlkpcaaGreatDoorMarkText
import Derived.Test.YtmgjicgojlkpcaaGreatDoorMarks
namespace Go.Proofs.YtmgjicgojlkpcaaGreatDoor
open Go.RowKit

/-- A node marked from k on. -/
def markC (k : Nat) (x : NodeC) : NodeC := ⟨⟨(k : Int), (k : Int) + 1, (k : Int) + 1 + 1, mt (k + 3), marks ((k : Int) + 1 + 1 + 1 + 1) x.d.nums.length, marks ((k : Int) + 1 + 1 + 1 + 1 + (x.d.nums.length : Int)) x.d.kids.length⟩, x.v4, x.v5⟩
def kE (k : Nat) (x : NodeC) : Nat := k + 4 + x.d.nums.length + x.d.kids.length
def marksC : Nat → List NodeC → List NodeC
  | _, [] => []
  | k, x :: xs => markC k x :: marksC (kE k x) xs
def endK : Nat → List NodeC → Nat
  | k, [] => k
  | k, x :: xs => endK (kE k x) xs

theorem marksC_snoc : ∀ (k : Nat) (xs : List NodeC) (x : NodeC), marksC k (xs ++ [x]) = marksC k xs ++ [markC (endK k xs) x]
  | _, [], _ => rfl
  | k, y :: ys, x => by show markC k y :: marksC (kE k y) (ys ++ [x]) = _; rw [marksC_snoc (kE k y) ys x]; rfl
theorem endK_snoc : ∀ (k : Nat) (xs : List NodeC) (x : NodeC), endK k (xs ++ [x]) = kE (endK k xs) x
  | _, [], _ => rfl
  | k, y :: ys, x => endK_snoc (kE k y) ys x
theorem marksC_len : ∀ (k : Nat) (xs : List NodeC), (marksC k xs).length = xs.length
  | _, [] => rfl
  | k, y :: ys => congrArg (· + 1) (marksC_len (kE k y) ys)
theorem marksC_blks : ∀ (k : Nat) (xs : List NodeC), blksC (marksC k xs) = blksC xs
  | _, [] => rfl
  | k, y :: ys => by
    show (markC k y).blks ++ blksC (marksC (kE k y) ys) = y.blks ++ blksC ys
    rw [marksC_blks (kE k y) ys]
    rfl
def SmallC (xs : List NodeC) : Prop := ∀ x ∈ xs, x.d.nums.length ≤ 1048576 ∧ x.d.kids.length ≤ 1048576
theorem endK_le : ∀ (k : Nat) (xs : List NodeC), SmallC xs → endK k xs ≤ k + xs.length * 2097160
  | k, [], _ => Nat.le_add_right _ _
  | k, y :: ys, h => by
    have h1 := endK_le (kE k y) ys fun x hx => h x (List.mem_cons_of_mem _ hx)
    have h2 := h y List.mem_cons_self
    show endK (kE k y) ys ≤ k + (ys.length + 1) * 2097160
    have h3 : kE k y = k + 4 + y.d.nums.length + y.d.kids.length := rfl
    rw [Nat.succ_mul]
    omega
theorem endK_ge : ∀ (k : Nat) (xs : List NodeC), k ≤ endK k xs
  | k, [] => Nat.le_refl _
  | k, y :: ys => by
    have h1 := endK_ge (kE k y) ys
    have h3 : kE k y = k + 4 + y.d.nums.length + y.d.kids.length := rfl
    show k ≤ endK (kE k y) ys
    omega

/-- Nodes in block g, of the run's own, with lists of their own. -/
structure NW (w : World) (B g cap : Nat) (xs : List NodeC) : Prop where
  row : ∃ f, w.rowIs g 47 (cap * 6) f ∧ ∀ (i : Nat) (x : NodeC) (q : Nat) (u : Value), xs[i]? = some x → x.cells[q]? = some u → f (i * 6 + q) = u
  le : xs.length ≤ cap
  low : B ≤ g
  lists : ∀ x ∈ xs, ∃ a4 c4 a5 c5, x.v4 = .slice a4 x.d.nums.length c4 ∧ x.v5 = .slice a5 x.d.kids.length c5 ∧ Own w B a4 x.d.nums.length x.d.nums ∧ Own w B a5 x.d.kids.length x.d.kids
  apart : (blksC xs).Nodup
  ng : g ∉ blksC xs

section
variable {w w' : World} {B g cap : Nat} {xs us post : List NodeC} {x : NodeC}

theorem at_own {a : Option Addr} {n c k : Nat} (h : At a n k) : (Value.slice a n c).ownBlock = some k := by
  obtain ⟨_, p, rfl, rfl⟩ := h
  rfl
theorem blks4 {a : Option Addr} {n c k : Nat} (e : x.v4 = .slice a n c) (h : At a n k) : k ∈ x.blks := by unfold NodeC.blks; rw [e, at_own h]; simp
theorem blks5 {a : Option Addr} {n c k : Nat} (e : x.v5 = .slice a n c) (h : At a n k) : k ∈ x.blks := by unfold NodeC.blks; rw [e, at_own h]; simp
theorem cells_lt {q : Nat} {u : Value} (h : x.cells[q]? = some u) : q < 6 := (List.getElem?_eq_some_iff.1 h).1

theorem NW.lt (h : NW w B g cap xs) : g < w.heap.size := by
  obtain ⟨f, hr, _⟩ := h.row
  exact hr.lt

theorem NW.below (h : NW w B g cap xs) (hb : Below w.heap.size w w') : NW w' B g cap xs := by
  obtain ⟨f, hr, hf⟩ := h.row
  refine ⟨⟨f, hr.of_block (hb.block g hr.lt), hf⟩, h.le, h.low, fun x hx => ?_, h.apart, h.ng⟩
  obtain ⟨a4, c4, a5, c5, e4, e5, o4, o5⟩ := h.lists x hx
  exact ⟨a4, c4, a5, c5, e4, e5, (But.of_below (S := fun _ => False) hb).own o4 (fun _ h => h.elim), (But.of_below (S := fun _ => False) hb).own o5 (fun _ h => h.elim)⟩
theorem NW.but {S : Nat → Prop} (h : NW w B g cap xs) (hb : But S w w') (hg : ¬ S g) (hS : ∀ k ∈ blksC xs, ¬ S k) : NW w' B g cap xs := by
  obtain ⟨f, hr, hf⟩ := h.row
  refine ⟨⟨f, hr.of_block (hb.block g hr.lt hg), hf⟩, h.le, h.low, fun x hx => ?_, h.apart, h.ng⟩
  obtain ⟨a4, c4, a5, c5, e4, e5, o4, o5⟩ := h.lists x hx
  have hin : ∀ k ∈ x.blks, k ∈ blksC xs := fun k hk => List.mem_flatMap.2 ⟨x, hx, hk⟩
  exact ⟨a4, c4, a5, c5, e4, e5, hb.own o4 (fun k hk ha => hS k (hin k (blks4 e4 ha)) hk), hb.own o5 (fun k hk ha => hS k (hin k (blks5 e5 ha)) hk)⟩

/-- One node's cells, and how they may be written. -/
theorem NW.node (h : NW w B g cap (us ++ x :: post)) : us.length < cap ∧ (∀ k ∈ x.blks, k ≠ g ∧ k ∉ blksC us ∧ k ∉ blksC post) ∧ x.blks.Nodup ∧ ∃ f, w.rowIs g 47 (cap * 6) f ∧ (∀ (q : Nat) (u : Value), x.cells[q]? = some u → f (us.length * 6 + q) = u) ∧ ∀ (k0 : Int) (k1 : Int) (k2 : Int) (s : ByteArray) (l4 l5 : List Int) (f' : Nat → Value), (∀ j, f' j = if j = us.length * 6 + 3 then .string s else if j = us.length * 6 + 2 then .int .i64 k2 else if j = us.length * 6 + 1 then .int .i64 k1 else if j = us.length * 6 then .int .i64 k0 else f j) → ∀ (i : Nat) (y : NodeC) (q : Nat) (u : Value), (us ++ ⟨⟨k0, k1, k2, s, l4, l5⟩, x.v4, x.v5⟩ :: post)[i]? = some y → y.cells[q]? = some u → f' (i * 6 + q) = u := by
  have hle := h.le
  rw [List.length_append, List.length_cons] at hle
  have hap := h.apart
  have hng := h.ng
  have eb : blksC (us ++ x :: post) = blksC us ++ (x.blks ++ blksC post) := by rw [blksC_app]; rfl
  rw [eb] at hap hng
  obtain ⟨f, hr, hf⟩ := h.row
  obtain ⟨_, hap2, hap3⟩ := List.nodup_append.1 hap
  obtain ⟨hx1, _, hx3⟩ := List.nodup_append.1 hap2
  refine ⟨by omega, fun k hk => ⟨fun e => hng (by rw [← e]; exact List.mem_append.2 (.inr (List.mem_append.2 (.inl hk)))), fun hk' => hap3 k hk' k (List.mem_append.2 (.inl hk)) rfl, fun hk' => hx3 k hk k hk' rfl⟩, hx1, f, hr, fun q u hq => hf us.length x q u (by rw [List.getElem?_append_right (Nat.le_refl _), Nat.sub_self]; rfl) hq, fun k0 k1 k2 s l4 l5 f' hf' i y q u hy hq => ?_⟩
  have hq6 := cells_lt hq
  rw [hf']
  by_cases hi : i = us.length
  · subst hi
    rw [List.getElem?_append_right (Nat.le_refl _), Nat.sub_self] at hy
    have e : y = ⟨⟨k0, k1, k2, s, l4, l5⟩, x.v4, x.v5⟩ := (Option.some.inj hy).symm
    have hx := fun q u hq => hf us.length x q u (by rw [List.getElem?_append_right (Nat.le_refl _), Nat.sub_self]; rfl) hq
    subst e
    by_cases c3 : q = 3
    · subst c3
      rw [if_pos rfl]
      exact Option.some.inj hq
    by_cases c2 : q = 2
    · subst c2
      rw [if_neg (by omega), if_pos rfl]
      exact Option.some.inj hq
    by_cases c1 : q = 1
    · subst c1
      rw [if_neg (by omega), if_neg (by omega), if_pos rfl]
      exact Option.some.inj hq
    by_cases c0 : q = 0
    · subst c0
      rw [if_neg (by omega), if_neg (by omega), if_neg (by omega), if_pos (by omega)]
      exact Option.some.inj hq
    rw [if_neg (by omega), if_neg (by omega), if_neg (by omega), if_neg (by omega)]
    refine hx q u ?_
    by_cases c4 : q = 4
    · subst c4
      exact hq
    · obtain rfl : q = 5 := by omega
      exact hq
  · rw [if_neg (by omega), if_neg (by omega), if_neg (by omega), if_neg (by omega)]
    refine hf i y q u ?_ hq
    rcases Nat.lt_or_ge i us.length with h1 | h1
    · rw [List.getElem?_append_left h1] at hy ⊢
      exact hy
    · obtain ⟨m, rfl⟩ : ∃ m, i = us.length + 1 + m := ⟨i - us.length - 1, by omega⟩
      rw [List.getElem?_append_right h1] at hy ⊢
      rw [show us.length + 1 + m - us.length = m + 1 by omega] at hy ⊢
      exact hy

/-- One node marked. -/
theorem NW.step {k : Nat} {f' : Nat → Value} {a4 a5 : Option Addr} {c4 c5 : Nat} (h : NW w B g cap (us ++ x :: post)) (hb : But (fun y => y = g ∨ y ∈ x.blks) w w') (hr : w'.rowIs g 47 (cap * 6) f')
    (hf' : ∀ (i : Nat) (y : NodeC) (q : Nat) (u : Value), (us ++ markC k x :: post)[i]? = some y → y.cells[q]? = some u → f' (i * 6 + q) = u)
    (e4 : x.v4 = .slice a4 x.d.nums.length c4) (e5 : x.v5 = .slice a5 x.d.kids.length c5) (o4 : Own w' B a4 x.d.nums.length (marks ((k : Int) + 1 + 1 + 1 + 1) x.d.nums.length)) (o5 : Own w' B a5 x.d.kids.length (marks ((k : Int) + 1 + 1 + 1 + 1 + (x.d.nums.length : Int)) x.d.kids.length)) : NW w' B g cap (us ++ markC k x :: post) := by
  have eb : blksC (us ++ markC k x :: post) = blksC (us ++ x :: post) := by rw [blksC_app, blksC_app]; rfl
  obtain ⟨h1, h2, _⟩ := h.node
  refine ⟨⟨f', hr, hf'⟩, ?_, h.low, fun y hy => ?_, by rw [eb]; exact h.apart, by rw [eb]; exact h.ng⟩
  · have := h.le
    simpa using this
  · have other : y ∈ us ∨ y ∈ post → ∃ a4 c4 a5 c5, y.v4 = .slice a4 y.d.nums.length c4 ∧ y.v5 = .slice a5 y.d.kids.length c5 ∧ Own w' B a4 y.d.nums.length y.d.nums ∧ Own w' B a5 y.d.kids.length y.d.kids := fun hy => by
      have hyin : y ∈ us ++ x :: post := by rcases hy with hy | hy <;> simp [hy]
      obtain ⟨b4, d4, b5, d5, i4, i5, p4, p5⟩ := h.lists y hyin
      have hS : ∀ k ∈ y.blks, ¬ (k = g ∨ k ∈ x.blks) := fun k hk e => by
        rcases e with e | e
        · exact h.ng (e ▸ List.mem_flatMap.2 ⟨y, hyin, hk⟩)
        · rcases hy with hy | hy
          · exact (h2 k e).2.1 (List.mem_flatMap.2 ⟨y, hy, hk⟩)
          · exact (h2 k e).2.2 (List.mem_flatMap.2 ⟨y, hy, hk⟩)
      exact ⟨b4, d4, b5, d5, i4, i5, hb.own p4 (fun k hk ha => hS k (blks4 i4 ha) hk), hb.own p5 (fun k hk ha => hS k (blks5 i5 ha) hk)⟩
    rcases List.mem_append.1 hy with hy | hy
    · exact other (.inl hy)
    rcases List.mem_cons.1 hy with hy | hy
    · subst hy
      refine ⟨a4, c4, a5, c5, ?_, ?_, ?_, ?_⟩
      · show x.v4 = .slice a4 (marks _ _).length c4
        rw [marks_len]; exact e4
      · show x.v5 = .slice a5 (marks _ _).length c5
        rw [marks_len]; exact e5
      · show Own w' B a4 (marks _ _).length (marks _ _)
        rw [marks_len]; exact o4
      · show Own w' B a5 (marks _ _).length (marks _ _)
        rw [marks_len]; exact o5
    · exact other (.inr hy)

/-- Out of rows of the run's own. -/
theorem NW.of_own {nd : Value} (hown : w.ownsRow B 47 6 nd xs.length (xs.flatMap NodeC.cells)) (hl : ∀ x ∈ xs, x.Ok w B) (hap : (blksC xs).Nodup) (hsm : SmallC xs) (h0 : xs ≠ []) : ∃ g cap, nd = .slice (some ⟨g, 0, none⟩) xs.length cap ∧ NW w B g cap xs := by
  rcases hown.2 with ⟨rfl, h1⟩ | ⟨g, cap, cur, rfl, hB, hh, hc, _, hs, ht⟩
  · exact absurd (List.length_eq_zero_iff.1 h1) h0
  refine ⟨g, cap, rfl, ⟨fun i => cur.getD i .nilIface, ⟨cur, hh, hs, fun i hi => ?_⟩, fun i x q u hx hq => ?_⟩, hc, hB, fun x hx => ?_, hap, fun hg => ?_⟩
  · show cur[i]? = some (cur.getD i .nilIface)
    rw [Array.getD_eq_getD_getElem?, Array.getElem?_eq_getElem (by omega)]
    rfl
  · have h1 := (flatN_get xs i q x hx (cells_lt hq)).trans hq
    rw [← ht, List.getElem?_take] at h1
    split at h1
    · show cur.getD (i * 6 + q) .nilIface = u
      rw [Array.getD_eq_getD_getElem?, ← Array.getElem?_toList, h1]
      rfl
    · cases h1
  · obtain ⟨o4, o5⟩ := hl x hx
    obtain ⟨s4, s5⟩ := hsm x hx
    have own : ∀ {v : Value} {zs : List Int}, zs.length ≤ 1048576 → OwnI w B v zs → ∃ a c, v = .slice a zs.length c ∧ Own w B a zs.length zs := fun {v zs} hz ho => by
      rcases ho.2 with ⟨rfl, h1⟩ | ⟨g', cap', cur', rfl, hB', hh', hc', _, hs', ht'⟩
      · rw [h1]
        exact ⟨none, 0, rfl, h1, by omega, .inl rfl⟩
      · refine ⟨_, _, rfl, rfl, by omega, .inr ⟨g', 0, rfl, hB', lt_of_block hh', fun i hi => ?_, fun i hi => ?_⟩⟩
        · have h1 : (zs.map (Value.int .i64))[i]? = some (.int .i64 (zs.getD i 0)) := by
            rw [List.getElem?_map, List.getElem?_eq_getElem hi, List.getD_eq_getElem?_getD, List.getElem?_eq_getElem hi]
            rfl
          rw [← ht', List.getElem?_take] at h1
          split at h1
          · rw [Nat.zero_add]
            simp only [World.cell?, hh']
            rw [← Array.getElem?_toList]
            simpa using h1
          · cases h1
        · exact frozen_of_row w g' (0 + i) _ _ hh'
    obtain ⟨a4, c4, e4, p4⟩ := own s4 o4
    obtain ⟨a5, c5, e5, p5⟩ := own s5 o5
    exact ⟨a4, c4, a5, c5, e4, e5, p4, p5⟩
  · obtain ⟨x, hx, hgx⟩ := List.mem_flatMap.1 hg
    unfold NodeC.blks at hgx
    have bad : ∀ {v : Value} {zs : List Int}, OwnI w B v zs → v.ownBlock = some g → False := fun {v zs} ho e => by
      obtain ⟨cur', hh', _⟩ := ownBlk_of ho e
      rw [hh] at hh'
      have := Option.some.inj hh'
      simp at this
    rcases List.mem_append.1 hgx with h1 | h1
    · exact bad (hl x hx).1 (by simpa [Option.mem_toList] using h1)
    · exact bad (hl x hx).2 (by simpa [Option.mem_toList] using h1)

theorem blk_low (hl : ∀ x ∈ xs, x.Ok w B) {k : Nat} (hk : k ∈ blksC xs) : B ≤ k := by
  obtain ⟨x, hx, hgx⟩ := List.mem_flatMap.1 hk
  unfold NodeC.blks at hgx
  rcases List.mem_append.1 hgx with h1 | h1
  · exact (ownBlk_of (hl x hx).1 (by simpa [Option.mem_toList] using h1)).elim fun _ hc => hc.2
  · exact (ownBlk_of (hl x hx).2 (by simpa [Option.mem_toList] using h1)).elim fun _ hc => hc.2

end
end Go.Proofs.YtmgjicgojlkpcaaGreatDoor
