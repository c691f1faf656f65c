import Derived.Test.YtgjpchnkodnieaaGreatDoorImplConcat
import Derived.Test.YtgjpchnkodnieaaGreatDoorMFit1
namespace Go.Proofs.YtgjpchnkodnieaaGreatDoor
open Go.RowKit Go.Shelf

set_option maxRecDepth 20000 in
set_option maxHeartbeats 2000000 in
theorem Concat2_ns (bs : Nat) (b : Addr) (n m ca cb : Nat) (xs ys : List Int) (w : World) (h0 : w.cell? ⟨bs, 0, none⟩ = some (.slice none n ca)) (h1 : w.cell? ⟨bs, 1, none⟩ = some (.slice (some b) m cb)) (hx : Row w none n xs) (hy : Row w (some b) m ys) (hn : n ≤ 1000000) (hm : m ≤ 1000000) :
    Calls Tryz.prog 113 #[.slice (some ⟨bs, 0, none⟩) 2 2] w fun e w' => ∃ a' cap', e = .returned (.slice a' (n + m) cap') ∧ Own w' w.heap.size a' (n + m) (xs ++ ys) ∧ Below w.heap.size w w' := by
  have HN1 := hide (row_none hx)
  have hl1 := hx.len
  have hl2 := hy.len
  have HX := hide hx
  have HY := hide hy
  clear hx hy
  have hbs := World.block_lt_of_cell? _ _ h0
  obtain ⟨i0, hi, hz0, hz1, hz2⟩ := info_parts info_int
  have hs1 : (n : Int) + (m : Int) = ((n + m : Nat) : Int) := by simp
  obtain ⟨s, hs⟩ : ∃ s, s = n + m := ⟨_, rfl⟩
  rw [← hs] at hs1
  have HS := hide hs
  have hsb : s ≤ 2000000 := by omega
  clear hs
  go_enter Tryz.func113, Tryz.ntmps113
  go_wp2
  refine wp_loop_rounds 3 ?_
  rw [rounds_succ]
  go_wp2
  rw [rounds_succ]
  go_wp2
  rw [rounds_succ]
  go_wp2_with fail
  refine (Grow_own s w (by omega)).mono ?_
  rintro e w1 ⟨v, rfl, hown, hb1⟩
  have k0 := (hb1.cell (p := ⟨bs, 0, none⟩) hbs).trans h0
  have k1 := (hb1.cell (p := ⟨bs, 1, none⟩) hbs).trans h1
  have hsz := hb1.size
  have HB1 := hide hb1
  have HC1 := hide h1
  clear hb1 h0 h1
  go_wp2
  refine wp_loop_rounds 3 ?_
  rw [rounds_succ]
  obtain ⟨av, cv, rfl⟩ := owns_slice hown
  go_wp2_with (at_builtin; refine wpList_append_nocap rfl _ _ 23 rfl w.heap.size 3 i0 1 Tryz.underlying23 hi _ 0 [] rfl hown n (unhide HN1).1 ca rfl ?_; have HB2 := HB1; have hsz2 := hsz; clear k0 k1; have k1 := ((unhide HB2).cell (p := ⟨bs, 1, none⟩) hbs).trans (unhide HC1))
  have hown1' := hown
  clear hown
  rw [rounds_succ]
  go_wp2_with (at_builtin; refine wpList_append_own _ rfl _ _ 23 rfl w.heap.size 3 i0 (.int .i64 0) 1 8 Tryz.underlying23 hi hz0 hz1 hz2 rfl (by decide) _ _ _ rfl hown1' b m cb (ys.map (Value.int .i64)) rfl (by simpa using hl2) (cells_ints ((unhide HY).below (Nat.le_refl _) (unhide HB2))) (one_ints ys) (by unfold maxLen; omega) (by omega) (by omega) ?_; intro v2 w3 hown2 hgrow2 hnil2; clear hnil2; have HB3 := hide ((unhide HB2).trans (below_append0 hown1' hsz2 hgrow2)); clear hgrow2 hown1' k1; obtain ⟨av2, cv2, rfl⟩ := owns_slice hown2)
  rw [rounds_succ]
  go_wp2
  go_ret
  obtain ⟨rfl, rfl⟩ := unhide HN1
  obtain ⟨a', cap', he, hO⟩ := Own.of_owns (zs := [] ++ ys) (by simpa using hown2) (by omega)
  cases he
  rw [Nat.zero_add]
  exact ⟨_, _, rfl, hO, unhide HB3⟩

set_option maxRecDepth 20000 in
set_option maxHeartbeats 2000000 in
theorem Concat2_sn (bs : Nat) (a : Addr) (n m ca cb : Nat) (xs ys : List Int) (w : World) (h0 : w.cell? ⟨bs, 0, none⟩ = some (.slice (some a) n ca)) (h1 : w.cell? ⟨bs, 1, none⟩ = some (.slice none m cb)) (hx : Row w (some a) n xs) (hy : Row w none m ys) (hn : n ≤ 1000000) (hm : m ≤ 1000000) :
    Calls Tryz.prog 113 #[.slice (some ⟨bs, 0, none⟩) 2 2] w fun e w' => ∃ a' cap', e = .returned (.slice a' (n + m) cap') ∧ Own w' w.heap.size a' (n + m) (xs ++ ys) ∧ Below w.heap.size w w' := by
  have HN2 := hide (row_none hy)
  have hl1 := hx.len
  have hl2 := hy.len
  have HX := hide hx
  have HY := hide hy
  clear hx hy
  have hbs := World.block_lt_of_cell? _ _ h0
  obtain ⟨i0, hi, hz0, hz1, hz2⟩ := info_parts info_int
  have hs1 : (n : Int) + (m : Int) = ((n + m : Nat) : Int) := by simp
  obtain ⟨s, hs⟩ : ∃ s, s = n + m := ⟨_, rfl⟩
  rw [← hs] at hs1
  have HS := hide hs
  have hsb : s ≤ 2000000 := by omega
  clear hs
  go_enter Tryz.func113, Tryz.ntmps113
  go_wp2
  refine wp_loop_rounds 3 ?_
  rw [rounds_succ]
  go_wp2
  rw [rounds_succ]
  go_wp2
  rw [rounds_succ]
  go_wp2_with fail
  refine (Grow_own s w (by omega)).mono ?_
  rintro e w1 ⟨v, rfl, hown, hb1⟩
  have k0 := (hb1.cell (p := ⟨bs, 0, none⟩) hbs).trans h0
  have k1 := (hb1.cell (p := ⟨bs, 1, none⟩) hbs).trans h1
  have hsz := hb1.size
  have HB1 := hide hb1
  have HC1 := hide h1
  clear hb1 h0 h1
  go_wp2
  refine wp_loop_rounds 3 ?_
  rw [rounds_succ]
  obtain ⟨av, cv, rfl⟩ := owns_slice hown
  go_wp2_with (at_builtin; refine wpList_append_own _ rfl _ _ 23 rfl w.heap.size 3 i0 (.int .i64 0) 1 8 Tryz.underlying23 hi hz0 hz1 hz2 rfl (by decide) _ _ _ rfl hown a n ca (xs.map (Value.int .i64)) rfl (by simpa using hl1) (cells_ints ((unhide HX).below (Nat.le_refl _) (unhide HB1))) (one_ints xs) (by unfold maxLen; omega) (by omega) (by omega) ?_; intro v1 w2 hown1 hgrow1 hnil1; clear hnil1; have HB2 := hide ((unhide HB1).trans (below_append0 hown hsz hgrow1)); have hsz2 := (unhide HB2).size; clear hgrow1 hown k0 k1; have k1 := ((unhide HB2).cell (p := ⟨bs, 1, none⟩) hbs).trans (unhide HC1); obtain ⟨av1, cv1, rfl⟩ := owns_slice hown1)
  have hown1' : w2.ownsRow w.heap.size 3 1 (.slice av1 n cv1) n (xs.map (Value.int .i64)) := by simpa using hown1
  clear hown1
  rw [rounds_succ]
  go_wp2_with (at_builtin; refine wpList_append_nocap rfl _ _ 23 rfl w.heap.size 3 i0 1 Tryz.underlying23 hi _ _ _ rfl hown1' m (unhide HN2).1 cb rfl ?_; have HB3 := HB2)
  have hown2 := hown1'
  rw [rounds_succ]
  go_wp2
  go_ret
  obtain ⟨rfl, rfl⟩ := unhide HN2
  obtain ⟨a', cap', he, hO⟩ := Own.of_owns (zs := xs ++ []) (by simpa using hown2) (by omega)
  cases he
  exact ⟨_, _, rfl, hO, unhide HB3⟩

set_option maxRecDepth 20000 in
set_option maxHeartbeats 2000000 in
theorem Concat2_nn (bs : Nat) (n m ca cb : Nat) (xs ys : List Int) (w : World) (h0 : w.cell? ⟨bs, 0, none⟩ = some (.slice none n ca)) (h1 : w.cell? ⟨bs, 1, none⟩ = some (.slice none m cb)) (hx : Row w none n xs) (hy : Row w none m ys) (hn : n ≤ 1000000) (hm : m ≤ 1000000) :
    Calls Tryz.prog 113 #[.slice (some ⟨bs, 0, none⟩) 2 2] w fun e w' => ∃ a' cap', e = .returned (.slice a' (n + m) cap') ∧ Own w' w.heap.size a' (n + m) (xs ++ ys) ∧ Below w.heap.size w w' := by
  have HN1 := hide (row_none hx)
  have HN2 := hide (row_none hy)
  have hl1 := hx.len
  have hl2 := hy.len
  have HX := hide hx
  have HY := hide hy
  clear hx hy
  have hbs := World.block_lt_of_cell? _ _ h0
  obtain ⟨i0, hi, hz0, hz1, hz2⟩ := info_parts info_int
  have hs1 : (n : Int) + (m : Int) = ((n + m : Nat) : Int) := by simp
  obtain ⟨s, hs⟩ : ∃ s, s = n + m := ⟨_, rfl⟩
  rw [← hs] at hs1
  have HS := hide hs
  have hsb : s ≤ 2000000 := by omega
  clear hs
  go_enter Tryz.func113, Tryz.ntmps113
  go_wp2
  refine wp_loop_rounds 3 ?_
  rw [rounds_succ]
  go_wp2
  rw [rounds_succ]
  go_wp2
  rw [rounds_succ]
  go_wp2_with fail
  refine (Grow_own s w (by omega)).mono ?_
  rintro e w1 ⟨v, rfl, hown, hb1⟩
  have k0 := (hb1.cell (p := ⟨bs, 0, none⟩) hbs).trans h0
  have k1 := (hb1.cell (p := ⟨bs, 1, none⟩) hbs).trans h1
  have hsz := hb1.size
  have HB1 := hide hb1
  have HC1 := hide h1
  clear hb1 h0 h1
  go_wp2
  refine wp_loop_rounds 3 ?_
  rw [rounds_succ]
  obtain ⟨av, cv, rfl⟩ := owns_slice hown
  go_wp2_with (at_builtin; refine wpList_append_nocap rfl _ _ 23 rfl w.heap.size 3 i0 1 Tryz.underlying23 hi _ 0 [] rfl hown n (unhide HN1).1 ca rfl ?_; have HB2 := HB1; have hsz2 := hsz; clear k0 k1; have k1 := ((unhide HB2).cell (p := ⟨bs, 1, none⟩) hbs).trans (unhide HC1))
  have hown1' := hown
  clear hown
  rw [rounds_succ]
  go_wp2_with (at_builtin; refine wpList_append_nocap rfl _ _ 23 rfl w.heap.size 3 i0 1 Tryz.underlying23 hi _ _ _ rfl hown1' m (unhide HN2).1 cb rfl ?_; have HB3 := HB2)
  have hown2 := hown1'
  rw [rounds_succ]
  go_wp2
  go_ret
  obtain ⟨rfl, rfl⟩ := unhide HN1
  obtain ⟨rfl, rfl⟩ := unhide HN2
  obtain ⟨a', cap', he, hO⟩ := Own.of_owns (zs := [] ++ []) (by simpa using hown2) (by omega)
  cases he
  exact ⟨_, _, rfl, hO, unhide HB3⟩


/-- slices.Concat of two slices, whatever they are. -/
theorem Concat2_opt (bs : Nat) (oa ob : Option Addr) (n m ca cb : Nat) (xs ys : List Int) (w : World) (h0 : w.cell? ⟨bs, 0, none⟩ = some (.slice oa n ca)) (h1 : w.cell? ⟨bs, 1, none⟩ = some (.slice ob m cb)) (hx : Row w oa n xs) (hy : Row w ob m ys) (hn : n ≤ 1000000) (hm : m ≤ 1000000) :
    Calls Tryz.prog 113 #[.slice (some ⟨bs, 0, none⟩) 2 2] w fun e w' => ∃ a' cap', e = .returned (.slice a' (n + m) cap') ∧ Own w' w.heap.size a' (n + m) (xs ++ ys) ∧ Below w.heap.size w w' := by
  cases oa with
  | none =>
    cases ob with
    | none => exact Concat2_nn bs n m ca cb xs ys w h0 h1 hx hy hn hm
    | some b => exact Concat2_ns bs b n m ca cb xs ys w h0 h1 hx hy hn hm
  | some a =>
    cases ob with
    | none => exact Concat2_sn bs a n m ca cb xs ys w h0 h1 hx hy hn hm
    | some b => exact Concat2_any bs a b n m ca cb xs ys w h0 h1 hx hy hn hm

end Go.Proofs.YtgjpchnkodnieaaGreatDoor
