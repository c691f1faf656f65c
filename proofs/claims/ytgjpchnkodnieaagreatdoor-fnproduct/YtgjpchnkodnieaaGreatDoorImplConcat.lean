import Derived.Test.YtgjpchnkodnieaaGreatDoorMFit0
import Derived.Shelf.Spec.SlicesGrow
import Derived.Deep.WholeRow
namespace Go.Proofs
open Go.Shelf
def Tryz.growI_ren : Go.Shelf.Ren := ⟨fun | 4 => 185 | n => n, fun | 22 => 23 | 25 => 3 | 3 => 3 | 4 => 4 | 9 => 9 | 20 => 20 | 0 => 0 | n => n, fun | n => n⟩
theorem Tryz.growI : Go.Proofs.Lays8.n4 Tryz.prog Tryz.growI_ren := {
  mixed := by kernel_rfl
  f4 := ⟨Tryz.f185.name, by decide, Tryz.func185.trans (congrArg some (by kernel_rfl))⟩
  t0 := Tryz.underlying0
  a0 := Tryz.isAgg0
  z0 := Tryz.sizeOf0
  v0 := Tryz.zeroValue0
  t3 := Tryz.underlying3
  a3 := Tryz.isAgg3
  z3 := Tryz.sizeOf3
  v3 := Tryz.zeroValue3
  t4 := Tryz.underlying4
  a4 := Tryz.isAgg4
  z4 := Tryz.sizeOf4
  v4 := Tryz.zeroValue4
  t9 := Tryz.underlying9
  a9 := Tryz.isAgg9
  z9 := Tryz.sizeOf9
  v9 := Tryz.zeroValue9
  t20 := Tryz.underlying20
  a20 := Tryz.isAgg20
  z20 := Tryz.sizeOf20
  v20 := Tryz.zeroValue20
  t22 := Tryz.underlying23
  a22 := Tryz.isAgg23
  z22 := Tryz.sizeOf23
  v22 := Tryz.zeroValue23 }
end Go.Proofs
namespace Go.Proofs.YtgjpchnkodnieaaGreatDoor
open Go.RowKit Go.Shelf

theorem zero_cells_len (n : Nat) : (Builtin.zeroCells (Value.int .i64 0).cells n).size = n := by
  simp [Builtin.zeroCells, Value.cells]

theorem Grow_own (n : Nat) (w : World) (hn : n ≤ 17592186044416) : Calls Tryz.prog 185 #[.slice none 0 0, .int .i64 (n : Nat)] w fun e w' => ∃ v, e = .returned v ∧ w'.ownsRow w.heap.size 3 1 v 0 [] ∧ Below w.heap.size w w' := by
  obtain ⟨i0, hi, hz0, hz1, hz2⟩ := info_parts info_int
  by_cases h0 : n = 0
  · subst h0
    refine (Any8.slices_Grow_room Tryz.growI none 0 0 0 w (Nat.le_refl _) (by omega) (by omega) (by omega)).mono ?_
    rintro e w' ⟨rfl, rfl⟩
    exact ⟨_, rfl, ⟨rfl, .inl ⟨rfl, rfl⟩⟩, Below.refl _ _⟩
  · refine (Any8.slices_Grow_grow Tryz.growI i0 (.int .i64 0) hi hz0 (by rw [hz1]; omega) none 0 0 n [] w (Nat.le_refl _) (by omega) (by rw [hz2]; omega) (by omega) (by simp) (fun _ => rfl) (fun a ha => by cases ha)).mono ?_
    rintro e w' ⟨rfl, rfl⟩
    have hge := grownCap_ge w (0 + n) 0 (Tryz.growI_ren.t 25)
    have hle := grownCap_le_maxLen w (0 + n) 0 (Tryz.growI_ren.t 25) (by unfold maxLen; omega)
    refine ⟨_, rfl, ⟨rfl, .inr ⟨w.heap.size, _, _, rfl, Nat.le_refl _, by exact heap_alloc_last w.drew _, Nat.zero_le _, hle, ?_, rfl⟩⟩, (Below.refl _ _).drew.alloc (by simp) _⟩
    simp only [Nat.zero_add] at hge
    simp only [Array.size_append, zero_cells_len]
    simp
    omega

theorem below_append0 {w w1 : World} {base n : Nat} {v : Value} {xs : List Value} (hown : w.ownsRow base 3 1 v n xs) (hb : base ≤ w.heap.size) (hg : w.grownBy w1 v.ownBlock) : Below base w w1 :=
  (Below.refl _ _).grown hg hb (by
    intro k hk
    rcases hown.2 with ⟨rfl, _⟩ | ⟨g, cap, cur, rfl, hbg, _⟩
    · cases hk
    · cases hk; exact hbg)

set_option maxRecDepth 20000 in
set_option maxHeartbeats 2000000 in
theorem Concat2_any (bs : Nat) (a b : Addr) (n m ca cb : Nat) (xs ys : List Int) (w : World) (h0 : w.cell? ⟨bs, 0, none⟩ = some (.slice (some a) n ca)) (h1 : w.cell? ⟨bs, 1, none⟩ = some (.slice (some b) m cb)) (hx : Row w (some a) n xs) (hy : Row w (some b) m ys) (hn : n ≤ 1000000) (hm : m ≤ 1000000) :
    Calls Tryz.prog 113 #[.slice (some ⟨bs, 0, none⟩) 2 2] w fun e w' => ∃ a' cap', e = .returned (.slice a' (n + m) cap') ∧ Own w' w.heap.size a' (n + m) (xs ++ ys) ∧ Below w.heap.size w w' := by
  have hl1 := hx.len
  have hl2 := hy.len
  have HX := hide hx
  have HY := hide hy
  clear hx hy
  have hbs := World.block_lt_of_cell? _ _ h0
  obtain ⟨i0, hi, hz0, hz1, hz2⟩ := info_parts info_int
  have hs1 : (n : Int) + (m : Int) = ((n + m : Nat) : Int) := by simp
  obtain ⟨s, hs⟩ : ∃ s, s = n + m := ⟨_, rfl⟩
  rw [← hs] at hs1
  have HS := hide hs
  have hsb : s ≤ 2000000 := by omega
  clear hs
  go_enter Tryz.func113, Tryz.ntmps113
  go_wp2
  refine wp_loop_rounds 3 ?_
  rw [rounds_succ]
  go_wp2
  rw [rounds_succ]
  go_wp2
  rw [rounds_succ]
  go_wp2_with fail
  refine (Grow_own s w (by omega)).mono ?_
  rintro e w1 ⟨v, rfl, hown, hb1⟩
  have k0 := (hb1.cell (p := ⟨bs, 0, none⟩) hbs).trans h0
  have k1 := (hb1.cell (p := ⟨bs, 1, none⟩) hbs).trans h1
  have hsz := hb1.size
  have HB1 := hide hb1
  have HC1 := hide h1
  clear hb1 h0 h1
  go_wp2
  refine wp_loop_rounds 3 ?_
  rw [rounds_succ]
  obtain ⟨av, cv, rfl⟩ := owns_slice hown
  go_wp2_with (at_builtin; refine wpList_append_own _ rfl _ _ 23 rfl w.heap.size 3 i0 (.int .i64 0) 1 8 Tryz.underlying23 hi hz0 hz1 hz2 rfl (by decide) _ _ _ rfl hown a n ca (xs.map (Value.int .i64)) rfl (by simpa using hl1) (cells_ints ((unhide HX).below (Nat.le_refl _) (unhide HB1))) (one_ints xs) (by unfold maxLen; omega) (by omega) (by omega) ?_; intro v1 w2 hown1 hgrow1 hnil1; clear hnil1; have HB2 := hide ((unhide HB1).trans (below_append0 hown hsz hgrow1)); have hsz2 := (unhide HB2).size; clear hgrow1 hown k0 k1; have k1 := ((unhide HB2).cell (p := ⟨bs, 1, none⟩) hbs).trans (unhide HC1); obtain ⟨av1, cv1, rfl⟩ := owns_slice hown1)
  have hown1' : w2.ownsRow w.heap.size 3 1 (.slice av1 n cv1) n (xs.map (Value.int .i64)) := by simpa using hown1
  clear hown1
  rw [rounds_succ]
  go_wp2_with (at_builtin; refine wpList_append_own _ rfl _ _ 23 rfl w.heap.size 3 i0 (.int .i64 0) 1 8 Tryz.underlying23 hi hz0 hz1 hz2 rfl (by decide) _ _ _ rfl hown1' b m cb (ys.map (Value.int .i64)) rfl (by simpa using hl2) (cells_ints ((unhide HY).below (Nat.le_refl _) (unhide HB2))) (one_ints ys) (by unfold maxLen; omega) (by omega) (by omega) ?_; intro v2 w3 hown2 hgrow2 hnil2; clear hnil2; have HB3 := hide ((unhide HB2).trans (below_append0 hown1' hsz2 hgrow2)); clear hgrow2 hown1' k1; obtain ⟨av2, cv2, rfl⟩ := owns_slice hown2)
  rw [rounds_succ]
  go_wp2
  go_ret
  obtain ⟨a', cap', he, hO⟩ := Own.of_owns (zs := xs ++ ys) (by rw [List.map_append]; exact hown2) (by omega)
  cases he
  exact ⟨_, _, rfl, hO, unhide HB3⟩

end Go.Proofs.YtgjpchnkodnieaaGreatDoor
