import Derived.Test.YtogmcecnckgcpaaMBase
import Derived.Test.YtogmcecnckgcpaaMBase
import Derived.Test.YtogmcecnckgcpaaMBase
import Derived.RangeFuncRecord
import Derived.Test.YtogmcecnckgcpaaMBase
import Derived.Deep.RegionHeld3
import Derived.Deep.AppendLies
import Derived.Deep.DeepCutAuto
namespace Go.Proofs.Ytogmcecnckgcpaa
open Go.RowKit

theorem boxAt (w : World) (p : Nat) (c : Bool) (v1 v2 : Value) (hp : p = w.heap.size) : Box (w.alloc (.cells #[.bool c, v1, v2] 27)) p c v1 v2 := by subst hp; exact Box.new w c v1 v2

theorem owns_ge {w : World} {base e size n : Nat} {v : Value} {xs : List Value} (h : w.ownsRow base e size v n xs) : ∀ k, v.ownBlock = some k → base ≤ k := by
  rcases h.2 with ⟨rfl, _⟩ | ⟨g, cap, cur, rfl, hg, _⟩
  · intro k hk; cases hk
  · intro k hk; cases hk; exact hg

theorem one_blk1 (W : World) (x : Int) {wI : World} (h : Below (W.drew.alloc (.cells #[.int .i64 x] 3)).heap.size (W.drew.alloc (.cells #[.int .i64 x] 3)) wI) : Blk wI W.heap.size [x] := (show Blk (W.drew.alloc _) W.heap.size [x] from World.alloc_heap_new W.drew _).below (Nat.le_refl _) h
theorem one_blk2 (W : World) (x : Int) {wI : World} (h : Below ((W.alloc (.cells #[.int .i64 x] 3)).drew).heap.size ((W.alloc (.cells #[.int .i64 x] 3)).drew) wI) : Blk wI W.heap.size [x] := (show Blk ((W.alloc _).drew) W.heap.size [x] from World.alloc_heap_new W _).below (Nat.le_refl _) h

theorem blk_one_cells {w : World} {g : Nat} {x : Int} (h : Blk w g [x]) : ∀ (j : Nat) u, ([.int .i64 x] : List Value)[j]? = some u → w.cell? ((⟨g, 0, none⟩ : Addr).add j) = some u := by
  intro j u hu
  cases j with
  | zero => simp at hu; subst hu; simpa [Addr.add] using h.cell (i := 0) (by simp)
  | succ j => simp at hu

set_option maxRecDepth 20000 in
set_option maxHeartbeats 4000000 in
theorem l5Wider_any (c : Bool) (a1 : Addr) (a2 : Option Addr) (n1 n2 c1 c2 : Nat) (sh : List Int) (w : World) (h1 : Row w (some a1) n1 sh) (hn : n1 ≤ 10000) :
    Calls Try.prog 53 #[.agg #[.bool c, .slice (some a1) n1 c1, .slice a2 n2 c2]] w fun e w' => ∃ g cap, e = .returned (.agg #[.bool c, .slice (some ⟨g, 0, none⟩) (n1 + 1) cap, .slice a2 n2 c2]) ∧ w'.ownsRow w.heap.size 3 1 (.slice (some ⟨g, 0, none⟩) (n1 + 1) cap) (n1 + 1) ((sh ++ [1]).map (Value.int .i64)) ∧ Below w.heap.size w w' := by
  obtain ⟨i0, hi, hz0, hz1, hz2⟩ := info_parts info_int
  obtain ⟨W, hW⟩ : ∃ W, W = (w.alloc (.cells #[.bool c, .slice (some a1) n1 c1, .slice a2 n2 c2] 27)).alloc (.cells #[.bool false, .slice none 0 0, .slice none 0 0] 27) := ⟨_, rfl⟩
  have hz : w.heap.size + 1 < W.heap.size := by rw [hW]; simp
  have HBW : Hid (Below w.heap.size w W) := by rw [hW]; exact ((Below.refl _ w).alloc (Nat.le_refl _) _).alloc (by simp) _
  have HX0 : Hid (Box W w.heap.size c (.slice (some a1) n1 c1) (.slice a2 n2 c2)) := by rw [hW]; exact (Box.new w _ _ _).alloc _
  have HX1 : Hid (Box W (w.heap.size + 1) false (.slice none 0 0) (.slice none 0 0)) := by rw [hW]; exact boxAt _ _ _ _ _ (by simp)
  have H1 := hide (h1.below (Nat.le_refl _) HBW.out)
  have HW := hide hW
  clear hW h1
  go_enter Try.func53, Try.ntmps53
  go_upto_region 1 with fail
  rw [← HW.out]
  clear HW
  have HKEEP : ∀ wx, But (fun k => k = w.heap.size + 1) W wx → wx.cell? ⟨w.heap.size, 0, none⟩ = some (.bool c) ∧ wx.cell? ⟨w.heap.size, 1, none⟩ = some (.slice (some a1) n1 c1) ∧ wx.cell? ⟨w.heap.size, 2, none⟩ = some (.slice a2 n2 c2) := fun wx hwx => by
    obtain ⟨y0, y1, y2, _, _, _⟩ := HX0.out.all
    exact ⟨(hwx.cellAt (by omega) (by omega)).trans y0, (hwx.cellAt (by omega) (by omega)).trans y1, (hwx.cellAt (by omega) (by omega)).trans y2⟩
  obtain ⟨y0, y1, y2⟩ := HKEEP _ (But.refl _ _)
  obtain ⟨r0, r1, r2, r3, r4, r5, r6⟩ := HX1.out.all
  go_region_held3 (fun wx => wx.cell? ⟨w.heap.size, 0, none⟩ = some (.bool c) ∧ wx.cell? ⟨w.heap.size, 1, none⟩ = some (.slice (some a1) n1 c1) ∧ wx.cell? ⟨w.heap.size, 2, none⟩ = some (.slice a2 n2 c2)) (first | exact HKEEP _ (But.refl _ _).drew | exact HKEEP _ (But.of_below hK8) | exact HKEEP _ ((((But.of_below (S := fun k => k = w.heap.size + 1) hK8).setCell (p := ⟨w.heap.size + 1, 0, none⟩) rfl _).setCell (p := ⟨w.heap.size + 1, 1, none⟩) rfl _).setCell (p := ⟨w.heap.size + 1, 2, none⟩) rfl _) | exact HKEEP _ (But.of_below hKI) | exact HKEEP _ ((But.of_below (S := fun k => k = w.heap.size + 1) hKI).alloc _) | exact HKEEP _ ((But.refl _ _).drew.alloc _) | exact HKEEP _ ((But.refl _ _).alloc _).drew)
    (first
    | (go_at_call 37; refine (l3Ints_owns a1 n1 c1 sh _ (by first | exact H1.out.below (Nat.le_refl _) (Below.refl _ W).drew | exact H1.out.below (Nat.le_refl _) ((Below.refl _ W).alloc (Nat.le_refl _) _).drew | exact (H1.out.below (Nat.le_refl _) (Below.refl _ W).drew).alloc _)).mono ?_; rintro e wI ⟨aI, cI, rfl, hoI, hbI⟩; have hKI : Below W.heap.size W wI := (by first | exact (Below.refl _ W).drew.trans (hbI.mono (Nat.le_refl _)) | exact ((Below.refl _ W).alloc (Nat.le_refl _) _).drew.trans (hbI.mono (by simp)) | exact ((Below.refl _ W).drew.alloc (Nat.le_refl _) _).trans (hbI.mono (by simp))); have hoI' := owns_mono (base' := W.heap.size) hoI (by simp); (first | (have hE1 := one_blk2 W 1 hbI) | (have hE1 := one_blk1 W 1 hbI) | skip); have hzI := hKI.size; clear y0 y1 y2 r0 r1 r2 r3 r4 r5 r6; obtain ⟨y0, y1, y2⟩ := HKEEP _ (But.of_below hKI); obtain ⟨r0, r1, r2, r3, r4, r5, r6⟩ := (HX1.out.below (Nat.le_refl _) hKI).all)
    | (refine step_append_lies _ (by rfl) _ _ _ (by rfl) W.heap.size 3 i0 _ 1 8 Try.underlying22 hi hz0 hz1 hz2 rfl (by omega) (.slice aI n1 cI) n1 (sh.map (Value.int .i64)) (by rfl) (hoI'.alloc _) ⟨wI.heap.size, 0, none⟩ 1 1 [.int .i64 1] (by rfl) (by rfl) (cells_new wI _) (one_one _) (by omega) (by unfold maxLen; omega) (by omega) (by first | omega | (simp; omega)) _ rfl ?_; intro g8 p8 w8 hown' hgrow hat hlt8; have hK8 : Below W.heap.size W w8 := hKI.trans (below_append _ hoI' hzI hgrow); have HO8 := hide hown'; clear hown' hgrow hat y0 y1 y2 r0 r1 r2 r3 r4 r5 r6; obtain ⟨y0, y1, y2⟩ := HKEEP _ (But.of_below hK8); obtain ⟨r0, r1, r2, r3, r4, r5, r6⟩ := (HX1.out.below (Nat.le_refl _) hK8).all)
    | (refine step_append_lies _ (by rfl) _ _ _ (by rfl) W.heap.size 3 i0 _ 1 8 Try.underlying22 hi hz0 hz1 hz2 rfl (by omega) (.slice aI n1 cI) n1 (sh.map (Value.int .i64)) (by rfl) hoI' ⟨W.heap.size, 0, none⟩ 1 1 [.int .i64 1] (by rfl) (by rfl) (blk_one_cells hE1) (one_one _) (by omega) (by unfold maxLen; omega) (by omega) (by first | omega | (simp; omega)) _ rfl ?_; intro g8 p8 w8 hown' hgrow hat hlt8; have hK8 : Below W.heap.size W w8 := hKI.grown hgrow hzI (owns_ge hoI'); have HO8 := hide hown'; clear hown' hgrow hat y0 y1 y2 r0 r1 r2 r3 r4 r5 r6; obtain ⟨y0, y1, y2⟩ := HKEEP _ (But.of_below hK8); obtain ⟨r0, r1, r2, r3, r4, r5, r6⟩ := (HX1.out.below (Nat.le_refl _) hK8).all))
  all_goals
    go_wp2_with fail
    have hx := (HX1.out.below (Nat.le_refl _) hK8).sets (c' := c) (u1 := .slice (some ⟨g8, 0, none⟩) (n1 + 1) p8) (u2 := .slice a2 n2 c2)
    obtain ⟨q0, q1, q2, _, _, _⟩ := hx.all
    refine bodyPost_ret (v := .agg #[.bool c, .slice (some ⟨g8, 0, none⟩) (n1 + 1) p8, .slice a2 n2 c2]) (by simp [results, Try.results53, go_sem, q0, q1, q2]) rfl ?_
    have e : (sh ++ [1]).map (Value.int .i64) = sh.map (Value.int .i64) ++ [.int .i64 1] := by simp
    rw [e]
    refine ⟨g8, p8, rfl, owns_mono (owns_low_set (owns_low_set (owns_low_set HO8.out (by omega) _) (by omega) _) (by omega) _) (by omega), ((((HBW.out.trans (hK8.mono (by omega))).setCell (p := ⟨w.heap.size + 1, 0, none⟩) (by simp) _).setCell (p := ⟨w.heap.size + 1, 1, none⟩) (by simp) _).setCell (p := ⟨w.heap.size + 1, 2, none⟩) (by simp) _)⟩

end Go.Proofs.Ytogmcecnckgcpaa
