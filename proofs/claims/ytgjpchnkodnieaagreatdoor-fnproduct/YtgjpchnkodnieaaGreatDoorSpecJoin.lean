import Derived.Test.YtgjpchnkodnieaaGreatDoorSpecShapeOk
import Derived.Test.YtgjpchnkodnieaaGreatDoorMFit0
import Derived.Test.YtgjpchnkodnieaaGreatDoorMFit0
namespace Go.Proofs.YtgjpchnkodnieaaGreatDoor
open Go.RowKit

set_option maxHeartbeats 1000000 in
theorem l4Joined_any (a b : Addr) (n m ca cb : Nat) (xs ys : List Int) (w : World) (hx : Row w (some a) n xs) (hy : Row w (some b) m ys) (hn : n ≤ 10000) (hm : m ≤ 10000) (r : Bool) (hr : Hid (shapeB (xs ++ ys) = r)) :
    Calls Tryz.prog 104 #[.slice (some a) n ca, .slice (some b) m cb] w fun e w' => ∃ a' cap', e = .returned (.tuple #[.slice a' (n + m) cap', .bool r]) ∧ Own w' w.heap.size a' (n + m) (xs ++ ys) ∧ Below w.heap.size w w' := by
  have HX := hide hx
  have HY := hide hy
  have hly := hy.len
  clear hx hy
  obtain ⟨i0, hi, hz0, hz1, hz2⟩ := info_parts info_int
  go_enter Tryz.func104, Tryz.ntmps104
  go_wp2_with fail
  refine (l3Ints_owns _ _ _ xs _ (unhide HX)).mono ?_
  rintro e w1 ⟨a', cap', rfl, ho, hb1⟩
  have hs1 := hb1.size
  have HB1 := hide hb1
  have HY1 := hide ((unhide HY).below (Nat.le_refl _) hb1)
  clear hb1
  go_wp2_with (at_builtin; refine wpList_append_own _ rfl _ _ 23 rfl w.heap.size 3 i0 (.int .i64 0) 1 8 Tryz.underlying23 hi hz0 hz1 hz2 rfl (by decide) _ _ _ rfl ho b m cb (ys.map (Value.int .i64)) rfl (by simpa using hly) (cells_ints (unhide HY1)) (one_ints ys) (by unfold maxLen; omega) (by omega) (by omega) ?_; intro v1 w2 hown hgrow hnil; clear hnil; (have hown' : w2.ownsRow w.heap.size 3 1 v1 (n + m) ((xs ++ ys).map (Value.int .i64)) := by rw [List.map_append]; exact hown); obtain ⟨a2, cap2, rfl, ho2⟩ := Own.of_owns hown' (by omega); have HO2 := hide ho2; (have HB2 : Hid (Below w.heap.size w w2) := (unhide HB1).grown hgrow (by omega) (by intro k hk; rcases ho.2 with ⟨e, _⟩ | ⟨g, c', cur, e, hg, _⟩; (cases e; cases hk); (cases e; cases hk; exact hg))); clear hown hown' hgrow ho2)
  refine (l3ShapeOk_eq _ _ _ (xs ++ ys) _ (unhide HO2).row r hr).mono ?_
  rintro e w2 ⟨rfl, rfl⟩
  go_wp2
  refine bodyPost_ret (v := .tuple #[.slice a2 (n + m) cap2, .bool r]) (by simp [results, Tryz.results104, go_sem]) rfl ?_
  exact ⟨a2, cap2, rfl, unhide HO2, unhide HB2⟩

end Go.Proofs.YtgjpchnkodnieaaGreatDoor
