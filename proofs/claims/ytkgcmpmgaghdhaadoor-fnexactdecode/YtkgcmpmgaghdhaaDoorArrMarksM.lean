import Derived.Test.YtkgcmpmgaghdhaaDoorMFit0
import Derived.Test.YtkgcmpmgaghdhaaDoorMFit0
namespace Go.Proofs.YtkgcmpmgaghdhaaDoor
open Go.RowKit

set_option maxHeartbeats 1000000 in
theorem markArray_any (c : Bool) (a1 a2 : Option Addr) (n1 n2 c1 c2 B : Nat) (sh dt : List Int) (k : Int) (w : World) (h1 : Own w B a1 n1 sh) (h2 : Own w B a2 n2 dt) (hap : Apart a1 n1 a2 n2) (hk0 : 0 ≤ k) (hk : k ≤ 2305843009213693952) :
    Calls Tryd.prog 9 #[.agg #[.bool c, .slice a1 n1 c1, .slice a2 n2 c2], .int .i64 k] w fun e w' => e = .returned (.int .i64 (k + n1 + n2)) ∧ Own w' B a1 n1 (marks k n1) ∧ Own w' B a2 n2 (marks (k + n1) n2) ∧ But (fun x => At a1 n1 x ∨ At a2 n2 x) w w' := by
  have hs1 := h1.small
  have hs2 := h2.small
  have hi1 : Hid (∀ x, At a1 n1 x → x < w.heap.size) := fun x hx => h1.row.hi hx
  have H1 := hide h1
  have H2 := hide h2
  have HA := hide hap
  clear h1 h2 hap
  go_enter Tryd.func9, Tryd.ntmps9
  go_wp2_with fail
  refine (markIntS_any _ _ _ B sh _ _ (by exact (unhide H1).below (Nat.le_refl _) ((Below.refl _ _).alloc (Nat.le_refl _) _)) (by omega) (by omega)).mono ?_
  rintro e w1 ⟨rfl, ho1, hb1⟩
  have hz1 := hb1.size
  have hcell : w1.heap[w.heap.size]? = _ := hb1.block w.heap.size (by simp) (fun hx => by have := unhide hi1 _ hx; omega)
  have hc0 := World.cell?_of_block (a := ⟨w.heap.size, 0, none⟩) hcell
  have hc1 := World.cell?_of_block (a := ⟨w.heap.size, 1, none⟩) hcell
  have hc2 := World.cell?_of_block (a := ⟨w.heap.size, 2, none⟩) hcell
  have hf := fun o => World.frozen?_of_block (a := ⟨w.heap.size, o, none⟩) hcell
  simp at hc0 hc1 hc2 hz1
  have ho2 : Own w1 B a2 n2 dt := hb1.own ((unhide H2).below (Nat.le_refl _) ((Below.refl _ _).alloc (Nat.le_refl _) _)) (unhide HA)
  have HO1 := hide ho1
  have HB1 := hide hb1
  clear hcell hf ho1 hb1
  go_wp2_with fail
  refine (markIntS_any _ _ _ B dt _ _ ho2 (by omega) (by omega)).mono ?_
  rintro e w2 ⟨rfl, ho3, hb2⟩
  have HO3 := hide ho3
  have HB2 := hide hb2
  have ho4 : Hid (Own w2 B a1 n1 (marks k n1)) := hb2.own (unhide HO1) (unhide HA).symm
  clear ho3 hb2
  go_wp2
  go_ret
  exact ⟨rfl, unhide ho4, unhide HO3, (((But.refl _ _).alloc _).trans ((unhide HB1).trans (unhide HB2))).mono (fun x hx => by rcases hx with hx | hx; exact absurd hx id; exact hx)⟩

end Go.Proofs.YtkgcmpmgaghdhaaDoor
