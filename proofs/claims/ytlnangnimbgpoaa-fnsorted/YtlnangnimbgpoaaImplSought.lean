import Derived.Test.YtlnangnimbgpoaaImplFirst
import Derived.Test.YtlnangnimbgpoaaMMath
import Derived.Test.YtlnangnimbgpoaaImplClone
import Derived.Test.YtlnangnimbgpoaaMadeRow
import Derived.Test.YtlnangnimbgpoaaMBase
import Derived.Test.YtlnangnimbgpoaaMBase
import Derived.Test.YtlnangnimbgpoaaMStage
import Derived.Maps.OwnOps
import Derived.Deep.RegionHeld3
import Derived.Deep.DeepCutAuto
namespace Go.Proofs.Ytlnangnimbgpoaa
open Go.RowKit Go.Shelf Go.Maps

/-- A box of the call's own holds an array of the shape zs with N zeros. -/
def GotS (wz : World) (zs : List Int) (n N : Nat) (v : Value) (wx : World) : Prop :=
  ∃ pb gd ash csh, v = .pointer (some ⟨pb, 0, none⟩) ∧ wz.heap.size ≤ pb ∧ Box wx pb false (.slice ash n csh) (.slice (some ⟨gd, 0, none⟩) N N) ∧ wz.heap.size ≤ gd ∧ gd ≠ pb ∧ Blk wx gd (List.replicate N 0) ∧ Own wx wz.heap.size ash n zs ∧ ¬ At ash n gd ∧ ¬ At ash n pb ∧ Below wz.heap.size wz wx

abbrev madeB (N : Nat) : Obj := .cells (madeCells #[.int .i64 0] N) 3
abbrev boxB (v1 v2 : Value) : Obj := .cells #[.bool false, v1, v2] 26

theorem Below.undrew {B : Nat} {w w' : World} (h : Below B w.drew w') : Below B w w' := ⟨h.os, h.tape, h.output, h.size, h.block⟩

section
variable {wz wy wC : World} {zs : List Int} {n N csh : Nat} {ash : Option Addr}

theorem GotS.set {W : World} {pb gd : Nat} {c : Bool} {v1 v2 : Value} (hpb : wz.heap.size ≤ pb) (hb : Box W pb c v1 v2) (hg : wz.heap.size ≤ gd) (hne : gd ≠ pb) (hB : Blk W gd (List.replicate N 0)) (hO : Own W wz.heap.size ash n zs) (h1 : ¬ At ash n gd) (h2 : ¬ At ash n pb) (hbl : Below wz.heap.size wz W) :
    GotS wz zs n N (.pointer (some ⟨pb, 0, none⟩)) (((W.setCell ⟨pb, 0, none⟩ (.bool false)).setCell ⟨pb, 1, none⟩ (.slice ash n csh)).setCell ⟨pb, 2, none⟩ (.slice (some ⟨gd, 0, none⟩) N N)) := by
  have hk : ∀ k, At ash n k → k ≠ pb := fun k hk e => h2 (e ▸ hk)
  exact ⟨pb, gd, ash, csh, rfl, hpb, hb.sets, hg, hne, ((hB.other (p := ⟨pb, 0, none⟩) hne _).other (p := ⟨pb, 1, none⟩) hne _).other (p := ⟨pb, 2, none⟩) hne _, ((hO.other (q := ⟨pb, 0, none⟩) hk _).other (q := ⟨pb, 1, none⟩) hk _).other (q := ⟨pb, 2, none⟩) hk _, h1, h2, ((hbl.setCell (p := ⟨pb, 0, none⟩) hpb _).setCell (p := ⟨pb, 1, none⟩) hpb _).setCell (p := ⟨pb, 2, none⟩) hpb _⟩

theorem GotS.new {W : World} {gd : Nat} (hz : wz.heap.size ≤ W.heap.size) (hg : wz.heap.size ≤ gd) (hB : Blk W gd (List.replicate N 0)) (hO : Own W wz.heap.size ash n zs) (h1 : ¬ At ash n gd) (hbl : Below wz.heap.size wz W) :
    GotS wz zs n N (.pointer (some ⟨W.heap.size, 0, none⟩)) (W.alloc (boxB (.slice ash n csh) (.slice (some ⟨gd, 0, none⟩) N N))) :=
  ⟨W.heap.size, gd, ash, csh, rfl, hz, Box.new W _ _ _, hg, by have := hB.lt; omega, hB.alloc _, hO.alloc _, h1, fun h => by have := hO.row.hi h; omega, hbl.alloc hz _⟩

theorem ordCMA (hO : Own wC wz.heap.size ash n zs) (hb : Below wz.heap.size wz wC) : GotS wz zs n N (.pointer (some ⟨wC.heap.size + 1, 0, none⟩)) ((wC.alloc (madeB N)).alloc (boxB (.slice ash n csh) (.slice (some ⟨wC.heap.size, 0, none⟩) N N))) := by
  have h := GotS.new (wz := wz) (W := wC.alloc (madeB N)) (gd := wC.heap.size) (csh := csh) (by have := hb.size; simp; omega) hb.size (Blk.made wC N _ rfl) (hO.alloc _) (fun h => by have := hO.row.hi h; omega) (hb.alloc hb.size _)
  rwa [World.size_alloc] at h

theorem ordMCA (hO : Own wC (wy.heap.size + 1) ash n zs) (hy : wy.heap.size = wz.heap.size) (hz : Below wz.heap.size wz wy) (hb : Below (wy.alloc (madeB N)).heap.size (wy.alloc (madeB N)) wC) : GotS wz zs n N (.pointer (some ⟨wC.heap.size, 0, none⟩)) (wC.alloc (boxB (.slice ash n csh) (.slice (some ⟨wz.heap.size, 0, none⟩) N N))) := by
  have hyz : wz.heap.size = wy.heap.size := hy.symm
  suffices hsuf : GotS wz zs n N (.pointer (some ⟨wC.heap.size, 0, none⟩)) (wC.alloc (boxB (.slice ash n csh) (.slice (some ⟨wy.heap.size, 0, none⟩) N N))) by rw [hyz]; exact hsuf
  have hs := hb.size
  rw [World.size_alloc] at hs
  exact GotS.new (by omega) (by omega) ((Blk.made wy N _ rfl).below (Nat.le_refl _) hb) (hO.mono (by omega)) (fun h => by have := hO.low h; omega) ((hz.alloc (by omega) _).trans (hb.mono (by simp; omega)))

theorem ordCAM (hO : Own wC wz.heap.size ash n zs) (hb : Below wz.heap.size wz wC) : GotS wz zs n N (.pointer (some ⟨wC.heap.size, 0, none⟩)) ((wC.alloc (boxB (.slice ash n csh) (.slice (some ⟨wC.heap.size + 1, 0, none⟩) N N))).alloc (madeB N)) :=
  ⟨wC.heap.size, wC.heap.size + 1, ash, csh, rfl, hb.size, (Box.new wC false _ _).alloc _, by have := hb.size; omega, by omega, Blk.made _ N _ (by simp), (hO.alloc _).alloc _, fun h => by have := hO.row.hi h; omega, fun h => by have := hO.row.hi h; omega, (hb.alloc hb.size _).alloc (by have := hb.size; simp; omega) _⟩

theorem ordACM (hO : Own wC (wy.heap.size + 1) ash n zs) (hy : wy.heap.size = wz.heap.size) (hz : Below wz.heap.size wz wy) (hb : Below (wy.alloc (boxB (.slice none 0 0) (.slice none 0 0))).heap.size (wy.alloc (boxB (.slice none 0 0) (.slice none 0 0))) wC) : GotS wz zs n N (.pointer (some ⟨wz.heap.size, 0, none⟩)) ((((wC.setCell ⟨wz.heap.size, 0, none⟩ (.bool false)).setCell ⟨wz.heap.size, 1, none⟩ (.slice ash n csh)).setCell ⟨wz.heap.size, 2, none⟩ (.slice (some ⟨wC.heap.size, 0, none⟩) N N)).alloc (madeB N)) := by
  have hyz : wz.heap.size = wy.heap.size := hy.symm
  suffices hsuf : GotS wz zs n N (.pointer (some ⟨wy.heap.size, 0, none⟩)) ((((wC.setCell ⟨wy.heap.size, 0, none⟩ (.bool false)).setCell ⟨wy.heap.size, 1, none⟩ (.slice ash n csh)).setCell ⟨wy.heap.size, 2, none⟩ (.slice (some ⟨wC.heap.size, 0, none⟩) N N)).alloc (madeB N)) by rw [hyz]; exact hsuf
  have hs := hb.size
  rw [World.size_alloc] at hs
  have hk : ∀ k, At ash n k → k ≠ wy.heap.size := fun k h e => by have := hO.low h; omega
  have hbx := (Box.new wy false (.slice none 0 0) (.slice none 0 0)).below (Nat.le_refl _) hb
  have hzs : (((wC.setCell ⟨wy.heap.size, 0, none⟩ (.bool false)).setCell ⟨wy.heap.size, 1, none⟩ (.slice ash n csh)).setCell ⟨wy.heap.size, 2, none⟩ (.slice (some ⟨wC.heap.size, 0, none⟩) N N)).heap.size = wC.heap.size := by simp
  have hbl : Below wz.heap.size wz wC := (hz.alloc (by omega) _).trans (hb.mono (by simp; omega))
  refine ⟨wy.heap.size, wC.heap.size, ash, csh, rfl, by omega, hbx.sets.alloc _, by omega, by omega, Blk.made _ N _ hzs.symm, ((((hO.mono (by omega)).other (q := ⟨wy.heap.size, 0, none⟩) hk _).other (q := ⟨wy.heap.size, 1, none⟩) hk _).other (q := ⟨wy.heap.size, 2, none⟩) hk _).alloc _, fun h => by have := hO.row.hi h; omega, fun h => hk _ h rfl, ?_⟩
  exact (((hbl.setCell (p := ⟨wy.heap.size, 0, none⟩) (by show _ ≤ wy.heap.size; omega) _).setCell (p := ⟨wy.heap.size, 1, none⟩) (by show _ ≤ wy.heap.size; omega) _).setCell (p := ⟨wy.heap.size, 2, none⟩) (by show _ ≤ wy.heap.size; omega) _).alloc (by rw [hzs]; exact hbl.size) _

theorem ordAMC (hO : Own wC (wy.heap.size + 1 + 1) ash n zs) (hy : wy.heap.size = wz.heap.size) (hz : Below wz.heap.size wz wy) (hb : Below ((wy.alloc (boxB (.slice none 0 0) (.slice none 0 0))).alloc (madeB N)).heap.size ((wy.alloc (boxB (.slice none 0 0) (.slice none 0 0))).alloc (madeB N)) wC) : GotS wz zs n N (.pointer (some ⟨wz.heap.size, 0, none⟩)) (((wC.setCell ⟨wz.heap.size, 0, none⟩ (.bool false)).setCell ⟨wz.heap.size, 1, none⟩ (.slice ash n csh)).setCell ⟨wz.heap.size, 2, none⟩ (.slice (some ⟨wz.heap.size + 1, 0, none⟩) N N)) := by
  have hyz : wz.heap.size = wy.heap.size := hy.symm
  suffices hsuf : GotS wz zs n N (.pointer (some ⟨wy.heap.size, 0, none⟩)) (((wC.setCell ⟨wy.heap.size, 0, none⟩ (.bool false)).setCell ⟨wy.heap.size, 1, none⟩ (.slice ash n csh)).setCell ⟨wy.heap.size, 2, none⟩ (.slice (some ⟨wy.heap.size + 1, 0, none⟩) N N)) by rw [hyz]; exact hsuf
  have hs := hb.size
  rw [World.size_alloc, World.size_alloc] at hs
  refine GotS.set (by omega) (((Box.new wy false _ _).alloc _).below (Nat.le_refl _) hb) (by omega) (by omega) ((Blk.made _ N _ (by simp)).below (Nat.le_refl _) hb) (hO.mono (by omega)) (fun h => by have := hO.low h; omega) (fun h => by have := hO.low h; omega) (((hz.alloc (by omega) _).alloc (by simp; omega) _).trans (hb.mono (by simp; omega)))

theorem ordMAC (hO : Own wC (wy.heap.size + 1 + 1) ash n zs) (hy : wy.heap.size = wz.heap.size) (hz : Below wz.heap.size wz wy) (hb : Below ((wy.alloc (madeB N)).alloc (boxB (.slice none 0 0) (.slice none 0 0))).heap.size ((wy.alloc (madeB N)).alloc (boxB (.slice none 0 0) (.slice none 0 0))) wC) : GotS wz zs n N (.pointer (some ⟨wz.heap.size + 1, 0, none⟩)) (((wC.setCell ⟨wz.heap.size + 1, 0, none⟩ (.bool false)).setCell ⟨wz.heap.size + 1, 1, none⟩ (.slice ash n csh)).setCell ⟨wz.heap.size + 1, 2, none⟩ (.slice (some ⟨wz.heap.size, 0, none⟩) N N)) := by
  have hyz : wz.heap.size = wy.heap.size := hy.symm
  suffices hsuf : GotS wz zs n N (.pointer (some ⟨wy.heap.size + 1, 0, none⟩)) (((wC.setCell ⟨wy.heap.size + 1, 0, none⟩ (.bool false)).setCell ⟨wy.heap.size + 1, 1, none⟩ (.slice ash n csh)).setCell ⟨wy.heap.size + 1, 2, none⟩ (.slice (some ⟨wy.heap.size, 0, none⟩) N N)) by rw [hyz]; exact hsuf
  have hs := hb.size
  rw [World.size_alloc, World.size_alloc] at hs
  have hbx := Box.new (wy.alloc (madeB N)) false (.slice none 0 0) (.slice none 0 0)
  rw [World.size_alloc] at hbx
  refine GotS.set (by omega) (hbx.below (Nat.le_refl _) hb) (by omega) (by omega) (((Blk.made _ N _ rfl).alloc _).below (Nat.le_refl _) hb) (hO.mono (by omega)) (fun h => by have := hO.low h; omega) (fun h => by have := hO.low h; omega) (((hz.alloc (by omega) _).alloc (by simp; omega) _).trans (hb.mono (by simp; omega)))
end

end Go.Proofs.Ytlnangnimbgpoaa
