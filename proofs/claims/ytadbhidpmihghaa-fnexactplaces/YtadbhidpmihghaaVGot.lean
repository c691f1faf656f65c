import Derived.Test.YtadbhidpmihghaaVBoxes
import Derived.Test.YtadbhidpmihghaaMadeRow
import Derived.Test.YtadbhidpmihghaaGrowMore
import Derived.Deep.RegionHeld3
namespace Go.Proofs.Ytadbhidpmihghaa
open Go.RowKit

/-- A box of the call's own holds an array of the shape zs with N zeros. -/
def GotW (wz : World) (zs : List Int) (n N : Nat) (v : Value) (wx : World) : Prop :=
  ∃ pb gd ash csh, v = .pointer (some ⟨pb, 0, none⟩) ∧ wz.heap.size ≤ pb ∧ VBox wx pb 0 (.slice ash n csh) (.slice (some ⟨gd, 0, none⟩) N N) ∧ wz.heap.size ≤ gd ∧ gd ≠ pb ∧ Blk wx gd (List.replicate N 0) ∧ Own wx wz.heap.size ash n zs ∧ ¬ At ash n gd ∧ ¬ At ash n pb ∧ Below wz.heap.size wz wx

abbrev madeV (N : Nat) : Obj := .cells (madeCells #[.int .i64 0] N) 3
abbrev boxV (v1 v2 : Value) : Obj := .cells #[.int .i64 0, v1, v2] 24

theorem Below.undrewV {B : Nat} {w w' : World} (h : Below B w.drew w') : Below B w w' := ⟨h.os, h.tape, h.output, h.size, h.block⟩

section
variable {wz wy wC : World} {zs : List Int} {n N csh : Nat} {ash : Option Addr}

theorem GotW.set {W : World} {pb gd : Nat} {c : Int} {v1 v2 : Value} (hpb : wz.heap.size ≤ pb) (hb : VBox W pb c v1 v2) (hg : wz.heap.size ≤ gd) (hne : gd ≠ pb) (hB : Blk W gd (List.replicate N 0)) (hO : Own W wz.heap.size ash n zs) (h1 : ¬ At ash n gd) (h2 : ¬ At ash n pb) (hbl : Below wz.heap.size wz W) :
    GotW wz zs n N (.pointer (some ⟨pb, 0, none⟩)) (((W.setCell ⟨pb, 0, none⟩ (.int .i64 0)).setCell ⟨pb, 1, none⟩ (.slice ash n csh)).setCell ⟨pb, 2, none⟩ (.slice (some ⟨gd, 0, none⟩) N N)) := by
  have hk : ∀ k, At ash n k → k ≠ pb := fun k hk e => h2 (e ▸ hk)
  exact ⟨pb, gd, ash, csh, rfl, hpb, hb.sets, hg, hne, ((hB.other (p := ⟨pb, 0, none⟩) hne _).other (p := ⟨pb, 1, none⟩) hne _).other (p := ⟨pb, 2, none⟩) hne _, ((hO.other (q := ⟨pb, 0, none⟩) hk _).other (q := ⟨pb, 1, none⟩) hk _).other (q := ⟨pb, 2, none⟩) hk _, h1, h2, ((hbl.setCell (p := ⟨pb, 0, none⟩) hpb _).setCell (p := ⟨pb, 1, none⟩) hpb _).setCell (p := ⟨pb, 2, none⟩) hpb _⟩

theorem GotW.new {W : World} {gd : Nat} (hz : wz.heap.size ≤ W.heap.size) (hg : wz.heap.size ≤ gd) (hB : Blk W gd (List.replicate N 0)) (hO : Own W wz.heap.size ash n zs) (h1 : ¬ At ash n gd) (hbl : Below wz.heap.size wz W) :
    GotW wz zs n N (.pointer (some ⟨W.heap.size, 0, none⟩)) (W.alloc (boxV (.slice ash n csh) (.slice (some ⟨gd, 0, none⟩) N N))) :=
  ⟨W.heap.size, gd, ash, csh, rfl, hz, VBox.new W _ _ _, hg, by have := hB.lt; omega, hB.alloc _, hO.alloc _, h1, fun h => by have := hO.row.hi h; omega, hbl.alloc hz _⟩

theorem vordCMA (hO : Own wC wz.heap.size ash n zs) (hb : Below wz.heap.size wz wC) : GotW wz zs n N (.pointer (some ⟨wC.heap.size + 1, 0, none⟩)) ((wC.alloc (madeV N)).alloc (boxV (.slice ash n csh) (.slice (some ⟨wC.heap.size, 0, none⟩) N N))) := by
  have h := GotW.new (wz := wz) (W := wC.alloc (madeV N)) (gd := wC.heap.size) (csh := csh) (by have := hb.size; simp; omega) hb.size (Blk.made wC N _ rfl) (hO.alloc _) (fun h => by have := hO.row.hi h; omega) (hb.alloc hb.size _)
  rwa [World.size_alloc] at h

theorem vordMCA (hO : Own wC (wy.heap.size + 1) ash n zs) (hy : wy.heap.size = wz.heap.size) (hz : Below wz.heap.size wz wy) (hb : Below (wy.alloc (madeV N)).heap.size (wy.alloc (madeV N)) wC) : GotW wz zs n N (.pointer (some ⟨wC.heap.size, 0, none⟩)) (wC.alloc (boxV (.slice ash n csh) (.slice (some ⟨wz.heap.size, 0, none⟩) N N))) := by
  have hyz : wz.heap.size = wy.heap.size := hy.symm
  suffices hsuf : GotW wz zs n N (.pointer (some ⟨wC.heap.size, 0, none⟩)) (wC.alloc (boxV (.slice ash n csh) (.slice (some ⟨wy.heap.size, 0, none⟩) N N))) by rw [hyz]; exact hsuf
  have hs := hb.size
  rw [World.size_alloc] at hs
  exact GotW.new (by omega) (by omega) ((Blk.made wy N _ rfl).below (Nat.le_refl _) hb) (hO.mono (by omega)) (fun h => by have := hO.low h; omega) ((hz.alloc (by omega) _).trans (hb.mono (by simp; omega)))

theorem vordCAM (hO : Own wC wz.heap.size ash n zs) (hb : Below wz.heap.size wz wC) : GotW wz zs n N (.pointer (some ⟨wC.heap.size, 0, none⟩)) ((wC.alloc (boxV (.slice ash n csh) (.slice (some ⟨wC.heap.size + 1, 0, none⟩) N N))).alloc (madeV N)) :=
  ⟨wC.heap.size, wC.heap.size + 1, ash, csh, rfl, hb.size, (VBox.new wC 0 _ _).alloc _, by have := hb.size; omega, by omega, Blk.made _ N _ (by simp), (hO.alloc _).alloc _, fun h => by have := hO.row.hi h; omega, fun h => by have := hO.row.hi h; omega, (hb.alloc hb.size _).alloc (by have := hb.size; simp; omega) _⟩

theorem vordACM (hO : Own wC (wy.heap.size + 1) ash n zs) (hy : wy.heap.size = wz.heap.size) (hz : Below wz.heap.size wz wy) (hb : Below (wy.alloc (boxV (.slice none 0 0) (.slice none 0 0))).heap.size (wy.alloc (boxV (.slice none 0 0) (.slice none 0 0))) wC) : GotW wz zs n N (.pointer (some ⟨wz.heap.size, 0, none⟩)) ((((wC.setCell ⟨wz.heap.size, 0, none⟩ (.int .i64 0)).setCell ⟨wz.heap.size, 1, none⟩ (.slice ash n csh)).setCell ⟨wz.heap.size, 2, none⟩ (.slice (some ⟨wC.heap.size, 0, none⟩) N N)).alloc (madeV N)) := by
  have hyz : wz.heap.size = wy.heap.size := hy.symm
  suffices hsuf : GotW wz zs n N (.pointer (some ⟨wy.heap.size, 0, none⟩)) ((((wC.setCell ⟨wy.heap.size, 0, none⟩ (.int .i64 0)).setCell ⟨wy.heap.size, 1, none⟩ (.slice ash n csh)).setCell ⟨wy.heap.size, 2, none⟩ (.slice (some ⟨wC.heap.size, 0, none⟩) N N)).alloc (madeV N)) by rw [hyz]; exact hsuf
  have hs := hb.size
  rw [World.size_alloc] at hs
  have hk : ∀ k, At ash n k → k ≠ wy.heap.size := fun k h e => by have := hO.low h; omega
  have hbx := (VBox.new wy 0 (.slice none 0 0) (.slice none 0 0)).below (Nat.le_refl _) hb
  have hzs : (((wC.setCell ⟨wy.heap.size, 0, none⟩ (.int .i64 0)).setCell ⟨wy.heap.size, 1, none⟩ (.slice ash n csh)).setCell ⟨wy.heap.size, 2, none⟩ (.slice (some ⟨wC.heap.size, 0, none⟩) N N)).heap.size = wC.heap.size := by simp
  have hbl : Below wz.heap.size wz wC := (hz.alloc (by omega) _).trans (hb.mono (by simp; omega))
  refine ⟨wy.heap.size, wC.heap.size, ash, csh, rfl, by omega, hbx.sets.alloc _, by omega, by omega, Blk.made _ N _ hzs.symm, ((((hO.mono (by omega)).other (q := ⟨wy.heap.size, 0, none⟩) hk _).other (q := ⟨wy.heap.size, 1, none⟩) hk _).other (q := ⟨wy.heap.size, 2, none⟩) hk _).alloc _, fun h => by have := hO.row.hi h; omega, fun h => hk _ h rfl, ?_⟩
  exact (((hbl.setCell (p := ⟨wy.heap.size, 0, none⟩) (by show _ ≤ wy.heap.size; omega) _).setCell (p := ⟨wy.heap.size, 1, none⟩) (by show _ ≤ wy.heap.size; omega) _).setCell (p := ⟨wy.heap.size, 2, none⟩) (by show _ ≤ wy.heap.size; omega) _).alloc (by rw [hzs]; exact hbl.size) _

theorem vordAMC (hO : Own wC (wy.heap.size + 1 + 1) ash n zs) (hy : wy.heap.size = wz.heap.size) (hz : Below wz.heap.size wz wy) (hb : Below ((wy.alloc (boxV (.slice none 0 0) (.slice none 0 0))).alloc (madeV N)).heap.size ((wy.alloc (boxV (.slice none 0 0) (.slice none 0 0))).alloc (madeV N)) wC) : GotW wz zs n N (.pointer (some ⟨wz.heap.size, 0, none⟩)) (((wC.setCell ⟨wz.heap.size, 0, none⟩ (.int .i64 0)).setCell ⟨wz.heap.size, 1, none⟩ (.slice ash n csh)).setCell ⟨wz.heap.size, 2, none⟩ (.slice (some ⟨wz.heap.size + 1, 0, none⟩) N N)) := by
  have hyz : wz.heap.size = wy.heap.size := hy.symm
  suffices hsuf : GotW wz zs n N (.pointer (some ⟨wy.heap.size, 0, none⟩)) (((wC.setCell ⟨wy.heap.size, 0, none⟩ (.int .i64 0)).setCell ⟨wy.heap.size, 1, none⟩ (.slice ash n csh)).setCell ⟨wy.heap.size, 2, none⟩ (.slice (some ⟨wy.heap.size + 1, 0, none⟩) N N)) by rw [hyz]; exact hsuf
  have hs := hb.size
  rw [World.size_alloc, World.size_alloc] at hs
  refine GotW.set (by omega) (((VBox.new wy 0 _ _).alloc _).below (Nat.le_refl _) hb) (by omega) (by omega) ((Blk.made _ N _ (by simp)).below (Nat.le_refl _) hb) (hO.mono (by omega)) (fun h => by have := hO.low h; omega) (fun h => by have := hO.low h; omega) (((hz.alloc (by omega) _).alloc (by simp; omega) _).trans (hb.mono (by simp; omega)))

theorem vordMAC (hO : Own wC (wy.heap.size + 1 + 1) ash n zs) (hy : wy.heap.size = wz.heap.size) (hz : Below wz.heap.size wz wy) (hb : Below ((wy.alloc (madeV N)).alloc (boxV (.slice none 0 0) (.slice none 0 0))).heap.size ((wy.alloc (madeV N)).alloc (boxV (.slice none 0 0) (.slice none 0 0))) wC) : GotW wz zs n N (.pointer (some ⟨wz.heap.size + 1, 0, none⟩)) (((wC.setCell ⟨wz.heap.size + 1, 0, none⟩ (.int .i64 0)).setCell ⟨wz.heap.size + 1, 1, none⟩ (.slice ash n csh)).setCell ⟨wz.heap.size + 1, 2, none⟩ (.slice (some ⟨wz.heap.size, 0, none⟩) N N)) := by
  have hyz : wz.heap.size = wy.heap.size := hy.symm
  suffices hsuf : GotW wz zs n N (.pointer (some ⟨wy.heap.size + 1, 0, none⟩)) (((wC.setCell ⟨wy.heap.size + 1, 0, none⟩ (.int .i64 0)).setCell ⟨wy.heap.size + 1, 1, none⟩ (.slice ash n csh)).setCell ⟨wy.heap.size + 1, 2, none⟩ (.slice (some ⟨wy.heap.size, 0, none⟩) N N)) by rw [hyz]; exact hsuf
  have hs := hb.size
  rw [World.size_alloc, World.size_alloc] at hs
  have hbx := VBox.new (wy.alloc (madeV N)) 0 (.slice none 0 0) (.slice none 0 0)
  rw [World.size_alloc] at hbx
  refine GotW.set (by omega) (hbx.below (Nat.le_refl _) hb) (by omega) (by omega) (((Blk.made _ N _ rfl).alloc _).below (Nat.le_refl _) hb) (hO.mono (by omega)) (fun h => by have := hO.low h; omega) (fun h => by have := hO.low h; omega) (((hz.alloc (by omega) _).alloc (by simp; omega) _).trans (hb.mono (by simp; omega)))
end

end Go.Proofs.Ytadbhidpmihghaa
