import Derived.Test.YtgjpchnkodnieaaGreatDoorZv11
import Derived.Test.YtgjpchnkodnieaaGreatDoorZv04
import Derived.Test.YtgjpchnkodnieaaGreatDoorZv07
import Derived.Deep.RegionHeld3
import Derived.Test.YtgjpchnkodnieaaGreatDoorZv10
import Derived.Test.YtgjpchnkodnieaaGreatDoorZv00
import Derived.Test.YtgjpchnkodnieaaGreatDoorZv05
import Derived.Shelf.Slices.In.SortNone
import Derived.Sort.OwnSortedInts
import Derived.Test.YtgjpchnkodnieaaGreatDoorZv09
import Derived.LaidMore
import Derived.Stop.LaidTwo
import Derived.Stop.Joined
import Derived.Lib.LaidTab
import Derived.Test.YtgjpchnkodnieaaGreatDoorZv01
import Derived.BigQuiet
import Derived.Laws.CopyOwn
import Derived.Laws.Bits64b
import Derived.Deep.DeepCutAuto
namespace Go.Proofs.YtgjpchnkodnieaaGreatDoor
open Go.RowKit
def GotW (wz : World) (zs : List Int) (n N : Nat) (v : Value) (wx : World) : Prop :=
  ∃ pb gd ash csh, v = .pointer (some ⟨pb, 0, none⟩) ∧ wz.heap.size ≤ pb ∧ VBox wx pb 0 (.slice ash n csh) (.slice (some ⟨gd, 0, none⟩) N N) ∧ wz.heap.size ≤ gd ∧ gd ≠ pb ∧ Blk wx gd (List.replicate N 0) ∧ OwnR wx wz.heap.size ash n csh zs ∧ ¬ Bo ash gd ∧ ¬ At ash n pb ∧ Below wz.heap.size wz wx
abbrev madeV (N : Nat) : Obj := .cells (madeCells #[.int .i64 0] N) 3
abbrev boxV (v1 v2 : Value) : Obj := .cells #[.int .i64 0, v1, v2] 46
theorem Below.undrewV {B : Nat} {w w' : World} (h : Below B w.drew w') : Below B w w' := ⟨h.os, h.tape, h.output, h.size, h.block⟩
section
variable {wz wy wC : World} {zs : List Int} {n N csh : Nat} {ash : Option Addr}
theorem GotW.set {W : World} {pb gd : Nat} {c : Int} {v1 v2 : Value} (hpb : wz.heap.size ≤ pb) (hb : VBox W pb c v1 v2) (hg : wz.heap.size ≤ gd) (hne : gd ≠ pb) (hB : Blk W gd (List.replicate N 0)) (hO : OwnR W wz.heap.size ash n csh zs) (h1 : ¬ Bo ash gd) (h2 : ¬ At ash n pb) (hbl : Below wz.heap.size wz W) :
    GotW wz zs n N (.pointer (some ⟨pb, 0, none⟩)) (((W.setCell ⟨pb, 0, none⟩ (.int .i64 0)).setCell ⟨pb, 1, none⟩ (.slice ash n csh)).setCell ⟨pb, 2, none⟩ (.slice (some ⟨gd, 0, none⟩) N N)) := by
  have hk : ∀ k, At ash n k → k ≠ pb := fun k hk e => h2 (e ▸ hk)
  exact ⟨pb, gd, ash, csh, rfl, hpb, hb.sets, hg, hne, ((hB.other (p := ⟨pb, 0, none⟩) hne _).other (p := ⟨pb, 1, none⟩) hne _).other (p := ⟨pb, 2, none⟩) hne _, ((hO.other (p := pb) (o := 0) hk _).other (p := pb) (o := 1) hk _).other (p := pb) (o := 2) hk _, h1, h2, ((hbl.setCell (p := ⟨pb, 0, none⟩) hpb _).setCell (p := ⟨pb, 1, none⟩) hpb _).setCell (p := ⟨pb, 2, none⟩) hpb _⟩
theorem GotW.new {W : World} {gd : Nat} (hz : wz.heap.size ≤ W.heap.size) (hg : wz.heap.size ≤ gd) (hB : Blk W gd (List.replicate N 0)) (hO : OwnR W wz.heap.size ash n csh zs) (h1 : ¬ Bo ash gd) (hbl : Below wz.heap.size wz W) :
    GotW wz zs n N (.pointer (some ⟨W.heap.size, 0, none⟩)) (W.alloc (boxV (.slice ash n csh) (.slice (some ⟨gd, 0, none⟩) N N))) :=
  ⟨W.heap.size, gd, ash, csh, rfl, hz, VBox.new W _ _ _, hg, by have := hB.lt; omega, hB.alloc _, hO.alloc _, h1, fun h => by have := hO.row.hi h; omega, hbl.alloc hz _⟩
theorem vordCMA (hO : OwnR wC wz.heap.size ash n csh zs) (hb : Below wz.heap.size wz wC) : GotW wz zs n N (.pointer (some ⟨wC.heap.size + 1, 0, none⟩)) ((wC.alloc (madeV N)).alloc (boxV (.slice ash n csh) (.slice (some ⟨wC.heap.size, 0, none⟩) N N))) := by
  have h := GotW.new (wz := wz) (W := wC.alloc (madeV N)) (gd := wC.heap.size) (csh := csh) (by have := hb.size; simp; omega) hb.size (Blk.made wC N _ rfl) (hO.alloc _) (fun h => by have := hO.hiB h; omega) (hb.alloc hb.size _)
  rwa [World.size_alloc] at h
theorem vordMCA (hO : OwnR wC (wy.heap.size + 1) ash n csh zs) (hy : wy.heap.size = wz.heap.size) (hz : Below wz.heap.size wz wy) (hb : Below (wy.alloc (madeV N)).heap.size (wy.alloc (madeV N)) wC) : GotW wz zs n N (.pointer (some ⟨wC.heap.size, 0, none⟩)) (wC.alloc (boxV (.slice ash n csh) (.slice (some ⟨wz.heap.size, 0, none⟩) N N))) := by
  have hyz : wz.heap.size = wy.heap.size := hy.symm
  suffices hsuf : GotW wz zs n N (.pointer (some ⟨wC.heap.size, 0, none⟩)) (wC.alloc (boxV (.slice ash n csh) (.slice (some ⟨wy.heap.size, 0, none⟩) N N))) by rw [hyz]; exact hsuf
  have hs := hb.size
  rw [World.size_alloc] at hs
  exact GotW.new (by omega) (by omega) ((Blk.made wy N _ rfl).below (Nat.le_refl _) hb) (hO.mono (by omega)) (fun h => by have := hO.lowB h; omega) ((hz.alloc (by omega) _).trans (hb.mono (by simp; omega)))
theorem vordCAM (hO : OwnR wC wz.heap.size ash n csh zs) (hb : Below wz.heap.size wz wC) : GotW wz zs n N (.pointer (some ⟨wC.heap.size, 0, none⟩)) ((wC.alloc (boxV (.slice ash n csh) (.slice (some ⟨wC.heap.size + 1, 0, none⟩) N N))).alloc (madeV N)) :=
  ⟨wC.heap.size, wC.heap.size + 1, ash, csh, rfl, hb.size, (VBox.new wC 0 _ _).alloc _, by have := hb.size; omega, by omega, Blk.made _ N _ (by simp), (hO.alloc _).alloc _, fun h => by have := hO.hiB h; omega, fun h => by have := hO.row.hi h; omega, (hb.alloc hb.size _).alloc (by have := hb.size; simp; omega) _⟩
theorem vordACM (hO : OwnR wC (wy.heap.size + 1) ash n csh zs) (hy : wy.heap.size = wz.heap.size) (hz : Below wz.heap.size wz wy) (hb : Below (wy.alloc (boxV (.slice none 0 0) (.slice none 0 0))).heap.size (wy.alloc (boxV (.slice none 0 0) (.slice none 0 0))) wC) : GotW wz zs n N (.pointer (some ⟨wz.heap.size, 0, none⟩)) ((((wC.setCell ⟨wz.heap.size, 0, none⟩ (.int .i64 0)).setCell ⟨wz.heap.size, 1, none⟩ (.slice ash n csh)).setCell ⟨wz.heap.size, 2, none⟩ (.slice (some ⟨wC.heap.size, 0, none⟩) N N)).alloc (madeV N)) := by
  have hyz : wz.heap.size = wy.heap.size := hy.symm
  suffices hsuf : GotW wz zs n N (.pointer (some ⟨wy.heap.size, 0, none⟩)) ((((wC.setCell ⟨wy.heap.size, 0, none⟩ (.int .i64 0)).setCell ⟨wy.heap.size, 1, none⟩ (.slice ash n csh)).setCell ⟨wy.heap.size, 2, none⟩ (.slice (some ⟨wC.heap.size, 0, none⟩) N N)).alloc (madeV N)) by rw [hyz]; exact hsuf
  have hs := hb.size
  rw [World.size_alloc] at hs
  have hk : ∀ k, At ash n k → k ≠ wy.heap.size := fun k h e => by have := hO.low h; omega
  have hbx := (VBox.new wy 0 (.slice none 0 0) (.slice none 0 0)).below (Nat.le_refl _) hb
  have hzs : (((wC.setCell ⟨wy.heap.size, 0, none⟩ (.int .i64 0)).setCell ⟨wy.heap.size, 1, none⟩ (.slice ash n csh)).setCell ⟨wy.heap.size, 2, none⟩ (.slice (some ⟨wC.heap.size, 0, none⟩) N N)).heap.size = wC.heap.size := by simp
  have hbl : Below wz.heap.size wz wC := (hz.alloc (by omega) _).trans (hb.mono (by simp; omega))
  refine ⟨wy.heap.size, wC.heap.size, ash, csh, rfl, by omega, hbx.sets.alloc _, by omega, by omega, Blk.made _ N _ hzs.symm, ((((hO.mono (by omega)).other (p := wy.heap.size) (o := 0) hk _).other (p := wy.heap.size) (o := 1) hk _).other (p := wy.heap.size) (o := 2) hk _).alloc _, fun h => by have := hO.hiB h; omega, fun h => hk _ h rfl, ?_⟩
  exact (((hbl.setCell (p := ⟨wy.heap.size, 0, none⟩) (by show _ ≤ wy.heap.size; omega) _).setCell (p := ⟨wy.heap.size, 1, none⟩) (by show _ ≤ wy.heap.size; omega) _).setCell (p := ⟨wy.heap.size, 2, none⟩) (by show _ ≤ wy.heap.size; omega) _).alloc (by rw [hzs]; exact hbl.size) _
theorem vordAMC (hO : OwnR wC (wy.heap.size + 1 + 1) ash n csh zs) (hy : wy.heap.size = wz.heap.size) (hz : Below wz.heap.size wz wy) (hb : Below ((wy.alloc (boxV (.slice none 0 0) (.slice none 0 0))).alloc (madeV N)).heap.size ((wy.alloc (boxV (.slice none 0 0) (.slice none 0 0))).alloc (madeV N)) wC) : GotW wz zs n N (.pointer (some ⟨wz.heap.size, 0, none⟩)) (((wC.setCell ⟨wz.heap.size, 0, none⟩ (.int .i64 0)).setCell ⟨wz.heap.size, 1, none⟩ (.slice ash n csh)).setCell ⟨wz.heap.size, 2, none⟩ (.slice (some ⟨wz.heap.size + 1, 0, none⟩) N N)) := by
  have hyz : wz.heap.size = wy.heap.size := hy.symm
  suffices hsuf : GotW wz zs n N (.pointer (some ⟨wy.heap.size, 0, none⟩)) (((wC.setCell ⟨wy.heap.size, 0, none⟩ (.int .i64 0)).setCell ⟨wy.heap.size, 1, none⟩ (.slice ash n csh)).setCell ⟨wy.heap.size, 2, none⟩ (.slice (some ⟨wy.heap.size + 1, 0, none⟩) N N)) by rw [hyz]; exact hsuf
  have hs := hb.size
  rw [World.size_alloc, World.size_alloc] at hs
  refine GotW.set (by omega) (((VBox.new wy 0 _ _).alloc _).below (Nat.le_refl _) hb) (by omega) (by omega) ((Blk.made _ N _ (by simp)).below (Nat.le_refl _) hb) (hO.mono (by omega)) (fun h => by have := hO.lowB h; omega) (fun h => by have := hO.low h; omega) (((hz.alloc (by omega) _).alloc (by simp; omega) _).trans (hb.mono (by simp; omega)))
theorem vordMAC (hO : OwnR wC (wy.heap.size + 1 + 1) ash n csh zs) (hy : wy.heap.size = wz.heap.size) (hz : Below wz.heap.size wz wy) (hb : Below ((wy.alloc (madeV N)).alloc (boxV (.slice none 0 0) (.slice none 0 0))).heap.size ((wy.alloc (madeV N)).alloc (boxV (.slice none 0 0) (.slice none 0 0))) wC) : GotW wz zs n N (.pointer (some ⟨wz.heap.size + 1, 0, none⟩)) (((wC.setCell ⟨wz.heap.size + 1, 0, none⟩ (.int .i64 0)).setCell ⟨wz.heap.size + 1, 1, none⟩ (.slice ash n csh)).setCell ⟨wz.heap.size + 1, 2, none⟩ (.slice (some ⟨wz.heap.size, 0, none⟩) N N)) := by
  have hyz : wz.heap.size = wy.heap.size := hy.symm
  suffices hsuf : GotW wz zs n N (.pointer (some ⟨wy.heap.size + 1, 0, none⟩)) (((wC.setCell ⟨wy.heap.size + 1, 0, none⟩ (.int .i64 0)).setCell ⟨wy.heap.size + 1, 1, none⟩ (.slice ash n csh)).setCell ⟨wy.heap.size + 1, 2, none⟩ (.slice (some ⟨wy.heap.size, 0, none⟩) N N)) by rw [hyz]; exact hsuf
  have hs := hb.size
  rw [World.size_alloc, World.size_alloc] at hs
  have hbx := VBox.new (wy.alloc (madeV N)) 0 (.slice none 0 0) (.slice none 0 0)
  rw [World.size_alloc] at hbx
  refine GotW.set (by omega) (hbx.below (Nat.le_refl _) hb) (by omega) (by omega) (((Blk.made _ N _ rfl).alloc _).below (Nat.le_refl _) hb) (hO.mono (by omega)) (fun h => by have := hO.lowB h; omega) (fun h => by have := hO.low h; omega) (((hz.alloc (by omega) _).alloc (by simp; omega) _).trans (hb.mono (by simp; omega)))
end
end Go.Proofs.YtgjpchnkodnieaaGreatDoor
namespace Go.Proofs.YtgjpchnkodnieaaGreatDoor
open Go.RowKit Go.Shelf
theorem Sort_own (base n : Nat) (v : Value) (zs : List Int) (w : World) (hrow : w.ownsRow base 3 1 v n (zs.map (Value.int .i64))) (hnil : v = .slice none 0 0 ↔ n = 0) (hl : zs.length = n) (hn : n ≤ 10000) (hb : base ≤ w.heap.size) :
    Calls Tryz.prog 225 #[v] w fun e w' => e = .returned (.tuple #[]) ∧ w'.ownsRow base 3 1 v n ((sortedI zs).map (Value.int .i64)) ∧ Below base w w' := by
  by_cases h0 : n = 0
  · obtain rfl := hnil.2 h0
    subst h0
    have hz : zs = [] := List.length_eq_zero_iff.1 hl
    subst hz
    refine (Any.slices_Sort_int_none Tryz.sortI none 0 w).mono ?_
    rintro e w' ⟨rfl, rfl⟩
    exact ⟨rfl, by simpa [sortedI] using hrow, Below.refl _ _⟩
  · obtain ⟨h1, h2⟩ := hrow
    rcases h2 with ⟨h, _⟩ | ⟨g, cap, cur, rfl, hg, hgb, hc1, hc2, hc3, hc4⟩
    · exact absurd (hnil.1 h) h0
    · have hH := holds_of_blockI (ss := zs) hgb (by rw [hl]; simpa using hc4)
      have hgl : g < w.heap.size := (Array.getElem?_eq_some_iff.1 hgb).1
      subst hl
      refine (Any.slices_Sort_int Tryz.sortI g 0 cap zs w hH hgl (by omega)).mono ?_
      rintro e w' ⟨rfl, q, os, rfl⟩
      refine ⟨rfl, ownsRow_sortedI (sortedI_len zs) hg hgb hc1 hc2 hc3, ?_⟩
      exact (Below.refl base w).grown (grownBy_sortedI _) hb (fun k e => by cases e; exact hg)
set_option maxHeartbeats 1000000 in
theorem Collect_any (Bn : Nat) (sa : Option Addr) (n cap : Nat) (zs : List Int) (w : World) (hBox : w.cell? ⟨Bn, 0, none⟩ = some (.slice sa n cap)) (hBn : Bn < w.heap.size) (hr : Row w sa n zs) (hn : n ≤ 10000) :
    Calls Tryz.prog 224 #[.func (.func 226) #[] #[.pointer (some ⟨Bn, 0, none⟩)]] w fun e w' => ∃ v, e = .returned v ∧ w'.ownsRow w.heap.size 3 1 v n (zs.map (Value.int .i64)) ∧ (v = .slice none 0 0 ↔ n = 0) ∧ Below w.heap.size w w' := by
  have HC := hide (appendSeq_any Bn sa n cap zs w hBox hBn hr hn)
  clear hBox hBn hr
  go_enter Tryz.func224, Tryz.ntmps224
  go_wp2_with (go_at_call 272; refine HC.out.mono ?_; rintro e w1 ⟨v, rfl, hv1, hv2, hv3⟩)
  go_ret
  exact ⟨v, rfl, hv1, hv2, hv3⟩
set_option maxHeartbeats 1000000 in
theorem Sorted_any (Bn : Nat) (sa : Option Addr) (n cap : Nat) (zs : List Int) (w : World) (hBox : w.cell? ⟨Bn, 0, none⟩ = some (.slice sa n cap)) (hBn : Bn < w.heap.size) (hr : Row w sa n zs) (hn : n ≤ 10000) :
    Calls Tryz.prog 146 #[.func (.func 226) #[] #[.pointer (some ⟨Bn, 0, none⟩)]] w fun e w' => ∃ a cp, e = .returned (.slice a n cp) ∧ Row w' a n (sortedI zs) ∧ Below w.heap.size w w' := by
  have HC := hide (Collect_any Bn sa n cap zs w hBox hBn hr hn)
  have HL := hide hr.len
  clear hBox hBn hr
  go_enter Tryz.func146, Tryz.ntmps146
  go_wp2_with (first | (go_at_call 224; refine HC.out.mono ?_; rintro e w1 ⟨v, rfl, hv1, hv2, hv3⟩; have H1 := hide hv1; have H2 : Hid (v = .slice none 0 0 ↔ n = 0) := hv2; have H3 := hide hv3; clear hv1 hv2 hv3) | (go_at_call 225; refine (Sort_own w.heap.size n v zs _ H1.out H2.out HL.out hn H3.out.size).mono ?_; rintro e w2 ⟨rfl, ho, hb⟩; have HO := hide ho; have HB := hide hb; clear ho hb))
  go_ret
  obtain ⟨a, cp, rfl, ho⟩ := Own.of_owns HO.out (by omega)
  exact ⟨a, cp, rfl, ho.row, H3.out.trans (HB.out)⟩
set_option maxHeartbeats 1000000 in
theorem isOrder_any (sa : Option Addr) (n cap : Nat) (zs : List Int) (w : World) (hr : Row w sa n zs) (hn : n ≤ 10000) (r : Bool) (hres : Hid (inTurn (sortedI zs) n = r)) :
    Calls Tryz.prog 58 #[.slice sa n cap] w fun e w' => e = .returned (.bool r) ∧ Below w.heap.size w w' := by
  have HS : Hid (Calls Tryz.prog 146 #[.func (.func 226) #[] #[.pointer (some ⟨w.heap.size, 0, none⟩)]] (w.alloc (.cells #[.slice sa n cap] 23)) fun e w' => ∃ a cp, e = .returned (.slice a n cp) ∧ Row w' a n (sortedI zs) ∧ Below (w.alloc (.cells #[.slice sa n cap] 23)).heap.size (w.alloc (.cells #[.slice sa n cap] 23)) w') := Sorted_any w.heap.size sa n cap zs _ (Boxed.new w _ _).cell (by simp) (hr.alloc _) hn
  clear hr
  go_enter Tryz.func58, Tryz.ntmps58
  go_wp2_with (first | (go_at_call 147; refine (Values_any _ _ _ _).mono ?_; rintro e w1 ⟨rfl, hw1⟩; subst hw1) | (go_at_call 146; refine HS.out.mono ?_; rintro e w2 ⟨a, cp, rfl, hro, hbl⟩; have HR := hide hro; have HB : Hid (Below w.heap.size w w2) := ((Below.refl _ w).alloc (Nat.le_refl _) _).trans (hbl.mono (by simp)); clear hro hbl))
  clear HS
  obtain ⟨ys, hys⟩ : ∃ ys, ys = sortedI zs := ⟨_, rfl⟩
  rw [← hys] at hres HR
  clear hys
  go_loopw [9] (fun i wr => ∃ k : Nat, k ≤ n ∧ i = .int .i64 (k : Nat) ∧ wr = w2 ∧ Hid (inTurn ys k = true)) (fun i _ => n - (intOf i).toNat)
  case atStart => exact ⟨0, Nat.zero_le _, rfl, rfl, rfl⟩
  case round =>
    obtain ⟨k, hk, rfl, hw, hin⟩ := hrel
    subst hw
    by_cases hlt : k < n
    · obtain ⟨b, off, rfl, hblt, hc⟩ := HR.out.get hlt
      obtain ⟨x, hx⟩ : ∃ x, x = ys.getD k 0 := ⟨_, rfl⟩
      rw [← hx] at hc
      by_cases he : x = (k : Int) + 1
      · have HN : Hid (inTurn ys (k + 1) = true) := by simp only [inTurn, Bool.and_eq_true, decide_eq_true_eq]; exact ⟨hin.out, by rw [← hx]; exact he⟩
        subst he
        clear hx
        go_wp2_with fail
        go_roundw
        case rel => exact ⟨k + 1, by omega, by go_num, by first | rfl | trivial, HN⟩
        case measure => simp [intOf]; omega
      · obtain rfl : r = false := by rw [← hres.out]; exact inTurn_not hlt (by rw [← hx]; exact he)
        have hq : (x != (k : Int) + 1) = true := by simp [he]
        clear hx he
        go_wp2_with fail
        go_ret
        exact ⟨rfl, HB.out⟩
    · have : k = n := by omega
      subst this
      obtain rfl : r = true := by rw [← hres.out]; exact hin.out
      go_wp2_with fail
      go_ret
      exact ⟨rfl, HB.out⟩
end Go.Proofs.YtgjpchnkodnieaaGreatDoor
namespace Go.Proofs.YtgjpchnkodnieaaGreatDoor
open Go.ChangeShapes Go.WideShapes Go.ChangeAt Go.RowKit Go.Joins
theorem gNo : Tryz.prog.globalNamed "loop.example/s02542/impl.errNoResult" = some 2 := by kernel_rfl
theorem gBig : Tryz.prog.globalNamed "loop.example/s02542/impl.errTooGreat" = some 1 := by kernel_rfl
theorem tNo : (Tryz.prog.globals[2]?).map (·.type) = some 143 := by kernel_rfl
theorem tBig : (Tryz.prog.globals[1]?).map (·.type) = some 143 := by kernel_rfl
theorem star : "*" ++ "errors.errorString" = "*errors.errorString" := by decide
theorem rowErr (u : TypeId) (h : Tryz.prog.typeName? 3 u = some "*errors.errorString") : u = 278 :=
  typeName_ptr_named (nm := "errors.errorString") (by rw [star]; kernel_rfl) (by kernel_rfl) (by decide) u (by rw [star]; exact h)
theorem cellsErr : Tryz.prog.cellsOf 302 = 1 := by kernel_rfl
theorem cellsStr : Tryz.prog.cellsOf 9 = 1 := by kernel_rfl
theorem gl_of_laid {W : World} {r : List (String × DataW Unit)} (h : laidMet Tryz.prog (("loop.example/s02542/impl.errNoResult", Rows.laid_loop_example_s02542_impl_errNoResult) :: ("loop.example/s02542/impl.errTooGreat", Rows.laid_loop_example_s02542_impl_errTooGreat) :: r) W) :
    ∃ a b, Gl W a b ∧ W.var? Tryz.prog "loop.example/s02542/impl.errNoResult" = some #[.iface 278 (.pointer (some a))] ∧ W.var? Tryz.prog "loop.example/s02542/impl.errTooGreat" = some #[.iface 278 (.pointer (some b))] := by
  obtain ⟨a0, a1, s0, s1, c0, c1, t0, t1, hv0, hv1, hc0, hs0, hz0, hc1, hs1, hz1, hne, hb0, hb1⟩ := laid_sentinels2 h gNo tNo gBig tBig Tryz.underlying143 rowErr Tryz.underlying278 Tryz.underlying302 rfl rfl Tryz.underlying9 cellsErr cellsStr
  exact ⟨a0, a1, ⟨by simpa using World.var?_cell gNo hv0 0, by simpa using World.var?_cell gBig hv1 0, hne, ⟨c0, t0, hb0⟩, ⟨c1, t1, hb1⟩⟩, hv0, hv1⟩
theorem var_below {W W' : World} {n : String} {cs : Array Value} (h : W.var? Tryz.prog n = some cs) (hb : Below W.heap.size W W') : W'.var? Tryz.prog n = some cs := by
  unfold World.var? at h ⊢
  cases hg : Tryz.prog.globalNamed n with
  | none => simp [hg] at h
  | some g =>
    simp only [hg, Option.bind_some] at h ⊢
    have hlt : g < W.heap.size := by
      cases hh : W.heap[g]? with
      | none => rw [hh] at h; cases h
      | some o => exact (Array.getElem?_eq_some_iff.1 hh).1
    rw [hb.block g hlt]; exact h
end Go.Proofs.YtgjpchnkodnieaaGreatDoor
namespace Go.Proofs.YtgjpchnkodnieaaGreatDoor
open Go.RowKit
set_option maxHeartbeats 400000 in
theorem isNumber_any (v : Int) (w : World) : Calls Tryz.prog 215 #[.int .i64 v] w fun e w' => e = .returned (.bool (dataOk false v)) ∧ w' = w := by
  have HE : Hid (dataOk false v = withinB v (-1000000000000000) 1000000000000000) := by show _ = _; unfold dataOk withinB; simp
  go_enter Tryz.func215, Tryz.ntmps215
  go_wp2_with (go_at_call 50; refine (isWithin_any _ _ _ _).mono ?_; rintro e w' ⟨rfl, rfl⟩)
  go_ret
  exact ⟨ret_bool HE.out.symm, rfl⟩
set_option maxHeartbeats 400000 in
theorem ValidRune_any (v : Int) (w : World) (h0 : 0 ≤ v) (h1 : v ≤ 1114111) : Calls Tryz.prog 266 #[.int .i32 v] w fun e w' => e = .returned (.bool (runeOk v)) ∧ w' = w := by
  by_cases h3 : v < 55296
  · have HE : Hid (runeOk v = true) := decide_eq_true ⟨h0, h1, .inl h3⟩
    go_enter Tryz.func266, Tryz.ntmps266
    go_wp2
    go_ret
    exact ⟨ret_bool HE.out.symm, rfl⟩
  · by_cases h4 : 57343 < v
    · have HE : Hid (runeOk v = true) := decide_eq_true ⟨h0, h1, .inr h4⟩
      go_enter Tryz.func266, Tryz.ntmps266
      go_wp2
      go_ret
      exact ⟨ret_bool HE.out.symm, rfl⟩
    · have HE : Hid (runeOk v = false) := decide_eq_false (fun h => by omega)
      go_enter Tryz.func266, Tryz.ntmps266
      go_wp2
      go_ret
      exact ⟨ret_bool HE.out.symm, rfl⟩
theorem wrap32 (v : Int) (h0 : 0 ≤ v) (h1 : v ≤ 1114111) : IntKind.i32.wrap v = v := by
  unfold IntKind.wrap; simp [IntKind.bits, IntKind.signed]; omega
set_option maxHeartbeats 400000 in
theorem isCharacter_any (v : Int) (w : World) : Calls Tryz.prog 216 #[.int .i64 v] w fun e w' => e = .returned (.bool (dataOk true v)) ∧ w' = w := by
  by_cases h : 0 ≤ v ∧ v ≤ 1114111
  · obtain ⟨h0, h1⟩ := h
    have HE : Hid (dataOk true v = runeOk v) := by show _ = _; unfold dataOk; rw [decide_eq_true (by omega)]; simp
    have HW : Hid (withinB v 0 1114111 = true) := decide_eq_true ⟨h0, h1⟩
    have hw := wrap32 v h0 h1
    go_enter Tryz.func216, Tryz.ntmps216
    go_wp2_with (first | (go_at_call 50; refine (isWithin_eq _ _ _ _ true HW).mono ?_; rintro e w' ⟨rfl, rfl⟩) | (go_at_call 266; refine (ValidRune_any _ _ h0 h1).mono ?_; rintro e w' ⟨rfl, rfl⟩))
    go_ret
    exact ⟨ret_bool HE.out.symm, rfl⟩
  · have HE : Hid (dataOk true v = false) := by show _ = _; unfold dataOk runeOk; rw [decide_eq_false (p := 0 ≤ v ∧ _ ∧ _) (by omega)]; simp
    have HW : Hid (withinB v 0 1114111 = false) := decide_eq_false h
    clear h
    go_enter Tryz.func216, Tryz.ntmps216
    go_wp2_with (go_at_call 50; refine (isWithin_eq _ _ _ _ false HW).mono ?_; rintro e w' ⟨rfl, rfl⟩)
    go_ret
    exact ⟨ret_bool HE.out.symm, rfl⟩
end Go.Proofs.YtgjpchnkodnieaaGreatDoor
namespace Go.Proofs.YtgjpchnkodnieaaGreatDoor
open Go.RowKit
set_option maxHeartbeats 1000000 in
theorem Mul64_one (n : Nat) (hn : n ≤ 10000) (w : World) : Calls Tryz.prog 276 #[.int .u64 1, .int .u64 (n : Nat)] w fun e w' => e = .returned (.tuple #[.int .u64 0, .int .u64 (n : Nat)]) ∧ w' = w := by
  have hA : bits .and .u64 (n : Int) 4294967295 = (n : Int) := by
    have h := bits_and_u64_nat n 4294967295 (by omega) (by omega)
    rw [show n &&& 4294967295 = n % 4294967296 from Nat.and_two_pow_sub_one_eq_mod n 32, Nat.mod_eq_of_lt (by omega)] at h
    exact h
  have h1 : bits .and .u64 1 4294967295 = 1 := by decide
  have h0 : bits .and .u64 0 4294967295 = 0 := by decide
  have hD : (n : Int) / 4294967296 = 0 := by omega
  go_enter Tryz.func276, Tryz.ntmps276
  go_wp2
  go_ret2
  exact ⟨by simp, rfl⟩
theorem Mul_one (n : Nat) (hn : n ≤ 10000) (w : World) : Calls Tryz.prog 227 #[.int .u64 1, .int .u64 (n : Nat)] w fun e w' => e = .returned (.tuple #[.int .u64 0, .int .u64 (n : Nat)]) ∧ w' = w := by
  go_enter Tryz.func227, Tryz.ntmps227
  go_wp2_with (go_at_call 276; refine (Mul64_one n hn _).mono ?_; rintro e w1 ⟨rfl, rfl⟩)
  go_ret2
  exact ⟨rfl, rfl⟩
theorem splice_rep (v : Int) (k m n : Nat) (h : k + m ≤ n) : splice ((List.replicate k v ++ List.replicate (n - k) 0).map (Value.int .i64)) k (List.replicate m (Value.int .i64 v)) = (List.replicate (k + m) v ++ List.replicate (n - (k + m)) 0).map (Value.int .i64) := by
  unfold splice
  simp only [List.map_append, List.map_replicate, List.length_replicate]
  rw [List.take_append_of_le_length (by simp), List.take_of_length_le (by simp), List.drop_append, List.drop_eq_nil_of_le (by simp), List.nil_append, List.length_replicate, List.drop_replicate, ← List.append_assoc, List.replicate_append_replicate]
  rw [show n - k - (k + m - k) = n - (k + m) by omega]
set_option maxRecDepth 20000 in
set_option maxHeartbeats 4000000 in
theorem Repeat_any (a : Addr) (ca n : Nat) (v : Int) (w : World) (h : Row w (some a) 1 [v]) (hn : n ≤ 10000) :
    Calls Tryz.prog 148 #[.slice (some a) 1 ca, .int .i64 (n : Nat)] w fun e w' => e = .returned (.slice (some ⟨w.heap.size, 0, none⟩) n n) ∧ Blk w' w.heap.size (List.replicate n v) ∧ Below w.heap.size w w' := by
  obtain ⟨i0, hi, hz0, hz1, hz2⟩ := info_parts info_int
  have hsz : (Tryz.prog.info? 3).map (·.size) = some 1 := by rw [hi]; simp [hz1]
  obtain ⟨ba, oa, hab, hblt, hc⟩ := h.get (show 0 < 1 by omega)
  cases hab
  have HC : Hid (∀ w1, Below w.heap.size w w1 → w1.cell? ⟨ba, oa, none⟩ = some (.int .i64 v)) := fun w1 hb => (hb.cell (p := ⟨ba, oa, none⟩) hblt).trans (by simpa using hc)
  clear h hc hblt
  obtain ⟨m, hm⟩ : ∃ m, m = Nat.min 1 n := ⟨_, rfl⟩
  have hm1 : m ≤ n := by rw [hm]; exact Nat.min_le_right _ _
  have hm2 : m = 0 → n = 0 := by intro e; rw [hm] at e; exact (Nat.eq_zero_or_pos n).elim id fun h0 => by rw [show Nat.min 1 n = 1 from Nat.min_eq_left h0] at e; cases e
  obtain ⟨cs, hcs⟩ : ∃ cs, cs = List.replicate m (Value.int .i64 v) := ⟨_, rfl⟩
  have hcl : cs.length = m := by rw [hcs]; simp
  have HM := hide hm
  have HCS := hide hcs
  have HM2 := hide hm2
  have HPOS : Hid (∀ w1, Below w.heap.size w w1 → ∀ j x, cs[j]? = some x → w1.cell? ((⟨ba, oa, none⟩ : Addr).add j) = some x) := by
    intro w1 hb j x hx
    have hj : j = 0 ∧ x = .int .i64 v := by
      rw [unhide HCS] at hx
      have hm' : m ≤ 1 := by rw [unhide HM]; exact Nat.min_le_left _ _
      rw [List.getElem?_replicate] at hx
      split at hx
      · exact ⟨by omega, by simpa using hx.symm⟩
      · cases hx
    obtain ⟨rfl, rfl⟩ := hj
    exact unhide HC _ hb
  clear hm hcs hm2
  go_enter Tryz.func148, Tryz.ntmps148
  go_wp2_with (first | (go_at_call 227; go_loud (refine (Mul_one n hn _).mono ?_); rintro e w1 ⟨rfl, hw⟩; obtain rfl := hw.symm) | (at_make; go_loud (refine wpList_make_full _ rfl _ _ 23 rfl w.heap.size 3 i0 (.int .i64 0) 1 Tryz.underlying23 hi hz0 hz1 _ _ _ _ n rfl rfl rfl rfl (by rw [hz2]; omega) (by unfold maxLen; omega) (Nat.le_refl _) ?_); intro w1 hown hgrow; have HBK : Hid (Blk w1 w.heap.size (List.replicate 0 v ++ List.replicate (n - 0) 0)) := Blk.of_owns (n := n) (base := w.heap.size) (by simpa [toList_madeCells_one, Value.cells] using hown); have HBL : Hid (Below w.heap.size w w1) := (Below.refl _ _).grown hgrow (Nat.le_refl _) (by simp); clear hown hgrow) | (refine wpList_copy_splice rfl (.tmp 31) (.tmp 32) 23 23 rfl 3 Tryz.underlying23 hsz _ _ _ _ _ _ rfl rfl w.heap.size 0 _ 3 (unhide HBK) cs (hcl.trans (unhide HM)) (fun _ => ⟨rfl, _, rfl, unhide HPOS _ (unhide HBL)⟩) (by rw [hcl]; simp; omega) (by rw [unhide HCS]; intro x hx; rw [List.eq_of_mem_replicate hx]; rfl) w.heap.size w (unhide HBL) (Nat.le_refl _) ?_; intro w2 hg2 hb2; have HG2 := hide hg2.out; have HL2 := hide hb2; clear hg2 hb2))
  · have HB2 : Hid (Blk w2 w.heap.size (List.replicate m v ++ List.replicate (n - m) 0)) := by
      have e := unhide HG2
      rw [unhide HCS, splice_rep v 0 m n (by omega)] at e
      show Blk _ _ _
      rw [Nat.zero_add] at e
      exact e
    clear HG2 HBK HBL w1 HC HCS HM HPOS hcl cs
    go_loopw [8] (fun i wr => ∃ k : Nat, k ≤ n ∧ (k = 0 → n = 0) ∧ i = .int .i64 k ∧ Hid (Blk wr w.heap.size (List.replicate k v ++ List.replicate (n - k) 0)) ∧ Hid (Below w.heap.size w wr)) (fun i _ => n - (intOf i).toNat)
    case atStart => exact ⟨m, hm1, unhide HM2, rfl, HB2, HL2⟩
    case round =>
      obtain ⟨k, hk, hk0, rfl, hb, hbl⟩ := hrel
      clear HB2 HL2 w2 HM2 hm1
      by_cases hlt : k < n
      · have hk1 : 1 ≤ k := by omega
        obtain ⟨q, hq⟩ : ∃ q, q = Nat.min k (n - k) := ⟨_, rfl⟩
        have hq1 : q ≤ n - k := by rw [hq]; exact Nat.min_le_right _ _
        have hq2 : q ≤ k := by rw [hq]; exact Nat.min_le_left _ _
        have hq3 : 1 ≤ q := by rw [hq]; exact Nat.le_min.mpr ⟨hk1, by omega⟩
        obtain ⟨cs, hcs⟩ : ∃ cs, cs = List.replicate q (Value.int .i64 v) := ⟨_, rfl⟩
        have hcl : cs.length = q := by rw [hcs]; simp
        have HCS := hide hcs
        have HQ := hide hq
        have HPOS : Hid (∀ j x, cs[j]? = some x → wr.drew.cell? ((⟨w.heap.size, 0, none⟩ : Addr).add j) = some x) := by
          intro j x hx
          rw [hcs, List.getElem?_replicate] at hx
          split at hx
          · rename_i hjq
            have hc := (unhide hb).cell (i := j) (by simp; omega)
            have hjk : j < k := by omega
            have hg : (List.replicate k v ++ List.replicate (n - k) 0).getD j 0 = v := by simp [List.getD, List.getElem?_append, hjk]
            rw [hg] at hc
            cases hx
            have ha : (⟨w.heap.size, 0, none⟩ : Addr).add j = ⟨w.heap.size, j, none⟩ := by cases j <;> simp [Addr.add]
            rw [ha]
            simpa using hc
          · cases hx
        clear hcs hq hk0
        go_upto_region 9 with fail
        go_region_held3 (fun _ => True) (first | exact trivial) (first | (refine step_copy_splice rfl (.tmp 41) (.tmp 44) 23 23 rfl 3 Tryz.underlying23 hsz _ _ _ _ _ _ rfl rfl w.heap.size k _ 3 (unhide hb).drew cs (hcl.trans (unhide HQ)) (fun _ => ⟨by first | rfl | rw [if_neg (by omega)], _, rfl, unhide HPOS⟩) (by rw [hcl]; simp; omega) (by rw [unhide HCS]; intro x hx; rw [List.eq_of_mem_replicate hx]; rfl) w.heap.size w (unhide hbl).drew (Nat.le_refl _) ?_; intro w4 hg4 hb4; have HG4 := hide hg4.out; have HL4 := hide hb4; clear hg4 hb4))
        have HB4 : Hid (Blk w4 w.heap.size (List.replicate (k + q) v ++ List.replicate (n - (k + q)) 0)) := by
          have e := unhide HG4
          rw [unhide HCS, splice_rep v k q n (by omega)] at e
          exact e
        clear HG4
        have hkw : IntKind.i64.wrap ((k : Int) + (q : Int)) = ((k + q : Nat) : Int) := by rw [IntKind.wrap_i64]; omega
        go_wp2_with fail
        go_roundw
        case rel => exact ⟨(k + q : Nat), by omega, by omega, by first | rfl | rw [hkw], HB4, HL4⟩
        case measure => (first | rw [hkw] | skip); simp [intOf]; omega
      · have hkn : k = n := by omega
        subst hkn
        go_wp2
        go_ret
        exact ⟨rfl, by simpa using unhide hb, unhide hbl⟩
end Go.Proofs.YtgjpchnkodnieaaGreatDoor
