import Derived.Test.YtgjpchnkodnieaaGreatDoorZv40
import Derived.Test.YtgjpchnkodnieaaGreatDoorZv09
import Derived.WalkKit
import Derived.Test.YtgjpchnkodnieaaGreatDoorZv07
import Derived.Test.YtgjpchnkodnieaaGreatDoorZv03
import Derived.Test.YtgjpchnkodnieaaGreatDoorZv00
import Derived.Test.YtgjpchnkodnieaaGreatDoorZv05
import Derived.Test.YtgjpchnkodnieaaGreatDoorZv14
import Derived.Test.YtgjpchnkodnieaaGreatDoorZv02
import Derived.Test.YtgjpchnkodnieaaGreatDoorZv01
import Derived.Test.YtgjpchnkodnieaaGreatDoorZv04
import Derived.Test.YtgjpchnkodnieaaGreatDoorChecked
import Derived.Test.YtgjpchnkodnieaaGreatDoorZv11
import Derived.Test.YtgjpchnkodnieaaGreatDoorZv12
import Derived.Test.YtgjpchnkodnieaaGreatDoorZv13
import Derived.BigQuiet
import Derived.Laws.EntriesVeiled
import Derived.Deep.WholeRow
import Derived.Test.YtgjpchnkodnieaaGreatDoorZv30
import Derived.Test.YtgjpchnkodnieaaGreatDoorZv32
import Derived.Test.YtgjpchnkodnieaaGreatDoorZv15
import Derived.Test.YtgjpchnkodnieaaGreatDoorZv37
import Derived.Test.YtgjpchnkodnieaaGreatDoorZv38
import Derived.Shelf.Slices.Reverse
import Derived.Ground.NamesProg
import Derived.Test.YtgjpchnkodnieaaGreatDoorProg
import Derived.Test.YtgjpchnkodnieaaGreatDoorZv20
import Derived.Test.YtgjpchnkodnieaaGreatDoorZv19
import Derived.RangeFuncRecord
import Derived.Sort.OwnSortedInts
import Derived.Deep.DeepCutAuto
import Derived.Deep.RegionHeld
import Derived.Shelf.Spec.SlicesGrow
import Derived.Lib.SliceRun
import Derived.Test.YtgjpchnkodnieaaGreatDoorZv41
namespace Go.Proofs.YtgjpchnkodnieaaGreatDoor
open Go.RowKit
set_option maxRecDepth 20000 in
set_option maxHeartbeats 2000000 in
theorem implTake_any (c d : Bool) (a1 a2 b1 b2 : Option Addr) (n1 n2 m1 m2 c1 c2 d1 d2 : Nat) (sh dt sh' dt' : List Int) (w : World) (h1 : Row w a1 n1 sh) (h2 : Row w a2 n2 dt) (k1 : Row w b1 m1 sh') (k2 : Row w b2 m2 dt') :
    Calls Tryz.prog 34 #[.agg #[.bool c, .slice a1 n1 c1, .slice a2 n2 c2], .agg #[.bool d, .slice b1 m1 d1, .slice b2 m2 d2]] w (GivesCap w (take c d sh dt sh' dt')) := by
  obtain ⟨R, hR⟩ : ∃ R, take c d sh dt sh' dt' = R := ⟨_, rfl⟩
  have HC : Hid (∀ W, Below w.heap.size w W → Calls Tryz.prog 93 #[.agg #[], .agg #[.bool c, .slice a1 n1 c1, .slice a2 n2 c2], .agg #[.bool d, .slice b1 m1 d1, .slice b2 m2 d2]] W (GivesCap W R)) := fun W hW => by
    rw [← hR]
    exact cut_taking c d a1 a2 b1 b2 n1 n2 m1 m2 c1 c2 d1 d2 sh dt sh' dt' W (h1.below (Nat.le_refl _) hW) (h2.below (Nat.le_refl _) hW) (k1.below (Nat.le_refl _) hW) (k2.below (Nat.le_refl _) hW)
  rw [hR]
  clear hR h1 h2 k1 k2
  obtain ⟨W0, hW0⟩ : ∃ W0, W0 = ((w.alloc (.cells #[.bool c, .slice a1 n1 c1, .slice a2 n2 c2] 25)).alloc (.cells #[.bool d, .slice b1 m1 d1, .slice b2 m2 d2] 25)).alloc (.cells #[.bool false, .slice none 0 0, .slice none 0 0] 25) := ⟨_, rfl⟩
  have hz0 : W0.heap.size = w.heap.size + 1 + 1 + 1 := by rw [hW0]; simp
  have HB0 : Hid (Below w.heap.size w W0) := by rw [hW0]; exact (((Below.refl _ w).alloc (Nat.le_refl _) _).alloc (by simp) _).alloc (by simp; omega) _
  have HX2 : Hid (Box W0 (w.heap.size + 1 + 1) false (.slice none 0 0) (.slice none 0 0)) := by
    rw [hW0]; exact Cuttaking.boxNew _ _ _ _ _ (by simp)
  have HW0 := hide hW0
  have hzz : w.heap.size + 1 + 1 < W0.heap.size := by omega
  clear hW0 hz0
  obtain ⟨r, rs, rd, rc⟩ := R
  go_enter Tryz.func34, Tryz.ntmps34
  go_wp2_with (go_at_call 93; rw [← HW0.out]; refine (HC.out _ HB0.out).mono ?_; rintro e w1 ⟨e1, l1, f1, e2, l2, f2, rfl, hO1, hO2, hap, hb1, hcp⟩; have HCP := hide hcp; clear hcp; have HO1 := hide hO1; have HO2 := hide hO2; have HAP : Hid (Apart e1 l1 e2 l2) := hap; have HB1 := hide hb1; clear hO1 hO2 hap hb1; obtain ⟨q0, q1, q2, q3, q4, q5, q6⟩ := (HX2.out.below (Nat.le_refl _) HB1.out).all)
  have hx := (HX2.out.below (Nat.le_refl _) HB1.out).sets (c' := r) (u1 := .slice e1 l1 f1) (u2 := .slice e2 l2 f2)
  obtain ⟨r0, r1, r2, _, _, _⟩ := hx.all
  refine bodyPost_ret (v := .tuple #[.agg #[.bool r, .slice e1 l1 f1, .slice e2 l2 f2], .int .i64 rc]) (by simp [results, Tryz.results34, go_sem, r0, r1, r2]) rfl ?_
  have hk1 : ∀ k, At e1 l1 k → k ≠ w.heap.size + 1 + 1 := fun k hk => by have := HO1.out.low hk; omega
  have hk2 : ∀ k, At e2 l2 k → k ≠ w.heap.size + 1 + 1 := fun k hk => by have := HO2.out.low hk; omega
  exact ⟨e1, l1, f1, e2, l2, f2, rfl, (((HO1.out.mono (by omega)).other (q := ⟨w.heap.size + 1 + 1, 0, none⟩) hk1 _).other (q := ⟨w.heap.size + 1 + 1, 1, none⟩) hk1 _).other (q := ⟨w.heap.size + 1 + 1, 2, none⟩) hk1 _, (((HO2.out.mono (by omega)).other (q := ⟨w.heap.size + 1 + 1, 0, none⟩) hk2 _).other (q := ⟨w.heap.size + 1 + 1, 1, none⟩) hk2 _).other (q := ⟨w.heap.size + 1 + 1, 2, none⟩) hk2 _, HAP.out, (((HB0.out.trans (HB1.out.mono (by omega))).setCell (p := ⟨w.heap.size + 1 + 1, 0, none⟩) (by simp; omega) _).setCell (p := ⟨w.heap.size + 1 + 1, 1, none⟩) (by simp; omega) _).setCell (p := ⟨w.heap.size + 1 + 1, 2, none⟩) (by simp; omega) _, HCP.out⟩
end Go.Proofs.YtgjpchnkodnieaaGreatDoor
namespace Go.Proofs.YtgjpchnkodnieaaGreatDoor
open Go.RowKit
set_option maxRecDepth 20000 in
set_option maxHeartbeats 2000000 in
theorem implDrop_any (c d : Bool) (a1 a2 b1 b2 : Option Addr) (n1 n2 m1 m2 c1 c2 d1 d2 : Nat) (sh dt sh' dt' : List Int) (w : World) (h1 : Row w a1 n1 sh) (h2 : Row w a2 n2 dt) (k1 : Row w b1 m1 sh') (k2 : Row w b2 m2 dt') :
    Calls Tryz.prog 33 #[.agg #[.bool c, .slice a1 n1 c1, .slice a2 n2 c2], .agg #[.bool d, .slice b1 m1 d1, .slice b2 m2 d2]] w (GivesCap w (drop c d sh dt sh' dt')) := by
  obtain ⟨R, hR⟩ : ∃ R, drop c d sh dt sh' dt' = R := ⟨_, rfl⟩
  have HC : Hid (∀ W, Below w.heap.size w W → Calls Tryz.prog 92 #[.agg #[], .agg #[.bool c, .slice a1 n1 c1, .slice a2 n2 c2], .agg #[.bool d, .slice b1 m1 d1, .slice b2 m2 d2]] W (GivesCap W R)) := fun W hW => by
    rw [← hR]
    exact cut_dropping c d a1 a2 b1 b2 n1 n2 m1 m2 c1 c2 d1 d2 sh dt sh' dt' W (h1.below (Nat.le_refl _) hW) (h2.below (Nat.le_refl _) hW) (k1.below (Nat.le_refl _) hW) (k2.below (Nat.le_refl _) hW)
  rw [hR]
  clear hR h1 h2 k1 k2
  obtain ⟨W0, hW0⟩ : ∃ W0, W0 = ((w.alloc (.cells #[.bool c, .slice a1 n1 c1, .slice a2 n2 c2] 25)).alloc (.cells #[.bool d, .slice b1 m1 d1, .slice b2 m2 d2] 25)).alloc (.cells #[.bool false, .slice none 0 0, .slice none 0 0] 25) := ⟨_, rfl⟩
  have hz0 : W0.heap.size = w.heap.size + 1 + 1 + 1 := by rw [hW0]; simp
  have HB0 : Hid (Below w.heap.size w W0) := by rw [hW0]; exact (((Below.refl _ w).alloc (Nat.le_refl _) _).alloc (by simp) _).alloc (by simp; omega) _
  have HX2 : Hid (Box W0 (w.heap.size + 1 + 1) false (.slice none 0 0) (.slice none 0 0)) := by
    rw [hW0]; exact Cutdropping.boxNew _ _ _ _ _ (by simp)
  have HW0 := hide hW0
  have hzz : w.heap.size + 1 + 1 < W0.heap.size := by omega
  clear hW0 hz0
  obtain ⟨r, rs, rd, rc⟩ := R
  go_enter Tryz.func33, Tryz.ntmps33
  go_wp2_with (go_at_call 92; rw [← HW0.out]; refine (HC.out _ HB0.out).mono ?_; rintro e w1 ⟨e1, l1, f1, e2, l2, f2, rfl, hO1, hO2, hap, hb1, hcp⟩; have HCP := hide hcp; clear hcp; have HO1 := hide hO1; have HO2 := hide hO2; have HAP : Hid (Apart e1 l1 e2 l2) := hap; have HB1 := hide hb1; clear hO1 hO2 hap hb1; obtain ⟨q0, q1, q2, q3, q4, q5, q6⟩ := (HX2.out.below (Nat.le_refl _) HB1.out).all)
  have hx := (HX2.out.below (Nat.le_refl _) HB1.out).sets (c' := r) (u1 := .slice e1 l1 f1) (u2 := .slice e2 l2 f2)
  obtain ⟨r0, r1, r2, _, _, _⟩ := hx.all
  refine bodyPost_ret (v := .tuple #[.agg #[.bool r, .slice e1 l1 f1, .slice e2 l2 f2], .int .i64 rc]) (by simp [results, Tryz.results33, go_sem, r0, r1, r2]) rfl ?_
  have hk1 : ∀ k, At e1 l1 k → k ≠ w.heap.size + 1 + 1 := fun k hk => by have := HO1.out.low hk; omega
  have hk2 : ∀ k, At e2 l2 k → k ≠ w.heap.size + 1 + 1 := fun k hk => by have := HO2.out.low hk; omega
  exact ⟨e1, l1, f1, e2, l2, f2, rfl, (((HO1.out.mono (by omega)).other (q := ⟨w.heap.size + 1 + 1, 0, none⟩) hk1 _).other (q := ⟨w.heap.size + 1 + 1, 1, none⟩) hk1 _).other (q := ⟨w.heap.size + 1 + 1, 2, none⟩) hk1 _, (((HO2.out.mono (by omega)).other (q := ⟨w.heap.size + 1 + 1, 0, none⟩) hk2 _).other (q := ⟨w.heap.size + 1 + 1, 1, none⟩) hk2 _).other (q := ⟨w.heap.size + 1 + 1, 2, none⟩) hk2 _, HAP.out, (((HB0.out.trans (HB1.out.mono (by omega))).setCell (p := ⟨w.heap.size + 1 + 1, 0, none⟩) (by simp; omega) _).setCell (p := ⟨w.heap.size + 1 + 1, 1, none⟩) (by simp; omega) _).setCell (p := ⟨w.heap.size + 1 + 1, 2, none⟩) (by simp; omega) _, HCP.out⟩
end Go.Proofs.YtgjpchnkodnieaaGreatDoor
namespace Go.Proofs.YtgjpchnkodnieaaGreatDoor
open Go.RowKit Go.Shelf
set_option maxRecDepth 20000 in
set_option maxHeartbeats 8000000 in
theorem implMon_hit (op : Int) (m i : Nat) (X : Ans) (eg : ∀ args w, (callFunc m args).run Tryz.prog w = .ok (.enter m args) w) (hop : 1 ≤ op ∧ op ≤ 33) (hf : Instr.findNow (.int .i64) (.int .i64 op) (monTab op) 0 = some (some (i, .func (.func m) #[.int .i64 op] #[]))) (c : Bool) (a1 a2 : Option Addr) (n1 n2 c1 c2 : Nat) (sh dt : List Int) (w : World) (h1 : Row w a1 n1 sh) (h2 : Row w a2 n2 dt) (hok : arrOk c sh dt = true) (hcall : ∀ W, Below w.heap.size w W → Calls Tryz.prog m #[.int .i64 op, .agg #[.bool c, .slice a1 n1 c1, .slice a2 n2 c2]] W (GivesOwn W X)) :
    Calls Tryz.prog 11 #[.int .i64 op, .agg #[.bool c, .slice a1 n1 c1, .slice a2 n2 c2]] w (GivesOwn w (X)) := by
  have HC := hide hcall
  clear hcall
  have H1 := hide h1
  have H2 := hide h2
  have HR : Hid (arrOk c sh dt = true) := hok
  clear h1 h2 hok
  obtain ⟨W0, hW0⟩ : ∃ W0, W0 = (w.alloc (.cells #[.bool c, .slice a1 n1 c1, .slice a2 n2 c2] 25)).alloc (.cells #[.bool false, .slice none 0 0, .slice none 0 0] 25) := ⟨_, rfl⟩
  obtain ⟨B4, B5, hB0⟩ := boxes2 (w := w) (c := c) (v1 := .slice a1 n1 c1) (v2 := .slice a2 n2 c2) (Below.refl _ _)
  rw [← hW0] at B4 B5 hB0
  have D4 := hide B4
  have D6 := hide B5
  have HB0 := hide hB0
  obtain ⟨x0, x1, x2, x3, x4, x5, x6⟩ := B4.all
  obtain ⟨q0, q1, q2, q3, q4, q5, q6⟩ := B5.all
  have hz6 := (unhide D6).lt
  have hwi := withinM op 1 33 true (by first | exact decide_eq_true (by omega) | exact decide_eq_false (by omega)) W0
  have hoa := implArrayOk_eq c a1 a2 n1 n2 c1 c2 sh dt W0 ((unhide H1).below (Nat.le_refl _) hB0) ((unhide H2).below (Nat.le_refl _) hB0) true HR
  rw [hW0] at hwi hoa x0 x1 x2 x3 x4 x5 x6 q0 q1 q2 q3 q4 q5 q6
  clear B4 B5 hB0
  go_enter Tryz.func11, Tryz.ntmps11
  have hlk : ∀ W : World, (Instr.lookup 74 (.map (some W.heap.size)) (.int .i64 op) true).run Tryz.prog (W.alloc (.map (monTab op).toArray 16)) = .ok (.tuple #[.func (.func m) #[.int .i64 op] #[], .bool true]) (W.alloc (.map (monTab op).toArray 16)) := fun W => look_hit _ _ Tryz.underlying74 _ _ _ 16 i op _ (World.alloc_heap_new W _) hf
  generalize hMT : (monTab op).toArray = MT at hlk
  have hmo : ∀ W, Calls Tryz.prog 52 #[.int .i64 op] W fun e w' => e = .returned (.map (some W.heap.size)) ∧ w' = W.alloc (.map MT 16) := fun W => by rw [← hMT]; exact monads_any op W
  obtain ⟨rc, rsh, rdt, rp⟩ := X
  clear hf hop hMT
  go_upto_region 4 with (first | (go_at_call 50; refine hwi.mono ?_; rintro e w2 ⟨rfl, hw2⟩; rw [hw2]; clear hw2) | (go_at_call 51; refine hoa.mono ?_; rintro e w3 ⟨rfl, hb3⟩; rw [← hW0] at hb3; have HB3 := hide hb3; have E4 := hide ((unhide D4).below (Nat.le_refl _) hb3); have E6 := hide ((unhide D6).below (Nat.le_refl _) hb3); have HB := hide ((unhide HB0).trans (hb3.mono (unhide HB0).size)); clear x0 x1 x2 x3 x4 x5 x6 q0 q1 q2 q3 q4 q5 q6; obtain ⟨x0, x1, x2, x3, x4, x5, x6⟩ := (unhide E4).all; obtain ⟨q0, q1, q2, q3, q4, q5, q6⟩ := (unhide E6).all; clear hb3) | (go_at_call 52; refine (hmo _).mono ?_; rintro e w4 ⟨rfl, hw4⟩; have hlk3 := hlk w3; subst hw4))
  clear hmo hlk hlk3
  obtain ⟨W4, hW4⟩ : ∃ W, W = w3.alloc (.map MT 16) := ⟨_, rfl⟩
  have hK4 : Below w3.heap.size w3 W4 := by rw [hW4]; exact (Below.refl _ _).alloc (Nat.le_refl _) _
  have F4 := hide ((unhide E4).below (Nat.le_refl _) hK4)
  have F6 := hide ((unhide E6).below (Nat.le_refl _) hK4)
  have HB4 := hide ((unhide HB).trans (hK4.mono (unhide HB).size))
  have hcl := unhide HC W4 (unhide HB4)
  rw [← hW4]
  clear hW4 hK4 E4 E6 x0 x1 x2 x3 x4 x5 x6 q0 q1 q2 q3 q4 q5 q6
  obtain ⟨x0, x1, x2, x3, x4, x5, x6⟩ := (unhide F4).all
  have hz0 := (unhide HB4).size
  go_wp2_with (go_at_fn m; refine hcl.mono ?_; rintro e w5 ⟨b1, m1, d1, b2, m2, d2, rfl, r1, r2, hap, hb5⟩; have R1 := hide r1; have R2 := hide r2; have HX := hide ((unhide F6).below (Nat.le_refl _) hb5); have HBX := hide ((unhide HB4).trans (hb5.mono (unhide HB4).size)); simp only; obtain ⟨q0, q1, q2, q3, q4, q5, q6⟩ := (unhide HX).all; clear r1 r2 hb5)
  have hx := (unhide HX).sets (c' := rc) (u1 := .slice b1 m1 d1) (u2 := .slice b2 m2 d2)
  obtain ⟨s0, s1, s2, _, _, _⟩ := hx.all
  refine bodyPost_ret (v := .tuple #[.agg #[.bool rc, .slice b1 m1 d1, .slice b2 m2 d2], .int .i64 rp]) (by simp [results, Tryz.results11, go_sem, s0, s1, s2]) rfl ?_
  exact own_end (unhide HX) ((unhide R1).mono hz0) ((unhide R2).mono hz0) hap (unhide HBX) (by omega)
theorem egm_reverse : ∀ args w, (callFunc 141 args).run Tryz.prog w = .ok (.enter 141 args) w := enters_of Tryz.func141 (by kernel_rfl) rfl
theorem implMon_rev (op : Int) (fl : Bool) (ho : (op = 21 ∧ fl = false) ∨ (op = 22 ∧ fl = true)) (c : Bool) (a1 a2 : Option Addr) (n1 n2 c1 c2 : Nat) (sh dt : List Int) (w : World) (h1 : Row w a1 n1 sh) (h2 : Row w a2 n2 dt) (hok : arrOk c sh dt = true) :
    Calls Tryz.prog 11 #[.int .i64 op, .agg #[.bool c, .slice a1 n1 c1, .slice a2 n2 c2]] w (GivesOwn w (revA c sh dt fl)) := by
  rcases ho with ⟨rfl, rfl⟩ | ⟨rfl, rfl⟩
  · exact implMon_hit 21 _ 9 _ egm_reverse (by omega) rfl c a1 a2 n1 n2 c1 c2 sh dt w h1 h2 hok (fun W hW => mon_reverse 21 false (.inl ⟨rfl, rfl⟩) c a1 a2 n1 n2 c1 c2 sh dt W (h1.below (Nat.le_refl _) hW) (h2.below (Nat.le_refl _) hW) hok)
  · exact implMon_hit 22 _ 10 _ egm_reverse (by omega) rfl c a1 a2 n1 n2 c1 c2 sh dt w h1 h2 hok (fun W hW => mon_reverse 22 true (.inr ⟨rfl, rfl⟩) c a1 a2 n1 n2 c1 c2 sh dt W (h1.below (Nat.le_refl _) hW) (h2.below (Nat.le_refl _) hW) hok)
end Go.Proofs.YtgjpchnkodnieaaGreatDoor
