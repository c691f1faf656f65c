import Derived.Test.YtgjpchnkodnieaaGreatDoorZv11
import Derived.Test.YtgjpchnkodnieaaGreatDoorZv14
import Derived.Test.YtgjpchnkodnieaaGreatDoorZv37
import Derived.Test.YtgjpchnkodnieaaGreatDoorZv12
import Derived.Test.YtgjpchnkodnieaaGreatDoorZv13
namespace Go.Proofs.YtgjpchnkodnieaaGreatDoor
open Go.RowKit Go.Shelf
attribute [local go_sem] Oper.semAt_some
set_option maxRecDepth 100000 in
set_option maxHeartbeats 4000000 in
theorem gatheredB_in (c : Bool) (a1 a2 sa : Option Addr) (n1 n2 c1 c2 n cap : Nat) (sh dt zs : List Int) (g : Nat) (ub : Value) (eg : ∀ args w, (callFunc g args).run Tryz.prog w = .ok (.enter g args) w) (f : List Int → Nat → Int) (w : World) (N : Nat)
    (h1 : Row w a1 n1 sh) (h2 : Row w a2 n2 dt) (hz : Row w sa n zs) (hs : ShapeIn sh) (hsz : ShapeIn zs) (h5 : n ≤ 5) (hN : prodAll zs = (N : Int)) (hd : prodAll sh = (n2 : Int)) (hnum : NumOkB g ub f zs n1 w) :
    CallsIn Fence.wide 9 Tryz.prog 59 #[.agg #[.bool c, .slice a1 n1 c1, .slice a2 n2 c2], .slice sa n cap, .func (.func g) #[ub] #[]] w fun e w' => ∃ gd, e = .returned (.agg #[.bool c, .slice sa n cap, .slice (some ⟨gd, 0, none⟩) N N]) ∧ w.heap.size ≤ gd ∧ Blk w' gd (vals (gatherAt c sh dt f zs) N) ∧ Below w.heap.size w w' := by
  have hNb : N ≤ 10000 := by have := hsz.bd; omega
  have H1 := hide h1
  have H2 := hide h2
  have HZ := hide hz
  have HS := hide hs
  have HSZ := hide hsz
  have HN := hide hN
  have HD := hide hd
  have HNUM := hide hnum
  clear h1 h2 hz hs hsz hN hd hnum
  refine callsIn_of_wp_marks Tryz.func59 rfl trivial ?_ rfl
  simp only [Tryz.ntmps59, List.size_toArray, List.length_cons, List.length_nil, Nat.reduceAdd, Nat.reduceSub, Array.replicate_succ, Array.replicate_zero, List.push_toArray, List.append_toArray, List.nil_append, List.cons_append]
  obtain ⟨W0, hW0⟩ : ∃ W0, W0 = ((w.alloc (.cells #[.bool c, .slice a1 n1 c1, .slice a2 n2 c2] 25)).alloc (.cells #[.func (.func g) #[ub] #[]] 89)).alloc (.cells #[.bool false, .slice none 0 0, .slice none 0 0] 25) := ⟨_, rfl⟩
  have hz0 : W0.heap.size = w.heap.size + 3 := by rw [hW0]; simp
  have HB0 : Hid (Below w.heap.size w W0) := by rw [hW0]; exact (((Below.refl _ w).alloc (Nat.le_refl _) _).alloc (by simp) _).alloc (by simp; omega) _
  have HX0 : Hid (Box W0 w.heap.size c (.slice a1 n1 c1) (.slice a2 n2 c2)) := by rw [hW0]; exact ((Box.new w _ _ _).alloc _).alloc _
  have HX2 : Hid (Box W0 (w.heap.size + 1 + 1) false (.slice none 0 0) (.slice none 0 0)) := by
    rw [hW0]
    show Box _ _ _ _ _
    have := Box.new ((w.alloc (.cells #[.bool c, .slice a1 n1 c1, .slice a2 n2 c2] 25)).alloc (.cells #[.func (.func g) #[ub] #[]] 89)) false (.slice none 0 0) (.slice none 0 0)
    simpa using this
  have HX1 : Hid (W0.heap[w.heap.size + 1]? = some (.cells #[.func (.func g) #[ub] #[]] 89 (0, 0))) := by
    rw [hW0]
    refine (Below.heap_alloc _ _ _ (by simp)).trans ?_
    have := World.alloc_heap_new (w.alloc (.cells #[.bool c, .slice a1 n1 c1, .slice a2 n2 c2] 25)) (.cells #[.func (.func g) #[ub] #[]] 89)
    simpa using this
  have HW0 := hide hW0
  clear hW0
  gi_wp2_with (first | (refine ⟨trivial, ?_⟩; gi_at_call 149; rw [← HW0.out]; refine (callsIn_wide.2 (fillOf_any _ _ _ _)).mono ?_; rintro e wA ⟨rfl, hbA⟩; have HBA := hide hbA; clear hbA) | (refine ⟨trivial, ?_⟩; gi_at_call 116; refine (callsIn_wide.2 (cellsOf_n _ _ _ zs _ (((HZ.out.below (Nat.le_refl _) HB0.out).below (Nat.le_refl _) HBA.out).alloc _) HSZ.out N HN)).mono ?_; rintro e wB ⟨rfl, hwB⟩; obtain rfl := hwB.symm) | (refine ⟨trivial, ?_⟩; gi_at_call 148; refine (callsIn_wide.2 (Repeat_any ⟨wA.heap.size, 0, none⟩ _ N (fillOf c) _ (Row.one wA _) hNb)).mono ?_; rintro e wR ⟨rfl, hR1, hR2⟩; have HR1 := hide hR1; have HR2 := hide hR2; clear hR1 hR2) | (refine ⟨trivial, ?_⟩; gi_at_call 150; refine (callsIn_wide.2 (indexesIn_any _ _ _ _)).mono ?_; rintro e wI ⟨rfl, hwI⟩; obtain rfl := hwI.symm))
  obtain ⟨p, hp⟩ : ∃ p, p = w.heap.size := ⟨_, rfl⟩
  obtain ⟨gd, hgd⟩ : ∃ gd, gd = wA.heap.size + 1 := ⟨_, rfl⟩
  obtain ⟨pd, hpd⟩ : ∃ pd, pd = wR.heap.size := ⟨_, rfl⟩
  obtain ⟨W, hW⟩ : ∃ W, W = (wR.alloc (.cells #[.slice (some ⟨wA.heap.size + 1, 0, none⟩) N N] 23)).alloc (.cells #[.slice sa n cap] 23) := ⟨_, rfl⟩
  have hzA := HBA.out.size
  have hzR := HR2.out.size
  rw [World.size_alloc] at hzR
  have hBR : Below W0.heap.size W0 wR := (HBA.out.alloc hzA _).trans (HR2.out.mono (by simp; omega))
  have hBW : Below W0.heap.size W0 W := by rw [hW]; exact (hBR.alloc (by omega) _).alloc (by simp; omega) _
  have HBW : Hid (Below p w W) := by rw [hp]; exact HB0.out.trans (hBW.mono (by omega))
  have HY0 : Hid (Box W p c (.slice a1 n1 c1) (.slice a2 n2 c2)) := by rw [hp]; exact HX0.out.low (by omega) hBW
  have HY1 : Hid (W.heap[p + 1]? = some (.cells #[.func (.func g) #[ub] #[]] 89 (0, 0))) := by rw [hp]; exact (hBW.block _ (by omega)).trans HX1.out
  have HY2 : Hid (Box W (p + 1 + 1) false (.slice none 0 0) (.slice none 0 0)) := by rw [hp]; exact HX2.out.low (by omega) hBW
  have HY3 : Hid (W.heap[pd]? = some (.cells #[.slice (some ⟨gd, 0, none⟩) N N] 23 (0, 0))) := by
    rw [hW, hpd, hgd]; exact (Below.heap_alloc _ _ _ (by simp)).trans (World.alloc_heap_new wR _)
  have HY4 : Hid (W.heap[pd + 1]? = some (.cells #[.slice sa n cap] 23 (0, 0))) := by
    rw [hW, hpd]; have := World.alloc_heap_new (wR.alloc (.cells #[.slice (some ⟨wA.heap.size + 1, 0, none⟩) N N] 23)) (.cells #[.slice sa n cap] 23); rwa [World.size_alloc] at this
  have HG : Hid (Blk W gd (halfway c sh dt f zs N 0)) := by
    show Blk _ _ _
    rw [half_zero, hW, hgd]
    have := HR1.out
    rw [World.size_alloc] at this
    exact (this.alloc _).alloc _
  have hzW : W.heap.size = pd + 2 := by rw [hW, hpd]; simp
  have hpg : p + 3 ≤ gd := by omega
  have hgp : gd < pd := by have := HR1.out.lt; rw [World.size_alloc] at this; omega
  have H1W := hide (H1.out.below (by omega) HBW.out)
  have H2W := hide (H2.out.below (by omega) HBW.out)
  have HZW := hide (HZ.out.below (by omega) HBW.out)
  have HPL : Hid ((∀ k, At a1 n1 k → k < p) ∧ (∀ k, At a2 n2 k → k < p) ∧ (∀ k, At sa n k → k < p)) := ⟨fun k h => by rw [hp]; exact H1.out.hi h, fun k h => by rw [hp]; exact H2.out.hi h, fun k h => by rw [hp]; exact HZ.out.hi h⟩
  rw [← hW, ← hp, ← hgd, ← hpd]
  clear hzA hzR hBR hBW HX0 HX1 HX2 HBA HR1 HR2 hW hgd hpd hwB hwI HW0 HB0 hz0 H1 H2 HZ
  have HP := hide hp
  clear hp
  refine range_cells (gf := 228) (lb := #[.pointer (some ⟨pd + 1, 0, none⟩)]) rfl (enters_of Tryz.func228 (by kernel_rfl) rfl) rfl (fun k => k = gd) (by rintro k rfl; omega)
    (indexesIn1_seq _ (pd + 1) sa n cap zs W N _ (by simp [World.cell?, HY4.out]) (by omega) HZW.out h5 HSZ.out HN.out (by omega) (by rintro k (rfl | rfl) h <;> have := HPL.out.2.2 _ h <;> omega))
    (by rintro k v A o ⟨ib, hlo, rfl, hb⟩ _; exact ⟨ib, hlo, rfl, (World.putObj_heap_other (by omega)).trans hb⟩)
    (fun k A => Blk A gd (halfway c sh dt f zs N k) ∧ But (fun b => b = gd) W A)
    (by rintro k A B ⟨h, hb⟩ hbl; exact ⟨(hbl.block _ (by omega)).trans h, hbl.os.trans hb.os, hbl.tape.trans hb.tape, hbl.output.trans hb.output, Nat.le_trans hb.size hbl.size, fun x hx hn => (hbl.block x hx).trans (hb.block x hx hn)⟩)
    ⟨HG.out, But.refl _ _⟩
    (fun k v => { tmps := #[.agg #[.bool c, .slice a1 n1 c1, .slice a2 n2 c2], .slice sa n cap, .func (.func g) #[ub] #[], .pointer (some ⟨p, 0, none⟩), undef, .pointer (some ⟨p + 1, 0, none⟩), .pointer (some ⟨p + 1 + 1, 0, none⟩), .pointer (some ⟨pd, 0, none⟩), .int .i64 (k : Nat), v, undef, undef, .agg #[.bool c, .slice a1 n1 c1, .slice a2 n2 c2], .int .i64 (fillOf c), .slice (some ⟨wA.heap.size, 0, none⟩) 1 1, .slice sa n cap, .int .i64 (N : Nat), .slice (some ⟨gd, 0, none⟩) N N, .slice sa n cap, .func (.func 228) #[] #[.pointer (some ⟨pd + 1, 0, none⟩)], .int .i64 (k : Nat), v, undef, undef, undef, undef, undef, undef, undef, undef, undef, undef, undef, undef, undef, undef, undef, undef, undef, undef, undef, undef, undef, undef], defers := [] }) ?assign ?body ?done
  case assign =>
    intro l k v A K hK
    gi_wp2
    exact hK
  case body =>
    rintro l k v A hk ⟨hb, hbut⟩ ⟨ib, hlo, rfl, hix⟩ hzA
    have hA0 : Box A p c (.slice a1 n1 c1) (.slice a2 n2 c2) := (hbut.block p (by omega) (by omega)).trans HY0.out
    have hA1 := (hbut.block (p + 1) (by omega) (by omega)).trans HY1.out
    have hA3 := (hbut.block pd (by omega) (by omega)).trans HY3.out
    have hr1 := hbut.row H1W.out (by rintro x rfl h; have := HPL.out.1 _ h; omega)
    have hr2 := hbut.row H2W.out (by rintro x rfl h; have := HPL.out.2.1 _ h; omega)
    have hBA : Below p w A := HBW.out.trans (hbut.below (by omega) (by rintro x rfl; omega))
    have hnA : NumOkB g ub f zs n1 A := HNUM.out.low (by rw [← HP.out]; exact hBA)
    have hF : Full zs := full_of HSZ.out (by rw [HN.out]; omega)
    obtain ⟨r, hr⟩ : ∃ r, insideN sh (meant sh f (digits zs k)) sh.length = r := ⟨_, rfl⟩
    obtain ⟨q, hq⟩ : ∃ q, (if r then place sh (meant sh f (digits zs k)) else 0) = q := ⟨_, rfl⟩
    have hpl := placeInB_any g ub eg f zs (digits zs k) sh a1 n1 c1 ib A hr1 hnA (digits_in hF _) (digits_len _ _) hix HS.out r (hide hr) q (hide hq)
    rw [HZW.out.len] at hpl
    obtain ⟨ca0, ca1, ca2, _, _, _⟩ := hA0.all
    have cn : A.cell? ⟨p + 1, 0, none⟩ = some (.func (.func g) #[ub] #[]) := by simp [World.cell?, hA1]
    have hzp : p + 1 < A.heap.size := by omega
    have HPL2 := hide hpl
    have HA0 := hide hA0
    have HA3 := hide hA3
    have HBT := hide hbut
    have HBK := hide hb
    have HR := hide hr
    have HQ := hide hq
    have HR2 := hide hr2
    clear hpl hA0 hA1 hA3 hr1 hr2 hBA hnA hF hb hbut hr hq hix
    cases r with
    | false =>
      gi_wp2_with (refine ⟨trivial, ?_⟩; gi_at_call 151; refine (CallsIn.inRound l (callsIn_wide.2 HPL2.out)).mono ?_; rintro e wP ⟨rfl, hbP⟩)
      refine ⟨?_, ?_, ?_⟩
      · exact But.of_below hbP
      · have := HBK.out.below (Nat.le_refl _) hbP
        rwa [half_out c sh dt f zs N k HR.out] at this
      · exact ⟨hbP.os.trans HBT.out.os, hbP.tape.trans HBT.out.tape, hbP.output.trans HBT.out.output, Nat.le_trans HBT.out.size hbP.size, fun x hx hn => (hbP.block x (Nat.lt_of_lt_of_le hx HBT.out.size)).trans (HBT.out.block x hx hn)⟩
    | true =>
      have hpb := place_bd (inside_in HR.out)
      obtain ⟨j, rfl⟩ : ∃ j : Nat, q = (j : Int) := ⟨q.toNat, by have := HQ.out; rw [if_pos rfl] at this; omega⟩
      have hj : (j : Int) < n2 := by have := HQ.out; rw [if_pos rfl] at this; have := HD.out; omega
      gi_wp2_with (refine ⟨trivial, ?_⟩; gi_at_call 151; refine (CallsIn.inRound l (callsIn_wide.2 HPL2.out)).mono ?_; rintro e wP ⟨rfl, hbP⟩; obtain ⟨cb0, cb1, cb2, _, _, _⟩ := (Box.low HA0.out (by omega) hbP).all; have cd : wP.cell? ⟨pd, 0, none⟩ = some (.slice (some ⟨gd, 0, none⟩) N N) := (by have h3 := (hbP.block pd (by omega)).trans HA3.out; simp [World.cell?, h3]); have HKP := hide (HBK.out.below (Nat.le_refl _) hbP); have cg := HKP.out.cell (i := k) (by rw [half_len]; exact hk); have cf := HKP.out.free k; have HRP := hide (HR2.out.below (Nat.le_refl _) hbP); obtain ⟨bd, od, hbd, hbd2, cdt⟩ := HRP.out.get (show j < n2 by omega); cases hbd; have HBP := hide hbP; clear hbP)
      have hmx : Tryz.prog.follows .mixedOrders = true := by kernel_rfl
      clear HPL2 HA0 HA3 ca0 ca1 ca2 cn cb0 cb1
      have HFIN : Hid (But (fun b => b = gd) A ((wP.setCell ⟨gd, k, none⟩ (.int .i64 (dt.getD j 0))).drew) ∧ (Blk ((wP.setCell ⟨gd, k, none⟩ (.int .i64 (dt.getD j 0))).drew) gd (halfway c sh dt f zs N (k + 1)) ∧ But (fun b => b = gd) W ((wP.setCell ⟨gd, k, none⟩ (.int .i64 (dt.getD j 0))).drew))) := by
        have e1 : But (fun b => b = gd) A ((wP.setCell ⟨gd, k, none⟩ (.int .i64 (dt.getD j 0))).drew) := ((But.of_below (S := fun b => b = gd) HBP.out).setCell (p := ⟨gd, k, none⟩) rfl _).drew
        refine ⟨e1, ?_, (HBT.out.trans e1).mono (by rintro x (h | h) <;> exact h)⟩
        have hg : (gatherAt c sh dt f zs k).1 = dt.getD j 0 := by rw [gather_in HR.out]; have := HQ.out; simp only [if_true] at this; rw [this]; simp
        have e2 := Blk.set HKP.out k (dt.getD j 0)
        rw [half_in c sh dt f zs N k _ hg] at e2
        exact e2
      clear HKP HBP HBK HBT HR HQ HRP HR2
      gi_region_with_o (fail)
      all_goals exact HFIN.out
  case done =>
    rintro D A hD ⟨hb, hbut⟩ hK
    have hA0 : Box A p c (.slice a1 n1 c1) (.slice a2 n2 c2) := (hbut.block p (by omega) (by omega)).trans HY0.out
    have hA2 : Box A (p + 1 + 1) false (.slice none 0 0) (.slice none 0 0) := (hbut.block (p + 1 + 1) (by omega) (by omega)).trans HY2.out
    have hA3 := (hbut.block pd (by omega) (by omega)).trans HY3.out
    obtain ⟨ca0, ca1, ca2, _, _, _⟩ := hA0.all
    obtain ⟨cc0, cc1, cc2, cf0, cf1, cf2⟩ := hA2.all
    have cd : A.cell? ⟨pd, 0, none⟩ = some (.slice (some ⟨gd, 0, none⟩) N N) := by simp [World.cell?, hA3]
    have HBT := hide hbut
    have HB := hide hb
    have HA2 := hide hA2
    clear hb hbut hA0 hA2 hA3
    gi_wp2
    obtain ⟨WX, hWX⟩ : ∃ WX, WX = ((A.setCell ⟨p + 1 + 1, 0, none⟩ (.bool c)).setCell ⟨p + 1 + 1, 1, none⟩ (.slice sa n cap)).setCell ⟨p + 1 + 1, 2, none⟩ (.slice (some ⟨gd, 0, none⟩) N N) := ⟨_, rfl⟩
    have hX : Box WX (p + 1 + 1) c (.slice sa n cap) (.slice (some ⟨gd, 0, none⟩) N N) := by rw [hWX]; exact HA2.out.sets
    have hbX : But (fun b => b = p + 1 + 1) A WX := by rw [hWX]; exact (((But.refl (fun b => b = p + 1 + 1) A).setCell (p := ⟨p + 1 + 1, 0, none⟩) rfl _).setCell (p := ⟨p + 1 + 1, 1, none⟩) rfl _).setCell (p := ⟨p + 1 + 1, 2, none⟩) rfl _
    have hlD : D < A.heap.size := (Array.getElem?_eq_some_iff.1 hK).1
    have hKX : WX.heap[D]? = some (.deferred (some [])) := (hbX.block D hlD (by omega)).trans hK
    have hbD : But (fun b => b = D) WX (WX.putObj D (.deferred none)) := But.putObj (S := fun b => b = D) WX rfl _
    have hXD : Box (WX.putObj D (.deferred none)) (p + 1 + 1) c (.slice sa n cap) (.slice (some ⟨gd, 0, none⟩) N N) := (World.putObj_heap_other (by omega)).trans hX
    obtain ⟨x0, x1, x2, _, _, _⟩ := hXD.all
    rw [← hWX]
    refine ⟨by simp, .inl ⟨_, _, rfl, run_takeDeferred hKX, ?_⟩⟩
    refine ⟨.agg #[.bool c, .slice sa n cap, .slice (some ⟨gd, 0, none⟩) N N], ?_, gd, rfl, by rw [← HP.out]; omega, ?_, ?_⟩
    · simp [results, Tryz.f59, go_sem, x0, x1, x2]
      done
    · rw [← half_all]
      exact (hbD.block gd (by have := hbX.size; have := HB.out.lt; omega) (by omega)).trans ((hbX.block gd HB.out.lt (by omega)).trans HB.out)
    · have e := (HBW.out.trans (HBT.out.below (B := p) (by omega) (by rintro x rfl; omega))).trans ((hbX.trans hbD).below (B := p) (by have := HBT.out.size; omega) (by rintro x (rfl | rfl) <;> omega))
      rw [← HP.out]
      exact e
theorem gatheredB_any (c : Bool) (a1 a2 sa : Option Addr) (n1 n2 c1 c2 n cap : Nat) (sh dt zs : List Int) (g : Nat) (ub : Value) (eg : ∀ args w, (callFunc g args).run Tryz.prog w = .ok (.enter g args) w) (f : List Int → Nat → Int) (w : World) (N : Nat)
    (h1 : Row w a1 n1 sh) (h2 : Row w a2 n2 dt) (hz : Row w sa n zs) (hs : ShapeIn sh) (hsz : ShapeIn zs) (h5 : n ≤ 5) (hN : prodAll zs = (N : Int)) (hd : prodAll sh = (n2 : Int)) (hnum : NumOkB g ub f zs n1 w) :
    Calls Tryz.prog 59 #[.agg #[.bool c, .slice a1 n1 c1, .slice a2 n2 c2], .slice sa n cap, .func (.func g) #[ub] #[]] w fun e w' => ∃ gd, e = .returned (.agg #[.bool c, .slice sa n cap, .slice (some ⟨gd, 0, none⟩) N N]) ∧ w.heap.size ≤ gd ∧ Blk w' gd (vals (gatherAt c sh dt f zs) N) ∧ Below w.heap.size w w' :=
  callsIn_wide.1 (gatheredB_in c a1 a2 sa n1 n2 c1 c2 n cap sh dt zs g ub eg f w N h1 h2 hz hs hsz h5 hN hd hnum)
end Go.Proofs.YtgjpchnkodnieaaGreatDoor
