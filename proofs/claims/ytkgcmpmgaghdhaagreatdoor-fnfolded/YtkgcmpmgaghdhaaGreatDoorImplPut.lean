import Derived.Test.YtkgcmpmgaghdhaaGreatDoorImplIndexes
import Derived.Test.YtkgcmpmgaghdhaaGreatDoorImplPlaceIn
import Derived.Test.YtkgcmpmgaghdhaaGreatDoorMFit2
import Derived.Test.YtkgcmpmgaghdhaaGreatDoorMFit0
import Derived.Test.YtkgcmpmgaghdhaaGreatDoorMFit0
import Derived.Test.YtkgcmpmgaghdhaaGreatDoorMFit0
import Derived.Test.YtkgcmpmgaghdhaaGreatDoorMFit0
namespace Go.Proofs.YtkgcmpmgaghdhaaGreatDoor
open Go.RowKit Go.Shelf

attribute [local go_sem] Oper.semAt_some

/-- As NumOk, in whatever world holds what lay in w, but for block gd. -/
def NumBut (g : Nat) (lb : Array Value) (f : List Int → Nat → Int) (zs : List Int) (r : Nat) (w : World) (gd : Nat) : Prop :=
  ∀ D, IxIn zs D → D.length = zs.length → ∀ k, k < r → ∀ (ib : Nat) W, But (fun b => b = gd) w W → Blk W ib D → Calls Tryz.prog g (#[.slice (some ⟨ib, 0, none⟩) zs.length zs.length, .int .i64 (k : Nat)] ++ lb) W fun e w' => e = .returned (.int .i64 (f D k)) ∧ Below W.heap.size W w'

theorem NumBut.num {g : Nat} {lb : Array Value} {f : List Int → Nat → Int} {zs : List Int} {r gd : Nat} {w w1 : World} (h : NumBut g lb f zs r w gd) (hb : But (fun b => b = gd) w w1) : NumOk g lb f zs r w1 :=
  fun D h1 h2 k hk ib W hW hB => h D h1 h2 k hk ib W ((hb.trans (T := fun _ => False) (But.of_below hW)).mono (fun _ hk => hk.elim id False.elim)) hB

set_option maxRecDepth 100000 in
set_option maxHeartbeats 4000000 in
theorem put_any_in (c : Bool) (a1 a2 sa : Option Addr) (n1 n2 c1 c2 n cap M gd step cnt : Nat) (sh dt zs l : List Int) (g : Nat) (lb : Array Value) (eg : ∀ args w, (callFunc g args).run Tryz.prog w = .ok (.enter g args) w) (f : List Int → Nat → Int) (w : World) (N : Nat)
    (h1 : Row w a1 n1 sh) (h2 : Row w a2 n2 dt) (hz : Row w sa n zs) (hg : Blk w gd l) (hlM : l.length = M) (hs : ShapeIn sh) (hsz : ShapeIn zs) (h5 : n ≤ 5) (hN : prodAll zs = (N : Int)) (hd : prodAll sh = (M : Int)) (hst : ∀ k, k < N → k * step < n2) (hnum : NumBut g lb f zs n1 w gd)
    (ap1 : ¬ At a1 n1 gd) (ap2 : ¬ At a2 n2 gd) (ap3 : ¬ At sa n gd) :
    CallsIn Fence.wide 9 Tryz.prog 106 #[.agg #[.bool c, .slice a1 n1 c1, .slice (some ⟨gd, 0, none⟩) M M], .slice sa n cap, .agg #[.slice a2 n2 c2, .int .i64 0, .int .i64 (step : Nat), .int .i64 (cnt : Nat)], .func (.func g) #[] lb] w fun e w' => (∃ v, e = .returned v) ∧ Blk w' gd (putN sh f zs (fun k => dt.getD (k * step) 0) l N) ∧ But (fun b => b = gd) w w' := by
  have hNb : N ≤ 10000 := by have := hsz.bd; omega
  obtain ⟨gf, hgf⟩ : ∃ gf : Nat → Int, gf = fun k => dt.getD (k * step) 0 := ⟨_, rfl⟩
  rw [← hgf]
  have HGF := hide hgf
  have H1 := hide h1
  have H2 := hide h2
  have HZ := hide hz
  have HS := hide hs
  have HSZ := hide hsz
  have HN := hide hN
  have HD := hide hd
  have HNUM := hide hnum
  have HG := hide hg
  have HLM := hide hlM
  have HST := hide hst
  have HAP := hide (And.intro ap1 (And.intro ap2 ap3))
  have hgw := hg.lt
  clear h1 h2 hz hs hsz hN hd hnum hg hgf hlM hst ap1 ap2 ap3
  refine callsIn_of_wp_marks Tryz.func106 rfl trivial ?_ rfl
  simp only [Tryz.ntmps106, List.size_toArray, List.length_cons, List.length_nil, Nat.reduceAdd, Nat.reduceSub, Array.replicate_succ, Array.replicate_zero, List.push_toArray, List.append_toArray, List.nil_append, List.cons_append]
  obtain ⟨W, hW⟩ : ∃ W, W = (((w.alloc (.cells #[.bool c, .slice a1 n1 c1, .slice (some ⟨gd, 0, none⟩) M M] 25)).alloc (.cells #[.slice a2 n2 c2, .int .i64 0, .int .i64 (step : Nat), .int .i64 (cnt : Nat)] 68)).alloc (.cells #[.func (.func g) #[] lb] 82)).alloc (.cells #[.slice sa n cap] 23) := ⟨_, rfl⟩
  have hzW : W.heap.size = w.heap.size + 4 := by rw [hW]; simp
  gi_wp2_with (refine ⟨trivial, ?_⟩; gi_at_call 126; refine (callsIn_wide.2 (indexesIn_any _ _ _ _)).mono ?_; rintro e wI ⟨rfl, hwI⟩; obtain rfl := hwI.symm)
  rw [← hW]
  obtain ⟨p, hp⟩ : ∃ p, p = w.heap.size := ⟨_, rfl⟩
  have HBW : Hid (Below p w W) := by rw [hp, hW]; exact ((((Below.refl _ w).alloc (Nat.le_refl _) _).alloc (by simp) _).alloc (by simp; omega) _).alloc (by simp; omega) _
  have HY0 : Hid (Box W p c (.slice a1 n1 c1) (.slice (some ⟨gd, 0, none⟩) M M)) := by rw [hp, hW]; exact (((Box.new w _ _ _).alloc _).alloc _).alloc _
  have HY1 : Hid (SBox W (p + 1) a2 n2 c2 0 step cnt) := by
    rw [hp, hW]
    have := SBox.new (w.alloc (.cells #[.bool c, .slice a1 n1 c1, .slice (some ⟨gd, 0, none⟩) M M] 25)) a2 n2 c2 0 step cnt
    rw [World.size_alloc] at this
    exact (this.alloc _).alloc _
  have HY2 : Hid (W.heap[p + 2]? = some (.cells #[.func (.func g) #[] lb] 82 (0, 0))) := by
    rw [hp, hW]
    refine (Below.heap_alloc _ _ _ (by simp)).trans ?_
    have := World.alloc_heap_new ((w.alloc (.cells #[.bool c, .slice a1 n1 c1, .slice (some ⟨gd, 0, none⟩) M M] 25)).alloc (.cells #[.slice a2 n2 c2, .int .i64 0, .int .i64 (step : Nat), .int .i64 (cnt : Nat)] 68)) (.cells #[.func (.func g) #[] lb] 82)
    simpa using this
  have HY3 : Hid (W.heap[p + 3]? = some (.cells #[.slice sa n cap] 23 (0, 0))) := by
    rw [hp, hW]
    have := World.alloc_heap_new (((w.alloc (.cells #[.bool c, .slice a1 n1 c1, .slice (some ⟨gd, 0, none⟩) M M] 25)).alloc (.cells #[.slice a2 n2 c2, .int .i64 0, .int .i64 (step : Nat), .int .i64 (cnt : Nat)] 68)).alloc (.cells #[.func (.func g) #[] lb] 82)) (.cells #[.slice sa n cap] 23)
    rwa [World.size_alloc, World.size_alloc, World.size_alloc] at this
  have HGW : Hid (Blk W gd (putN sh f zs gf l 0)) := HG.out.below (by omega) HBW.out
  have H1W := hide (H1.out.below (by omega) HBW.out)
  have H2W := hide (H2.out.below (by omega) HBW.out)
  have HZW := hide (HZ.out.below (by omega) HBW.out)
  have hgp : gd < p := by omega
  have hzp : W.heap.size = p + 4 := by omega
  have HNW : Hid (But (fun b => b = gd) w W) := But.of_below (by have := HBW.out; rwa [hp] at this)
  have HPL : Hid (∀ k, At sa n k → k < p) := fun k h => by rw [hp]; exact HZ.out.hi h
  rw [show w.heap.size + 1 + 1 + 1 = w.heap.size + 3 by omega, show w.heap.size + 1 + 1 = w.heap.size + 2 by omega, ← hp]
  clear hW hzW H1 H2 HZ HG hgw hwI
  have HP := hide hp
  clear hp
  refine range_cells (gf := 163) (lb := #[.pointer (some ⟨p + 3, 0, none⟩)]) rfl (enters_of Tryz.func163 (by kernel_rfl) rfl) rfl (fun k => k = gd) (by rintro k rfl; omega)
    (indexesIn1_seq _ (p + 3) sa n cap zs W N _ (by simp [World.cell?, HY3.out]) (by omega) HZW.out h5 HSZ.out HN.out (by omega) (by rintro k (rfl | rfl) h; exact HAP.out.2.2 h; have := HPL.out _ h; omega))
    (by rintro k v A o ⟨ib, hlo, rfl, hb⟩ _; exact ⟨ib, hlo, rfl, (World.putObj_heap_other (by omega)).trans hb⟩)
    (fun k A => Blk A gd (putN sh f zs gf l k) ∧ But (fun b => b = gd) W A)
    (by rintro k A B ⟨h, hb⟩ hbl; exact ⟨(hbl.block _ (by omega)).trans h, hbl.os.trans hb.os, hbl.tape.trans hb.tape, hbl.output.trans hb.output, Nat.le_trans hb.size hbl.size, fun x hx hn => (hbl.block x hx).trans (hb.block x hx hn)⟩)
    ⟨HGW.out, But.refl _ _⟩
    (fun k v => { tmps := #[.agg #[.bool c, .slice a1 n1 c1, .slice (some ⟨gd, 0, none⟩) M M], .slice sa n cap, .agg #[.slice a2 n2 c2, .int .i64 0, .int .i64 (step : Nat), .int .i64 (cnt : Nat)], .func (.func g) #[] lb, .pointer (some ⟨p, 0, none⟩), undef, .pointer (some ⟨p + 1, 0, none⟩), .pointer (some ⟨p + 2, 0, none⟩), .int .i64 (k : Nat), v, undef, undef, .slice sa n cap, .func (.func 163) #[] #[.pointer (some ⟨p + 3, 0, none⟩)], .int .i64 (k : Nat), v, undef, undef, undef, undef, undef, undef, undef, undef, undef, undef, undef, undef, undef, undef, undef, undef], defers := [] }) ?assign ?body ?done
  case assign =>
    intro l k v A K hK
    gi_wp2
    exact hK
  case body =>
    rintro lr k v A hk ⟨hb, hbut⟩ ⟨ib, hlo, rfl, hix⟩ hzA
    have hA0 : Box A p c (.slice a1 n1 c1) (.slice (some ⟨gd, 0, none⟩) M M) := (hbut.block p (by omega) (by omega)).trans HY0.out
    have hA1 : SBox A (p + 1) a2 n2 c2 0 step cnt := (hbut.block (p + 1) (by omega) (by omega)).trans HY1.out
    have hA2 := (hbut.block (p + 2) (by omega) (by omega)).trans HY2.out
    have hr1 := hbut.row H1W.out (by rintro x rfl h; exact HAP.out.1 h)
    have hr2 := hbut.row H2W.out (by rintro x rfl h; exact HAP.out.2.1 h)
    have hnA : NumOk g lb f zs n1 A := HNUM.out.num ((HNW.out.trans hbut).mono (by rintro x (h | h) <;> exact h))
    have hF : Full zs := full_of HSZ.out (by rw [HN.out]; omega)
    obtain ⟨r, hr⟩ : ∃ r, insideN sh (meant sh f (digits zs k)) sh.length = r := ⟨_, rfl⟩
    obtain ⟨q, hq⟩ : ∃ q, (if r then place sh (meant sh f (digits zs k)) else 0) = q := ⟨_, rfl⟩
    have hpl := placeIn_any g lb eg f zs (digits zs k) sh a1 n1 c1 ib A hr1 hnA (digits_in hF _) (digits_len _ _) hix HS.out r (hide hr) q (hide hq)
    rw [HZW.out.len] at hpl
    obtain ⟨ca0, ca1, ca2, _, _, _⟩ := hA0.all
    have cn : A.cell? ⟨p + 2, 0, none⟩ = some (.func (.func g) #[] lb) := by simp [World.cell?, hA2]
    have hzp' : p + 3 < A.heap.size := by omega
    have HPL2 := hide hpl
    have HA0 := hide hA0
    have HA1 := hide hA1
    have HBT := hide hbut
    have HBK := hide hb
    have HR := hide hr
    have HQ := hide hq
    have HR2 := hide hr2
    clear hpl hA0 hA1 hA2 hr1 hr2 hnA hF hb hbut hr hq hix
    cases r with
    | false =>
      gi_wp2_with (refine ⟨trivial, ?_⟩; gi_at_call 127; refine (CallsIn.inRound lr (callsIn_wide.2 HPL2.out)).mono ?_; rintro e wP ⟨rfl, hbP⟩)
      refine ⟨?_, ?_, ?_⟩
      · exact But.of_below hbP
      · have := HBK.out.below (Nat.le_refl _) hbP
        rwa [put_out HR.out] at this
      · exact ⟨hbP.os.trans HBT.out.os, hbP.tape.trans HBT.out.tape, hbP.output.trans HBT.out.output, Nat.le_trans HBT.out.size hbP.size, fun x hx hn => (hbP.block x (Nat.lt_of_lt_of_le hx HBT.out.size)).trans (HBT.out.block x hx hn)⟩
    | true =>
      have hpb := place_bd (inside_in HR.out)
      obtain ⟨j, rfl⟩ : ∃ j : Nat, q = (j : Int) := ⟨q.toNat, by have := HQ.out; rw [if_pos rfl] at this; omega⟩
      have hj : (j : Int) < M := by have := HQ.out; rw [if_pos rfl] at this; have := HD.out; omega
      have HPJ : Hid (place sh (meant sh f (digits zs k)) = (j : Int)) := by have := HQ.out; rwa [if_pos rfl] at this
      have hjl : j < (putN sh f zs gf l k).length := by rw [put_len, HLM.out]; omega
      obtain ⟨x, hx⟩ : ∃ x, x = gf k := ⟨_, rfl⟩
      have HX := hide hx
      have hcall : ∀ wx, Below A.heap.size A wx → Calls Tryz.prog 121 #[.agg #[.slice a2 n2 c2, .int .i64 0, .int .i64 (step : Nat), .int .i64 (cnt : Nat)], .int .i64 (k : Nat)] wx fun e w' => e = .returned (.int .i64 x) ∧ Below wx.heap.size wx w' := fun wx hwx => by
        have := at_any a2 n2 c2 0 step cnt k dt wx (HR2.out.below (Nat.le_refl _) hwx) (by have := HST.out k hk; omega)
        rw [hx, HGF.out]
        simpa using this
      have HCALL := hide hcall
      clear hcall hx
      gi_wp2_with (refine ⟨trivial, ?_⟩; gi_at_call 127; refine (CallsIn.inRound lr (callsIn_wide.2 HPL2.out)).mono ?_; rintro e wP ⟨rfl, hbP⟩; obtain ⟨cb0, cb1, cb2, _, _, _⟩ := (Box.low HA0.out (by omega) hbP).all; obtain ⟨d0, d1, d2, d3⟩ := (HA1.out.below (Nat.le_refl _) hbP).cells; have HBP := hide hbP; clear hbP)
      have hmx : Tryz.prog.follows .mixedOrders = true := by kernel_rfl
      have hzP := HBP.out.size
      clear HPL2 ca0 ca1 ca2 cn cb0 cb1
      gi_region_with_o ((refine ⟨trivial, ?_⟩; gi_at_call 121; refine (CallsIn.inRound lr (callsIn_wide.2 (HCALL.out _ HBP.out.drew))).mono ?_; rintro e wT ⟨rfl, hbT⟩; have HBT2 := hide (HBP.out.drew.trans (hbT.mono HBP.out.drew.size)); obtain ⟨e0, e1, e2, _, _, _⟩ := (Box.low HA0.out (by omega) HBT2.out).all; have HKT := hide (HBK.out.below (Nat.le_refl _) HBT2.out); have cg := HKT.out.cell (i := j) hjl; have cf := HKT.out.free j; clear hbT))
      all_goals
        have e1 : But (fun b => b = gd) A (wT.setCell ⟨gd, j, none⟩ (.int .i64 x)) := (But.of_below (S := fun b => b = gd) HBT2.out).setCell (p := ⟨gd, j, none⟩) rfl _
        refine ⟨e1, ?_, (HBT.out.trans e1).mono (by rintro x (h | h) <;> exact h)⟩
        have e2 := Blk.set HKT.out j x
        rw [HX.out, put_in HR.out HPJ.out, ← HX.out] at e2
        exact e2
  case done =>
    rintro D A hD ⟨hb, hbut⟩ hK
    have HBT := hide hbut
    have HB := hide hb
    clear hb hbut
    gi_wp2
    have hlD : D < A.heap.size := (Array.getElem?_eq_some_iff.1 hK).1
    have hbD : But (fun b => b = D) A (A.putObj D (.deferred none)) := But.putObj (S := fun b => b = D) A rfl _
    refine ⟨by simp, .inl ⟨_, _, rfl, run_takeDeferred hK, ?_⟩⟩
    refine ⟨.tuple #[], by simp [results, Tryz.f106], ⟨_, rfl⟩, ?_, ?_⟩
    · exact (hbD.block gd HB.out.lt (by omega)).trans HB.out
    · have e := (HNW.out.trans HBT.out).trans hbD
      have hpw := HP.out
      exact ⟨e.os, e.tape, e.output, e.size, fun k hk hn => e.block k hk (by rintro ((h | h) | h); exact hn h; exact hn h; omega)⟩

theorem put_any (c : Bool) (a1 a2 sa : Option Addr) (n1 n2 c1 c2 n cap M gd step cnt : Nat) (sh dt zs l : List Int) (g : Nat) (lb : Array Value) (eg : ∀ args w, (callFunc g args).run Tryz.prog w = .ok (.enter g args) w) (f : List Int → Nat → Int) (w : World) (N : Nat)
    (h1 : Row w a1 n1 sh) (h2 : Row w a2 n2 dt) (hz : Row w sa n zs) (hg : Blk w gd l) (hlM : l.length = M) (hs : ShapeIn sh) (hsz : ShapeIn zs) (h5 : n ≤ 5) (hN : prodAll zs = (N : Int)) (hd : prodAll sh = (M : Int)) (hst : ∀ k, k < N → k * step < n2) (hnum : NumBut g lb f zs n1 w gd)
    (ap1 : ¬ At a1 n1 gd) (ap2 : ¬ At a2 n2 gd) (ap3 : ¬ At sa n gd) :
    Calls Tryz.prog 106 #[.agg #[.bool c, .slice a1 n1 c1, .slice (some ⟨gd, 0, none⟩) M M], .slice sa n cap, .agg #[.slice a2 n2 c2, .int .i64 0, .int .i64 (step : Nat), .int .i64 (cnt : Nat)], .func (.func g) #[] lb] w fun e w' => (∃ v, e = .returned v) ∧ Blk w' gd (putN sh f zs (fun k => dt.getD (k * step) 0) l N) ∧ But (fun b => b = gd) w w' :=
  callsIn_wide.1 (put_any_in c a1 a2 sa n1 n2 c1 c2 n cap M gd step cnt sh dt zs l g lb eg f w N h1 h2 hz hg hlM hs hsz h5 hN hd hst hnum ap1 ap2 ap3)

end Go.Proofs.YtkgcmpmgaghdhaaGreatDoor
