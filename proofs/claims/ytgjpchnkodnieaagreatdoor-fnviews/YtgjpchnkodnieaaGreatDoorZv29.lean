import Derived.Test.YtgjpchnkodnieaaGreatDoorZv27
import Derived.Test.YtgjpchnkodnieaaGreatDoorZv24
import Derived.Test.YtgjpchnkodnieaaGreatDoorZv17
import Derived.Test.YtgjpchnkodnieaaGreatDoorZv23
import Derived.Test.YtgjpchnkodnieaaGreatDoorZv11
import Derived.Test.YtgjpchnkodnieaaGreatDoorZv03
import Derived.Test.YtgjpchnkodnieaaGreatDoorZv18
import Derived.Test.YtgjpchnkodnieaaGreatDoorZv08
import Derived.Test.YtgjpchnkodnieaaGreatDoorZv00
import Derived.Test.YtgjpchnkodnieaaGreatDoorZv01
import Derived.Test.YtgjpchnkodnieaaGreatDoorZv16
import Derived.Test.YtgjpchnkodnieaaGreatDoorZv28
namespace Go.Proofs.YtgjpchnkodnieaaGreatDoor
open Go.RowKit Go.Shelf
attribute [local go_sem] Oper.semAt_some
def placed (c : Int) (sh st : List Int) (N k : Nat) : List Int := (List.range N).map fun i => if i < k then placeOf c sh st i else 0
theorem placed_len (c : Int) (sh st : List Int) (N k : Nat) : (placed c sh st N k).length = N := by simp [placed]
theorem placed_zero (c : Int) (sh st : List Int) (N : Nat) : placed c sh st N 0 = List.replicate N 0 := by
  have e : List.replicate N (0 : Int) = (List.range N).map fun _ => 0 := by rw [List.map_const']; simp
  rw [e]
  exact map_range_eq fun i _ => by rw [if_neg (by omega)]
theorem placed_step (c : Int) (sh st : List Int) (N k : Nat) : (placed c sh st N k).set k (placeOf c sh st k) = placed c sh st N (k + 1) := by
  unfold placed
  rw [map_range_set]
  refine map_range_eq fun i _ => ?_
  by_cases e : i = k
  · rw [if_pos e, if_pos (by omega), e]
  · rw [if_neg e]
    by_cases h : i < k
    · rw [if_pos h, if_pos (by omega)]
    · rw [if_neg h, if_neg (by omega)]
theorem placed_all (c : Int) (sh st : List Int) (N : Nat) (hN : countOf sh = (N : Int)) : placed c sh st N N = placesOf c sh st := by
  unfold placed placesOf
  rw [hN]
  exact map_range_eq fun i hi => by rw [if_pos hi]
set_option maxRecDepth 100000 in
set_option maxHeartbeats 8000000 in
theorem lplaces_in (c : Int) (sh st : List Int) (hfm : formed c sh st = true) (f : Nat → Int) (hf : Hid (fl c sh st = f)) (w : World) :
    CallsIn Fence.wide 9 Tryz.prog 161 #[lay f] w fun e w' => ∃ b m d, e = .returned (.slice b m d) ∧ Own w' w.heap.size b m (placesOf c sh st) ∧ Below w.heap.size w w' := by
    obtain ⟨hsb, hle, hcb, hst⟩ := formed_parts hfm
    obtain ⟨hin, h5⟩ := shapeB_in hsb
    obtain ⟨N, hN⟩ : ∃ N : Nat, prodAll sh = (N : Int) := ⟨(prodAll sh).toNat, by have := hin.bd; omega⟩
    have hcn : countOf sh = (N : Int) := by rw [← prodAll_count sh hsb]; exact hN
    have HE : Hid (placesOf c sh st = placed c sh st N N) := by show _ = _; rw [placed_all c sh st N hcn]
    have hNb : N ≤ 10000 := by have := hin.bd; omega
    obtain ⟨n2, hn2⟩ : ∃ n, sh.length = n := ⟨_, rfl⟩
    have hn5 : n2 ≤ 5 := by rw [← hn2]; exact h5
    have HN := hide hN
    have HIN := hide hin
    have HST := hide hst
    have HCB := hide hcb
    have HL1 := hide hn2
    have HSB := hide hsb
    have HCN : Hid (countOf sh = (N : Int)) := hcn
    have hmk := run_make_row' (P := Tryz.prog) 23 3 (.int .i64 0) 8 Tryz.underlying23 info_int rfl .i64 .i64 N (by omega) (by omega)
    have HLN := hide (LBox.new w f)
    have hf0 : Hid (f 0 = c) := by rw [← unhide hf]; exact fl_0 c sh st
    have hf1 : Hid (f 1 = (n2 : Int)) := by show _ = _; rw [← unhide hf, fl_1, hn2]
    clear hfm hsb hle hcb hst hin h5 hN hcn hn2
    have h5i : (n2 : Int) ≤ 5 := by omega
    have h0i : (0 : Int) ≤ n2 := by omega
    have hcall := fun (W : World) => count_eq c sh st (unhide HSB) f hf (N : Int) HCN W
    refine callsIn_of_wp_marks Tryz.func161 rfl trivial ?_ rfl
    simp only [Tryz.ntmps161, List.size_toArray, List.length_cons, List.length_nil, Nat.reduceAdd, Nat.reduceSub, Array.replicate_succ, Array.replicate_zero, List.push_toArray, List.append_toArray, List.nil_append, List.cons_append]
    gi_wp2_with (first
      | (refine ⟨trivial, ?_⟩; gi_at_call 83; refine (callsIn_wide.2 (hcall _)).mono ?_; rintro e wA ⟨rfl, hbA⟩; have HBA := hide hbA; have HLA := hide ((unhide HLN).below (Nat.le_refl _) hbA); have cl1 := (unhide HLA).at (i := 1) (by omega); rw [unhide hf1] at cl1; have cll := (unhide HLA).lt; clear hbA)
      | (refine ⟨trivial, ?_⟩; gi_at_call 150; refine (callsIn_wide.2 (indexesIn_any _ _ _ _)).mono ?_; rintro e wI ⟨rfl, hwI⟩; obtain rfl := hwI.symm))
    obtain ⟨p, hp⟩ : ∃ p, p = w.heap.size := ⟨_, rfl⟩
    obtain ⟨gd, hgd⟩ : ∃ gd, gd = wA.heap.size := ⟨_, rfl⟩
    obtain ⟨W, hW⟩ : ∃ W, W = ((wA.alloc (.cells (madeCells #[.int .i64 0] N) 3)).alloc (.cells #[.slice (some ⟨wA.heap.size, 0, none⟩) N N] 23)).alloc (.cells #[.slice (some ⟨w.heap.size, 2, none⟩) n2 5] 23) := ⟨_, rfl⟩
    have hzA := (unhide HBA).size
    rw [World.size_alloc] at hzA
    have hBA : Below p w wA := by rw [hp]; exact ((Below.refl _ _).alloc (Nat.le_refl _) _).trans ((unhide HBA).mono (by simp))
    have HBW : Hid (Below p w W) := by rw [hW]; exact ((hBA.alloc (by omega) _).alloc (by simp; omega) _).alloc (by simp; omega) _
    have HV : Hid (LBox W p f) := by rw [hW, hp]; exact (((unhide HLA).alloc _).alloc _).alloc _
    have HG : Hid (Blk W gd (placed c sh st N 0)) := by
      rw [placed_zero, hW, hgd]; exact ((Blk.made wA N _ rfl).alloc _).alloc _
    have HY3 : Hid (W.heap[gd + 1]? = some (.cells #[.slice (some ⟨gd, 0, none⟩) N N] 23 (0, 0))) := by
      rw [hW, hgd]
      refine (Below.heap_alloc _ _ _ (by simp)).trans ?_
      have := World.alloc_heap_new (wA.alloc (.cells (madeCells #[.int .i64 0] N) 3)) (.cells #[.slice (some ⟨wA.heap.size, 0, none⟩) N N] 23)
      rwa [World.size_alloc] at this
    have HY4 : Hid (W.heap[gd + 1 + 1]? = some (.cells #[.slice (some ⟨p, 2, none⟩) n2 5] 23 (0, 0))) := by
      rw [hW, hgd, hp]
      have := World.alloc_heap_new ((wA.alloc (.cells (madeCells #[.int .i64 0] N) 3)).alloc (.cells #[.slice (some ⟨wA.heap.size, 0, none⟩) N N] 23)) (.cells #[.slice (some ⟨w.heap.size, 2, none⟩) n2 5] 23)
      rwa [World.size_alloc, World.size_alloc] at this
    have hzW : W.heap.size = gd + 3 := by rw [hW, hgd]; simp
    have hpg : p < gd := by omega
    have H1W : Hid (Row W (some ⟨p, 2, none⟩) n2 sh) := (unhide HV).row sh (unhide HL1) 2 (by omega) (fun i hi => by rw [← unhide hf]; exact fl_len _ _ _ (by omega))
    rw [← hW, ← hp, ← hgd]
    clear hzA hBA HBA hW hgd hwI hmk hcall HLA HLN cl1 cll
    have HP := hide hp
    clear hp
    refine range_cells (gf := 228) (lb := #[.pointer (some ⟨gd + 1 + 1, 0, none⟩)]) rfl (enters_of Tryz.func228 (by kernel_rfl) rfl) rfl (fun k => k = gd) (by rintro k rfl; omega)
      (indexesIn1_seq _ (gd + 1 + 1) (some ⟨p, 2, none⟩) n2 5 sh W N _ (by simp [World.cell?, unhide HY4]) (by omega) (unhide H1W) hn5 (unhide HIN) (unhide HN) (by omega) (by rintro k (rfl | rfl) h <;> have := at_eq h <;> omega))
      (by rintro k v A o ⟨ib, hlo, rfl, hb⟩ _; exact ⟨ib, hlo, rfl, (World.putObj_heap_other (by omega)).trans hb⟩)
      (fun k A => Blk A gd (placed c sh st N k) ∧ But (fun b => b = gd) W A)
      (by rintro k A B ⟨h, hb⟩ hbl; exact ⟨(hbl.block _ (by omega)).trans h, hbl.os.trans hb.os, hbl.tape.trans hb.tape, hbl.output.trans hb.output, Nat.le_trans hb.size hbl.size, fun x hx hn => (hbl.block x hx).trans (hb.block x hx hn)⟩)
      ⟨unhide HG, But.refl _ _⟩
      (fun k v => { tmps := #[lay f, .pointer (some ⟨p, 0, none⟩), .slice none 0 0, .pointer (some ⟨gd + 1, 0, none⟩), .int .i64 (k : Nat), v, undef, undef, lay f, .int .i64 (N : Nat), .slice (some ⟨gd, 0, none⟩) N N, .pointer (some ⟨p, 2, none⟩), .pointer (some ⟨p, 1, none⟩), .int .i64 (n2 : Nat), .slice (some ⟨p, 2, none⟩) n2 5, .func (.func 228) #[] #[.pointer (some ⟨gd + 1 + 1, 0, none⟩)], .int .i64 (k : Nat), v, undef, undef, undef, undef, undef, undef, undef, undef, undef, undef, undef, undef, undef, undef, undef, undef, undef, undef, undef, undef, undef, undef, undef, undef, undef, undef], defers := [] }) ?assign ?body ?done
    case assign =>
      intro l k v A K hK
      gi_wp2
      exact hK
    case body =>
      rintro l k v A hk ⟨hb, hbut⟩ ⟨ib, hlo, rfl, hix⟩ hzA
      have v0 := (show LBox A p f from (hbut.block p (by omega) (by omega)).trans (unhide HV)).at (i := 0) (by omega)
      rw [unhide hf0] at v0
      have hA3 := (hbut.block (gd + 1) (by omega) (by omega)).trans (unhide HY3)
      have cd : A.cell? ⟨gd + 1, 0, none⟩ = some (.slice (some ⟨gd, 0, none⟩) N N) := by simp [World.cell?, hA3]
      have hF : Full sh := full_of (unhide HIN) (by rw [unhide HN]; omega)
      have cg := hb.cell (i := k) (by rw [placed_len]; exact hk)
      have cf := hb.free k
      have hgl := hb.lt
      have hil := hix.lt
      have hkN : (k : Int) < N := by omega
      have HFU := hide hF
      have HBK0 : Hid (Blk (A.setCell ⟨gd, k, none⟩ (.int .i64 c)) gd ((placed c sh st N k).set k (c + farN (digits sh k) st 0))) := by
        have e : c + farN (digits sh k) st 0 = c := by simp [farN]
        rw [e]; exact hb.set k c
      have HBT := hide hbut
      have HIX := hide hix
      have HA3 := hide hA3
      clear hb hbut hix hF hA3
      gi_wp2_with fail
      gi_loopw [25] (fun i wr => ∃ j : Nat, j ≤ n2 ∧ i = .int .i64 j ∧ Hid (Blk wr gd ((placed c sh st N k).set k (c + farN (digits sh k) st j))) ∧ Hid (But (fun b => b = gd) A wr)) (fun i _ => n2 - (intOf i).toNat)
      case atStart => exact ⟨0, Nat.zero_le _, rfl, HBK0, hide ((But.refl (fun b => b = gd) A).setCell (p := ⟨gd, k, none⟩) rfl _)⟩
      case round =>
        obtain ⟨j, hj, rfl, hbj, hbuj⟩ := hrel
        have hWr : But (fun b => b = gd) W wr := ((unhide HBT).trans (unhide hbuj)).mono (by rintro x (h | h) <;> exact h)
        clear v0 cd cg cf hgl
        by_cases hjn : j < n2
        · have cy := (show LBox wr p f from (hWr.block p (by omega) (by omega)).trans (unhide HV)).at (i := 7 + j) (by omega)
          rw [← unhide hf, fl_str] at cy
          have hix2 : Blk wr ib (digits sh k) := ((unhide hbuj).block ib hil (by omega)).trans (unhide HIX)
          have cdg := hix2.cell (i := j) (by rw [digits_len, unhide HL1]; exact hjn)
          have hA3 := (hWr.block (gd + 1) (by omega) (by omega)).trans (unhide HY3)
          have cd : wr.cell? ⟨gd + 1, 0, none⟩ = some (.slice (some ⟨gd, 0, none⟩) N N) := by simp [World.cell?, hA3]
          obtain ⟨dg, hdg⟩ : ∃ dg, (digits sh k).getD j 0 = dg := ⟨_, rfl⟩
          obtain ⟨y, hy⟩ : ∃ y, st.getD j 0 = y := ⟨_, rfl⟩
          obtain ⟨x, hx⟩ : ∃ x, c + farN (digits sh k) st j = x := ⟨_, rfl⟩
          have hdi := digits_in (unhide HFU) (k : Int) j (by rw [unhide HL1]; exact hjn)
          have hsj := (unhide HIN).cell j
          have hyb := unhide HST j
          have hfb := farN_bd (st := st) (digits_in (unhide HFU) (k : Int)) (fun q => ((unhide HIN).cell q).2) (unhide HST) j (by rw [unhide HL1]; omega)
          have hcb := unhide HCB
          have cx := (unhide hbj).cell (i := k) (by simp [placed_len]; exact hk)
          have fx := (unhide hbj).free k
          have hgl := (unhide hbj).lt
          have ex : ((placed c sh st N k).set k (c + farN (digits sh k) st j)).getD k 0 = x := by rw [← hx]; simp [List.getD, placed_len, hk]
          rw [ex] at cx
          rw [hdg] at cdg hdi
          rw [hy] at cy hyb
          obtain ⟨z, hz⟩ : ∃ z, dg * y = z := ⟨_, rfl⟩
          have hzb : -100000000 ≤ z ∧ z ≤ 100000000 := by rw [← hz]; exact mul_bd (by omega) (by omega) hyb.1 hyb.2
          have hxb : -600000000 ≤ x ∧ x ≤ 600000000 := by rw [← hx]; omega
          have hwz : IntKind.i64.wrap (dg * y) = z := by rw [hz, IntKind.wrap_i64]; omega
          have hws : IntKind.i64.wrap (x + z) = x + z := by rw [IntKind.wrap_i64]; omega
          have HNX : Hid (c + farN (digits sh k) st (j + 1) = x + z) := by show c + (farN (digits sh k) st j + (digits sh k).getD j 0 * st.getD j 0) = _; rw [hdg, hy, hz, ← hx]; omega
          have HBN : Hid (Blk (wr.setCell ⟨gd, k, none⟩ (.int .i64 (x + z))) gd ((placed c sh st N k).set k (c + farN (digits sh k) st (j + 1)))) := by
            have := (unhide hbj).set k (x + z)
            rw [List.set_set, ← unhide HNX] at this
            rw [← unhide HNX]
            exact this
          have HUN : Hid (But (fun b => b = gd) A (wr.setCell ⟨gd, k, none⟩ (.int .i64 (x + z)))) := (unhide hbuj).setCell (p := ⟨gd, k, none⟩) rfl _
          have hji : (j : Int) < n2 := by omega
          have hmx : Tryz.prog.follows .mixedOrders = true := by kernel_rfl
          clear hdg hy hx hdi hsj hyb hfb hcb ex hz hzb hxb hix2 hA3 hWr
          gi_wp2_with fail
          refine regionLP _ wr (by simp) gd k N p (gd + 1) j x dg y z (x + z) rfl rfl rfl rfl rfl hk (by omega) hwz hws ⟨cx, fx, cd, cy⟩ (fun _ _ _ _ _ h => h) (by rintro ⟨_, _, h⟩; exact h) ?_
          rw [Nat.zero_add]
          simp only [outLP, Act.put, List.setIfInBounds_toArray, List.set_cons_zero, List.set_cons_succ]
          gi_wp2_with fail
          go_roundw
          case rel => exact ⟨j + 1, by omega, by go_num, hide (unhide HBN).drew, hide (unhide HUN).drew⟩
          case measure => (simp [intOf] <;> omega)
        · obtain rfl : j = n2 := by omega
          gi_wp2_with fail
          have hfin : Blk wr gd (placed c sh st N (k + 1)) := by
            rw [← placed_step]
            have := unhide hbj
            have e : c + farN (digits sh k) st j = placeOf c sh st k := by unfold placeOf; rw [unhide HL1]
            rwa [e] at this
          exact ⟨unhide hbuj, hfin, hWr⟩
    case done =>
      rintro D A hD ⟨hb, hbut⟩ hK
      have hA3 := (hbut.block (gd + 1) (by omega) (by omega)).trans (unhide HY3)
      have cd : A.cell? ⟨gd + 1, 0, none⟩ = some (.slice (some ⟨gd, 0, none⟩) N N) := by simp [World.cell?, hA3]
      have HBT := hide hbut
      have HB := hide hb
      clear hb hbut hA3
      gi_wp2
      refine ⟨by simp, .inl ⟨_, _, rfl, run_takeDeferred hK, ?_⟩⟩
      have hlD : D < A.heap.size := (Array.getElem?_eq_some_iff.1 hK).1
      have hbD : But (fun b => b = D) A (A.putObj D (.deferred none)) := But.putObj (S := fun b => b = D) A rfl _
      refine ⟨_, results_tmp rfl _ _ _, some ⟨gd, 0, none⟩, N, N, rfl, ?_, ?_⟩
      · rw [unhide HE, ← unhide HP]
        have hblk : Blk (A.putObj D (.deferred none)) gd (placed c sh st N N) := (hbD.block gd (unhide HB).lt (by omega)).trans (unhide HB)
        exact hblk.own (placed_len c sh st N N) (by omega) (by omega)
      · rw [← unhide HP]
        exact ((unhide HBW).trans ((unhide HBT).below (B := p) (by omega) (by rintro x rfl; omega))).trans (hbD.below (B := p) (by have := (unhide HBT).size; omega) (by rintro x rfl; omega))
set_option maxRecDepth 20000 in
set_option maxHeartbeats 4000000 in
theorem places_new (c : Int) (a1 a2 : Option Addr) (n1 n2 c1 c2 : Nat) (sh st : List Int) (cells : Int) (w : World) (h1 : Row w a1 n1 sh) (h2 : Row w a2 n2 st) :
    Calls Tryz.prog 85 #[.agg #[.int .i64 c, .slice a1 n1 c1, .slice a2 n2 c2], .int .i64 cells] w fun e w' => ∃ b m d, e = .returned (.slice b m d) ∧ Own w' w.heap.size b m (places c sh st cells) ∧ Below w.heap.size w w' := by
  obtain ⟨rf, hrf⟩ : ∃ r, formed c sh st = r := ⟨_, rfl⟩
  have HRF := hide hrf
  have H1 := hide h1
  have H2 := hide h2
  clear hrf h1 h2
  have HB0 : Hid (Below w.heap.size w (w.alloc (.cells #[.int .i64 c, .slice a1 n1 c1, .slice a2 n2 c2] 46))) := (Below.refl _ _).alloc (Nat.le_refl _) _
  cases rf with
  | false =>
    have HE : Hid (places c sh st cells = []) := by
      show _ = _
      unfold places
      rw [if_neg]
      intro h
      rw [viewOk_formed h] at HRF
      exact absurd (unhide HRF) (by decide)
    go_enter Tryz.func85, Tryz.ntmps85
    go_wp2_with fail
    refine (layoutOf_no _ _ _ _ _ _ _ sh st _ (by exact (unhide H1).alloc _) (by exact (unhide H2).alloc _) (unhide HRF)).mono ?_
    rintro e V ⟨rfl, hbV⟩
    have HBV := hide ((unhide HB0).trans (hbV.mono (by simp)))
    clear hbV
    go_wp2
    go_ret
    exact ⟨none, 0, 0, rfl, by rw [unhide HE]; exact own_nil _ _ _, (unhide HBV).alloc (unhide HBV).size _⟩
  | true =>
    obtain ⟨r, hr⟩ : ∃ r, viewOk c sh st cells = r := ⟨_, rfl⟩
    have HR := hide hr
    obtain ⟨f, hf⟩ : ∃ f, fl c sh st = f := ⟨_, rfl⟩
    have HF := hide hf
    clear hr hf
    go_enter Tryz.func85, Tryz.ntmps85
    go_wp2_with fail
    refine (layoutOf_yes _ _ _ _ _ _ _ sh st _ (by exact (unhide H1).alloc _) (by exact (unhide H2).alloc _) (unhide HRF) f HF).mono ?_
    rintro e V ⟨rfl, hbV⟩
    have HBV := hide ((unhide HB0).trans (hbV.mono (by simp)))
    have HVB := hide ((VBox.new w c (.slice a1 n1 c1) (.slice a2 n2 c2)).below (Nat.le_refl _) hbV)
    clear hbV
    obtain ⟨v0, v1, v2, v3, v4, v5, v6⟩ := (unhide HVB).all
    have hco := fun (W : World) (hW : Below V.heap.size V W) => ViewOk_impl c a1 a2 n1 n2 c1 c2 sh st cells W (((unhide H1).below (Nat.le_refl _) (unhide HBV)).below (Nat.le_refl _) hW) (((unhide H2).below (Nat.le_refl _) (unhide HBV)).below (Nat.le_refl _) hW)
    rw [unhide HR] at hco
    go_wp2_with fail
    refine (hco _ (by exact (Below.refl _ _).alloc (Nat.le_refl _) _)).mono ?_
    rintro e X ⟨rfl, hbX⟩
    have HBX := hide ((unhide HBV).trans (((Below.refl _ _).alloc (Nat.le_refl _) _ |>.trans (hbX.mono (by simp))).mono (unhide HBV).size))
    have HLX := hide ((LBox.new V f).below (Nat.le_refl _) hbX)
    clear hbX hco v0 v1 v2 v3 v4 v5 v6
    cases r with
    | false =>
      have HE : Hid (places c sh st cells = []) := by show _ = _; unfold places; rw [if_neg (by rw [unhide HR]; simp)]
      go_wp2
      go_ret
      exact ⟨none, 0, 0, rfl, by rw [unhide HE]; exact own_nil _ _ _, unhide HBX⟩
    | true =>
      have HE : Hid (places c sh st cells = placesOf c sh st) := by show _ = _; unfold places; rw [if_pos (unhide HR)]
      obtain ⟨x0, x1, x2, x3, x4, x5, x6, x7, x8, x9, x10, x11⟩ := (unhide HLX).cells
      go_wp2_with fail
      refine (callsIn_wide.1 (lplaces_in c sh st (unhide HRF) f HF X)).mono ?_
      rintro e Z ⟨b, m, d, rfl, hO, hbZ⟩
      have HO := hide hO
      have HBZ := hide ((unhide HBX).trans (hbZ.mono (unhide HBX).size))
      clear hO hbZ x0 x1 x2 x3 x4 x5 x6 x7 x8 x9 x10 x11
      go_wp2
      go_ret
      exact ⟨b, m, d, rfl, by rw [unhide HE]; exact (unhide HO).mono (unhide HBX).size, unhide HBZ⟩
end Go.Proofs.YtgjpchnkodnieaaGreatDoor
namespace Go.Proofs.YtgjpchnkodnieaaGreatDoor
open Go.RowKit
theorem prod_small (l : List Int) (n : Int) (h0 : 0 < n) (hz : ∀ z ∈ l, 0 ≤ z ∧ z ≤ 4) (hb : n * 4 ^ l.length ≤ 10000) : ∃ m, prodFrom l n = some m := by
  induction l generalizing n with
  | nil => exact ⟨n, rfl⟩
  | cons x r ih =>
    have hx := hz x (by simp)
    have hr : ∀ z ∈ r, 0 ≤ z ∧ z ≤ 4 := fun z h => hz z (by simp [h])
    have hp : (0 : Int) < 4 ^ r.length := Int.pow_pos (by omega)
    rw [List.length_cons, Int.pow_succ] at hb
    simp only [prodFrom]
    by_cases e : x = 0
    · rw [if_pos e]
      refine ih n h0 hr ?_
      have q := Int.mul_pos h0 hp
      have q2 : n * (4 ^ r.length * 4) = n * 4 ^ r.length * 4 := by rw [Int.mul_assoc]
      omega
    · rw [if_neg e]
      have h1 : n * x ≤ n * 4 := Int.mul_le_mul_of_nonneg_left hx.2 (by omega)
      have h2 : n * x * 4 ^ r.length ≤ n * 4 * 4 ^ r.length := Int.mul_le_mul_of_nonneg_right h1 (by omega)
      have h3 : n * (4 ^ r.length * 4) = n * 4 * 4 ^ r.length := by rw [Int.mul_comm (4 ^ r.length) 4, Int.mul_assoc]
      have h4 : 0 < n * x := Int.mul_pos h0 (by omega)
      have h5 : n * x * 1 ≤ n * x * 4 ^ r.length := Int.mul_le_mul_of_nonneg_left (by omega) (by omega)
      rw [if_neg (by omega)]
      exact ih (n * x) h4 hr (by omega)
theorem shape_small {l : List Int} (hl : l.length ≤ 5) (hz : ∀ z ∈ l, 0 ≤ z ∧ z ≤ 4) : shapeB l = true := by
  have hp : (4 : Int) ^ l.length ≤ 1024 := by
    have h := Nat.pow_le_pow_right (n := 4) (by omega) hl
    have h2 : ((4 ^ l.length : Nat) : Int) ≤ ((4 ^ 5 : Nat) : Int) := Int.ofNat_le.2 h
    rw [Int.natCast_pow] at h2
    exact h2
  obtain ⟨m, hm⟩ := prod_small l 1 (by omega) hz (by omega)
  refine shape_good rfl hl m ?_ hm
  rw [List.all_eq_true]
  intro z h
  have := hz z h
  exact decide_eq_true (by omega)
theorem answer_len (c : Int) (sh st : List Int) : (answerOf c sh st).sh.length ≤ sh.length ∧ (answerOf c sh st).dt.length ≤ st.length := by
  unfold answerOf noView; split <;> simp
theorem flip_len (c : Int) (sh st : List Int) (ax : Int) : (flip c sh st ax).sh.length ≤ sh.length ∧ (flip c sh st ax).dt.length ≤ st.length := by
  unfold flip
  split
  · split
    · have := answer_len (c + (sh.getD ax.toNat 0 - 1) * st.getD ax.toNat 0) sh (st.set ax.toNat (-st.getD ax.toNat 0))
      rw [List.length_set] at this
      exact this
    · exact answer_len c sh st
  · simp [noView]
theorem pick_len (c : Int) (sh st : List Int) (ax fr step num : Int) : (pick c sh st ax fr step num).sh.length ≤ sh.length ∧ (pick c sh st ax fr step num).dt.length ≤ st.length := by
  unfold pick
  have h := fun c => answer_len c (sh.set ax.toNat num) (st.set ax.toNat (st.getD ax.toNat 0 * step))
  simp only [List.length_set] at h
  split
  · split
    · split
      · exact h _
      · simp [noView]
    · exact h _
  · simp [noView]
end Go.Proofs.YtgjpchnkodnieaaGreatDoor
