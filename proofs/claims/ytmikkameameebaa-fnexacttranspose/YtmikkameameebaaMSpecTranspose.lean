import Derived.Test.YtmikkameameebaaPlaceMath
import Derived.Test.YtmikkameameebaaSpecInts
import Derived.Deep.QuietTactic
import Derived.BigQuiet
import Derived.Test.YtmikkameameebaaWindowMath
import Derived.Test.YtmikkameameebaaSpecList
import Derived.Test.YtmikkameameebaaSpecLaid
import Derived.Deep.AppendLies
import Derived.Deep.RegionHeld3
import Derived.Deep.DeepCutAuto
import Derived.Test.YtmikkameameebaaTransMath
import Derived.Test.YtmikkameameebaaSpecCopyO
import Derived.Test.YtmikkameameebaaSpecNone
import Derived.Test.YtmikkameameebaaSpecBoxes
import Derived.Test.YtmikkameameebaaMadeRow
import Derived.OrdersHeld
import Derived.RegionTactic
import Derived.WalkKit
import Derived.Test.YtmikkameameebaaFoldMath
import Derived.Test.YtmikkameameebaaSpecGrow
import Derived.Test.YtmikkameameebaaTwoMath
import Derived.Test.YtmikkameameebaaBase
import Derived.Test.YtmikkameameebaaChecked
import Derived.Test.YtmikkameameebaaRotMath
import Derived.Test.YtmikkameameebaaAxisMath
import Derived.Test.YtmikkameameebaaLawA2Transpose
namespace Go.Proofs.Ytmikkameameebaa
open Go.RowKit

set_option maxHeartbeats 1000000 in
theorem l5Index_any (a1 : Option Addr) (n c1 : Nat) (sh : List Int) (p : Int) (w : World) (h1 : Row w a1 n sh) (hn : n ≤ 10000) (hs : ∀ k, sh.getD k 0 ≤ 10000) (hf : Full sh) (hp : 0 ≤ p) (hp2 : p ≤ 10000) :
    Calls Try.prog 27 #[.slice a1 n c1, .int .i64 p] w fun e w' => e = .returned (.slice (some ⟨w.heap.size, 0, none⟩) n n) ∧ Blk w' w.heap.size (digits sh p) ∧ Below w.heap.size w w' := by
  have hl := hide h1.len
  have H1 := hide h1
  have HS := hide hs
  have HF := hide hf
  have hdl : (digits sh p).length = n := by rw [digits_len]; exact h1.len
  clear h1 hs hf
  obtain ⟨i0, hi, hz0, hz1, hz2⟩ := info_parts info_int
  go_enter Try.func27, Try.ntmps27
  go_wp2_with (at_make; refine wpList_make_full _ rfl _ _ 22 rfl w.heap.size 3 i0 (.int .i64 0) 1 Try.underlying22 hi hz0 hz1 _ _ _ _ n rfl rfl rfl rfl (by rw [hz2]; omega) (by unfold maxLen; omega) (Nat.le_refl _) ?_; intro w1 hown hgrow)
  have hblk : Blk w1 w.heap.size (List.replicate n 0 ++ (digits sh p).drop n) := Blk.of_owns (n := n) (base := w.heap.size) (by simpa [toList_madeCells_one, Value.cells, List.drop_of_length_le (Nat.le_of_eq hdl)] using hown)
  have hbel : Below w.heap.size w w1 := (Below.refl _ _).grown hgrow (Nat.le_refl _) (by simp)
  clear hown hgrow hi hz0 hz1 hz2
  have HBK := hide hblk
  have HBL := hide hbel
  have HDL := hide hdl
  clear hblk hbel hdl
  go_wp2
  go_loopw [1, 6] (fun q i wr => ∃ m : Nat, m ≤ n ∧ i = .int .i64 ((m : Int) - 1) ∧ q = .int .i64 (restN sh p (n - m)) ∧ Hid (Blk wr w.heap.size (List.replicate m 0 ++ (digits sh p).drop m)) ∧ Hid (Below w.heap.size w wr)) (fun _ i _ => (intOf i + 1).toNat)
  case atStart => exact ⟨n, Nat.le_refl _, by go_num, by simp [restN], HBK, HBL⟩
  case round =>
    obtain ⟨m, hm, rfl, rfl, hb, hbl⟩ := hrel
    clear HBK HBL w1
    rcases Nat.eq_zero_or_pos m with h0 | h0
    · subst h0
      go_wp2
      go_ret
      exact ⟨rfl, by simpa using unhide hb, unhide hbl⟩
    · obtain ⟨k, hk⟩ : ∃ k, m = k + 1 := ⟨m - 1, by omega⟩
      subst hk
      have hlt : k < n := by omega
      obtain ⟨b, off, rfl, hblt, hc⟩ := (unhide H1).get hlt
      have hcx := ((unhide hbl).cell (p := ⟨b, off + k, none⟩) hblt).trans hc
      have hsc := unhide HS k
      have hsp := unhide HF k (by rw [unhide hl]; exact hlt)
      have hr := restN_nn (unhide HF) hp (n - (k + 1)) (by rw [unhide hl]; omega)
      have e1 : sh.length - 1 - (n - (k + 1)) = k := by have := unhide hl; omega
      have HR : Hid (restN sh p (n - k) = restN sh p (n - (k + 1)) / sh.getD k 0) := by
        show _ = _
        have e : n - k = n - (k + 1) + 1 := by omega
        rw [e]
        show restN sh p (n - (k + 1)) / sh.getD (sh.length - 1 - (n - (k + 1))) 0 = _
        rw [e1]
      have HD : Hid ((digits sh p).getD k 0 = restN sh p (n - (k + 1)) % sh.getD k 0) := by
        show _ = _
        rw [digits_get sh p k (by rw [unhide hl]; exact hlt)]
        unfold digit
        have e3 : sh.length - 1 - k = n - (k + 1) := by have := unhide hl; omega
        rw [e3]
      obtain ⟨s, hse⟩ : ∃ s, s = sh.getD k 0 := ⟨_, rfl⟩
      obtain ⟨r, hre⟩ : ∃ r, r = restN sh p (n - (k + 1)) := ⟨_, rfl⟩
      rw [← hse] at hcx hsc hsp HR HD
      rw [← hre] at hr HR HD ⊢
      have hbc := (unhide hb).cell (i := k) (by simp; omega)
      have hbf := (unhide hb).free k
      clear hse hre hc e1
      go_wp2
      go_roundw
      case rel => exact ⟨k, by omega, by go_num, by rw [unhide HR], by rw [← drop_set (by rw [unhide HDL]; exact hlt), unhide HD]; exact (unhide hb).set k _, (unhide hbl).setCell (Nat.le_refl _) _⟩
      case measure => simp [intOf]

end Go.Proofs.Ytmikkameameebaa
namespace Go.Proofs.Ytmikkameameebaa
open Go.RowKit

set_option maxHeartbeats 1000000 in
theorem l5At_any (a1 a2 : Option Addr) (n c1 c2 m : Nat) (sh ix : List Int) (w : World) (h1 : Row w a1 n sh) (h2 : Row w a2 m ix) (hm : n ≤ m) (hs : ShapeIn sh) (hi : IxIn sh ix) :
    Calls Try.prog 28 #[.slice a1 n c1, .slice a2 m c2] w fun e w' => e = .returned (.int .i64 (place sh ix)) ∧ Below w.heap.size w w' := by
  have hl := hide h1.len
  have hsm := h1.small
  have hsm2 := h2.small
  have H1 := hide h1
  have H2 := hide h2
  have HS := hide hs
  have HI := hide hi
  clear h1 h2 hs hi
  go_enter Try.func28, Try.ntmps28
  go_wp2
  go_loopw [5, 6] (fun p i wr => ∃ k : Nat, k ≤ n ∧ i = .int .i64 k ∧ p = .int .i64 (placeN sh ix k) ∧ Hid (Below w.heap.size w wr)) (fun _ i _ => n - (intOf i).toNat)
  case atStart => exact ⟨0, Nat.zero_le _, rfl, rfl, Below.refl _ _⟩
  case round =>
    obtain ⟨k, hk, rfl, rfl, hb⟩ := hrel
    by_cases hlt : k < n
    · obtain ⟨b, off, rfl, hblt, hc⟩ := (unhide H1).get hlt
      obtain ⟨b', off', rfl, hblt', hc'⟩ := (unhide H2).get (by omega : k < m)
      have hcx := ((unhide hb).cell (p := ⟨b, off + k, none⟩) hblt).trans hc
      have hcy := ((unhide hb).cell (p := ⟨b', off' + k, none⟩) hblt').trans hc'
      have hlm : k < m := by omega
      have hsc := (unhide HS).cell k
      have hic := unhide HI k (by rw [unhide hl]; exact hlt)
      have hpn := placeN_bd (unhide HI) k (by rw [unhide hl]; omega)
      have hpb := ((unhide HS).take k).bd
      obtain ⟨P, hP⟩ : ∃ P, P = placeN sh ix k := ⟨_, rfl⟩
      obtain ⟨s, hse⟩ : ∃ s, s = sh.getD k 0 := ⟨_, rfl⟩
      obtain ⟨i, hie⟩ : ∃ i, i = ix.getD k 0 := ⟨_, rfl⟩
      rw [← hP] at hpn ⊢
      rw [← hse] at hsc hic hcx
      rw [← hie] at hic hcy
      have hq0 : 0 ≤ P * s := Int.mul_nonneg hpn.1 hsc.1
      have hq1 : P * s ≤ 10000 * 10000 := Int.mul_le_mul (by omega) hsc.2 hsc.1 (by omega)
      have HN : Hid (placeN sh ix (k + 1) = P * s + i) := by rw [hP, hse, hie]; rfl
      obtain ⟨z, hz⟩ : ∃ z, z = P * s := ⟨_, rfl⟩
      rw [← hz] at hq0 hq1
      have HZ := hide hz
      have hw1 : IntKind.i64.wrap (P * s) = z := by rw [IntKind.wrap_i64, ← hz]; omega
      have hw2 : IntKind.i64.wrap (z + i) = z + i := by rw [IntKind.wrap_i64]; omega
      clear hP hse hie hz hpn hpb hc hc'
      go_wp2_with fail
      go_quiet (fail)
      go_wp2_with fail
      go_roundw
      case rel => exact ⟨k + 1, by omega, by go_num, by rw [unhide HN, ← unhide HZ], Below.drewN (unhide hb) nq⟩
      case measure => simp [intOf]; omega
    · have hkn : k = n := by omega
      subst hkn
      go_wp2
      go_ret
      refine ⟨ret_int ?_, unhide hb⟩
      unfold place
      rw [unhide hl]

end Go.Proofs.Ytmikkameameebaa
namespace Go.Proofs.Ytmikkameameebaa
open Go.RowKit

/-- k elements have been gathered into the array in box p. -/
structure Stg (B : World) (p : Nat) (c : Bool) (v1 : Value) (f : Nat → Int × Int) (k : Nat) (wr : World) (g cap : Nat) : Prop where
  box : Box wr p c v1 (.slice (some ⟨g, 0, none⟩) k cap)
  owns : wr.ownsRow B.heap.size 3 1 (.slice (some ⟨g, 0, none⟩) k cap) k ((vals f k).map (Value.int .i64))
  low : Below B.heap.size B wr
  place : B.heap.size ≤ p

theorem Stg.start {B wx : World} {p g : Nat} {c : Bool} {v1 : Value} (f : Nat → Int × Int) (h1 : Box wx p c v1 (.slice (some ⟨g, 0, none⟩) 0 0)) (h2 : Blk wx g []) (h4 : Below B.heap.size B wx) (h7 : B.heap.size ≤ p) (h5 : B.heap.size ≤ g) : Stg B p c v1 f 0 wx g 0 :=
  ⟨h1, h2.owns h5, h4, h7⟩

theorem Stg.below {B wr w5 : World} {p g cap k : Nat} {c : Bool} {v1 : Value} {f : Nat → Int × Int} (h : Stg B p c v1 f k wr g cap) (hb : Below wr.heap.size wr w5) : Stg B p c v1 f k w5 g cap :=
  ⟨h.box.below (Nat.le_refl _) hb, owns_below h.owns (Nat.le_refl _) hb, h.low.trans (hb.mono h.low.size), h.place⟩

theorem Stg.push {B w5 w6 : World} {p g g' cap cap' k : Nat} {c : Bool} {v1 : Value} {f : Nat → Int × Int} {r1 : Int} (o : Obj) (h : Stg B p c v1 f k w5 g cap) (hf : (f k).1 = r1)
    (hown : w6.ownsRow B.heap.size 3 1 (.slice (some ⟨g', 0, none⟩) (k + 1) cap') (k + 1) ((vals f k).map (Value.int .i64) ++ [.int .i64 r1])) (hg : (w5.alloc o).grownBy w6 (Value.ownBlock (.slice (some ⟨g, 0, none⟩) k cap))) :
    Box w6 p c v1 (.slice (some ⟨g, 0, none⟩) k cap) ∧ Stg B p c v1 f (k + 1) (w6.setCell ⟨p, 2, none⟩ (.slice (some ⟨g', 0, none⟩) (k + 1) cap')) g' cap' := by
  have hb6 := h.box.grown h.owns o hg
  have hlow := h.low.trans (below_append o h.owns h.low.size hg)
  refine ⟨hb6, hb6.set2 _, ?_, hlow.setCell h.place _, h.place⟩
  rw [vals_snoc, hf]
  exact owns_box_set hown hb6 _ _

theorem four_boxes (w : World) (c : Bool) (v1 v2 z : Value) :
    let W := (((w.alloc (.cells #[.bool c, v1, v2] 26)).alloc (.cells #[.bool false, .slice none 0 0, .slice none 0 0] 26)).alloc (.cells #[] 3)).alloc (.cells #[.bool c, z, .slice (some ⟨w.heap.size + 1 + 1, 0, none⟩) 0 0] 26)
    Box W w.heap.size c v1 v2 ∧ Box W (w.heap.size + 1) false (.slice none 0 0) (.slice none 0 0) ∧ Blk W (w.heap.size + 1 + 1) [] ∧ Box W (w.heap.size + 1 + 1 + 1) c z (.slice (some ⟨w.heap.size + 1 + 1, 0, none⟩) 0 0) ∧ Below w.heap.size w W := by
  refine ⟨(((Box.new w c v1 v2).alloc _).alloc _).alloc _, ?_, ?_, ?_, ((((Below.refl _ _).alloc (Nat.le_refl _) _).alloc (by simp) _).alloc (by simp <;> omega) _).alloc (by simp <;> omega) _⟩
  · have := ((Box.new (w.alloc (.cells #[.bool c, v1, v2] 26)) false (.slice none 0 0) (.slice none 0 0)).alloc (.cells #[] 3)).alloc (.cells #[.bool c, z, .slice (some ⟨w.heap.size + 1 + 1, 0, none⟩) 0 0] 26)
    simpa using this
  · have := (Blk.new ((w.alloc (.cells #[.bool c, v1, v2] 26)).alloc (.cells #[.bool false, .slice none 0 0, .slice none 0 0] 26))).alloc (.cells #[.bool c, z, .slice (some ⟨w.heap.size + 1 + 1, 0, none⟩) 0 0] 26)
    simpa using this
  · have := Box.new (((w.alloc (.cells #[.bool c, v1, v2] 26)).alloc (.cells #[.bool false, .slice none 0 0, .slice none 0 0] 26)).alloc (.cells #[] 3)) c z (.slice (some ⟨w.heap.size + 1 + 1, 0, none⟩) 0 0)
    simpa using this

theorem Blk.drewN {w : World} {g : Nat} {zs : List Int} (h : Blk w g zs) (n : Nat) : Blk (w.drewN n) g zs := h

set_option maxRecDepth 20000 in
set_option maxHeartbeats 8000000 in
theorem l5Window_any (c : Bool) (a1 a2 s1 z1 : Option Addr) (n n2 m c1 c2 sc zc : Nat) (sh dt st zs : List Int) (w : World) (h1 : Row w a1 n sh) (h2 : Row w a2 n2 dt) (h3 : Row w s1 m st) (h4 : Row w z1 n zs) (hm : n ≤ m) (hok : arrOk c sh dt = true) (hz : shapeB zs = true) (hst : ∀ k, k < n → -1000000000000000 ≤ st.getD k 0 ∧ st.getD k 0 ≤ 1000000000000000) (N : Nat) (hN : countOf zs = (N : Int)) :
    Calls Try.prog 57 #[.agg #[.bool c, .slice a1 n c1, .slice a2 n2 c2], .slice s1 m sc, .slice z1 n zc] w fun e w' => ∃ g k, e = .returned (.agg #[.bool c, .slice z1 n zc, .slice (some ⟨g, 0, none⟩) N k]) ∧ Row w' (some ⟨g, 0, none⟩) N (vals (windowAt c sh dt st zs) N) ∧ Below w.heap.size w w' := by
  have hl1 := hide h1.len
  have hl2 := hide h2.len
  have hl4 := hide h4.len
  have hs1 := h1.small
  have hs2 := h2.small
  have hs3 := h3.small
  have H1 := hide h1
  have H2 := hide h2
  have H3 := hide h3
  have H4 := hide h4
  have HOK := hide hok
  have HZ := hide hz
  have HST := hide hst
  have HN := hide hN
  have hn5 : n ≤ 5 := by rw [← h1.len]; exact (shapeIn_of hok).2.2
  have hN4 : N ≤ 10000 := by have := (shapeB_count hz).2; omega
  obtain ⟨f, hf⟩ : ∃ f, f = windowAt c sh dt st zs := ⟨_, rfl⟩
  have HF := hide hf
  rw [← hf]
  clear h1 h2 h3 h4 hok hz hst hN hf
  obtain ⟨i0, hi, hz0, hz1, hz2⟩ := info_parts info_int
  go_enter Try.func57, Try.ntmps57
  obtain ⟨hB0, hB1, hK0, hP0, hBW⟩ := four_boxes w c (.slice a1 n c1) (.slice a2 n2 c2) (.slice z1 n zc)
  go_upto_region 2 with fail
  generalize (((w.alloc (.cells #[.bool c, .slice a1 n c1, .slice a2 n2 c2] 26)).alloc (.cells #[.bool false, .slice none 0 0, .slice none 0 0] 26)).alloc (.cells #[] 3)).alloc (.cells #[.bool c, .slice z1 n zc, .slice (some ⟨w.heap.size + 1 + 1, 0, none⟩) 0 0] 26) = W at *
  have HST0 := hide (Stg.start f hP0 hK0 hBW (by omega) (by omega))
  have HB0 := hide hB0
  have HB1 := hide hB1
  have HBW := hide hBW
  clear hB0 hB1 hK0 hP0 hBW
  go_wp2_with (go_at_call 39; refine (l3Count_eq _ _ _ zs _ ((unhide H4).below (Nat.le_refl _) (unhide HBW)) _ HN).mono ?_; rintro e wq ⟨rfl, rfl⟩)
  go_loopw [9] (fun i wr => ∃ P g cap, P ≤ N ∧ i = .int .i64 (P : Nat) ∧ Hid (Stg w (w.heap.size + 1 + 1 + 1) c (.slice z1 n zc) f P wr g cap) ∧ Hid (Box wr w.heap.size c (.slice a1 n c1) (.slice a2 n2 c2)) ∧ Hid (Box wr (w.heap.size + 1) false (.slice none 0 0) (.slice none 0 0))) (fun i _ => N - (intOf i).toNat)
  case atStart => exact ⟨0, _, 0, Nat.zero_le _, rfl, HST0, HB0, HB1⟩
  case round =>
    obtain ⟨wo, hwo⟩ : ∃ x, x = wr := ⟨_, rfl⟩
    subst hwo
    obtain ⟨P, g, cap, hP, rfl, hst, hb0, hb1⟩ := hrel
    clear HST0 HB0 HB1 HBW
    by_cases hlt : P < N
    · have HFU : Hid (Full zs) := full_of (shapeB_in (unhide HZ)).1 (by rw [prodAll_count zs (unhide HZ), unhide HN]; omega)
      obtain ⟨D, hD⟩ : ∃ D, D = digits zs (P : Nat) := ⟨_, rfl⟩
      have hDl : D.length = n := by rw [hD, digits_len]; exact unhide hl4
      obtain ⟨AX, hAX⟩ : ∃ A, A = addIx D st := ⟨_, rfl⟩
      have hAl : AX.length = n := by rw [hAX, addIx_len]; exact hDl
      have HFP : Hid (f P = if insideN sh AX sh.length = true then (dt.getD (place sh AX).toNat 0, 0) else (fillOf c, 0)) := by
        rw [unhide HF, hAX, hD]; rfl
      have HDI : Hid (IxIn zs D) := by rw [hD]; exact digits_in (unhide HFU) _
      have HAX := hide hAX
      have HDL := hide hDl
      have HAL := hide hAl
      have HLW := hide (unhide hst).low
      have hwz := (unhide hst).low.size
      clear hAX hDl hAl
      go_wp2_with (go_at_call 27; refine (l5Index_any z1 n zc zs (P : Nat) wo ((unhide H4).below (Nat.le_refl _) (unhide HLW)) (by omega) (fun k => ((shapeB_in (unhide HZ)).1.cell k).2) (unhide HFU) (by omega) (by omega)).mono ?_; rintro e w2 ⟨rfl, hK2, hb2⟩; rw [← hD] at hK2; have HK2 := hide hK2; have HB2 := hide hb2; clear hK2 hb2)
      obtain ⟨q, hq⟩ : ∃ q, wo.heap.size = q := ⟨_, rfl⟩
      rw [hq] at HK2 HB2 ⊢
      go_loopw [11, 12] (fun b i wx => ∃ k : Nat, k ≤ n ∧ i = .int .i64 (k : Nat) ∧ b = .bool (insideN sh AX k) ∧ Hid (Blk wx q (AX.take k ++ D.drop k)) ∧ Hid (Below q wo wx)) (fun _ i _ => n - (intOf i).toNat)
      case atStart => exact ⟨0, Nat.zero_le _, rfl, rfl, by simpa using HK2, HB2⟩
      case round =>
        obtain ⟨k, hk, rfl, rfl, hb, hbl⟩ := hrel
        clear HK2 HB2 w2
        have HLX := hide ((unhide HLW).trans ((unhide hbl).mono (by omega)))
        obtain ⟨x0, x1, x2, x3, x4, x5, x6⟩ := ((unhide hb0).below (by omega) (unhide hbl)).all
        by_cases hlk : k < n
        · have hkm : k < m := by omega
          obtain ⟨bz, oz, rfl, hbz, hcz⟩ := (unhide H3).get hkm
          have hcy := ((unhide HLX).cell (p := ⟨bz, oz + k, none⟩) hbz).trans hcz
          have hcx := (unhide hb).cell (i := k) (by rw [mix_len (by rw [unhide HAL, unhide HDL]) (by rw [unhide HDL]; exact hk), unhide HDL]; exact hlk)
          rw [mix_get (by rw [unhide HAL, unhide HDL]) (by rw [unhide HDL]; exact hlk)] at hcx
          have hfx := (unhide hb).free k
          have hsb := unhide HST k hlk
          have hxi := unhide HDI k (by rw [unhide hl4]; exact hlk)
          have hzc := ((shapeB_in (unhide HZ)).1.cell k).2
          have HAK : Hid (AX.getD k 0 = D.getD k 0 + st.getD k 0) := by rw [unhide HAX, addIx_get _ _ _ (by rw [unhide HDL]; exact hlk)]; exact rfl
          obtain ⟨x, hx⟩ : ∃ x, x = D.getD k 0 := ⟨_, rfl⟩
          obtain ⟨y, hy⟩ : ∃ y, y = st.getD k 0 := ⟨_, rfl⟩
          rw [← hx] at hcx hxi HAK
          rw [← hy] at hcy hsb HAK
          have hwr : IntKind.i64.wrap (x + y) = x + y := by rw [IntKind.wrap_i64]; omega
          clear hcz hx hy
          go_upto_region 11 with fail
          go_cut [] (fun wy => Blk wy q (AX.take (k + 1) ++ D.drop (k + 1)) ∧ Below q wo wy)
          case first =>
            as_aux_lemma =>
              go_region
              all_goals go_wp2_with fail
              all_goals go_meet
              all_goals case rel =>
                refine ⟨?_, ?_⟩
                · rw [← mix_set (by rw [unhide HAL, unhide HDL]) (by rw [unhide HDL]; exact hlk), unhide HAK]
                  exact (unhide hb).drew.set k _
                · repeat (first | exact unhide hbl | refine Below.drew ?_ | refine Below.setCell ?_ (by exact Nat.le_refl _) _)
          case rest =>
            obtain ⟨w3, hw3⟩ : ∃ x, x = wc := ⟨_, rfl⟩
            subst hw3
            obtain ⟨hb', hbl'⟩ := hcut
            have HB' := hide hb'
            have HBL' := hide hbl'
            have HLY := hide ((unhide HLW).trans (hbl'.mono (by omega)))
            obtain ⟨bs, os, rfl, hbs, hcs⟩ := (unhide H1).get hlk
            have hcs' := ((unhide HLY).cell (p := ⟨bs, os + k, none⟩) hbs).trans hcs
            have hcz := hb'.cell (i := k) (by rw [mix_len (by rw [unhide HAL, unhide HDL]) (by rw [unhide HDL]; omega), unhide HDL]; exact hlk)
            have e9 : (AX.take (k + 1) ++ D.drop (k + 1)).getD k 0 = x + y := by rw [← unhide HAK]; exact mix_got (by rw [unhide HAL]; exact hlk)
            rw [e9] at hcz
            obtain ⟨s, hse⟩ : ∃ s, s = sh.getD k 0 := ⟨_, rfl⟩
            rw [← hse] at hcs'
            have HIN : Hid (insideN sh AX (k + 1) = (insideN sh AX k && (decide (0 ≤ x + y) && decide (x + y < s)))) := by rw [← unhide HAK, hse]; exact rfl
            obtain ⟨x0, x1, x2, x3, x4, x5, x6⟩ := ((unhide hb0).below (by omega) hbl').all
            obtain ⟨ib, hib⟩ : ∃ b, b = insideN sh AX k := ⟨_, rfl⟩
            rw [← hib] at HIN ⊢
            obtain ⟨z, hz⟩ : ∃ z, z = x + y := ⟨_, rfl⟩
            rw [← hz] at HIN hcz
            clear hb' hbl' hcs e9 hse hib hcx hcy hfx hwr hz hxi hsb HAK hbz hb hbl HLX
            cases ib with
            | false =>
              go_wp2_with fail
              go_quiet (fail)
              go_wp2_with fail
              go_roundw
              case rel => exact ⟨k + 1, by omega, by go_num, by rw [unhide HIN]; rfl, Blk.drewN (unhide HB') nq, Below.drewN (unhide HBL') nq⟩
              case measure => simp [intOf]; omega
            | true =>
              by_cases hz0 : 0 ≤ z
              · have g1 : decide (0 ≤ z) = true := decide_eq_true hz0
                by_cases hzs : z < s
                · have HIV : Hid (insideN sh AX (k + 1) = true) := by rw [unhide HIN]; show (true && (decide (0 ≤ z) && decide (z < s))) = true; rw [decide_eq_true hz0, decide_eq_true hzs]; rfl
                  go_wp2_with fail
                  go_quiet (fail)
                  go_wp2_with fail
                  go_roundw
                  case rel => exact ⟨k + 1, by omega, by go_num, by rw [unhide HIV], Blk.drewN (unhide HB') nq, Below.drewN (unhide HBL') nq⟩
                  case measure => simp [intOf]; omega
                · have HIV : Hid (insideN sh AX (k + 1) = false) := by rw [unhide HIN]; show (true && (decide (0 ≤ z) && decide (z < s))) = false; rw [decide_eq_true hz0, decide_eq_false hzs]; rfl
                  go_wp2_with fail
                  go_quiet (fail)
                  go_wp2_with fail
                  go_roundw
                  case rel => exact ⟨k + 1, by omega, by go_num, by rw [unhide HIV, decide_eq_false (by omega)], Blk.drewN (unhide HB') nq, Below.drewN (unhide HBL') nq⟩
                  case measure => simp [intOf]; omega
              · have HIV : Hid (insideN sh AX (k + 1) = false) := by rw [unhide HIN]; show (true && (decide (0 ≤ z) && decide (z < s))) = false; rw [decide_eq_false hz0]; rfl
                have g1 : decide (0 ≤ z) = false := decide_eq_false hz0
                have g2 : z < 0 := by omega
                go_wp2_with fail
                go_quiet (fail)
                go_wp2_with fail
                go_roundw
                case rel => exact ⟨k + 1, by omega, by go_num, by rw [unhide HIV], Blk.drewN (unhide HB') nq, Below.drewN (unhide HBL') nq⟩
                case measure => simp [intOf]; omega
        · have hkn : k = n := by omega
          subst hkn
          have HST2 := hide ((unhide hst).below (by rw [hq]; exact unhide hbl))
          have HC0 := hide ((unhide hb0).below (by omega) (unhide hbl))
          have HC1 := hide ((unhide hb1).below (by omega) (unhide hbl))
          have HAB : Hid (Blk wr q AX) := by
            have := unhide hb
            rwa [List.take_of_length_le (by rw [unhide HAL]; exact Nat.le_refl _), List.drop_of_length_le (by rw [unhide HDL]; exact Nat.le_refl _), List.append_nil] at this
          clear hst hb0 hb1 hb hbl HLW
          obtain ⟨ib, hib⟩ : ∃ b, insideN sh AX k = b := ⟨_, rfl⟩
          rw [hib]
          have HIB : Hid (insideN sh AX sh.length = ib) := by rw [unhide hl1]; exact hib
          clear hib
          cases ib with
          | false =>
            obtain ⟨r1, hr1⟩ : ∃ r, r = fillOf c := ⟨_, rfl⟩
            have HR : Hid ((f P).1 = r1) := by rw [unhide HFP, if_neg (by rw [unhide HIB]; simp), hr1]; exact rfl
            have hcall := l3Fill_any c wr
            rw [← hr1] at hcall
            clear hr1
            go_upto_region 16 with (go_at_call 40; refine hcall.mono ?_; rintro e w4 ⟨rfl, hw⟩; obtain rfl := hw.symm)
            clear hcall x0 x1 x2 x3 x4 x5 x6
            have hS := unhide HST2
            have hown := hS.owns
            have hlow := hS.low.size
            obtain ⟨y0, y1, y2, y3, y4, y5, y6⟩ := hS.box.all
            go_wp2_with (at_builtin; refine wpList_append_lies _ rfl _ _ 22 rfl w.heap.size 3 i0 (.int .i64 0) 1 8 Try.underlying22 hi hz0 hz1 hz2 rfl (by decide) _ _ _ rfl (hown.alloc _) ⟨wr.heap.size, 0, none⟩ 1 1 [.int .i64 r1] rfl rfl (cells_new _ _) (one_one _) (by omega) (by unfold maxLen; omega) (by omega) (by simp; omega) (wr.heap.size + 1) (by simp) ?_; intro g' cap' w7 hown' hgrow hat hlt7; obtain ⟨hb7, hst7⟩ := hS.push _ (unhide HR) hown' hgrow; have hc0 := (unhide HC0).grown hown _ hgrow; have hc1 := (unhide HC1).grown hown _ hgrow; obtain ⟨z0', z1', z2', z3', z4', z5', z6'⟩ := hb7.all; clear hgrow hat hown')
            go_roundw
            case rel => exact ⟨P + 1, g', cap', by omega, by go_num, hst7, hc0.other (by simp; omega) _, hc1.other (by simp) _⟩
            case measure => simp [intOf]; omega
          | true =>
            have hin := inside_in (unhide HIB)
            have hpb := place_bd hin
            obtain ⟨hsin, hpl, _⟩ := shapeIn_of (unhide HOK)
            rw [hpl, unhide hl2] at hpb
            obtain ⟨j, hj⟩ : ∃ j : Nat, place sh AX = (j : Int) := ⟨(place sh AX).toNat, by omega⟩
            have hjl : j < n2 := by omega
            obtain ⟨bd, od, rfl, hbd, hcd⟩ := (unhide H2).get hjl
            have hcd' := ((unhide HLX).cell (p := ⟨bd, od + j, none⟩) hbd).trans hcd
            obtain ⟨r1, hr1⟩ : ∃ r, r = dt.getD j 0 := ⟨_, rfl⟩
            rw [← hr1] at hcd'
            have HR : Hid ((f P).1 = r1) := by rw [unhide HFP, if_pos (unhide HIB), hr1, hj]; exact rfl
            have hbdl : bd < wr.heap.size := Nat.lt_of_lt_of_le hbd (unhide HLX).size
            have hcall := l3Fill_any c wr
            have HCA : Hid (∀ wy, Below wr.heap.size wr wy → Calls Try.prog 28 #[.slice a1 k c1, .slice (some ⟨q, 0, none⟩) k k] wy fun e w' => e = .returned (.int .i64 (j : Nat)) ∧ Below wy.heap.size wy w') := by
              intro wy hwy
              rw [← hj]
              exact l5At_any a1 _ k c1 k k sh AX wy (((unhide H1).below (Nat.le_refl _) (unhide HLX)).below (Nat.le_refl _) hwy) (((unhide HAB).below (Nat.le_refl _) hwy).row (unhide HAL) (by omega)) (Nat.le_refl _) hsin hin
            clear hin hpb hsin hpl hj hr1 hcd
            go_upto_region 15 with (go_at_call 40; refine hcall.mono ?_; rintro e w4 ⟨rfl, hw⟩; obtain rfl := hw.symm)
            clear hcall
            go_cut [13] (fun v wy => v = .int .i64 r1 ∧ Below wr.heap.size wr wy)
            case first =>
              as_aux_lemma =>
                have HKEEP : ∀ wy, Below wr.heap.size wr wy → Below wr.heap.size wr wy ∧ wy.cell? ⟨w.heap.size, 1, none⟩ = some (.slice a1 k c1) ∧ wy.cell? ⟨w.heap.size, 2, none⟩ = some (.slice (some ⟨bd, od, none⟩) n2 c2) ∧ wy.cell? ⟨bd, od + j, none⟩ = some (.int .i64 r1) := fun wy hwy => ⟨hwy, ((unhide HC0).below (Nat.le_refl _) hwy).cells.2.1, ((unhide HC0).below (Nat.le_refl _) hwy).cells.2.2, (hwy.cell (p := ⟨bd, od + j, none⟩) hbdl).trans hcd'⟩
                go_region_held3 (fun wy => Below wr.heap.size wr wy ∧ wy.cell? ⟨w.heap.size, 1, none⟩ = some (.slice a1 k c1) ∧ wy.cell? ⟨w.heap.size, 2, none⟩ = some (.slice (some ⟨bd, od, none⟩) n2 c2) ∧ wy.cell? ⟨bd, od + j, none⟩ = some (.int .i64 r1)) (first | exact HKEEP _ hKA | exact HKEEP _ (Below.refl _ _).drew | exact HKEEP _ (Below.refl _ _)) (first | (go_at_call 28; refine (unhide HCA _ (by exact (Below.refl _ _).drew)).mono ?_; rintro e wA ⟨rfl, hbA⟩; have hKA : Below wr.heap.size wr wA := (Below.refl _ _).drew.trans (hbA.mono (by simp))))
                all_goals go_wp2_with fail
                all_goals go_meet
                all_goals case rel => exact ⟨rfl, hKA⟩
            case rest =>
              obtain ⟨w5, hw5⟩ : ∃ x, x = wc := ⟨_, rfl⟩
              subst hw5
              obtain ⟨rfl, hb5⟩ := hcut
              have HST3 := hide ((unhide HST2).below hb5)
              have HD0 := hide ((unhide HC0).below (Nat.le_refl _) hb5)
              have HD1 := hide ((unhide HC1).below (Nat.le_refl _) hb5)
              clear hb5 HCA HST2 HC0 HC1 HAB x0 x1 x2 x3 x4 x5 x6 hcd'
              have hS := unhide HST3
              have hown := hS.owns
              have hlow := hS.low.size
              obtain ⟨y0, y1, y2, y3, y4, y5, y6⟩ := hS.box.all
              go_wp2_with (at_builtin; refine wpList_append_lies _ rfl _ _ 22 rfl w.heap.size 3 i0 (.int .i64 0) 1 8 Try.underlying22 hi hz0 hz1 hz2 rfl (by decide) _ _ _ rfl (hown.alloc _) ⟨w5.heap.size, 0, none⟩ 1 1 [.int .i64 r1] rfl rfl (cells_new _ _) (one_one _) (by omega) (by unfold maxLen; omega) (by omega) (by simp; omega) (w5.heap.size + 1) (by simp) ?_; intro g' cap' w7 hown' hgrow hat hlt7; obtain ⟨hb7, hst7⟩ := hS.push _ (unhide HR) hown' hgrow; have hc0 := (unhide HD0).grown hown _ hgrow; have hc1 := (unhide HD1).grown hown _ hgrow; obtain ⟨z0', z1', z2', z3', z4', z5', z6'⟩ := hb7.all; clear hgrow hat hown')
              go_roundw
              case rel => exact ⟨P + 1, g', cap', by omega, by go_num, hst7, hc0.other (by simp; omega) _, hc1.other (by simp) _⟩
              case measure => simp [intOf]; omega
    · have hPN : P = N := by omega
      subst hPN
      obtain ⟨x0, x1, x2, x3, x4, x5, x6⟩ := (unhide hb1).all
      obtain ⟨y0, y1, y2, y3, y4, y5, y6⟩ := (unhide hst).box.all
      have HLW := hide (unhide hst).low
      obtain ⟨ad', cd, hv, hD⟩ := Own.of_owns (unhide hst).owns (by omega)
      cases hv
      have HD := hide hD
      have HBB := hide (unhide hb1)
      clear hst hb0 hb1 hD
      go_wp2
      refine bodyPost_ret (v := .agg #[.bool c, .slice z1 n zc, .slice (some ⟨g, 0, none⟩) P cap]) (by simp [results, Try.results57, go_sem, x0, x1, x2]) rfl ?_
      exact ⟨g, cap, rfl, (unhide HD).row.sets (unhide HBB) _ _ _, (((unhide HLW).setCell (by simp) _).setCell (by simp) _).setCell (by simp) _⟩

end Go.Proofs.Ytmikkameameebaa
namespace Go.Proofs.Ytmikkameameebaa
open Go.RowKit

theorem info_boolT : (Try.prog.info? 4).map (fun i => (i.zero, i.size, i.bytes)) = some (some (.bool false), 1, 1) := by kernel_rfl

/-- Block g holds just the truths bs. -/
def BBlk (w : World) (g : Nat) (bs : List Bool) : Prop := w.heap[g]? = some (.cells (bs.map Value.bool).toArray 4 (0, 0))

theorem BBlk.lt {w : World} {g : Nat} {bs : List Bool} (h : BBlk w g bs) : g < w.heap.size := lt_of_block h
theorem BBlk.cell {w : World} {g : Nat} {bs : List Bool} (h : BBlk w g bs) {i : Nat} (hi : i < bs.length) : w.cell? ⟨g, i, none⟩ = some (.bool (bs.getD i false)) := by
  unfold BBlk at h
  simp [World.cell?, h, hi]
theorem BBlk.free {w : World} {g : Nat} {bs : List Bool} (h : BBlk w g bs) (i : Nat) : w.frozen? ⟨g, i, none⟩ = false := frozen_of_row w g i _ _ h
theorem BBlk.set {w : World} {g : Nat} {bs : List Bool} (h : BBlk w g bs) (i : Nat) (x : Bool) : BBlk (w.setCell ⟨g, i, none⟩ (.bool x)) g (bs.set i x) := by
  unfold BBlk at h ⊢
  rw [heap_setCell_same w g i _ _ _ h]
  simp [List.map_set]
theorem BBlk.other {w : World} {g : Nat} {bs : List Bool} (h : BBlk w g bs) {p : Addr} (hp : g ≠ p.block) (v : Value) : BBlk (w.setCell p v) g bs := (heap_setCell_other w p g v hp).trans h
theorem BBlk.drew {w : World} {g : Nat} {bs : List Bool} (h : BBlk w g bs) : BBlk w.drew g bs := h

theorem BBlk.made (w : World) (n g : Nat) (hg : g = w.heap.size) : BBlk (w.alloc (.cells (madeCells #[.bool false] n) 4)) g (List.replicate n false) := by
  subst hg
  show (w.heap.push _)[w.heap.size]? = _
  rw [madeList]
  simp
theorem Blk.new' {w : World} {g : Nat} (hg : g = w.heap.size) : Blk (w.alloc (.cells #[] 3)) g [] := by subst hg; exact Blk.new w
theorem Box.new' {w : World} {p : Nat} {c : Bool} {v1 v2 : Value} (hp : p = w.heap.size) : Box (w.alloc (.cells #[.bool c, v1, v2] 26)) p c v1 v2 := by subst hp; exact Box.new w c v1 v2

theorem owns_lowB {w w' : World} {base n g cap B : Nat} {xs : List Value} (h : w.ownsRow base 3 1 (.slice (some ⟨g, 0, none⟩) n cap) n xs) (hg : g < B) (hb : Below B w w') : w'.ownsRow base 3 1 (.slice (some ⟨g, 0, none⟩) n cap) n xs := by
  obtain ⟨h1, h2⟩ := h
  refine ⟨h1, ?_⟩
  rcases h2 with h2 | ⟨g', cap', cur, hv, hg', hh, r⟩
  · exact Or.inl h2
  · have e : g = g' := by simp at hv; exact hv.1
    subst e
    exact Or.inr ⟨g, cap', cur, hv, hg', (hb.block g hg).trans hh, r⟩

theorem Blk.grown {w w1 : World} {g g2 : Nat} {zs : List Int} (h : Blk w g zs) (o : Obj) (hg : (w.alloc o).grownBy w1 (some g2)) (hne : g ≠ g2) : Blk w1 g zs :=
  (hg.block g (by have := h.lt; simp; omega) (fun e => hne (by simpa using e))).trans (h.alloc o)

theorem grown_cell {w w1 : World} {b o' g2 : Nat} (o : Obj) (hg : (w.alloc o).grownBy w1 (some g2)) (hb : b < w.heap.size) (hne : b ≠ g2) : w1.cell? ⟨b, o', none⟩ = w.cell? ⟨b, o', none⟩ :=
  World.cell?_of_block (w := w) (a := ⟨b, o', none⟩) ((hg.block b (by simp; omega) (fun e => hne (by simpa using e))).trans (Below.heap_alloc w o b hb))

/-- A struct of an array is laid: its shape a new row of zeros, its numbers none yet. -/
def LaidT (W : World) (d : Bool) (m : Nat) (r : Value) (wx : World) : Prop :=
  ∃ p gs g0, r = .pointer (some ⟨p, 0, none⟩) ∧ Box wx p d (.slice (some ⟨gs, 0, none⟩) m m) (.slice (some ⟨g0, 0, none⟩) 0 0) ∧ Blk wx gs (List.replicate m 0) ∧ Blk wx g0 [] ∧ Below W.heap.size W wx ∧ W.heap.size ≤ p ∧ W.heap.size ≤ gs ∧ W.heap.size ≤ g0 ∧ gs ≠ g0 ∧ gs ≠ p ∧ g0 ≠ p

theorem laidT_of {W wx : World} {d : Bool} {m p gs g0 : Nat} (h1 : Box wx p d (.slice (some ⟨gs, 0, none⟩) m m) (.slice (some ⟨g0, 0, none⟩) 0 0)) (h2 : Blk wx gs (List.replicate m 0)) (h3 : Blk wx g0 []) (h4 : Below W.heap.size W wx) (h5 : W.heap.size ≤ p ∧ W.heap.size ≤ gs ∧ W.heap.size ≤ g0 ∧ gs ≠ g0 ∧ gs ≠ p ∧ g0 ≠ p) : LaidT W d m (.pointer (some ⟨p, 0, none⟩)) wx :=
  ⟨p, gs, g0, rfl, h1, h2, h3, h4, h5⟩

end Go.Proofs.Ytmikkameameebaa
namespace Go.Proofs.Ytmikkameameebaa
open Go

section
variable {P : Program} {ops : Array Oper} {Q : Exit → Act → World → Prop} {md : Region.Mode} {S : World → Prop} {st : Nat}

/-- Whatever order is picked from here on, and S holds behind every operation but number st. -/
def wpAnyL (P : Program) (md : Region.Mode) (ops : Array Oper) (Q : Exit → Act → World → Prop) (S : World → Prop) (st : Nat) : Nat → Array Bool → Act → World → Prop
  | 0, listed, a, w => Region.ready md ops listed = [] ∧ Q .normal a w
  | fuel + 1, listed, a, w =>
    (Region.ready md ops listed = [] → Q .normal a w) ∧
    ∀ i ∈ Region.ready md ops listed, wpOp P ops Q i (fun a' w' => (i ≠ st → S w') ∧ wpAnyL P md ops Q S st fuel (listed.setIfInBounds i true) a' w') a w

theorem wpAny_of_L : ∀ (fuel : Nat) (listed : Array Bool) (a : Act) (w : World), wpAnyL P md ops Q S st fuel listed a w → wpAny P md ops Q fuel listed a w
  | 0, _, _, _, h => h
  | fuel + 1, _, _, _, h => ⟨h.1, fun i hi => wpOp_mono (fun a' w' h' => wpAny_of_L fuel _ a' w' h'.2) (h.2 i hi)⟩

/-- Operation st waits for operation i. -/
def waitsFor (md : Region.Mode) (ops : Array Oper) (st i : Nat) : Bool := ((ops[st]?).map (·.after.any fun e => Region.binds md e && e.on == i)).getD false

theorem waits_not {i : Nat} {listed : Array Bool} (hw : waitsFor md ops st i = true) (hi : listed.getD i true = false) : st ∉ Region.ready md ops listed := by
  intro hst
  obtain ⟨_, o, ho, hall⟩ := mem_ready.1 hst
  unfold waitsFor at hw
  rw [ho] at hw
  simp only [Option.map_some, Option.getD_some, Array.any_eq_true'] at hw
  obtain ⟨e, he, hb⟩ := hw
  simp only [Bool.and_eq_true, beq_iff_eq] at hb
  have h1 := hall e he hb.1
  rw [hb.2] at h1
  rcases Nat.lt_or_ge i listed.size with h' | h'
  · simp [h'] at hi h1; rw [hi] at h1; cases h1
  · simp [Array.getElem?_eq_none h'] at h1

theorem wpAnyL_first {i : Nat} {oi : Oper} {v : Value} (hi : ops[i]? = some oi) (hsel : ∀ (j : Nat) (o : Oper) cs b, ops[j]? = some o → o.op ≠ .select cs b)
    (hQ : ∀ c a w, Q (.panic c) (a.put oi.dst v) w → Q (.panic c) a w) (hw : waitsFor md ops st i = true) :
    ∀ (fuel : Nat) (listed : Array Bool) (a : Act) (w : World),
      (∀ j oj, ops[j]? = some oj → j ≠ i → listed.getD j true = false → (∀ e ∈ oj.after, Region.binds md e = true → e.on ≠ i) → oi.apart ops oj = true) →
      i ∈ Region.ready md ops listed → YieldsIf P ops S oi v a → S w →
      wpAnyL P md ops Q S st fuel (listed.setIfInBounds i true) (a.put oi.dst v) w → wpAnyL P md ops Q S st (fuel + 1) listed a w := by
  intro fuel
  induction fuel with
  | zero =>
    intro listed a w _ hr hy hS H
    refine ⟨fun h => (by rw [h] at hr; cases hr), fun j hj => ?_⟩
    by_cases hji : j = i
    · subst hji; exact hy.wpOp hi hS ⟨fun _ => hS, H⟩
    · have := ready_mono hj hji
      rw [H.1] at this
      cases this
  | succ fuel ih =>
    intro listed a w hfree hr hy hS H
    refine ⟨fun h => (by rw [h] at hr; cases hr), fun j hj => ?_⟩
    by_cases hji : j = i
    · subst hji; exact hy.wpOp hi hS ⟨fun _ => hS, H⟩
    · have h1 := H.2 j (ready_mono hj hji)
      have hjst : j ≠ st := fun e => waits_not hw (mem_ready.1 hr).1 (e ▸ hj)
      obtain ⟨hjun, oj, hoj, hall⟩ := mem_ready.1 hj
      have hnot : ∀ e ∈ oj.after, Region.binds md e = true → e.on ≠ i := fun e he hb heq => by
        have h1 := hall e he hb
        have h0 := (mem_ready.1 hr).1
        rw [heq] at h1
        rcases Nat.lt_or_ge i listed.size with h' | h'
        · simp [h'] at h0 h1; rw [h0] at h1; cases h1
        · simp [Array.getElem?_eq_none h'] at h1
      have h2 := wpOp_putIf hoj (hfree j oj hoj hji hjun hnot) (fun cs b => hsel i oi cs b hi) (fun cs b => hsel j oj cs b hoj) hQ hy h1
      have hfree' : ∀ k ok, ops[k]? = some ok → k ≠ i → (listed.setIfInBounds j true).getD k true = false →
          (∀ e ∈ ok.after, Region.binds md e = true → e.on ≠ i) → oi.apart ops ok = true := fun k ok hk hki hun hno => by
        refine hfree k ok hk hki ?_ hno
        by_cases hjk : j = k
        · subst hjk; exact hjun
        · rw [getD_set_ne true hjk] at hun; exact hun
      refine wpOp_mono (fun a' w' h3 => ⟨h3.2.1, ih (listed.setIfInBounds j true) a' w' hfree' (ready_mono hr (Ne.symm hji)) h3.1 (h3.2.1 hjst) ?_⟩) h2
      rw [Array.setIfInBounds_comm _ _ hji]
      exact h3.2.2

/-- Take number i first. -/
theorem wpAnyL_take {i : Nat} {oi : Oper} {v : Value} {fuel : Nat} {listed : Array Bool} {a : Act} {w : World} (hi : ops[i]? = some oi)
    (hs : Region.noSelect ops = true) (hf : Region.free md ops listed i = true) (hr : (Region.ready md ops listed).contains i = true) (hw : waitsFor md ops st i = true)
    (hQ : ∀ c a w, Q (.panic c) (a.put oi.dst v) w → Q (.panic c) a w) (hy : YieldsIf P ops S oi v a) (hS : S w)
    (h : wpAnyL P md ops Q S st fuel (listed.setIfInBounds i true) (a.put oi.dst v) w) : wpAnyL P md ops Q S st (fuel + 1) listed a w :=
  wpAnyL_first hi (Region.noSelect_spec hs) hQ hw fuel listed a w (Region.free_spec hi hf) (by simpa using hr) hy hS h

/-- Take number i first, its value into slot d. -/
theorem wpAnyL_put (i d : Nat) (v : Value) {oi : Oper} {fuel : Nat} {listed : Array Bool} {a : Act} {w : World} (hi : ops[i]? = some oi) (hd : oi.dst = some d)
    (hs : Region.noSelect ops = true) (hf : Region.free md ops listed i = true) (hr : (Region.ready md ops listed).contains i = true) (hw : waitsFor md ops st i = true)
    (hQ : ∀ c a (d : Nat) v w, Q (.panic c) (a.put (some d) v) w → Q (.panic c) a w) (hg : Region.wanted oi (yielded ops a.tmps) = true) (hy : ∀ w, S w → (execOp a.eval oi).run P w = .ok (.value v) w) (hS : S w)
    (h : wpAnyL P md ops Q S st fuel (listed.setIfInBounds i true) (a.put (some d) v) w) : wpAnyL P md ops Q S st (fuel + 1) listed a w :=
  wpAnyL_take hi hs hf hr hw (fun c a w h => by rw [hd] at h; exact hQ c a d v w h) (Or.inl ⟨hg, hy⟩) hS (by rw [hd]; exact h)

/-- One alone may come up. -/
theorem wpAnyL_one {i : Nat} {fuel : Nat} {listed : Array Bool} {a : Act} {w : World} (hr : Region.ready md ops listed = [i])
    (h : wpOp P ops Q i (fun a' w' => (i ≠ st → S w') ∧ wpAnyL P md ops Q S st fuel (listed.setIfInBounds i true) a' w') a w) : wpAnyL P md ops Q S st (fuel + 1) listed a w :=
  ⟨fun h0 => (by rw [hr] at h0; cases h0), fun j hj => (by rw [hr] at hj; simp at hj; subst hj; exact h)⟩

theorem wpAnyL_done {listed : Array Bool} {a : Act} {w : World} (hr : Region.ready md ops listed = []) (h : Q .normal a w) : ∀ fuel, wpAnyL P md ops Q S st fuel listed a w
  | 0 => ⟨hr, h⟩
  | _ + 1 => ⟨fun _ => h, by rw [hr]; simp⟩

theorem wp_region_L {id : Nat} {a : Act} {w : World} (S : World → Prop) (st : Nat) (hm : P.follows .mixedOrders = true)
    (h : wpAnyL P .any ops Q S st ops.size (Array.replicate ops.size false) a { w with drawn := w.drawn + 1 }) : (Code.region id ops true).wp P Q a w :=
  wp_region_any hm (wpAny_of_L _ _ _ _ h)

theorem op_wp {K : Act → World → Prop} {a : Act} {w : World} {i : Nat} {o : Oper} (hi : ops[i]? = some o) (hg : Region.wanted o (yielded ops a.tmps) = true) (h : o.wp P a w K Q) : wpOp P ops Q i K a w := by
  unfold wpOp
  rw [hi]
  show if Region.wanted o (yielded ops a.tmps) = true then _ else _
  rw [if_pos hg]
  exact .inl h

theorem eval_ne {a : Act} {d e : Nat} {v : Value} (h : d ≠ e) : (a.put (some d) v).eval (.tmp e) = a.eval (.tmp e) :=
  Act.eval_put (dst := some d) (x := .tmp e) (by simp; exact fun hy => h hy.symm)

theorem eval_eq {a : Act} {d : Nat} {v : Value} (h : d < a.tmps.size) : (a.put (some d) v).eval (.tmp d) = v := by
  simp [Act.eval, Act.put, h]

theorem put_size {a : Act} {d : Nat} {v : Value} : (a.put (some d) v).tmps.size = a.tmps.size := by simp [Act.put]
end

end Go.Proofs.Ytmikkameameebaa
namespace Go.Proofs.Ytmikkameameebaa
open Go.RowKit

/-- The statement that appends an element that l5At finds. -/
def opsT : Array Oper :=
  #[{ dst := some 115, op := Op.fieldAddr 26 (Operand.tmp 8) 2, type := 0, pos := "l5_shape.go:187", after := #[], guard := none },
    { dst := some 116, op := Op.load 22 (Operand.tmp 115), type := 22, pos := "l5_shape.go:187", after := #[{ on := 0, ground := Ground.data }], guard := none },
    { dst := some 117, op := Op.fieldAddr 26 (Operand.tmp 3) 2, type := 0, pos := "l5_shape.go:187", after := #[], guard := none },
    { dst := some 118, op := Op.load 22 (Operand.tmp 117), type := 22, pos := "l5_shape.go:187", after := #[{ on := 2, ground := Ground.data }], guard := none },
    { dst := some 119, op := Op.fieldAddr 26 (Operand.tmp 3) 1, type := 0, pos := "l5_shape.go:187", after := #[], guard := none },
    { dst := some 120, op := Op.load 22 (Operand.tmp 119), type := 22, pos := "l5_shape.go:187", after := #[{ on := 4, ground := Ground.data }], guard := none },
    { dst := some 121, op := Op.move (Operand.tmp 14), type := 22, pos := "l5_shape.go:187", after := #[], guard := none },
    { dst := some 122, op := Op.call { callee := Callee.value (Operand.func 28), args := #[Operand.tmp 120, Operand.tmp 121], argTypes := #[22, 22] }, type := 3, pos := "l5_shape.go:187", after := #[{ on := 5, ground := Ground.data }, { on := 6, ground := Ground.data }], guard := none },
    { dst := some 123, op := Op.indexAddr 22 (Operand.tmp 118) (Operand.tmp 122), type := 0, pos := "l5_shape.go:187", after := #[{ on := 3, ground := Ground.data }, { on := 7, ground := Ground.data }], guard := none },
    { dst := some 124, op := Op.load 3 (Operand.tmp 123), type := 3, pos := "l5_shape.go:187", after := #[{ on := 8, ground := Ground.data }], guard := none },
    { dst := some 125, op := Op.buildSlice 22 1 #[(0, Operand.tmp 124)], type := 22, pos := "l5_shape.go:187", after := #[{ on := 9, ground := Ground.data }], guard := none },
    { dst := some 126, op := Op.call { callee := Callee.builtin Builtin.append, args := #[Operand.tmp 116, Operand.tmp 125], argTypes := #[22, 22] }, type := 22, pos := "l5_shape.go:187", after := #[{ on := 1, ground := Ground.data }, { on := 10, ground := Ground.data }, { on := 7, ground := Ground.chain }], guard := none },
    { dst := some 127, op := Op.fieldAddr 26 (Operand.tmp 8) 2, type := 0, pos := "l5_shape.go:187", after := #[{ on := 0, ground := Ground.phase }, { on := 1, ground := Ground.phase }, { on := 2, ground := Ground.phase }, { on := 3, ground := Ground.phase }, { on := 4, ground := Ground.phase }, { on := 5, ground := Ground.phase }, { on := 6, ground := Ground.phase }, { on := 7, ground := Ground.phase }, { on := 8, ground := Ground.phase }, { on := 9, ground := Ground.phase }, { on := 10, ground := Ground.phase }, { on := 11, ground := Ground.phase }], guard := none },
    { dst := none, op := Op.store 22 (Operand.tmp 127) (Operand.tmp 126), type := 0, pos := "l5_shape.go:187", after := #[{ on := 12, ground := Ground.data }, { on := 11, ground := Ground.data }, { on := 11, ground := Ground.chain }, { on := 0, ground := Ground.phase }, { on := 1, ground := Ground.phase }, { on := 2, ground := Ground.phase }, { on := 3, ground := Ground.phase }, { on := 4, ground := Ground.phase }, { on := 5, ground := Ground.phase }, { on := 6, ground := Ground.phase }, { on := 7, ground := Ground.phase }, { on := 8, ground := Ground.phase }, { on := 9, ground := Ground.phase }, { on := 10, ground := Ground.phase }, { on := 11, ground := Ground.phase }], guard := none }]

section
variable {o : Oper} {a : Act}
theorem runF (x : Operand) (b k : Nat) (hk : k = 1 ∨ k = 2) (ho : o.op = .fieldAddr 26 x k) (hx : a.eval x = .pointer (some ⟨b, 0, none⟩)) (w : World) : (execOp a.eval o).run Try.prog w = .ok (.value (.pointer (some ⟨b, k, none⟩))) w := by
  unfold execOp
  rcases hk with rfl | rfl
  · simp only [ho, hx]
    go_simp
  · simp only [ho, hx]
    go_simp

theorem runL (x : Operand) (p : Addr) {s : Option Addr} {l c : Nat} (ho : o.op = .load 22 x) (hx : a.eval x = .pointer (some p)) (w : World) (hc : w.cell? p = some (.slice s l c)) : (execOp a.eval o).run Try.prog w = .ok (.value (.slice s l c)) w := by
  unfold execOp
  simp only [ho, hx]
  go_simp

theorem runI (x : Operand) (p : Addr) {z : Int} (ho : o.op = .load 3 x) (hx : a.eval x = .pointer (some p)) (w : World) (hc : w.cell? p = some (.int .i64 z)) : (execOp a.eval o).run Try.prog w = .ok (.value (.int .i64 z)) w := by
  unfold execOp
  simp only [ho, hx]
  go_simp

theorem runM (x : Operand) {v : Value} (ho : o.op = .move x) (hx : a.eval x = v) (w : World) : (execOp a.eval o).run Try.prog w = .ok (.value v) w := by
  unfold execOp
  simp only [ho, hx]
  go_simp

theorem runX (x y : Operand) {b off m c J : Nat} (ho : o.op = .indexAddr 22 x y) (hx : a.eval x = .slice (some ⟨b, off, none⟩) m c) (hy : a.eval y = .int .i64 (J : Nat)) (hJ : J < m) (w : World) : (execOp a.eval o).run Try.prog w = .ok (.value (.pointer (some ⟨b, off + J, none⟩))) w := by
  have h1 : (J : Int) < (m : Int) := by omega
  unfold execOp
  simp only [ho, hx, hy]
  go_simp

theorem runB (t : Nat) {z : Int} (ho : o.op = .buildSlice 22 1 #[(0, .tmp t)]) (hx : a.eval (.tmp t) = .int .i64 z) (w : World) : (execOp a.eval o).run Try.prog w = .ok (.value (.slice (some ⟨w.heap.size, 0, none⟩) 1 1)) (w.alloc (.cells #[.int .i64 z] 3)) := by
  have hx' : a.tmps[t]?.getD undef = .int .i64 z := by simpa [Act.eval] using hx
  unfold execOp
  simp only [ho]
  go_simp

theorem runS (x y : Operand) (p : Nat) {v1 : Value} {s : Option Addr} {l c : Nat} (ho : o.op = .store 22 x y) (hx : a.eval x = .pointer (some ⟨p, 2, none⟩)) (hy : a.eval y = .slice s l c) (w : World) (hc : w.cell? ⟨p, 2, none⟩ = some v1) (hf : w.frozen? ⟨p, 2, none⟩ = false) : (execOp a.eval o).run Try.prog w = .ok .skip (w.setCell ⟨p, 2, none⟩ (.slice s l c)) := by
  unfold execOp
  simp only [ho, hx, hy]
  go_simp
end

theorem runC {K : Act → World → Prop} {Q : Exit → Act → World → Prop} {o : Oper} {a : Act} {w : World} (x y : Operand) {u v : Value} (ho : o.op = .call { callee := .value (.func 28), args := #[x, y], argTypes := #[22, 22] }) (hx : a.eval x = u) (hy : a.eval y = v)
    (h : Calls Try.prog 28 #[u, v] w fun | .returned r, w' => K (a.put o.dst r) w' | .panicked c, w' => Q (.panic c) a w' | .outgrown, _ => LetsOut Q) : o.wp Try.prog a w K Q := by
  have e : (execOp a.eval o).run Try.prog w = .ok (.enter 28 #[u, v]) w := by
    unfold execOp
    simp only [ho]
    go_simp
    rw [← hx, ← hy]
    exact ⟨by cases x <;> simp [Act.eval], by cases y <;> simp [Act.eval]⟩
  unfold Oper.wp
  rw [e]
  exact h

/-- The frame behind the statement. -/
def outT (a : Act) (p b5 : Nat) (vO vD vS vF : Value) (J : Nat) (pd : Addr) (x : Int) (hb : Nat) (v' : Value) : Act :=
  ((((((((((((a.put (some 115) (.pointer (some ⟨p, 2, none⟩))).put (some 116) vO).put (some 117) (.pointer (some ⟨b5, 2, none⟩))).put (some 118) vD).put (some 119) (.pointer (some ⟨b5, 1, none⟩))).put (some 120) vS).put (some 121) vF).put (some 122) (.int .i64 (J : Nat))).put (some 123) (.pointer (some pd))).put (some 124) (.int .i64 x)).put (some 125) (.slice (some ⟨hb, 0, none⟩) 1 1)).put (some 126) v').put (some 127) (.pointer (some ⟨p, 2, none⟩))

set_option maxHeartbeats 4000000 in
set_option maxRecDepth 20000 in
theorem regionT {Q : Exit → Act → World → Prop} (a : Act) (W : World) (hsz : 129 ≤ a.tmps.size) (p b5 : Nat) (h8 : a.eval (.tmp 8) = .pointer (some ⟨p, 0, none⟩)) (h3 : a.eval (.tmp 3) = .pointer (some ⟨b5, 0, none⟩)) (vF : Value) (h14 : a.eval (.tmp 14) = vF)
    (g P cap : Nat) (xs : List Value) (bd od m2 d2 J : Nat) (b1 : Option Addr) (n d1 : Nat) (x : Int) (base : Nat) (hJ : J < m2) (hP : P ≤ 1000000) (S : World → Prop)
    (hS : ∀ wx, S wx → wx.cell? ⟨p, 2, none⟩ = some (.slice (some ⟨g, 0, none⟩) P cap) ∧ wx.cell? ⟨b5, 2, none⟩ = some (.slice (some ⟨bd, od, none⟩) m2 d2) ∧ wx.cell? ⟨b5, 1, none⟩ = some (.slice b1 n d1) ∧ wx.cell? ⟨bd, od + J, none⟩ = some (.int .i64 x) ∧ wx.frozen? ⟨p, 2, none⟩ = false)
    (HK : ∀ wx, Below W.heap.size W wx → S wx)
    (HC : ∀ wx, Below W.heap.size W wx → Calls Try.prog 28 #[.slice b1 n d1, vF] wx fun e w' => e = .returned (.int .i64 (J : Nat)) ∧ Below wx.heap.size wx w')
    (hown : W.ownsRow base 3 1 (.slice (some ⟨g, 0, none⟩) P cap) P xs) (hbase : base ≤ W.heap.size)
    (HA : ∀ wx w7, Below W.heap.size W wx → (wx.alloc (.cells #[.int .i64 x] 3)).grownBy w7 (some g) → S w7)
    (hQ : ∀ c a (d : Nat) v w, Q (.panic c) (a.put (some d) v) w → Q (.panic c) a w)
    (hend : ∀ wx g' cap' w7, Below W.heap.size W wx → w7.ownsRow base 3 1 (.slice (some ⟨g', 0, none⟩) (P + 1) cap') (P + 1) (xs ++ [.int .i64 x]) → (wx.alloc (.cells #[.int .i64 x] 3)).grownBy w7 (Value.ownBlock (.slice (some ⟨g, 0, none⟩) P cap)) → (Value.ownBlock (.slice (some ⟨g, 0, none⟩) P cap) = some g' ∨ g' = wx.heap.size + 1) →
      Q .normal (outT a p b5 (.slice (some ⟨g, 0, none⟩) P cap) (.slice (some ⟨bd, od, none⟩) m2 d2) (.slice b1 n d1) vF J ⟨bd, od + J, none⟩ x wx.heap.size (.slice (some ⟨g', 0, none⟩) (P + 1) cap')) (w7.setCell ⟨p, 2, none⟩ (.slice (some ⟨g', 0, none⟩) (P + 1) cap'))) :
    (Code.region 28 opsT true).wp Try.prog Q a W := by
  have hb0 : Below W.heap.size W { W with drawn := W.drawn + 1 } := (Below.refl _ _).drew
  have hS0 := HK _ hb0
  obtain ⟨i0, hi, hz0, hz1, hz2⟩ := info_parts info_int
  refine wp_region_L S 13 (by kernel_rfl) ?_
  show wpAnyL _ _ _ _ _ _ (13 + 1) _ _ _
  refine wpAnyL_put 0 115 (.pointer (some ⟨p, 2, none⟩)) rfl rfl (by kernel_rfl) (by kernel_rfl) (by kernel_rfl) (by kernel_rfl) hQ rfl (fun w _ => runF (.tmp 8) p 2 (.inr rfl) rfl h8 w) hS0 ?_
  refine wpAnyL_put 1 116 (.slice (some ⟨g, 0, none⟩) P cap) rfl rfl (by kernel_rfl) (by kernel_rfl) (by kernel_rfl) (by kernel_rfl) hQ rfl (fun w hw => runL (.tmp 115) _ rfl (eval_eq (by omega)) w (hS w hw).1) hS0 ?_
  refine wpAnyL_put 2 117 (.pointer (some ⟨b5, 2, none⟩)) rfl rfl (by kernel_rfl) (by kernel_rfl) (by kernel_rfl) (by kernel_rfl) hQ rfl (fun w _ => runF (.tmp 3) b5 2 (.inr rfl) rfl (by rw [eval_ne (by decide), eval_ne (by decide)]; exact h3) w) hS0 ?_
  refine wpAnyL_put 3 118 (.slice (some ⟨bd, od, none⟩) m2 d2) rfl rfl (by kernel_rfl) (by kernel_rfl) (by kernel_rfl) (by kernel_rfl) hQ rfl (fun w hw => runL (.tmp 117) _ rfl (eval_eq (by rw [put_size, put_size]; omega)) w (hS w hw).2.1) hS0 ?_
  refine wpAnyL_put 4 119 (.pointer (some ⟨b5, 1, none⟩)) rfl rfl (by kernel_rfl) (by kernel_rfl) (by kernel_rfl) (by kernel_rfl) hQ rfl (fun w _ => runF (.tmp 3) b5 1 (.inl rfl) rfl (by rw [eval_ne (by decide), eval_ne (by decide), eval_ne (by decide), eval_ne (by decide)]; exact h3) w) hS0 ?_
  refine wpAnyL_put 5 120 (.slice b1 n d1) rfl rfl (by kernel_rfl) (by kernel_rfl) (by kernel_rfl) (by kernel_rfl) hQ rfl (fun w hw => runL (.tmp 119) _ rfl (eval_eq (by rw [put_size, put_size, put_size, put_size]; omega)) w (hS w hw).2.2.1) hS0 ?_
  refine wpAnyL_put 6 121 (vF) rfl rfl (by kernel_rfl) (by kernel_rfl) (by kernel_rfl) (by kernel_rfl) hQ rfl (fun w _ => runM (.tmp 14) rfl (by rw [eval_ne (by decide), eval_ne (by decide), eval_ne (by decide), eval_ne (by decide), eval_ne (by decide), eval_ne (by decide)]; exact h14) w) hS0 ?_
  refine wpAnyL_one (i := 7) (by kernel_rfl) ?_
  refine op_wp rfl rfl ?_
  have q1 : (((((((a.put (some 115) (.pointer (some ⟨p, 2, none⟩))).put (some 116) (.slice (some ⟨g, 0, none⟩) P cap)).put (some 117) (.pointer (some ⟨b5, 2, none⟩))).put (some 118) (.slice (some ⟨bd, od, none⟩) m2 d2)).put (some 119) (.pointer (some ⟨b5, 1, none⟩))).put (some 120) (.slice b1 n d1)).put (some 121) vF).eval (.tmp 120) = .slice b1 n d1 := by
    rw [eval_ne (by decide)]; exact eval_eq (by rw [put_size, put_size, put_size, put_size, put_size]; omega)
  have q2 : (((((((a.put (some 115) (.pointer (some ⟨p, 2, none⟩))).put (some 116) (.slice (some ⟨g, 0, none⟩) P cap)).put (some 117) (.pointer (some ⟨b5, 2, none⟩))).put (some 118) (.slice (some ⟨bd, od, none⟩) m2 d2)).put (some 119) (.pointer (some ⟨b5, 1, none⟩))).put (some 120) (.slice b1 n d1)).put (some 121) vF).eval (.tmp 121) = vF := eval_eq (by rw [put_size, put_size, put_size, put_size, put_size, put_size]; omega)
  have q3 : (((((((a.put (some 115) (.pointer (some ⟨p, 2, none⟩))).put (some 116) (.slice (some ⟨g, 0, none⟩) P cap)).put (some 117) (.pointer (some ⟨b5, 2, none⟩))).put (some 118) (.slice (some ⟨bd, od, none⟩) m2 d2)).put (some 119) (.pointer (some ⟨b5, 1, none⟩))).put (some 120) (.slice b1 n d1)).put (some 121) vF).eval (.tmp 118) = .slice (some ⟨bd, od, none⟩) m2 d2 := by
    rw [eval_ne (by decide), eval_ne (by decide), eval_ne (by decide)]; exact eval_eq (by rw [put_size, put_size, put_size]; omega)
  have q4 : (((((((a.put (some 115) (.pointer (some ⟨p, 2, none⟩))).put (some 116) (.slice (some ⟨g, 0, none⟩) P cap)).put (some 117) (.pointer (some ⟨b5, 2, none⟩))).put (some 118) (.slice (some ⟨bd, od, none⟩) m2 d2)).put (some 119) (.pointer (some ⟨b5, 1, none⟩))).put (some 120) (.slice b1 n d1)).put (some 121) vF).eval (.tmp 116) = .slice (some ⟨g, 0, none⟩) P cap := by
    rw [eval_ne (by decide), eval_ne (by decide), eval_ne (by decide), eval_ne (by decide), eval_ne (by decide)]; exact eval_eq (by rw [put_size]; omega)
  have q5 : (((((((a.put (some 115) (.pointer (some ⟨p, 2, none⟩))).put (some 116) (.slice (some ⟨g, 0, none⟩) P cap)).put (some 117) (.pointer (some ⟨b5, 2, none⟩))).put (some 118) (.slice (some ⟨bd, od, none⟩) m2 d2)).put (some 119) (.pointer (some ⟨b5, 1, none⟩))).put (some 120) (.slice b1 n d1)).put (some 121) vF).eval (.tmp 8) = .pointer (some ⟨p, 0, none⟩) := by
    rw [eval_ne (by decide), eval_ne (by decide), eval_ne (by decide), eval_ne (by decide), eval_ne (by decide), eval_ne (by decide), eval_ne (by decide)]; exact h8
  have q6 : 129 ≤ (((((((a.put (some 115) (.pointer (some ⟨p, 2, none⟩))).put (some 116) (.slice (some ⟨g, 0, none⟩) P cap)).put (some 117) (.pointer (some ⟨b5, 2, none⟩))).put (some 118) (.slice (some ⟨bd, od, none⟩) m2 d2)).put (some 119) (.pointer (some ⟨b5, 1, none⟩))).put (some 120) (.slice b1 n d1)).put (some 121) vF).tmps.size := by
    rw [put_size, put_size, put_size, put_size, put_size, put_size, put_size]; exact hsz
  unfold outT at hend
  generalize (((((((a.put (some 115) (.pointer (some ⟨p, 2, none⟩))).put (some 116) (.slice (some ⟨g, 0, none⟩) P cap)).put (some 117) (.pointer (some ⟨b5, 2, none⟩))).put (some 118) (.slice (some ⟨bd, od, none⟩) m2 d2)).put (some 119) (.pointer (some ⟨b5, 1, none⟩))).put (some 120) (.slice b1 n d1)).put (some 121) vF) = A at *
  refine runC (.tmp 120) (.tmp 121) rfl q1 q2 ((HC _ hb0).mono ?_)
  rintro e w2 ⟨rfl, hb2⟩
  have hbw : Below W.heap.size W w2 := hb0.trans hb2
  have hS2 := HK _ hbw
  refine ⟨fun _ => hS2, ?_⟩
  show wpAnyL _ _ _ _ _ _ (5 + 1) _ (A.put (some 122) _) _
  refine wpAnyL_put 8 123 (.pointer (some ⟨bd, od + J, none⟩)) rfl rfl (by kernel_rfl) (by kernel_rfl) (by kernel_rfl) (by kernel_rfl) hQ rfl (fun w _ => runX (.tmp 118) (.tmp 122) rfl (by rw [eval_ne (by decide)]; exact q3) (eval_eq (by omega)) hJ w) hS2 ?_
  refine wpAnyL_put 9 124 (.int .i64 x) rfl rfl (by kernel_rfl) (by kernel_rfl) (by kernel_rfl) (by kernel_rfl) hQ rfl (fun w hw => runI (.tmp 123) _ rfl (eval_eq (by rw [put_size]; omega)) w (hS w hw).2.2.2.1) hS2 ?_
  refine wpAnyL_one (i := 10) (by kernel_rfl) ?_
  refine op_wp rfl rfl ?_
  unfold Oper.wp
  rw [runB 124 rfl (eval_eq (by rw [put_size, put_size]; omega)) w2]
  have hbx : Below W.heap.size W (w2.alloc (.cells #[.int .i64 x] 3)) := hbw.alloc hbw.size _
  refine ⟨fun _ => HK _ hbx, ?_⟩
  show wpAnyL _ _ _ _ _ _ (2 + 1) _ ((((A.put (some 122) _).put (some 123) _).put (some 124) _).put (some 125) _) _
  refine wpAnyL_one (i := 11) (by kernel_rfl) ?_
  refine op_wp rfl rfl ?_
  refine wp_append_lies _ (.tmp 116) (.tmp 125) 22 rfl base 3 i0 (.int .i64 0) 1 8 Try.underlying22 hi hz0 hz1 hz2 rfl (by decide) (.slice (some ⟨g, 0, none⟩) P cap) P xs (by rw [eval_ne (by decide), eval_ne (by decide), eval_ne (by decide), eval_ne (by decide)]; exact q4) (owns_below hown (Nat.le_refl _) hbx) ⟨w2.heap.size, 0, none⟩ 1 1 [.int .i64 x] (eval_eq (by rw [put_size, put_size, put_size]; omega)) rfl (cells_new _ _) (one_one _) (by omega) (by unfold maxLen; omega) (by omega) (by have := hbw.size; simp; omega) (w2.heap.size + 1) (by simp) ?_
  intro g' cap' w7 hown7 hgrow hat hlt
  have hS7 := HA w2 w7 hbw hgrow
  refine ⟨fun _ => hS7, ?_⟩
  show wpAnyL _ _ _ _ _ _ (1 + 1) _ (((((A.put (some 122) _).put (some 123) _).put (some 124) _).put (some 125) _).put (some 126) _) _
  refine wpAnyL_put 12 127 (.pointer (some ⟨p, 2, none⟩)) rfl rfl (by kernel_rfl) (by kernel_rfl) (by kernel_rfl) (by kernel_rfl) hQ rfl (fun w _ => runF (.tmp 8) p 2 (.inr rfl) rfl (by rw [eval_ne (by decide), eval_ne (by decide), eval_ne (by decide), eval_ne (by decide), eval_ne (by decide)]; exact q5) w) hS7 ?_
  refine wpAnyL_one (i := 13) (by kernel_rfl) ?_
  refine op_wp rfl rfl ?_
  unfold Oper.wp
  rw [runS (.tmp 127) (.tmp 126) p (s := some ⟨g', 0, none⟩) (l := P + 1) (c := cap') rfl (eval_eq (by rw [put_size, put_size, put_size, put_size, put_size]; omega)) (by rw [eval_ne (by decide)]; exact eval_eq (by rw [put_size, put_size, put_size, put_size]; omega)) w7 (hS w7 hS7).1 (hS w7 hS7).2.2.2.2]
  refine ⟨fun h => absurd rfl h, ?_⟩
  refine wpAnyL_done (by kernel_rfl) ?_ _
  exact hend w2 g' cap' w7 hbw hown7 hgrow hat

end Go.Proofs.Ytmikkameameebaa
namespace Go.Proofs.Ytmikkameameebaa
open Go.RowKit

theorem ret_three {a b c a' b' c' : Int} (ha : a = a') (hb : b = b') (hc : c = c') : Ending.returned (.tuple #[.int .i64 a, .int .i64 b, .int .i64 c]) = .returned (.tuple #[.int .i64 a', .int .i64 b', .int .i64 c']) := by rw [ha, hb, hc]

theorem drop_snoc (sh : List Int) (k i : Nat) (h : k < sh.length) (hi : i ≤ k) : (sh.take (k + 1)).drop i = (sh.take k).drop i ++ [sh.getD k 0] := by
  rw [take_snoc sh k h, List.drop_append_of_le_length (by simp; omega)]

theorem prodAll_one (xs : List Int) (x : Int) : prodAll (xs ++ [x]) = prodAll xs * x := by simp [prodAll]

/-- The products in front of and behind place t of the first k. -/
def partB (sh : List Int) (t k : Nat) : Int := prodAll (sh.take (min k t))
def partA (sh : List Int) (t k : Nat) : Int := prodAll ((sh.take k).drop (t + 1))

theorem partB_lt {sh : List Int} {t k : Nat} (hk : k < sh.length) (h : k < t) : partB sh t (k + 1) = partB sh t k * sh.getD k 0 := by
  unfold partB; rw [Nat.min_eq_left (by omega), Nat.min_eq_left (by omega), take_snoc sh k hk, prodAll_one]
theorem partB_ge {sh : List Int} {t k : Nat} (h : t ≤ k) : partB sh t (k + 1) = partB sh t k := by
  unfold partB; rw [Nat.min_eq_right (by omega), Nat.min_eq_right (by omega)]
theorem partA_gt {sh : List Int} {t k : Nat} (hk : k < sh.length) (h : t < k) : partA sh t (k + 1) = partA sh t k * sh.getD k 0 := by
  unfold partA; rw [drop_snoc sh k (t + 1) hk (by omega), prodAll_one]
theorem partA_le {sh : List Int} {t k : Nat} (h : k ≤ t) : partA sh t (k + 1) = partA sh t k := by
  unfold partA; rw [List.drop_eq_nil_of_le (by simp; omega), List.drop_eq_nil_of_le (by simp; omega)]
theorem partB_bd {sh : List Int} (h : ShapeIn sh) (t k : Nat) : 0 ≤ partB sh t k ∧ partB sh t k ≤ 10000 := (h.take _).bd
theorem partA_bd {sh : List Int} (h : ShapeIn sh) (t k : Nat) : 0 ≤ partA sh t k ∧ partA sh t k ≤ 10000 := ((h.take _).drop _).bd

set_option maxHeartbeats 1000000 in
theorem l4Axis_any (a : Option Addr) (n cap : Nat) (sh : List Int) (first : Bool) (w : World) (h : Row w a n sh) (hS : ShapeIn sh) (hn : 0 < n) :
    Calls Try.prog 50 #[.slice a n cap, .bool first] w fun e w' => e = .returned (.tuple #[.int .i64 (axisB sh first), .int .i64 (axisN sh first), .int .i64 (axisA sh first)]) ∧ Below w.heap.size w w' := by
  have hlen := hide h.len
  have hsm := h.small
  have H := hide h
  have HS := hide hS
  clear h hS
  obtain ⟨t, ht⟩ : ∃ t, axisAt sh first = t := ⟨_, rfl⟩
  have htn : t < n := by rw [← ht]; unfold axisAt; rw [unhide hlen]; split <;> omega
  have HT := hide ht
  have HB : Hid (axisB sh first = partB sh t n) := by show _ = _; unfold axisB partB; rw [ht, Nat.min_eq_right (by omega)]
  have HA : Hid (axisA sh first = partA sh t n) := by show _ = _; unfold axisA partA; rw [ht, List.take_of_length_le (by rw [unhide hlen]; exact Nat.le_refl _)]
  have HN : Hid (axisN sh first = sh.getD t 0) := by show _ = _; unfold axisN; rw [ht]
  obtain ⟨bt, ot, hat, hltt, hct⟩ := (unhide H).get htn
  subst hat
  have hcell : Hid (∀ k, k < n → w.cell? ⟨bt, ot + k, none⟩ = some (.int .i64 (sh.getD k 0))) := by
    intro k hk
    obtain ⟨b', o', e', _, hc'⟩ := (unhide H).get hk
    cases e'
    exact hc'
  have hft : (first = true ∧ t = 0) ∨ (first = false ∧ (n : Int) - 1 = (t : Int)) := by
    have := unhide HT
    unfold axisAt at this
    rw [unhide hlen] at this
    cases first
    · exact .inr ⟨rfl, by simp at this; omega⟩
    · exact .inl ⟨rfl, by simp at this; omega⟩
  clear ht
  go_enter Try.func50, Try.ntmps50
  go_upto_if 14 with fail
  go_cut [7] (fun b wx => w = wx ∧ b = .int .i64 t)
  case first =>
    rcases hft with ⟨rfl, rfl⟩ | ⟨rfl, hnt⟩
    · go_wp2
      go_meet
      case rel => exact ⟨rfl, rfl⟩
    · go_wp2
      go_meet
      case rel => exact ⟨rfl, by rw [← hnt]⟩
  case rest =>
    obtain ⟨rfl, rfl⟩ := hcut
    clear hft
    go_wp2
    go_loop [8, 9, 10] (fun p q i => ∃ (k : Nat) (x y : Int), k ≤ n ∧ i = .int .i64 k ∧ p = .int .i64 x ∧ q = .int .i64 y ∧ Hid (partB sh t k = x) ∧ Hid (partA sh t k = y)) (fun _ _ i => n - (intOf i).toNat)
    case atStart => exact ⟨0, 1, 1, Nat.zero_le _, rfl, rfl, rfl, by show _ = _; simp [partB, prodAll], by show _ = _; simp [partA, prodAll]⟩
    case round =>
      obtain ⟨k, x, y, hk, rfl, rfl, rfl, hx, hy⟩ := hrel
      by_cases hlt : k < n
      · have hc := unhide hcell k hlt
        have hks : Hid (k < sh.length) := by show k < sh.length; rw [unhide hlen]; exact hlt
        obtain ⟨z, hz⟩ : ∃ z, z = sh.getD k 0 := ⟨_, rfl⟩
        rw [← hz] at hc
        have HZ := hide hz
        clear hz
        by_cases h1 : k < t
        · have HX : Hid (partB sh t (k + 1) = x * z) := by show _ = _; rw [partB_lt (unhide hks) h1, unhide hx, unhide HZ]
          have HY : Hid (partA sh t (k + 1) = y) := by show _ = _; rw [partA_le (by omega), unhide hy]
          have hb := partB_bd (unhide HS) t (k + 1)
          rw [unhide HX] at hb
          obtain ⟨hb0, hb1⟩ := hb
          go_wp2
          go_round
          case rel => exact ⟨k + 1, x * z, y, by omega, by go_num, rfl, rfl, HX, HY⟩
          case measure => simp [intOf]; omega
        · by_cases h2 : t < k
          · have HX : Hid (partB sh t (k + 1) = x) := by show _ = _; rw [partB_ge (by omega), unhide hx]
            have HY : Hid (partA sh t (k + 1) = y * z) := by show _ = _; rw [partA_gt (unhide hks) h2, unhide hy, unhide HZ]
            have hb := partA_bd (unhide HS) t (k + 1)
            rw [unhide HY] at hb
            obtain ⟨hb0, hb1⟩ := hb
            go_wp2
            go_round
            case rel => exact ⟨k + 1, x, y * z, by omega, by go_num, rfl, rfl, HX, HY⟩
            case measure => simp [intOf]; omega
          · have HX : Hid (partB sh t (k + 1) = x) := by show _ = _; rw [partB_ge (by omega), unhide hx]
            have HY : Hid (partA sh t (k + 1) = y) := by show _ = _; rw [partA_le (by omega), unhide hy]
            go_wp2
            go_round
            case rel => exact ⟨k + 1, x, y, by omega, by go_num, rfl, rfl, HX, HY⟩
            case measure => simp [intOf]; omega
      · have hkn : k = n := by omega
        subst hkn
        go_wp2
        go_quiet (fail)
        go_wp2
        refine bodyPost_ret (v := .tuple #[.int .i64 x, .int .i64 (sh.getD t 0), .int .i64 y]) (by simp [results, Try.results50, go_sem]) rfl ?_
        exact ⟨ret_three ((unhide HB).trans (unhide hx)).symm (unhide HN).symm ((unhide HA).trans (unhide hy)).symm, Below.drewN (Below.refl _ _) _⟩

theorem row_tail {w : World} {b off n : Nat} {zs : List Int} (h : Row w (some ⟨b, off, none⟩) n zs) (hn : 0 < n) : Row w (some ⟨b, off + 1, none⟩) (n - 1) (zs.drop 1) := by
  refine ⟨by rw [List.length_drop, h.len], by have := h.small; omega, ?_⟩
  rcases h.at_ with h0 | ⟨b', o', e, hlt, hc⟩
  · omega
  · cases e
    refine .inr ⟨b, off + 1, rfl, hlt, fun i hi => ?_⟩
    have := hc (i + 1) (by omega)
    rw [show off + 1 + i = off + (i + 1) by omega, this]
    simp [List.getD]

theorem row_head {w : World} {a : Option Addr} {n m : Nat} {zs : List Int} (h : Row w a n zs) (hm : m ≤ n) : Row w a m (zs.take m) := by
  refine ⟨by rw [List.length_take, h.len]; omega, by have := h.small; omega, ?_⟩
  rcases h.at_ with h0 | ⟨b', o', e, hlt, hc⟩
  · exact .inl (by omega)
  · refine .inr ⟨b', o', e, hlt, fun i hi => ?_⟩
    rw [hc i (by omega)]
    simp [List.getD, hi]

end Go.Proofs.Ytmikkameameebaa
namespace Go.Proofs.Ytmikkameameebaa
open Go.RowKit

set_option maxHeartbeats 1000000 in
theorem l4Mod_any (a b : Int) (w : World) (ha : -1000000000000000 ≤ a ∧ a ≤ 1000000000000000) (hb : -1000000000000000 ≤ b ∧ b ≤ 1000000000000000) : Calls Try.prog 51 #[.int .i64 a, .int .i64 b] w fun e w' => e = .returned (.int .i64 (modOf a b)) ∧ w' = w := by
  obtain ⟨ha1, ha2⟩ := ha
  obtain ⟨hb1, hb2⟩ := hb
  by_cases h0 : a = 0
  · subst h0
    have HE : Hid (modOf 0 b = b) := rfl
    go_enter Try.func51, Try.ntmps51
    go_wp2
    go_ret
    exact ⟨ret_int HE.out.symm, rfl⟩
  have q0 : (a == 0) = false := by simp [h0]
  have hm : -1000000000000000 ≤ b.tmod a ∧ b.tmod a ≤ 1000000000000000 := by
    have := Int.natAbs_tmod b a
    have h3 : b.natAbs % a.natAbs ≤ b.natAbs := Nat.mod_le _ _
    omega
  obtain ⟨m, hm0⟩ : ∃ m, b.tmod a = m := ⟨_, rfl⟩
  rw [hm0] at hm
  obtain ⟨hm1, hm2⟩ := hm
  by_cases hz : m = 0
  · subst hz
    have HE : Hid (modOf a b = 0) := by show _ = _; unfold modOf; rw [if_neg h0, hm0]; simp
    go_enter Try.func51, Try.ntmps51
    go_wp2
    go_ret
    exact ⟨ret_int HE.out.symm, rfl⟩
  have q1 : (m != 0) = true := by simp [hz]
  by_cases hs : m < 0
  · by_cases ht : a < 0
    · have HE : Hid (modOf a b = m) := by show _ = _; unfold modOf; rw [if_neg h0, hm0]; simp [hs, ht]
      clear hz
      go_enter Try.func51, Try.ntmps51
      go_wp2
      go_ret
      exact ⟨ret_int HE.out.symm, rfl⟩
    · have HE : Hid (modOf a b = m + a) := by show _ = _; unfold modOf; rw [if_neg h0, hm0]; simp [hs, ht, hz]
      clear hz
      go_enter Try.func51, Try.ntmps51
      go_wp2
      go_ret
      exact ⟨ret_int HE.out.symm, rfl⟩
  · by_cases ht : a < 0
    · have HE : Hid (modOf a b = m + a) := by show _ = _; unfold modOf; rw [if_neg h0, hm0]; simp [hs, ht, hz]
      clear hz
      go_enter Try.func51, Try.ntmps51
      go_wp2
      go_ret
      exact ⟨ret_int HE.out.symm, rfl⟩
    · have HE : Hid (modOf a b = m) := by show _ = _; unfold modOf; rw [if_neg h0, hm0]; simp [hs, ht]
      clear hz
      go_enter Try.func51, Try.ntmps51
      go_wp2
      go_ret
      exact ⟨ret_int HE.out.symm, rfl⟩

end Go.Proofs.Ytmikkameameebaa
namespace Go.Proofs.Ytmikkameameebaa
open Go.RowKit

set_option maxHeartbeats 400000 in
theorem l5Single_any (c : Bool) (v1 : Value) (a2 : Option Addr) (n2 c2 : Nat) (w : World) (hs : n2 ≤ 17592186044416) (r : Int) (hr : Hid (singleCode c n2 = r)) :
    Calls Try.prog 48 #[.agg #[.bool c, v1, .slice a2 n2 c2]] w fun e w' => e = .returned (.int .i64 r) ∧ Below w.heap.size w w' := by
  rw [← hr.out]
  have hW : ∀ o, Below w.heap.size w (w.alloc o) := fun o => (Below.refl _ _).alloc (Nat.le_refl _) _
  by_cases h : n2 = 1
  · subst h
    cases c
    · go_enter Try.func48, Try.ntmps48
      go_wp2
      go_ret
      exact ⟨rfl, hW _⟩
    · go_enter Try.func48, Try.ntmps48
      go_wp2
      go_ret
      exact ⟨rfl, hW _⟩
  · have g0 : ((n2 : Int) != 1) = true := by simp; omega
    have HE : Hid (singleCode c n2 = 5) := by show _ = _; unfold singleCode; rw [if_pos h]
    go_enter Try.func48, Try.ntmps48
    go_wp2
    go_ret
    exact ⟨ret_int HE.out.symm, hW _⟩

/-- The first t elements have been laid. -/
structure RotTo (W : World) (B g off m : Nat) (R D : List Int) (t : Nat) (wr : World) : Prop where
  own : Own wr B (some ⟨g, off, none⟩) m (R.take t ++ D.drop t)
  but : But (fun k => k = g) W wr

theorem RotTo.step {W wr : World} {B g off m t : Nat} {R D : List Int} {x : Int} (h : RotTo W B g off m R D t wr) (hr : R.length = m) (hd : D.length = m) (ht : t < m) (hx : R.getD t 0 = x) : RotTo W B g off m R D (t + 1) (wr.setCell ⟨g, off + t, none⟩ (.int .i64 x)) := by
  refine ⟨?_, h.but.setCell rfl _⟩
  rw [← mix_set (by omega) (by omega), hx]
  exact h.own.set ht x

theorem RotTo.drew {W wr : World} {B g off m t : Nat} {R D : List Int} (h : RotTo W B g off m R D t wr) : RotTo W B g off m R D t wr.drew :=
  ⟨h.own.below (Nat.le_refl _) (Below.refl _ _).drew, h.but.drew⟩

theorem vals_get (f : Nat → Int × Int) (n k : Nat) (hk : k < n) : (vals f n).getD k 0 = (f k).1 := by simp [vals, hk]

theorem wrapN {a : Int} {b : Nat} (h : a = b) (hb : b ≤ 1000000000000000000) : IntKind.i64.wrap a = (b : Int) := by rw [IntKind.wrap_i64, h]; omega

set_option maxRecDepth 20000 in
set_option maxHeartbeats 8000000 in
theorem Rotate_any (c d : Bool) (a1 a2 b1 b2 : Addr) (n1 n2 m1 m2 c1 c2 d1 d2 : Nat) (sh dt sh' dt' : List Int) (fl : Bool) (w : World) (h1 : Row w (some a1) n1 sh) (h2 : Row w (some a2) n2 dt) (k1 : Row w (some b1) m1 sh') (k2 : Row w (some b2) m2 dt') :
    Calls Try.prog 17 #[.agg #[.bool c, .slice (some a1) n1 c1, .slice (some a2) n2 c2], .agg #[.bool d, .slice (some b1) m1 d1, .slice (some b2) m2 d2], .bool fl] w (GivesRow w (rotate c d sh dt sh' dt' fl)) := by
  have hl1 := hide h1.len
  have hl2 := hide h2.len
  have hl3 := hide k1.len
  have hl4 := hide k2.len
  have hs1 := h1.small
  have hs2 := h2.small
  have hs3 := k1.small
  have hs4 := k2.small
  have H1 := hide h1
  have H2 := hide h2
  have K1 := hide k1
  have K2 := hide k2
  clear h1 h2 k1 k2
  obtain ⟨r1, hr1⟩ : ∃ r, arrOk c sh dt = r := ⟨_, rfl⟩
  obtain ⟨r2, hr2⟩ : ∃ r, arrOk d sh' dt' = r := ⟨_, rfl⟩
  have HR1 := hide hr1
  have HR2 := hide hr2
  clear hr1 hr2
  go_enter Try.func17, Try.ntmps17
  go_wp2_with fail
  refine (ArrayOk_eq _ _ _ _ _ _ _ sh dt _ ((((unhide H1).alloc _).alloc _).alloc _) ((((unhide H2).alloc _).alloc _).alloc _) _ HR1).mono ?_
  rintro e w1 ⟨rfl, hb1⟩
  obtain ⟨B4, B5, B6, hB1⟩ := boxes3 hb1
  have hz1 := B6.lt
  clear hb1
  obtain ⟨x0, x1, x2, x3, x4, x5, x6⟩ := B4.all
  obtain ⟨y0, y1, y2, y3, y4, y5, y6⟩ := B5.all
  cases r1 with
  | false =>
    have HS : Hid (rotate c d sh dt sh' dt' fl = noAns 3) := rotate_bad1 (unhide HR1)
    go_wp2_with fail
    refine (l4None_any _).mono ?_
    rintro e w9 ⟨rfl, hb9⟩
    obtain ⟨q0, q1, q2, q3, q4, q5, q6⟩ := ((B6).below (Nat.le_refl _) hb9).all
    have hB9 := hide ((hB1).trans (hb9.mono (hB1).size))
    clear hb9 hB1 B4 B5 B6 hz1 x0 x1 x2 x3 x4 x5 x6 y0 y1 y2 y3 y4 y5 y6
    go_wp2
    refine bodyPost_ret (v := .tuple #[.agg #[.bool false, .slice none 0 0, .slice none 0 0], .int .i64 3]) (by simp [results, Try.results17, go_sem, q0, q1, q2]) rfl ?_
    rw [unhide HS]
    exact ⟨none, 0, 0, none, 0, 0, rfl, row_nil _ _, row_nil _ _, (((unhide hB9).setCell (by simp <;> omega) _).setCell (by simp <;> omega) _).setCell (by simp <;> omega) _⟩
  | true =>
    go_wp2_with fail
    refine (ArrayOk_eq _ _ _ _ _ _ _ sh' dt' _ ((unhide K1).below (Nat.le_refl _) hB1) ((unhide K2).below (Nat.le_refl _) hB1) _ HR2).mono ?_
    rintro e w2 ⟨rfl, hb2⟩
    have C4 := hide (B4.below (Nat.le_refl _) hb2)
    have C5 := hide (B5.below (Nat.le_refl _) hb2)
    have C6 := hide (B6.below (Nat.le_refl _) hb2)
    have hB2 := hide (hB1.trans (hb2.mono hB1.size))
    clear hb2 hB1 B4 B5 B6 hz1 x0 x1 x2 x3 x4 x5 x6 y0 y1 y2 y3 y4 y5 y6 w1
    cases r2 with
    | false =>
      have HS : Hid (rotate c d sh dt sh' dt' fl = noAns 3) := rotate_bad2 (unhide HR2)
      go_wp2_with fail
      refine (l4None_any _).mono ?_
      rintro e w9 ⟨rfl, hb9⟩
      obtain ⟨q0, q1, q2, q3, q4, q5, q6⟩ := ((unhide C6).below (Nat.le_refl _) hb9).all
      have hB9 := hide ((unhide hB2).trans (hb9.mono (unhide hB2).size))
      clear hb9 C4 C5 C6 hB2
      go_wp2
      refine bodyPost_ret (v := .tuple #[.agg #[.bool false, .slice none 0 0, .slice none 0 0], .int .i64 3]) (by simp [results, Try.results17, go_sem, q0, q1, q2]) rfl ?_
      rw [unhide HS]
      exact ⟨none, 0, 0, none, 0, 0, rfl, row_nil _ _, row_nil _ _, (((unhide hB9).setCell (by simp <;> omega) _).setCell (by simp <;> omega) _).setCell (by simp <;> omega) _⟩
    | true =>
      obtain ⟨x0, x1, x2, x3, x4, x5, x6⟩ := (unhide C4).all
      obtain ⟨y0, y1, y2, y3, y4, y5, y6⟩ := (unhide C5).all
      obtain ⟨r, hr⟩ : ∃ r, singleCode c n2 = r := ⟨_, rfl⟩
      have HSC := hide hr
      have HCC : Hid (singleCode c dt.length = r) := by rw [unhide hl2]; exact hr
      clear hr
      go_upto_region 4 with (go_at_call 48; refine (l5Single_any c _ _ _ _ _ hs2 r HSC).mono ?_; rintro e w3 ⟨rfl, hb3⟩; have HB3 := hide hb3; clear hb3)
      have D4 := hide ((unhide C4).below (Nat.le_refl _) (unhide HB3))
      have D5 := hide ((unhide C5).below (Nat.le_refl _) (unhide HB3))
      have D6 := hide ((unhide C6).below (Nat.le_refl _) (unhide HB3))
      have hB3 := hide ((unhide hB2).trans ((unhide HB3).mono (unhide hB2).size))
      clear C4 C5 C6 hB2 HB3 x0 x1 x2 x3 x4 x5 x6 y0 y1 y2 y3 y4 y5 y6 w2
      by_cases h0 : r = 0
      · subst h0
        obtain ⟨y0, y1, y2, y3, y4, y5, y6⟩ := (unhide D5).all
        have hcall := l3Copy_owns d b1 b2 m1 m2 d1 d2 sh' dt' w3 ((unhide K1).below (Nat.le_refl _) (unhide hB3)) ((unhide K2).below (Nat.le_refl _) (unhide hB3))
        go_upto_region 7 with (go_at_call 49; refine hcall.mono ?_; rintro e w4 ⟨s1, f1, s2, f2, rfl, ho, hr2, hap, hb4⟩; have HO := hide ho; have HR := hide hr2; have HAP := hide hap; have HB4 := hide hb4; clear ho hr2 hap hb4)
        clear hcall y0 y1 y2 y3 y4 y5 y6
        obtain ⟨_, _, ev, hO1⟩ := Own.of_owns (unhide HO) hs3
        cases ev
        have hz6 := (unhide D6).lt
        have hz4 := (unhide HB4).size
        have hz3 := (unhide hB3).size
        have E4 := hide (((unhide D4).below (Nat.le_refl _) (unhide HB4)).alloc (.cells #[.bool d, .slice s1 m1 f1, .slice s2 m2 f2] 26))
        have E5 := hide (((unhide D5).below (Nat.le_refl _) (unhide HB4)).alloc (.cells #[.bool d, .slice s1 m1 f1, .slice s2 m2 f2] 26))
        have E6 := hide (((unhide D6).below (Nat.le_refl _) (unhide HB4)).alloc (.cells #[.bool d, .slice s1 m1 f1, .slice s2 m2 f2] 26))
        have E7 := hide (Box.new w4 d (.slice s1 m1 f1) (.slice s2 m2 f2))
        have HS1 : Hid (Own (w4.alloc (.cells #[.bool d, .slice s1 m1 f1, .slice s2 m2 f2] 26)) (w.heap.size + 3) s1 m1 sh') := (hO1.mono (by omega)).alloc _
        have HS2 : Hid (Own (w4.alloc (.cells #[.bool d, .slice s1 m1 f1, .slice s2 m2 f2] 26)) (w.heap.size + 3) s2 m2 dt') := ((unhide HR).mono (by omega)).alloc _
        have HAP' : Hid (∀ x, At s1 m1 x → ∀ y, At s2 m2 y → x ≠ y) := fun x hx y hy e => by
          obtain ⟨hne, pa, e1, e2⟩ := hx
          subst e1
          have h1 := unhide HAP y hy
          rcases (unhide HO).2 with ⟨hv, _⟩ | ⟨g, cap, cur, hv, _⟩
          · simp at hv
          · simp at hv
            apply h1
            obtain ⟨e3, _⟩ := hv
            rw [e3] at e2 ⊢
            simp [Value.ownBlock] at e2 ⊢
            omega
        have HW : Hid (Below w.heap.size w (w4.alloc (.cells #[.bool d, .slice s1 m1 f1, .slice s2 m2 f2] 26))) := ((unhide hB3).trans ((unhide HB4).mono hz3)).alloc (by omega) _
        have hp2 : w.heap.size + 2 < w4.heap.size := by omega
        generalize w4.alloc (.cells #[.bool d, .slice s1 m1 f1, .slice s2 m2 f2] 26) = W at *
        have hpl : w4.heap.size < W.heap.size := (unhide E7).lt
        generalize w4.heap.size = p at *
        clear hO1 HO HR HAP D4 D5 D6 hB3 HB4 hz6 hz4 hz3 w4 w3
        obtain ⟨y0, y1, y2, y3, y4, y5, y6⟩ := (unhide E5).all
        obtain ⟨v0, v1, v2, v3, v4, v5, v6⟩ := (unhide E7).all
        obtain ⟨z0, z1, z2, z3, z4, z5, z6⟩ := (unhide E6).all
        by_cases hm1 : m1 = 0
        · have HS : Hid (rotate c d sh dt sh' dt' fl = ⟨d, sh', dt', 0⟩) := rotate_none (unhide HR1) (unhide HR2) (unhide HCC) (.inl (List.length_eq_zero_iff.mp (by rw [unhide hl3]; exact hm1)))
          have g0 : ((m1 : Int) == 0) = true := by simp; omega
          clear hm1
          go_wp2
          refine bodyPost_ret (v := .tuple #[.agg #[.bool d, .slice s1 m1 f1, .slice s2 m2 f2], .int .i64 0]) (by simp [results, Try.results17, go_sem, z0, z1, z2]) rfl ?_
          rw [unhide HS]
          exact ⟨_, _, _, _, _, _, rfl, (unhide HS1).row.sets (unhide E6) _ _ _, (unhide HS2).row.sets (unhide E6) _ _ _, (((unhide HW).setCell (by simp <;> omega) _).setCell (by simp <;> omega) _).setCell (by simp <;> omega) _⟩

        · have g0 : ((m1 : Int) == 0) = false := by simp; omega
          by_cases hm2 : m2 = 0
          · have HS : Hid (rotate c d sh dt sh' dt' fl = ⟨d, sh', dt', 0⟩) := rotate_none (unhide HR1) (unhide HR2) (unhide HCC) (.inr (List.length_eq_zero_iff.mp (by rw [unhide hl4]; exact hm2)))
            have g1 : ((m2 : Int) == 0) = true := by simp; omega
            clear hm1 hm2
            go_wp2
            refine bodyPost_ret (v := .tuple #[.agg #[.bool d, .slice s1 m1 f1, .slice s2 m2 f2], .int .i64 0]) (by simp [results, Try.results17, go_sem, z0, z1, z2]) rfl ?_
            rw [unhide HS]
            exact ⟨_, _, _, _, _, _, rfl, (unhide HS1).row.sets (unhide E6) _ _ _, (unhide HS2).row.sets (unhide E6) _ _ _, (((unhide HW).setCell (by simp <;> omega) _).setCell (by simp <;> omega) _).setCell (by simp <;> omega) _⟩

          · have g1 : ((m2 : Int) == 0) = false := by simp; omega
            have hne : sh' ≠ [] := fun e => hm1 (by rw [← unhide hl3, e]; rfl)
            have hne2 : dt' ≠ [] := fun e => hm2 (by rw [← unhide hl4, e]; rfl)
            obtain ⟨B, n, A, hax, hprod, hBb, hnb, hAb⟩ := axis_is fl (unhide HR2) hne
            rw [unhide hl4] at hprod
            have hn0 : 0 < n := by rcases Nat.eq_zero_or_pos n with h | h; (· subst h; simp at hprod; omega); exact h
            have hk0 := dataOk_bd (unhide HR1) (k := 0) (by rw [unhide hl2]; have := unhide HCC; unfold singleCode at this; rw [unhide hl2] at this; split at this; (· cases this); rename_i h; simp at h; omega)
            have hn2 : n2 = 1 := by have := unhide HCC; unfold singleCode at this; rw [unhide hl2] at this; split at this; (· cases this); rename_i h; simpa using h
            obtain ⟨hm0, hm3⟩ := modOf_pos hn0 (dt.getD 0 0)
            obtain ⟨e, he⟩ : ∃ e : Nat, modOf (n : Int) (dt.getD 0 0) = (e : Int) := ⟨(modOf (n : Int) (dt.getD 0 0)).toNat, by omega⟩
            have hen : e < n := by omega
            have HS : Hid (rotate c d sh dt sh' dt' fl = ⟨d, sh', vals (rotAt n A e dt') m2, 0⟩) := by rw [← unhide hl4]; exact rotate_go (unhide HR1) (unhide HR2) (unhide HCC) hne hne2 n A e hax.l hax.a he
            subst hn2
            obtain ⟨bk, ok, hab, hbk, hck⟩ := (unhide H2).get (by omega : 0 < 1)
            cases hab
            have hckW := ((unhide HW).cell (p := ⟨bk, ok + 0, none⟩) hbk).trans hck
            obtain ⟨kk, hkk⟩ : ∃ k, k = dt.getD 0 0 := ⟨_, rfl⟩
            rw [← hkk] at hckW hk0 he
            have hca := l4Axis_any (some b1) m1 d1 sh' fl W ((unhide K1).below (Nat.le_refl _) (unhide HW)) (shapeIn_of (unhide HR2)).1 (by omega)
            rw [hax.b, hax.l, hax.a] at hca
            have HCM : Hid (∀ wx, Calls Try.prog 51 #[.int .i64 (n : Nat), .int .i64 kk] wx fun e' w' => e' = .returned (.int .i64 (e : Nat)) ∧ w' = wx) := fun wx => by
              have := l4Mod_any (n : Nat) kk wx ⟨by omega, by omega⟩ hk0
              rwa [he] at this
            have HPR := hide hprod
            have hm2' := hm2
            clear hne hne2 hax hprod hm0 hm3 he hkk hk0 hck hm1 hm2
            obtain ⟨x0, x1, x2, x3, x4, x5, x6⟩ := (unhide E4).all
            go_upto_region 10 with (go_at_call 50; refine hca.mono ?_; rintro e' w5 ⟨rfl, hb5⟩; have HB5 := hide hb5; clear hb5)
            clear hca x0 x1 x2 x3 x4 x5 x6
            obtain ⟨x0, x1, x2, x3, x4, x5, x6⟩ := ((unhide E4).below (Nat.le_refl _) (unhide HB5)).all
            have hckr : w5.cell? ⟨bk, ok, none⟩ = some (.int .i64 kk) := ((unhide HB5).cell (p := ⟨bk, ok + 0, none⟩) (Nat.lt_of_lt_of_le hbk (unhide HW).size)).trans hckW
            go_upto_region 11 with (go_at_call 51; refine (unhide HCM _).mono ?_; rintro e' wq ⟨rfl, hw⟩; obtain rfl := hw.symm)
            have F5 := hide ((unhide E5).below (Nat.le_refl _) (unhide HB5))
            have F6 := hide ((unhide E6).below (Nat.le_refl _) (unhide HB5))
            have F7 := hide ((unhide E7).below (Nat.le_refl _) (unhide HB5))
            have HT1 := hide ((unhide HS1).below (Nat.le_refl _) (unhide HB5))
            have HT2 := hide ((unhide HS2).below (Nat.le_refl _) (unhide HB5))
            have HW5 := hide ((unhide HW).trans ((unhide HB5).mono (unhide HW).size))
            clear x0 x1 x2 x3 x4 x5 x6 y0 y1 y2 y3 y4 y5 y6 z0 z1 z2 z3 z4 z5 z6 v0 v1 v2 v3 v4 v5 v6 E4 E5 E6 E7 HS1 HS2 HW HB5 hckW hckr HCM hbk g0 g1 hpl W
            have hm2 : 0 < m2 := by
              have := unhide HPR
              rcases Nat.eq_zero_or_pos m2 with h | h
              · exact absurd h hm2'
              · exact h
            rcases (unhide HT2).at_ with h | ⟨g, off, rfl, hg, hgl, _, _⟩
            · omega
            have hgp : g ≠ p := (unhide HT2).row.notBox (unhide F7) (at_self (by omega))
            obtain ⟨R, hR⟩ : ∃ R, R = vals (rotAt n A e dt') m2 := ⟨_, rfl⟩
            have HRL : Hid (R.length = m2) := by rw [hR, vals_len]; exact rfl
            have HRG : Hid (∀ P i q, P < B → i < n → q < A → R.getD ((P * n + i) * A + q) 0 = dt'.getD ((P * n + (i + e) % n) * A + q) 0) := by
              intro P i q hP hi hq
              have h1 := three_lt hP hi hq
              rw [unhide HPR] at h1
              rw [hR, vals_get _ _ _ h1]
              show dt'.getD (rotFrom n A e _) 0 = _
              rw [rotFrom_at hi hq]
            rw [← hR] at HS
            clear hR
            have HT0 : Hid (RotTo w5 (w.heap.size + 3) g off m2 R dt' 0 w5) := ⟨by simpa using unhide HT2, But.refl _ _⟩
            have HBX : Hid (∀ wx, But (fun k => k = g) w5 wx → Box wx p d (.slice s1 m1 f1) (.slice (some ⟨g, off, none⟩) m2 f2) ∧ Box wx (w.heap.size + 1) d (.slice (some b1) m1 d1) (.slice (some b2) m2 d2)) := fun wx hwx => ⟨(unhide F7).but hwx (fun e => hgp e.symm), (unhide F5).but hwx (by show ¬ (w.heap.size + 1 = g); omega)⟩
            go_wp2_with fail
            go_loopw [14] (fun v wr => ∃ P : Nat, P ≤ B ∧ v = .int .i64 (P : Nat) ∧ Hid (RotTo w5 (w.heap.size + 3) g off m2 R dt' (P * n * A) wr)) (fun v _ => B - (intOf v).toNat)
            case atStart => exact ⟨0, Nat.zero_le _, rfl, by simpa using HT0⟩
            case round =>
              obtain ⟨P, hP, rfl, ht⟩ := hrel
              clear HT0
              by_cases hlt : P < B
              · obtain ⟨wo, hwo⟩ : ∃ x, x = wr := ⟨_, rfl⟩
                subst hwo
                go_wp2_with fail
                go_loopw [15] (fun v wr => ∃ i : Nat, i ≤ n ∧ v = .int .i64 (i : Nat) ∧ Hid (RotTo w5 (w.heap.size + 3) g off m2 R dt' ((P * n + i) * A) wr)) (fun v _ => n - (intOf v).toNat)
                case atStart => exact ⟨0, Nat.zero_le _, rfl, by simpa using ht⟩
                case round =>
                  obtain ⟨i, hi, rfl, ht2⟩ := hrel
                  clear ht wo
                  by_cases hli : i < n
                  · obtain ⟨wo, hwo⟩ : ∃ x, x = wr := ⟨_, rfl⟩
                    subst hwo
                    go_wp2_with fail
                    go_loopw [16] (fun v wr => ∃ q : Nat, q ≤ A ∧ v = .int .i64 (q : Nat) ∧ Hid (RotTo w5 (w.heap.size + 3) g off m2 R dt' ((P * n + i) * A + q) wr)) (fun v _ => A - (intOf v).toNat)
                    case atStart => exact ⟨0, Nat.zero_le _, rfl, by simpa using ht2⟩
                    case round =>
                      obtain ⟨q, hq, rfl, ht3⟩ := hrel
                      clear ht2 wo
                      by_cases hlq : q < A
                      · have hj0 : (i + e) % n < n := Nat.mod_lt _ hn0
                        obtain ⟨v1, hv1⟩ : ∃ v, v = i + e := ⟨_, rfl⟩
                        obtain ⟨v2, hv2⟩ : ∃ v, v = v1 % n := ⟨_, rfl⟩
                        obtain ⟨u1, hu1⟩ : ∃ v, v = P * n := ⟨_, rfl⟩
                        obtain ⟨u2, hu2⟩ : ∃ v, v = u1 + i := ⟨_, rfl⟩
                        obtain ⟨v3, hv3⟩ : ∃ v, v = u1 + v2 := ⟨_, rfl⟩
                        obtain ⟨u3, hu3⟩ : ∃ v, v = u2 * A := ⟨_, rfl⟩
                        obtain ⟨v4, hv4⟩ : ∃ v, v = v3 * A := ⟨_, rfl⟩
                        obtain ⟨T, hT⟩ : ∃ v, v = u3 + q := ⟨_, rfl⟩
                        obtain ⟨J, hJ⟩ : ∃ v, v = v4 + q := ⟨_, rfl⟩
                        have hTe : T = (P * n + i) * A + q := by rw [hT, hu3, hu2, hu1]
                        have hJe : J = (P * n + (i + e) % n) * A + q := by rw [hJ, hv4, hv3, hu1, hv2, hv1]
                        have ht1 : T < m2 := by rw [hTe, ← unhide HPR]; exact three_lt hlt hli hlq
                        have hj1 : J < m2 := by rw [hJe, ← unhide HPR]; exact three_lt hlt hj0 hlq
                        rw [← hTe] at ht3
                        have hu1b : u1 ≤ 100000000 := by rw [hu1]; exact Nat.mul_le_mul (by omega : P ≤ 10000) hnb
                        have hm4 : m2 ≤ 10000 := by have h9 := (shapeIn_of (unhide HR2)).2.1; rw [unhide hl4] at h9; have := (shapeIn_of (unhide HR2)).1.bd; omega
                        have hv2n : v2 < n := by rw [hv2]; exact Nat.mod_lt _ hn0
                        have hw1 : IntKind.i64.wrap ((P : Int) * (n : Int)) = (u1 : Nat) := wrapN (by rw [hu1]; push_cast; rfl) (by omega)
                        have hw2 : IntKind.i64.wrap ((u1 : Int) + (i : Int)) = (u2 : Nat) := wrapN (by rw [hu2]; push_cast; rfl) (by omega)
                        have hw3 : IntKind.i64.wrap ((u2 : Int) * (A : Int)) = (u3 : Nat) := wrapN (by rw [hu3]; push_cast; rfl) (by omega)
                        have hw4 : IntKind.i64.wrap ((u3 : Int) + (q : Int)) = (T : Nat) := wrapN (by rw [hT]; push_cast; rfl) (by omega)
                        have hw5 : IntKind.i64.wrap ((i : Int) + (e : Int)) = (v1 : Nat) := wrapN (by rw [hv1]; push_cast; rfl) (by omega)
                        have hm9 : v1 % n = v2 := hv2.symm
                        have hm10 : ((v1 : Int) % (n : Int)) = (v2 : Int) := by rw [hv2]; rfl
                        have hm11 : Int.tmod (v1 : Int) (n : Int) = (v2 : Int) := by rw [hv2]; rfl
                        have hn1 : ¬ n = 0 := by omega
                        have hw6 : IntKind.i64.wrap ((u1 : Int) + (v2 : Int)) = (v3 : Nat) := wrapN (by rw [hv3]; push_cast; rfl) (by omega)
                        have hw7 : IntKind.i64.wrap ((v3 : Int) * (A : Int)) = (v4 : Nat) := wrapN (by rw [hv4]; push_cast; rfl) (by omega)
                        have hw8 : IntKind.i64.wrap ((v4 : Int) + (q : Int)) = (J : Nat) := wrapN (by rw [hJ]; push_cast; rfl) (by omega)
                        obtain ⟨bb, ob, hab, hbb, hcb⟩ := (unhide K2).get hj1
                        cases hab
                        have hbw : bb < w5.heap.size := Nat.lt_of_lt_of_le hbb (unhide HW5).size
                        have hcb5 := ((unhide HW5).cell (p := ⟨bb, ob + J, none⟩) hbb).trans hcb
                        have hbg : ¬ bb = g := by omega
                        obtain ⟨x, hx⟩ : ∃ x, x = dt'.getD J 0 := ⟨_, rfl⟩
                        rw [← hx] at hcb5
                        have HX : Hid (R.getD T 0 = x) := by
                          show _ = _
                          rw [hx, hTe, hJe]
                          exact unhide HRG P i q hlt hli hlq
                        have HST : Hid (RotTo w5 (w.heap.size + 3) g off m2 R dt' ((P * n + i) * A + (q + 1)) (wr.setCell ⟨g, off + T, none⟩ (.int .i64 x))) := by
                          have := (unhide ht3).step (unhide HRL) (unhide hl4) ht1 (unhide HX)
                          rwa [show T + 1 = (P * n + i) * A + (q + 1) from by rw [hTe, Nat.add_assoc]] at this
                        have hbut := (unhide ht3).but
                        rcases (unhide ht3).own.at_ with h9 | ⟨g9, off9, e9, _, _, hcc, hff⟩
                        · omega
                        cases e9
                        have hct := hcc T ht1
                        have hft := hff T ht1
                        have hlJ : (J : Int) < (m2 : Int) := by omega
                        have hlT : (T : Int) < (m2 : Int) := by omega
                        clear hcc hff hcb hv2 hu1 hu3 hv4 hx hj0 hv1 hu2 hv3 hT hJ hTe hJe hv2n hu1b
                        obtain ⟨hbp, hb4⟩ := unhide HBX _ hbut
                        obtain ⟨x0, x1, x2, x3, x4, x5, x6⟩ := hbp.all
                        obtain ⟨y0, y1, y2, y3, y4, y5, y6⟩ := hb4.all
                        clear hbp hb4
                        go_upto_region 20 with fail
                        have HKEEP : ∀ wx, But (fun k => k = g) w5 wx → But (fun k => k = g) w5 wx ∧ wx.cell? ⟨p, 2, none⟩ = some (.slice (some ⟨g, off, none⟩) m2 f2) ∧ wx.cell? ⟨w.heap.size + 1, 2, none⟩ = some (.slice (some ⟨bb, ob, none⟩) m2 d2) ∧ wx.cell? ⟨bb, ob + J, none⟩ = some (.int .i64 x) := fun wx hwx => ⟨hwx, (unhide HBX _ hwx).1.cells.2.2, (unhide HBX _ hwx).2.cells.2.2, (hwx.cellAt hbw hbg).trans hcb5⟩
                        go_region_held3 (fun wx => But (fun k => k = g) w5 wx ∧ wx.cell? ⟨p, 2, none⟩ = some (.slice (some ⟨g, off, none⟩) m2 f2) ∧ wx.cell? ⟨w.heap.size + 1, 2, none⟩ = some (.slice (some ⟨bb, ob, none⟩) m2 d2) ∧ wx.cell? ⟨bb, ob + J, none⟩ = some (.int .i64 x)) (first | exact HKEEP _ (hbut.drew.setCell rfl _) | exact HKEEP _ hbut.drew | exact HKEEP _ hbut) (first | fail)
                        all_goals
                          go_wp2_with fail
                          go_roundw
                          case rel => exact ⟨q + 1, by omega, by go_num, by have := unhide HST; exact RotTo.drew this⟩
                          case measure => simp [intOf]; omega
                      · have hqA : q = A := by omega
                        subst hqA
                        go_wp2
                        go_roundw
                        case rel => exact ⟨i + 1, by omega, by go_num, by have := unhide ht3; rwa [show (P * n + (i + 1)) * q = (P * n + i) * q + q from by rw [← Nat.add_assoc, Nat.add_mul, Nat.one_mul]]⟩
                        case measure => simp [intOf]; omega
                  · have hin : i = n := by omega
                    subst hin
                    go_wp2
                    go_roundw
                    case rel => exact ⟨P + 1, by omega, by go_num, by have := unhide ht2; rwa [show (P + 1) * i * A = (P * i + i) * A from by rw [Nat.add_mul, Nat.one_mul]]⟩
                    case measure => simp [intOf]; omega
              · have hPB : P = B := by omega
                subst hPB
                have HE : Hid (R.take (P * n * A) ++ dt'.drop (P * n * A) = R) := by
                  show _ = _
                  rw [unhide HPR, List.take_of_length_le (by rw [unhide HRL]; exact Nat.le_refl _), List.drop_of_length_le (by rw [unhide hl4]; exact Nat.le_refl _), List.append_nil]
                have hbut := (unhide ht).but
                have HO := hide (unhide ht).own
                have HB6 := hide ((unhide F6).but hbut (by show ¬ (w.heap.size + 2 = g); omega))
                have HB7 := hide (unhide HBX _ hbut).1
                have HO1 := hide (hbut.own (unhide HT1) (fun k hk hat => unhide HAP' k hat g (at_self (by omega)) hk))
                have HWr := hide ((unhide HW5).trans (hbut.below (B := w.heap.size) (unhide HW5).size (fun k hk => by omega)))
                obtain ⟨z0, z1, z2, z3, z4, z5, z6⟩ := (unhide HB6).all
                obtain ⟨v0, v1, v2, v3, v4, v5, v6⟩ := (unhide HB7).all
                rw [unhide HE] at HO
                clear ht hbut
                go_wp2
                refine bodyPost_ret (v := .tuple #[.agg #[.bool d, .slice s1 m1 f1, .slice (some ⟨g, off, none⟩) m2 f2], .int .i64 0]) (by simp [results, Try.results17, go_sem, z0, z1, z2]) rfl ?_
                rw [unhide HS]
                exact ⟨_, _, _, _, _, _, rfl, (unhide HO1).row.sets (unhide HB6) _ _ _, (unhide HO).row.sets (unhide HB6) _ _ _, (((unhide HWr).setCell (by simp <;> omega) _).setCell (by simp <;> omega) _).setCell (by simp <;> omega) _⟩
      · have HS : Hid (rotate c d sh dt sh' dt' fl = noAns r) := rotate_code (unhide HR1) (unhide HR2) r (unhide HCC) h0
        have hcb : (r != 0) = true := by simp [h0]
        clear h0
        go_wp2_with fail
        refine (l4None_any _).mono ?_
        rintro e w9 ⟨rfl, hb9⟩
        obtain ⟨q0, q1, q2, q3, q4, q5, q6⟩ := ((unhide D6).below (Nat.le_refl _) hb9).all
        have hB9 := hide ((unhide hB3).trans (hb9.mono (unhide hB3).size))
        clear hb9 D4 D5 D6 hB3
        go_wp2
        refine bodyPost_ret (v := .tuple #[.agg #[.bool false, .slice none 0 0, .slice none 0 0], .int .i64 r]) (by simp [results, Try.results17, go_sem, q0, q1, q2]) rfl ?_
        rw [unhide HS]
        exact ⟨none, 0, 0, none, 0, 0, rfl, row_nil _ _, row_nil _ _, (((unhide hB9).setCell (by simp <;> omega) _).setCell (by simp <;> omega) _).setCell (by simp <;> omega) _⟩

end Go.Proofs.Ytmikkameameebaa
namespace Go.Proofs.Ytmikkameameebaa
open Go.RowKit

set_option maxRecDepth 20000 in
set_option maxHeartbeats 8000000 in
theorem Transpose_any (c d : Bool) (a1 a2 b1 b2 : Addr) (n1 n2 m1 m2 c1 c2 d1 d2 : Nat) (sh dt sh' dt' : List Int) (w : World) (h1 : Row w (some a1) n1 sh) (h2 : Row w (some a2) n2 dt) (k1 : Row w (some b1) m1 sh') (k2 : Row w (some b2) m2 dt') :
    Calls Try.prog 9 #[.agg #[.bool c, .slice (some a1) n1 c1, .slice (some a2) n2 c2], .agg #[.bool d, .slice (some b1) m1 d1, .slice (some b2) m2 d2]] w (GivesRow w (transpose c d sh dt sh' dt')) := by
  have hl1 := hide h1.len
  have hl2 := hide h2.len
  have hl3 := hide k1.len
  have hl4 := hide k2.len
  have hs1 := h1.small
  have hs2 := h2.small
  have hs3 := k1.small
  have hs4 := k2.small
  have H1 := hide h1
  have H2 := hide h2
  have K1 := hide k1
  have K2 := hide k2
  clear h1 h2 k1 k2
  obtain ⟨r1, hr1⟩ : ∃ r, arrOk c sh dt = r := ⟨_, rfl⟩
  obtain ⟨r2, hr2⟩ : ∃ r, arrOk d sh' dt' = r := ⟨_, rfl⟩
  have HR1 := hide hr1
  have HR2 := hide hr2
  clear hr1 hr2
  go_enter Try.func9, Try.ntmps9
  go_wp2_with fail
  refine (ArrayOk_eq _ _ _ _ _ _ _ sh dt _ ((((unhide H1).alloc _).alloc _).alloc _) ((((unhide H2).alloc _).alloc _).alloc _) _ HR1).mono ?_
  rintro e w1 ⟨rfl, hb1⟩
  obtain ⟨B4, B5, B6, hB1⟩ := boxes3 hb1
  have hz1 := B6.lt
  clear hb1
  obtain ⟨x0, x1, x2, x3, x4, x5, x6⟩ := B4.all
  obtain ⟨y0, y1, y2, y3, y4, y5, y6⟩ := B5.all
  cases r1 with
  | false =>
    have HS : Hid (transpose c d sh dt sh' dt' = noAns 3) := transpose_bad1 (unhide HR1)
    go_wp2_with fail
    refine (l4None_any _).mono ?_
    rintro e w9 ⟨rfl, hb9⟩
    obtain ⟨q0, q1, q2, q3, q4, q5, q6⟩ := ((B6).below (Nat.le_refl _) hb9).all
    have hB9 := hide ((hB1).trans (hb9.mono (hB1).size))
    clear hb9 hB1 B4 B5 B6 hz1 x0 x1 x2 x3 x4 x5 x6 y0 y1 y2 y3 y4 y5 y6
    go_wp2
    refine bodyPost_ret (v := .tuple #[.agg #[.bool false, .slice none 0 0, .slice none 0 0], .int .i64 3]) (by simp [results, Try.results9, go_sem, q0, q1, q2]) rfl ?_
    rw [unhide HS]
    exact ⟨none, 0, 0, none, 0, 0, rfl, row_nil _ _, row_nil _ _, (((unhide hB9).setCell (by simp <;> omega) _).setCell (by simp <;> omega) _).setCell (by simp <;> omega) _⟩
  | true =>
    go_wp2_with fail
    refine (ArrayOk_eq _ _ _ _ _ _ _ sh' dt' _ ((unhide K1).below (Nat.le_refl _) hB1) ((unhide K2).below (Nat.le_refl _) hB1) _ HR2).mono ?_
    rintro e w2 ⟨rfl, hb2⟩
    have C4 := hide (B4.below (Nat.le_refl _) hb2)
    have C5 := hide (B5.below (Nat.le_refl _) hb2)
    have C6 := hide (B6.below (Nat.le_refl _) hb2)
    have hB2 := hide (hB1.trans (hb2.mono hB1.size))
    clear hb2 hB1 B4 B5 B6 hz1 x0 x1 x2 x3 x4 x5 x6 y0 y1 y2 y3 y4 y5 y6 w1
    cases r2 with
    | false =>
      have HS : Hid (transpose c d sh dt sh' dt' = noAns 3) := transpose_bad2 (unhide HR2)
      go_wp2_with fail
      refine (l4None_any _).mono ?_
      rintro e w9 ⟨rfl, hb9⟩
      obtain ⟨q0, q1, q2, q3, q4, q5, q6⟩ := ((unhide C6).below (Nat.le_refl _) hb9).all
      have hB9 := hide ((unhide hB2).trans (hb9.mono (unhide hB2).size))
      clear hb9 C4 C5 C6 hB2
      go_wp2
      refine bodyPost_ret (v := .tuple #[.agg #[.bool false, .slice none 0 0, .slice none 0 0], .int .i64 3]) (by simp [results, Try.results9, go_sem, q0, q1, q2]) rfl ?_
      rw [unhide HS]
      exact ⟨none, 0, 0, none, 0, 0, rfl, row_nil _ _, row_nil _ _, (((unhide hB9).setCell (by simp <;> omega) _).setCell (by simp <;> omega) _).setCell (by simp <;> omega) _⟩
    | true =>
      obtain ⟨x0, x1, x2, x3, x4, x5, x6⟩ := (unhide C4).all
      obtain ⟨y0, y1, y2, y3, y4, y5, y6⟩ := (unhide C5).all
      obtain ⟨r, hr⟩ : ∃ r, listCode c n1 = r := ⟨_, rfl⟩
      have HLC := hide hr
      have HCC : Hid (listCode c sh.length = r) := by rw [unhide hl1]; exact hr
      clear hr
      go_upto_region 4 with (go_at_call 26; refine (l5List_any c _ _ _ _ _ hs1 r HLC).mono ?_; rintro e w3 ⟨rfl, hb3⟩; have HB3 := hide hb3; clear hb3)
      have D4 := hide ((unhide C4).below (Nat.le_refl _) (unhide HB3))
      have D5 := hide ((unhide C5).below (Nat.le_refl _) (unhide HB3))
      have D6 := hide ((unhide C6).below (Nat.le_refl _) (unhide HB3))
      have hB3 := hide ((unhide hB2).trans ((unhide HB3).mono (unhide hB2).size))
      clear C4 C5 C6 hB2 HB3 x0 x1 x2 x3 x4 x5 x6 y0 y1 y2 y3 y4 y5 y6 w2
      by_cases h0 : r = 0
      · subst h0
        obtain ⟨x0, x1, x2, x3, x4, x5, x6⟩ := (unhide D4).all
        obtain ⟨y0, y1, y2, y3, y4, y5, y6⟩ := (unhide D5).all
        by_cases hlen : n2 = m1
        · subst hlen
          have hn5 : n2 ≤ 5 := by rw [← unhide hl3]; exact (shapeIn_of (unhide HR2)).2.2
          have hmk := run_make_row' (P := Try.prog) 22 3 (.int .i64 0) 8 Try.underlying22 info_int rfl .i64 .i64 n2 (by omega) (by omega)
          have hmb := run_make_row' (P := Try.prog) 39 4 (.bool false) 1 Try.underlying39 info_boolT rfl .i64 .i64 n2 (by omega) (by omega)
          go_upto_region 9 with fail
          go_cut [8] (fun r wx => LaidT w3 d n2 r wx)
          case first =>
            as_aux_lemma =>
              go_region
              all_goals go_wp2_with fail
              all_goals go_meet
              all_goals case rel =>
                apply laidT_of
                · (repeat (first | with_reducible exact Box.new' (by first | rfl | (simp; done) | (simp <;> omega)) | with_reducible refine Box.sets ?_ | with_reducible refine Box.alloc ?_ _ | with_reducible refine Box.drew ?_))
                · (repeat (first | with_reducible exact Blk.made _ _ _ (by first | rfl | (simp; done) | (simp <;> omega)) | with_reducible exact Blk.new' (by first | rfl | (simp; done) | (simp <;> omega)) | with_reducible refine Blk.alloc ?_ _ | with_reducible refine Blk.drew ?_ | with_reducible refine Blk.other ?_ (by first | omega | (simp <;> omega)) _))
                · (repeat (first | with_reducible exact Blk.made _ _ _ (by first | rfl | (simp; done) | (simp <;> omega)) | with_reducible exact Blk.new' (by first | rfl | (simp; done) | (simp <;> omega)) | with_reducible refine Blk.alloc ?_ _ | with_reducible refine Blk.drew ?_ | with_reducible refine Blk.other ?_ (by first | omega | (simp <;> omega)) _))
                · (repeat (first | with_reducible exact Below.refl _ _ | with_reducible refine Below.drew ?_ | with_reducible refine Below.alloc ?_ (by first | omega | (simp <;> omega)) _ | with_reducible refine Below.setCell ?_ (by first | omega | (simp <;> omega)) _))
                · refine ⟨?_, ?_, ?_, ?_, ?_, ?_⟩ <;> first | omega | (simp; done) | (simp <;> omega)
          case rest =>
            obtain ⟨w4, hw4⟩ : ∃ x, x = wc := ⟨_, rfl⟩
            subst hw4
            obtain ⟨p, gs, g0, rfl, hbx, hks, hk0, hb4, hp, hgs, hg0, hne1, hne2, hne3⟩ := hcut
            have hw34 := hb4.size
            have hz6 := (unhide D6).lt
            have E4 := hide ((unhide D4).below (Nat.le_refl _) hb4)
            have E5 := hide ((unhide D5).below (Nat.le_refl _) hb4)
            have E6 := hide ((unhide D6).below (Nat.le_refl _) hb4)
            have HW4 := hide ((unhide hB3).trans (hb4.mono (unhide hB3).size))
            have HBX := hide hbx
            have HKS := hide hks
            have HK0 := hide hk0
            have hpl := hbx.lt
            have hgsl := hks.lt
            have hg0l := hk0.lt
            clear hbx hks hk0 hb4 x0 x1 x2 x3 x4 x5 x6 y0 y1 y2 y3 y4 y5 y6 D4 D5 D6 hB3
            go_upto_region 11 with fail
            have F4 := hide ((unhide E4).alloc (.cells (madeCells #[.bool false] n2) 4))
            have F5 := hide ((unhide E5).alloc (.cells (madeCells #[.bool false] n2) 4))
            have F6 := hide ((unhide E6).alloc (.cells (madeCells #[.bool false] n2) 4))
            have FBX := hide ((unhide HBX).alloc (.cells (madeCells #[.bool false] n2) 4))
            have FKS := hide ((unhide HKS).alloc (.cells (madeCells #[.bool false] n2) 4))
            have FK0 := hide ((unhide HK0).alloc (.cells (madeCells #[.bool false] n2) 4))
            have FSB := hide (BBlk.made w4 n2 w4.heap.size rfl)
            have FW : Hid (Below w.heap.size w (w4.alloc (.cells (madeCells #[.bool false] n2) 4))) := (unhide HW4).alloc (by have := (unhide HW4).size; omega) _
            have hWz : (w4.alloc (.cells (madeCells #[.bool false] n2) 4)).heap.size = w4.heap.size + 1 := by simp
            generalize w4.alloc (.cells (madeCells #[.bool false] n2) 4) = W at *
            generalize w4.heap.size = gb at *
            generalize w3.heap.size = H at *
            clear E4 E5 E6 HBX HKS HK0 HW4
            go_wp2_with fail
            go_loopw [10] (fun v wr => ∃ i : Nat, i ≤ n2 ∧ v = .int .i64 (i : Nat) ∧ Hid (orderOk dt n2 i = true) ∧ Hid (Blk wr gs (turnN dt sh' n2 i)) ∧ Hid (BBlk wr gb (seenN dt n2 i)) ∧ Hid (Box wr p d (.slice (some ⟨gs, 0, none⟩) n2 n2) (.slice (some ⟨g0, 0, none⟩) 0 0)) ∧ Hid (Blk wr g0 []) ∧ Hid (Below H W wr)) (fun v _ => n2 - (intOf v).toNat)
            case atStart => exact ⟨0, Nat.zero_le _, rfl, rfl, FKS, FSB, FBX, FK0, Below.refl _ _⟩
            case round =>
              obtain ⟨i, hi, rfl, hord, hsh, hse, hbx, hk0, hlow⟩ := hrel
              clear FKS FSB FBX FK0
              have G4 := hide ((unhide F4).low (by omega) (unhide hlow))
              have G5 := hide ((unhide F5).low (by omega) (unhide hlow))
              have G6 := hide ((unhide F6).low (by omega) (unhide hlow))
              have GW := hide ((unhide FW).trans ((unhide hlow).mono (by omega)))
              obtain ⟨x0, x1, x2, x3, x4, x5, x6⟩ := (unhide G4).all
              obtain ⟨y0, y1, y2, y3, y4, y5, y6⟩ := (unhide G5).all
              obtain ⟨v0, v1, v2, v3, v4, v5, v6⟩ := (unhide hbx).all
              by_cases hlt : i < n2
              · obtain ⟨bk, ok, hab, hbk, hck⟩ := (unhide H2).get hlt
                cases hab
                have hckr := ((unhide GW).cell (p := ⟨bk, ok + i, none⟩) hbk).trans hck
                obtain ⟨be, oe, hab, hbe, hce⟩ := (unhide K1).get hlt
                cases hab
                have hcer := ((unhide GW).cell (p := ⟨be, oe + i, none⟩) hbe).trans hce
                have hxb := dataOk_bd (unhide HR1) (k := i) (by rw [unhide hl2]; exact hlt)
                obtain ⟨x, hx⟩ : ∃ x, x = dt.getD i 0 := ⟨_, rfl⟩
                obtain ⟨y, hy⟩ : ∃ y, y = sh'.getD i 0 := ⟨_, rfl⟩
                rw [← hx] at hckr hxb
                rw [← hy] at hcer
                have HX := hide hx
                have HY := hide hy
                clear hx hy hck hce
                by_cases hx0 : x < 1
                · have HS : Hid (transpose c d sh dt sh' dt' = noAns 3) := transpose_dom (unhide HR1) (unhide HR2) (unhide HCC) (by rw [unhide hl2, unhide hl3]) (by rw [unhide hl3]; exact order_bad hlt (by unfold stepOk; rw [← unhide HX, decide_eq_false (by omega)]; rfl))
                  have g0' : x - 1 < 0 := by omega
                  clear hx0
                  go_wp2_with fail
                  refine (l4None_any _).mono ?_
                  rintro e w9 ⟨rfl, hb9⟩
                  obtain ⟨q0, q1, q2, q3, q4, q5, q6⟩ := ((unhide G6).below (Nat.le_refl _) hb9).all
                  have hB9 := hide ((unhide GW).trans (hb9.mono (unhide GW).size))
                  clear hb9 G4 G5 G6 GW x0 x1 x2 x3 x4 x5 x6 y0 y1 y2 y3 y4 y5 y6 v0 v1 v2 v3 v4 v5 v6
                  go_wp2
                  refine bodyPost_ret (v := .tuple #[.agg #[.bool false, .slice none 0 0, .slice none 0 0], .int .i64 3]) (by simp [results, Try.results9, go_sem, q0, q1, q2]) rfl ?_
                  rw [unhide HS]
                  exact ⟨none, 0, 0, none, 0, 0, rfl, row_nil _ _, row_nil _ _, (((unhide hB9).setCell (by simp <;> omega) _).setCell (by simp <;> omega) _).setCell (by simp <;> omega) _⟩
                · by_cases hxn : (n2 : Int) < x
                  · have HS : Hid (transpose c d sh dt sh' dt' = noAns 3) := transpose_dom (unhide HR1) (unhide HR2) (unhide HCC) (by rw [unhide hl2, unhide hl3]) (by rw [unhide hl3]; exact order_bad hlt (by unfold stepOk; rw [← unhide HX, decide_eq_false (by omega)]; rfl))
                    have g0' : (n2 : Int) ≤ x - 1 := by omega
                    have g1' : ¬ (x - 1 < 0) := by omega
                    clear hx0 hxn
                    go_wp2_with fail
                    refine (l4None_any _).mono ?_
                    rintro e w9 ⟨rfl, hb9⟩
                    obtain ⟨q0, q1, q2, q3, q4, q5, q6⟩ := ((unhide G6).below (Nat.le_refl _) hb9).all
                    have hB9 := hide ((unhide GW).trans (hb9.mono (unhide GW).size))
                    clear hb9 G4 G5 G6 GW x0 x1 x2 x3 x4 x5 x6 y0 y1 y2 y3 y4 y5 y6 v0 v1 v2 v3 v4 v5 v6
                    go_wp2
                    refine bodyPost_ret (v := .tuple #[.agg #[.bool false, .slice none 0 0, .slice none 0 0], .int .i64 3]) (by simp [results, Try.results9, go_sem, q0, q1, q2]) rfl ?_
                    rw [unhide HS]
                    exact ⟨none, 0, 0, none, 0, 0, rfl, row_nil _ _, row_nil _ _, (((unhide hB9).setCell (by simp <;> omega) _).setCell (by simp <;> omega) _).setCell (by simp <;> omega) _⟩
                  · obtain ⟨k, hk⟩ : ∃ k : Nat, x = (k : Int) + 1 := ⟨(x - 1).toNat, by omega⟩
                    have hkn : k < n2 := by omega
                    have HAX : Hid (axNo dt i = k) := by show _ = _; unfold axNo; rw [← unhide HX, hk]; omega
                    have hcs := (unhide hse).cell (i := k) (by rw [seenN_len]; exact hkn)
                    have hfs := (unhide hse).free k
                    have hct := (unhide hsh).cell (i := k) (by rw [turnN_len]; exact hkn)
                    have hft := (unhide hsh).free k
                    obtain ⟨sb, hsb⟩ : ∃ b, b = (seenN dt n2 i).getD k false := ⟨_, rfl⟩
                    rw [← hsb] at hcs
                    have HSK : Hid (stepOk dt n2 i = !sb) := by
                      show _ = _
                      unfold stepOk
                      rw [← unhide HX, decide_eq_true (by omega), unhide HAX, hsb]; rfl
                    subst hk
                    have hwk : IntKind.i64.wrap ((k : Int) + 1 - 1) = (k : Int) := by rw [IntKind.wrap_i64]; omega
                    clear hsb hx0 hxn
                    cases sb with
                    | true =>
                      have HS : Hid (transpose c d sh dt sh' dt' = noAns 3) := transpose_dom (unhide HR1) (unhide HR2) (unhide HCC) (by rw [unhide hl2, unhide hl3]) (by rw [unhide hl3]; exact order_bad hlt (unhide HSK))
                      go_wp2_with fail
                      refine (l4None_any _).mono ?_
                      rintro e w9 ⟨rfl, hb9⟩
                      obtain ⟨q0, q1, q2, q3, q4, q5, q6⟩ := ((unhide G6).below (Nat.le_refl _) hb9).all
                      have hB9 := hide ((unhide GW).trans (hb9.mono (unhide GW).size))
                      clear hb9 G4 G5 G6 GW x0 x1 x2 x3 x4 x5 x6 y0 y1 y2 y3 y4 y5 y6 v0 v1 v2 v3 v4 v5 v6
                      go_wp2
                      refine bodyPost_ret (v := .tuple #[.agg #[.bool false, .slice none 0 0, .slice none 0 0], .int .i64 3]) (by simp [results, Try.results9, go_sem, q0, q1, q2]) rfl ?_
                      rw [unhide HS]
                      exact ⟨none, 0, 0, none, 0, 0, rfl, row_nil _ _, row_nil _ _, (((unhide hB9).setCell (by simp <;> omega) _).setCell (by simp <;> omega) _).setCell (by simp <;> omega) _⟩
                    | false =>
                      have HO1 : Hid (orderOk dt n2 (i + 1) = true) := by show (orderOk dt n2 i && stepOk dt n2 i) = true; rw [unhide hord, unhide HSK]; rfl
                      go_upto_region 18 with fail
                      have I4 := hide ((unhide G4).other (q := ⟨gb, k, none⟩) (by show w.heap.size ≠ gb; omega) (.bool true))
                      have I5 := hide ((unhide G5).other (q := ⟨gb, k, none⟩) (by show w.heap.size + 1 ≠ gb; omega) (.bool true))
                      have IBX := hide ((unhide hbx).other (q := ⟨gb, k, none⟩) (by show p ≠ gb; omega) (.bool true))
                      have ISH := hide ((unhide hsh).other (p := ⟨gb, k, none⟩) (by show gs ≠ gb; omega) (.bool true))
                      have IK0 := hide ((unhide hk0).other (p := ⟨gb, k, none⟩) (by show g0 ≠ gb; omega) (.bool true))
                      have ISE := hide ((unhide hse).set k true)
                      have ILW := hide ((unhide hlow).setCell (p := ⟨gb, k, none⟩) (by show H ≤ gb; omega) (.bool true))
                      have IW := hide ((unhide GW).setCell (p := ⟨gb, k, none⟩) (by show w.heap.size ≤ gb; omega) (.bool true))
                      clear x0 x1 x2 x3 x4 x5 x6 y0 y1 y2 y3 y4 y5 y6 v0 v1 v2 v3 v4 v5 v6 hcs hfs hct hft hckr hcer G4 G5 hbx hsh hk0 hse hlow GW G6
                      generalize wr.setCell ⟨gb, k, none⟩ (.bool true) = w7 at *
                      have hbew : be < w7.heap.size := Nat.lt_of_lt_of_le hbe (unhide IW).size
                      have hceY : w7.cell? ⟨be, oe + i, none⟩ = some (.int .i64 y) := by
                        obtain ⟨be', oe', hab', _, hc'⟩ := ((unhide K1).below (Nat.le_refl _) (unhide IW)).get hlt
                        cases hab'
                        rw [hc', unhide HY]
                      have hct := (unhide ISH).cell (i := k) (by rw [turnN_len]; exact hkn)
                      have hft := (unhide ISH).free k
                      obtain ⟨x0, x1, x2, x3, x4, x5, x6⟩ := (unhide I5).all
                      obtain ⟨v0, v1, v2, v3, v4, v5, v6⟩ := (unhide IBX).all
                      have HKEEP : ∀ wx, But (fun k => k = gs) w7 wx → But (fun k => k = gs) w7 wx ∧ wx.cell? ⟨p, 1, none⟩ = some (.slice (some ⟨gs, 0, none⟩) n2 n2) ∧ wx.cell? ⟨w.heap.size + 1, 1, none⟩ = some (.slice (some ⟨be, oe, none⟩) n2 d1) ∧ wx.cell? ⟨be, oe + i, none⟩ = some (.int .i64 y) := fun wx hwx => ⟨hwx, ((unhide IBX).but hwx (fun e => hne2 e.symm)).cells.2.1, ((unhide I5).but hwx (by show ¬ (w.heap.size + 1 = gs); omega)).cells.2.1, (hwx.cellAt hbew (by omega)).trans hceY⟩
                      go_region_held3 (fun wx => But (fun k => k = gs) w7 wx ∧ wx.cell? ⟨p, 1, none⟩ = some (.slice (some ⟨gs, 0, none⟩) n2 n2) ∧ wx.cell? ⟨w.heap.size + 1, 1, none⟩ = some (.slice (some ⟨be, oe, none⟩) n2 d1) ∧ wx.cell? ⟨be, oe + i, none⟩ = some (.int .i64 y)) (first | exact HKEEP _ ((But.refl (fun k => k = gs) w7).setCell (p := ⟨gs, k, none⟩) rfl (.int .i64 y)).drew | exact HKEEP _ (But.refl (fun k => k = gs) w7).drew | exact HKEEP _ (But.refl _ _)) (first | fail)
                      all_goals
                        go_wp2_with fail
                        go_roundw
                        case rel => exact ⟨i + 1, by omega, by go_num, HO1, by show Blk _ _ ((turnN dt sh' n2 i).set (axNo dt i) (sh'.getD i 0)); rw [unhide HAX, ← unhide HY]; exact Blk.set (unhide ISH) k y, BBlk.other (by show BBlk _ _ ((seenN dt n2 i).set (axNo dt i) true); rw [unhide HAX]; exact unhide ISE) (by show gb ≠ gs; omega) _, Box.other (unhide IBX) (fun e => hne2 e.symm) _, Blk.other (unhide IK0) (fun e => hne1 e.symm) _, by first | exact (Below.setCell (unhide ILW) (by show H ≤ gs; omega) _).drew | exact Below.setCell (unhide ILW) (by show H ≤ gs; omega) _⟩
                        case measure => simp [intOf]; omega
              · have hin : i = n2 := by omega
                subst hin
                have HSI := hide (shapeIn_of (unhide HR2)).1
                obtain ⟨ZS, hZS⟩ : ∃ z, z = turnN dt sh' i i := ⟨_, rfl⟩
                have HZL : Hid (ZS.length = i) := by rw [hZS, turnN_len]; exact rfl
                obtain ⟨f, hf⟩ : ∃ f, f = transAt dt sh' dt' := ⟨_, rfl⟩
                have HS : Hid (transpose c d sh dt sh' dt' = ⟨d, ZS, vals f m2, 0⟩) := by
                  rw [hZS, hf, ← unhide hl4]
                  have := transpose_go (unhide HR1) (unhide HR2) (unhide HCC) (by rw [unhide hl2, unhide hl3]) (by rw [unhide hl3]; exact unhide hord)
                  rwa [unhide hl3] at this
                have HFP : Hid (∀ P, (f P).1 = dt'.getD (place sh' (backIx dt (digits ZS (P : Nat)) i)).toNat 0) := by
                  intro P
                  rw [hf, hZS]
                  show dt'.getD (place sh' (backIx dt (digits (turnN dt sh' sh'.length sh'.length) P) sh'.length)).toNat 0 = _
                  rw [unhide hl3]
                have HZLE : Hid (∀ k, ZS.getD k 0 ≤ 10000) := by rw [hZS]; exact turn_le (unhide hord) (fun k => ((unhide HSI).cell k).2)
                have HZF : Hid (0 < m2 → Full ZS) := fun h => by
                  rw [hZS]
                  refine turn_full (unhide hord) (unhide hl3) (full_of (unhide HSI) ?_)
                  rw [(shapeIn_of (unhide HR2)).2.1, unhide hl4]; omega
                have HBI : Hid (∀ D, IxIn ZS D → IxIn sh' (backIx dt D i)) := fun D hD => back_in (unhide hord) (unhide hl3) (by rw [← hZS]; exact hD)
                have HSTP : Hid (∀ j, j < i → axNo dt j < i ∧ dt.getD j 0 = (axNo dt j : Int) + 1) := fun j hj => by
                  have h9 := order_step (unhide hord) hj
                  refine ⟨stepOk_lt h9, ?_⟩
                  unfold stepOk at h9
                  simp only [Bool.and_eq_true, decide_eq_true_eq] at h9
                  unfold axNo
                  omega
                have hm4 : m2 ≤ 10000 := by have h9 := (shapeIn_of (unhide HR2)).2.1; rw [unhide hl4] at h9; have := (unhide HSI).bd; omega
                rw [← hZS] at hsh
                have HST0 := hide (Stg.start f (unhide hbx) (unhide hk0) (unhide GW) (by omega) (by omega))
                have HG0 : Hid (g0 ≠ gs) := fun e => hne1 e.symm
                obtain ⟨i0, hi', hz0, hz1, hz2⟩ := info_parts info_int
                clear hZS hf x0 x1 x2 x3 x4 x5 x6 y0 y1 y2 y3 y4 y5 y6 v0 v1 v2 v3 v4 v5 v6 hbx hk0 hse hlow hmb F4 F5 F6 FW
                obtain ⟨y0, y1, y2, y3, y4, y5, y6⟩ := (unhide G5).all
                go_wp2_with fail
                go_loopw [12] (fun v wr => ∃ P g cap, P ≤ m2 ∧ v = .int .i64 (P : Nat) ∧ Hid (Stg w p d (.slice (some ⟨gs, 0, none⟩) i i) f P wr g cap) ∧ Hid (g ≠ gs) ∧ Hid (Blk wr gs ZS) ∧ Hid (Box wr w.heap.size c (.slice (some a1) n1 c1) (.slice (some a2) i c2)) ∧ Hid (Box wr (w.heap.size + 1) d (.slice (some b1) i d1) (.slice (some b2) m2 d2)) ∧ Hid (Box wr (w.heap.size + 2) false (.slice none 0 0) (.slice none 0 0))) (fun v _ => m2 - (intOf v).toNat)
                case atStart => exact ⟨0, _, 0, Nat.zero_le _, rfl, HST0, HG0, hsh, G4, G5, G6⟩
                case round =>
                  obtain ⟨wo, hwo⟩ : ∃ x, x = wr := ⟨_, rfl⟩
                  subst hwo
                  obtain ⟨P, g, cap, hP, rfl, hst, hgg, hzs, hb4, hb5, hb6⟩ := hrel
                  clear HST0 HG0 hsh G4 G5 G6 GW y0 y1 y2 y3 y4 y5 y6
                  obtain ⟨x0, x1, x2, x3, x4, x5, x6⟩ := (unhide hb4).all
                  obtain ⟨y0, y1, y2, y3, y4, y5, y6⟩ := (unhide hb5).all
                  obtain ⟨v0, v1, v2, v3, v4, v5, v6⟩ := (unhide hst).box.all
                  by_cases hlt2 : P < m2
                  · have HFU := hide (unhide HZF (by omega))
                    obtain ⟨D, hD⟩ : ∃ D, D = digits ZS (P : Nat) := ⟨_, rfl⟩
                    have HDL : Hid (D.length = i) := by rw [hD, digits_len]; exact unhide HZL
                    have HDI : Hid (IxIn ZS D) := by rw [hD]; exact digits_in (unhide HFU) _
                    have hci := l5Index_any (some ⟨gs, 0, none⟩) i i ZS (P : Nat) wo ((unhide hzs).row (unhide HZL) (by omega)) (by omega) (unhide HZLE) (unhide HFU) (by omega) (by omega)
                    rw [← hD] at hci
                    have HFPP : Hid ((f P).1 = dt'.getD (place sh' (backIx dt D i)).toNat 0) := by rw [hD]; exact unhide HFP P
                    clear hD
                    go_upto_region 24 with (go_at_call 27; refine hci.mono ?_; rintro e w2 ⟨rfl, hK2, hb2⟩; have HK2 := hide hK2; have HB2 := hide hb2; clear hK2 hb2)
                    clear hci
                    have hwz := (unhide hst).low.size
                    have hwz2 := (unhide HB2).size
                    have Jb4 := hide (((unhide hb4).below (Nat.le_refl _) (unhide HB2)).alloc (.cells (madeCells #[.int .i64 0] i) 3))
                    have Jb5 := hide (((unhide hb5).below (Nat.le_refl _) (unhide HB2)).alloc (.cells (madeCells #[.int .i64 0] i) 3))
                    have Jb6 := hide (((unhide hb6).below (Nat.le_refl _) (unhide HB2)).alloc (.cells (madeCells #[.int .i64 0] i) 3))
                    have Jzs := hide (((unhide hzs).below (Nat.le_refl _) (unhide HB2)).alloc (.cells (madeCells #[.int .i64 0] i) 3))
                    have Jst := hide ((unhide hst).below ((unhide HB2).alloc hwz2 (.cells (madeCells #[.int .i64 0] i) 3)))
                    have JK := hide ((unhide HK2).alloc (.cells (madeCells #[.int .i64 0] i) 3))
                    have JF := hide (Blk.made w2 i w2.heap.size rfl)
                    have hgt : wo.heap.size < w2.heap.size := (unhide HK2).lt
                    have hl6 := (unhide hb6).lt
                    have hlp := (unhide hst).box.lt
                    have hlz := (unhide hzs).lt
                    have hlg := owns_lt (unhide hst).owns (g := g) rfl
                    have hWs : (w2.alloc (.cells (madeCells #[.int .i64 0] i) 3)).heap.size = w2.heap.size + 1 := by simp
                    generalize w2.alloc (.cells (madeCells #[.int .i64 0] i) 3) = wf at *
                    generalize w2.heap.size = gf at *
                    generalize wo.heap.size = gt at *
                    clear hst hzs hb4 hb5 hb6 HK2 HB2 x0 x1 x2 x3 x4 x5 x6 y0 y1 y2 y3 y4 y5 y6 v0 v1 v2 v3 v4 v5 v6 w2
                    obtain ⟨BI, hBI⟩ : ∃ b, b = backIx dt D i := ⟨_, rfl⟩
                    have HBL : Hid (BI.length = i) := by rw [hBI, backIx_len]; exact rfl
                    have HBG : Hid (∀ j, j < i → BI.getD j 0 = D.getD (axNo dt j) 0) := fun j hj => by rw [hBI, backIx_get _ _ _ _ hj]
                    have HBN : Hid (IxIn sh' BI) := by rw [hBI]; exact unhide HBI D (unhide HDI)
                    rw [← hBI] at HFPP
                    clear hBI
                    go_wp2_with fail
                    go_loopw [15] (fun v wr => ∃ j : Nat, j ≤ i ∧ v = .int .i64 (j : Nat) ∧ Hid (Blk wr gf (BI.take j ++ (List.replicate i 0).drop j)) ∧ Hid (Below gf wf wr)) (fun v _ => i - (intOf v).toNat)
                    case atStart => exact ⟨0, Nat.zero_le _, rfl, by simpa using JF, Below.refl _ _⟩
                    case round =>
                      obtain ⟨j, hj, rfl, hbf, hlf⟩ := hrel
                      clear JF
                      have L4 := hide ((unhide Jb4).low (by omega) (unhide hlf))
                      have HWr := hide ((unhide Jst).low.trans ((unhide hlf).mono (by omega)))
                      obtain ⟨x0, x1, x2, x3, x4, x5, x6⟩ := (unhide L4).all
                      by_cases hlj : j < i
                      · obtain ⟨bk, ok, hab, hbk, hck⟩ := (unhide H2).get hlj
                        cases hab
                        have hckr := ((unhide HWr).cell (p := ⟨bk, ok + j, none⟩) hbk).trans hck
                        obtain ⟨hka, hkx⟩ := unhide HSTP j hlj
                        rw [hkx] at hckr
                        have HGJ := hide (unhide HBG j hlj)
                        obtain ⟨k, hk⟩ : ∃ k, k = axNo dt j := ⟨_, rfl⟩
                        rw [← hk] at hka hckr HGJ
                        have hcd := ((unhide hlf).cell (p := ⟨gt, k, none⟩) hgt).trans ((unhide JK).cell (i := k) (by rw [unhide HDL]; exact hka))
                        have hcf := (unhide hbf).cell (i := j) (by rw [mix_len (by rw [unhide HBL]; simp) (by simp; exact hj)]; simpa using hlj)
                        have hff := (unhide hbf).free j
                        obtain ⟨y, hy⟩ : ∃ y, y = D.getD k 0 := ⟨_, rfl⟩
                        rw [← hy] at hcd HGJ
                        have HNX : Hid (Blk (wr.setCell ⟨gf, j, none⟩ (.int .i64 y)) gf (BI.take (j + 1) ++ (List.replicate i 0).drop (j + 1))) := by
                          have h9 := (unhide hbf).set j y
                          rw [← unhide HGJ, mix_set (by rw [unhide HBL]; simp) (by simpa using hlj)] at h9
                          rwa [unhide HGJ] at h9
                        clear hck hkx hk hy
                        go_wp2
                        go_roundw
                        case rel => exact ⟨j + 1, by omega, by go_num, HNX, (unhide hlf).setCell (by exact Nat.le_refl _) _⟩
                        case measure => simp [intOf]; omega
                      · have hji : j = i := by omega
                        subst hji
                        have HBF : Hid (Blk wr gf BI) := by
                          have := unhide hbf
                          rwa [List.take_of_length_le (by rw [unhide HBL]; exact Nat.le_refl _), List.drop_of_length_le (by simp), List.append_nil] at this
                        have M5 := hide ((unhide Jb5).low (by omega) (unhide hlf))
                        have M6 := hide ((unhide Jb6).low (by omega) (unhide hlf))
                        have MZ : Hid (Blk wr gs ZS) := ((unhide hlf).block gs (by have := (unhide Jzs).lt; omega)).trans (unhide Jzs)
                        have NST : Hid (Stg w p d (.slice (some ⟨gs, 0, none⟩) j j) f P wr g cap) := ⟨(unhide Jst).box.low (by omega) (unhide hlf), owns_lowB (unhide Jst).owns (by omega) (unhide hlf), unhide HWr, (unhide Jst).place⟩
                        have hpb := place_bd (unhide HBN)
                        rw [(shapeIn_of (unhide HR2)).2.1, unhide hl4] at hpb
                        obtain ⟨J, hJ⟩ : ∃ J : Nat, place sh' BI = (J : Int) := ⟨(place sh' BI).toNat, by omega⟩
                        have hJl : J < m2 := by omega
                        obtain ⟨bd, od, hab, hbd, hcd⟩ := (unhide K2).get hJl
                        cases hab
                        have hcdr := ((unhide HWr).cell (p := ⟨bd, od + J, none⟩) hbd).trans hcd
                        have hbdl : bd < wr.heap.size := Nat.lt_of_lt_of_le hbd (unhide HWr).size
                        obtain ⟨x, hx⟩ : ∃ x, x = dt'.getD J 0 := ⟨_, rfl⟩
                        rw [← hx] at hcdr
                        have HFX : Hid ((f P).1 = x) := by rw [unhide HFPP, hJ, hx]; exact rfl
                        have HKK : Hid (∀ wx, Below wr.heap.size wr wx → wx.cell? ⟨p, 2, none⟩ = some (.slice (some ⟨g, 0, none⟩) P cap) ∧ wx.cell? ⟨w.heap.size + 1, 2, none⟩ = some (.slice (some ⟨bd, od, none⟩) m2 d2) ∧ wx.cell? ⟨w.heap.size + 1, 1, none⟩ = some (.slice (some b1) j d1) ∧ wx.cell? ⟨bd, od + J, none⟩ = some (.int .i64 x) ∧ wx.frozen? ⟨p, 2, none⟩ = false) := fun wx hwx => ⟨((unhide NST).box.below (Nat.le_refl _) hwx).cells.2.2, ((unhide M5).below (Nat.le_refl _) hwx).cells.2.2, ((unhide M5).below (Nat.le_refl _) hwx).cells.2.1, (hwx.cell (p := ⟨bd, od + J, none⟩) hbdl).trans hcdr, ((unhide NST).box.below (Nat.le_refl _) hwx).free _⟩
                        have HCC2 : Hid (∀ wx, Below wr.heap.size wr wx → Calls Try.prog 28 #[.slice (some b1) j d1, .slice (some ⟨gf, 0, none⟩) j j] wx fun e w' => e = .returned (.int .i64 (J : Nat)) ∧ Below wx.heap.size wx w') := fun wx hwx => by
                          rw [← hJ]
                          exact l5At_any (some b1) (some ⟨gf, 0, none⟩) j d1 j j sh' BI wx (((unhide K1).below (Nat.le_refl _) (unhide HWr)).below (Nat.le_refl _) hwx) (((unhide HBF).below (Nat.le_refl _) hwx).row (unhide HBL) (by omega)) (Nat.le_refl _) (unhide HSI) (unhide HBN)
                        have HAA : Hid (∀ wx w7, Below wr.heap.size wr wx → (wx.alloc (.cells #[.int .i64 x] 3)).grownBy w7 (some g) → w7.cell? ⟨p, 2, none⟩ = some (.slice (some ⟨g, 0, none⟩) P cap) ∧ w7.cell? ⟨w.heap.size + 1, 2, none⟩ = some (.slice (some ⟨bd, od, none⟩) m2 d2) ∧ w7.cell? ⟨w.heap.size + 1, 1, none⟩ = some (.slice (some b1) j d1) ∧ w7.cell? ⟨bd, od + J, none⟩ = some (.int .i64 x) ∧ w7.frozen? ⟨p, 2, none⟩ = false) := fun wx w7 hwx hg => by
                          have ho := owns_below (unhide NST).owns (Nat.le_refl _) hwx
                          have q1 := ((unhide NST).box.below (Nat.le_refl _) hwx).grown ho _ hg
                          have q2 := ((unhide M5).below (Nat.le_refl _) hwx).grown ho _ hg
                          have hgw : w.heap.size ≤ g := by
                            rcases ho.2 with ⟨hv, _⟩ | ⟨g', cp, cur, hv, hbg, _⟩
                            · simp at hv
                            · simp at hv; omega
                          exact ⟨q1.cells.2.2, q2.cells.2.2, q2.cells.2.1, (grown_cell _ hg (Nat.lt_of_lt_of_le hbdl hwx.size) (by omega)).trans ((hwx.cell (p := ⟨bd, od + J, none⟩) hbdl).trans hcdr), q1.free _⟩
                        clear hpb hJ hcd hx hbf hlf JK Jst Jb4 Jb5 Jb6 Jzs
                        go_upto_region 28 with fail
                        refine regionT _ wr (by simp) p (w.heap.size + 1) rfl rfl (.slice (some ⟨gf, 0, none⟩) j j) rfl g P cap ((vals f P).map (Value.int .i64)) bd od m2 d2 J (some b1) j d1 x w.heap.size hJl (by omega) (fun wx => wx.cell? ⟨p, 2, none⟩ = some (.slice (some ⟨g, 0, none⟩) P cap) ∧ wx.cell? ⟨w.heap.size + 1, 2, none⟩ = some (.slice (some ⟨bd, od, none⟩) m2 d2) ∧ wx.cell? ⟨w.heap.size + 1, 1, none⟩ = some (.slice (some b1) j d1) ∧ wx.cell? ⟨bd, od + J, none⟩ = some (.int .i64 x) ∧ wx.frozen? ⟨p, 2, none⟩ = false) (fun _ h => h) (unhide HKK) (unhide HCC2) (unhide NST).owns (unhide HWr).size (unhide HAA) (fun _ _ _ _ _ h => h) ?_
                        intro wx g' cap' w7 hbx hown7 hgrow hat
                        simp only [outT, Act.put, List.setIfInBounds_toArray, List.set_cons_zero, List.set_cons_succ]
                        have ho := owns_below (unhide NST).owns (Nat.le_refl _) hbx
                        obtain ⟨hb7, hst7⟩ := ((unhide NST).below hbx).push _ (unhide HFX) hown7 hgrow
                        have N4 := (((unhide L4).below (Nat.le_refl _) hbx).grown ho _ hgrow).other (q := ⟨p, 2, none⟩) (by show w.heap.size ≠ p; omega) (.slice (some ⟨g', 0, none⟩) (P + 1) cap')
                        have N5 := (((unhide M5).below (Nat.le_refl _) hbx).grown ho _ hgrow).other (q := ⟨p, 2, none⟩) (by show w.heap.size + 1 ≠ p; omega) (.slice (some ⟨g', 0, none⟩) (P + 1) cap')
                        have N6 := (((unhide M6).below (Nat.le_refl _) hbx).grown ho _ hgrow).other (q := ⟨p, 2, none⟩) (by show w.heap.size + 2 ≠ p; omega) (.slice (some ⟨g', 0, none⟩) (P + 1) cap')
                        have NZ := (((unhide MZ).below (Nat.le_refl _) hbx).grown _ hgrow (fun e => unhide hgg e.symm)).other (p := ⟨p, 2, none⟩) hne2 (.slice (some ⟨g', 0, none⟩) (P + 1) cap')
                        have hgs : g' ≠ gs := by
                          rcases hat with e | e
                          · have e' : g = g' := by simpa [Value.ownBlock] using e
                            rw [← e']; exact unhide hgg
                          · have := ((unhide MZ).below (Nat.le_refl _) hbx).lt; omega
                        clear hb7 hown7 hgrow hat ho hbx
                        go_wp2_with fail
                        go_roundw
                        case rel => exact ⟨P + 1, g', cap', by omega, by go_num, hst7, hgs, NZ, N4, N5, N6⟩
                        case measure => simp [intOf]; omega
                  · have hPN : P = m2 := by omega
                    subst hPN
                    have HLW := hide (unhide hst).low
                    obtain ⟨_, _, hv, hDD⟩ := Own.of_owns (unhide hst).owns (by omega)
                    cases hv
                    have HD := hide hDD
                    obtain ⟨z0, z1, z2, z3, z4, z5, z6⟩ := (unhide hb6).all
                    clear hst hDD
                    go_wp2
                    refine bodyPost_ret (v := .tuple #[.agg #[.bool d, .slice (some ⟨gs, 0, none⟩) i i, .slice (some ⟨g, 0, none⟩) P cap], .int .i64 0]) (by simp [results, Try.results9, go_sem, z0, z1, z2]) rfl ?_
                    rw [unhide HS]
                    exact ⟨_, _, _, _, _, _, rfl, ((unhide hzs).row (unhide HZL) (by omega)).sets (unhide hb6) _ _ _, (unhide HD).row.sets (unhide hb6) _ _ _, (((unhide HLW).setCell (by simp <;> omega) _).setCell (by simp <;> omega) _).setCell (by simp <;> omega) _⟩
        · have HS : Hid (transpose c d sh dt sh' dt' = noAns 5) := transpose_len (unhide HR1) (unhide HR2) (unhide HCC) (by rw [unhide hl2, unhide hl3]; exact hlen)
          have g0 : ((n2 : Int) != (m1 : Int)) = true := by simp; omega
          clear hlen
          go_wp2_with fail
          refine (l4None_any _).mono ?_
          rintro e w9 ⟨rfl, hb9⟩
          obtain ⟨q0, q1, q2, q3, q4, q5, q6⟩ := ((unhide D6).below (Nat.le_refl _) hb9).all
          have hB9 := hide ((unhide hB3).trans (hb9.mono (unhide hB3).size))
          clear hb9 D4 D5 D6 hB3 x0 x1 x2 x3 x4 x5 x6 y0 y1 y2 y3 y4 y5 y6
          go_wp2
          refine bodyPost_ret (v := .tuple #[.agg #[.bool false, .slice none 0 0, .slice none 0 0], .int .i64 5]) (by simp [results, Try.results9, go_sem, q0, q1, q2]) rfl ?_
          rw [unhide HS]
          exact ⟨none, 0, 0, none, 0, 0, rfl, row_nil _ _, row_nil _ _, (((unhide hB9).setCell (by simp <;> omega) _).setCell (by simp <;> omega) _).setCell (by simp <;> omega) _⟩

      · have HS : Hid (transpose c d sh dt sh' dt' = noAns r) := transpose_list (unhide HR1) (unhide HR2) r (unhide HCC) h0
        have hcb : (r != 0) = true := by simp [h0]
        clear h0
        go_wp2_with fail
        refine (l4None_any _).mono ?_
        rintro e w9 ⟨rfl, hb9⟩
        obtain ⟨q0, q1, q2, q3, q4, q5, q6⟩ := ((unhide D6).below (Nat.le_refl _) hb9).all
        have hB9 := hide ((unhide hB3).trans (hb9.mono (unhide hB3).size))
        clear hb9 D4 D5 D6 hB3
        go_wp2
        refine bodyPost_ret (v := .tuple #[.agg #[.bool false, .slice none 0 0, .slice none 0 0], .int .i64 r]) (by simp [results, Try.results9, go_sem, q0, q1, q2]) rfl ?_
        rw [unhide HS]
        exact ⟨none, 0, 0, none, 0, 0, rfl, row_nil _ _, row_nil _ _, (((unhide hB9).setCell (by simp <;> omega) _).setCell (by simp <;> omega) _).setCell (by simp <;> omega) _⟩

end Go.Proofs.Ytmikkameameebaa
namespace Go.Proofs.Ytmikkameameebaa
open Go.RowKit

theorem Transpose_spec : LawTranspose.Spec transpose := fun c d a1 a2 b1 b2 n1 n2 m1 m2 c1 c2 d1 d2 sh dt sh' dt' w h1 h2 k1 k2 _ _ _ _ => Transpose_any c d a1 a2 b1 b2 n1 n2 m1 m2 c1 c2 d1 d2 sh dt sh' dt' w h1 h2 k1 k2

end Go.Proofs.Ytmikkameameebaa
