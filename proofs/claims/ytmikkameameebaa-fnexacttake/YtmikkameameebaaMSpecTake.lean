import Derived.Test.YtmikkameameebaaPlaceMath
import Derived.Test.YtmikkameameebaaSpecInts
import Derived.Deep.QuietTactic
import Derived.BigQuiet
import Derived.Test.YtmikkameameebaaWindowMath
import Derived.Test.YtmikkameameebaaSpecList
import Derived.Test.YtmikkameameebaaSpecLaid
import Derived.Deep.AppendLies
import Derived.Deep.RegionHeld3
import Derived.Deep.DeepCutAuto
import Derived.Test.YtmikkameameebaaCountMath
import Derived.Test.YtmikkameameebaaSpecCopyO
import Derived.Test.YtmikkameameebaaTakeMath
import Derived.Test.YtmikkameameebaaSpecShapeOk
import Derived.Test.YtmikkameameebaaSpecNone
import Derived.Test.YtmikkameameebaaLawA2Take
namespace Go.Proofs.Ytmikkameameebaa
open Go.RowKit

set_option maxHeartbeats 1000000 in
theorem l5Index_any (a1 : Option Addr) (n c1 : Nat) (sh : List Int) (p : Int) (w : World) (h1 : Row w a1 n sh) (hn : n ≤ 10000) (hs : ∀ k, sh.getD k 0 ≤ 10000) (hf : Full sh) (hp : 0 ≤ p) (hp2 : p ≤ 10000) :
    Calls Try.prog 27 #[.slice a1 n c1, .int .i64 p] w fun e w' => e = .returned (.slice (some ⟨w.heap.size, 0, none⟩) n n) ∧ Blk w' w.heap.size (digits sh p) ∧ Below w.heap.size w w' := by
  have hl := hide h1.len
  have H1 := hide h1
  have HS := hide hs
  have HF := hide hf
  have hdl : (digits sh p).length = n := by rw [digits_len]; exact h1.len
  clear h1 hs hf
  obtain ⟨i0, hi, hz0, hz1, hz2⟩ := info_parts info_int
  go_enter Try.func27, Try.ntmps27
  go_wp2_with (at_make; refine wpList_make_full _ rfl _ _ 22 rfl w.heap.size 3 i0 (.int .i64 0) 1 Try.underlying22 hi hz0 hz1 _ _ _ _ n rfl rfl rfl rfl (by rw [hz2]; omega) (by unfold maxLen; omega) (Nat.le_refl _) ?_; intro w1 hown hgrow)
  have hblk : Blk w1 w.heap.size (List.replicate n 0 ++ (digits sh p).drop n) := Blk.of_owns (n := n) (base := w.heap.size) (by simpa [toList_madeCells_one, Value.cells, List.drop_of_length_le (Nat.le_of_eq hdl)] using hown)
  have hbel : Below w.heap.size w w1 := (Below.refl _ _).grown hgrow (Nat.le_refl _) (by simp)
  clear hown hgrow hi hz0 hz1 hz2
  have HBK := hide hblk
  have HBL := hide hbel
  have HDL := hide hdl
  clear hblk hbel hdl
  go_wp2
  go_loopw [1, 6] (fun q i wr => ∃ m : Nat, m ≤ n ∧ i = .int .i64 ((m : Int) - 1) ∧ q = .int .i64 (restN sh p (n - m)) ∧ Hid (Blk wr w.heap.size (List.replicate m 0 ++ (digits sh p).drop m)) ∧ Hid (Below w.heap.size w wr)) (fun _ i _ => (intOf i + 1).toNat)
  case atStart => exact ⟨n, Nat.le_refl _, by go_num, by simp [restN], HBK, HBL⟩
  case round =>
    obtain ⟨m, hm, rfl, rfl, hb, hbl⟩ := hrel
    clear HBK HBL w1
    rcases Nat.eq_zero_or_pos m with h0 | h0
    · subst h0
      go_wp2
      go_ret
      exact ⟨rfl, by simpa using unhide hb, unhide hbl⟩
    · obtain ⟨k, hk⟩ : ∃ k, m = k + 1 := ⟨m - 1, by omega⟩
      subst hk
      have hlt : k < n := by omega
      obtain ⟨b, off, rfl, hblt, hc⟩ := (unhide H1).get hlt
      have hcx := ((unhide hbl).cell (p := ⟨b, off + k, none⟩) hblt).trans hc
      have hsc := unhide HS k
      have hsp := unhide HF k (by rw [unhide hl]; exact hlt)
      have hr := restN_nn (unhide HF) hp (n - (k + 1)) (by rw [unhide hl]; omega)
      have e1 : sh.length - 1 - (n - (k + 1)) = k := by have := unhide hl; omega
      have HR : Hid (restN sh p (n - k) = restN sh p (n - (k + 1)) / sh.getD k 0) := by
        show _ = _
        have e : n - k = n - (k + 1) + 1 := by omega
        rw [e]
        show restN sh p (n - (k + 1)) / sh.getD (sh.length - 1 - (n - (k + 1))) 0 = _
        rw [e1]
      have HD : Hid ((digits sh p).getD k 0 = restN sh p (n - (k + 1)) % sh.getD k 0) := by
        show _ = _
        rw [digits_get sh p k (by rw [unhide hl]; exact hlt)]
        unfold digit
        have e3 : sh.length - 1 - k = n - (k + 1) := by have := unhide hl; omega
        rw [e3]
      obtain ⟨s, hse⟩ : ∃ s, s = sh.getD k 0 := ⟨_, rfl⟩
      obtain ⟨r, hre⟩ : ∃ r, r = restN sh p (n - (k + 1)) := ⟨_, rfl⟩
      rw [← hse] at hcx hsc hsp HR HD
      rw [← hre] at hr HR HD ⊢
      have hbc := (unhide hb).cell (i := k) (by simp; omega)
      have hbf := (unhide hb).free k
      clear hse hre hc e1
      go_wp2
      go_roundw
      case rel => exact ⟨k, by omega, by go_num, by rw [unhide HR], by rw [← drop_set (by rw [unhide HDL]; exact hlt), unhide HD]; exact (unhide hb).set k _, (unhide hbl).setCell (Nat.le_refl _) _⟩
      case measure => simp [intOf]

end Go.Proofs.Ytmikkameameebaa
namespace Go.Proofs.Ytmikkameameebaa
open Go.RowKit

set_option maxHeartbeats 1000000 in
theorem l5At_any (a1 a2 : Option Addr) (n c1 c2 m : Nat) (sh ix : List Int) (w : World) (h1 : Row w a1 n sh) (h2 : Row w a2 m ix) (hm : n ≤ m) (hs : ShapeIn sh) (hi : IxIn sh ix) :
    Calls Try.prog 28 #[.slice a1 n c1, .slice a2 m c2] w fun e w' => e = .returned (.int .i64 (place sh ix)) ∧ Below w.heap.size w w' := by
  have hl := hide h1.len
  have hsm := h1.small
  have hsm2 := h2.small
  have H1 := hide h1
  have H2 := hide h2
  have HS := hide hs
  have HI := hide hi
  clear h1 h2 hs hi
  go_enter Try.func28, Try.ntmps28
  go_wp2
  go_loopw [5, 6] (fun p i wr => ∃ k : Nat, k ≤ n ∧ i = .int .i64 k ∧ p = .int .i64 (placeN sh ix k) ∧ Hid (Below w.heap.size w wr)) (fun _ i _ => n - (intOf i).toNat)
  case atStart => exact ⟨0, Nat.zero_le _, rfl, rfl, Below.refl _ _⟩
  case round =>
    obtain ⟨k, hk, rfl, rfl, hb⟩ := hrel
    by_cases hlt : k < n
    · obtain ⟨b, off, rfl, hblt, hc⟩ := (unhide H1).get hlt
      obtain ⟨b', off', rfl, hblt', hc'⟩ := (unhide H2).get (by omega : k < m)
      have hcx := ((unhide hb).cell (p := ⟨b, off + k, none⟩) hblt).trans hc
      have hcy := ((unhide hb).cell (p := ⟨b', off' + k, none⟩) hblt').trans hc'
      have hlm : k < m := by omega
      have hsc := (unhide HS).cell k
      have hic := unhide HI k (by rw [unhide hl]; exact hlt)
      have hpn := placeN_bd (unhide HI) k (by rw [unhide hl]; omega)
      have hpb := ((unhide HS).take k).bd
      obtain ⟨P, hP⟩ : ∃ P, P = placeN sh ix k := ⟨_, rfl⟩
      obtain ⟨s, hse⟩ : ∃ s, s = sh.getD k 0 := ⟨_, rfl⟩
      obtain ⟨i, hie⟩ : ∃ i, i = ix.getD k 0 := ⟨_, rfl⟩
      rw [← hP] at hpn ⊢
      rw [← hse] at hsc hic hcx
      rw [← hie] at hic hcy
      have hq0 : 0 ≤ P * s := Int.mul_nonneg hpn.1 hsc.1
      have hq1 : P * s ≤ 10000 * 10000 := Int.mul_le_mul (by omega) hsc.2 hsc.1 (by omega)
      have HN : Hid (placeN sh ix (k + 1) = P * s + i) := by rw [hP, hse, hie]; rfl
      obtain ⟨z, hz⟩ : ∃ z, z = P * s := ⟨_, rfl⟩
      rw [← hz] at hq0 hq1
      have HZ := hide hz
      have hw1 : IntKind.i64.wrap (P * s) = z := by rw [IntKind.wrap_i64, ← hz]; omega
      have hw2 : IntKind.i64.wrap (z + i) = z + i := by rw [IntKind.wrap_i64]; omega
      clear hP hse hie hz hpn hpb hc hc'
      go_wp2_with fail
      go_quiet (fail)
      go_wp2_with fail
      go_roundw
      case rel => exact ⟨k + 1, by omega, by go_num, by rw [unhide HN, ← unhide HZ], Below.drewN (unhide hb) nq⟩
      case measure => simp [intOf]; omega
    · have hkn : k = n := by omega
      subst hkn
      go_wp2
      go_ret
      refine ⟨ret_int ?_, unhide hb⟩
      unfold place
      rw [unhide hl]

end Go.Proofs.Ytmikkameameebaa
namespace Go.Proofs.Ytmikkameameebaa
open Go.RowKit

/-- k elements have been gathered into the array in box p. -/
structure Stg (B : World) (p : Nat) (c : Bool) (v1 : Value) (f : Nat → Int × Int) (k : Nat) (wr : World) (g cap : Nat) : Prop where
  box : Box wr p c v1 (.slice (some ⟨g, 0, none⟩) k cap)
  owns : wr.ownsRow B.heap.size 3 1 (.slice (some ⟨g, 0, none⟩) k cap) k ((vals f k).map (Value.int .i64))
  low : Below B.heap.size B wr
  place : B.heap.size ≤ p

theorem Stg.start {B wx : World} {p g : Nat} {c : Bool} {v1 : Value} (f : Nat → Int × Int) (h1 : Box wx p c v1 (.slice (some ⟨g, 0, none⟩) 0 0)) (h2 : Blk wx g []) (h4 : Below B.heap.size B wx) (h7 : B.heap.size ≤ p) (h5 : B.heap.size ≤ g) : Stg B p c v1 f 0 wx g 0 :=
  ⟨h1, h2.owns h5, h4, h7⟩

theorem Stg.below {B wr w5 : World} {p g cap k : Nat} {c : Bool} {v1 : Value} {f : Nat → Int × Int} (h : Stg B p c v1 f k wr g cap) (hb : Below wr.heap.size wr w5) : Stg B p c v1 f k w5 g cap :=
  ⟨h.box.below (Nat.le_refl _) hb, owns_below h.owns (Nat.le_refl _) hb, h.low.trans (hb.mono h.low.size), h.place⟩

theorem Stg.push {B w5 w6 : World} {p g g' cap cap' k : Nat} {c : Bool} {v1 : Value} {f : Nat → Int × Int} {r1 : Int} (o : Obj) (h : Stg B p c v1 f k w5 g cap) (hf : (f k).1 = r1)
    (hown : w6.ownsRow B.heap.size 3 1 (.slice (some ⟨g', 0, none⟩) (k + 1) cap') (k + 1) ((vals f k).map (Value.int .i64) ++ [.int .i64 r1])) (hg : (w5.alloc o).grownBy w6 (Value.ownBlock (.slice (some ⟨g, 0, none⟩) k cap))) :
    Box w6 p c v1 (.slice (some ⟨g, 0, none⟩) k cap) ∧ Stg B p c v1 f (k + 1) (w6.setCell ⟨p, 2, none⟩ (.slice (some ⟨g', 0, none⟩) (k + 1) cap')) g' cap' := by
  have hb6 := h.box.grown h.owns o hg
  have hlow := h.low.trans (below_append o h.owns h.low.size hg)
  refine ⟨hb6, hb6.set2 _, ?_, hlow.setCell h.place _, h.place⟩
  rw [vals_snoc, hf]
  exact owns_box_set hown hb6 _ _

theorem four_boxes (w : World) (c : Bool) (v1 v2 z : Value) :
    let W := (((w.alloc (.cells #[.bool c, v1, v2] 26)).alloc (.cells #[.bool false, .slice none 0 0, .slice none 0 0] 26)).alloc (.cells #[] 3)).alloc (.cells #[.bool c, z, .slice (some ⟨w.heap.size + 1 + 1, 0, none⟩) 0 0] 26)
    Box W w.heap.size c v1 v2 ∧ Box W (w.heap.size + 1) false (.slice none 0 0) (.slice none 0 0) ∧ Blk W (w.heap.size + 1 + 1) [] ∧ Box W (w.heap.size + 1 + 1 + 1) c z (.slice (some ⟨w.heap.size + 1 + 1, 0, none⟩) 0 0) ∧ Below w.heap.size w W := by
  refine ⟨(((Box.new w c v1 v2).alloc _).alloc _).alloc _, ?_, ?_, ?_, ((((Below.refl _ _).alloc (Nat.le_refl _) _).alloc (by simp) _).alloc (by simp <;> omega) _).alloc (by simp <;> omega) _⟩
  · have := ((Box.new (w.alloc (.cells #[.bool c, v1, v2] 26)) false (.slice none 0 0) (.slice none 0 0)).alloc (.cells #[] 3)).alloc (.cells #[.bool c, z, .slice (some ⟨w.heap.size + 1 + 1, 0, none⟩) 0 0] 26)
    simpa using this
  · have := (Blk.new ((w.alloc (.cells #[.bool c, v1, v2] 26)).alloc (.cells #[.bool false, .slice none 0 0, .slice none 0 0] 26))).alloc (.cells #[.bool c, z, .slice (some ⟨w.heap.size + 1 + 1, 0, none⟩) 0 0] 26)
    simpa using this
  · have := Box.new (((w.alloc (.cells #[.bool c, v1, v2] 26)).alloc (.cells #[.bool false, .slice none 0 0, .slice none 0 0] 26)).alloc (.cells #[] 3)) c z (.slice (some ⟨w.heap.size + 1 + 1, 0, none⟩) 0 0)
    simpa using this

theorem Blk.drewN {w : World} {g : Nat} {zs : List Int} (h : Blk w g zs) (n : Nat) : Blk (w.drewN n) g zs := h

set_option maxRecDepth 20000 in
set_option maxHeartbeats 8000000 in
theorem l5Window_any (c : Bool) (a1 a2 s1 z1 : Option Addr) (n n2 m c1 c2 sc zc : Nat) (sh dt st zs : List Int) (w : World) (h1 : Row w a1 n sh) (h2 : Row w a2 n2 dt) (h3 : Row w s1 m st) (h4 : Row w z1 n zs) (hm : n ≤ m) (hok : arrOk c sh dt = true) (hz : shapeB zs = true) (hst : ∀ k, k < n → -1000000000000000 ≤ st.getD k 0 ∧ st.getD k 0 ≤ 1000000000000000) (N : Nat) (hN : countOf zs = (N : Int)) :
    Calls Try.prog 57 #[.agg #[.bool c, .slice a1 n c1, .slice a2 n2 c2], .slice s1 m sc, .slice z1 n zc] w fun e w' => ∃ g k, e = .returned (.agg #[.bool c, .slice z1 n zc, .slice (some ⟨g, 0, none⟩) N k]) ∧ Row w' (some ⟨g, 0, none⟩) N (vals (windowAt c sh dt st zs) N) ∧ Below w.heap.size w w' := by
  have hl1 := hide h1.len
  have hl2 := hide h2.len
  have hl4 := hide h4.len
  have hs1 := h1.small
  have hs2 := h2.small
  have hs3 := h3.small
  have H1 := hide h1
  have H2 := hide h2
  have H3 := hide h3
  have H4 := hide h4
  have HOK := hide hok
  have HZ := hide hz
  have HST := hide hst
  have HN := hide hN
  have hn5 : n ≤ 5 := by rw [← h1.len]; exact (shapeIn_of hok).2.2
  have hN4 : N ≤ 10000 := by have := (shapeB_count hz).2; omega
  obtain ⟨f, hf⟩ : ∃ f, f = windowAt c sh dt st zs := ⟨_, rfl⟩
  have HF := hide hf
  rw [← hf]
  clear h1 h2 h3 h4 hok hz hst hN hf
  obtain ⟨i0, hi, hz0, hz1, hz2⟩ := info_parts info_int
  go_enter Try.func57, Try.ntmps57
  obtain ⟨hB0, hB1, hK0, hP0, hBW⟩ := four_boxes w c (.slice a1 n c1) (.slice a2 n2 c2) (.slice z1 n zc)
  go_upto_region 2 with fail
  generalize (((w.alloc (.cells #[.bool c, .slice a1 n c1, .slice a2 n2 c2] 26)).alloc (.cells #[.bool false, .slice none 0 0, .slice none 0 0] 26)).alloc (.cells #[] 3)).alloc (.cells #[.bool c, .slice z1 n zc, .slice (some ⟨w.heap.size + 1 + 1, 0, none⟩) 0 0] 26) = W at *
  have HST0 := hide (Stg.start f hP0 hK0 hBW (by omega) (by omega))
  have HB0 := hide hB0
  have HB1 := hide hB1
  have HBW := hide hBW
  clear hB0 hB1 hK0 hP0 hBW
  go_wp2_with (go_at_call 39; refine (l3Count_eq _ _ _ zs _ ((unhide H4).below (Nat.le_refl _) (unhide HBW)) _ HN).mono ?_; rintro e wq ⟨rfl, rfl⟩)
  go_loopw [9] (fun i wr => ∃ P g cap, P ≤ N ∧ i = .int .i64 (P : Nat) ∧ Hid (Stg w (w.heap.size + 1 + 1 + 1) c (.slice z1 n zc) f P wr g cap) ∧ Hid (Box wr w.heap.size c (.slice a1 n c1) (.slice a2 n2 c2)) ∧ Hid (Box wr (w.heap.size + 1) false (.slice none 0 0) (.slice none 0 0))) (fun i _ => N - (intOf i).toNat)
  case atStart => exact ⟨0, _, 0, Nat.zero_le _, rfl, HST0, HB0, HB1⟩
  case round =>
    obtain ⟨wo, hwo⟩ : ∃ x, x = wr := ⟨_, rfl⟩
    subst hwo
    obtain ⟨P, g, cap, hP, rfl, hst, hb0, hb1⟩ := hrel
    clear HST0 HB0 HB1 HBW
    by_cases hlt : P < N
    · have HFU : Hid (Full zs) := full_of (shapeB_in (unhide HZ)).1 (by rw [prodAll_count zs (unhide HZ), unhide HN]; omega)
      obtain ⟨D, hD⟩ : ∃ D, D = digits zs (P : Nat) := ⟨_, rfl⟩
      have hDl : D.length = n := by rw [hD, digits_len]; exact unhide hl4
      obtain ⟨AX, hAX⟩ : ∃ A, A = addIx D st := ⟨_, rfl⟩
      have hAl : AX.length = n := by rw [hAX, addIx_len]; exact hDl
      have HFP : Hid (f P = if insideN sh AX sh.length = true then (dt.getD (place sh AX).toNat 0, 0) else (fillOf c, 0)) := by
        rw [unhide HF, hAX, hD]; rfl
      have HDI : Hid (IxIn zs D) := by rw [hD]; exact digits_in (unhide HFU) _
      have HAX := hide hAX
      have HDL := hide hDl
      have HAL := hide hAl
      have HLW := hide (unhide hst).low
      have hwz := (unhide hst).low.size
      clear hAX hDl hAl
      go_wp2_with (go_at_call 27; refine (l5Index_any z1 n zc zs (P : Nat) wo ((unhide H4).below (Nat.le_refl _) (unhide HLW)) (by omega) (fun k => ((shapeB_in (unhide HZ)).1.cell k).2) (unhide HFU) (by omega) (by omega)).mono ?_; rintro e w2 ⟨rfl, hK2, hb2⟩; rw [← hD] at hK2; have HK2 := hide hK2; have HB2 := hide hb2; clear hK2 hb2)
      obtain ⟨q, hq⟩ : ∃ q, wo.heap.size = q := ⟨_, rfl⟩
      rw [hq] at HK2 HB2 ⊢
      go_loopw [11, 12] (fun b i wx => ∃ k : Nat, k ≤ n ∧ i = .int .i64 (k : Nat) ∧ b = .bool (insideN sh AX k) ∧ Hid (Blk wx q (AX.take k ++ D.drop k)) ∧ Hid (Below q wo wx)) (fun _ i _ => n - (intOf i).toNat)
      case atStart => exact ⟨0, Nat.zero_le _, rfl, rfl, by simpa using HK2, HB2⟩
      case round =>
        obtain ⟨k, hk, rfl, rfl, hb, hbl⟩ := hrel
        clear HK2 HB2 w2
        have HLX := hide ((unhide HLW).trans ((unhide hbl).mono (by omega)))
        obtain ⟨x0, x1, x2, x3, x4, x5, x6⟩ := ((unhide hb0).below (by omega) (unhide hbl)).all
        by_cases hlk : k < n
        · have hkm : k < m := by omega
          obtain ⟨bz, oz, rfl, hbz, hcz⟩ := (unhide H3).get hkm
          have hcy := ((unhide HLX).cell (p := ⟨bz, oz + k, none⟩) hbz).trans hcz
          have hcx := (unhide hb).cell (i := k) (by rw [mix_len (by rw [unhide HAL, unhide HDL]) (by rw [unhide HDL]; exact hk), unhide HDL]; exact hlk)
          rw [mix_get (by rw [unhide HAL, unhide HDL]) (by rw [unhide HDL]; exact hlk)] at hcx
          have hfx := (unhide hb).free k
          have hsb := unhide HST k hlk
          have hxi := unhide HDI k (by rw [unhide hl4]; exact hlk)
          have hzc := ((shapeB_in (unhide HZ)).1.cell k).2
          have HAK : Hid (AX.getD k 0 = D.getD k 0 + st.getD k 0) := by rw [unhide HAX, addIx_get _ _ _ (by rw [unhide HDL]; exact hlk)]; exact rfl
          obtain ⟨x, hx⟩ : ∃ x, x = D.getD k 0 := ⟨_, rfl⟩
          obtain ⟨y, hy⟩ : ∃ y, y = st.getD k 0 := ⟨_, rfl⟩
          rw [← hx] at hcx hxi HAK
          rw [← hy] at hcy hsb HAK
          have hwr : IntKind.i64.wrap (x + y) = x + y := by rw [IntKind.wrap_i64]; omega
          clear hcz hx hy
          go_upto_region 11 with fail
          go_cut [] (fun wy => Blk wy q (AX.take (k + 1) ++ D.drop (k + 1)) ∧ Below q wo wy)
          case first =>
            as_aux_lemma =>
              go_region
              all_goals go_wp2_with fail
              all_goals go_meet
              all_goals case rel =>
                refine ⟨?_, ?_⟩
                · rw [← mix_set (by rw [unhide HAL, unhide HDL]) (by rw [unhide HDL]; exact hlk), unhide HAK]
                  exact (unhide hb).drew.set k _
                · repeat (first | exact unhide hbl | refine Below.drew ?_ | refine Below.setCell ?_ (by exact Nat.le_refl _) _)
          case rest =>
            obtain ⟨w3, hw3⟩ : ∃ x, x = wc := ⟨_, rfl⟩
            subst hw3
            obtain ⟨hb', hbl'⟩ := hcut
            have HB' := hide hb'
            have HBL' := hide hbl'
            have HLY := hide ((unhide HLW).trans (hbl'.mono (by omega)))
            obtain ⟨bs, os, rfl, hbs, hcs⟩ := (unhide H1).get hlk
            have hcs' := ((unhide HLY).cell (p := ⟨bs, os + k, none⟩) hbs).trans hcs
            have hcz := hb'.cell (i := k) (by rw [mix_len (by rw [unhide HAL, unhide HDL]) (by rw [unhide HDL]; omega), unhide HDL]; exact hlk)
            have e9 : (AX.take (k + 1) ++ D.drop (k + 1)).getD k 0 = x + y := by rw [← unhide HAK]; exact mix_got (by rw [unhide HAL]; exact hlk)
            rw [e9] at hcz
            obtain ⟨s, hse⟩ : ∃ s, s = sh.getD k 0 := ⟨_, rfl⟩
            rw [← hse] at hcs'
            have HIN : Hid (insideN sh AX (k + 1) = (insideN sh AX k && (decide (0 ≤ x + y) && decide (x + y < s)))) := by rw [← unhide HAK, hse]; exact rfl
            obtain ⟨x0, x1, x2, x3, x4, x5, x6⟩ := ((unhide hb0).below (by omega) hbl').all
            obtain ⟨ib, hib⟩ : ∃ b, b = insideN sh AX k := ⟨_, rfl⟩
            rw [← hib] at HIN ⊢
            obtain ⟨z, hz⟩ : ∃ z, z = x + y := ⟨_, rfl⟩
            rw [← hz] at HIN hcz
            clear hb' hbl' hcs e9 hse hib hcx hcy hfx hwr hz hxi hsb HAK hbz hb hbl HLX
            cases ib with
            | false =>
              go_wp2_with fail
              go_quiet (fail)
              go_wp2_with fail
              go_roundw
              case rel => exact ⟨k + 1, by omega, by go_num, by rw [unhide HIN]; rfl, Blk.drewN (unhide HB') nq, Below.drewN (unhide HBL') nq⟩
              case measure => simp [intOf]; omega
            | true =>
              by_cases hz0 : 0 ≤ z
              · have g1 : decide (0 ≤ z) = true := decide_eq_true hz0
                by_cases hzs : z < s
                · have HIV : Hid (insideN sh AX (k + 1) = true) := by rw [unhide HIN]; show (true && (decide (0 ≤ z) && decide (z < s))) = true; rw [decide_eq_true hz0, decide_eq_true hzs]; rfl
                  go_wp2_with fail
                  go_quiet (fail)
                  go_wp2_with fail
                  go_roundw
                  case rel => exact ⟨k + 1, by omega, by go_num, by rw [unhide HIV], Blk.drewN (unhide HB') nq, Below.drewN (unhide HBL') nq⟩
                  case measure => simp [intOf]; omega
                · have HIV : Hid (insideN sh AX (k + 1) = false) := by rw [unhide HIN]; show (true && (decide (0 ≤ z) && decide (z < s))) = false; rw [decide_eq_true hz0, decide_eq_false hzs]; rfl
                  go_wp2_with fail
                  go_quiet (fail)
                  go_wp2_with fail
                  go_roundw
                  case rel => exact ⟨k + 1, by omega, by go_num, by rw [unhide HIV, decide_eq_false (by omega)], Blk.drewN (unhide HB') nq, Below.drewN (unhide HBL') nq⟩
                  case measure => simp [intOf]; omega
              · have HIV : Hid (insideN sh AX (k + 1) = false) := by rw [unhide HIN]; show (true && (decide (0 ≤ z) && decide (z < s))) = false; rw [decide_eq_false hz0]; rfl
                have g1 : decide (0 ≤ z) = false := decide_eq_false hz0
                have g2 : z < 0 := by omega
                go_wp2_with fail
                go_quiet (fail)
                go_wp2_with fail
                go_roundw
                case rel => exact ⟨k + 1, by omega, by go_num, by rw [unhide HIV], Blk.drewN (unhide HB') nq, Below.drewN (unhide HBL') nq⟩
                case measure => simp [intOf]; omega
        · have hkn : k = n := by omega
          subst hkn
          have HST2 := hide ((unhide hst).below (by rw [hq]; exact unhide hbl))
          have HC0 := hide ((unhide hb0).below (by omega) (unhide hbl))
          have HC1 := hide ((unhide hb1).below (by omega) (unhide hbl))
          have HAB : Hid (Blk wr q AX) := by
            have := unhide hb
            rwa [List.take_of_length_le (by rw [unhide HAL]; exact Nat.le_refl _), List.drop_of_length_le (by rw [unhide HDL]; exact Nat.le_refl _), List.append_nil] at this
          clear hst hb0 hb1 hb hbl HLW
          obtain ⟨ib, hib⟩ : ∃ b, insideN sh AX k = b := ⟨_, rfl⟩
          rw [hib]
          have HIB : Hid (insideN sh AX sh.length = ib) := by rw [unhide hl1]; exact hib
          clear hib
          cases ib with
          | false =>
            obtain ⟨r1, hr1⟩ : ∃ r, r = fillOf c := ⟨_, rfl⟩
            have HR : Hid ((f P).1 = r1) := by rw [unhide HFP, if_neg (by rw [unhide HIB]; simp), hr1]; exact rfl
            have hcall := l3Fill_any c wr
            rw [← hr1] at hcall
            clear hr1
            go_upto_region 16 with (go_at_call 40; refine hcall.mono ?_; rintro e w4 ⟨rfl, hw⟩; obtain rfl := hw.symm)
            clear hcall x0 x1 x2 x3 x4 x5 x6
            have hS := unhide HST2
            have hown := hS.owns
            have hlow := hS.low.size
            obtain ⟨y0, y1, y2, y3, y4, y5, y6⟩ := hS.box.all
            go_wp2_with (at_builtin; refine wpList_append_lies _ rfl _ _ 22 rfl w.heap.size 3 i0 (.int .i64 0) 1 8 Try.underlying22 hi hz0 hz1 hz2 rfl (by decide) _ _ _ rfl (hown.alloc _) ⟨wr.heap.size, 0, none⟩ 1 1 [.int .i64 r1] rfl rfl (cells_new _ _) (one_one _) (by omega) (by unfold maxLen; omega) (by omega) (by simp; omega) (wr.heap.size + 1) (by simp) ?_; intro g' cap' w7 hown' hgrow hat hlt7; obtain ⟨hb7, hst7⟩ := hS.push _ (unhide HR) hown' hgrow; have hc0 := (unhide HC0).grown hown _ hgrow; have hc1 := (unhide HC1).grown hown _ hgrow; obtain ⟨z0', z1', z2', z3', z4', z5', z6'⟩ := hb7.all; clear hgrow hat hown')
            go_roundw
            case rel => exact ⟨P + 1, g', cap', by omega, by go_num, hst7, hc0.other (by simp; omega) _, hc1.other (by simp) _⟩
            case measure => simp [intOf]; omega
          | true =>
            have hin := inside_in (unhide HIB)
            have hpb := place_bd hin
            obtain ⟨hsin, hpl, _⟩ := shapeIn_of (unhide HOK)
            rw [hpl, unhide hl2] at hpb
            obtain ⟨j, hj⟩ : ∃ j : Nat, place sh AX = (j : Int) := ⟨(place sh AX).toNat, by omega⟩
            have hjl : j < n2 := by omega
            obtain ⟨bd, od, rfl, hbd, hcd⟩ := (unhide H2).get hjl
            have hcd' := ((unhide HLX).cell (p := ⟨bd, od + j, none⟩) hbd).trans hcd
            obtain ⟨r1, hr1⟩ : ∃ r, r = dt.getD j 0 := ⟨_, rfl⟩
            rw [← hr1] at hcd'
            have HR : Hid ((f P).1 = r1) := by rw [unhide HFP, if_pos (unhide HIB), hr1, hj]; exact rfl
            have hbdl : bd < wr.heap.size := Nat.lt_of_lt_of_le hbd (unhide HLX).size
            have hcall := l3Fill_any c wr
            have HCA : Hid (∀ wy, Below wr.heap.size wr wy → Calls Try.prog 28 #[.slice a1 k c1, .slice (some ⟨q, 0, none⟩) k k] wy fun e w' => e = .returned (.int .i64 (j : Nat)) ∧ Below wy.heap.size wy w') := by
              intro wy hwy
              rw [← hj]
              exact l5At_any a1 _ k c1 k k sh AX wy (((unhide H1).below (Nat.le_refl _) (unhide HLX)).below (Nat.le_refl _) hwy) (((unhide HAB).below (Nat.le_refl _) hwy).row (unhide HAL) (by omega)) (Nat.le_refl _) hsin hin
            clear hin hpb hsin hpl hj hr1 hcd
            go_upto_region 15 with (go_at_call 40; refine hcall.mono ?_; rintro e w4 ⟨rfl, hw⟩; obtain rfl := hw.symm)
            clear hcall
            go_cut [13] (fun v wy => v = .int .i64 r1 ∧ Below wr.heap.size wr wy)
            case first =>
              as_aux_lemma =>
                have HKEEP : ∀ wy, Below wr.heap.size wr wy → Below wr.heap.size wr wy ∧ wy.cell? ⟨w.heap.size, 1, none⟩ = some (.slice a1 k c1) ∧ wy.cell? ⟨w.heap.size, 2, none⟩ = some (.slice (some ⟨bd, od, none⟩) n2 c2) ∧ wy.cell? ⟨bd, od + j, none⟩ = some (.int .i64 r1) := fun wy hwy => ⟨hwy, ((unhide HC0).below (Nat.le_refl _) hwy).cells.2.1, ((unhide HC0).below (Nat.le_refl _) hwy).cells.2.2, (hwy.cell (p := ⟨bd, od + j, none⟩) hbdl).trans hcd'⟩
                go_region_held3 (fun wy => Below wr.heap.size wr wy ∧ wy.cell? ⟨w.heap.size, 1, none⟩ = some (.slice a1 k c1) ∧ wy.cell? ⟨w.heap.size, 2, none⟩ = some (.slice (some ⟨bd, od, none⟩) n2 c2) ∧ wy.cell? ⟨bd, od + j, none⟩ = some (.int .i64 r1)) (first | exact HKEEP _ hKA | exact HKEEP _ (Below.refl _ _).drew | exact HKEEP _ (Below.refl _ _)) (first | (go_at_call 28; refine (unhide HCA _ (by exact (Below.refl _ _).drew)).mono ?_; rintro e wA ⟨rfl, hbA⟩; have hKA : Below wr.heap.size wr wA := (Below.refl _ _).drew.trans (hbA.mono (by simp))))
                all_goals go_wp2_with fail
                all_goals go_meet
                all_goals case rel => exact ⟨rfl, hKA⟩
            case rest =>
              obtain ⟨w5, hw5⟩ : ∃ x, x = wc := ⟨_, rfl⟩
              subst hw5
              obtain ⟨rfl, hb5⟩ := hcut
              have HST3 := hide ((unhide HST2).below hb5)
              have HD0 := hide ((unhide HC0).below (Nat.le_refl _) hb5)
              have HD1 := hide ((unhide HC1).below (Nat.le_refl _) hb5)
              clear hb5 HCA HST2 HC0 HC1 HAB x0 x1 x2 x3 x4 x5 x6 hcd'
              have hS := unhide HST3
              have hown := hS.owns
              have hlow := hS.low.size
              obtain ⟨y0, y1, y2, y3, y4, y5, y6⟩ := hS.box.all
              go_wp2_with (at_builtin; refine wpList_append_lies _ rfl _ _ 22 rfl w.heap.size 3 i0 (.int .i64 0) 1 8 Try.underlying22 hi hz0 hz1 hz2 rfl (by decide) _ _ _ rfl (hown.alloc _) ⟨w5.heap.size, 0, none⟩ 1 1 [.int .i64 r1] rfl rfl (cells_new _ _) (one_one _) (by omega) (by unfold maxLen; omega) (by omega) (by simp; omega) (w5.heap.size + 1) (by simp) ?_; intro g' cap' w7 hown' hgrow hat hlt7; obtain ⟨hb7, hst7⟩ := hS.push _ (unhide HR) hown' hgrow; have hc0 := (unhide HD0).grown hown _ hgrow; have hc1 := (unhide HD1).grown hown _ hgrow; obtain ⟨z0', z1', z2', z3', z4', z5', z6'⟩ := hb7.all; clear hgrow hat hown')
              go_roundw
              case rel => exact ⟨P + 1, g', cap', by omega, by go_num, hst7, hc0.other (by simp; omega) _, hc1.other (by simp) _⟩
              case measure => simp [intOf]; omega
    · have hPN : P = N := by omega
      subst hPN
      obtain ⟨x0, x1, x2, x3, x4, x5, x6⟩ := (unhide hb1).all
      obtain ⟨y0, y1, y2, y3, y4, y5, y6⟩ := (unhide hst).box.all
      have HLW := hide (unhide hst).low
      obtain ⟨ad', cd, hv, hD⟩ := Own.of_owns (unhide hst).owns (by omega)
      cases hv
      have HD := hide hD
      have HBB := hide (unhide hb1)
      clear hst hb0 hb1 hD
      go_wp2
      refine bodyPost_ret (v := .agg #[.bool c, .slice z1 n zc, .slice (some ⟨g, 0, none⟩) P cap]) (by simp [results, Try.results57, go_sem, x0, x1, x2]) rfl ?_
      exact ⟨g, cap, rfl, (unhide HD).row.sets (unhide HBB) _ _ _, (((unhide HLW).setCell (by simp) _).setCell (by simp) _).setCell (by simp) _⟩

end Go.Proofs.Ytmikkameameebaa
namespace Go.Proofs.Ytmikkameameebaa
open Go.RowKit

theorem Box.set1 {w : World} {p : Nat} {c : Bool} {v1 v2 : Value} (h : Box w p c v1 v2) (v : Value) : Box (w.setCell ⟨p, 1, none⟩ v) p c v v2 := by
  unfold Box at h ⊢
  rw [heap_setCell_same w p 1 _ _ _ h]
  simp

/-- What l5Counted gives. -/
def GivesCounted (w : World) (d : Bool) (r : Int) (n2 m2 : Nat) (zs dt : List Int) (e : Ending) (w' : World) : Prop :=
  (∃ e1 l1 f1 e2 l2 f2, e = .returned (.tuple #[.agg #[.bool d, .slice e1 l1 f1, .slice e2 l2 f2], .int .i64 r]) ∧ (r = 0 → l1 = n2 ∧ l2 = m2 ∧ Row w' e1 n2 zs ∧ Row w' e2 m2 dt)) ∧ Below w.heap.size w w'

set_option maxRecDepth 20000 in
set_option maxHeartbeats 4000000 in
theorem l5Counted_any (c d : Bool) (a1 a2 b1 b2 : Addr) (n1 n2 m1 m2 c1 c2 d1 d2 : Nat) (sh dt sh' dt' : List Int) (w : World) (h1 : Row w (some a1) n1 sh) (h2 : Row w (some a2) n2 dt) (k1 : Row w (some b1) m1 sh') (k2 : Row w (some b2) m2 dt') (r : Int) (hr : countedCode c n1 n2 m1 = r) :
    Calls Try.prog 55 #[.agg #[.bool c, .slice (some a1) n1 c1, .slice (some a2) n2 c2], .agg #[.bool d, .slice (some b1) m1 d1, .slice (some b2) m2 d2]] w (GivesCounted w d r n2 m2 (countedSh n2 sh') dt') := by
  have hl3 := hide k1.len
  have hs1 := h1.small
  have hs2 := h2.small
  have hs3 := k1.small
  have K1 := hide k1
  have K2 := hide k2
  have HRR := hide hr
  clear h1 h2 k1 k2 hr
  obtain ⟨q, hq⟩ : ∃ q, listCode c n1 = q := ⟨_, rfl⟩
  have HQ := hide hq
  clear hq
  go_enter Try.func55, Try.ntmps55
  go_wp2_with fail
  refine (l5List_any c _ _ _ _ _ hs1 q HQ).mono ?_
  rintro e w1 ⟨rfl, hb1⟩
  obtain ⟨B4, B5, B6, hB1⟩ := boxes3 hb1
  have C4 := hide B4
  have C5 := hide B5
  have C6 := hide B6
  have HW1 := hide hB1
  obtain ⟨x0, x1, x2, x3, x4, x5, x6⟩ := B4.all
  obtain ⟨y0, y1, y2, y3, y4, y5, y6⟩ := B5.all
  obtain ⟨z0, z1, z2, z3, z4, z5, z6⟩ := B6.all
  clear hb1 B4 B5 B6 hB1
  by_cases h0 : q = 0
  · subst h0
    have HG := hide ((unhide HRR).symm.trans (counted_go (n2 := n2) (m1 := m1) (unhide HQ)))
    have hcall := l3Copy_owns d b1 b2 m1 m2 d1 d2 sh' dt' w1 ((unhide K1).below (Nat.le_refl _) (unhide HW1)) ((unhide K2).below (Nat.le_refl _) (unhide HW1))
    go_upto_region 5 with (go_at_call 49; refine hcall.mono ?_; rintro e w2 ⟨s1, f1, s2, f2, rfl, ho, hr2, hap, hb2⟩; have HO := hide ho; have HAP := hide hap; have HR2 := hide hr2; have HB2 := hide hb2; clear ho hr2 hap hb2)
    have D4 := hide (((unhide C4).below (Nat.le_refl _) (unhide HB2)).alloc (.cells #[.bool d, .slice s1 m1 f1, .slice s2 m2 f2] 26))
    have D5 := hide (((unhide C5).below (Nat.le_refl _) (unhide HB2)).alloc (.cells #[.bool d, .slice s1 m1 f1, .slice s2 m2 f2] 26))
    have D6 := hide (((unhide C6).below (Nat.le_refl _) (unhide HB2)).alloc (.cells #[.bool d, .slice s1 m1 f1, .slice s2 m2 f2] 26))
    have D7 := hide (Box.new w2 d (.slice s1 m1 f1) (.slice s2 m2 f2))
    have HO3 := hide (owns_below (owns_mono (base' := w.heap.size + 3) (unhide HO) (by have := (unhide C6).lt; omega)) (Nat.le_refl _) ((Below.refl w2.heap.size w2).alloc (Nat.le_refl _) (.cells #[.bool d, .slice s1 m1 f1, .slice s2 m2 f2] 26)))
    have HR3 := hide ((unhide HR2).alloc (.cells #[.bool d, .slice s1 m1 f1, .slice s2 m2 f2] 26))
    have hw12 := (unhide HB2).size
    have hww := (unhide HW1).size
    have hz6 := (unhide C6).lt
    have HW3 := hide (((unhide HW1).trans ((unhide HB2).mono hww)).alloc (by omega) (.cells #[.bool d, .slice s1 m1 f1, .slice s2 m2 f2] 26))
    have hp2 : w.heap.size + 2 < w2.heap.size := by omega
    generalize w2.alloc (.cells #[.bool d, .slice s1 m1 f1, .slice s2 m2 f2] 26) = W at *
    generalize w2.heap.size = p at *
    clear x0 x1 x2 x3 x4 x5 x6 y0 y1 y2 y3 y4 y5 y6 z0 z1 z2 z3 z4 z5 z6 C4 C5 C6 HO HR2 HB2 hcall HW1
    obtain ⟨x0, x1, x2, x3, x4, x5, x6⟩ := (unhide D4).all
    obtain ⟨y0, y1, y2, y3, y4, y5, y6⟩ := (unhide D5).all
    by_cases hm : m1 = 0
    · subst hm
      rw [if_pos rfl] at HG
      have hnil : sh' = [] := List.length_eq_zero_iff.mp (unhide hl3)
      have HE : Hid (countedSh n2 sh' = List.replicate n2 1) := by show _ = _; unfold countedSh; rw [if_pos hnil]
      have HO4 : Hid (W.ownsRow (w.heap.size + 3) 3 1 (.slice s1 0 f1) 0 ((List.replicate 0 (1 : Int)).map (Value.int .i64))) := by have := unhide HO3; rw [hnil] at this; exact this
      have hWs : w.heap.size + 3 ≤ W.heap.size := by have := (unhide D6).lt; omega
      clear hnil HO3
      obtain ⟨i0, hi, hz0, hz1, hz2⟩ := info_parts info_int
      go_wp2_with fail
      go_loopw [8] (fun i wr => ∃ k v, k ≤ n2 ∧ k ≤ 5 ∧ i = .int .i64 (k : Nat) ∧ Hid (Box wr p d v (.slice s2 m2 f2)) ∧ Hid (wr.ownsRow (w.heap.size + 3) 3 1 v k ((List.replicate k (1 : Int)).map (Value.int .i64))) ∧ Hid (Own wr w1.heap.size s2 m2 dt') ∧ Hid (∀ x, At s2 m2 x → v.ownBlock ≠ some x) ∧ Hid (Below (w.heap.size + 3) W wr)) (fun i _ => n2 - (intOf i).toNat)
      case atStart => exact ⟨0, _, Nat.zero_le _, Nat.zero_le _, rfl, D7, HO4, HR3, HAP, Below.refl _ _⟩
      case round =>
        obtain ⟨k, v, hk, hk5, rfl, hbx, hown, hdat, hap, hlow⟩ := hrel
        clear HO4 HR3 HAP x0 x1 x2 x3 x4 x5 x6 y0 y1 y2 y3 y4 y5 y6
        obtain ⟨sa, sc, rfl⟩ := owns_slice (unhide hown)
        have E4 := hide ((unhide D4).low (by omega) (unhide hlow))
        have E5 := hide ((unhide D5).low (by omega) (unhide hlow))
        have E6 := hide ((unhide D6).low (by omega) (unhide hlow))
        have HWr := hide ((unhide HW3).trans ((unhide hlow).mono (by omega)))
        obtain ⟨x0, x1, x2, x3, x4, x5, x6⟩ := (unhide E4).all
        obtain ⟨y0, y1, y2, y3, y4, y5, y6⟩ := (unhide E5).all
        obtain ⟨z0, z1, z2, z3, z4, z5, z6⟩ := (unhide E6).all
        obtain ⟨v0, v1, v2, v3, v4, v5, v6⟩ := (unhide hbx).all
        by_cases hlt : k < n2
        · by_cases h5 : k = 5
          · subst h5
            rw [if_pos hlt] at HG
            have HG' := hide (unhide HG)
            obtain rfl := unhide HG'
            go_wp2
            refine bodyPost_ret (v := .tuple #[.agg #[.bool d, (.slice (some b1) 0 d1), (.slice (some b2) m2 d2)], .int .i64 7]) (by simp [results, Try.results55, go_sem, z0, z1, z2]) rfl ?_
            refine ⟨⟨_, _, _, _, _, _, rfl, fun h => absurd h (by decide)⟩, (((unhide HWr).setCell (by simp <;> omega) _).setCell (by simp <;> omega) _).setCell (by simp <;> omega) _⟩
          · have hwz := (unhide hlow).size
            have hk4 : k < 5 := by omega
            go_wp2_with (at_builtin; refine wpList_append_lies _ rfl _ _ 22 rfl (w.heap.size + 3) 3 i0 (.int .i64 0) 1 8 Try.underlying22 hi hz0 hz1 hz2 rfl (by decide) _ _ _ rfl (owns_below (unhide hown) (Nat.le_refl _) ((Below.refl _ _).alloc (Nat.le_refl _) _)) ⟨wr.heap.size, 0, none⟩ 1 1 [.int .i64 1] rfl rfl (cells_new _ _) (one_one _) (by omega) (by unfold maxLen; omega) (by omega) (by simp; omega) (wr.heap.size + 1) (by simp) ?_; intro g' cap' w7 hown' hgrow hat hlt7; have hb7 := (unhide hbx).grown (unhide hown) _ hgrow; have hl7 := below_append _ (unhide hown) (by omega) hgrow; have hd7 := (unhide hdat).grownO _ hgrow (unhide hap); obtain ⟨t0, t1, t2, t3, t4, t5, t6⟩ := hb7.all; have hap7 : ∀ x, At s2 m2 x → (Value.slice (some ⟨g', 0, none⟩) (k + 1) cap').ownBlock ≠ some x := (fun x hx e => by have e' : g' = x := (by simpa [Value.ownBlock] using e); have := (unhide hdat).row.hi hx; rcases hat with h | h; exact unhide hap x hx (e' ▸ h); omega); clear hgrow hat)
            go_roundw
            case rel => exact ⟨k + 1, _, by omega, by omega, by go_num, hb7.set1 _, by rw [ones_snoc]; exact owns_box_set hown' hb7 _ _, hd7.other (fun x hx => hd7.row.notBox hb7 hx) _, hap7, ((unhide hlow).trans hl7).setCell (by simp; omega) _⟩
            case measure => simp [intOf]; omega
        · have hkn : k = n2 := by omega
          subst hkn
          rw [if_neg (by omega)] at HG
          have HG' := hide (unhide HG)
          obtain rfl := unhide HG'
          obtain ⟨ad, cp, hv, hown'⟩ := Own.of_owns (unhide hown) hs2
          cases hv
          have HS := hide hown'
          clear hown'
          go_wp2
          refine bodyPost_ret (v := .tuple #[.agg #[.bool d, (.slice sa k sc), (.slice s2 m2 f2)], .int .i64 0]) (by simp [results, Try.results55, go_sem, z0, z1, z2]) rfl ?_
          refine ⟨⟨_, _, _, _, _, _, rfl, fun _ => ⟨rfl, rfl, by rw [unhide HE]; exact (unhide HS).row.sets (unhide E6) _ _ _, (unhide hdat).row.sets (unhide E6) _ _ _⟩⟩, (((unhide HWr).setCell (by simp <;> omega) _).setCell (by simp <;> omega) _).setCell (by simp <;> omega) _⟩
    · obtain ⟨z0, z1, z2, z3, z4, z5, z6⟩ := (unhide D6).all
      obtain ⟨v0, v1, v2, v3, v4, v5, v6⟩ := (unhide D7).all
      have g0 : ((m1 : Int) == 0) = false := by simp; omega
      rw [if_neg hm] at HG
      by_cases hn : n2 = m1
      · subst hn
        rw [if_neg (by simp)] at HG
        have HG' := hide (unhide HG)
        obtain rfl := unhide HG'
        have HE : Hid (countedSh n2 sh' = sh') := by show _ = _; unfold countedSh; rw [if_neg (by intro e; rw [e] at hl3; exact hm (unhide hl3).symm)]
        obtain ⟨ad, cp, hv, hown⟩ := Own.of_owns (unhide HO3) hs2
        cases hv
        have HS := hide hown
        clear hown
        go_wp2
        refine bodyPost_ret (v := .tuple #[.agg #[.bool d, (.slice s1 n2 f1), (.slice s2 m2 f2)], .int .i64 0]) (by simp [results, Try.results55, go_sem, z0, z1, z2]) rfl ?_
        refine ⟨⟨_, _, _, _, _, _, rfl, fun _ => ⟨rfl, rfl, by rw [unhide HE]; exact (unhide HS).row.sets (unhide D6) _ _ _, (unhide HR3).row.sets (unhide D6) _ _ _⟩⟩, (((unhide HW3).setCell (by simp <;> omega) _).setCell (by simp <;> omega) _).setCell (by simp <;> omega) _⟩
      · have g1 : ((n2 : Int) != (m1 : Int)) = true := by simp; omega
        rw [if_pos hn] at HG
        have HG' := hide (unhide HG)
        obtain rfl := unhide HG'
        go_wp2
        refine bodyPost_ret (v := .tuple #[.agg #[.bool d, (.slice (some b1) m1 d1), (.slice (some b2) m2 d2)], .int .i64 5]) (by simp [results, Try.results55, go_sem, z0, z1, z2]) rfl ?_
        refine ⟨⟨_, _, _, _, _, _, rfl, fun h => absurd h (by decide)⟩, (((unhide HW3).setCell (by simp <;> omega) _).setCell (by simp <;> omega) _).setCell (by simp <;> omega) _⟩
  · have g0 : (q != 0) = true := by simp [h0]
    have HG := hide ((unhide HRR).symm.trans (counted_list (n2 := n2) (m1 := m1) (unhide HQ) h0))
    obtain rfl := unhide HG
    have HZ := hide h0
    clear h0
    go_wp2
    refine bodyPost_ret (v := .tuple #[.agg #[.bool d, (.slice (some b1) m1 d1), (.slice (some b2) m2 d2)], .int .i64 r]) (by simp [results, Try.results55, go_sem, z0, z1, z2]) rfl ?_
    refine ⟨⟨_, _, _, _, _, _, rfl, fun h => absurd h (unhide HZ)⟩, (((unhide HW1).setCell (by simp <;> omega) _).setCell (by simp <;> omega) _).setCell (by simp <;> omega) _⟩

end Go.Proofs.Ytmikkameameebaa
namespace Go.Proofs.Ytmikkameameebaa
open Go.RowKit

theorem counted_five {c : Bool} {n1 n2 m1 : Nat} (h : countedCode c n1 n2 m1 = 0) (h5 : m1 ≤ 5) : n2 ≤ 5 := by
  unfold countedCode at h
  split at h
  · rename_i h1; exact absurd h h1
  · split at h
    · split at h
      · cases h
      · omega
    · split at h
      · cases h
      · omega

set_option maxHeartbeats 400000 in
theorem l5Abs_any (x y : Int) (w : World) (hx : -1000000000000000 ≤ x ∧ x ≤ 1000000000000000) (hy : absI x = y) : Calls Try.prog 56 #[.int .i64 x] w fun e w' => e = .returned (.int .i64 y) ∧ w' = w := by
  obtain ⟨h1, h2⟩ := hx
  subst hy
  by_cases h : x < 0
  · have HE : Hid (absI x = -x) := by show _ = _; unfold absI; rw [if_pos h]
    go_enter Try.func56, Try.ntmps56
    go_wp2
    go_ret
    exact ⟨ret_int (by rw [unhide HE]), rfl⟩
  · have HE : Hid (absI x = x) := by show _ = _; unfold absI; rw [if_neg h]
    go_enter Try.func56, Try.ntmps56
    go_wp2
    go_ret
    exact ⟨ret_int (by rw [unhide HE]), rfl⟩

/-- Two slices of the call's own hold the first numbers of two lists. -/
structure Two (W : World) (ST ZS : List Int) (k1 k2 g1 p1 g2 p2 : Nat) (wr : World) : Prop where
  o1 : wr.ownsRow W.heap.size 3 1 (.slice (some ⟨g1, 0, none⟩) k1 p1) k1 ((ST.take k1).map (Value.int .i64))
  o2 : wr.ownsRow W.heap.size 3 1 (.slice (some ⟨g2, 0, none⟩) k2 p2) k2 ((ZS.take k2).map (Value.int .i64))
  ne : g1 ≠ g2
  low : Below W.heap.size W wr

theorem Two.drew {W wr : World} {ST ZS : List Int} {k1 k2 g1 p1 g2 p2 : Nat} (h : Two W ST ZS k1 k2 g1 p1 g2 p2 wr) : Two W ST ZS k1 k2 g1 p1 g2 p2 wr.drew :=
  ⟨owns_below h.o1 (Nat.le_refl _) (Below.refl _ _).drew, owns_below h.o2 (Nat.le_refl _) (Below.refl _ _).drew, h.ne, h.low.drew⟩

theorem Two.start (W : World) (ST ZS : List Int) : Two W ST ZS 0 0 W.heap.size 0 (W.heap.size + 1) 0 ((W.alloc (.cells #[] 3)).alloc (.cells #[] 3)) := by
  refine ⟨?_, ?_, by omega, ((Below.refl _ _).alloc (Nat.le_refl _) _).alloc (by simp) _⟩
  · exact ((Blk.new W).alloc _).owns (Nat.le_refl _)
  · have := Blk.new (W.alloc (.cells #[] 3))
    have h2 : Blk ((W.alloc (.cells #[] 3)).alloc (.cells #[] 3)) (W.heap.size + 1) [] := by simpa using this
    exact h2.owns (by omega)

theorem Two.push1 {W wr w7 : World} {ST ZS : List Int} {k1 k2 g1 p1 g2 p2 g' p' : Nat} {x : Int} (o : Obj) (h : Two W ST ZS k1 k2 g1 p1 g2 p2 wr)
    (hown : w7.ownsRow W.heap.size 3 1 (.slice (some ⟨g', 0, none⟩) (k1 + 1) p') (k1 + 1) ((ST.take k1).map (Value.int .i64) ++ [.int .i64 x])) (hx : ST.getD k1 0 = x) (hk : k1 < ST.length) (hg : (wr.alloc o).grownBy w7 (Value.ownBlock (.slice (some ⟨g1, 0, none⟩) k1 p1))) (hat : Value.ownBlock (.slice (some ⟨g1, 0, none⟩) k1 p1) = some g' ∨ g' = wr.heap.size + 1) :
    Two W ST ZS (k1 + 1) k2 g' p' g2 p2 w7 := by
  have hg1 : (wr.alloc o).grownBy w7 (some g1) := hg
  refine ⟨?_, owns_grown h.o2 o hg1 (fun e => h.ne e.symm) (Nat.le_refl _), ?_, h.low.trans (below_append o h.o1 h.low.size hg)⟩
  · rw [take_snoc ST k1 hk, hx]; simpa using hown
  · rcases hat with e | e
    · have e' : g1 = g' := by simpa [Value.ownBlock] using e
      rw [← e']; exact h.ne
    · have := owns_lt h.o2 (g := g2) rfl; omega

theorem Two.push2 {W wr w7 : World} {ST ZS : List Int} {k1 k2 g1 p1 g2 p2 g' p' : Nat} {x : Int} (o : Obj) (h : Two W ST ZS k1 k2 g1 p1 g2 p2 wr)
    (hown : w7.ownsRow W.heap.size 3 1 (.slice (some ⟨g', 0, none⟩) (k2 + 1) p') (k2 + 1) ((ZS.take k2).map (Value.int .i64) ++ [.int .i64 x])) (hx : ZS.getD k2 0 = x) (hk : k2 < ZS.length) (hg : (wr.alloc o).grownBy w7 (Value.ownBlock (.slice (some ⟨g2, 0, none⟩) k2 p2))) (hat : Value.ownBlock (.slice (some ⟨g2, 0, none⟩) k2 p2) = some g' ∨ g' = wr.heap.size + 1) :
    Two W ST ZS k1 (k2 + 1) g1 p1 g' p' w7 := by
  have hg1 : (wr.alloc o).grownBy w7 (some g2) := hg
  refine ⟨owns_grown h.o1 o hg1 h.ne (Nat.le_refl _), ?_, ?_, h.low.trans (below_append o h.o2 h.low.size hg)⟩
  · rw [take_snoc ZS k2 hk, hx]; simpa using hown
  · rcases hat with e | e
    · have e' : g2 = g' := by simpa [Value.ownBlock] using e
      rw [← e']; exact h.ne
    · have := owns_lt h.o1 (g := g1) rfl; omega

end Go.Proofs.Ytmikkameameebaa
namespace Go.Proofs.Ytmikkameameebaa
open Go.RowKit

set_option maxRecDepth 20000 in
set_option maxHeartbeats 8000000 in
theorem Take_any (c d : Bool) (a1 a2 b1 b2 : Addr) (n1 n2 m1 m2 c1 c2 d1 d2 : Nat) (sh dt sh' dt' : List Int) (w : World) (h1 : Row w (some a1) n1 sh) (h2 : Row w (some a2) n2 dt) (k1 : Row w (some b1) m1 sh') (k2 : Row w (some b2) m2 dt') :
    Calls Try.prog 21 #[.agg #[.bool c, .slice (some a1) n1 c1, .slice (some a2) n2 c2], .agg #[.bool d, .slice (some b1) m1 d1, .slice (some b2) m2 d2]] w (GivesRow w (take c d sh dt sh' dt')) := by
  have hl1 := hide h1.len
  have hl2 := hide h2.len
  have hl3 := hide k1.len
  have hs2 := h2.small
  have hs4 := k2.small
  have H1 := hide h1
  have H2 := hide h2
  have K1 := hide k1
  have K2 := hide k2
  clear h1 h2 k1 k2
  obtain ⟨r1, hr1⟩ : ∃ r, arrOk c sh dt = r := ⟨_, rfl⟩
  obtain ⟨r2, hr2⟩ : ∃ r, arrOk d sh' dt' = r := ⟨_, rfl⟩
  have HR1 := hide hr1
  have HR2 := hide hr2
  clear hr1 hr2
  go_enter Try.func21, Try.ntmps21
  go_wp2_with fail
  refine (ArrayOk_eq _ _ _ _ _ _ _ sh dt _ ((((unhide H1).alloc _).alloc _).alloc _) ((((unhide H2).alloc _).alloc _).alloc _) _ HR1).mono ?_
  rintro e w1 ⟨rfl, hb1⟩
  obtain ⟨B4, B5, B6, hB1⟩ := boxes3 hb1
  have hz1 := B6.lt
  clear hb1
  obtain ⟨x0, x1, x2, x3, x4, x5, x6⟩ := B4.all
  obtain ⟨y0, y1, y2, y3, y4, y5, y6⟩ := B5.all
  cases r1 with
  | false =>
    have HS : Hid (take c d sh dt sh' dt' = noAns 3) := window_bad1 (unhide HR1)
    go_wp2_with fail
    refine (l4None_any _).mono ?_
    rintro e w9 ⟨rfl, hb9⟩
    obtain ⟨q0, q1, q2, q3, q4, q5, q6⟩ := ((B6).below (Nat.le_refl _) hb9).all
    have hB9 := hide ((hB1).trans (hb9.mono (hB1).size))
    clear hb9 hB1 B4 B5 B6 hz1 x0 x1 x2 x3 x4 x5 x6 y0 y1 y2 y3 y4 y5 y6
    go_wp2
    refine bodyPost_ret (v := .tuple #[.agg #[.bool false, .slice none 0 0, .slice none 0 0], .int .i64 3]) (by simp [results, Try.results21, go_sem, q0, q1, q2]) rfl ?_
    rw [unhide HS]
    exact ⟨none, 0, 0, none, 0, 0, rfl, row_nil _ _, row_nil _ _, (((unhide hB9).setCell (by simp <;> omega) _).setCell (by simp <;> omega) _).setCell (by simp <;> omega) _⟩
  | true =>
    go_wp2_with fail
    refine (ArrayOk_eq _ _ _ _ _ _ _ sh' dt' _ ((unhide K1).below (Nat.le_refl _) hB1) ((unhide K2).below (Nat.le_refl _) hB1) _ HR2).mono ?_
    rintro e w2 ⟨rfl, hb2⟩
    have C4 := hide (B4.below (Nat.le_refl _) hb2)
    have C5 := hide (B5.below (Nat.le_refl _) hb2)
    have C6 := hide (B6.below (Nat.le_refl _) hb2)
    have hB2 := hide (hB1.trans (hb2.mono hB1.size))
    clear hb2 hB1 B4 B5 B6 hz1 x0 x1 x2 x3 x4 x5 x6 y0 y1 y2 y3 y4 y5 y6 w1
    cases r2 with
    | false =>
      have HS : Hid (take c d sh dt sh' dt' = noAns 3) := window_bad2 (unhide HR2)
      go_wp2_with fail
      refine (l4None_any _).mono ?_
      rintro e w9 ⟨rfl, hb9⟩
      obtain ⟨q0, q1, q2, q3, q4, q5, q6⟩ := ((unhide C6).below (Nat.le_refl _) hb9).all
      have hB9 := hide ((unhide hB2).trans (hb9.mono (unhide hB2).size))
      clear hb9 C4 C5 C6 hB2
      go_wp2
      refine bodyPost_ret (v := .tuple #[.agg #[.bool false, .slice none 0 0, .slice none 0 0], .int .i64 3]) (by simp [results, Try.results21, go_sem, q0, q1, q2]) rfl ?_
      rw [unhide HS]
      exact ⟨none, 0, 0, none, 0, 0, rfl, row_nil _ _, row_nil _ _, (((unhide hB9).setCell (by simp <;> omega) _).setCell (by simp <;> omega) _).setCell (by simp <;> omega) _⟩
    | true =>
      obtain ⟨r, hr⟩ : ∃ r, countedCode c n1 n2 m1 = r := ⟨_, rfl⟩
      have hcall := l5Counted_any c d a1 a2 b1 b2 n1 n2 m1 m2 c1 c2 d1 d2 sh dt sh' dt' w2 ((unhide H1).below (Nat.le_refl _) (unhide hB2)) ((unhide H2).below (Nat.le_refl _) (unhide hB2)) ((unhide K1).below (Nat.le_refl _) (unhide hB2)) ((unhide K2).below (Nat.le_refl _) (unhide hB2)) r hr
      have HCC : Hid (countedCode c sh.length dt.length sh'.length = r) := by rw [unhide hl1, unhide hl2, unhide hl3]; exact hr
      have HN5 : Hid (r = 0 → n2 ≤ 5) := fun e => counted_five (hr.trans e) (by rw [← unhide hl3]; exact (shapeIn_of (unhide HR2)).2.2)
      clear hr
      obtain ⟨x0, x1, x2, x3, x4, x5, x6⟩ := (unhide C4).all
      obtain ⟨y0, y1, y2, y3, y4, y5, y6⟩ := (unhide C5).all
      go_upto_region 4 with (go_at_call 55; refine hcall.mono ?_; rintro e w3 ⟨⟨e1, l1, f1, e2, l2, f2, rfl, hz⟩, hb3⟩; have HZ := hide hz; have HB3 := hide hb3; clear hz hb3)
      clear hcall x0 x1 x2 x3 x4 x5 x6 y0 y1 y2 y3 y4 y5 y6
      have D4 := hide (((unhide C4).below (Nat.le_refl _) (unhide HB3)).alloc (.cells #[.bool d, .slice e1 l1 f1, .slice e2 l2 f2] 26))
      have D6 := hide (((unhide C6).below (Nat.le_refl _) (unhide HB3)).alloc (.cells #[.bool d, .slice e1 l1 f1, .slice e2 l2 f2] 26))
      have D7 := hide (Box.new w3 d (.slice e1 l1 f1) (.slice e2 l2 f2))
      have hww := (unhide hB2).size
      have hw23 := (unhide HB3).size
      have hz6 := (unhide C6).lt
      have HW := hide (((unhide hB2).trans ((unhide HB3).mono hww)).alloc (by omega) (.cells #[.bool d, .slice e1 l1 f1, .slice e2 l2 f2] 26))
      have HZ' : Hid (r = 0 → l1 = n2 ∧ l2 = m2 ∧ Row (w3.alloc (.cells #[.bool d, .slice e1 l1 f1, .slice e2 l2 f2] 26)) e1 n2 (countedSh n2 sh') ∧ Row (w3.alloc (.cells #[.bool d, .slice e1 l1 f1, .slice e2 l2 f2] 26)) e2 m2 dt') := fun h => by
        obtain ⟨q1, q2, q3, q4⟩ := unhide HZ h
        exact ⟨q1, q2, q3.alloc _, q4.alloc _⟩
      have hp2 : w.heap.size + 2 < w3.heap.size := by omega
      have hpW : w3.heap.size < (w3.alloc (.cells #[.bool d, .slice e1 l1 f1, .slice e2 l2 f2] 26)).heap.size := by simp
      generalize w3.alloc (.cells #[.bool d, .slice e1 l1 f1, .slice e2 l2 f2] 26) = W at *
      generalize w3.heap.size = p at *
      clear C4 C5 C6 hB2 HB3 HZ hww hw23 hz6 w3 w2
      by_cases h0 : r = 0
      · subst h0
        obtain ⟨ql1, ql2, hR1, hR2⟩ := unhide HZ' rfl
        subst l1
        subst l2
        have hn5 := unhide HN5 rfl
        have HP1 := hide hR1
        have HP2 := hide hR2
        have HBO : Hid (arrOk d (countedSh n2 sh') dt' = true) := counted_ok (unhide HR2) hn5
        clear HZ' hR1 hR2
        obtain ⟨bs, hbs⟩ : ∃ b, b = countedSh n2 sh' := ⟨_, rfl⟩
        rw [← hbs] at HP1 HBO
        have HBS : Hid (countedSh dt.length sh' = bs) := by rw [unhide hl2]; exact hbs.symm
        clear hbs
        obtain ⟨ZS, hZS⟩ : ∃ z, z = takeZ dt := ⟨_, rfl⟩
        obtain ⟨ST, hST⟩ : ∃ z, z = takeSt bs dt := ⟨_, rfl⟩
        have HZL : Hid (ZS.length = n2) := by rw [hZS, takeZ_len]; exact unhide hl2
        have HSL : Hid (ST.length = n2) := by rw [hST, takeSt_len]; exact unhide hl2
        have HZD := hide hZS
        have HSD := hide hST
        clear hZS hST
        obtain ⟨x0, x1, x2, x3, x4, x5, x6⟩ := (unhide D4).all
        obtain ⟨i0, hi, hz0, hz1, hz2⟩ := info_parts info_int
        go_upto_region 8 with fail
        have HT0 := hide (Two.start W ST ZS)
        go_wp2_with fail
        go_loopw [8, 9, 10] (fun s z i wr => ∃ k g1 p1 g2 p2, k ≤ n2 ∧ i = .int .i64 (k : Nat) ∧ s = .slice (some ⟨g1, 0, none⟩) k p1 ∧ z = .slice (some ⟨g2, 0, none⟩) k p2 ∧ Hid (Two W ST ZS k k g1 p1 g2 p2 wr)) (fun _ _ i _ => n2 - (intOf i).toNat)
        case atStart => exact ⟨0, _, 0, _, 0, Nat.zero_le _, rfl, rfl, rfl, HT0⟩
        case round =>
          obtain ⟨k, g1, p1, g2, p2, hk, rfl, rfl, rfl, ht⟩ := hrel
          clear HT0 x0 x1 x2 x3 x4 x5 x6
          have hlow := (unhide ht).low
          have hlz := hlow.size
          have hp3 : p < wr.heap.size := by omega
          obtain ⟨x0, x1, x2, x3, x4, x5, x6⟩ := ((unhide D4).low (by omega) hlow).all
          obtain ⟨y0, y1, y2, y3, y4, y5, y6⟩ := ((unhide D7).low (by omega) hlow).all
          by_cases hlt : k < n2
          · obtain ⟨bk, ok, hab, hbk, hck⟩ := (unhide H2).get hlt
            cases hab
            have hbkW : bk < W.heap.size := Nat.lt_of_lt_of_le hbk (unhide HW).size
            have hckW := ((unhide HW).cell (p := ⟨bk, ok + k, none⟩) hbk).trans hck
            have hckr := (hlow.cell (p := ⟨bk, ok + k, none⟩) hbkW).trans hckW
            obtain ⟨be, oe, rfl, hbe, hce⟩ := (unhide HP1).get hlt
            have hcer := (hlow.cell (p := ⟨be, oe + k, none⟩) hbe).trans hce
            have hxb := dataOk_bd (unhide HR1) (k := k) (by rw [unhide hl2]; exact hlt)
            have hbb := (shapeIn_of (unhide HBO)).1.cell k
            obtain ⟨x, hx⟩ : ∃ x, x = dt.getD k 0 := ⟨_, rfl⟩
            obtain ⟨b, hb⟩ : ∃ b, b = bs.getD k 0 := ⟨_, rfl⟩
            have HZG := hide (takeZ_get dt k (by rw [unhide hl2]; exact hlt))
            have HSG := hide (takeSt_get bs dt k (by rw [unhide hl2]; exact hlt))
            rw [← unhide HZD, ← hx] at HZG
            rw [← unhide HSD, ← hx, ← hb] at HSG
            rw [← hx] at hckW hckr hxb
            rw [← hb] at hce hcer hbb
            clear hx hb hck
            have HAB : Hid (absI x = absI x) := rfl
            obtain ⟨y, hy⟩ : ∃ y, absI x = y := ⟨_, rfl⟩
            rw [hy] at HZG
            have hca := l5Abs_any x y wr hxb hy
            clear hy HAB
            go_upto_region 12 with (first | (go_at_call 56; refine hca.mono ?_; rintro e wq ⟨rfl, hw⟩; obtain rfl := hw.symm) | (at_builtin; refine wpList_append_lies _ rfl _ _ 22 rfl W.heap.size 3 i0 (.int .i64 0) 1 8 Try.underlying22 hi hz0 hz1 hz2 rfl (by decide) _ _ _ rfl (owns_below (unhide ht).o2 (Nat.le_refl _) ((Below.refl _ _).alloc (Nat.le_refl _) _)) ⟨wr.heap.size, 0, none⟩ 1 1 [.int .i64 y] rfl rfl (cells_new _ _) (one_one _) (by omega) (by unfold maxLen; omega) (by omega) (by have := (unhide ht).low.size; simp; omega) (wr.heap.size + 1) (by simp) ?_; intro g2' p2' w7 hown' hgrow hat hlt7; have ht7 := hide ((unhide ht).push2 _ hown' (unhide HZG) (by rw [unhide HZL]; exact hlt) hgrow hat); clear hgrow hat hown' hlt7))
            clear hca x0 x1 x2 x3 x4 x5 x6 y0 y1 y2 y3 y4 y5 y6 hckr hcer
            have hlow7 := (unhide ht7).low
            have hlz7 := hlow7.size
            obtain ⟨x0, x1, x2, x3, x4, x5, x6⟩ := ((unhide D4).low (by omega) hlow7).all
            obtain ⟨y0, y1, y2, y3, y4, y5, y6⟩ := ((unhide D7).low (by omega) hlow7).all
            have hckr := (hlow7.cell (p := ⟨bk, ok + k, none⟩) hbkW).trans hckW
            have hcer := (hlow7.cell (p := ⟨be, oe + k, none⟩) hbe).trans hce
            by_cases hneg : x < 0
            · rw [if_pos hneg] at HSG
              have hwr : IntKind.i64.wrap (b + x) = b + x := by rw [IntKind.wrap_i64]; omega
              go_upto_region 13 with fail
              have HKEEP : ∀ wx, Below W.heap.size W wx → Below W.heap.size W wx ∧ wx.cell? ⟨p, 1, none⟩ = some (.slice (some ⟨be, oe, none⟩) n2 f1) ∧ wx.cell? ⟨w.heap.size, 2, none⟩ = some (.slice (some ⟨bk, ok, none⟩) n2 c2) ∧ wx.cell? ⟨bk, ok + k, none⟩ = some (.int .i64 x) ∧ wx.cell? ⟨be, oe + k, none⟩ = some (.int .i64 b) := fun wx hwx => ⟨hwx, ((unhide D7).low (by omega) hwx).cells.2.1, ((unhide D4).low (by omega) hwx).cells.2.2, (hwx.cell (p := ⟨bk, ok + k, none⟩) hbkW).trans hckW, (hwx.cell (p := ⟨be, oe + k, none⟩) hbe).trans hce⟩
              have ht7' := (unhide ht7).drew
              go_region_held3 (fun wx => Below W.heap.size W wx ∧ wx.cell? ⟨p, 1, none⟩ = some (.slice (some ⟨be, oe, none⟩) n2 f1) ∧ wx.cell? ⟨w.heap.size, 2, none⟩ = some (.slice (some ⟨bk, ok, none⟩) n2 c2) ∧ wx.cell? ⟨bk, ok + k, none⟩ = some (.int .i64 x) ∧ wx.cell? ⟨be, oe + k, none⟩ = some (.int .i64 b)) (first | exact HKEEP _ ht8.low | exact HKEEP _ hlow7.drew | exact HKEEP _ hlow7 | exact HKEEP _ (Below.alloc hlow7.drew (by simp; omega) _) | exact HKEEP _ (Below.drew (Below.alloc hlow7 (by omega) _))) (first | (refine step_append_lies _ (by rfl) _ _ _ (by rfl) W.heap.size 3 i0 _ 1 8 Try.underlying22 hi hz0 hz1 hz2 rfl (by omega) (.slice (some ⟨g1, 0, none⟩) k p1) k ((ST.take k).map (Value.int .i64)) (by rfl) (by first | exact owns_below ht7'.o1 (Nat.le_refl _) ((Below.refl _ _).alloc (Nat.le_refl _) _) | exact owns_below (unhide ht7).o1 (Nat.le_refl _) ((Below.refl _ _).alloc (Nat.le_refl _) _).drew) ⟨w7.heap.size, 0, none⟩ 1 1 [.int .i64 (b + x)] (by rfl) (by rfl) (by exact cells_new w7 _) (one_one _) (by omega) (by unfold maxLen; omega) (by omega) (by simp; omega) (w7.heap.size + 1) (by simp) ?_; intro g' p' w8 hown' hgrow hat hlt8; have ht8 := ht7'.push1 _ hown' (unhide HSG) (by rw [unhide HSL]; exact hlt) (by exact hgrow) hat))
              all_goals
                have HT8 := hide ht8
                clear ht7' ht7 hlow7 x0 x1 x2 x3 x4 x5 x6 y0 y1 y2 y3 y4 y5 y6
                go_wp2
                go_roundw
                case rel => exact ⟨k + 1, _, _, _, _, by omega, by go_num, rfl, rfl, HT8⟩
                case measure => simp [intOf]; omega
            · rw [if_neg hneg] at HSG
              go_wp2_with (at_builtin; refine wpList_append_lies _ rfl _ _ 22 rfl W.heap.size 3 i0 (.int .i64 0) 1 8 Try.underlying22 hi hz0 hz1 hz2 rfl (by decide) _ _ _ rfl (owns_below (unhide ht7).o1 (Nat.le_refl _) ((Below.refl _ _).alloc (Nat.le_refl _) _)) ⟨w7.heap.size, 0, none⟩ 1 1 [.int .i64 0] rfl rfl (cells_new _ _) (one_one _) (by omega) (by unfold maxLen; omega) (by omega) (by have := (unhide ht7).low.size; simp; omega) (w7.heap.size + 1) (by simp) ?_; intro g1' p1' w8 hown' hgrow hat hlt7; have ht8 := hide ((unhide ht7).push1 _ hown' (unhide HSG) (by rw [unhide HSL]; exact hlt) hgrow hat); clear hgrow hat hown' hlt7)
              go_roundw
              case rel => exact ⟨k + 1, _, _, _, _, by omega, by go_num, rfl, rfl, ht8⟩
              case measure => simp [intOf]; omega
          · have hkn : k = n2 := by omega
            subst hkn
            have HZE : Hid (wr.ownsRow W.heap.size 3 1 (.slice (some ⟨g2, 0, none⟩) k p2) k (ZS.map (Value.int .i64))) := by have := (unhide ht).o2; rwa [List.take_of_length_le (by rw [unhide HZL]; exact Nat.le_refl _)] at this
            have HSE : Hid (wr.ownsRow W.heap.size 3 1 (.slice (some ⟨g1, 0, none⟩) k p1) k (ST.map (Value.int .i64))) := by have := (unhide ht).o1; rwa [List.take_of_length_le (by rw [unhide HSL]; exact Nat.le_refl _)] at this
            obtain ⟨_, _, ev, hOz⟩ := Own.of_owns (unhide HZE) hs2
            cases ev
            obtain ⟨_, _, ev, hOs⟩ := Own.of_owns (unhide HSE) hs2
            cases ev
            have HOZ := hide hOz
            have HOS := hide hOs
            have E6 := hide ((unhide D6).low (by omega) hlow)
            have E7 := hide ((unhide D7).low (by omega) hlow)
            have HWr := hide ((unhide HW).trans (hlow.mono (unhide HW).size))
            have HQ1 := hide ((unhide HP1).below (Nat.le_refl _) hlow)
            have HQ2 := hide ((unhide HP2).below (Nat.le_refl _) hlow)
            clear ht hlow hOz hOs HZE HSE
            obtain ⟨sb, hsb⟩ : ∃ r, shapeB ZS = r := ⟨_, rfl⟩
            have HSB := hide hsb
            clear hsb
            cases sb with
            | false =>
              have HS : Hid (take c d sh dt sh' dt' = noAns 7) := window_big (unhide HR1) (unhide HR2) (unhide HCC) rfl (by  show shapeB (takeZ dt) = false; rw [← unhide HZD]; exact unhide HSB)
              go_upto_region 16 with (go_at_call 37; refine (l3ShapeOk_eq _ _ _ ZS _ (unhide HOZ).row _ HSB).mono ?_; rintro e wq ⟨rfl, hw⟩; obtain rfl := hw.symm)
              go_wp2_with fail
              refine (l4None_any _).mono ?_
              rintro e w9 ⟨rfl, hb9⟩
              obtain ⟨q0, q1, q2, q3, q4, q5, q6⟩ := ((unhide E6).below (Nat.le_refl _) hb9).all
              have hB9 := hide ((unhide HWr).trans (hb9.mono (unhide HWr).size))
              clear hb9 E6 E7 HWr HOZ HOS y0 y1 y2 y3 y4 y5 y6 x0 x1 x2 x3 x4 x5 x6
              go_wp2
              refine bodyPost_ret (v := .tuple #[.agg #[.bool false, .slice none 0 0, .slice none 0 0], .int .i64 7]) (by simp [results, Try.results21, go_sem, q0, q1, q2]) rfl ?_
              rw [unhide HS]
              exact ⟨none, 0, 0, none, 0, 0, rfl, row_nil _ _, row_nil _ _, (((unhide hB9).setCell (by simp <;> omega) _).setCell (by simp <;> omega) _).setCell (by simp <;> omega) _⟩
            | true =>
              have hcb := shapeB_count (unhide HSB)
              obtain ⟨N, hN⟩ : ∃ N : Nat, countOf ZS = (N : Int) := ⟨(countOf ZS).toNat, by omega⟩
              have hNs : N ≤ 10000 := by omega
              have HSTB : Hid (∀ i, i < k → -1000000000000000 ≤ ST.getD i 0 ∧ ST.getD i 0 ≤ 1000000000000000) := by
                intro i hi
                have hi' : i < dt.length := by rw [unhide hl2]; exact hi
                have h1 := dataOk_bd (unhide HR1) hi'
                have h2 := (shapeIn_of (unhide HBO)).1.cell i
                rw [unhide HSD, takeSt_get _ _ _ hi']
                split <;> omega
              have hcall := l5Window_any d (e1) e2 (some ⟨g1, 0, none⟩) (some ⟨g2, 0, none⟩) k m2 k f1 f2 p1 p2 bs dt' ST ZS wr (unhide HQ1) (unhide HQ2) (unhide HOS).row (unhide HOZ).row (Nat.le_refl _) (unhide HBO) (unhide HSB) (unhide HSTB) N hN
              have HS : Hid (take c d sh dt sh' dt' = ⟨d, ZS, vals (windowAt d bs dt' ST ZS) N, 0⟩) := by
                have := window_go (lim := true) (Z := fun _ => takeZ) (S := takeSt) (unhide HR1) (unhide HR2) (unhide HCC) (fun _ => by show shapeB (takeZ dt) = true; rw [← unhide HZD]; exact unhide HSB) N (by  show countOf (takeZ dt) = _; rw [← unhide HZD]; exact hN)
                rw [unhide HBS] at this
                rw [unhide HZD, unhide HSD]
                exact this
              clear hcb hN
              go_wp2_with (first | (go_at_call 37; refine (l3ShapeOk_eq _ _ _ ZS _ (unhide HOZ).row _ HSB).mono ?_; rintro e wq ⟨rfl, hw⟩; obtain rfl := hw.symm) | (go_at_call 57; refine hcall.mono ?_; rintro e w8 ⟨g8, k8, rfl, hr8, hb8⟩; have HR8 := hide hr8; have HB8 := hide hb8; obtain ⟨t0, t1, t2, t3, t4, t5, t6⟩ := ((unhide E6).below (Nat.le_refl _) hb8).all; clear hr8 hb8))
              refine bodyPost_ret (v := .tuple #[.agg #[.bool d, .slice (some ⟨g2, 0, none⟩) k p2, .slice (some ⟨g8, 0, none⟩) N k8], .int .i64 0]) (by simp [results, Try.results21, go_sem, t0, t1, t2]) rfl ?_
              have E8 := (unhide E6).below (Nat.le_refl _) (unhide HB8)
              rw [unhide HS]
              exact ⟨_, _, _, _, _, _, rfl, ((unhide HOZ).row.below (Nat.le_refl _) (unhide HB8)).sets E8 _ _ _, (unhide HR8).sets E8 _ _ _, ((((unhide HWr).trans ((unhide HB8).mono (unhide HWr).size)).setCell (by simp <;> omega) _).setCell (by simp <;> omega) _).setCell (by simp <;> omega) _⟩
      · have HS : Hid (take c d sh dt sh' dt' = noAns r) := window_code' (unhide HR1) (unhide HR2) r (unhide HCC) h0
        have hcb : (r != 0) = true := by simp [h0]
        clear h0
        go_wp2_with fail
        refine (l4None_any _).mono ?_
        rintro e w9 ⟨rfl, hb9⟩
        obtain ⟨q0, q1, q2, q3, q4, q5, q6⟩ := ((unhide D6).below (Nat.le_refl _) hb9).all
        have hB9 := hide ((unhide HW).trans (hb9.mono (unhide HW).size))
        clear hb9 D4 D6 D7 HW
        go_wp2
        refine bodyPost_ret (v := .tuple #[.agg #[.bool false, .slice none 0 0, .slice none 0 0], .int .i64 r]) (by simp [results, Try.results21, go_sem, q0, q1, q2]) rfl ?_
        rw [unhide HS]
        exact ⟨none, 0, 0, none, 0, 0, rfl, row_nil _ _, row_nil _ _, (((unhide hB9).setCell (by simp <;> omega) _).setCell (by simp <;> omega) _).setCell (by simp <;> omega) _⟩

end Go.Proofs.Ytmikkameameebaa
namespace Go.Proofs.Ytmikkameameebaa
open Go.RowKit

theorem Take_spec : LawTake.Spec take := fun c d a1 a2 b1 b2 n1 n2 m1 m2 c1 c2 d1 d2 sh dt sh' dt' w h1 h2 k1 k2 _ _ _ _ => Take_any c d a1 a2 b1 b2 n1 n2 m1 m2 c1 c2 d1 d2 sh dt sh' dt' w h1 h2 k1 k2

end Go.Proofs.Ytmikkameameebaa
