import Derived.Test.YtheocceclpplhaaGreatDoorInnerMath
import Derived.Test.YtheocceclpplhaaGreatDoorSpecStage
import Derived.Test.YtheocceclpplhaaGreatDoorMBox
import Derived.Deep.RegionLaw
import Derived.Deep.WholeRow
import Derived.Test.YtheocceclpplhaaGreatDoorFoldMath
import Derived.BigQuiet
import Derived.Deep.DeepCutAuto
import Derived.Deep.AppendLies
import Derived.Test.YtheocceclpplhaaGreatDoorGatherMath
import Derived.Test.YtheocceclpplhaaGreatDoorMTwo
import Derived.Deep.RegionHeld
import Derived.Test.YtheocceclpplhaaGreatDoorMMath
namespace Go.Proofs.YtheocceclpplhaaGreatDoor
open Go.RowKit

theorem vals_rep (x : Int) (n : Nat) : vals (fun _ => (x, 0)) n = List.replicate n x := by
  unfold vals
  rw [List.map_const']
  simp

set_option maxRecDepth 20000 in
set_option maxHeartbeats 4000000 in
theorem l4Stretch_any (c : Bool) (a1 a2 : Addr) (n1 n2 c1 c2 N : Nat) (sh dt : List Int) (w : World) (h1 : Row w (some a1) n1 sh) (h2 : Row w (some a2) n2 dt) (hc1 : n1 ≤ c1) (hN : N ≤ 10000) (hd : sh = [] → 0 < n2) :
    Calls Tryz.prog 14 #[.agg #[.bool c, .slice (some a1) n1 c1, .slice (some a2) n2 c2], .int .i64 (N : Nat)] w fun e w' => ∃ b1 m1 d1 b2 m2 d2, e = .returned (.agg #[.bool c, .slice (some b1) m1 d1, .slice (some b2) m2 d2]) ∧ Row w' (some b1) m1 (stSh N sh) ∧ Row w' (some b2) m2 (stDt N sh dt) ∧ m1 ≤ d1 ∧ Below w.heap.size w w' := by
  have hl1 := hide h1.len
  have hs1 := h1.small
  have hs2 := h2.small
  have H1 := hide h1
  have H2 := hide h2
  clear h1 h2
  by_cases hn0 : n1 = 0
  · subst hn0
    have hse : sh = [] := List.length_eq_zero_iff.mp (unhide hl1)
    subst hse
    have hdl := hd rfl
    clear hd
    obtain ⟨bb, ob, hab, hblt, hc⟩ := (unhide H2).get hdl
    cases hab
    rw [Nat.add_zero] at hc
    obtain ⟨x, hx⟩ : ∃ x, x = dt.getD 0 0 := ⟨_, rfl⟩
    rw [← hx] at hc
    have HX := hide hx
    clear hx
    obtain ⟨f, hf⟩ : ∃ f : Nat → Int × Int, f = fun _ => (x, 0) := ⟨_, rfl⟩
    have HF : Hid (∀ P, f P = (x, 0)) := fun P => by rw [hf]
    have HV : Hid (∀ P, vals f P = List.replicate P x) := fun P => by rw [hf]; exact vals_rep x P
    clear hf
    obtain ⟨W0, hW0⟩ : ∃ W0, W0 = (w.alloc (.cells #[.bool c, .slice (some a1) 0 c1, .slice (some ⟨bb, ob, none⟩) n2 c2] 26)).alloc (.cells #[.bool false, .slice none 0 0, .slice none 0 0] 26) := ⟨_, rfl⟩
    have hz0' : W0.heap.size = w.heap.size + 2 := by rw [hW0]; simp
    have D5 : Hid (Box W0 w.heap.size c (.slice (some a1) 0 c1) (.slice (some ⟨bb, ob, none⟩) n2 c2)) := by rw [hW0]; exact (Box.new _ _ _ _).alloc _
    have D6 : Hid (Box W0 (w.heap.size + 1) false (.slice none 0 0) (.slice none 0 0)) := by
      rw [hW0]
      have := Box.new (w.alloc (.cells #[.bool c, .slice (some a1) 0 c1, .slice (some ⟨bb, ob, none⟩) n2 c2] 26)) false (.slice none 0 0) (.slice none 0 0)
      show Box _ _ _ _ _
      simpa using this
    have hB0 : Hid (Below w.heap.size w W0) := by rw [hW0]; exact ((Below.refl _ _).alloc (Nat.le_refl _) _).alloc (by simp) _
    have hst0 : Hid (Stage W0 (w.heap.size + 4) c (some ⟨w.heap.size + 2, 0, none⟩) 1 1 [(N : Int)] f 0 (((W0.alloc (.cells #[.int .i64 (N : Nat)] 3)).alloc (.cells #[] 3)).alloc (.cells #[.bool c, .slice (some ⟨w.heap.size + 2, 0, none⟩) 1 1, .slice (some ⟨w.heap.size + 3, 0, none⟩) 0 0] 26)) (w.heap.size + 3) 0) := by
      have hb1 : Blk (W0.alloc (.cells #[.int .i64 (N : Nat)] 3)) (w.heap.size + 2) [(N : Int)] := by
        have := heap_alloc_last W0 (.cells #[.int .i64 (N : Nat)] 3)
        rw [hz0'] at this
        exact this
      have hb2 : Blk ((W0.alloc (.cells #[.int .i64 (N : Nat)] 3)).alloc (.cells #[] 3)) (w.heap.size + 3) [] := by
        have := Blk.new (W0.alloc (.cells #[.int .i64 (N : Nat)] 3))
        simp [hz0'] at this
        exact this
      refine Stage.start f ?_ (hb2.alloc _) (((hb1.own (n := 1) (B := W0.heap.size) rfl (by omega) (by omega)).alloc _).alloc _) ((((Below.refl _ _).alloc (Nat.le_refl _) _).alloc (by simp) _).alloc (by simp <;> omega) _) (by omega) (by omega) (fun k hk => by have := at_eq hk; omega)
      have := Box.new ((W0.alloc (.cells #[.int .i64 (N : Nat)] 3)).alloc (.cells #[] 3)) c (.slice (some ⟨w.heap.size + 2, 0, none⟩) 1 1) (.slice (some ⟨w.heap.size + 3, 0, none⟩) 0 0)
      simp [hz0'] at this
      exact this
    rw [hW0] at hst0
    obtain ⟨i0, hi, hz0, hz1, hz2⟩ := info_parts info_int
    go_enter Tryz.func14, Tryz.ntmps14
    go_wp2_with fail
    rw [← hW0] at hst0
    go_loopw [6] (fun i wr => ∃ P g cap, P ≤ N ∧ i = .int .i64 (P : Nat) ∧ Hid (Stage W0 (w.heap.size + 4) c (some ⟨w.heap.size + 2, 0, none⟩) 1 1 [(N : Int)] f P wr g cap)) (fun i _ => N - (intOf i).toNat)
    case atStart =>
      rw [hW0] at hst0 ⊢
      exact ⟨0, _, _, Nat.zero_le _, rfl, hst0⟩
    case round =>
      clear hst0
      obtain ⟨P, g, cap, hP, rfl, hst⟩ := hrel
      have hst' := unhide hst
      obtain ⟨y0, y1, y2, y3, y4, y5, y6⟩ := ((unhide D5).low (by omega) hst'.low).all
      obtain ⟨z0, z1, z2, z3, z4, z5, z6⟩ := hst'.box.all
      by_cases hlt : P < N
      · have hc' := (((unhide hB0).trans (hst'.low.mono (by omega))).cell (p := ⟨bb, ob, none⟩) hblt).trans hc
        clear hW0
        go_wp2_with fail
        go_region_law
          (first
            | (refine step_append_lies _ (by rfl) _ _ _ (by rfl) W0.heap.size 3 i0 _ 1 8 Tryz.underlying22 hi hz0 hz1 hz2 rfl (by omega) (.slice (some ⟨g, 0, none⟩) P cap) P ((vals f P).map (Value.int .i64)) (by rfl) (by first | exact (hst'.owns.alloc _).drew | exact hst'.drew.owns.alloc _) ⟨wr.heap.size, 0, none⟩ 1 1 [.int .i64 x] (by rfl) (by rfl) (by exact cells_new wr _) (one_one _) (by omega) (by unfold maxLen; omega) (by omega) (by have := hst'.low.size; simp; omega) (wr.heap.size + 1) (by simp) ?_; intro g' cap' w7 hown' hgrow hat hlt7; obtain ⟨hb7, hst7⟩ := hst'.drew.push _ (unhide HF P) hown' (by exact hgrow) hat; obtain ⟨t0, t1, t2, t3, t4, t5, t6⟩ := hb7.all))
        all_goals
          go_wp2_with fail
          go_roundw
          case rel => exact ⟨P + 1, g', cap', by omega, by go_num, hst7⟩
          case measure => simp [intOf]; omega
      · have hPN : P = N := by omega
        subst hPN
        obtain ⟨ad', cd, hv, hD⟩ := Own.of_owns hst'.owns (by omega)
        cases hv
        have G6 := hide ((unhide D6).low (by omega) hst'.low)
        obtain ⟨q0, q1, q2, q3, q4, q5, q6⟩ := (unhide G6).all
        have HW6 := hide ((unhide hB0).trans (hst'.low.mono (by omega)))
        have HO6 := hide hst'.own
        have HD := hide hD
        clear hst hst' hD hW0
        go_wp2
        refine bodyPost_ret (v := .agg #[.bool c, .slice (some ⟨w.heap.size + 2, 0, none⟩) 1 1, .slice (some ⟨g, 0, none⟩) P cap]) (by simp [results, Tryz.results14, go_sem, q0, q1, q2]) rfl ?_
        refine ⟨_, 1, 1, _, P, cap, rfl, ?_, ?_, Nat.le_refl _, (((unhide HW6).setCell (by simp) _).setCell (by simp) _).setCell (by simp) _⟩
        · exact (unhide HO6).row.sets (unhide G6) _ _ _
        · have e : stDt (P : Int) [] dt = vals f P := by rw [unhide HV P, unhide HX]; simp [stDt]
          rw [e]
          exact (unhide HD).row.sets (unhide G6) _ _ _
  · have hp : (0 : Int) < (n1 : Int) := by omega
    have hne : sh ≠ [] := fun e => hn0 (by rw [← unhide hl1, e]; rfl)
    have e1 : stSh N sh = sh := by simp [stSh, hne]
    have e2 : stDt N sh dt = dt := by simp [stDt, hne]
    rw [e1, e2]
    clear e1 e2 hd
    go_enter Tryz.func14, Tryz.ntmps14
    go_wp2
    refine bodyPost_ret (v := .agg #[.bool c, .slice (some a1) n1 c1, .slice (some a2) n2 c2]) (by simp [results, Tryz.results14, go_sem]) rfl ?_
    exact ⟨_, n1, c1, _, n2, c2, rfl, ((unhide H1).alloc _).alloc _, ((unhide H2).alloc _).alloc _, hc1, ((Below.refl _ _).alloc (Nat.le_refl _) _).alloc (by simp) _⟩

end Go.Proofs.YtheocceclpplhaaGreatDoor
namespace Go.Proofs.YtheocceclpplhaaGreatDoor
open Go.RowKit

theorem ret_three {a b c a' b' c' : Int} (ha : a = a') (hb : b = b') (hc : c = c') : Ending.returned (.tuple #[.int .i64 a, .int .i64 b, .int .i64 c]) = .returned (.tuple #[.int .i64 a', .int .i64 b', .int .i64 c']) := by rw [ha, hb, hc]

theorem drop_snoc (sh : List Int) (k i : Nat) (h : k < sh.length) (hi : i ≤ k) : (sh.take (k + 1)).drop i = (sh.take k).drop i ++ [sh.getD k 0] := by
  rw [take_snoc sh k h, List.drop_append_of_le_length (by simp; omega)]

theorem prodAll_one (xs : List Int) (x : Int) : prodAll (xs ++ [x]) = prodAll xs * x := by simp [prodAll]

/-- The products in front of and behind place t of the first k. -/
def partB (sh : List Int) (t k : Nat) : Int := prodAll (sh.take (min k t))
def partA (sh : List Int) (t k : Nat) : Int := prodAll ((sh.take k).drop (t + 1))

theorem partB_lt {sh : List Int} {t k : Nat} (hk : k < sh.length) (h : k < t) : partB sh t (k + 1) = partB sh t k * sh.getD k 0 := by
  unfold partB; rw [Nat.min_eq_left (by omega), Nat.min_eq_left (by omega), take_snoc sh k hk, prodAll_one]
theorem partB_ge {sh : List Int} {t k : Nat} (h : t ≤ k) : partB sh t (k + 1) = partB sh t k := by
  unfold partB; rw [Nat.min_eq_right (by omega), Nat.min_eq_right (by omega)]
theorem partA_gt {sh : List Int} {t k : Nat} (hk : k < sh.length) (h : t < k) : partA sh t (k + 1) = partA sh t k * sh.getD k 0 := by
  unfold partA; rw [drop_snoc sh k (t + 1) hk (by omega), prodAll_one]
theorem partA_le {sh : List Int} {t k : Nat} (h : k ≤ t) : partA sh t (k + 1) = partA sh t k := by
  unfold partA; rw [List.drop_eq_nil_of_le (by simp; omega), List.drop_eq_nil_of_le (by simp; omega)]
theorem partB_bd {sh : List Int} (h : ShapeIn sh) (t k : Nat) : 0 ≤ partB sh t k ∧ partB sh t k ≤ 10000 := (h.take _).bd
theorem partA_bd {sh : List Int} (h : ShapeIn sh) (t k : Nat) : 0 ≤ partA sh t k ∧ partA sh t k ≤ 10000 := ((h.take _).drop _).bd

set_option maxHeartbeats 1000000 in
theorem l4Axis_any (a : Option Addr) (n cap : Nat) (sh : List Int) (first : Bool) (w : World) (h : Row w a n sh) (hS : ShapeIn sh) (hn : 0 < n) :
    Calls Tryz.prog 17 #[.slice a n cap, .bool first] w fun e w' => e = .returned (.tuple #[.int .i64 (axisB sh first), .int .i64 (axisN sh first), .int .i64 (axisA sh first)]) ∧ Below w.heap.size w w' := by
  have hlen := hide h.len
  have hsm := h.small
  have H := hide h
  have HS := hide hS
  clear h hS
  obtain ⟨t, ht⟩ : ∃ t, axisAt sh first = t := ⟨_, rfl⟩
  have htn : t < n := by rw [← ht]; unfold axisAt; rw [unhide hlen]; split <;> omega
  have HT := hide ht
  have HB : Hid (axisB sh first = partB sh t n) := by show _ = _; unfold axisB partB; rw [ht, Nat.min_eq_right (by omega)]
  have HA : Hid (axisA sh first = partA sh t n) := by show _ = _; unfold axisA partA; rw [ht, List.take_of_length_le (by rw [unhide hlen]; exact Nat.le_refl _)]
  have HN : Hid (axisN sh first = sh.getD t 0) := by show _ = _; unfold axisN; rw [ht]
  obtain ⟨bt, ot, hat, hltt, hct⟩ := (unhide H).get htn
  subst hat
  have hcell : Hid (∀ k, k < n → w.cell? ⟨bt, ot + k, none⟩ = some (.int .i64 (sh.getD k 0))) := by
    intro k hk
    obtain ⟨b', o', e', _, hc'⟩ := (unhide H).get hk
    cases e'
    exact hc'
  have hft : (first = true ∧ t = 0) ∨ (first = false ∧ (n : Int) - 1 = (t : Int)) := by
    have := unhide HT
    unfold axisAt at this
    rw [unhide hlen] at this
    cases first
    · exact .inr ⟨rfl, by simp at this; omega⟩
    · exact .inl ⟨rfl, by simp at this; omega⟩
  clear ht
  go_enter Tryz.func17, Tryz.ntmps17
  go_upto_if 14 with fail
  go_cut [7] (fun b wx => w = wx ∧ b = .int .i64 t)
  case first =>
    rcases hft with ⟨rfl, rfl⟩ | ⟨rfl, hnt⟩
    · go_wp2
      go_meet
      case rel => exact ⟨rfl, rfl⟩
    · go_wp2
      go_meet
      case rel => exact ⟨rfl, by rw [← hnt]⟩
  case rest =>
    obtain ⟨rfl, rfl⟩ := hcut
    clear hft
    go_wp2
    go_loop [8, 9, 10] (fun p q i => ∃ (k : Nat) (x y : Int), k ≤ n ∧ i = .int .i64 k ∧ p = .int .i64 x ∧ q = .int .i64 y ∧ Hid (partB sh t k = x) ∧ Hid (partA sh t k = y)) (fun _ _ i => n - (intOf i).toNat)
    case atStart => exact ⟨0, 1, 1, Nat.zero_le _, rfl, rfl, rfl, by show _ = _; simp [partB, prodAll], by show _ = _; simp [partA, prodAll]⟩
    case round =>
      obtain ⟨k, x, y, hk, rfl, rfl, rfl, hx, hy⟩ := hrel
      by_cases hlt : k < n
      · have hc := unhide hcell k hlt
        have hks : Hid (k < sh.length) := by show k < sh.length; rw [unhide hlen]; exact hlt
        obtain ⟨z, hz⟩ : ∃ z, z = sh.getD k 0 := ⟨_, rfl⟩
        rw [← hz] at hc
        have HZ := hide hz
        clear hz
        by_cases h1 : k < t
        · have HX : Hid (partB sh t (k + 1) = x * z) := by show _ = _; rw [partB_lt (unhide hks) h1, unhide hx, unhide HZ]
          have HY : Hid (partA sh t (k + 1) = y) := by show _ = _; rw [partA_le (by omega), unhide hy]
          have hb := partB_bd (unhide HS) t (k + 1)
          rw [unhide HX] at hb
          obtain ⟨hb0, hb1⟩ := hb
          go_wp2
          go_round
          case rel => exact ⟨k + 1, x * z, y, by omega, by go_num, rfl, rfl, HX, HY⟩
          case measure => simp [intOf]; omega
        · by_cases h2 : t < k
          · have HX : Hid (partB sh t (k + 1) = x) := by show _ = _; rw [partB_ge (by omega), unhide hx]
            have HY : Hid (partA sh t (k + 1) = y * z) := by show _ = _; rw [partA_gt (unhide hks) h2, unhide hy, unhide HZ]
            have hb := partA_bd (unhide HS) t (k + 1)
            rw [unhide HY] at hb
            obtain ⟨hb0, hb1⟩ := hb
            go_wp2
            go_round
            case rel => exact ⟨k + 1, x, y * z, by omega, by go_num, rfl, rfl, HX, HY⟩
            case measure => simp [intOf]; omega
          · have HX : Hid (partB sh t (k + 1) = x) := by show _ = _; rw [partB_ge (by omega), unhide hx]
            have HY : Hid (partA sh t (k + 1) = y) := by show _ = _; rw [partA_le (by omega), unhide hy]
            go_wp2
            go_round
            case rel => exact ⟨k + 1, x, y, by omega, by go_num, rfl, rfl, HX, HY⟩
            case measure => simp [intOf]; omega
      · have hkn : k = n := by omega
        subst hkn
        go_wp2
        go_quiet (fail)
        go_wp2
        refine bodyPost_ret (v := .tuple #[.int .i64 x, .int .i64 (sh.getD t 0), .int .i64 y]) (by simp [results, Tryz.results17, go_sem]) rfl ?_
        exact ⟨ret_three ((unhide HB).trans (unhide hx)).symm (unhide HN).symm ((unhide HA).trans (unhide hy)).symm, Below.drewN (Below.refl _ _) _⟩

theorem row_tail {w : World} {b off n : Nat} {zs : List Int} (h : Row w (some ⟨b, off, none⟩) n zs) (hn : 0 < n) : Row w (some ⟨b, off + 1, none⟩) (n - 1) (zs.drop 1) := by
  refine ⟨by rw [List.length_drop, h.len], by have := h.small; omega, ?_⟩
  rcases h.at_ with h0 | ⟨b', o', e, hlt, hc⟩
  · omega
  · cases e
    refine .inr ⟨b, off + 1, rfl, hlt, fun i hi => ?_⟩
    have := hc (i + 1) (by omega)
    rw [show off + 1 + i = off + (i + 1) by omega, this]
    simp [List.getD]

theorem row_head {w : World} {a : Option Addr} {n m : Nat} {zs : List Int} (h : Row w a n zs) (hm : m ≤ n) : Row w a m (zs.take m) := by
  refine ⟨by rw [List.length_take, h.len]; omega, by have := h.small; omega, ?_⟩
  rcases h.at_ with h0 | ⟨b', o', e, hlt, hc⟩
  · exact .inl (by omega)
  · refine .inr ⟨b', o', e, hlt, fun i hi => ?_⟩
    rw [hc i (by omega)]
    simp [List.getD, hi]

set_option maxHeartbeats 400000 in
theorem l4Without_any (b off n cap : Nat) (sh : List Int) (first : Bool) (w : World) (h : Row w (some ⟨b, off, none⟩) n sh) (hn : 0 < n) (hcap : n ≤ cap) :
    Calls Tryz.prog 16 #[.slice (some ⟨b, off, none⟩) n cap, .bool first] w fun e w' => ∃ a' cap', e = .returned (.slice a' (n - 1) cap') ∧ Own w' w.heap.size a' (n - 1) (without sh first) ∧ Below w.heap.size w w' := by
  have H := hide h
  have hlen := hide h.len
  have hsm := h.small
  clear h
  have hz : ∀ (ad : Addr), n - 1 = 0 → Row w (some ad) (n - 1) (sh.drop 1) := fun ad h0 => by
    rw [h0]
    exact ⟨by rw [List.length_drop, unhide hlen]; exact h0, by omega, .inl rfl⟩
  cases first with
  | true =>
    go_enter Tryz.func16, Tryz.ntmps16
    go_wp2_with fail
    all_goals
      refine (l3Ints_any _ _ _ (sh.drop 1) _ (by first | exact row_tail (unhide H) hn | exact hz _ (by omega))).mono ?_
      rintro e w1 ⟨a', cap', rfl, hO, hb⟩
      go_wp2
      go_ret
      exact ⟨a', cap', rfl, hO, hb⟩
  | false =>
    have HE : Hid (without sh false = sh.take (n - 1)) := by show _ = _; unfold without; rw [unhide hlen]; rfl
    have hn1 : (n : Int) - 1 = ((n - 1 : Nat) : Int) := by omega
    go_enter Tryz.func16, Tryz.ntmps16
    go_wp2_with fail
    all_goals
      refine (l3Ints_any _ _ _ (sh.take (n - 1)) _ (by first | exact row_head (unhide H) (Nat.sub_le _ _))).mono ?_
      rintro e w1 ⟨a', cap', rfl, hO, hb⟩
      go_wp2
      go_ret
      exact ⟨a', cap', rfl, by rw [unhide HE]; exact hO, hb⟩

end Go.Proofs.YtheocceclpplhaaGreatDoor
namespace Go.Proofs.YtheocceclpplhaaGreatDoor
open Go.RowKit

set_option maxHeartbeats 400000 in
theorem l3Ints_some (ad : Addr) (n cap : Nat) (zs : List Int) (w : World) (h : Row w (some ad) n zs) :
    Calls Tryz.prog 41 #[.slice (some ad) n cap] w fun e w' => ∃ g cap', e = .returned (.slice (some ⟨g, 0, none⟩) n cap') ∧ Own w' w.heap.size (some ⟨g, 0, none⟩) n zs ∧ Below w.heap.size w w' := by
  have hl := h.len
  have hs := h.small
  have H := hide h
  clear h
  obtain ⟨i0, hi, hz0, hz1, hz2⟩ := info_parts info_int
  go_enter Tryz.func41, Tryz.ntmps41
  go_wp2_with (at_builtin; refine wpList_append_own _ rfl _ _ 22 rfl w.heap.size 3 i0 (.int .i64 0) 1 8 Tryz.underlying22 hi hz0 hz1 hz2 rfl (by decide) _ _ _ rfl (owns_empty w) ad n cap (zs.map (Value.int .i64)) rfl (by simpa using hl) (cells_ints ((unhide H).alloc _)) (one_ints zs) (by unfold maxLen; omega) (by omega) (by simp) ?_; intro v1 w1 hown hgrow hnil)
  have hown' : w1.ownsRow w.heap.size 3 1 v1 n (zs.map (Value.int .i64)) := by simpa using hown
  have hsome : ∃ g cap', v1 = .slice (some ⟨g, 0, none⟩) n cap' := by
    rcases hown'.2 with ⟨e, _⟩ | ⟨g, c', cur, e, _⟩
    · have := (hnil.mp e).1
      cases this
    · exact ⟨g, c', e⟩
  obtain ⟨g, cap', rfl⟩ := hsome
  obtain ⟨a', cap'', hv, ho⟩ := Own.of_owns hown' hs
  cases hv
  have hbel : Below w.heap.size w w1 := ((Below.refl _ _).alloc (Nat.le_refl _) _).grown hgrow (by simp) (by intro k hk; cases hk; exact Nat.le_refl _)
  clear hown hgrow hnil
  go_wp2
  go_ret
  exact ⟨_, _, rfl, ho, hbel⟩

set_option maxHeartbeats 400000 in
theorem l4Without_some (b off n cap : Nat) (sh : List Int) (first : Bool) (w : World) (h : Row w (some ⟨b, off, none⟩) n sh) (hn : 0 < n) (hcap : n ≤ cap) :
    Calls Tryz.prog 16 #[.slice (some ⟨b, off, none⟩) n cap, .bool first] w fun e w' => ∃ g cap', e = .returned (.slice (some ⟨g, 0, none⟩) (n - 1) cap') ∧ Own w' w.heap.size (some ⟨g, 0, none⟩) (n - 1) (without sh first) ∧ Below w.heap.size w w' := by
  have H := hide h
  have hlen := hide h.len
  have hsm := h.small
  clear h
  have hz : ∀ (ad : Addr), n - 1 = 0 → Row w (some ad) (n - 1) (sh.drop 1) := fun ad h0 => by
    rw [h0]
    exact ⟨by rw [List.length_drop, unhide hlen]; exact h0, by omega, .inl rfl⟩
  cases first with
  | true =>
    go_enter Tryz.func16, Tryz.ntmps16
    go_wp2_with fail
    all_goals
      refine (l3Ints_some _ _ _ (sh.drop 1) _ (by first | exact row_tail (unhide H) hn | exact hz _ (by omega))).mono ?_
      rintro e w1 ⟨a', cap', rfl, hO, hb⟩
      go_wp2
      go_ret
      exact ⟨a', cap', rfl, hO, hb⟩
  | false =>
    have HE : Hid (without sh false = sh.take (n - 1)) := by show _ = _; unfold without; rw [unhide hlen]; rfl
    have hn1 : (n : Int) - 1 = ((n - 1 : Nat) : Int) := by omega
    go_enter Tryz.func16, Tryz.ntmps16
    go_wp2_with fail
    all_goals
      refine (l3Ints_some _ _ _ (sh.take (n - 1)) _ (by first | exact row_head (unhide H) (Nat.sub_le _ _))).mono ?_
      rintro e w1 ⟨a', cap', rfl, hO, hb⟩
      go_wp2
      go_ret
      exact ⟨a', cap', rfl, by rw [unhide HE]; exact hO, hb⟩

end Go.Proofs.YtheocceclpplhaaGreatDoor
namespace Go.Proofs.YtheocceclpplhaaGreatDoor
open Go.RowKit

theorem owns_cap {w : World} {base e size n m cap : Nat} {a : Option Addr} {xs : List Value} (h : w.ownsRow base e size (.slice a m cap) n xs) : n ≤ cap := by
  rcases h.2 with ⟨e, h0⟩ | ⟨g, cap', cur, e, _, _, hc, _⟩
  · omega
  · cases e; exact hc

set_option maxHeartbeats 1000000 in
theorem l4Line_any (c : Bool) (v1 : Value) (a2 : Option Addr) (n2 c2 p n A q : Nat) (dt : List Int) (w : World) (h2 : Row w a2 n2 dt) (hin : ∀ i, i < n → (p * n + i) * A + q < n2) (hp : p ≤ 10000) (hn : n ≤ 10000) (hA : A ≤ 10000) (hq : q ≤ 10000) (hn2 : n2 ≤ 10000) :
    Calls Tryz.prog 18 #[.agg #[.bool c, v1, .slice a2 n2 c2], .int .i64 p, .int .i64 n, .int .i64 A, .int .i64 q] w fun e w' => ∃ a' cap', e = .returned (.slice a' n cap') ∧ Own w' w.heap.size a' n (lineOf dt p n A q) ∧ Below w.heap.size w w' ∧ n ≤ cap' := by
  have H2 := hide h2
  have HIN := hide hin
  clear h2 hin
  obtain ⟨i0, hi, hz0, hz1, hz2⟩ := info_parts info_int
  go_enter Tryz.func18, Tryz.ntmps18
  go_wp2_with fail
  go_loopw [11, 12] (fun v i wr => ∃ k : Nat, k ≤ n ∧ i = .int .i64 k ∧ Hid (wr.ownsRow (w.heap.size + 1) 3 1 v k (((lineOf dt p n A q).take k).map (Value.int .i64))) ∧ Hid (Below (w.heap.size + 1) (w.alloc (.cells #[.bool c, v1, .slice a2 n2 c2] 26)) wr)) (fun _ i _ => n - (intOf i).toNat)
  case atStart =>
    refine ⟨0, Nat.zero_le _, rfl, ?_, ?_⟩
    · have := owns_empty (w.alloc (.cells #[.bool c, v1, .slice a2 n2 c2] 26))
      show World.ownsRow _ _ _ _ _ _ _
      simpa using this
    · exact (Below.refl _ _).alloc (by simp) _
  case round =>
    obtain ⟨k, hk, rfl, hown, hbl⟩ := hrel
    have hsz := (unhide hbl).size
    simp at hsz
    by_cases hlt : k < n
    · obtain ⟨j, hj⟩ : ∃ j, j = (p * n + k) * A + q := ⟨_, rfl⟩
      have hj2 := unhide HIN k hlt
      rw [← hj] at hj2
      have hidx : ((p : Int) * (n : Int) + (k : Int)) * (A : Int) + (q : Int) = (j : Int) := by rw [hj]; simp
      have e1a : 0 ≤ (p : Int) * (n : Int) := by rw [← Int.natCast_mul]; omega
      have e1b : (p : Int) * (n : Int) ≤ 100000000 := by
        have := Nat.mul_le_mul hp hn
        rw [← Int.natCast_mul]; omega
      have e2a : 0 ≤ ((p : Int) * (n : Int) + (k : Int)) * (A : Int) := Int.mul_nonneg (by omega) (by omega)
      have e2b : ((p : Int) * (n : Int) + (k : Int)) * (A : Int) ≤ 10000 := by omega
      obtain ⟨b, off, rfl, hblt, hc⟩ := (unhide H2).get hj2
      have hB0 : Below w.heap.size w wr := ((Below.refl _ _).alloc (Nat.le_refl _) _).trans ((unhide hbl).mono (by omega))
      have hc' := (hB0.cell (p := ⟨b, off + j, none⟩) hblt).trans hc
      have hbox : wr.cell? ⟨w.heap.size, 2, none⟩ = some (.slice (some ⟨b, off, none⟩) n2 c2) := by
        rw [(unhide hbl).cell (p := ⟨w.heap.size, 2, none⟩) (by simp)]
        simp
      obtain ⟨x, hx⟩ : ∃ x, x = dt.getD j 0 := ⟨_, rfl⟩
      rw [← hx] at hc'
      have HX : Hid (((lineOf dt p n A q).take (k + 1)).map (Value.int .i64) = ((lineOf dt p n A q).take k).map (Value.int .i64) ++ [.int .i64 x]) := by
        show _ = _
        rw [line_snoc _ _ _ _ _ _ hlt, ← hj, ← hx]
      clear hc hx hj
      have hown1 := unhide hown
      have HBL := hide (unhide hbl)
      clear hown hbl hB0
      go_wp2_with (at_builtin; refine wpList_append_own _ rfl _ _ 22 rfl (w.heap.size + 1) 3 i0 (.int .i64 0) 1 8 Tryz.underlying22 hi hz0 hz1 hz2 rfl (by decide) _ _ _ rfl (hown1.alloc _) ⟨wr.heap.size, 0, none⟩ 1 1 [.int .i64 x] rfl rfl (cells_new _ _) (one_one _) (by unfold maxLen; omega) (by omega) (by simp; omega) ?_; intro u1 w6 hown' hgrow hnil; clear hnil; obtain ⟨av, cv, rfl⟩ := owns_slice hown'; have HB := hide (below_append _ hown1 hsz hgrow); clear hgrow)
      have HN' : Hid (w6.ownsRow (w.heap.size + 1) 3 1 (.slice av (k + 1) cv) (k + 1) (((lineOf dt p n A q).take (k + 1)).map (Value.int .i64))) := by
        show w6.ownsRow _ _ _ _ _ _
        rw [unhide HX]
        exact hown'
      go_roundw
      case rel => exact ⟨k + 1, by omega, by go_num, HN', (unhide HBL).trans (unhide HB)⟩
      case measure => simp [intOf]; omega
    · have hkn : k = n := by omega
      subst hkn
      have hown1 := unhide hown
      rw [List.take_of_length_le (by rw [line_len]; exact Nat.le_refl _)] at hown1
      obtain ⟨ad, cd, rfl, hD⟩ := Own.of_owns hown1 (by omega)
      have hcap := owns_cap hown1
      have HD := hide (hD.mono (B' := w.heap.size) (by omega))
      have HB0 : Hid (Below w.heap.size w wr) := ((Below.refl _ _).alloc (Nat.le_refl _) _).trans ((unhide hbl).mono (by omega))
      clear hown1 hown hD hbl
      go_wp2
      go_ret
      exact ⟨ad, cd, rfl, unhide HD, unhide HB0, hcap⟩

end Go.Proofs.YtheocceclpplhaaGreatDoor
namespace Go.Proofs.YtheocceclpplhaaGreatDoor
open Go.RowKit

set_option maxHeartbeats 1000000 in
theorem l4Line_some (c : Bool) (v1 : Value) (a2 : Option Addr) (n2 c2 p n A q : Nat) (dt : List Int) (w : World) (h2 : Row w a2 n2 dt) (hin : ∀ i, i < n → (p * n + i) * A + q < n2) (hp : p ≤ 10000) (hn : n ≤ 10000) (hA : A ≤ 10000) (hq : q ≤ 10000) (hn2 : n2 ≤ 10000) :
    Calls Tryz.prog 18 #[.agg #[.bool c, v1, .slice a2 n2 c2], .int .i64 p, .int .i64 n, .int .i64 A, .int .i64 q] w fun e w' => ∃ g cap', e = .returned (.slice (some ⟨g, 0, none⟩) n cap') ∧ Own w' w.heap.size (some ⟨g, 0, none⟩) n (lineOf dt p n A q) ∧ Below w.heap.size w w' ∧ n ≤ cap' := by
  have H2 := hide h2
  have HIN := hide hin
  clear h2 hin
  obtain ⟨i0, hi, hz0, hz1, hz2⟩ := info_parts info_int
  go_enter Tryz.func18, Tryz.ntmps18
  go_wp2_with fail
  go_loopw [11, 12] (fun v i wr => ∃ k g cap : Nat, k ≤ n ∧ i = .int .i64 k ∧ v = .slice (some ⟨g, 0, none⟩) k cap ∧ Hid (wr.ownsRow (w.heap.size + 1) 3 1 v k (((lineOf dt p n A q).take k).map (Value.int .i64))) ∧ Hid (Below (w.heap.size + 1) (w.alloc (.cells #[.bool c, v1, .slice a2 n2 c2] 26)) wr)) (fun _ i _ => n - (intOf i).toNat)
  case atStart =>
    refine ⟨0, _, _, Nat.zero_le _, rfl, rfl, ?_, ?_⟩
    · have := owns_empty (w.alloc (.cells #[.bool c, v1, .slice a2 n2 c2] 26))
      show World.ownsRow _ _ _ _ _ _ _
      simpa using this
    · exact (Below.refl _ _).alloc (by simp) _
  case round =>
    obtain ⟨k, g, cap, hk, rfl, rfl, hown, hbl⟩ := hrel
    have hsz := (unhide hbl).size
    simp at hsz
    by_cases hlt : k < n
    · obtain ⟨j, hj⟩ : ∃ j, j = (p * n + k) * A + q := ⟨_, rfl⟩
      have hj2 := unhide HIN k hlt
      rw [← hj] at hj2
      have hidx : ((p : Int) * (n : Int) + (k : Int)) * (A : Int) + (q : Int) = (j : Int) := by rw [hj]; simp
      have e1a : 0 ≤ (p : Int) * (n : Int) := by rw [← Int.natCast_mul]; omega
      have e1b : (p : Int) * (n : Int) ≤ 100000000 := by
        have := Nat.mul_le_mul hp hn
        rw [← Int.natCast_mul]; omega
      have e2a : 0 ≤ ((p : Int) * (n : Int) + (k : Int)) * (A : Int) := Int.mul_nonneg (by omega) (by omega)
      have e2b : ((p : Int) * (n : Int) + (k : Int)) * (A : Int) ≤ 10000 := by omega
      obtain ⟨b, off, rfl, hblt, hc⟩ := (unhide H2).get hj2
      have hB0 : Below w.heap.size w wr := ((Below.refl _ _).alloc (Nat.le_refl _) _).trans ((unhide hbl).mono (by omega))
      have hc' := (hB0.cell (p := ⟨b, off + j, none⟩) hblt).trans hc
      have hbox : wr.cell? ⟨w.heap.size, 2, none⟩ = some (.slice (some ⟨b, off, none⟩) n2 c2) := by
        rw [(unhide hbl).cell (p := ⟨w.heap.size, 2, none⟩) (by simp)]
        simp
      obtain ⟨x, hx⟩ : ∃ x, x = dt.getD j 0 := ⟨_, rfl⟩
      rw [← hx] at hc'
      have HX : Hid (((lineOf dt p n A q).take (k + 1)).map (Value.int .i64) = ((lineOf dt p n A q).take k).map (Value.int .i64) ++ [.int .i64 x]) := by
        show _ = _
        rw [line_snoc _ _ _ _ _ _ hlt, ← hj, ← hx]
      clear hc hx hj
      have hown1 := unhide hown
      have HBL := hide (unhide hbl)
      clear hown hbl hB0
      go_wp2_with (at_builtin; refine wpList_append_lies _ rfl _ _ 22 rfl (w.heap.size + 1) 3 i0 (.int .i64 0) 1 8 Tryz.underlying22 hi hz0 hz1 hz2 rfl (by decide) _ _ _ rfl (hown1.alloc _) ⟨wr.heap.size, 0, none⟩ 1 1 [.int .i64 x] rfl rfl (cells_new _ _) (one_one _) (by omega) (by unfold maxLen; omega) (by omega) (by simp; omega) (wr.heap.size + 1) (by simp) ?_; intro g' cap' w6 hown' hgrow hat hlt7; have HB := hide (below_append _ hown1 hsz hgrow); clear hgrow hat hlt7)
      have HN' : Hid (w6.ownsRow (w.heap.size + 1) 3 1 (.slice (some ⟨g', 0, none⟩) (k + 1) cap') (k + 1) (((lineOf dt p n A q).take (k + 1)).map (Value.int .i64))) := by
        show w6.ownsRow _ _ _ _ _ _
        rw [unhide HX]
        exact hown'
      go_roundw
      case rel => exact ⟨k + 1, g', cap', by omega, by go_num, rfl, HN', (unhide HBL).trans (unhide HB)⟩
      case measure => simp [intOf]; omega
    · have hkn : k = n := by omega
      subst hkn
      have hown1 := unhide hown
      rw [List.take_of_length_le (by rw [line_len]; exact Nat.le_refl _)] at hown1
      obtain ⟨ad, cd, hv, hD⟩ := Own.of_owns hown1 (by omega)
      cases hv
      have hcap := owns_cap hown1
      have HD := hide (hD.mono (B' := w.heap.size) (by omega))
      have HB0 : Hid (Below w.heap.size w wr) := ((Below.refl _ _).alloc (Nat.le_refl _) _).trans ((unhide hbl).mono (by omega))
      clear hown1 hown hD hbl
      go_wp2
      go_ret
      exact ⟨g, cap, rfl, unhide HD, unhide HB0, hcap⟩

end Go.Proofs.YtheocceclpplhaaGreatDoor
namespace Go.Proofs.YtheocceclpplhaaGreatDoor
open Go.RowKit

set_option maxHeartbeats 400000 in
theorem l4Equal_any (op : Int) (w : World) : Calls Tryz.prog 44 #[.int .i64 op] w fun e w' => e = .returned (.bool (opEq op)) ∧ w' = w := by
  by_cases h1 : op = 9
  · have q1 : (op == 9) = true := by simp [h1]
    have HE : Hid (opEq op = true) := decide_eq_true (.inl h1)
    clear h1
    go_enter Tryz.func44, Tryz.ntmps44
    go_wp2
    go_ret
    exact ⟨ret_bool HE.out.symm, rfl⟩
  · have q1 : (op == 9) = false := by simp [h1]
    by_cases h2 : op = 10
    · have q2 : (op == 10) = true := by simp [h2]
      have HE : Hid (opEq op = true) := decide_eq_true (.inr h2)
      clear h1 h2
      go_enter Tryz.func44, Tryz.ntmps44
      go_wp2
      go_ret
      exact ⟨ret_bool HE.out.symm, rfl⟩
    · have q2 : (op == 10) = false := by simp [h2]
      have HE : Hid (opEq op = false) := decide_eq_false (by omega)
      clear h1 h2
      go_enter Tryz.func44, Tryz.ntmps44
      go_wp2
      go_ret
      exact ⟨ret_bool HE.out.symm, rfl⟩

theorem l4Two_eq {a b : Int} (ha : -1000000000000000 ≤ a ∧ a ≤ 1000000000000000) (hb : -1000000000000000 ≤ b ∧ b ≤ 1000000000000000) (op : Int) (hop : opIn op = true) (w : World) (r1 r2 : Int) (hr : Hid (twoOf op a b = (r1, r2))) :
    Calls Tryz.prog 47 #[.int .i64 op, .int .i64 a, .int .i64 b] w fun e w' => e = .returned (.tuple #[.int .i64 r1, .int .i64 r2]) ∧ w' = w := by
  have := l4Two_any ha hb op (of_decide_eq_true hop) w
  rw [unhide hr] at this
  exact this

theorem arr_bd {c : Bool} {sh dt : List Int} (h : arrOk c sh dt = true) (k : Nat) : -1000000000000000 ≤ dt.getD k 0 ∧ dt.getD k 0 ≤ 1000000000000000 := by
  by_cases hk : k < dt.length
  · have h1 : dt.all (dataOk c) = true := by simp [arrOk] at h; simpa using h.2.2
    have h2 := List.all_eq_true.mp h1 (dt.getD k 0) (by simp [hk])
    simp [dataOk] at h2
    simpa using h2.2
  · have e : dt.getD k 0 = 0 := by simp [List.getD, List.getElem?_eq_none (by omega : dt.length ≤ k)]
    rw [e]; omega

set_option maxHeartbeats 1000000 in
theorem l4Elements_any (op : Int) (c d : Bool) (v1 v2 : Value) (a2 b2 : Option Addr) (n2 m2 c2 d2 : Nat) (dt dt' : List Int) (i j : Nat) (w : World) (h2 : Row w a2 n2 dt) (k2 : Row w b2 m2 dt') (hi : i < n2) (hj : j < m2) (hop : opIn op = true)
    (hA : ∀ k, -1000000000000000 ≤ dt.getD k 0 ∧ dt.getD k 0 ≤ 1000000000000000) (hB : ∀ k, -1000000000000000 ≤ dt'.getD k 0 ∧ dt'.getD k 0 ≤ 1000000000000000) (r1 r2 : Int) (hr : Hid (elemOf op c dt i d dt' j = (r1, r2))) :
    Calls Tryz.prog 45 #[.int .i64 op, .agg #[.bool c, v1, .slice a2 n2 c2], .int .i64 i, .agg #[.bool d, v2, .slice b2 m2 d2], .int .i64 j] w fun e w' => e = .returned (.tuple #[.int .i64 r1, .int .i64 r2]) ∧ Below w.heap.size w w' := by
  have hs2 := h2.small
  have ks2 := k2.small
  obtain ⟨ba, oa, rfl, hla, hca⟩ := h2.get hi
  obtain ⟨bb, ob, rfl, hlb, hcb⟩ := k2.get hj
  have hA' := hA i
  have hB' := hB j
  have HOP := hide hop
  clear h2 k2 hA hB hop
  obtain ⟨x, hx⟩ : ∃ x, x = dt.getD i 0 := ⟨_, rfl⟩
  obtain ⟨y, hy⟩ : ∃ y, y = dt'.getD j 0 := ⟨_, rfl⟩
  rw [← hx] at hca hA'
  rw [← hy] at hcb hB'
  have hW : ∀ o1 o2, Below w.heap.size w ((w.alloc o1).alloc o2) := fun o1 o2 => ((Below.refl _ _).alloc (Nat.le_refl _) _).alloc (by simp) _
  by_cases hcd : c = d
  · subst hcd
    have HR : Hid (twoOf op x y = (r1, r2)) := by have := unhide hr; unfold elemOf at this; rw [if_neg (by simp), ← hx, ← hy] at this; exact this
    clear hr hx hy
    cases c
    all_goals
      go_enter Tryz.func45, Tryz.ntmps45
      go_wp2
      go_quiet ((go_at_call 47; exact Calls.quiet_of_same (l4Two_eq hA' hB' op (unhide HOP) _ r1 r2 HR)))
      go_wp2
      go_ret2
      exact ⟨rfl, Below.drewN (hW _ _) _⟩
  · have HR : Hid ((truth (op == 10), (0 : Int)) = (r1, r2)) := by have := unhide hr; unfold elemOf at this; rw [if_pos hcd] at this; exact this
    clear hr hx hy hA' hB'
    obtain ⟨q, hq⟩ : ∃ q, (op == 10) = q := ⟨_, rfl⟩
    rw [hq] at HR
    have hcd' : (c = true ∧ d = false) ∨ (c = false ∧ d = true) := by cases c <;> cases d <;> simp_all
    clear hcd
    rcases hcd' with ⟨rfl, rfl⟩ | ⟨rfl, rfl⟩
    all_goals
      go_enter Tryz.func45, Tryz.ntmps45
      go_wp2_with (go_at_call 59; refine (truth_call _ _).mono ?_; rintro e w1 ⟨rfl, rfl⟩)
      go_ret2
      have e := unhide HR
      simp only [Prod.mk.injEq] at e
      exact ⟨ret_two e.1 e.2, hW _ _⟩

end Go.Proofs.YtheocceclpplhaaGreatDoor
namespace Go.Proofs.YtheocceclpplhaaGreatDoor
open Go.RowKit

set_option maxHeartbeats 4000000 in
theorem l4Empty_any (op : Int) (w : World) (hop : opIn op = true) : Calls Tryz.prog 46 #[.int .i64 op] w fun e w' => e = .returned (.int .i64 (emptyOf op)) ∧ Below w.heap.size w w' := by
  have h : 1 ≤ op ∧ op ≤ 16 := of_decide_eq_true hop
  clear hop
  have h : op = 1 ∨ op = 2 ∨ op = 3 ∨ op = 4 ∨ op = 5 ∨ op = 6 ∨ op = 7 ∨ op = 8 ∨ op = 9 ∨ op = 10 ∨ op = 11 ∨ op = 12 ∨ op = 13 ∨ op = 14 ∨ op = 15 ∨ op = 16 := by omega
  rcases h with rfl | rfl | rfl | rfl | rfl | rfl | rfl | rfl | rfl | rfl | rfl | rfl | rfl | rfl | rfl | rfl
  all_goals
    go_enter Tryz.func46, Tryz.ntmps46
    go_wp2
    go_ret
    exact ⟨ret_int (by decide), (Below.refl _ _).alloc (Nat.le_refl _) _⟩

theorem drop_cons (xs : List Int) (k : Nat) (h : k < xs.length) : xs.drop k = xs.getD k 0 :: xs.drop (k + 1) := by
  rw [List.drop_eq_getElem_cons h]; simp [List.getD, h]

set_option maxHeartbeats 1000000 in
theorem l4Fold_any (op : Int) (a : Option Addr) (n cap : Nat) (xs : List Int) (w : World) (h : Row w a n xs) (hop : opIn op = true) (hv : ∀ k, -1000000000000000 ≤ xs.getD k 0 ∧ xs.getD k 0 ≤ 1000000000000000) :
    Calls Tryz.prog 20 #[.int .i64 op, .slice a n cap] w fun e w' => e = .returned (.tuple #[.int .i64 (foldR op xs).1, .int .i64 (foldR op xs).2]) ∧ Below w.heap.size w w' := by
  have hlen := hide h.len
  have hsm := h.small
  have H := hide h
  have HOP := hide hop
  have HV := hide hv
  clear h hop hv
  by_cases h0 : n = 0
  · subst h0
    have HE : Hid (xs = []) := List.length_eq_zero_iff.mp (unhide hlen)
    go_enter Tryz.func20, Tryz.ntmps20
    go_wp2_with (go_at_call 46; refine (l4Empty_any _ _ (unhide HOP)).mono ?_; rintro e w1 ⟨rfl, hb1⟩)
    go_ret2
    rw [unhide HE]
    exact ⟨rfl, hb1⟩
  · obtain ⟨m, rfl⟩ : ∃ m, n = m + 1 := ⟨n - 1, by omega⟩
    have g0 : ((m : Int) + 1 == 0) = false := by simp; omega
    clear h0
    obtain ⟨b, off, hab, hblt, hc⟩ := (unhide H).get (Nat.lt_succ_self m)
    subst hab
    have hcell : Hid (∀ k, k < m + 1 → w.cell? ⟨b, off + k, none⟩ = some (.int .i64 (xs.getD k 0))) := by
      intro k hk
      obtain ⟨b', o', e', _, hc'⟩ := (unhide H).get hk
      cases e'
      exact hc'
    go_enter Tryz.func20, Tryz.ntmps20
    go_wp2
    go_loop [6, 7] (fun v i => ∃ (k : Nat) (x : Int), k ≤ m ∧ i = .int .i64 ((k : Int) - 1) ∧ v = .int .i64 x ∧ Hid (foldR op (xs.drop k) = (x, 0)) ∧ Hid (-1000000000000000 ≤ x ∧ x ≤ 1000000000000000)) (fun _ i => (intOf i + 1).toNat)
    case atStart =>
      refine ⟨m, _, Nat.le_refl _, by go_num, rfl, ?_, unhide HV m⟩
      show _ = _
      rw [drop_cons xs m (by rw [unhide hlen]; omega), List.drop_eq_nil_of_le (by rw [unhide hlen]; omega)]
      rfl
    case round =>
      obtain ⟨k, x, hk, rfl, rfl, hf, hx⟩ := hrel
      cases k with
      | zero =>
        have HE : Hid (foldR op xs = (x, 0)) := by have := unhide hf; rwa [List.drop_zero] at this
        clear hf
        go_wp2
        go_ret2
        exact ⟨ret_two (by rw [unhide HE]) (by rw [unhide HE]), Below.refl _ _⟩
      | succ j =>
        have hc' := unhide hcell j (by omega)
        have hy := unhide HV j
        obtain ⟨y, hy'⟩ : ∃ y, y = xs.getD j 0 := ⟨_, rfl⟩
        rw [← hy'] at hc' hy
        obtain ⟨r, hr⟩ : ∃ r, twoOf op y x = r := ⟨_, rfl⟩
        obtain ⟨r1, r2⟩ := r
        have HRR := hide hr
        have HF : Hid (foldR op (xs.drop j) = (r1, r2)) := by
          show _ = _
          rw [drop_cons xs j (by rw [unhide hlen]; omega), foldR_cons (by
            intro e
            have := congrArg List.length e
            rw [List.length_drop, unhide hlen] at this
            simp at this; omega), unhide hf, ← hy', if_neg (by simp)]
          exact hr
        have hj : (((j + 1 : Nat) : Int) - 1) = (j : Int) := by omega
        rw [hj]
        clear hj hr hy'
        by_cases hcode : r2 = 0
        · subst hcode
          have hb : Hid (-1000000000000000 ≤ r1 ∧ r1 ≤ 1000000000000000) := by
            have := two_bd op y x
            rw [unhide HRR] at this
            exact this
          go_wp2_with (go_at_call 47; refine (l4Two_eq hy (unhide hx) op (unhide HOP) _ r1 0 HRR).mono ?_; rintro e w1 ⟨rfl, rfl⟩)
          go_round
          case rel => exact ⟨j, r1, by omega, by go_num, rfl, HF, hb⟩
          case measure => simp [intOf]
        · have hz : r1 = 0 := by
            have := two_code (op := op) (a := y) (b := x) (by rw [unhide HRR]; exact hcode)
            rw [unhide HRR] at this
            exact this
          subst hz
          have HE : Hid (foldR op xs = (0, r2)) := by
            show _ = _
            have := foldR_code (op := op) (xs.take j) (r := xs.drop j) (by
              intro e
              have := congrArg List.length e
              rw [List.length_drop, unhide hlen] at this
              simp at this; omega) (unhide HF) hcode
            rwa [List.take_append_drop] at this
          have hcb : (r2 != 0) = true := by simp [hcode]
          clear hcode
          go_wp2_with (go_at_call 47; refine (l4Two_eq hy (unhide hx) op (unhide HOP) _ 0 r2 HRR).mono ?_; rintro e w1 ⟨rfl, rfl⟩)
          go_ret2
          exact ⟨ret_two (by rw [unhide HE]) (by rw [unhide HE]), Below.refl _ _⟩

end Go.Proofs.YtheocceclpplhaaGreatDoor
namespace Go.Proofs.YtheocceclpplhaaGreatDoor
open Go.RowKit

set_option maxHeartbeats 400000 in
theorem l3ShapeOk_any (a : Option Addr) (n cap : Nat) (sh : List Int) (w : World) (h : Row w a n sh) : Calls Tryz.prog 42 #[.slice a n cap] w fun e w' => e = .returned (.bool (shapeB sh)) ∧ w' = w := by
  have hlen := hide h.len
  have hsm := h.small
  have H := hide h
  clear h
  by_cases h5 : 5 < n
  · have HE := hide (shape_long (unhide hlen) h5)
    go_enter Tryz.func42, Tryz.ntmps42
    go_wp2
    go_ret
    exact ⟨ret_bool HE.out.symm, rfl⟩
  · obtain ⟨cn, hcn⟩ : ∃ cn, countOf sh = cn := ⟨_, rfl⟩
    have HC := hide hcn
    have HE : Hid (shapeB sh = decide (0 ≤ cn)) := by show _ = _; unfold shapeB; rw [decide_eq_true (by rw [unhide hlen]; omega), hcn]; rfl
    clear hcn
    go_enter Tryz.func42, Tryz.ntmps42
    go_wp2_with (go_at_call 39; refine (l3Count_eq _ _ _ sh _ (unhide H) cn HC).mono ?_; rintro e w1 ⟨rfl, rfl⟩)
    go_ret
    exact ⟨ret_bool HE.out.symm, rfl⟩

theorem l3ShapeOk_eq (a : Option Addr) (n cap : Nat) (sh : List Int) (w : World) (h : Row w a n sh) (r : Bool) (hr : Hid (shapeB sh = r)) : Calls Tryz.prog 42 #[.slice a n cap] w fun e w' => e = .returned (.bool r) ∧ w' = w := by
  rw [← hr.out]; exact l3ShapeOk_any a n cap sh w h

set_option maxHeartbeats 1000000 in
theorem l4Joined_any (a b : Addr) (n m ca cb : Nat) (xs ys : List Int) (w : World) (hx : Row w (some a) n xs) (hy : Row w (some b) m ys) (hn : n ≤ 10000) (hm : m ≤ 10000) (r : Bool) (hr : Hid (shapeB (xs ++ ys) = r)) :
    Calls Tryz.prog 15 #[.slice (some a) n ca, .slice (some b) m cb] w fun e w' => ∃ a' cap', e = .returned (.tuple #[.slice a' (n + m) cap', .bool r]) ∧ Own w' w.heap.size a' (n + m) (xs ++ ys) ∧ Below w.heap.size w w' := by
  have HX := hide hx
  have HY := hide hy
  have hly := hy.len
  clear hx hy
  obtain ⟨i0, hi, hz0, hz1, hz2⟩ := info_parts info_int
  go_enter Tryz.func15, Tryz.ntmps15
  go_wp2_with fail
  refine (l3Ints_owns _ _ _ xs _ (unhide HX)).mono ?_
  rintro e w1 ⟨a', cap', rfl, ho, hb1⟩
  have hs1 := hb1.size
  have HB1 := hide hb1
  have HY1 := hide ((unhide HY).below (Nat.le_refl _) hb1)
  clear hb1
  go_wp2_with (at_builtin; refine wpList_append_own _ rfl _ _ 22 rfl w.heap.size 3 i0 (.int .i64 0) 1 8 Tryz.underlying22 hi hz0 hz1 hz2 rfl (by decide) _ _ _ rfl ho b m cb (ys.map (Value.int .i64)) rfl (by simpa using hly) (cells_ints (unhide HY1)) (one_ints ys) (by unfold maxLen; omega) (by omega) (by omega) ?_; intro v1 w2 hown hgrow hnil; clear hnil; (have hown' : w2.ownsRow w.heap.size 3 1 v1 (n + m) ((xs ++ ys).map (Value.int .i64)) := by rw [List.map_append]; exact hown); obtain ⟨a2, cap2, rfl, ho2⟩ := Own.of_owns hown' (by omega); have HO2 := hide ho2; (have HB2 : Hid (Below w.heap.size w w2) := (unhide HB1).grown hgrow (by omega) (by intro k hk; rcases ho.2 with ⟨e, _⟩ | ⟨g, c', cur, e, hg, _⟩; (cases e; cases hk); (cases e; cases hk; exact hg))); clear hown hown' hgrow ho2)
  refine (l3ShapeOk_eq _ _ _ (xs ++ ys) _ (unhide HO2).row r hr).mono ?_
  rintro e w2 ⟨rfl, rfl⟩
  go_wp2
  refine bodyPost_ret (v := .tuple #[.slice a2 (n + m) cap2, .bool r]) (by simp [results, Tryz.results15, go_sem]) rfl ?_
  exact ⟨a2, cap2, rfl, unhide HO2, unhide HB2⟩

end Go.Proofs.YtheocceclpplhaaGreatDoor
