import Derived.Test.YtgjpchnkodnieaaGreatDoorMFit0
import Derived.Test.YtgjpchnkodnieaaGreatDoorMFit0
import Derived.BigQuiet
import Derived.Deep.DeepCutAuto
namespace Go.Proofs.YtgjpchnkodnieaaGreatDoor
open Go.RowKit

theorem ret_three {a b c a' b' c' : Int} (ha : a = a') (hb : b = b') (hc : c = c') : Ending.returned (.tuple #[.int .i64 a, .int .i64 b, .int .i64 c]) = .returned (.tuple #[.int .i64 a', .int .i64 b', .int .i64 c']) := by rw [ha, hb, hc]

theorem drop_snoc (sh : List Int) (k i : Nat) (h : k < sh.length) (hi : i ≤ k) : (sh.take (k + 1)).drop i = (sh.take k).drop i ++ [sh.getD k 0] := by
  rw [take_snoc sh k h, List.drop_append_of_le_length (by simp; omega)]

theorem prodAll_one (xs : List Int) (x : Int) : prodAll (xs ++ [x]) = prodAll xs * x := by simp [prodAll]

/-- The products in front of and behind place t of the first k. -/
def partB (sh : List Int) (t k : Nat) : Int := prodAll (sh.take (min k t))
def partA (sh : List Int) (t k : Nat) : Int := prodAll ((sh.take k).drop (t + 1))

theorem partB_lt {sh : List Int} {t k : Nat} (hk : k < sh.length) (h : k < t) : partB sh t (k + 1) = partB sh t k * sh.getD k 0 := by
  unfold partB; rw [Nat.min_eq_left (by omega), Nat.min_eq_left (by omega), take_snoc sh k hk, prodAll_one]
theorem partB_ge {sh : List Int} {t k : Nat} (h : t ≤ k) : partB sh t (k + 1) = partB sh t k := by
  unfold partB; rw [Nat.min_eq_right (by omega), Nat.min_eq_right (by omega)]
theorem partA_gt {sh : List Int} {t k : Nat} (hk : k < sh.length) (h : t < k) : partA sh t (k + 1) = partA sh t k * sh.getD k 0 := by
  unfold partA; rw [drop_snoc sh k (t + 1) hk (by omega), prodAll_one]
theorem partA_le {sh : List Int} {t k : Nat} (h : k ≤ t) : partA sh t (k + 1) = partA sh t k := by
  unfold partA; rw [List.drop_eq_nil_of_le (by simp; omega), List.drop_eq_nil_of_le (by simp; omega)]
theorem partB_bd {sh : List Int} (h : ShapeIn sh) (t k : Nat) : 0 ≤ partB sh t k ∧ partB sh t k ≤ 10000 := (h.take _).bd
theorem partA_bd {sh : List Int} (h : ShapeIn sh) (t k : Nat) : 0 ≤ partA sh t k ∧ partA sh t k ≤ 10000 := ((h.take _).drop _).bd

set_option maxHeartbeats 1000000 in
theorem l4Axis_any (a : Option Addr) (n cap : Nat) (sh : List Int) (first : Bool) (w : World) (h : Row w a n sh) (hS : ShapeIn sh) (hn : 0 < n) :
    Calls Tryz.prog 106 #[.slice a n cap, .bool first] w fun e w' => e = .returned (.tuple #[.int .i64 (axisB sh first), .int .i64 (axisN sh first), .int .i64 (axisA sh first)]) ∧ Below w.heap.size w w' := by
  have hlen := hide h.len
  have hsm := h.small
  have H := hide h
  have HS := hide hS
  clear h hS
  obtain ⟨t, ht⟩ : ∃ t, axisAt sh first = t := ⟨_, rfl⟩
  have htn : t < n := by rw [← ht]; unfold axisAt; rw [unhide hlen]; split <;> omega
  have HT := hide ht
  have HB : Hid (axisB sh first = partB sh t n) := by show _ = _; unfold axisB partB; rw [ht, Nat.min_eq_right (by omega)]
  have HA : Hid (axisA sh first = partA sh t n) := by show _ = _; unfold axisA partA; rw [ht, List.take_of_length_le (by rw [unhide hlen]; exact Nat.le_refl _)]
  have HN : Hid (axisN sh first = sh.getD t 0) := by show _ = _; unfold axisN; rw [ht]
  obtain ⟨bt, ot, hat, hltt, hct⟩ := (unhide H).get htn
  subst hat
  have hcell : Hid (∀ k, k < n → w.cell? ⟨bt, ot + k, none⟩ = some (.int .i64 (sh.getD k 0))) := by
    intro k hk
    obtain ⟨b', o', e', _, hc'⟩ := (unhide H).get hk
    cases e'
    exact hc'
  have hft : (first = true ∧ t = 0) ∨ (first = false ∧ (n : Int) - 1 = (t : Int)) := by
    have := unhide HT
    unfold axisAt at this
    rw [unhide hlen] at this
    cases first
    · exact .inr ⟨rfl, by simp at this; omega⟩
    · exact .inl ⟨rfl, by simp at this; omega⟩
  clear ht
  go_enter Tryz.func106, Tryz.ntmps106
  go_upto_if 14 with fail
  go_cut [7] (fun b wx => w = wx ∧ b = .int .i64 t)
  case first =>
    rcases hft with ⟨rfl, rfl⟩ | ⟨rfl, hnt⟩
    · go_wp2
      go_meet
      case rel => exact ⟨rfl, rfl⟩
    · go_wp2
      go_meet
      case rel => exact ⟨rfl, by rw [← hnt]⟩
  case rest =>
    obtain ⟨rfl, rfl⟩ := hcut
    clear hft
    go_wp2
    go_loop [8, 9, 10] (fun p q i => ∃ (k : Nat) (x y : Int), k ≤ n ∧ i = .int .i64 k ∧ p = .int .i64 x ∧ q = .int .i64 y ∧ Hid (partB sh t k = x) ∧ Hid (partA sh t k = y)) (fun _ _ i => n - (intOf i).toNat)
    case atStart => exact ⟨0, 1, 1, Nat.zero_le _, rfl, rfl, rfl, by show _ = _; simp [partB, prodAll], by show _ = _; simp [partA, prodAll]⟩
    case round =>
      obtain ⟨k, x, y, hk, rfl, rfl, rfl, hx, hy⟩ := hrel
      by_cases hlt : k < n
      · have hc := unhide hcell k hlt
        have hks : Hid (k < sh.length) := by show k < sh.length; rw [unhide hlen]; exact hlt
        obtain ⟨z, hz⟩ : ∃ z, z = sh.getD k 0 := ⟨_, rfl⟩
        rw [← hz] at hc
        have HZ := hide hz
        clear hz
        by_cases h1 : k < t
        · have HX : Hid (partB sh t (k + 1) = x * z) := by show _ = _; rw [partB_lt (unhide hks) h1, unhide hx, unhide HZ]
          have HY : Hid (partA sh t (k + 1) = y) := by show _ = _; rw [partA_le (by omega), unhide hy]
          have hb := partB_bd (unhide HS) t (k + 1)
          rw [unhide HX] at hb
          obtain ⟨hb0, hb1⟩ := hb
          go_wp2
          go_round
          case rel => exact ⟨k + 1, x * z, y, by omega, by go_num, rfl, rfl, HX, HY⟩
          case measure => simp [intOf]; omega
        · by_cases h2 : t < k
          · have HX : Hid (partB sh t (k + 1) = x) := by show _ = _; rw [partB_ge (by omega), unhide hx]
            have HY : Hid (partA sh t (k + 1) = y * z) := by show _ = _; rw [partA_gt (unhide hks) h2, unhide hy, unhide HZ]
            have hb := partA_bd (unhide HS) t (k + 1)
            rw [unhide HY] at hb
            obtain ⟨hb0, hb1⟩ := hb
            go_wp2
            go_round
            case rel => exact ⟨k + 1, x, y * z, by omega, by go_num, rfl, rfl, HX, HY⟩
            case measure => simp [intOf]; omega
          · have HX : Hid (partB sh t (k + 1) = x) := by show _ = _; rw [partB_ge (by omega), unhide hx]
            have HY : Hid (partA sh t (k + 1) = y) := by show _ = _; rw [partA_le (by omega), unhide hy]
            go_wp2
            go_round
            case rel => exact ⟨k + 1, x, y, by omega, by go_num, rfl, rfl, HX, HY⟩
            case measure => simp [intOf]; omega
      · have hkn : k = n := by omega
        subst hkn
        go_wp2
        go_quiet (fail)
        go_wp2
        refine bodyPost_ret (v := .tuple #[.int .i64 x, .int .i64 (sh.getD t 0), .int .i64 y]) (by simp [results, Tryz.results106, go_sem]) rfl ?_
        exact ⟨ret_three ((unhide HB).trans (unhide hx)).symm (unhide HN).symm ((unhide HA).trans (unhide hy)).symm, Below.drewN (Below.refl _ _) _⟩

theorem row_tail {w : World} {b off n : Nat} {zs : List Int} (h : Row w (some ⟨b, off, none⟩) n zs) (hn : 0 < n) : Row w (some ⟨b, off + 1, none⟩) (n - 1) (zs.drop 1) := by
  refine ⟨by rw [List.length_drop, h.len], by have := h.small; omega, ?_⟩
  rcases h.at_ with h0 | ⟨b', o', e, hlt, hc⟩
  · omega
  · cases e
    refine .inr ⟨b, off + 1, rfl, hlt, fun i hi => ?_⟩
    have := hc (i + 1) (by omega)
    rw [show off + 1 + i = off + (i + 1) by omega, this]
    simp [List.getD]

theorem row_head {w : World} {a : Option Addr} {n m : Nat} {zs : List Int} (h : Row w a n zs) (hm : m ≤ n) : Row w a m (zs.take m) := by
  refine ⟨by rw [List.length_take, h.len]; omega, by have := h.small; omega, ?_⟩
  rcases h.at_ with h0 | ⟨b', o', e, hlt, hc⟩
  · exact .inl (by omega)
  · refine .inr ⟨b', o', e, hlt, fun i hi => ?_⟩
    rw [hc i (by omega)]
    simp [List.getD, hi]

end Go.Proofs.YtgjpchnkodnieaaGreatDoor
