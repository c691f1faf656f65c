import Derived.Test.YtabjnlhhefkekaaDoorFoldMath
import Derived.Test.YtabjnlhhefkekaaDoorSpecGrow
import Derived.BigQuiet
import Derived.Deep.DeepCutAuto
import Derived.Test.YtabjnlhhefkekaaDoorGatherMath
import Derived.Test.YtabjnlhhefkekaaDoorSpecTwoE
import Derived.Test.YtabjnlhhefkekaaDoorSpecBox
import Derived.Deep.RegionHeld
import Derived.Test.YtabjnlhhefkekaaDoorLawArrBase
import Derived.Deep.AppendLies
import Derived.Test.YtabjnlhhefkekaaDoorSpecNone
namespace Go.Proofs.YtabjnlhhefkekaaDoor
open Go.RowKit

theorem ret_three {a b c a' b' c' : Int} (ha : a = a') (hb : b = b') (hc : c = c') : Ending.returned (.tuple #[.int .i64 a, .int .i64 b, .int .i64 c]) = .returned (.tuple #[.int .i64 a', .int .i64 b', .int .i64 c']) := by rw [ha, hb, hc]

theorem drop_snoc (sh : List Int) (k i : Nat) (h : k < sh.length) (hi : i ≤ k) : (sh.take (k + 1)).drop i = (sh.take k).drop i ++ [sh.getD k 0] := by
  rw [take_snoc sh k h, List.drop_append_of_le_length (by simp; omega)]

theorem prodAll_one (xs : List Int) (x : Int) : prodAll (xs ++ [x]) = prodAll xs * x := by simp [prodAll]

/-- The products in front of and behind place t of the first k. -/
def partB (sh : List Int) (t k : Nat) : Int := prodAll (sh.take (min k t))
def partA (sh : List Int) (t k : Nat) : Int := prodAll ((sh.take k).drop (t + 1))

theorem partB_lt {sh : List Int} {t k : Nat} (hk : k < sh.length) (h : k < t) : partB sh t (k + 1) = partB sh t k * sh.getD k 0 := by
  unfold partB; rw [Nat.min_eq_left (by omega), Nat.min_eq_left (by omega), take_snoc sh k hk, prodAll_one]
theorem partB_ge {sh : List Int} {t k : Nat} (h : t ≤ k) : partB sh t (k + 1) = partB sh t k := by
  unfold partB; rw [Nat.min_eq_right (by omega), Nat.min_eq_right (by omega)]
theorem partA_gt {sh : List Int} {t k : Nat} (hk : k < sh.length) (h : t < k) : partA sh t (k + 1) = partA sh t k * sh.getD k 0 := by
  unfold partA; rw [drop_snoc sh k (t + 1) hk (by omega), prodAll_one]
theorem partA_le {sh : List Int} {t k : Nat} (h : k ≤ t) : partA sh t (k + 1) = partA sh t k := by
  unfold partA; rw [List.drop_eq_nil_of_le (by simp; omega), List.drop_eq_nil_of_le (by simp; omega)]
theorem partB_bd {sh : List Int} (h : ShapeIn sh) (t k : Nat) : 0 ≤ partB sh t k ∧ partB sh t k ≤ 10000 := (h.take _).bd
theorem partA_bd {sh : List Int} (h : ShapeIn sh) (t k : Nat) : 0 ≤ partA sh t k ∧ partA sh t k ≤ 10000 := ((h.take _).drop _).bd

set_option maxHeartbeats 1000000 in
theorem l4Axis_any (a : Option Addr) (n cap : Nat) (sh : List Int) (first : Bool) (w : World) (h : Row w a n sh) (hS : ShapeIn sh) (hn : 0 < n) :
    Calls Tryd.prog 52 #[.slice a n cap, .bool first] w fun e w' => e = .returned (.tuple #[.int .i64 (axisB sh first), .int .i64 (axisN sh first), .int .i64 (axisA sh first)]) ∧ Below w.heap.size w w' := by
  have hlen := hide h.len
  have hsm := h.small
  have H := hide h
  have HS := hide hS
  clear h hS
  obtain ⟨t, ht⟩ : ∃ t, axisAt sh first = t := ⟨_, rfl⟩
  have htn : t < n := by rw [← ht]; unfold axisAt; rw [unhide hlen]; split <;> omega
  have HT := hide ht
  have HB : Hid (axisB sh first = partB sh t n) := by show _ = _; unfold axisB partB; rw [ht, Nat.min_eq_right (by omega)]
  have HA : Hid (axisA sh first = partA sh t n) := by show _ = _; unfold axisA partA; rw [ht, List.take_of_length_le (by rw [unhide hlen]; exact Nat.le_refl _)]
  have HN : Hid (axisN sh first = sh.getD t 0) := by show _ = _; unfold axisN; rw [ht]
  obtain ⟨bt, ot, hat, hltt, hct⟩ := (unhide H).get htn
  subst hat
  have hcell : Hid (∀ k, k < n → w.cell? ⟨bt, ot + k, none⟩ = some (.int .i64 (sh.getD k 0))) := by
    intro k hk
    obtain ⟨b', o', e', _, hc'⟩ := (unhide H).get hk
    cases e'
    exact hc'
  have hft : (first = true ∧ t = 0) ∨ (first = false ∧ (n : Int) - 1 = (t : Int)) := by
    have := unhide HT
    unfold axisAt at this
    rw [unhide hlen] at this
    cases first
    · exact .inr ⟨rfl, by simp at this; omega⟩
    · exact .inl ⟨rfl, by simp at this; omega⟩
  clear ht
  go_enter Tryd.func52, Tryd.ntmps52
  go_upto_if 14 with fail
  go_cut [7] (fun b wx => w = wx ∧ b = .int .i64 t)
  case first =>
    rcases hft with ⟨rfl, rfl⟩ | ⟨rfl, hnt⟩
    · go_wp2
      go_meet
      case rel => exact ⟨rfl, rfl⟩
    · go_wp2
      go_meet
      case rel => exact ⟨rfl, by rw [← hnt]⟩
  case rest =>
    obtain ⟨rfl, rfl⟩ := hcut
    clear hft
    go_wp2
    go_loop [8, 9, 10] (fun p q i => ∃ (k : Nat) (x y : Int), k ≤ n ∧ i = .int .i64 k ∧ p = .int .i64 x ∧ q = .int .i64 y ∧ Hid (partB sh t k = x) ∧ Hid (partA sh t k = y)) (fun _ _ i => n - (intOf i).toNat)
    case atStart => exact ⟨0, 1, 1, Nat.zero_le _, rfl, rfl, rfl, by show _ = _; simp [partB, prodAll], by show _ = _; simp [partA, prodAll]⟩
    case round =>
      obtain ⟨k, x, y, hk, rfl, rfl, rfl, hx, hy⟩ := hrel
      by_cases hlt : k < n
      · have hc := unhide hcell k hlt
        have hks : Hid (k < sh.length) := by show k < sh.length; rw [unhide hlen]; exact hlt
        obtain ⟨z, hz⟩ : ∃ z, z = sh.getD k 0 := ⟨_, rfl⟩
        rw [← hz] at hc
        have HZ := hide hz
        clear hz
        by_cases h1 : k < t
        · have HX : Hid (partB sh t (k + 1) = x * z) := by show _ = _; rw [partB_lt (unhide hks) h1, unhide hx, unhide HZ]
          have HY : Hid (partA sh t (k + 1) = y) := by show _ = _; rw [partA_le (by omega), unhide hy]
          have hb := partB_bd (unhide HS) t (k + 1)
          rw [unhide HX] at hb
          obtain ⟨hb0, hb1⟩ := hb
          go_wp2
          go_round
          case rel => exact ⟨k + 1, x * z, y, by omega, by go_num, rfl, rfl, HX, HY⟩
          case measure => simp [intOf]; omega
        · by_cases h2 : t < k
          · have HX : Hid (partB sh t (k + 1) = x) := by show _ = _; rw [partB_ge (by omega), unhide hx]
            have HY : Hid (partA sh t (k + 1) = y * z) := by show _ = _; rw [partA_gt (unhide hks) h2, unhide hy, unhide HZ]
            have hb := partA_bd (unhide HS) t (k + 1)
            rw [unhide HY] at hb
            obtain ⟨hb0, hb1⟩ := hb
            go_wp2
            go_round
            case rel => exact ⟨k + 1, x, y * z, by omega, by go_num, rfl, rfl, HX, HY⟩
            case measure => simp [intOf]; omega
          · have HX : Hid (partB sh t (k + 1) = x) := by show _ = _; rw [partB_ge (by omega), unhide hx]
            have HY : Hid (partA sh t (k + 1) = y) := by show _ = _; rw [partA_le (by omega), unhide hy]
            go_wp2
            go_round
            case rel => exact ⟨k + 1, x, y, by omega, by go_num, rfl, rfl, HX, HY⟩
            case measure => simp [intOf]; omega
      · have hkn : k = n := by omega
        subst hkn
        go_wp2
        go_quiet (fail)
        go_wp2
        refine bodyPost_ret (v := .tuple #[.int .i64 x, .int .i64 (sh.getD t 0), .int .i64 y]) (by simp [results, Tryd.results52, go_sem]) rfl ?_
        exact ⟨ret_three ((unhide HB).trans (unhide hx)).symm (unhide HN).symm ((unhide HA).trans (unhide hy)).symm, Below.drewN (Below.refl _ _) _⟩

theorem row_tail {w : World} {b off n : Nat} {zs : List Int} (h : Row w (some ⟨b, off, none⟩) n zs) (hn : 0 < n) : Row w (some ⟨b, off + 1, none⟩) (n - 1) (zs.drop 1) := by
  refine ⟨by rw [List.length_drop, h.len], by have := h.small; omega, ?_⟩
  rcases h.at_ with h0 | ⟨b', o', e, hlt, hc⟩
  · omega
  · cases e
    refine .inr ⟨b, off + 1, rfl, hlt, fun i hi => ?_⟩
    have := hc (i + 1) (by omega)
    rw [show off + 1 + i = off + (i + 1) by omega, this]
    simp [List.getD]

theorem row_head {w : World} {a : Option Addr} {n m : Nat} {zs : List Int} (h : Row w a n zs) (hm : m ≤ n) : Row w a m (zs.take m) := by
  refine ⟨by rw [List.length_take, h.len]; omega, by have := h.small; omega, ?_⟩
  rcases h.at_ with h0 | ⟨b', o', e, hlt, hc⟩
  · exact .inl (by omega)
  · refine .inr ⟨b', o', e, hlt, fun i hi => ?_⟩
    rw [hc i (by omega)]
    simp [List.getD, hi]

set_option maxHeartbeats 400000 in
theorem l4Without_any (b off n cap : Nat) (sh : List Int) (first : Bool) (w : World) (h : Row w (some ⟨b, off, none⟩) n sh) (hn : 0 < n) (hcap : n ≤ cap) :
    Calls Tryd.prog 59 #[.slice (some ⟨b, off, none⟩) n cap, .bool first] w fun e w' => ∃ a' cap', e = .returned (.slice a' (n - 1) cap') ∧ Own w' w.heap.size a' (n - 1) (without sh first) ∧ Below w.heap.size w w' := by
  have H := hide h
  have hlen := hide h.len
  have hsm := h.small
  clear h
  have hz : ∀ (ad : Addr), n - 1 = 0 → Row w (some ad) (n - 1) (sh.drop 1) := fun ad h0 => by
    rw [h0]
    exact ⟨by rw [List.length_drop, unhide hlen]; exact h0, by omega, .inl rfl⟩
  cases first with
  | true =>
    go_enter Tryd.func59, Tryd.ntmps59
    go_wp2_with fail
    all_goals
      refine (l3Ints_any _ _ _ (sh.drop 1) _ (by first | exact row_tail (unhide H) hn | exact hz _ (by omega))).mono ?_
      rintro e w1 ⟨a', cap', rfl, hO, hb⟩
      go_wp2
      go_ret
      exact ⟨a', cap', rfl, hO, hb⟩
  | false =>
    have HE : Hid (without sh false = sh.take (n - 1)) := by show _ = _; unfold without; rw [unhide hlen]; rfl
    have hn1 : (n : Int) - 1 = ((n - 1 : Nat) : Int) := by omega
    go_enter Tryd.func59, Tryd.ntmps59
    go_wp2_with fail
    all_goals
      refine (l3Ints_any _ _ _ (sh.take (n - 1)) _ (by first | exact row_head (unhide H) (Nat.sub_le _ _))).mono ?_
      rintro e w1 ⟨a', cap', rfl, hO, hb⟩
      go_wp2
      go_ret
      exact ⟨a', cap', rfl, by rw [unhide HE]; exact hO, hb⟩

end Go.Proofs.YtabjnlhhefkekaaDoor
namespace Go.Proofs.YtabjnlhhefkekaaDoor
open Go.RowKit

set_option maxHeartbeats 400000 in
theorem l4Equal_any (op : Int) (w : World) : Calls Tryd.prog 38 #[.int .i64 op] w fun e w' => e = .returned (.bool (opEq op)) ∧ w' = w := by
  by_cases h1 : op = 9
  · have q1 : (op == 9) = true := by simp [h1]
    have HE : Hid (opEq op = true) := decide_eq_true (.inl h1)
    clear h1
    go_enter Tryd.func38, Tryd.ntmps38
    go_wp2
    go_ret
    exact ⟨ret_bool HE.out.symm, rfl⟩
  · have q1 : (op == 9) = false := by simp [h1]
    by_cases h2 : op = 10
    · have q2 : (op == 10) = true := by simp [h2]
      have HE : Hid (opEq op = true) := decide_eq_true (.inr h2)
      clear h1 h2
      go_enter Tryd.func38, Tryd.ntmps38
      go_wp2
      go_ret
      exact ⟨ret_bool HE.out.symm, rfl⟩
    · have q2 : (op == 10) = false := by simp [h2]
      have HE : Hid (opEq op = false) := decide_eq_false (by omega)
      clear h1 h2
      go_enter Tryd.func38, Tryd.ntmps38
      go_wp2
      go_ret
      exact ⟨ret_bool HE.out.symm, rfl⟩

theorem l4Two_eq {a b : Int} (ha : -1000000000000000 ≤ a ∧ a ≤ 1000000000000000) (hb : -1000000000000000 ≤ b ∧ b ≤ 1000000000000000) (op : Int) (hop : opIn op = true) (w : World) (r1 r2 : Int) (hr : Hid (twoOf op a b = (r1, r2))) :
    Calls Tryd.prog 74 #[.int .i64 op, .int .i64 a, .int .i64 b] w fun e w' => e = .returned (.tuple #[.int .i64 r1, .int .i64 r2]) ∧ w' = w := by
  have := l4Two_any ha hb op (of_decide_eq_true hop) w
  rw [unhide hr] at this
  exact this

theorem arr_bd {c : Bool} {sh dt : List Int} (h : arrOk c sh dt = true) (k : Nat) : -1000000000000000 ≤ dt.getD k 0 ∧ dt.getD k 0 ≤ 1000000000000000 := by
  by_cases hk : k < dt.length
  · have h1 : dt.all (dataOk c) = true := by simp [arrOk] at h; simpa using h.2.2
    have h2 := List.all_eq_true.mp h1 (dt.getD k 0) (by simp [hk])
    simp [dataOk] at h2
    simpa using h2.2
  · have e : dt.getD k 0 = 0 := by simp [List.getD, List.getElem?_eq_none (by omega : dt.length ≤ k)]
    rw [e]; omega

set_option maxHeartbeats 1000000 in
theorem l4Elements_any (op : Int) (c d : Bool) (v1 v2 : Value) (a2 b2 : Option Addr) (n2 m2 c2 d2 : Nat) (dt dt' : List Int) (i j : Nat) (w : World) (h2 : Row w a2 n2 dt) (k2 : Row w b2 m2 dt') (hi : i < n2) (hj : j < m2) (hop : opIn op = true)
    (hA : ∀ k, -1000000000000000 ≤ dt.getD k 0 ∧ dt.getD k 0 ≤ 1000000000000000) (hB : ∀ k, -1000000000000000 ≤ dt'.getD k 0 ∧ dt'.getD k 0 ≤ 1000000000000000) (r1 r2 : Int) (hr : Hid (elemOf op c dt i d dt' j = (r1, r2))) :
    Calls Tryd.prog 40 #[.int .i64 op, .agg #[.bool c, v1, .slice a2 n2 c2], .int .i64 i, .agg #[.bool d, v2, .slice b2 m2 d2], .int .i64 j] w fun e w' => e = .returned (.tuple #[.int .i64 r1, .int .i64 r2]) ∧ Below w.heap.size w w' := by
  have hs2 := h2.small
  have ks2 := k2.small
  obtain ⟨ba, oa, rfl, hla, hca⟩ := h2.get hi
  obtain ⟨bb, ob, rfl, hlb, hcb⟩ := k2.get hj
  have hA' := hA i
  have hB' := hB j
  have HOP := hide hop
  clear h2 k2 hA hB hop
  obtain ⟨x, hx⟩ : ∃ x, x = dt.getD i 0 := ⟨_, rfl⟩
  obtain ⟨y, hy⟩ : ∃ y, y = dt'.getD j 0 := ⟨_, rfl⟩
  rw [← hx] at hca hA'
  rw [← hy] at hcb hB'
  have hW : ∀ o1 o2, Below w.heap.size w ((w.alloc o1).alloc o2) := fun o1 o2 => ((Below.refl _ _).alloc (Nat.le_refl _) _).alloc (by simp) _
  by_cases hcd : c = d
  · subst hcd
    have HR : Hid (twoOf op x y = (r1, r2)) := by have := unhide hr; unfold elemOf at this; rw [if_neg (by simp), ← hx, ← hy] at this; exact this
    clear hr hx hy
    cases c
    all_goals
      go_enter Tryd.func40, Tryd.ntmps40
      go_wp2
      go_quiet ((go_at_call 74; exact Calls.quiet_of_same (l4Two_eq hA' hB' op (unhide HOP) _ r1 r2 HR)))
      go_wp2
      go_ret2
      exact ⟨rfl, Below.drewN (hW _ _) _⟩
  · have HR : Hid ((truth (op == 10), (0 : Int)) = (r1, r2)) := by have := unhide hr; unfold elemOf at this; rw [if_pos hcd] at this; exact this
    clear hr hx hy hA' hB'
    obtain ⟨q, hq⟩ : ∃ q, (op == 10) = q := ⟨_, rfl⟩
    rw [hq] at HR
    have hcd' : (c = true ∧ d = false) ∨ (c = false ∧ d = true) := by cases c <;> cases d <;> simp_all
    clear hcd
    rcases hcd' with ⟨rfl, rfl⟩ | ⟨rfl, rfl⟩
    all_goals
      go_enter Tryd.func40, Tryd.ntmps40
      go_wp2_with (go_at_call 63; refine (truth_call _ _).mono ?_; rintro e w1 ⟨rfl, rfl⟩)
      go_ret2
      have e := unhide HR
      simp only [Prod.mk.injEq] at e
      exact ⟨ret_two e.1 e.2, hW _ _⟩

end Go.Proofs.YtabjnlhhefkekaaDoor
namespace Go.Proofs.YtabjnlhhefkekaaDoor
open Go.RowKit

set_option maxHeartbeats 4000000 in
theorem l4Empty_any (op : Int) (w : World) (hop : opIn op = true) : Calls Tryd.prog 82 #[.int .i64 op] w fun e w' => e = .returned (.int .i64 (emptyOf op)) ∧ Below w.heap.size w w' := by
  have h : 1 ≤ op ∧ op ≤ 16 := of_decide_eq_true hop
  clear hop
  have h : op = 1 ∨ op = 2 ∨ op = 3 ∨ op = 4 ∨ op = 5 ∨ op = 6 ∨ op = 7 ∨ op = 8 ∨ op = 9 ∨ op = 10 ∨ op = 11 ∨ op = 12 ∨ op = 13 ∨ op = 14 ∨ op = 15 ∨ op = 16 := by omega
  rcases h with rfl | rfl | rfl | rfl | rfl | rfl | rfl | rfl | rfl | rfl | rfl | rfl | rfl | rfl | rfl | rfl
  all_goals
    go_enter Tryd.func82, Tryd.ntmps82
    go_wp2
    go_ret
    exact ⟨ret_int (by decide), (Below.refl _ _).alloc (Nat.le_refl _) _⟩

theorem drop_cons (xs : List Int) (k : Nat) (h : k < xs.length) : xs.drop k = xs.getD k 0 :: xs.drop (k + 1) := by
  rw [List.drop_eq_getElem_cons h]; simp [List.getD, h]

set_option maxHeartbeats 1000000 in
theorem l4Fold_any (op : Int) (a : Option Addr) (n cap : Nat) (xs : List Int) (w : World) (h : Row w a n xs) (hop : opIn op = true) (hv : ∀ k, -1000000000000000 ≤ xs.getD k 0 ∧ xs.getD k 0 ≤ 1000000000000000) :
    Calls Tryd.prog 53 #[.int .i64 op, .slice a n cap] w fun e w' => e = .returned (.tuple #[.int .i64 (foldR op xs).1, .int .i64 (foldR op xs).2]) ∧ Below w.heap.size w w' := by
  have hlen := hide h.len
  have hsm := h.small
  have H := hide h
  have HOP := hide hop
  have HV := hide hv
  clear h hop hv
  by_cases h0 : n = 0
  · subst h0
    have HE : Hid (xs = []) := List.length_eq_zero_iff.mp (unhide hlen)
    go_enter Tryd.func53, Tryd.ntmps53
    go_wp2_with (go_at_call 82; refine (l4Empty_any _ _ (unhide HOP)).mono ?_; rintro e w1 ⟨rfl, hb1⟩)
    go_ret2
    rw [unhide HE]
    exact ⟨rfl, hb1⟩
  · obtain ⟨m, rfl⟩ : ∃ m, n = m + 1 := ⟨n - 1, by omega⟩
    have g0 : ((m : Int) + 1 == 0) = false := by simp; omega
    clear h0
    obtain ⟨b, off, hab, hblt, hc⟩ := (unhide H).get (Nat.lt_succ_self m)
    subst hab
    have hcell : Hid (∀ k, k < m + 1 → w.cell? ⟨b, off + k, none⟩ = some (.int .i64 (xs.getD k 0))) := by
      intro k hk
      obtain ⟨b', o', e', _, hc'⟩ := (unhide H).get hk
      cases e'
      exact hc'
    go_enter Tryd.func53, Tryd.ntmps53
    go_wp2
    go_loop [6, 7] (fun v i => ∃ (k : Nat) (x : Int), k ≤ m ∧ i = .int .i64 ((k : Int) - 1) ∧ v = .int .i64 x ∧ Hid (foldR op (xs.drop k) = (x, 0)) ∧ Hid (-1000000000000000 ≤ x ∧ x ≤ 1000000000000000)) (fun _ i => (intOf i + 1).toNat)
    case atStart =>
      refine ⟨m, _, Nat.le_refl _, by go_num, rfl, ?_, unhide HV m⟩
      show _ = _
      rw [drop_cons xs m (by rw [unhide hlen]; omega), List.drop_eq_nil_of_le (by rw [unhide hlen]; omega)]
      rfl
    case round =>
      obtain ⟨k, x, hk, rfl, rfl, hf, hx⟩ := hrel
      cases k with
      | zero =>
        have HE : Hid (foldR op xs = (x, 0)) := by have := unhide hf; rwa [List.drop_zero] at this
        clear hf
        go_wp2
        go_ret2
        exact ⟨ret_two (by rw [unhide HE]) (by rw [unhide HE]), Below.refl _ _⟩
      | succ j =>
        have hc' := unhide hcell j (by omega)
        have hy := unhide HV j
        obtain ⟨y, hy'⟩ : ∃ y, y = xs.getD j 0 := ⟨_, rfl⟩
        rw [← hy'] at hc' hy
        obtain ⟨r, hr⟩ : ∃ r, twoOf op y x = r := ⟨_, rfl⟩
        obtain ⟨r1, r2⟩ := r
        have HRR := hide hr
        have HF : Hid (foldR op (xs.drop j) = (r1, r2)) := by
          show _ = _
          rw [drop_cons xs j (by rw [unhide hlen]; omega), foldR_cons (by
            intro e
            have := congrArg List.length e
            rw [List.length_drop, unhide hlen] at this
            simp at this; omega), unhide hf, ← hy', if_neg (by simp)]
          exact hr
        have hj : (((j + 1 : Nat) : Int) - 1) = (j : Int) := by omega
        rw [hj]
        clear hj hr hy'
        by_cases hcode : r2 = 0
        · subst hcode
          have hb : Hid (-1000000000000000 ≤ r1 ∧ r1 ≤ 1000000000000000) := by
            have := two_bd op y x
            rw [unhide HRR] at this
            exact this
          go_wp2_with (go_at_call 74; refine (l4Two_eq hy (unhide hx) op (unhide HOP) _ r1 0 HRR).mono ?_; rintro e w1 ⟨rfl, rfl⟩)
          go_round
          case rel => exact ⟨j, r1, by omega, by go_num, rfl, HF, hb⟩
          case measure => simp [intOf]
        · have hz : r1 = 0 := by
            have := two_code (op := op) (a := y) (b := x) (by rw [unhide HRR]; exact hcode)
            rw [unhide HRR] at this
            exact this
          subst hz
          have HE : Hid (foldR op xs = (0, r2)) := by
            show _ = _
            have := foldR_code (op := op) (xs.take j) (r := xs.drop j) (by
              intro e
              have := congrArg List.length e
              rw [List.length_drop, unhide hlen] at this
              simp at this; omega) (unhide HF) hcode
            rwa [List.take_append_drop] at this
          have hcb : (r2 != 0) = true := by simp [hcode]
          clear hcode
          go_wp2_with (go_at_call 74; refine (l4Two_eq hy (unhide hx) op (unhide HOP) _ 0 r2 HRR).mono ?_; rintro e w1 ⟨rfl, rfl⟩)
          go_ret2
          exact ⟨ret_two (by rw [unhide HE]) (by rw [unhide HE]), Below.refl _ _⟩

end Go.Proofs.YtabjnlhhefkekaaDoor
namespace Go.Proofs.YtabjnlhhefkekaaDoor
open Go.RowKit

theorem owns_cap {w : World} {base e size n m cap : Nat} {a : Option Addr} {xs : List Value} (h : w.ownsRow base e size (.slice a m cap) n xs) : n ≤ cap := by
  rcases h.2 with ⟨e, h0⟩ | ⟨g, cap', cur, e, _, _, hc, _⟩
  · omega
  · cases e; exact hc

set_option maxHeartbeats 1000000 in
theorem l4Line_any (c : Bool) (v1 : Value) (a2 : Option Addr) (n2 c2 p n A q : Nat) (dt : List Int) (w : World) (h2 : Row w a2 n2 dt) (hin : ∀ i, i < n → (p * n + i) * A + q < n2) (hp : p ≤ 10000) (hn : n ≤ 10000) (hA : A ≤ 10000) (hq : q ≤ 10000) (hn2 : n2 ≤ 10000) :
    Calls Tryd.prog 54 #[.agg #[.bool c, v1, .slice a2 n2 c2], .int .i64 p, .int .i64 n, .int .i64 A, .int .i64 q] w fun e w' => ∃ a' cap', e = .returned (.slice a' n cap') ∧ Own w' w.heap.size a' n (lineOf dt p n A q) ∧ Below w.heap.size w w' ∧ n ≤ cap' := by
  have H2 := hide h2
  have HIN := hide hin
  clear h2 hin
  obtain ⟨i0, hi, hz0, hz1, hz2⟩ := info_parts info_int
  go_enter Tryd.func54, Tryd.ntmps54
  go_wp2_with fail
  go_loopw [11, 12] (fun v i wr => ∃ k : Nat, k ≤ n ∧ i = .int .i64 k ∧ Hid (wr.ownsRow (w.heap.size + 1) 3 1 v k (((lineOf dt p n A q).take k).map (Value.int .i64))) ∧ Hid (Below (w.heap.size + 1) (w.alloc (.cells #[.bool c, v1, .slice a2 n2 c2] 26)) wr)) (fun _ i _ => n - (intOf i).toNat)
  case atStart =>
    refine ⟨0, Nat.zero_le _, rfl, ?_, ?_⟩
    · have := owns_empty (w.alloc (.cells #[.bool c, v1, .slice a2 n2 c2] 26))
      show World.ownsRow _ _ _ _ _ _ _
      simpa using this
    · exact (Below.refl _ _).alloc (by simp) _
  case round =>
    obtain ⟨k, hk, rfl, hown, hbl⟩ := hrel
    have hsz := (unhide hbl).size
    simp at hsz
    by_cases hlt : k < n
    · obtain ⟨j, hj⟩ : ∃ j, j = (p * n + k) * A + q := ⟨_, rfl⟩
      have hj2 := unhide HIN k hlt
      rw [← hj] at hj2
      have hidx : ((p : Int) * (n : Int) + (k : Int)) * (A : Int) + (q : Int) = (j : Int) := by rw [hj]; simp
      have e1a : 0 ≤ (p : Int) * (n : Int) := by rw [← Int.natCast_mul]; omega
      have e1b : (p : Int) * (n : Int) ≤ 100000000 := by
        have := Nat.mul_le_mul hp hn
        rw [← Int.natCast_mul]; omega
      have e2a : 0 ≤ ((p : Int) * (n : Int) + (k : Int)) * (A : Int) := Int.mul_nonneg (by omega) (by omega)
      have e2b : ((p : Int) * (n : Int) + (k : Int)) * (A : Int) ≤ 10000 := by omega
      obtain ⟨b, off, rfl, hblt, hc⟩ := (unhide H2).get hj2
      have hB0 : Below w.heap.size w wr := ((Below.refl _ _).alloc (Nat.le_refl _) _).trans ((unhide hbl).mono (by omega))
      have hc' := (hB0.cell (p := ⟨b, off + j, none⟩) hblt).trans hc
      have hbox : wr.cell? ⟨w.heap.size, 2, none⟩ = some (.slice (some ⟨b, off, none⟩) n2 c2) := by
        rw [(unhide hbl).cell (p := ⟨w.heap.size, 2, none⟩) (by simp)]
        simp
      obtain ⟨x, hx⟩ : ∃ x, x = dt.getD j 0 := ⟨_, rfl⟩
      rw [← hx] at hc'
      have HX : Hid (((lineOf dt p n A q).take (k + 1)).map (Value.int .i64) = ((lineOf dt p n A q).take k).map (Value.int .i64) ++ [.int .i64 x]) := by
        show _ = _
        rw [line_snoc _ _ _ _ _ _ hlt, ← hj, ← hx]
      clear hc hx hj
      have hown1 := unhide hown
      have HBL := hide (unhide hbl)
      clear hown hbl hB0
      go_wp2_with (at_builtin; refine wpList_append_own _ rfl _ _ 22 rfl (w.heap.size + 1) 3 i0 (.int .i64 0) 1 8 Tryd.underlying22 hi hz0 hz1 hz2 rfl (by decide) _ _ _ rfl (hown1.alloc _) ⟨wr.heap.size, 0, none⟩ 1 1 [.int .i64 x] rfl rfl (cells_new _ _) (one_one _) (by unfold maxLen; omega) (by omega) (by simp; omega) ?_; intro u1 w6 hown' hgrow hnil; clear hnil; obtain ⟨av, cv, rfl⟩ := owns_slice hown'; have HB := hide (below_append _ hown1 hsz hgrow); clear hgrow)
      have HN' : Hid (w6.ownsRow (w.heap.size + 1) 3 1 (.slice av (k + 1) cv) (k + 1) (((lineOf dt p n A q).take (k + 1)).map (Value.int .i64))) := by
        show w6.ownsRow _ _ _ _ _ _
        rw [unhide HX]
        exact hown'
      go_roundw
      case rel => exact ⟨k + 1, by omega, by go_num, HN', (unhide HBL).trans (unhide HB)⟩
      case measure => simp [intOf]; omega
    · have hkn : k = n := by omega
      subst hkn
      have hown1 := unhide hown
      rw [List.take_of_length_le (by rw [line_len]; exact Nat.le_refl _)] at hown1
      obtain ⟨ad, cd, rfl, hD⟩ := Own.of_owns hown1 (by omega)
      have hcap := owns_cap hown1
      have HD := hide (hD.mono (B' := w.heap.size) (by omega))
      have HB0 : Hid (Below w.heap.size w wr) := ((Below.refl _ _).alloc (Nat.le_refl _) _).trans ((unhide hbl).mono (by omega))
      clear hown1 hown hD hbl
      go_wp2
      go_ret
      exact ⟨ad, cd, rfl, unhide HD, unhide HB0, hcap⟩

end Go.Proofs.YtabjnlhhefkekaaDoor
namespace Go.Proofs.YtabjnlhhefkekaaDoor
open Go.RowKit

set_option maxRecDepth 20000 in
set_option maxHeartbeats 2000000 in
theorem l3Copy_any (c : Bool) (a1 a2 : Addr) (n1 n2 c1 c2 : Nat) (sh dt : List Int) (w : World) (h1 : Row w (some a1) n1 sh) (h2 : Row w (some a2) n2 dt) :
    Calls Tryd.prog 51 #[.agg #[.bool c, .slice (some a1) n1 c1, .slice (some a2) n2 c2]] w fun e w' => ∃ b1 d1 b2 d2, e = .returned (.agg #[.bool c, .slice b1 n1 d1, .slice b2 n2 d2]) ∧ Row w' b1 n1 sh ∧ Row w' b2 n2 dt ∧ Below w.heap.size w w' := by
  have H1 := hide h1
  have H2 := hide h2
  clear h1 h2
  obtain ⟨W0, hW0⟩ : ∃ W0, ((w.alloc (.cells #[.bool c, .slice (some a1) n1 c1, .slice (some a2) n2 c2] 26)).alloc (.cells #[.bool false, .slice none 0 0, .slice none 0 0] 26)) = W0 := ⟨_, rfl⟩
  have hz0 : W0.heap.size = w.heap.size + 2 := by rw [← hW0]; simp
  have HBX : Hid (∀ wx, Below W0.heap.size W0 wx → Box wx w.heap.size c (.slice (some a1) n1 c1) (.slice (some a2) n2 c2) ∧ Box wx (w.heap.size + 1) false (.slice none 0 0) (.slice none 0 0) ∧ Below w.heap.size w wx) := by
    intro wx hwx
    rw [← hW0] at hwx
    exact boxes2 hwx
  have HK0 : Hid (Box W0 w.heap.size c (.slice (some a1) n1 c1) (.slice (some a2) n2 c2)) := (unhide HBX _ (Below.refl _ _)).1
  have HKEEP : ∀ wx, Below (w.heap.size + 1) W0 wx → Below (w.heap.size + 1) W0 wx ∧ wx.cell? ⟨w.heap.size, 0, none⟩ = some (.bool c) ∧ wx.cell? ⟨w.heap.size, 1, none⟩ = some (.slice (some a1) n1 c1) ∧ wx.cell? ⟨w.heap.size, 2, none⟩ = some (.slice (some a2) n2 c2) := fun wx hwx => ⟨hwx, ((unhide HK0).low (by omega) hwx).cells⟩
  obtain ⟨B0, B1, hB0⟩ := unhide HBX _ (Below.refl _ _)
  obtain ⟨x0, x1, x2, x3, x4, x5, x6⟩ := B0.all
  clear B0 B1
  go_enter Tryd.func51, Tryd.ntmps51
  go_wp2_with fail
  go_region_held (fun wx => Below (w.heap.size + 1) W0 wx ∧ wx.cell? ⟨w.heap.size, 0, none⟩ = some (.bool c) ∧ wx.cell? ⟨w.heap.size, 1, none⟩ = some (.slice (some a1) n1 c1) ∧ wx.cell? ⟨w.heap.size, 2, none⟩ = some (.slice (some a2) n2 c2)) (first | exact HKEEP _ (hKB.mono (by omega)) | exact HKEEP _ ((((hKB.mono (by omega)).setCell (by simp) _).setCell (by simp) _).setCell (by simp) _) | exact HKEEP _ (hKA.mono (by omega)) | exact HKEEP _ (Below.refl _ _).drew)
    (first
    | (go_at_call_of 26 (Value.slice (some a1) n1 c1); refine (l3Ints_any _ _ _ sh _ (by exact (unhide H1).below (Nat.le_refl _) hB0.drew)).mono ?_; rintro e wA ⟨b1, d1, rfl, hOA, hbA⟩; have hKA : Below W0.heap.size W0 wA := (Below.refl _ _).drew.trans (hbA.mono (by simp)); have HOA : Hid (Own wA W0.heap.size b1 n1 sh) := hOA.mono (by simp); obtain ⟨t0, t1, t2, t3, t4, t5, t6⟩ := (unhide HBX _ hKA).2.1.all; clear hOA)
    | (go_at_call_of 26 (Value.slice (some a2) n2 c2); refine (l3Ints_any _ _ _ dt _ (by exact (unhide H2).below (Nat.le_refl _) (unhide HBX _ hKA).2.2)).mono ?_; rintro e wB ⟨b2, d2, rfl, hOB, hbB⟩; have hKB : Below W0.heap.size W0 wB := hKA.trans (hbB.mono hKA.size); have HOB : Hid (Own wB W0.heap.size b2 n2 dt) := hOB.mono hKA.size; have HOA' := hide ((unhide HOA).below (Nat.le_refl _) hbB); obtain ⟨s0, s1, s2, s3, s4, s5, s6⟩ := (unhide HBX _ hKB).2.1.all; clear hOB))
  go_wp2_with fail
  have hp1 : ∀ x, At b1 n1 x → x ≠ w.heap.size + 1 := fun x hx => by have := (unhide HOA').low hx; omega
  have hp2 : ∀ x, At b2 n2 x → x ≠ w.heap.size + 1 := fun x hx => by have := (unhide HOB).low hx; omega
  refine bodyPost_ret (v := .agg #[.bool c, .slice b1 n1 d1, .slice b2 n2 d2]) (by simp [results, Tryd.results51, go_sem, s0, s1, s2]) rfl ?_
  exact ⟨b1, d1, b2, d2, rfl, ((((unhide HOA').other hp1 _).other hp1 _).other hp1 _).row, ((((unhide HOB).other hp2 _).other hp2 _).other hp2 _).row, (((unhide HBX _ hKB).2.2.setCell (by simp) _).setCell (by simp) _).setCell (by simp) _⟩

end Go.Proofs.YtabjnlhhefkekaaDoor
namespace Go.Proofs.YtabjnlhhefkekaaDoor
open Go.RowKit

theorem Box.free' {w : World} {p : Nat} {c : Bool} {v1 v2 : Value} (h : Box w p c v1 v2) : w.cell? ⟨p, 0, none⟩ = some (.bool c) ∧ w.cell? ⟨p, 1, none⟩ = some v1 ∧ w.cell? ⟨p, 2, none⟩ = some v2 ∧ w.frozen? ⟨p, 0, none⟩ = false ∧ w.frozen? ⟨p, 1, none⟩ = false ∧ w.frozen? ⟨p, 2, none⟩ = false ∧ p < w.heap.size :=
  ⟨h.cells.1, h.cells.2.1, h.cells.2.2, frozen_of_row w p _ _ _ h, frozen_of_row w p _ _ _ h, frozen_of_row w p _ _ _ h, h.lt⟩

theorem Box.sets {w : World} {p : Nat} {c c' : Bool} {v1 v2 u1 u2 : Value} (h : Box w p c v1 v2) : Box (((w.setCell ⟨p, 0, none⟩ (.bool c')).setCell ⟨p, 1, none⟩ u1).setCell ⟨p, 2, none⟩ u2) p c' u1 u2 := by
  unfold Box at h ⊢
  have h1 := heap_setCell_same w p 0 _ _ (.bool c') h
  have h2 := heap_setCell_same _ p 1 _ _ u1 h1
  have h3 := heap_setCell_same _ p 2 _ _ u2 h2
  simpa using h3

theorem Row.notBox {w : World} {a : Option Addr} {n p : Nat} {zs : List Int} {c : Bool} {a1 a2 : Option Addr} {l1 l2 c1 c2 : Nat} (h : Row w a n zs) (hb : Box w p c (.slice a1 l1 c1) (.slice a2 l2 c2)) {k : Nat} (hk : At a n k) : k ≠ p := by
  rcases h.at_ with h0 | ⟨g, off, rfl, hg, hc⟩
  · exact absurd h0 hk.1
  · have e := at_eq hk
    subst e
    rintro rfl
    have h1 := hc 0 (by have := hk.1; omega)
    unfold Box at hb
    simp only [World.cell?, hb] at h1
    simp at h1
    match off, h1 with
    | 0, h1 => simp at h1
    | 1, h1 => simp at h1
    | 2, h1 => simp at h1

theorem Row.otherB {w : World} {a : Option Addr} {n : Nat} {zs : List Int} (h : Row w a n zs) {q : Addr} (ha : ∀ k, At a n k → k ≠ q.block) (v : Value) : Row (w.setCell q v) a n zs :=
  ((But.refl (fun k => k = q.block) w).setCell rfl v).row h (fun k hk hk' => ha k hk' hk)

theorem Row.sets {w : World} {a : Option Addr} {n p : Nat} {zs : List Int} {c : Bool} {a1 a2 : Option Addr} {l1 l2 c1 c2 : Nat} (h : Row w a n zs) (hb : Box w p c (.slice a1 l1 c1) (.slice a2 l2 c2)) (u0 u1 u2 : Value) : Row (((w.setCell ⟨p, 0, none⟩ u0).setCell ⟨p, 1, none⟩ u1).setCell ⟨p, 2, none⟩ u2) a n zs :=
  ((h.otherB (fun _ hk => h.notBox hb hk) _).otherB (fun _ hk => h.notBox hb hk) _).otherB (fun _ hk => h.notBox hb hk) _

end Go.Proofs.YtabjnlhhefkekaaDoor
namespace Go.Proofs.YtabjnlhhefkekaaDoor
open Go.RowKit

theorem Blk.new (w : World) : Blk (w.alloc (.cells #[] 3)) w.heap.size [] := by
  show (w.heap.push _)[w.heap.size]? = _
  simp

theorem Blk.owns {w : World} {g base : Nat} (h : Blk w g []) (hb : base ≤ g) : w.ownsRow base 3 1 (.slice (some ⟨g, 0, none⟩) 0 0) 0 [] :=
  ⟨by simp, .inr ⟨g, 0, #[], rfl, hb, h, by simp, by unfold maxLen; omega, by simp, by simp⟩⟩

theorem Own.grown {w w1 : World} {B g n : Nat} {a : Option Addr} {zs : List Int} (h : Own w B a n zs) (o : Obj) (hg : (w.alloc o).grownBy w1 (some g)) (hne : ∀ x, At a n x → x ≠ g) : Own w1 B a n zs := by
  refine ⟨h.len, h.small, ?_⟩
  rcases h.at_ with h0 | ⟨b, off, rfl, hb, hlt, hc, hf⟩
  · exact .inl h0
  · by_cases hn : n = 0
    · exact .inl hn
    have hk : w1.heap[b]? = w.heap[b]? := (hg.block b (by simp; omega) (fun e => hne b (at_self hn) (by simpa using e))).trans (Below.heap_alloc w o b hlt)
    refine .inr ⟨b, off, rfl, hb, ?_, fun i hi => (World.cell?_of_block (w := w) (a := ⟨b, off + i, none⟩) hk).trans (hc i hi), fun i hi => (World.frozen?_of_block (w := w) (a := ⟨b, off + i, none⟩) hk).trans (hf i hi)⟩
    rcases Nat.lt_or_ge b w1.heap.size with h1 | h1
    · exact h1
    · rw [Array.getElem?_eq_none h1, Array.getElem?_eq_getElem hlt] at hk; cases hk

/-- A struct of an array is laid whose shape reads as zs and whose numbers are none yet; all of it is new. -/
def Laid (w2 : World) (c : Bool) (m : Nat) (zs : List Int) (r : Value) (wx : World) : Prop :=
  ∃ p g ash csh, r = .pointer (some ⟨p, 0, none⟩) ∧ Box wx p c (.slice ash m csh) (.slice (some ⟨g, 0, none⟩) 0 0) ∧ Blk wx g [] ∧ Own wx w2.heap.size ash m zs ∧ Below w2.heap.size w2 wx ∧ w2.heap.size ≤ p ∧ w2.heap.size ≤ g ∧ ∀ x, At ash m x → x ≠ g

theorem laid_cbz {w2 wA : World} {c : Bool} {m csh : Nat} {zs : List Int} {ash : Option Addr} (hO : Own wA w2.heap.size ash m zs) (hK : Below w2.heap.size w2 wA) : Laid w2 c m zs (.pointer (some ⟨wA.heap.size + 1, 0, none⟩)) ((wA.alloc (.cells #[] 3)).alloc (.cells #[.bool c, .slice ash m csh, .slice (some ⟨wA.heap.size, 0, none⟩) 0 0] 26)) := by
  have hs := hK.size
  refine ⟨wA.heap.size + 1, wA.heap.size, ash, csh, rfl, ?_, (Blk.new wA).alloc _, (hO.alloc _).alloc _, (hK.alloc hs _).alloc (by simp; omega) _, by omega, by omega, fun x hx => by have := hO.row.hi hx; omega⟩
  have := Box.new (wA.alloc (.cells #[] 3)) c (.slice ash m csh) (.slice (some ⟨wA.heap.size, 0, none⟩) 0 0)
  simpa using this

theorem laid_czb {w2 wA : World} {c : Bool} {m csh : Nat} {zs : List Int} {ash : Option Addr} (hO : Own wA w2.heap.size ash m zs) (hK : Below w2.heap.size w2 wA) : Laid w2 c m zs (.pointer (some ⟨wA.heap.size, 0, none⟩)) ((wA.alloc (.cells #[.bool c, .slice ash m csh, .slice (some ⟨wA.heap.size + 1, 0, none⟩) 0 0] 26)).alloc (.cells #[] 3)) := by
  have hs := hK.size
  refine ⟨wA.heap.size, wA.heap.size + 1, ash, csh, rfl, (Box.new _ _ _ _).alloc _, ?_, (hO.alloc _).alloc _, (hK.alloc hs _).alloc (by simp; omega) _, by omega, by omega, fun x hx => by have := hO.row.hi hx; omega⟩
  have := Blk.new (wA.alloc (.cells #[.bool c, .slice ash m csh, .slice (some ⟨wA.heap.size + 1, 0, none⟩) 0 0] 26))
  simpa using this

theorem laid_bcz {w2 wA : World} {c : Bool} {m csh : Nat} {zs : List Int} {ash : Option Addr} {g : Nat} (hO : Own wA w2.heap.size ash m zs) (hK : Below w2.heap.size w2 wA) (hQ : Blk wA g []) (hg : w2.heap.size ≤ g) (hne : ∀ x, At ash m x → x ≠ g) : Laid w2 c m zs (.pointer (some ⟨wA.heap.size, 0, none⟩)) (wA.alloc (.cells #[.bool c, .slice ash m csh, .slice (some ⟨g, 0, none⟩) 0 0] 26)) :=
  ⟨wA.heap.size, g, ash, csh, rfl, Box.new _ _ _ _, hQ.alloc _, hO.alloc _, hK.alloc hK.size _, hK.size, hg, hne⟩

theorem Blk.notBox {w : World} {g p : Nat} {c : Bool} {v1 v2 : Value} (h : Blk w g []) (hb : Box w p c v1 v2) : g ≠ p := by
  rintro rfl
  unfold Blk at h
  unfold Box at hb
  rw [h] at hb
  simp at hb

theorem laid_zc {w2 wA : World} {c : Bool} {m csh : Nat} {zs : List Int} {ash : Option Addr} {g p : Nat} {c' : Bool} {a1 a2 : Option Addr} {l1 l2 k1 k2 : Nat} (hO : Own wA w2.heap.size ash m zs) (hK : Below w2.heap.size w2 wA) (hP : Box wA p c' (.slice a1 l1 k1) (.slice a2 l2 k2)) (hp : w2.heap.size ≤ p) (hQ : Blk wA g []) (hg : w2.heap.size ≤ g) (hne : ∀ x, At ash m x → x ≠ g) :
    Laid w2 c m zs (.pointer (some ⟨p, 0, none⟩)) (((wA.setCell ⟨p, 0, none⟩ (.bool c)).setCell ⟨p, 1, none⟩ (.slice ash m csh)).setCell ⟨p, 2, none⟩ (.slice (some ⟨g, 0, none⟩) 0 0)) := by
  have hn : ∀ x, At ash m x → x ≠ p := fun x hx => hO.row.notBox hP hx
  have hgp := hQ.notBox hP
  exact ⟨p, g, ash, csh, rfl, hP.sets, ((hQ.other hgp _).other hgp _).other hgp _, ((hO.other hn _).other hn _).other hn _, ((hK.setCell hp _).setCell hp _).setCell hp _, hp, hg, hne⟩

theorem laid_zcb {w2 wA : World} {c : Bool} {m csh : Nat} {zs : List Int} {ash : Option Addr} {p : Nat} {c' : Bool} {a1 a2 : Option Addr} {l1 l2 k1 k2 : Nat} (hO : Own wA w2.heap.size ash m zs) (hK : Below w2.heap.size w2 wA) (hP : Box wA p c' (.slice a1 l1 k1) (.slice a2 l2 k2)) (hp : w2.heap.size ≤ p) :
    Laid w2 c m zs (.pointer (some ⟨p, 0, none⟩)) ((((wA.setCell ⟨p, 0, none⟩ (.bool c)).setCell ⟨p, 1, none⟩ (.slice ash m csh)).setCell ⟨p, 2, none⟩ (.slice (some ⟨wA.heap.size, 0, none⟩) 0 0)).alloc (.cells #[] 3)) := by
  have hn : ∀ x, At ash m x → x ≠ p := fun x hx => hO.row.notBox hP hx
  refine ⟨p, wA.heap.size, ash, csh, rfl, hP.sets.alloc _, ?_, (((hO.other hn _).other hn _).other hn _).alloc _, (((hK.setCell hp _).setCell hp _).setCell hp _).alloc (by simpa using hK.size) _, hp, hK.size, fun x hx => by have := hO.row.hi hx; omega⟩
  have := Blk.new (((wA.setCell ⟨p, 0, none⟩ (.bool c)).setCell ⟨p, 1, none⟩ (.slice ash m csh)).setCell ⟨p, 2, none⟩ (.slice (some ⟨wA.heap.size, 0, none⟩) 0 0))
  simpa using this

end Go.Proofs.YtabjnlhhefkekaaDoor
namespace Go.Proofs.YtabjnlhhefkekaaDoor
open Go.RowKit

/-- k elements have been gathered into the array in box p. -/
structure Stage (w2 : World) (p : Nat) (c : Bool) (ash : Option Addr) (m csh : Nat) (zs : List Int) (f : Nat → Int × Int) (k : Nat) (wr : World) (g cap : Nat) : Prop where
  box : Box wr p c (.slice ash m csh) (.slice (some ⟨g, 0, none⟩) k cap)
  owns : wr.ownsRow w2.heap.size 3 1 (.slice (some ⟨g, 0, none⟩) k cap) k ((vals f k).map (Value.int .i64))
  own : Own wr w2.heap.size ash m zs
  ne : ∀ x, At ash m x → x ≠ g
  low : Below w2.heap.size w2 wr
  code : firstCode f k = 0
  place : w2.heap.size ≤ p

theorem Stage.start {w2 wx : World} {p g : Nat} {c : Bool} {ash : Option Addr} {m csh : Nat} {zs : List Int} (f : Nat → Int × Int) (h1 : Box wx p c (.slice ash m csh) (.slice (some ⟨g, 0, none⟩) 0 0)) (h2 : Blk wx g []) (h3 : Own wx w2.heap.size ash m zs) (h4 : Below w2.heap.size w2 wx) (h7 : w2.heap.size ≤ p) (h5 : w2.heap.size ≤ g) (h6 : ∀ x, At ash m x → x ≠ g) : Stage w2 p c ash m csh zs f 0 wx g 0 :=
  ⟨h1, h2.owns h5, h3, h6, h4, rfl, h7⟩

theorem Stage.below {w2 wr w5 : World} {p g cap k : Nat} {c : Bool} {ash : Option Addr} {m csh : Nat} {zs : List Int} {f : Nat → Int × Int} (h : Stage w2 p c ash m csh zs f k wr g cap) (hb : Below wr.heap.size wr w5) : Stage w2 p c ash m csh zs f k w5 g cap :=
  ⟨h.box.below (Nat.le_refl _) hb, owns_below h.owns (Nat.le_refl _) hb, h.own.below (Nat.le_refl _) hb, h.ne, h.low.trans (hb.mono h.low.size), h.code, h.place⟩

theorem Stage.drew {w2 wr : World} {p g cap k : Nat} {c : Bool} {ash : Option Addr} {m csh : Nat} {zs : List Int} {f : Nat → Int × Int} (h : Stage w2 p c ash m csh zs f k wr g cap) : Stage w2 p c ash m csh zs f k wr.drew g cap := h.below (Below.refl _ _).drew

theorem Stage.push {w2 w5 w6 : World} {p g g' cap cap' k : Nat} {c : Bool} {ash : Option Addr} {m csh : Nat} {zs : List Int} {f : Nat → Int × Int} {r1 : Int} (o : Obj) (h : Stage w2 p c ash m csh zs f k w5 g cap) (hf : f k = (r1, 0))
    (hown : w6.ownsRow w2.heap.size 3 1 (.slice (some ⟨g', 0, none⟩) (k + 1) cap') (k + 1) ((vals f k).map (Value.int .i64) ++ [.int .i64 r1])) (hg : (w5.alloc o).grownBy w6 (Value.ownBlock (.slice (some ⟨g, 0, none⟩) k cap))) (hat : Value.ownBlock (.slice (some ⟨g, 0, none⟩) k cap) = some g' ∨ g' = w5.heap.size + 1) :
    Box w6 p c (.slice ash m csh) (.slice (some ⟨g, 0, none⟩) k cap) ∧ Stage w2 p c ash m csh zs f (k + 1) (w6.setCell ⟨p, 2, none⟩ (.slice (some ⟨g', 0, none⟩) (k + 1) cap')) g' cap' := by
  have hb6 := h.box.grown h.owns o hg
  have hg' : (w5.alloc o).grownBy w6 (some g) := hg
  have ho6 := h.own.grown o hg' h.ne
  have hlow := h.low.trans (below_append o h.owns h.low.size hg)
  have hne' : ∀ x, At ash m x → x ≠ g' := by
    intro x hx
    rcases hat with e | e
    · have e' : g = g' := by simpa [Value.ownBlock] using e
      rw [← e']; exact h.ne x hx
    · have := h.own.row.hi hx; omega
  refine ⟨hb6, hb6.set2 _, ?_, ho6.other (fun x hx => ho6.row.notBox hb6 hx) _, hne', hlow.setCell h.place _, code_step h.code (by rw [hf]), h.place⟩
  · rw [vals_snoc, hf]
    exact owns_box_set hown hb6 _ _

end Go.Proofs.YtabjnlhhefkekaaDoor
namespace Go.Proofs.YtabjnlhhefkekaaDoor
open Go.RowKit

theorem fold_bad1 {op : Int} {c first : Bool} {sh dt : List Int} (h : arrOk c sh dt = false) : fold op c sh dt first = noAns 3 := by unfold fold; rw [if_neg (by simp [h])]
theorem fold_bad2 {op : Int} {c first : Bool} {sh dt : List Int} (h : ¬ (1 ≤ op ∧ op ≤ 16)) : fold op c sh dt first = noAns 3 := by unfold fold; rw [if_neg (by simp [opIn, h])]
theorem fold_scalar {op : Int} {c first : Bool} {sh dt : List Int} (h : arrOk c sh dt = true) (h2 : 1 ≤ op ∧ op ≤ 16) (h0 : sh = []) : fold op c sh dt first = ⟨c, sh, dt, 0⟩ := by unfold fold; rw [if_pos ⟨h, decide_eq_true h2⟩, if_pos h0, h0]
theorem fold_char {op : Int} {c first : Bool} {sh dt : List Int} (h : arrOk c sh dt = true) (h2 : 1 ≤ op ∧ op ≤ 16) (h0 : sh ≠ []) (h3 : (c && decide (axisN sh first ≠ 1)) = true) : fold op c sh dt first = noAns 3 := by unfold fold; rw [if_pos ⟨h, decide_eq_true h2⟩, if_neg h0, if_pos (by simpa using h3)]
theorem fold_go {op : Int} {c first : Bool} {sh dt : List Int} (h : arrOk c sh dt = true) (h2 : 1 ≤ op ∧ op ≤ 16) (h0 : sh ≠ []) (h3 : (c && decide (axisN sh first ≠ 1)) = false) (B n A : Nat) (hB : axisB sh first = B) (hn : axisN sh first = n) (hA : axisA sh first = A) :
    fold op c sh dt first = gatherAns c (without sh first) (fun k => foldR op (lineOf dt (k / A) n A (k % A))) (B * A) := by
  unfold fold; rw [if_pos ⟨h, decide_eq_true h2⟩, if_neg h0, if_neg (fun e => by simp [e.1, e.2] at h3), hB, hn, hA]; rfl

theorem line_bd {dt : List Int} (h : ∀ k, -1000000000000000 ≤ dt.getD k 0 ∧ dt.getD k 0 ≤ 1000000000000000) (p n A q k : Nat) : -1000000000000000 ≤ (lineOf dt p n A q).getD k 0 ∧ (lineOf dt p n A q).getD k 0 ≤ 1000000000000000 := by
  by_cases hk : k < n
  · rw [line_get _ _ _ _ _ _ hk]; exact h _
  · have e : (lineOf dt p n A q).getD k 0 = 0 := by simp [List.getD, List.getElem?_eq_none (by rw [line_len]; omega : (lineOf dt p n A q).length ≤ k)]
    rw [e]; omega

set_option maxRecDepth 20000 in
set_option maxHeartbeats 8000000 in
theorem Fold_any (op : Int) (c : Bool) (a1 a2 : Addr) (n1 n2 c1 c2 : Nat) (sh dt : List Int) (first : Bool) (w : World) (h1 : Row w (some a1) n1 sh) (h2 : Row w (some a2) n2 dt) (hc1 : n1 ≤ c1) :
    Calls Tryd.prog 21 #[.int .i64 op, .agg #[.bool c, .slice (some a1) n1 c1, .slice (some a2) n2 c2], .bool first] w (GivesRow w (fold op c sh dt first)) := by
  have hl1 := hide h1.len
  have hl2 := hide h2.len
  have hs1 := h1.small
  have hs2 := h2.small
  have H1 := hide h1
  have H2 := hide h2
  clear h1 h2
  obtain ⟨r1, hr1⟩ : ∃ r, arrOk c sh dt = r := ⟨_, rfl⟩
  have HR1 := hide hr1
  clear hr1
  go_enter Tryd.func21, Tryd.ntmps21
  go_wp2_with fail
  refine (ArrayOk_eq _ _ _ _ _ _ _ sh dt _ (((unhide H1).alloc _).alloc _) (((unhide H2).alloc _).alloc _) _ HR1).mono ?_
  rintro e w1 ⟨rfl, hb1⟩
  obtain ⟨B4, B6, hB1⟩ := boxes2 hb1
  have C4 := hide B4
  have C6 := hide B6
  have HB1 := hide hB1
  clear hb1 B4 B6 hB1
  cases r1 with
  | false =>
    have HS := hide (fold_bad1 (op := op) (first := first) (unhide HR1))
    go_wp2_with fail
    refine (l4None_any _).mono ?_
    rintro e w9 ⟨rfl, hb9⟩
    obtain ⟨q0, q1, q2, q3, q4, q5, q6⟩ := ((unhide C6).below (Nat.le_refl _) hb9).all
    have hB9 := hide (((unhide HB1)).trans (hb9.mono ((unhide HB1)).size))
    clear hb9 C4 C6 HB1
    go_wp2
    refine bodyPost_ret (v := .tuple #[.agg #[.bool false, .slice none 0 0, .slice none 0 0], .int .i64 3]) (by simp [results, Tryd.results21, go_sem, q0, q1, q2]) rfl ?_
    rw [unhide HS]
    exact ⟨none, 0, 0, none, 0, 0, rfl, row_nil _ _, row_nil _ _, (((unhide hB9).setCell (by simp <;> omega) _).setCell (by simp <;> omega) _).setCell (by simp <;> omega) _⟩
  | true =>
    by_cases hop1 : op < 1
    · have HS := hide (fold_bad2 (op := op) (c := c) (first := first) (sh := sh) (dt := dt) (by omega))
      go_wp2_with fail
      refine (l4None_any _).mono ?_
      rintro e w9 ⟨rfl, hb9⟩
      obtain ⟨q0, q1, q2, q3, q4, q5, q6⟩ := ((unhide C6).below (Nat.le_refl _) hb9).all
      have hB9 := hide (((unhide HB1)).trans (hb9.mono ((unhide HB1)).size))
      clear hb9 C4 C6 HB1
      go_wp2
      refine bodyPost_ret (v := .tuple #[.agg #[.bool false, .slice none 0 0, .slice none 0 0], .int .i64 3]) (by simp [results, Tryd.results21, go_sem, q0, q1, q2]) rfl ?_
      rw [unhide HS]
      exact ⟨none, 0, 0, none, 0, 0, rfl, row_nil _ _, row_nil _ _, (((unhide hB9).setCell (by simp <;> omega) _).setCell (by simp <;> omega) _).setCell (by simp <;> omega) _⟩
    by_cases hop2 : 16 < op
    · have HS := hide (fold_bad2 (op := op) (c := c) (first := first) (sh := sh) (dt := dt) (by omega))
      go_wp2_with fail
      refine (l4None_any _).mono ?_
      rintro e w9 ⟨rfl, hb9⟩
      obtain ⟨q0, q1, q2, q3, q4, q5, q6⟩ := ((unhide C6).below (Nat.le_refl _) hb9).all
      have hB9 := hide (((unhide HB1)).trans (hb9.mono ((unhide HB1)).size))
      clear hb9 C4 C6 HB1
      go_wp2
      refine bodyPost_ret (v := .tuple #[.agg #[.bool false, .slice none 0 0, .slice none 0 0], .int .i64 3]) (by simp [results, Tryd.results21, go_sem, q0, q1, q2]) rfl ?_
      rw [unhide HS]
      exact ⟨none, 0, 0, none, 0, 0, rfl, row_nil _ _, row_nil _ _, (((unhide hB9).setCell (by simp <;> omega) _).setCell (by simp <;> omega) _).setCell (by simp <;> omega) _⟩
    have HOP : Hid (1 ≤ op ∧ op ≤ 16) := (by omega : 1 ≤ op ∧ op ≤ 16)
    have HIN : Hid (opIn op = true) := decide_eq_true (unhide HOP)
    obtain ⟨x0, x1, x2, x3, x4, x5, x6⟩ := (unhide C4).all
    by_cases hn0 : n1 = 0
    · have g0 : ((n1 : Int) == 0) = true := by simp [hn0]
      have HS := hide (fold_scalar (first := first) (unhide HR1) (unhide HOP) (List.length_eq_zero_iff.mp ((unhide hl1).trans hn0)))
      clear hn0
      go_wp2_with fail
      refine (l3Copy_any _ _ _ _ _ _ _ sh dt _ ((unhide H1).below (Nat.le_refl _) (unhide HB1)) ((unhide H2).below (Nat.le_refl _) (unhide HB1))).mono ?_
      rintro e w2 ⟨b1, d1, b2, d2, rfl, hE1, hE2, hb2⟩
      have D6 := hide ((unhide C6).below (Nat.le_refl _) hb2)
      have HB2 := hide ((unhide HB1).trans (hb2.mono (unhide HB1).size))
      obtain ⟨q0, q1, q2, q3, q4, q5, q6⟩ := (unhide D6).all
      have HE1 := hide (hE1.sets (unhide D6) (.bool c) (.slice b1 n1 d1) (.slice b2 n2 d2))
      have HE2 := hide (hE2.sets (unhide D6) (.bool c) (.slice b1 n1 d1) (.slice b2 n2 d2))
      clear hb2 hE1 hE2 C4 C6 HB1 x0 x1 x2 x3 x4 x5 x6
      go_wp2
      refine bodyPost_ret (v := .tuple #[.agg #[.bool c, .slice b1 n1 d1, .slice b2 n2 d2], .int .i64 0]) (by simp [results, Tryd.results21, go_sem, q0, q1, q2]) rfl ?_
      rw [unhide HS]
      exact ⟨b1, n1, d1, b2, n2, d2, rfl, unhide HE1, unhide HE2, (((unhide HB2).setCell (by simp <;> omega) _).setCell (by simp <;> omega) _).setCell (by simp <;> omega) _⟩
    · have g0 : ((n1 : Int) == 0) = false := by simp; omega
      have HNE : Hid (sh ≠ []) := fun e => hn0 (by rw [← unhide hl1, e]; rfl)
      obtain ⟨ba, oa, rfl⟩ : ∃ b o, a1 = ⟨b, o, none⟩ := by
        obtain ⟨b, o, e, _⟩ := (unhide H1).get (by omega : 0 < n1)
        exact ⟨b, o, by cases e; rfl⟩
      obtain ⟨hSI, hPA, _⟩ := shapeIn_of (unhide HR1)
      have hbB := (hSI.take (axisAt sh first)).bd
      have hbN := hSI.cell (axisAt sh first)
      have hbA := (hSI.drop (axisAt sh first + 1)).bd
      obtain ⟨B, hB⟩ : ∃ B : Nat, axisB sh first = (B : Int) := ⟨(axisB sh first).toNat, by have : 0 ≤ axisB sh first := hbB.1; omega⟩
      obtain ⟨n, hn⟩ : ∃ n : Nat, axisN sh first = (n : Int) := ⟨(axisN sh first).toNat, by have : 0 ≤ axisN sh first := hbN.1; omega⟩
      obtain ⟨A, hA⟩ : ∃ A : Nat, axisA sh first = (A : Int) := ⟨(axisA sh first).toNat, by have : 0 ≤ axisA sh first := hbA.1; omega⟩
      have hBs : B ≤ 10000 := by have : axisB sh first ≤ 10000 := hbB.2; omega
      have hns : n ≤ 10000 := by have : axisN sh first ≤ 10000 := hbN.2; omega
      have hAs : A ≤ 10000 := by have : axisA sh first ≤ 10000 := hbA.2; omega
      have hall : B * n * A = n2 := by
        have e := axis_all sh first (unhide HNE)
        rw [hB, hn, hA, hPA, unhide hl2] at e
        exact_mod_cast e
      have hn2s : n2 ≤ 10000 := by have := hSI.bd.2; rw [hPA, unhide hl2] at this; omega
      have HSI := hide hSI
      have HAX : Hid (axisB sh first = B ∧ axisN sh first = n ∧ axisA sh first = A) := ⟨hB, hn, hA⟩
      have HALL := hide hall
      clear hSI hPA hbB hbN hbA hB hn hA hall
      go_wp2_with fail
      refine (l4Axis_any _ _ _ sh first _ ((unhide H1).below (Nat.le_refl _) (unhide HB1)) (unhide HSI) (by omega)).mono ?_
      rw [(unhide HAX).1, (unhide HAX).2.1, (unhide HAX).2.2]
      rintro e w2 ⟨rfl, hb2⟩
      have D4 := hide ((unhide C4).below (Nat.le_refl _) hb2)
      have D6 := hide ((unhide C6).below (Nat.le_refl _) hb2)
      have HB2 := hide ((unhide HB1).trans (hb2.mono (unhide HB1).size))
      clear hb2 C4 C6 HB1 x0 x1 x2 x3 x4 x5 x6 w1
      obtain ⟨x0, x1, x2, x3, x4, x5, x6⟩ := (unhide D4).all
      go_upto_region 6 with fail
      go_cut [47] (fun b wx => w2 = wx ∧ b = .bool (c && decide (axisN sh first ≠ 1)))
      case first =>
        cases c
        · go_wp2
          go_meet
          case rel => exact ⟨rfl, rfl⟩
        · by_cases e1 : n = 1
          · have f1 : ((n : Int) != 1) = false := by simp [e1]
            have HE : Hid (decide (axisN sh first ≠ 1) = false) := by show _ = _; rw [(unhide HAX).2.1, e1]; rfl
            clear e1
            go_wp2
            go_meet
            case rel => exact ⟨rfl, by rw [unhide HE]; rfl⟩
          · have f1 : ((n : Int) != 1) = true := by simp; omega
            have HE : Hid (decide (axisN sh first ≠ 1) = true) := by show _ = _; rw [(unhide HAX).2.1]; simp; omega
            clear e1
            go_wp2
            go_meet
            case rel => exact ⟨rfl, by rw [unhide HE]; rfl⟩
      case rest =>
        obtain ⟨rfl, rfl⟩ := hcut
        obtain ⟨bad, hbad⟩ : ∃ r, (c && decide (axisN sh first ≠ 1)) = r := ⟨_, rfl⟩
        rw [hbad]
        have HBD := hide hbad
        clear hbad
        cases bad with
        | true =>
          have HS := hide (fold_char (unhide HR1) (unhide HOP) (unhide HNE) (unhide HBD))
          go_wp2_with fail
          refine (l4None_any _).mono ?_
          rintro e w9 ⟨rfl, hb9⟩
          obtain ⟨q0, q1, q2, q3, q4, q5, q6⟩ := ((unhide D6).below (Nat.le_refl _) hb9).all
          have hB9 := hide (((unhide HB2)).trans (hb9.mono ((unhide HB2)).size))
          clear hb9 D4 D6 HB2 x0 x1 x2 x3 x4 x5 x6
          go_wp2
          refine bodyPost_ret (v := .tuple #[.agg #[.bool false, .slice none 0 0, .slice none 0 0], .int .i64 3]) (by simp [results, Tryd.results21, go_sem, q0, q1, q2]) rfl ?_
          rw [unhide HS]
          exact ⟨none, 0, 0, none, 0, 0, rfl, row_nil _ _, row_nil _ _, (((unhide hB9).setCell (by simp <;> omega) _).setCell (by simp <;> omega) _).setCell (by simp <;> omega) _⟩
        | false =>
          obtain ⟨f, hf⟩ : ∃ f : Nat → Int × Int, f = fun k => foldR op (lineOf dt (k / A) n A (k % A)) := ⟨_, rfl⟩
          have HGO : Hid (fold op c sh dt first = gatherAns c (without sh first) f (B * A)) := by
            show _ = _
            rw [fold_go (unhide HR1) (unhide HOP) (unhide HNE) (unhide HBD) B n A (unhide HAX).1 (unhide HAX).2.1 (unhide HAX).2.2, hf]
          have HFK : Hid (∀ P Q, Q < A → f (P * A + Q) = foldR op (lineOf dt P n A Q)) := by
            intro P Q hQ
            rw [hf]
            have e1 : (P * A + Q) / A = P := by rw [Nat.mul_comm, Nat.mul_add_div (by omega), Nat.div_eq_of_lt hQ, Nat.add_zero]
            have e2 : (P * A + Q) % A = Q := by rw [Nat.mul_comm, Nat.mul_add_mod, Nat.mod_eq_of_lt hQ]
            simp only [e1, e2]
          have HV1 := hide (arr_bd (unhide HR1))
          clear hf HBD HAX
          have hz6 := (unhide D6).lt
          go_upto_region 8 with fail
          go_cut [11] (fun r wx => Laid w2 c (n1 - 1) (without sh first) r wx)
          case first =>
            have HKEEP : ∀ wx, Below w2.heap.size w2 wx → Below w2.heap.size w2 wx ∧ wx.cell? ⟨w.heap.size, 0, none⟩ = some (.bool c) ∧ wx.cell? ⟨w.heap.size, 1, none⟩ = some (.slice (some ⟨ba, oa, none⟩) n1 c1) := fun wx hwx => ⟨hwx, ((unhide D4).below (Nat.le_refl _) hwx).cells.1, ((unhide D4).below (Nat.le_refl _) hwx).cells.2.1⟩
            go_region_held (fun wx => Below w2.heap.size w2 wx ∧ wx.cell? ⟨w.heap.size, 0, none⟩ = some (.bool c) ∧ wx.cell? ⟨w.heap.size, 1, none⟩ = some (.slice (some ⟨ba, oa, none⟩) n1 c1)) (first | (refine HKEEP _ ?_; first | exact hKA | exact (Below.refl _ _).drew | (repeat (first | exact hKA | exact Below.refl _ _ | refine Below.drew ?_ | refine Below.alloc ?_ (by first | omega | (simp <;> omega)) _ | refine Below.setCell ?_ (by first | omega | (simp <;> omega)) _))))
              (first
              | (go_at_call 59; go_loud (refine (l4Without_any _ _ _ _ sh first _ ((unhide H1).below (Nat.le_refl _) (by repeat (first | exact unhide HB2 | refine Below.drew ?_ | refine Below.alloc ?_ (by have := (unhide HB2).size; simp <;> omega) _))) (by omega) hc1).mono ?_); rintro e wA ⟨ash, csh, rfl, hOA, hbA⟩; go_loud (have hKA : Below w2.heap.size w2 wA := (by refine Below.trans ?_ (hbA.mono (by first | omega | (simp <;> omega))); repeat (first | exact Below.refl _ _ | refine Below.drew ?_ | refine Below.alloc ?_ (by first | omega | (simp <;> omega)) _))); have hsA := hKA.size; (first | (have hP5 := (Box.new _ _ _ _).drew.below (Nat.le_refl _) hbA; obtain ⟨t0, t1, t2, t3, t4, t5, t6⟩ := hP5.free'; (try simp at t0 t1 t2 t3 t4 t5 t6)) | (have hP5 := ((Box.new _ _ _ _).alloc _).drew.below (Nat.le_refl _) hbA; obtain ⟨t0, t1, t2, t3, t4, t5, t6⟩ := hP5.free'; (try simp at t0 t1 t2 t3 t4 t5 t6)) | skip); (first | have hQ5 := (Blk.new _).drew.below (Nat.le_refl _) hbA | have hQ5 := ((Blk.new _).alloc _).drew.below (Nat.le_refl _) hbA | skip)))
            all_goals go_wp2_with fail
            all_goals have HOW : Own wA w2.heap.size ash (n1 - 1) (without sh first) := hOA.mono (by first | exact Nat.le_refl _ | (simp <;> omega))
            all_goals (go_meet; case rel => first
              | with_reducible exact laid_cbz HOW hKA
              | with_reducible exact laid_czb HOW hKA
              | with_reducible exact laid_bcz HOW hKA hQ5 (Nat.le_refl _) (fun x hx => by have := hOA.low hx; simp at this; omega)
              | with_reducible exact laid_zc HOW hKA (by simpa using hP5) (by first | exact Nat.le_refl _ | omega) (by simpa using hQ5) (by first | exact Nat.le_refl _ | omega) (fun x hx => by have := hOA.low hx; simp at this; omega)
              | with_reducible exact laid_zcb HOW hKA (by simpa using hP5) (by first | exact Nat.le_refl _ | omega))
          case rest =>
            obtain ⟨w3, hw3⟩ : ∃ x, x = wc := ⟨_, rfl⟩
            subst hw3
            obtain ⟨p, g0, ash, csh, rfl, hbx, hblk, hO, hb3, hp, hg, hne⟩ := hcut
            have hst0 := hide (Stage.start f hbx hblk hO hb3 hp hg hne)
            have HW3 := hide ((unhide HB2).trans (hb3.mono (unhide HB2).size))
            have hB2s := (unhide HB2).size
            have hz4 := (unhide D4).lt
            clear hbx hblk hO hb3 hg hne x0 x1 x2 x3 x4 x5 x6
            obtain ⟨i0, hi, hz0, hz1, hz2⟩ := info_parts info_int
            go_wp2_with fail
            go_loopw [12] (fun i wr => ∃ P g cap, P ≤ B ∧ i = .int .i64 (P : Nat) ∧ Hid (Stage w2 p c ash (n1 - 1) csh (without sh first) f (P * A) wr g cap)) (fun i _ => B - (intOf i).toNat)
            case atStart =>
              refine ⟨0, g0, 0, Nat.zero_le _, rfl, ?_⟩
              rw [Nat.zero_mul]
              exact hst0
            case round =>
              obtain ⟨P, g, cap, hP, rfl, hst⟩ := hrel
              clear hst0
              by_cases hlt : P < B
              · go_wp2_with fail
                go_loopw [13] (fun i wx => ∃ Q g cap, Q ≤ A ∧ i = .int .i64 (Q : Nat) ∧ Hid (Stage w2 p c ash (n1 - 1) csh (without sh first) f (P * A + Q) wx g cap)) (fun i _ => A - (intOf i).toNat)
                case atStart => exact ⟨0, g, cap, Nat.zero_le _, rfl, hst⟩
                case round =>
                  clear hst
                  obtain ⟨Q, g, cap, hQ, rfl, hst⟩ := hrel
                  by_cases hqlt : Q < A
                  · obtain ⟨wy, hwy⟩ : ∃ x, x = wr := ⟨_, rfl⟩
                    subst hwy
                    have HWy := hide ((unhide HB2).trans ((unhide hst).low.mono hB2s))
                    obtain ⟨x0, x1, x2, x3, x4, x5, x6⟩ := ((unhide D4).low hz4 (unhide hst).low).all
                    have hfk0 := unhide HFK P Q hqlt
                    obtain ⟨r, hr⟩ : ∃ r, foldR op (lineOf dt P n A Q) = r := ⟨_, rfl⟩
                    obtain ⟨r1, r2⟩ := r
                    rw [hr] at hfk0
                    have HFQ := hide hfk0
                    have HRR := hide hr
                    clear hr hfk0
                    go_wp2_with fail
                    refine (l4Line_any c _ _ n2 _ P n A Q dt _ ((unhide H2).below (Nat.le_refl _) (unhide HWy)) (fun i hi => line_in (unhide HALL) hlt hqlt hi) (by omega) hns hAs (by omega) hn2s).mono ?_
                    rintro e w5 ⟨al, cl, rfl, hOL, hb5, _⟩
                    have hst5 := hide ((unhide hst).below hb5)
                    have HOL := hide hOL
                    clear hb5 hst HWy hOL x0 x1 x2 x3 x4 x5 x6
                    go_wp2_with fail
                    refine (l4Fold_any op _ n _ (lineOf dt P n A Q) _ (unhide HOL).row (unhide HIN) (line_bd (unhide HV1) P n A Q)).mono ?_
                    rw [unhide HRR]
                    rintro e w6 ⟨rfl, hb6⟩
                    have hst6 := (unhide hst5).below hb6
                    clear hb6 hst5 HOL
                    have G6 := hide ((unhide D6).low hz6 hst6.low)
                    have HW6 := hide ((unhide HB2).trans (hst6.low.mono hB2s))
                    by_cases hcode : r2 = 0
                    · subst hcode
                      have hfk := unhide HFQ
                      obtain ⟨z0, z1, z2, z3, z4, z5, z6⟩ := hst6.box.all
                      have hown := hst6.owns
                      have hlow := hst6.low.size
                      have hkb : P * A + Q ≤ 200000000 := by have := Nat.mul_le_mul (by omega : P ≤ 10000) hAs; omega
                      go_wp2_with (at_builtin; refine wpList_append_lies _ rfl _ _ 22 rfl w2.heap.size 3 i0 (.int .i64 0) 1 8 Tryd.underlying22 hi hz0 hz1 hz2 rfl (by decide) _ _ _ rfl (hown.alloc _) ⟨w6.heap.size, 0, none⟩ 1 1 [.int .i64 r1] rfl rfl (cells_new _ _) (one_one _) (by omega) (by unfold maxLen; omega) (by omega) (by have := hlow; simp; omega) (w6.heap.size + 1) (by simp) ?_; intro g' cap' w7 hown' hgrow hat hlt7; obtain ⟨hb7, hst7⟩ := hst6.push _ hfk hown' hgrow hat; obtain ⟨z0', z1', z2', z3', z4', z5', z6'⟩ := hb7.all; clear hgrow hat hown')
                      go_roundw
                      case rel => exact ⟨Q + 1, g', cap', by omega, by go_num, hst7⟩
                      case measure => simp [intOf]; omega
                    · have HS : Hid (fold op c sh dt first = noAns r2) := by
                        show _ = _
                        have hkk : P * A + Q < B * A := by
                          have : (P + 1) * A ≤ B * A := Nat.mul_le_mul_right A hlt
                          rw [Nat.add_mul] at this; omega
                        have := gather_bad (c := c) (sh := without sh first) hst6.code hkk (by rw [unhide HFQ]; exact hcode)
                        rw [unhide HGO, this, unhide HFQ]
                      have hcb : (r2 != 0) = true := by simp [hcode]
                      clear hcode hst6
                      go_wp2_with fail
                      refine (l4None_any _).mono ?_
                      rintro e w9 ⟨rfl, hb9⟩
                      obtain ⟨q0, q1, q2, q3, q4, q5, q6⟩ := ((unhide G6).below (Nat.le_refl _) hb9).all
                      have hB9 := hide (((unhide HW6)).trans (hb9.mono ((unhide HW6)).size))
                      clear hb9 G6 HW6
                      go_wp2
                      refine bodyPost_ret (v := .tuple #[.agg #[.bool false, .slice none 0 0, .slice none 0 0], .int .i64 r2]) (by simp [results, Tryd.results21, go_sem, q0, q1, q2]) rfl ?_
                      rw [unhide HS]
                      exact ⟨none, 0, 0, none, 0, 0, rfl, row_nil _ _, row_nil _ _, (((unhide hB9).setCell (by simp <;> omega) _).setCell (by simp <;> omega) _).setCell (by simp <;> omega) _⟩
                  · have hQA : Q = A := by omega
                    subst hQA
                    go_wp2_with fail
                    go_roundw
                    case rel => exact ⟨P + 1, g, cap, by omega, by go_num, by rw [Nat.add_mul, Nat.one_mul]; exact hst⟩
                    case measure => simp [intOf]; omega
              · have hPB : P = B := by omega
                subst hPB
                have HS : Hid (fold op c sh dt first = ⟨c, without sh first, vals f (P * A), 0⟩) := (unhide HGO).trans (gather_good (unhide hst).code)
                have hkb : P * A ≤ 100000000 := Nat.mul_le_mul (by omega : P ≤ 10000) hAs
                obtain ⟨ad', cd, hv, hD⟩ := Own.of_owns (unhide hst).owns (by omega)
                cases hv
                obtain ⟨z0, z1, z2, z3, z4, z5, z6⟩ := (unhide hst).box.all
                have G6 := hide ((unhide D6).low hz6 (unhide hst).low)
                obtain ⟨q0, q1, q2, q3, q4, q5, q6⟩ := (unhide G6).all
                have HW6 := hide ((unhide HB2).trans ((unhide hst).low.mono hB2s))
                have HO6 := hide (unhide hst).own
                have HD := hide hD
                clear hst hD HGO HFK
                go_wp2
                refine bodyPost_ret (v := .tuple #[.agg #[.bool c, .slice ash (n1 - 1) csh, .slice (some ⟨g, 0, none⟩) (P * A) cap], .int .i64 0]) (by simp [results, Tryd.results21, go_sem, q0, q1, q2]) rfl ?_
                rw [unhide HS]
                refine ⟨ash, n1 - 1, csh, some ⟨g, 0, none⟩, P * A, cap, rfl, ?_, ?_, (((unhide HW6).setCell (by simp <;> omega) _).setCell (by simp <;> omega) _).setCell (by simp <;> omega) _⟩
                · exact (unhide HO6).row.sets (unhide G6) _ _ _
                · exact (unhide HD).row.sets (unhide G6) _ _ _

end Go.Proofs.YtabjnlhhefkekaaDoor
namespace Go.Proofs.YtabjnlhhefkekaaDoor
open Go.RowKit

theorem scan_bad1 {op : Int} {c first : Bool} {sh dt : List Int} (h : arrOk c sh dt = false) : scan op c sh dt first = noAns 3 := by unfold scan; rw [if_neg (by simp [h])]
theorem scan_bad2 {op : Int} {c first : Bool} {sh dt : List Int} (h : ¬ (1 ≤ op ∧ op ≤ 16)) : scan op c sh dt first = noAns 3 := by unfold scan; rw [if_neg (by simp [opIn, h])]
theorem scan_scalar {op : Int} {c first : Bool} {sh dt : List Int} (h : arrOk c sh dt = true) (h2 : 1 ≤ op ∧ op ≤ 16) (h0 : sh = []) : scan op c sh dt first = ⟨c, sh, dt, 0⟩ := by unfold scan; rw [if_pos ⟨h, decide_eq_true h2⟩, if_pos h0, h0]
theorem scan_char {op : Int} {c first : Bool} {sh dt : List Int} (h : arrOk c sh dt = true) (h2 : 1 ≤ op ∧ op ≤ 16) (h0 : sh ≠ []) (h3 : (c && decide (1 < axisN sh first)) = true) : scan op c sh dt first = noAns 3 := by unfold scan; rw [if_pos ⟨h, decide_eq_true h2⟩, if_neg h0, if_pos (by simpa using h3)]
theorem scan_go {op : Int} {c first : Bool} {sh dt : List Int} (h : arrOk c sh dt = true) (h2 : 1 ≤ op ∧ op ≤ 16) (h0 : sh ≠ []) (h3 : (c && decide (1 < axisN sh first)) = false) (B n A : Nat) (hB : axisB sh first = B) (hn : axisN sh first = n) (hA : axisA sh first = A) :
    scan op c sh dt first = gatherAns c sh (fun k => foldR op ((lineOf dt (k / A / n) n A (k % A)).take (k / A % n + 1))) (B * n * A) := by
  unfold scan; rw [if_pos ⟨h, decide_eq_true h2⟩, if_neg h0, if_neg (fun e => by simp [e.1, e.2] at h3), hB, hn, hA]; rfl

theorem take_bd {xs : List Int} (h : ∀ k, -1000000000000000 ≤ xs.getD k 0 ∧ xs.getD k 0 ≤ 1000000000000000) (m k : Nat) : -1000000000000000 ≤ (xs.take m).getD k 0 ∧ (xs.take m).getD k 0 ≤ 1000000000000000 := by
  by_cases hk : k < m
  · have e : (xs.take m).getD k 0 = xs.getD k 0 := by simp [List.getD, hk]
    rw [e]; exact h k
  · have e : (xs.take m).getD k 0 = 0 := by
      have hl : (xs.take m).length ≤ k := by rw [List.length_take]; omega
      simp [List.getD, List.getElem?_eq_none hl]
    rw [e]; omega

set_option maxRecDepth 20000 in
set_option maxHeartbeats 8000000 in
theorem Scan_any (op : Int) (c : Bool) (a1 a2 : Addr) (n1 n2 c1 c2 : Nat) (sh dt : List Int) (first : Bool) (w : World) (h1 : Row w (some a1) n1 sh) (h2 : Row w (some a2) n2 dt) :
    Calls Tryd.prog 19 #[.int .i64 op, .agg #[.bool c, .slice (some a1) n1 c1, .slice (some a2) n2 c2], .bool first] w (GivesRow w (scan op c sh dt first)) := by
  have hl1 := hide h1.len
  have hl2 := hide h2.len
  have hs1 := h1.small
  have hs2 := h2.small
  have H1 := hide h1
  have H2 := hide h2
  clear h1 h2
  obtain ⟨r1, hr1⟩ : ∃ r, arrOk c sh dt = r := ⟨_, rfl⟩
  have HR1 := hide hr1
  clear hr1
  go_enter Tryd.func19, Tryd.ntmps19
  go_wp2_with fail
  refine (ArrayOk_eq _ _ _ _ _ _ _ sh dt _ (((unhide H1).alloc _).alloc _) (((unhide H2).alloc _).alloc _) _ HR1).mono ?_
  rintro e w1 ⟨rfl, hb1⟩
  obtain ⟨B4, B6, hB1⟩ := boxes2 hb1
  have C4 := hide B4
  have C6 := hide B6
  have HB1 := hide hB1
  clear hb1 B4 B6 hB1
  cases r1 with
  | false =>
    have HS := hide (scan_bad1 (op := op) (first := first) (unhide HR1))
    go_wp2_with fail
    refine (l4None_any _).mono ?_
    rintro e w9 ⟨rfl, hb9⟩
    obtain ⟨q0, q1, q2, q3, q4, q5, q6⟩ := ((unhide C6).below (Nat.le_refl _) hb9).all
    have hB9 := hide (((unhide HB1)).trans (hb9.mono ((unhide HB1)).size))
    clear hb9 C4 C6 HB1
    go_wp2
    refine bodyPost_ret (v := .tuple #[.agg #[.bool false, .slice none 0 0, .slice none 0 0], .int .i64 3]) (by simp [results, Tryd.results19, go_sem, q0, q1, q2]) rfl ?_
    rw [unhide HS]
    exact ⟨none, 0, 0, none, 0, 0, rfl, row_nil _ _, row_nil _ _, (((unhide hB9).setCell (by simp <;> omega) _).setCell (by simp <;> omega) _).setCell (by simp <;> omega) _⟩
  | true =>
    by_cases hop1 : op < 1
    · have HS := hide (scan_bad2 (op := op) (c := c) (first := first) (sh := sh) (dt := dt) (by omega))
      go_wp2_with fail
      refine (l4None_any _).mono ?_
      rintro e w9 ⟨rfl, hb9⟩
      obtain ⟨q0, q1, q2, q3, q4, q5, q6⟩ := ((unhide C6).below (Nat.le_refl _) hb9).all
      have hB9 := hide (((unhide HB1)).trans (hb9.mono ((unhide HB1)).size))
      clear hb9 C4 C6 HB1
      go_wp2
      refine bodyPost_ret (v := .tuple #[.agg #[.bool false, .slice none 0 0, .slice none 0 0], .int .i64 3]) (by simp [results, Tryd.results19, go_sem, q0, q1, q2]) rfl ?_
      rw [unhide HS]
      exact ⟨none, 0, 0, none, 0, 0, rfl, row_nil _ _, row_nil _ _, (((unhide hB9).setCell (by simp <;> omega) _).setCell (by simp <;> omega) _).setCell (by simp <;> omega) _⟩
    by_cases hop2 : 16 < op
    · have HS := hide (scan_bad2 (op := op) (c := c) (first := first) (sh := sh) (dt := dt) (by omega))
      go_wp2_with fail
      refine (l4None_any _).mono ?_
      rintro e w9 ⟨rfl, hb9⟩
      obtain ⟨q0, q1, q2, q3, q4, q5, q6⟩ := ((unhide C6).below (Nat.le_refl _) hb9).all
      have hB9 := hide (((unhide HB1)).trans (hb9.mono ((unhide HB1)).size))
      clear hb9 C4 C6 HB1
      go_wp2
      refine bodyPost_ret (v := .tuple #[.agg #[.bool false, .slice none 0 0, .slice none 0 0], .int .i64 3]) (by simp [results, Tryd.results19, go_sem, q0, q1, q2]) rfl ?_
      rw [unhide HS]
      exact ⟨none, 0, 0, none, 0, 0, rfl, row_nil _ _, row_nil _ _, (((unhide hB9).setCell (by simp <;> omega) _).setCell (by simp <;> omega) _).setCell (by simp <;> omega) _⟩
    have HOP : Hid (1 ≤ op ∧ op ≤ 16) := (by omega : 1 ≤ op ∧ op ≤ 16)
    have HIN : Hid (opIn op = true) := decide_eq_true (unhide HOP)
    obtain ⟨x0, x1, x2, x3, x4, x5, x6⟩ := (unhide C4).all
    by_cases hn0 : n1 = 0
    · have g0 : ((n1 : Int) == 0) = true := by simp [hn0]
      have HS := hide (scan_scalar (first := first) (unhide HR1) (unhide HOP) (List.length_eq_zero_iff.mp ((unhide hl1).trans hn0)))
      clear hn0
      go_wp2_with fail
      refine (l3Copy_any _ _ _ _ _ _ _ sh dt _ ((unhide H1).below (Nat.le_refl _) (unhide HB1)) ((unhide H2).below (Nat.le_refl _) (unhide HB1))).mono ?_
      rintro e w2 ⟨b1, d1, b2, d2, rfl, hE1, hE2, hb2⟩
      have D6 := hide ((unhide C6).below (Nat.le_refl _) hb2)
      have HB2 := hide ((unhide HB1).trans (hb2.mono (unhide HB1).size))
      obtain ⟨q0, q1, q2, q3, q4, q5, q6⟩ := (unhide D6).all
      have HE1 := hide (hE1.sets (unhide D6) (.bool c) (.slice b1 n1 d1) (.slice b2 n2 d2))
      have HE2 := hide (hE2.sets (unhide D6) (.bool c) (.slice b1 n1 d1) (.slice b2 n2 d2))
      clear hb2 hE1 hE2 C4 C6 HB1 x0 x1 x2 x3 x4 x5 x6
      go_wp2
      refine bodyPost_ret (v := .tuple #[.agg #[.bool c, .slice b1 n1 d1, .slice b2 n2 d2], .int .i64 0]) (by simp [results, Tryd.results19, go_sem, q0, q1, q2]) rfl ?_
      rw [unhide HS]
      exact ⟨b1, n1, d1, b2, n2, d2, rfl, unhide HE1, unhide HE2, (((unhide HB2).setCell (by simp <;> omega) _).setCell (by simp <;> omega) _).setCell (by simp <;> omega) _⟩
    · have g0 : ((n1 : Int) == 0) = false := by simp; omega
      have HNE : Hid (sh ≠ []) := fun e => hn0 (by rw [← unhide hl1, e]; rfl)
      obtain ⟨ba, oa, rfl⟩ : ∃ b o, a1 = ⟨b, o, none⟩ := by
        obtain ⟨b, o, e, _⟩ := (unhide H1).get (by omega : 0 < n1)
        exact ⟨b, o, by cases e; rfl⟩
      obtain ⟨hSI, hPA, _⟩ := shapeIn_of (unhide HR1)
      have hbB := (hSI.take (axisAt sh first)).bd
      have hbN := hSI.cell (axisAt sh first)
      have hbA := (hSI.drop (axisAt sh first + 1)).bd
      obtain ⟨B, hB⟩ : ∃ B : Nat, axisB sh first = (B : Int) := ⟨(axisB sh first).toNat, by have : 0 ≤ axisB sh first := hbB.1; omega⟩
      obtain ⟨n, hn⟩ : ∃ n : Nat, axisN sh first = (n : Int) := ⟨(axisN sh first).toNat, by have : 0 ≤ axisN sh first := hbN.1; omega⟩
      obtain ⟨A, hA⟩ : ∃ A : Nat, axisA sh first = (A : Int) := ⟨(axisA sh first).toNat, by have : 0 ≤ axisA sh first := hbA.1; omega⟩
      have hBs : B ≤ 10000 := by have : axisB sh first ≤ 10000 := hbB.2; omega
      have hns : n ≤ 10000 := by have : axisN sh first ≤ 10000 := hbN.2; omega
      have hAs : A ≤ 10000 := by have : axisA sh first ≤ 10000 := hbA.2; omega
      have hall : B * n * A = n2 := by
        have e := axis_all sh first (unhide HNE)
        rw [hB, hn, hA, hPA, unhide hl2] at e
        exact_mod_cast e
      have hn2s : n2 ≤ 10000 := by have := hSI.bd.2; rw [hPA, unhide hl2] at this; omega
      have HSI := hide hSI
      have HAX : Hid (axisB sh first = B ∧ axisN sh first = n ∧ axisA sh first = A) := ⟨hB, hn, hA⟩
      have HALL := hide hall
      clear hSI hPA hbB hbN hbA hB hn hA hall
      go_wp2_with fail
      refine (l4Axis_any _ _ _ sh first _ ((unhide H1).below (Nat.le_refl _) (unhide HB1)) (unhide HSI) (by omega)).mono ?_
      rw [(unhide HAX).1, (unhide HAX).2.1, (unhide HAX).2.2]
      rintro e w2 ⟨rfl, hb2⟩
      have D4 := hide ((unhide C4).below (Nat.le_refl _) hb2)
      have D6 := hide ((unhide C6).below (Nat.le_refl _) hb2)
      have HB2 := hide ((unhide HB1).trans (hb2.mono (unhide HB1).size))
      clear hb2 C4 C6 HB1 x0 x1 x2 x3 x4 x5 x6 w1
      obtain ⟨x0, x1, x2, x3, x4, x5, x6⟩ := (unhide D4).all
      go_upto_region 6 with fail
      go_cut [48] (fun b wx => w2 = wx ∧ b = .bool (c && decide (1 < axisN sh first)))
      case first =>
        cases c
        · go_wp2
          go_meet
          case rel => exact ⟨rfl, rfl⟩
        · go_wp2
          go_meet
          case rel => exact ⟨rfl, by rw [(unhide HAX).2.1]; rfl⟩
      case rest =>
        obtain ⟨rfl, rfl⟩ := hcut
        obtain ⟨bad, hbad⟩ : ∃ r, (c && decide (1 < axisN sh first)) = r := ⟨_, rfl⟩
        rw [hbad]
        have HBD := hide hbad
        clear hbad
        cases bad with
        | true =>
          have HS := hide (scan_char (unhide HR1) (unhide HOP) (unhide HNE) (unhide HBD))
          go_wp2_with fail
          refine (l4None_any _).mono ?_
          rintro e w9 ⟨rfl, hb9⟩
          obtain ⟨q0, q1, q2, q3, q4, q5, q6⟩ := ((unhide D6).below (Nat.le_refl _) hb9).all
          have hB9 := hide (((unhide HB2)).trans (hb9.mono ((unhide HB2)).size))
          clear hb9 D4 D6 HB2 x0 x1 x2 x3 x4 x5 x6
          go_wp2
          refine bodyPost_ret (v := .tuple #[.agg #[.bool false, .slice none 0 0, .slice none 0 0], .int .i64 3]) (by simp [results, Tryd.results19, go_sem, q0, q1, q2]) rfl ?_
          rw [unhide HS]
          exact ⟨none, 0, 0, none, 0, 0, rfl, row_nil _ _, row_nil _ _, (((unhide hB9).setCell (by simp <;> omega) _).setCell (by simp <;> omega) _).setCell (by simp <;> omega) _⟩
        | false =>
          obtain ⟨f, hf⟩ : ∃ f : Nat → Int × Int, f = fun k => foldR op ((lineOf dt (k / A / n) n A (k % A)).take (k / A % n + 1)) := ⟨_, rfl⟩
          have HGO : Hid (scan op c sh dt first = gatherAns c sh f (B * n * A)) := by
            show _ = _
            rw [scan_go (unhide HR1) (unhide HOP) (unhide HNE) (unhide HBD) B n A (unhide HAX).1 (unhide HAX).2.1 (unhide HAX).2.2, hf]
          have HFK : Hid (∀ P I Q, I < n → Q < A → f ((P * n + I) * A + Q) = foldR op ((lineOf dt P n A Q).take (I + 1))) := by
            intro P I Q hI hQ
            rw [hf]
            have e1 : ((P * n + I) * A + Q) / A = P * n + I := by rw [Nat.mul_comm, Nat.mul_add_div (by omega), Nat.div_eq_of_lt hQ, Nat.add_zero]
            have e2 : ((P * n + I) * A + Q) % A = Q := by rw [Nat.mul_comm, Nat.mul_add_mod, Nat.mod_eq_of_lt hQ]
            have e3 : (P * n + I) / n = P := by rw [Nat.mul_comm, Nat.mul_add_div (by omega), Nat.div_eq_of_lt hI, Nat.add_zero]
            have e4 : (P * n + I) % n = I := by rw [Nat.mul_comm, Nat.mul_add_mod, Nat.mod_eq_of_lt hI]
            simp only [e1, e2, e3, e4]
          have HV1 := hide (arr_bd (unhide HR1))
          clear hf HBD HAX
          have hz6 := (unhide D6).lt
          go_upto_region 8 with fail
          go_cut [11] (fun r wx => Laid w2 c n1 sh r wx)
          case first =>
            have HKEEP : ∀ wx, Below w2.heap.size w2 wx → Below w2.heap.size w2 wx ∧ wx.cell? ⟨w.heap.size, 0, none⟩ = some (.bool c) ∧ wx.cell? ⟨w.heap.size, 1, none⟩ = some (.slice (some ⟨ba, oa, none⟩) n1 c1) := fun wx hwx => ⟨hwx, ((unhide D4).below (Nat.le_refl _) hwx).cells.1, ((unhide D4).below (Nat.le_refl _) hwx).cells.2.1⟩
            go_region_held (fun wx => Below w2.heap.size w2 wx ∧ wx.cell? ⟨w.heap.size, 0, none⟩ = some (.bool c) ∧ wx.cell? ⟨w.heap.size, 1, none⟩ = some (.slice (some ⟨ba, oa, none⟩) n1 c1)) (first | (refine HKEEP _ ?_; first | exact hKA | exact (Below.refl _ _).drew | (repeat (first | exact hKA | exact Below.refl _ _ | refine Below.drew ?_ | refine Below.alloc ?_ (by first | omega | (simp <;> omega)) _ | refine Below.setCell ?_ (by first | omega | (simp <;> omega)) _))))
              (first
              | (go_at_call 26; go_loud (refine (l3Ints_any _ _ _ sh _ ((unhide H1).below (Nat.le_refl _) (by repeat (first | exact unhide HB2 | refine Below.drew ?_ | refine Below.alloc ?_ (by have := (unhide HB2).size; simp <;> omega) _)))).mono ?_); rintro e wA ⟨ash, csh, rfl, hOA, hbA⟩; go_loud (have hKA : Below w2.heap.size w2 wA := (by refine Below.trans ?_ (hbA.mono (by first | omega | (simp <;> omega))); repeat (first | exact Below.refl _ _ | refine Below.drew ?_ | refine Below.alloc ?_ (by first | omega | (simp <;> omega)) _))); have hsA := hKA.size; (first | (have hP5 := (Box.new _ _ _ _).drew.below (Nat.le_refl _) hbA; obtain ⟨t0, t1, t2, t3, t4, t5, t6⟩ := hP5.free'; (try simp at t0 t1 t2 t3 t4 t5 t6)) | (have hP5 := ((Box.new _ _ _ _).alloc _).drew.below (Nat.le_refl _) hbA; obtain ⟨t0, t1, t2, t3, t4, t5, t6⟩ := hP5.free'; (try simp at t0 t1 t2 t3 t4 t5 t6)) | skip); (first | have hQ5 := (Blk.new _).drew.below (Nat.le_refl _) hbA | have hQ5 := ((Blk.new _).alloc _).drew.below (Nat.le_refl _) hbA | skip)))
            all_goals go_wp2_with fail
            all_goals have HOW : Own wA w2.heap.size ash n1 sh := hOA.mono (by first | exact Nat.le_refl _ | (simp <;> omega))
            all_goals (go_meet; case rel => first
              | with_reducible exact laid_cbz HOW hKA
              | with_reducible exact laid_czb HOW hKA
              | with_reducible exact laid_bcz HOW hKA hQ5 (Nat.le_refl _) (fun x hx => by have := hOA.low hx; simp at this; omega)
              | with_reducible exact laid_zc HOW hKA (by simpa using hP5) (by first | exact Nat.le_refl _ | omega) (by simpa using hQ5) (by first | exact Nat.le_refl _ | omega) (fun x hx => by have := hOA.low hx; simp at this; omega)
              | with_reducible exact laid_zcb HOW hKA (by simpa using hP5) (by first | exact Nat.le_refl _ | omega))
          case rest =>
            obtain ⟨w3, hw3⟩ : ∃ x, x = wc := ⟨_, rfl⟩
            subst hw3
            obtain ⟨p, g0, ash, csh, rfl, hbx, hblk, hO, hb3, hp, hg, hne⟩ := hcut
            have hst0 := hide (Stage.start f hbx hblk hO hb3 hp hg hne)
            have HW3 := hide ((unhide HB2).trans (hb3.mono (unhide HB2).size))
            have hB2s := (unhide HB2).size
            have hz4 := (unhide D4).lt
            clear hbx hblk hO hb3 hg hne x0 x1 x2 x3 x4 x5 x6
            obtain ⟨i0, hi, hz0, hz1, hz2⟩ := info_parts info_int
            go_wp2_with fail
            go_loopw [12] (fun i wr => ∃ P g cap, P ≤ B ∧ i = .int .i64 (P : Nat) ∧ Hid (Stage w2 p c ash n1 csh sh f (P * n * A) wr g cap)) (fun i _ => B - (intOf i).toNat)
            case atStart =>
              refine ⟨0, g0, 0, Nat.zero_le _, rfl, ?_⟩
              rw [Nat.zero_mul, Nat.zero_mul]
              exact hst0
            case round =>
              obtain ⟨P, g, cap, hP, rfl, hst⟩ := hrel
              clear hst0
              by_cases hlt : P < B
              · go_wp2_with fail
                go_loopw [13] (fun i wx => ∃ I g cap, I ≤ n ∧ i = .int .i64 (I : Nat) ∧ Hid (Stage w2 p c ash n1 csh sh f ((P * n + I) * A) wx g cap)) (fun i _ => n - (intOf i).toNat)
                case atStart => exact ⟨0, g, cap, Nat.zero_le _, rfl, by rw [Nat.add_zero]; exact hst⟩
                case round =>
                  clear hst
                  obtain ⟨I, g, cap, hI, rfl, hst⟩ := hrel
                  by_cases hilt : I < n
                  · go_wp2_with fail
                    go_loopw [14] (fun i wx => ∃ Q g cap, Q ≤ A ∧ i = .int .i64 (Q : Nat) ∧ Hid (Stage w2 p c ash n1 csh sh f ((P * n + I) * A + Q) wx g cap)) (fun i _ => A - (intOf i).toNat)
                    case atStart => exact ⟨0, g, cap, Nat.zero_le _, rfl, hst⟩
                    case round =>
                      clear hst
                      obtain ⟨Q, g, cap, hQ, rfl, hst⟩ := hrel
                      by_cases hqlt : Q < A
                      · obtain ⟨wy, hwy⟩ : ∃ x, x = wr := ⟨_, rfl⟩
                        subst hwy
                        have HWy := hide ((unhide HB2).trans ((unhide hst).low.mono hB2s))
                        obtain ⟨x0, x1, x2, x3, x4, x5, x6⟩ := ((unhide D4).low hz4 (unhide hst).low).all
                        have hfk0 := unhide HFK P I Q hilt hqlt
                        obtain ⟨r, hr⟩ : ∃ r, foldR op ((lineOf dt P n A Q).take (I + 1)) = r := ⟨_, rfl⟩
                        obtain ⟨r1, r2⟩ := r
                        rw [hr] at hfk0
                        have HFQ := hide hfk0
                        have HRR := hide hr
                        clear hr hfk0
                        go_wp2_with fail
                        refine (l4Line_any c _ _ n2 _ P n A Q dt _ ((unhide H2).below (Nat.le_refl _) (unhide HWy)) (fun i hi => line_in (unhide HALL) hlt hqlt hi) (by omega) hns hAs (by omega) hn2s).mono ?_
                        rintro e w5 ⟨al, cl, rfl, hOL, hb5, hcl⟩
                        have hst5 := hide ((unhide hst).below hb5)
                        have HOL := hide hOL
                        obtain ⟨bl, ol, rfl⟩ : ∃ b o, al = some ⟨b, o, none⟩ := by
                          rcases hOL.at_ with h0 | ⟨b, o, e, _⟩
                          · omega
                          · exact ⟨b, o, e⟩
                        clear hb5 hst HWy hOL x0 x1 x2 x3 x4 x5 x6
                        go_wp2_with fail
                        refine (l4Fold_any op _ (I + 1) _ ((lineOf dt P n A Q).take (I + 1)) _ (row_head (unhide HOL).row (by omega)) (unhide HIN) (take_bd (line_bd (unhide HV1) P n A Q) _)).mono ?_
                        rw [unhide HRR]
                        rintro e w6 ⟨rfl, hb6⟩
                        have hst6 := (unhide hst5).below hb6
                        clear hb6 hst5 HOL
                        have G6 := hide ((unhide D6).low hz6 hst6.low)
                        have HW6 := hide ((unhide HB2).trans (hst6.low.mono hB2s))
                        by_cases hcode : r2 = 0
                        · subst hcode
                          have hfk := unhide HFQ
                          obtain ⟨z0, z1, z2, z3, z4, z5, z6⟩ := hst6.box.all
                          have hown := hst6.owns
                          have hlow := hst6.low.size
                          have hkb : (P * n + I) * A + Q < n2 := line_in (unhide HALL) hlt hqlt hilt
                          go_wp2_with (at_builtin; refine wpList_append_lies _ rfl _ _ 22 rfl w2.heap.size 3 i0 (.int .i64 0) 1 8 Tryd.underlying22 hi hz0 hz1 hz2 rfl (by decide) _ _ _ rfl (hown.alloc _) ⟨w6.heap.size, 0, none⟩ 1 1 [.int .i64 r1] rfl rfl (cells_new _ _) (one_one _) (by omega) (by unfold maxLen; omega) (by omega) (by have := hlow; simp; omega) (w6.heap.size + 1) (by simp) ?_; intro g' cap' w7 hown' hgrow hat hlt7; obtain ⟨hb7, hst7⟩ := hst6.push _ hfk hown' hgrow hat; obtain ⟨z0', z1', z2', z3', z4', z5', z6'⟩ := hb7.all; clear hgrow hat hown')
                          go_roundw
                          case rel => exact ⟨Q + 1, g', cap', by omega, by go_num, hst7⟩
                          case measure => simp [intOf]; omega
                        · have HS : Hid (scan op c sh dt first = noAns r2) := by
                            show _ = _
                            have hkk : (P * n + I) * A + Q < B * n * A := by rw [unhide HALL]; exact line_in (unhide HALL) hlt hqlt hilt
                            have := gather_bad (c := c) (sh := sh) hst6.code hkk (by rw [unhide HFQ]; exact hcode)
                            rw [unhide HGO, this, unhide HFQ]
                          have hcb : (r2 != 0) = true := by simp [hcode]
                          clear hcode hst6
                          go_wp2_with fail
                          refine (l4None_any _).mono ?_
                          rintro e w9 ⟨rfl, hb9⟩
                          obtain ⟨q0, q1, q2, q3, q4, q5, q6⟩ := ((unhide G6).below (Nat.le_refl _) hb9).all
                          have hB9 := hide (((unhide HW6)).trans (hb9.mono ((unhide HW6)).size))
                          clear hb9 G6 HW6
                          go_wp2
                          refine bodyPost_ret (v := .tuple #[.agg #[.bool false, .slice none 0 0, .slice none 0 0], .int .i64 r2]) (by simp [results, Tryd.results19, go_sem, q0, q1, q2]) rfl ?_
                          rw [unhide HS]
                          exact ⟨none, 0, 0, none, 0, 0, rfl, row_nil _ _, row_nil _ _, (((unhide hB9).setCell (by simp <;> omega) _).setCell (by simp <;> omega) _).setCell (by simp <;> omega) _⟩
                      · have hQA : Q = A := by omega
                        subst hQA
                        go_wp2_with fail
                        go_roundw
                        case rel => exact ⟨I + 1, g, cap, by omega, by go_num, by rw [← Nat.add_assoc, Nat.add_mul, Nat.one_mul]; exact hst⟩
                        case measure => simp [intOf]; omega
                  · have hIn : I = n := by omega
                    subst hIn
                    go_wp2_with fail
                    go_roundw
                    case rel => exact ⟨P + 1, g, cap, by omega, by go_num, by rw [Nat.add_mul P 1, Nat.one_mul]; exact hst⟩
                    case measure => simp [intOf]; omega
              · have hPB : P = B := by omega
                subst hPB
                have HS : Hid (scan op c sh dt first = ⟨c, sh, vals f (P * n * A), 0⟩) := (unhide HGO).trans (gather_good (unhide hst).code)
                have hkb : P * n * A ≤ 10000 := by rw [unhide HALL]; exact hn2s
                obtain ⟨ad', cd, hv, hD⟩ := Own.of_owns (unhide hst).owns (by omega)
                cases hv
                obtain ⟨z0, z1, z2, z3, z4, z5, z6⟩ := (unhide hst).box.all
                have G6 := hide ((unhide D6).low hz6 (unhide hst).low)
                obtain ⟨q0, q1, q2, q3, q4, q5, q6⟩ := (unhide G6).all
                have HW6 := hide ((unhide HB2).trans ((unhide hst).low.mono hB2s))
                have HO6 := hide (unhide hst).own
                have HD := hide hD
                clear hst hD HGO HFK
                go_wp2
                refine bodyPost_ret (v := .tuple #[.agg #[.bool c, .slice ash n1 csh, .slice (some ⟨g, 0, none⟩) (P * n * A) cap], .int .i64 0]) (by simp [results, Tryd.results19, go_sem, q0, q1, q2]) rfl ?_
                rw [unhide HS]
                refine ⟨ash, n1, csh, some ⟨g, 0, none⟩, P * n * A, cap, rfl, ?_, ?_, (((unhide HW6).setCell (by simp <;> omega) _).setCell (by simp <;> omega) _).setCell (by simp <;> omega) _⟩
                · exact (unhide HO6).row.sets (unhide G6) _ _ _
                · exact (unhide HD).row.sets (unhide G6) _ _ _


end Go.Proofs.YtabjnlhhefkekaaDoor
