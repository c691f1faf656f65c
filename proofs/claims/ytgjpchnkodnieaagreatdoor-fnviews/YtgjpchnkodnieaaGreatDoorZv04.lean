import Derived.Test.YtgjpchnkodnieaaGreatDoorZv01
import Derived.BigQuiet
import Derived.Deep.RegionWith
import Derived.Deep.DeepCutAuto
import Derived.Deep.OwnRows
import Derived.Test.YtgjpchnkodnieaaGreatDoorZv00
import Derived.Test.YtgjpchnkodnieaaGreatDoorZv03
namespace Go.Proofs.YtgjpchnkodnieaaGreatDoor
open Go.RowKit
def withinB (v lo hi : Int) : Bool := decide (lo ≤ v ∧ v ≤ hi)
set_option maxHeartbeats 400000 in
theorem isWithin_any (v lo hi : Int) (w : World) : Calls Tryz.prog 50 #[.int .i64 v, .int .i64 lo, .int .i64 hi] w fun e w' => e = .returned (.bool (withinB v lo hi)) ∧ w' = w := by
  by_cases h1 : lo ≤ v
  · by_cases h2 : v ≤ hi
    · have HE : Hid (withinB v lo hi = true) := decide_eq_true ⟨h1, h2⟩
      go_enter Tryz.func50, Tryz.ntmps50
      go_wp2
      go_ret
      exact ⟨ret_bool HE.out.symm, rfl⟩
    · have HE : Hid (withinB v lo hi = false) := decide_eq_false (fun h => by omega)
      go_enter Tryz.func50, Tryz.ntmps50
      go_wp2
      go_ret
      exact ⟨ret_bool HE.out.symm, rfl⟩
  · have HE : Hid (withinB v lo hi = false) := decide_eq_false (fun h => by omega)
    go_enter Tryz.func50, Tryz.ntmps50
    go_wp2
    go_ret
    exact ⟨ret_bool HE.out.symm, rfl⟩
theorem isWithin_eq (v lo hi : Int) (w : World) (b : Bool) (h : Hid (withinB v lo hi = b)) : Calls Tryz.prog 50 #[.int .i64 v, .int .i64 lo, .int .i64 hi] w fun e w' => e = .returned (.bool b) ∧ w' = w := by
  rw [← h.out]; exact isWithin_any v lo hi w
set_option maxHeartbeats 1000000 in
theorem shapeOk_any (a : Option Addr) (n cap : Nat) (sh : List Int) (w : World) (h : Row w a n sh) : Calls Tryz.prog 114 #[.slice a n cap] w fun e w' => e = .returned (.bool (shapeB sh)) ∧ w' = w := by
  have hlen := hide h.len
  have hsm := h.small
  have H := hide h
  clear h
  by_cases h5 : 5 < n
  · have HE := hide (shape_long (unhide hlen) h5)
    go_enter Tryz.func114, Tryz.ntmps114
    go_wp2
    go_ret
    exact ⟨ret_bool HE.out.symm, rfl⟩
  · go_enter Tryz.func114, Tryz.ntmps114
    go_wp2
    go_loop [3, 5, 11] (fun p _ i => ∃ (k : Nat) (m : Int), k ≤ n ∧ i = .int .i64 k ∧ p = .int .i64 m ∧ Hid ((sh.take k).all inCells = true) ∧ Hid (prodFrom (sh.take k) 1 = some m)) (fun _ _ i => n - (intOf i).toNat)
    case atStart => exact ⟨0, 1, Nat.zero_le _, rfl, rfl, rfl, rfl⟩
    case round =>
      obtain ⟨k, m, hk, rfl, rfl, hall, hp⟩ := hrel
      have hmb := prodFrom_bd (sh.take k) 1 m (unhide hall) (by omega) (by omega) (unhide hp)
      obtain ⟨hm1, hm2⟩ := hmb
      by_cases hlt : k < n
      · obtain ⟨b, off, rfl, hblt, hc⟩ := (unhide H).get hlt
        have hks : Hid (k < sh.length) := by show k < sh.length; rw [unhide hlen]; exact hlt
        obtain ⟨x, hx⟩ : ∃ x, x = sh.getD k 0 := ⟨_, rfl⟩
        rw [← hx] at hc
        have HX := hide hx
        clear hx
        by_cases hin : 0 ≤ x ∧ x ≤ 10000
        · have HW : Hid (withinB x 0 10000 = true) := decide_eq_true hin
          have HA : Hid ((sh.take (k + 1)).all inCells = true) := all_step sh inCells k (unhide hks) (unhide hall) (by rw [← unhide HX]; exact decide_eq_true hin)
          obtain ⟨hx0, hx1⟩ := hin
          by_cases h0 : x = 0
          · have HP := hide (prod_step0 sh k (unhide hks) m (unhide hp) (by rw [← unhide HX]; exact h0))
            subst h0
            have hw : wrap64 (m * (if (0 : Int) < 1 then 1 else 0)) = m := by rw [if_pos (by omega), Int.mul_one]; exact (by unfold wrap64; omega)
            have hv : wrap64 (m * max 0 1) = m := hw
            go_wp2_with (go_at_call 50; refine (isWithin_eq _ _ _ _ true HW).mono ?_; rintro e w' ⟨rfl, rfl⟩)
            go_round
            case rel => exact ⟨k + 1, m, by omega, by go_num, (by first | rfl | rw [hv]), HA, HP⟩
            case measure => simp [intOf]; omega
          · have hx2 : ¬ x < 1 := by omega
            have hmx : m * x ≤ 10000 * 10000 := Int.mul_le_mul hm2 hx1 hx0 (by omega)
            have hmx0 : 0 ≤ m * x := Int.mul_nonneg (by omega) hx0
            have hw : wrap64 (m * x) = m * x := (by unfold wrap64; omega)
            have hv : max x 1 = x := by omega
            by_cases hbig : 10000 < m * x
            · have HE : Hid (shapeB sh = false) := shape_bad (count_big sh (prod_none sh k (unhide hks) m (unhide hp) (by rw [← unhide HX]; exact h0) (by rw [← unhide HX]; exact hbig)))
              clear h0
              go_wp2_with (go_at_call 50; refine (isWithin_eq _ _ _ _ true HW).mono ?_; rintro e w' ⟨rfl, rfl⟩)
              go_ret
              exact ⟨ret_bool HE.out.symm, rfl⟩
            · have HP := hide (prod_step sh k (unhide hks) m (unhide hp) (by rw [← unhide HX]; exact h0) (by rw [← unhide HX]; omega))
              rw [← unhide HX] at HP
              clear h0
              go_wp2_with (go_at_call 50; refine (isWithin_eq _ _ _ _ true HW).mono ?_; rintro e w' ⟨rfl, rfl⟩)
              go_round
              case rel => exact ⟨k + 1, m * x, by omega, by go_num, rfl, HA, HP⟩
              case measure => simp [intOf]; omega
        · have HW : Hid (withinB x 0 10000 = false) := decide_eq_false hin
          have HE : Hid (shapeB sh = false) := shape_bad (count_bad sh (all_not sh inCells k (unhide hks) (by rw [← unhide HX]; exact decide_eq_false hin)))
          clear hin
          go_wp2_with (go_at_call 50; refine (isWithin_eq _ _ _ _ false HW).mono ?_; rintro e w' ⟨rfl, rfl⟩)
          go_ret
          exact ⟨ret_bool HE.out.symm, rfl⟩
      · have htk : sh.take k = sh := List.take_of_length_le (by rw [unhide hlen]; omega)
        have HE := hide (shape_good (unhide hlen) (by omega) m (by have := unhide hall; rwa [htk] at this) (by have := unhide hp; rwa [htk] at this))
        clear htk
        go_wp2
        go_ret
        exact ⟨ret_bool HE.out.symm, rfl⟩
theorem shapeOk_eq (a : Option Addr) (n cap : Nat) (sh : List Int) (w : World) (h : Row w a n sh) (r : Bool) (hr : Hid (shapeB sh = r)) : Calls Tryz.prog 114 #[.slice a n cap] w fun e w' => e = .returned (.bool r) ∧ w' = w := by
  rw [← hr.out]; exact shapeOk_any a n cap sh w h
set_option maxHeartbeats 400000 in
theorem cellsOf_any (a : Option Addr) (n cap : Nat) (sh : List Int) (w : World) (h : Row w a n sh) (hb : ∀ k, 0 ≤ prodAll (sh.take k) ∧ prodAll (sh.take k) ≤ 10000) : Calls Tryz.prog 116 #[.slice a n cap] w fun e w' => e = .returned (.int .i64 (prodAll sh)) ∧ w' = w := by
  have hlen := hide h.len
  have hsm := h.small
  have H := hide h
  have HB := hide hb
  clear h hb
  go_enter Tryz.func116, Tryz.ntmps116
  go_wp2
  go_loop [3, 5, 8] (fun p _ i => ∃ (k : Nat) (m : Int), k ≤ n ∧ i = .int .i64 k ∧ p = .int .i64 m ∧ Hid (prodAll (sh.take k) = m)) (fun _ _ i => n - (intOf i).toNat)
  case atStart => exact ⟨0, 1, Nat.zero_le _, rfl, rfl, rfl⟩
  case round =>
    obtain ⟨k, m, hk, rfl, rfl, hp⟩ := hrel
    by_cases hlt : k < n
    · obtain ⟨b, off, rfl, hblt, hc⟩ := (unhide H).get hlt
      have hks : Hid (k < sh.length) := by show k < sh.length; rw [unhide hlen]; exact hlt
      obtain ⟨x, hx⟩ : ∃ x, x = sh.getD k 0 := ⟨_, rfl⟩
      have HP : Hid (prodAll (sh.take (k + 1)) = m * x) := by show _ = _; rw [prodAll_snoc sh k (unhide hks), unhide hp, hx]
      have hpb := unhide HB (k + 1)
      rw [unhide HP] at hpb
      obtain ⟨hb0, hb1⟩ := hpb
      rw [← hx] at hc
      clear hx
      go_wp2
      go_round
      case rel => exact ⟨k + 1, m * x, by omega, by go_num, rfl, HP⟩
      case measure => simp [intOf]; omega
    · have HE : Hid (prodAll sh = m) := by have := unhide hp; rwa [List.take_of_length_le (by rw [unhide hlen]; omega)] at this
      go_wp2
      go_ret
      exact ⟨ret_int HE.out.symm, rfl⟩
theorem cellsOf_count (a : Option Addr) (n cap : Nat) (sh : List Int) (w : World) (h : Row w a n sh) (hs : shapeB sh = true) (cn : Int) (hc : Hid (countOf sh = cn)) : Calls Tryz.prog 116 #[.slice a n cap] w fun e w' => e = .returned (.int .i64 cn) ∧ w' = w := by
  rw [← hc.out, ← prodAll_count sh hs]; exact cellsOf_any a n cap sh w h (prodAll_bd sh hs)
end Go.Proofs.YtgjpchnkodnieaaGreatDoor
namespace Go.Proofs.YtgjpchnkodnieaaGreatDoor
open Go.RowKit
structure Raw (w : World) (a : Option Addr) (n : Nat) (zs : List Int) : Prop where
  len : zs.length = n
  max : n ≤ 9223372036854775807
  at_ : n = 0 ∨ ∃ b off, a = some ⟨b, off, none⟩ ∧ b < w.heap.size ∧ ∀ i, i < n → w.cell? ⟨b, off + i, none⟩ = some (.int .i64 (zs.getD i 0))
theorem Raw.row {w : World} {a : Option Addr} {n : Nat} {zs : List Int} (h : Raw w a n zs) (hn : n ≤ 17592186044416) : Row w a n zs := ⟨h.len, hn, h.at_⟩
end Go.Proofs.YtgjpchnkodnieaaGreatDoor
namespace Go.Proofs.YtgjpchnkodnieaaGreatDoor
open Go.RowKit
theorem madeList (z : Value) (n : Nat) : madeCells #[z] n = (List.replicate n z).toArray := by
  apply Array.toList_inj.mp
  simpa using toList_madeCells_one z n
theorem Blk.made (w : World) (n g : Nat) (hg : g = w.heap.size) : Blk (w.alloc (.cells (madeCells #[.int .i64 0] n) 3)) g (List.replicate n 0) := by
  subst hg
  show (w.heap.push _)[w.heap.size]? = _
  rw [madeList]
  simp
end Go.Proofs.YtgjpchnkodnieaaGreatDoor
namespace Go.Proofs.YtgjpchnkodnieaaGreatDoor
open Go.RowKit
theorem Own.alloc {w : World} {B : Nat} {a : Option Addr} {n : Nat} {zs : List Int} (h : Own w B a n zs) (o : Obj) : Own (w.alloc o) B a n zs := h.below (Nat.le_refl _) ((Below.refl _ _).alloc (Nat.le_refl _) _)
end Go.Proofs.YtgjpchnkodnieaaGreatDoor
namespace Go.Proofs.YtgjpchnkodnieaaGreatDoor
open Go.RowKit
set_option maxHeartbeats 1000000 in
theorem l3Count_any (a : Option Addr) (n cap : Nat) (sh : List Int) (w : World) (h : Row w a n sh) : Calls Tryz.prog 48 #[.slice a n cap] w fun e w' => e = .returned (.int .i64 (countOf sh)) ∧ w' = w := by
  have hlen := hide h.len
  have hsm := h.small
  have H := hide h
  clear h
  go_enter Tryz.func48, Tryz.ntmps48
  go_wp2
  go_loop [4] (fun i => ∃ k : Nat, k ≤ n ∧ i = .int .i64 k ∧ Hid ((sh.take k).all inCells = true)) (fun i => n - (intOf i).toNat)
  case atStart => exact ⟨0, Nat.zero_le _, rfl, rfl⟩
  case round =>
    obtain ⟨k, hk, rfl, hall⟩ := hrel
    by_cases hlt : k < n
    · obtain ⟨b, off, rfl, hblt, hc⟩ := (unhide H).get hlt
      have hks : Hid (k < sh.length) := by show k < sh.length; rw [unhide hlen]; exact hlt
      obtain ⟨x, hx⟩ : ∃ x, x = sh.getD k 0 := ⟨_, rfl⟩
      rw [← hx] at hc
      have HX := hide hx
      clear hx
      by_cases hneg : x < 0
      · have HE : Hid (countOf sh = -1) := count_bad sh (all_not sh inCells k (unhide hks) (by rw [← unhide HX]; exact decide_eq_false (by omega)))
        go_wp2
        go_ret
        exact ⟨ret_int HE.out.symm, rfl⟩
      · by_cases hbig : 10000 < x
        · have HE : Hid (countOf sh = -1) := count_bad sh (all_not sh inCells k (unhide hks) (by rw [← unhide HX]; exact decide_eq_false (by omega)))
          go_wp2
          go_ret
          exact ⟨ret_int HE.out.symm, rfl⟩
        · have HA : Hid ((sh.take (k + 1)).all inCells = true) := all_step sh inCells k (unhide hks) (unhide hall) (by rw [← unhide HX]; exact decide_eq_true (by omega))
          go_wp2
          go_round
          case rel => exact ⟨k + 1, by omega, by go_num, HA⟩
          case measure => simp [intOf]; omega
    · have HA : Hid (sh.all inCells = true) := by
        have := unhide hall
        rwa [List.take_of_length_le (by rw [unhide hlen]; omega)] at this
      clear hall
      go_wp2
      go_loop [3, 5, 6] (fun p z i => ∃ (k : Nat) (m : Int), k ≤ n ∧ i = .int .i64 k ∧ p = .int .i64 m ∧ Hid (prodFrom (sh.take k) 1 = some m) ∧ z = .bool (decide (0 ∈ sh.take k))) (fun _ _ i => n - (intOf i).toNat)
      case atStart => exact ⟨0, 1, Nat.zero_le _, rfl, rfl, rfl, rfl⟩
      case round =>
        obtain ⟨k, m, hk, rfl, rfl, hp, rfl⟩ := hrel
        have hmb := prodFrom_bd (sh.take k) 1 m (by rw [List.all_eq_true]; exact fun x hx => List.all_eq_true.1 (unhide HA) x (List.mem_of_mem_take hx)) (by omega) (by omega) (unhide hp)
        obtain ⟨hm1, hm2⟩ := hmb
        by_cases hlt : k < n
        · obtain ⟨b, off, rfl, hblt, hc⟩ := (unhide H).get hlt
          have hks : Hid (k < sh.length) := by show k < sh.length; rw [unhide hlen]; exact hlt
          have hxb : 0 ≤ sh.getD k 0 ∧ sh.getD k 0 ≤ 10000 := of_decide_eq_true (List.all_eq_true.1 (unhide HA) (sh.getD k 0) (by simp [unhide hks]))
          have HZ := hide (zero_step sh k (unhide hks))
          obtain ⟨x, hx⟩ : ∃ x, x = sh.getD k 0 := ⟨_, rfl⟩
          rw [← hx] at hc hxb
          obtain ⟨hx0, hx1⟩ := hxb
          have HX := hide hx
          clear hx
          generalize decide (0 ∈ sh.take k) = z0 at *
          by_cases h0 : x = 0
          · have hb : (x == 0) = true := by simp [h0]
            have HP := hide (prod_step0 sh k (unhide hks) m (unhide hp) (by rw [← unhide HX]; exact h0))
            have HZ2 : Hid (true = decide (0 ∈ sh.take (k + 1))) := by show _ = _; rw [unhide HZ, ← unhide HX, decide_eq_true h0, Bool.or_true]
            clear h0 HZ
            go_wp2
            go_round
            case rel => exact ⟨k + 1, m, by omega, by go_num, rfl, HP, by rw [← unhide HZ2]⟩
            case measure => simp [intOf]; omega
          · have hb : (x == 0) = false := by simp [h0]
            have HZ2 : Hid (z0 = decide (0 ∈ sh.take (k + 1))) := by show _ = _; rw [unhide HZ, ← unhide HX, decide_eq_false h0, Bool.or_false]
            have hmx : m * x ≤ 10000 * 10000 := Int.mul_le_mul hm2 hx1 hx0 (by omega)
            have hmx0 : 0 ≤ m * x := Int.mul_nonneg (by omega) hx0
            by_cases hbig : 10000 < m * x
            · have HE : Hid (countOf sh = -1) := count_big sh (prod_none sh k (unhide hks) m (unhide hp) (by rw [← unhide HX]; exact h0) (by rw [← unhide HX]; exact hbig))
              clear h0 HZ
              go_wp2
              go_ret
              exact ⟨ret_int HE.out.symm, rfl⟩
            · have HP := hide (prod_step sh k (unhide hks) m (unhide hp) (by rw [← unhide HX]; exact h0) (by rw [← unhide HX]; omega))
              rw [← unhide HX] at HP
              clear h0 HZ
              go_wp2
              go_round
              case rel => exact ⟨k + 1, m * x, by omega, by go_num, rfl, HP, by rw [← unhide HZ2]⟩
              case measure => simp [intOf]; omega
        · have HP : Hid (prodFrom sh 1 = some m) := by
            have := unhide hp
            rwa [List.take_of_length_le (by rw [unhide hlen]; omega)] at this
          rw [List.take_of_length_le (by rw [unhide hlen]; omega)]
          by_cases hz : 0 ∈ sh
          · have hd : decide (0 ∈ sh) = true := decide_eq_true hz
            have HE := hide (count_zero sh m (unhide HA) (unhide HP) hd)
            clear hz
            rw [hd]
            go_wp2
            go_ret
            exact ⟨ret_int HE.out.symm, rfl⟩
          · have hd : decide (0 ∈ sh) = false := decide_eq_false hz
            have HE := hide (count_n sh m (unhide HA) (unhide HP) hd)
            clear hz
            rw [hd]
            go_wp2
            go_ret
            exact ⟨ret_int HE.out.symm, rfl⟩
theorem l3Count_eq (a : Option Addr) (n cap : Nat) (sh : List Int) (w : World) (h : Row w a n sh) (cn : Int) (hc : Hid (countOf sh = cn)) : Calls Tryz.prog 48 #[.slice a n cap] w fun e w' => e = .returned (.int .i64 cn) ∧ w' = w := by
  rw [← hc.out]; exact l3Count_any a n cap sh w h
end Go.Proofs.YtgjpchnkodnieaaGreatDoor
namespace Go.Proofs.YtgjpchnkodnieaaGreatDoor
def cutOne (sh fr ns : List Int) (i : Nat) : Bool := decide (0 ≤ fr.getD i 0 ∧ 0 ≤ ns.getD i 0 ∧ fr.getD i 0 ≤ sh.getD i 0 ∧ ns.getD i 0 ≤ sh.getD i 0 - fr.getD i 0)
def cutB (sh fr ns : List Int) : Nat → Bool
  | 0 => true
  | i + 1 => cutB sh fr ns i && cutOne sh fr ns i
def offN (c : Int) (fr st : List Int) : Nat → Int
  | 0 => c
  | i + 1 => offN c fr st i + fr.getD i 0 * st.getD i 0
theorem cutB_le {sh fr ns : List Int} {m i : Nat} (h : cutB sh fr ns m = true) (hi : i ≤ m) : cutB sh fr ns i = true := by
  induction m with
  | zero => have : i = 0 := by omega
            subst this; exact h
  | succ m ih =>
    simp only [cutB, Bool.and_eq_true] at h
    by_cases e : i = m + 1
    · subst e; simp only [cutB, Bool.and_eq_true]; exact h
    · exact ih h.1 (by omega)
theorem cutB_no {sh fr ns : List Int} {m i : Nat} (hi : i < m) (h : cutOne sh fr ns i = false) : cutB sh fr ns m = false := by
  cases e : cutB sh fr ns m with
  | false => rfl
  | true =>
    have := cutB_le e (show i + 1 ≤ m by omega)
    simp only [cutB, Bool.and_eq_true] at this
    rw [h] at this
    exact absurd this.2 (by simp)
theorem prod_bd {f y : Int} (hf : 0 ≤ f ∧ f ≤ 10000) (hy : -10000 ≤ y ∧ y ≤ 10000) : -100000000 ≤ f * y ∧ f * y ≤ 100000000 := by
  have q1 := Int.mul_le_mul_of_nonneg_left hy.2 hf.1
  have q2 := Int.mul_le_mul_of_nonneg_left hy.1 hf.1
  have q3 : f * -10000 = -(f * 10000) := by rw [Int.mul_neg]
  omega
theorem offN_bd {c : Int} {sh st fr ns : List Int} (hc : -10000 ≤ c ∧ c ≤ 10000) (hs : ∀ k, sh.getD k 0 ≤ 10000) (hst : ∀ k, -10000 ≤ st.getD k 0 ∧ st.getD k 0 ≤ 10000) {i : Nat} (h : cutB sh fr ns i = true) : -(10000 + 100000000 * (i : Int)) ≤ offN c fr st i ∧ offN c fr st i ≤ 10000 + 100000000 * (i : Int) := by
  induction i with
  | zero => simp [offN]; omega
  | succ i ih =>
    simp only [cutB, Bool.and_eq_true] at h
    have h2 := of_decide_eq_true (show decide _ = true from h.2)
    have hb := prod_bd (f := fr.getD i 0) (y := st.getD i 0) ⟨h2.1, by have := hs i; omega⟩ (hst i)
    have := ih h.1
    unfold offN
    push_cast
    omega
theorem mixN_set {ns sh : List Int} {k : Nat} (hk : k < sh.length) (hl : ns.length = sh.length) : (ns.take k ++ sh.drop k).set k (ns.getD k 0) = ns.take (k + 1) ++ sh.drop (k + 1) := by
  have hkn : k < ns.length := by omega
  rw [List.drop_eq_getElem_cons hk, List.set_append_right _ _ (by simp; omega)]
  have e : k - (ns.take k).length = 0 := by simp; omega
  rw [e, List.set_cons_zero, List.take_succ_eq_append_getElem hkn, List.append_assoc]
  simp [List.getD, hkn]
def cutV (c : Int) (sh st fr ns : List Int) : VAns := if formed c sh st = true ∧ fr.length = sh.length ∧ ns.length = sh.length ∧ cutB sh fr ns sh.length = true then (if formed (offN c fr st sh.length) ns st = true then ⟨offN c fr st sh.length, ns, st, true⟩ else ⟨0, [], [], false⟩) else ⟨0, [], [], false⟩
end Go.Proofs.YtgjpchnkodnieaaGreatDoor
namespace Go.Proofs.YtgjpchnkodnieaaGreatDoor
def lineB (ps : List Int) : Bool := (List.range ps.length).all fun i => decide (i = 0 ∨ ps.getD i 0 - ps.getD (i - 1) 0 = ps.getD 1 0 - ps.getD 0 0)
def lineL (ps : List Int) : Int × Bool := if ps.length < 2 then (1, true) else if lineB ps = true then (ps.getD 1 0 - ps.getD 0 0, true) else (0, false)
theorem lineL_short {ps : List Int} (h : ps.length < 2) : lineL ps = (1, true) := by unfold lineL; rw [if_pos h]
theorem lineL_no {ps : List Int} {i : Nat} (h : ¬ ps.length < 2) (hi : i < ps.length) (h0 : i ≠ 0) (hne : ps.getD i 0 - ps.getD (i - 1) 0 ≠ ps.getD 1 0 - ps.getD 0 0) : lineL ps = (0, false) := by
  unfold lineL
  rw [if_neg h, if_neg]
  intro hb
  unfold lineB at hb
  rw [List.all_eq_true] at hb
  have := of_decide_eq_true (hb i (by simpa using hi))
  rcases this with h1 | h1
  · exact h0 h1
  · exact hne h1
theorem lineL_yes {ps : List Int} (h : ¬ ps.length < 2) (ha : ∀ i, i ≠ 0 → i < ps.length → ps.getD i 0 - ps.getD (i - 1) 0 = ps.getD 1 0 - ps.getD 0 0) : lineL ps = (ps.getD 1 0 - ps.getD 0 0, true) := by
  unfold lineL
  rw [if_neg h, if_pos]
  unfold lineB
  rw [List.all_eq_true]
  intro i hi
  refine decide_eq_true ?_
  by_cases h0 : i = 0
  · exact .inl h0
  · exact .inr (ha i h0 (by simpa using hi))
end Go.Proofs.YtgjpchnkodnieaaGreatDoor
namespace Go.Proofs.YtgjpchnkodnieaaGreatDoor
open Go.RowKit
def PickedSaid : Prop := ∀ (c : Int) (a1 a2 : Addr) (n1 n2 c1 c2 : Nat) (sh st : List Int) (cells : Int) (b1 b2 : Option Addr) (m1 m2 d1 d2 : Nat) (n : Nat) (w : World), Row w (some a1) n1 sh → Row w (some a2) n2 st → Row w b1 m1 sh → Row w b2 m2 (placesOf c sh st) → viewOk c sh st cells = true → n ≤ 1048576 →
  Calls Tryz.prog 37 #[.agg #[.int .i64 c, .slice (some a1) n1 c1, .slice (some a2) n2 c2], .int .i64 cells, .agg #[.bool false, .slice b1 m1 d1, .slice b2 m2 d2], .int .i64 (n : Nat)] w fun e w' => e = .returned (.bool true) ∧ Below w.heap.size w w'
end Go.Proofs.YtgjpchnkodnieaaGreatDoor
namespace Go.Proofs.YtgjpchnkodnieaaGreatDoor
theorem restN_place {sh ix : List Int} (hi : IxIn sh ix) (j : Nat) (hj : j ≤ sh.length) : restN sh (place sh ix) j = placeN sh ix (sh.length - j) := by
  induction j with
  | zero => rfl
  | succ j ih =>
    have e : sh.length - j = sh.length - 1 - j + 1 := by omega
    have e2 : sh.length - (j + 1) = sh.length - 1 - j := by omega
    obtain ⟨h1, h2⟩ := hi (sh.length - 1 - j) (by omega)
    show restN sh (place sh ix) j / sh.getD (sh.length - 1 - j) 0 = _
    rw [ih (by omega), e, e2]
    show (placeN sh ix (sh.length - 1 - j) * sh.getD (sh.length - 1 - j) 0 + ix.getD (sh.length - 1 - j) 0) / sh.getD (sh.length - 1 - j) 0 = _
    rw [Int.add_comm, Int.add_mul_ediv_right _ _ (by omega), Int.ediv_eq_zero_of_lt h1 h2]
    omega
theorem digits_placeR {sh ix : List Int} (hi : IxIn sh ix) (k : Nat) (hk : k < sh.length) : (digits sh (place sh ix)).getD k 0 = ix.getD k 0 := by
  obtain ⟨h1, h2⟩ := hi k hk
  rw [digits_get sh _ k hk]
  unfold digit
  rw [restN_place hi _ (by omega), show sh.length - (sh.length - 1 - k) = k + 1 by omega]
  show (placeN sh ix k * sh.getD k 0 + ix.getD k 0) % sh.getD k 0 = _
  rw [Int.add_comm, Int.add_mul_emod_self_right, Int.emod_eq_of_lt h1 h2]
theorem farN_congr {ix ix' st : List Int} {k : Nat} (h : ∀ j, j < k → ix.getD j 0 = ix'.getD j 0) : farN ix st k = farN ix' st k := by
  induction k with
  | zero => rfl
  | succ k ih =>
    show farN ix st k + ix.getD k 0 * st.getD k 0 = farN ix' st k + ix'.getD k 0 * st.getD k 0
    rw [ih (fun j hj => h j (by omega)), h k (by omega)]
theorem far_place {sh ix : List Int} (hi : IxIn sh ix) (st : List Int) : farN (digits sh (place sh ix)) st sh.length = farN ix st sh.length := farN_congr fun j hj => digits_placeR hi j hj
def lowN (sh st : List Int) : Nat → Int
  | 0 => 0
  | k + 1 => lowN sh st k + (if st.getD k 0 * (sh.getD k 0 - 1) < 0 then st.getD k 0 * (sh.getD k 0 - 1) else 0)
def highN (sh st : List Int) : Nat → Int
  | 0 => 0
  | k + 1 => highN sh st k + (if 0 < st.getD k 0 * (sh.getD k 0 - 1) then st.getD k 0 * (sh.getD k 0 - 1) else 0)
theorem term_bd {i s n : Int} (h0 : 0 ≤ i) (h1 : i < n) : (if s * (n - 1) < 0 then s * (n - 1) else 0) ≤ i * s ∧ i * s ≤ (if 0 < s * (n - 1) then s * (n - 1) else 0) := by
  by_cases hs : 0 ≤ s
  · have q1 := Int.mul_nonneg h0 hs
    have q2 := Int.mul_le_mul_of_nonneg_left (show i ≤ n - 1 by omega) hs
    have q3 := Int.mul_nonneg hs (show 0 ≤ n - 1 by omega)
    rw [Int.mul_comm i s] at q1 ⊢
    split <;> split <;> omega
  · have q1 := Int.mul_nonneg h0 (show 0 ≤ -s by omega)
    have q2 := Int.mul_le_mul_of_nonneg_left (show i ≤ n - 1 by omega) (show 0 ≤ -s by omega)
    have q3 := Int.mul_nonneg (show 0 ≤ -s by omega) (show 0 ≤ n - 1 by omega)
    rw [Int.neg_mul] at q2 q3
    rw [Int.neg_mul] at q2
    rw [Int.mul_neg, Int.mul_comm] at q1
    rw [Int.mul_comm i s]
    split <;> split <;> omega
theorem far_between {sh ix st : List Int} (hi : IxIn sh ix) (k : Nat) (hk : k ≤ sh.length) : lowN sh st k ≤ farN ix st k ∧ farN ix st k ≤ highN sh st k := by
  induction k with
  | zero => simp [lowN, highN, farN]
  | succ k ih =>
    obtain ⟨h1, h2⟩ := ih (by omega)
    obtain ⟨h3, h4⟩ := hi k (by omega)
    obtain ⟨h5, h6⟩ := term_bd (s := st.getD k 0) h3 h4
    unfold lowN highN farN
    omega
def ixLow (sh st : List Int) : List Int := (List.range sh.length).map fun j => if st.getD j 0 < 0 then sh.getD j 0 - 1 else 0
def ixHigh (sh st : List Int) : List Int := (List.range sh.length).map fun j => if st.getD j 0 < 0 then 0 else sh.getD j 0 - 1
theorem ixLow_get (sh st : List Int) {k : Nat} (hk : k < sh.length) : (ixLow sh st).getD k 0 = if st.getD k 0 < 0 then sh.getD k 0 - 1 else 0 := by simp [ixLow, hk]
theorem ixHigh_get (sh st : List Int) {k : Nat} (hk : k < sh.length) : (ixHigh sh st).getD k 0 = if st.getD k 0 < 0 then 0 else sh.getD k 0 - 1 := by simp [ixHigh, hk]
theorem ixLow_in {sh : List Int} (hf : Full sh) (st : List Int) : IxIn sh (ixLow sh st) := by
  intro k hk
  have := hf k hk
  rw [ixLow_get sh st hk]
  split <;> omega
theorem ixHigh_in {sh : List Int} (hf : Full sh) (st : List Int) : IxIn sh (ixHigh sh st) := by
  intro k hk
  have := hf k hk
  rw [ixHigh_get sh st hk]
  split <;> omega
theorem far_low {sh st : List Int} (hf : Full sh) (k : Nat) (hk : k ≤ sh.length) : farN (ixLow sh st) st k = lowN sh st k := by
  induction k with
  | zero => rfl
  | succ k ih =>
    have h1 := hf k (by omega)
    show farN (ixLow sh st) st k + (ixLow sh st).getD k 0 * st.getD k 0 = lowN sh st k + _
    rw [ih (by omega), ixLow_get sh st (by omega)]
    congr 1
    by_cases hs : st.getD k 0 < 0
    · rw [if_pos hs, Int.mul_comm]
      by_cases hn : sh.getD k 0 = 1
      · rw [hn]; simp
      · have := Int.mul_pos (show 0 < -st.getD k 0 by omega) (show 0 < sh.getD k 0 - 1 by omega)
        rw [Int.neg_mul] at this
        rw [if_pos (by omega)]
    · have := Int.mul_nonneg (show 0 ≤ st.getD k 0 by omega) (show 0 ≤ sh.getD k 0 - 1 by omega)
      rw [if_neg hs, if_neg (by omega)]
      simp
theorem far_high {sh st : List Int} (hf : Full sh) (k : Nat) (hk : k ≤ sh.length) : farN (ixHigh sh st) st k = highN sh st k := by
  induction k with
  | zero => rfl
  | succ k ih =>
    have h1 := hf k (by omega)
    show farN (ixHigh sh st) st k + (ixHigh sh st).getD k 0 * st.getD k 0 = highN sh st k + _
    rw [ih (by omega), ixHigh_get sh st (by omega)]
    congr 1
    by_cases hs : st.getD k 0 < 0
    · have := Int.mul_nonneg (show 0 ≤ -st.getD k 0 by omega) (show 0 ≤ sh.getD k 0 - 1 by omega)
      rw [Int.neg_mul] at this
      rw [if_pos hs, if_neg (by omega)]
      simp
    · rw [if_neg hs, Int.mul_comm]
      have := Int.mul_nonneg (show 0 ≤ st.getD k 0 by omega) (show 0 ≤ sh.getD k 0 - 1 by omega)
      by_cases hp : 0 < st.getD k 0 * (sh.getD k 0 - 1)
      · rw [if_pos hp]
      · rw [if_neg hp]; omega
theorem places_mem {off : Int} {sh st : List Int} {p : Int} (N : Nat) (hN : countOf sh = (N : Int)) : p ∈ placesOf off sh st ↔ ∃ k, k < N ∧ placeOf off sh st k = p := by
  unfold placesOf
  rw [hN]
  simp
theorem reach_iff {off : Int} {sh st : List Int} (hs : shapeB sh = true) (hp : 0 < countOf sh) (cells : Int) :
    ((placesOf off sh st).all fun p => decide (0 ≤ p ∧ p < cells)) = decide (0 ≤ off + lowN sh st sh.length ∧ off + highN sh st sh.length < cells) := by
  have hpc := prodAll_count sh hs
  have hf : Full sh := full_of (shapeB_in hs).1 (by omega)
  obtain ⟨N, hN⟩ : ∃ N : Nat, countOf sh = (N : Int) := ⟨(countOf sh).toNat, by omega⟩
  rw [Bool.eq_iff_iff, List.all_eq_true, decide_eq_true_eq]
  constructor
  · intro h
    have key : ∀ ix, IxIn sh ix → 0 ≤ off + farN ix st sh.length ∧ off + farN ix st sh.length < cells := by
      intro ix hi
      obtain ⟨h1, h2⟩ := place_bd hi
      have := h (off + farN ix st sh.length) ((places_mem N hN).mpr ⟨(place sh ix).toNat, by omega, by
        unfold placeOf
        rw [show (((place sh ix).toNat : Nat) : Int) = place sh ix by omega, far_place hi]⟩)
      exact of_decide_eq_true this
    have k1 := key _ (ixLow_in hf st)
    have k2 := key _ (ixHigh_in hf st)
    rw [far_low hf _ (Nat.le_refl _)] at k1
    rw [far_high hf _ (Nat.le_refl _)] at k2
    exact ⟨k1.1, k2.2⟩
  · rintro ⟨h1, h2⟩ p hp'
    obtain ⟨k, _, rfl⟩ := (places_mem N hN).mp hp'
    have := far_between (st := st) (digits_in hf (k : Int)) sh.length (Nat.le_refl _)
    unfold placeOf
    exact decide_eq_true (by omega)
end Go.Proofs.YtgjpchnkodnieaaGreatDoor
