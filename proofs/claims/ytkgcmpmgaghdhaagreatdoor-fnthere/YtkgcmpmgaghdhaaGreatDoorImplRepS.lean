import Derived.Test.YtkgcmpmgaghdhaaGreatDoorImplRepH
import Derived.Test.YtkgcmpmgaghdhaaGreatDoorImplIndexes
import Derived.Test.YtkgcmpmgaghdhaaGreatDoorImplRepeat
import Derived.Test.YtkgcmpmgaghdhaaGreatDoorMFit1
import Derived.Deep.RegionHeld3
import Derived.Deep.DeepCutAuto
namespace Go.Proofs.YtkgcmpmgaghdhaaGreatDoor
open Go.RowKit Go.Shelf

theorem shapeIn_one {L : Nat} (h : L ≤ 10000) : ShapeIn [(L : Int)] ∧ prodAll [(L : Int)] = (L : Int) := by
  refine ⟨⟨by simp [inCells]; omega, ?_⟩, by simp [prodAll]⟩
  by_cases h0 : L = 0
  · exact ⟨1, by simp [prodFrom, h0]⟩
  · exact ⟨(L : Int), by unfold prodFrom; rw [if_neg (by omega), if_neg (by omega)]; simp [prodFrom]⟩

set_option maxRecDepth 20000 in
set_option maxHeartbeats 2000000 in
theorem jointCount_any (c : Bool) (a1 a2 b1 b2 : Option Addr) (n1 n2 c1 c2 L d1 d2 : Nat) (sh dt : List Int) (w : World) (h1 : Row w a1 n1 sh) (hk1 : Row w b1 1 [(L : Int)]) (hok : arrOk c sh dt = true) (hl : dt.length = n2) (hr : n1 ≤ 1) (hL : L ≤ 10000) (code : Int) (hc : Hid ((if L ≠ 1 ∧ n2 ≠ 1 ∧ n2 ≠ L then 5 else 0) = code)) :
    Calls Tryz.prog 63 #[.agg #[.bool c, .slice a1 n1 c1, .slice a2 n2 c2], .agg #[.bool false, .slice b1 1 d1, .slice b2 L d2]] w fun e w' => ∃ cnt : Nat, e = .returned (.tuple #[.int .i64 (cnt : Nat), .int .i64 code]) ∧ (code = 0 → cnt = repCount L n2) ∧ Below w.heap.size w w' := by
  obtain ⟨hin, hpr, h5⟩ := shapeIn_of hok
  have hbd := hin.bd
  rw [hpr, hl] at hbd
  have hlen := h1.len
  -- the shape of k is that of n2 elements
  have hone : n1 = 1 → sh = [(n2 : Int)] := fun h => by
    obtain ⟨x, rfl⟩ := List.length_eq_one_iff.1 (hlen.trans h)
    rw [hl] at hpr
    simp [prodAll] at hpr
    rw [hpr]
  have hnone : n1 = 0 → sh = [] ∧ n2 = 1 := fun h => by
    have e := List.length_eq_zero_iff.1 (hlen.trans h)
    subst e
    rw [hl] at hpr
    simp [prodAll] at hpr
    exact ⟨rfl, by omega⟩
  have HJC : Hid (jointCode n1 n2 1 L sh [(L : Int)] = code) := by
    show _ = _
    rw [← unhide hc]
    unfold jointCode wideB
    rcases Nat.lt_or_ge n1 1 with h | h
    · obtain ⟨_, hn2⟩ := hnone (by omega)
      subst hn2
      rw [if_pos (by left; simp; omega), if_neg (by omega)]
    · have e1 : n1 = 1 := by omega
      have e2 := hone e1
      by_cases hL1 : L = 1
      · rw [if_pos (.inr hL1), if_neg (by omega)]
      · by_cases hn2 : n2 = 1
        · rw [if_pos (by left; simp [hn2, hL1]), if_neg (by omega)]
        · rw [if_neg (by simp [hn2, hL1]), if_neg (by omega)]
          by_cases hnl : n2 = L
          · rw [if_neg (by rw [e2, hnl]; simp), if_neg (by omega)]
          · rw [if_pos (by rw [e2]; simp; omega), if_pos ⟨hL1, hn2, hnl⟩]
  have HJS : Hid (code = 0 → ShapeIn (jointSh n1 n2 1 L sh [(L : Int)]) ∧ prodAll (jointSh n1 n2 1 L sh [(L : Int)]) = ((repCount L n2 : Nat) : Int)) := fun h0 => by
    have hnc : ¬ (L ≠ 1 ∧ n2 ≠ 1 ∧ n2 ≠ L) := fun hh => by have := unhide hc; rw [if_pos hh] at this; omega
    obtain ⟨s1, s2⟩ := shapeIn_one hL
    unfold jointSh wideB
    by_cases hw : (decide (n2 = 1) && (decide (L ≠ 1) || decide (n1 < 1))) = true
    · rw [if_pos hw]
      refine ⟨s1, ?_⟩
      rw [s2]
      unfold repCount
      simp at hw
      split <;> omega
    · rw [if_neg hw]
      refine ⟨hin, ?_⟩
      rw [hpr, hl]
      unfold repCount
      simp at hw
      split <;> omega
  have HJ := hide (jointShape_any c false a1 a2 b1 b2 n1 n2 1 L c1 c2 d1 d2 sh [(L : Int)])
  have H1 := hide h1
  have K1 := hide hk1
  clear h1 hk1 hok hin hpr h5 hone hnone hc hlen hl
  go_enter Tryz.func63, Tryz.ntmps63
  go_wp2_with fail
  refine (unhide HJ _ (((unhide H1).alloc _).alloc _) (((unhide K1).alloc _).alloc _) (by omega) (by omega)).mono ?_
  rintro e w1 ⟨hcase, hb1⟩
  rw [unhide HJC] at hcase
  have HB1 : Hid (Below w.heap.size w w1) := ((((Below.refl _ w).alloc (Nat.le_refl _) _).alloc (by simp) _).trans (hb1.mono (by simp; omega)))
  clear hb1
  rcases hcase with ⟨h0, a', k, cap', rfl, hO⟩ | ⟨h0, rfl⟩
  · subst h0
    obtain ⟨s1, s2⟩ := unhide HJS rfl
    have HP := hide s2
    have HO := hide hO
    clear hO s2
    go_wp2_with (go_at_call 51; refine (cellsOf_n _ _ _ _ _ (unhide HO).row s1 _ HP).mono ?_; rintro e w2 ⟨rfl, hw⟩; obtain rfl := hw.symm)
    go_ret2
    first | exact ⟨_, rfl, rfl, unhide HB1⟩ | exact ⟨_, rfl, fun _ => rfl, unhide HB1⟩
  · have s1 : ShapeIn [] := ⟨rfl, 1, rfl⟩
    have HP : Hid (prodAll [] = ((1 : Nat) : Int)) := hide rfl
    go_wp2_with (go_at_call 51; refine (cellsOf_n none 0 0 [] _ (row_nil _ _) s1 _ HP).mono ?_; rintro e w2 ⟨rfl, hw⟩; obtain rfl := hw.symm)
    go_ret2
    exact ⟨1, rfl, fun h => absurd h h0, unhide HB1⟩

/-- A sum that goes no further than 10001. -/
def limS (s : Int) : Int := min s 10001

theorem limS_add {s x : Int} (hx : 0 ≤ x) : min (limS s + x) 10001 = limS (s + x) := by
  unfold limS
  omega

set_option maxRecDepth 20000 in
set_option maxHeartbeats 2000000 in
theorem limitedSum_any (a2 : Option Addr) (n2 c2 st step m : Nat) (dt : List Int) (w : World) (h2 : Row w a2 n2 dt) (hm : m ≤ 10000) (ht : ∀ k, k < m → st + k * step < n2 ∧ dt.getD (st + k * step) 0 = timesAt dt k ∧ 0 ≤ timesAt dt k ∧ timesAt dt k ≤ 1000000000000000) (hn : dt.all nonNeg = true) :
    Calls Tryz.prog 66 #[.agg #[.slice a2 n2 c2, .int .i64 (st : Nat), .int .i64 (step : Nat), .int .i64 (m : Nat)]] w fun e w' => e = .returned (.int .i64 (limS (timesSum dt m))) ∧ Below w.heap.size w w' := by
  have H2 := hide h2
  have HT := hide ht
  have HN := hide hn
  clear h2 ht hn
  have HX0 : Hid (SBox (w.alloc (.cells #[.slice a2 n2 c2, .int .i64 (st : Nat), .int .i64 (step : Nat), .int .i64 (m : Nat)] 68)) w.heap.size a2 n2 c2 st step m) := SBox.new w _ _ _ _ _ _
  have HB0 : Hid (Below w.heap.size w (w.alloc (.cells #[.slice a2 n2 c2, .int .i64 (st : Nat), .int .i64 (step : Nat), .int .i64 (m : Nat)] 68))) := (Below.refl _ w).alloc (Nat.le_refl _) _
  go_enter Tryz.func66, Tryz.ntmps66
  go_wp2_with fail
  generalize hW : w.alloc (.cells #[.slice a2 n2 c2, .int .i64 (st : Nat), .int .i64 (step : Nat), .int .i64 (m : Nat)] 68) = W at *
  clear hW
  go_loopw [3, 7] (fun s i wr => ∃ k : Nat, k ≤ m ∧ i = .int .i64 (k : Nat) ∧ s = .int .i64 (limS (timesSum dt k)) ∧ Hid (Below W.heap.size W wr)) (fun _ i _ => m - (intOf i).toNat)
  case atStart => exact ⟨0, Nat.zero_le _, rfl, rfl, hide (Below.refl _ _)⟩
  case round =>
    obtain ⟨k, hk, rfl, rfl, hbr⟩ := hrel
    by_cases hlt : k < m
    · obtain ⟨x0, x1, x2, x3⟩ := ((unhide HX0).below (Nat.le_refl _) (unhide hbr)).cells
      obtain ⟨t1, t2, t3, t4⟩ := unhide HT k hlt
      have hxl := ((unhide HX0).below (Nat.le_refl _) (unhide hbr)).lt
      have hkz : (k : Int) < (m : Int) := by omega
      obtain ⟨s, hs⟩ : ∃ s, s = limS (timesSum dt k) := ⟨_, rfl⟩
      have hs0 : 0 ≤ s ∧ s ≤ 10001 := by rw [hs]; have := sum_nn (unhide HN) k; unfold limS; omega
      obtain ⟨x, hx⟩ : ∃ x, x = timesAt dt k := ⟨_, rfl⟩
      have hcall := at_any a2 n2 c2 st step m k dt wr ((unhide H2).below (Nat.le_refl _) ((unhide HB0).trans ((unhide hbr).mono (unhide HB0).size))) (by omega)
      rw [t2, ← hx] at hcall
      rw [← hx] at t3 t4
      rw [← hs]
      have hw1 : IntKind.i64.wrap (s + x) = s + x := by rw [IntKind.wrap_i64]; omega
      have HNX : Hid (min (s + x) 10001 = limS (timesSum dt (k + 1))) := by show _ = limS (timesSum dt k + timesAt dt k); rw [hs, hx]; exact limS_add (by rw [← hx]; exact t3)
      clear hs hx t1 t2
      go_wp2_with (go_at_call 121; refine hcall.mono ?_; rintro e w3 ⟨rfl, hb3⟩; have HB3 := hide ((unhide hbr).trans (hb3.mono (unhide hbr).size)); clear hb3)
      go_roundw
      case rel => exact ⟨k + 1, by omega, by go_num, by rw [← unhide HNX], HB3⟩
      case measure => simp [intOf]; omega
    · have e : k = m := by omega
      subst k
      clear hlt
      go_wp2_with fail
      go_ret
      exact ⟨rfl, (unhide HB0).trans ((unhide hbr).mono (unhide HB0).size)⟩

end Go.Proofs.YtkgcmpmgaghdhaaGreatDoor
