import Derived.Test.YtmgjicgojlkpcaaGreatDoorStartMath
import Derived.Test.YtmgjicgojlkpcaaGreatDoorRuneMath
import Derived.Test.YtmgjicgojlkpcaaGreatDoorGrowB
import Derived.Test.YtmgjicgojlkpcaaGreatDoorRowMoreB
namespace Go.Proofs.YtmgjicgojlkpcaaGreatDoor
open Go.RowKit

theorem l1High_any (w : World) : Calls Tryz.prog 121 #[] w fun e w' => e = .returned (.string ⟨#[194, 175]⟩) ∧ w' = w := by
  go_enter Tryz.func121, Tryz.ntmps121
  go_wp2
  go_ret
  exact ⟨rfl, rfl⟩

theorem l1Digit_any (c : Nat) (w : World) : Calls Tryz.prog 116 #[.int .u8 (c : Nat)] w fun e w' => e = .returned (.bool (isD c)) ∧ w' = w := by
  obtain ⟨r, hr⟩ : ∃ r, isD c = r := ⟨_, rfl⟩
  rw [hr]
  have HR : Hid (decide (48 ≤ c ∧ c ≤ 57) = r) := hr
  clear hr
  by_cases h1 : 48 ≤ c
  · have h1i : (48 : Int) ≤ (c : Int) := by omega
    go_enter Tryz.func116, Tryz.ntmps116
    go_wp2
    go_ret
    refine ⟨ret_bool ?_, rfl⟩
    rw [← unhide HR]
    by_cases h2 : c ≤ 57
    · rw [decide_eq_true (by omega), decide_eq_true ⟨h1, h2⟩]
    · rw [decide_eq_false (by omega), decide_eq_false (by omega)]
  · have h1i : ¬ (48 : Int) ≤ (c : Int) := by omega
    go_enter Tryz.func116, Tryz.ntmps116
    go_wp2
    go_ret
    refine ⟨ret_bool ?_, rfl⟩
    rw [← unhide HR, decide_eq_false (by omega)]

theorem l1Letter_any (c : Nat) (w : World) : Calls Tryz.prog 115 #[.int .u8 (c : Nat)] w fun e w' => e = .returned (.bool (isL c)) ∧ w' = w := by
  obtain ⟨r, hr⟩ : ∃ r, isL c = r := ⟨_, rfl⟩
  rw [hr]
  have HR : Hid ((decide (97 ≤ c ∧ c ≤ 122) || decide (65 ≤ c ∧ c ≤ 90)) = r) := hr
  clear hr
  by_cases h1 : 97 ≤ c
  · have h1i : (97 : Int) ≤ (c : Int) := by omega
    by_cases h2 : c ≤ 122
    · have h2i : (c : Int) ≤ 122 := by omega
      go_enter Tryz.func115, Tryz.ntmps115
      go_wp2
      go_ret
      refine ⟨ret_bool ?_, rfl⟩
      rw [← unhide HR, decide_eq_true ⟨h1, h2⟩]
      rfl
    · have h2i : ¬ (c : Int) ≤ 122 := by omega
      have h3i : (65 : Int) ≤ (c : Int) := by omega
      have h4i : ¬ (c : Int) ≤ 90 := by omega
      go_enter Tryz.func115, Tryz.ntmps115
      go_wp2
      go_ret
      refine ⟨ret_bool ?_, rfl⟩
      rw [← unhide HR, decide_eq_false (by omega), decide_eq_false (by omega)]
      rfl
  · have h1i : ¬ (97 : Int) ≤ (c : Int) := by omega
    by_cases h3 : 65 ≤ c
    · have h3i : (65 : Int) ≤ (c : Int) := by omega
      by_cases h4 : c ≤ 90
      · have h4i : (c : Int) ≤ 90 := by omega
        go_enter Tryz.func115, Tryz.ntmps115
        go_wp2
        go_ret
        refine ⟨ret_bool ?_, rfl⟩
        rw [← unhide HR, decide_eq_false (by omega), decide_eq_true ⟨h3, h4⟩]
        rfl
      · have h4i : ¬ (c : Int) ≤ 90 := by omega
        go_enter Tryz.func115, Tryz.ntmps115
        go_wp2
        go_ret
        refine ⟨ret_bool ?_, rfl⟩
        rw [← unhide HR, decide_eq_false (by omega), decide_eq_false (by omega)]
        rfl
    · have h3i : ¬ (65 : Int) ≤ (c : Int) := by omega
      go_enter Tryz.func115, Tryz.ntmps115
      go_wp2
      go_ret
      refine ⟨ret_bool ?_, rfl⟩
      rw [← unhide HR, decide_eq_false (by omega), decide_eq_false (by omega)]
      rfl

theorem l1Starts_any (s p : ByteArray) (i : Nat) (hi : i ≤ s.size) (hs : s.size ≤ 17592186044416) (hp : p.size ≤ 100) (w : World) :
    Calls Tryz.prog 88 #[.string s, .int .i64 (i : Nat), .string p] w fun e w' => e = .returned (.bool (startsB s i p)) ∧ w' = w := by
  obtain ⟨r, hr⟩ : ∃ r, startsB s i p = r := ⟨_, rfl⟩
  rw [hr]
  have HR : Hid ((decide (i + p.size ≤ s.size) && ((s.extract i (i + p.size)).toList == p.toList)) = r) := hr
  clear hr
  by_cases h : i + p.size ≤ s.size
  · have hI : (i : Int) + (p.size : Int) ≤ (s.size : Int) := by omega
    go_enter Tryz.func88, Tryz.ntmps88
    go_wp2
    go_ret
    refine ⟨ret_bool ?_, rfl⟩
    rw [← unhide HR, decide_eq_true h]
    rfl
  · have hI : ¬ (i : Int) + (p.size : Int) ≤ (s.size : Int) := by omega
    go_enter Tryz.func88, Tryz.ntmps88
    go_wp2
    go_ret
    refine ⟨ret_bool ?_, rfl⟩
    rw [← unhide HR, decide_eq_false h]
    rfl

/-- The bytes of a text as numbers. -/
def bz (s : ByteArray) : List Int := s.data.toList.map fun b => ((b.toNat : Nat) : Int)

theorem bz_len (s : ByteArray) : (bz s).length = s.size := by unfold bz; rw [List.length_map, ← Lib.size_eq]

theorem bz_get {s : ByteArray} {i : Nat} (h : i < s.size) : (bz s).getD i 0 = (bt s i : Nat) := by
  have hl : i < s.data.toList.length := by rw [← Lib.size_eq]; exact h
  rw [bt_data h]
  unfold bz
  rw [List.getD_eq_getElem?_getD, List.getD_eq_getElem?_getD, List.getElem?_map, List.getElem?_eq_getElem hl]
  rfl

theorem RowB.get {w : World} {a : Option Addr} {n : Nat} {zs : List Int} (h : RowB w a n zs) {k : Nat} (hk : k < n) : ∃ b off, a = some ⟨b, off, none⟩ ∧ b < w.heap.size ∧ w.cell? ⟨b, off + k, none⟩ = some (.int .u8 (zs.getD k 0)) := by
  rcases h.at_ with h0 | ⟨b, off, rfl, hlt, hc⟩
  · omega
  · exact ⟨b, off, rfl, hlt, hc k hk⟩

theorem l1Tail_any (a : Option Addr) (cap : Nat) (s : ByteArray) (i : Nat) (w : World) (h : RowB w a s.size (bz s)) :
    Calls Tryz.prog 178 #[.slice a s.size cap, .int .i64 (i : Nat)] w fun e w' => e = .returned (.bool (tl s i)) ∧ w' = w := by
  obtain ⟨r, hr⟩ : ∃ r, tl s i = r := ⟨_, rfl⟩
  rw [hr]
  have HR : Hid (decide (i < s.size ∧ 128 ≤ bt s i ∧ bt s i < 192) = r) := hr
  clear hr
  by_cases hi : i < s.size
  · have hii : (i : Int) < (s.size : Int) := by omega
    obtain ⟨b, off, rfl, -, hc⟩ := h.get hi
    rw [bz_get hi] at hc
    obtain ⟨c, hcc⟩ : ∃ c, bt s i = c := ⟨_, rfl⟩
    rw [hcc] at hc HR
    clear h hcc
    by_cases h1 : 128 ≤ c
    · have h1i : (128 : Int) ≤ (c : Int) := by omega
      go_enter Tryz.func178, Tryz.ntmps178
      go_wp2
      go_ret
      refine ⟨ret_bool ?_, rfl⟩
      rw [← unhide HR]
      by_cases h2 : c < 192
      · rw [decide_eq_true (by omega), decide_eq_true ⟨hi, h1, h2⟩]
      · rw [decide_eq_false (by omega), decide_eq_false (by omega)]
    · have h1i : ¬ (128 : Int) ≤ (c : Int) := by omega
      go_enter Tryz.func178, Tryz.ntmps178
      go_wp2
      go_ret
      refine ⟨ret_bool ?_, rfl⟩
      rw [← unhide HR, decide_eq_false (by omega)]
  · have hii : ¬ (i : Int) < (s.size : Int) := by omega
    clear h
    go_enter Tryz.func178, Tryz.ntmps178
    go_wp2
    go_ret
    refine ⟨ret_bool ?_, rfl⟩
    rw [← unhide HR, decide_eq_false (by omega)]

end Go.Proofs.YtmgjicgojlkpcaaGreatDoor
