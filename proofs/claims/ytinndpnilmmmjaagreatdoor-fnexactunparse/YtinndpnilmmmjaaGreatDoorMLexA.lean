import Derived.Test.YtinndpnilmmmjaaGreatDoorMRune
import Derived.Test.YtinndpnilmmmjaaGreatDoorMRune
import Derived.Shelf.Abstract
import Derived.Laws.RangeAny
import Derived.Laws.Runes
import Derived.Lib.RuneCount
import Derived.Test.YtinndpnilmmmjaaGreatDoorMCv
import Derived.Lib.AtoiAllCases
import Derived.Lib.Strings
import Derived.Test.YtinndpnilmmmjaaGreatDoorMBs
namespace Go.Proofs.YtinndpnilmmmjaaGreatDoor
open Go.RowKit

theorem implDigit_any (v : Nat) (w : World) : Calls Tryz.prog 151 #[.int .i32 (v : Nat)] w fun e w' => e = .returned (.bool (isD v)) ∧ w' = w := by
  obtain ⟨r, hr⟩ : ∃ r, isD v = r := ⟨_, rfl⟩
  rw [hr]
  have HR : Hid (decide (48 ≤ v ∧ v ≤ 57) = r) := hr
  clear hr
  by_cases h1 : 48 ≤ v
  · have h1i : (48 : Int) ≤ (v : Int) := by omega
    go_enter Tryz.func151, Tryz.ntmps151
    go_wp2
    go_ret
    refine ⟨ret_bool ?_, rfl⟩
    rw [← unhide HR]
    by_cases h2 : v ≤ 57
    · rw [decide_eq_true (by omega), decide_eq_true ⟨h1, h2⟩]
    · rw [decide_eq_false (by omega), decide_eq_false (by omega)]
  · have h1i : ¬ (48 : Int) ≤ (v : Int) := by omega
    go_enter Tryz.func151, Tryz.ntmps151
    go_wp2
    go_ret
    refine ⟨ret_bool ?_, rfl⟩
    rw [← unhide HR, decide_eq_false (by omega)]

theorem implLetter_any (v : Nat) (w : World) : Calls Tryz.prog 154 #[.int .i32 (v : Nat)] w fun e w' => e = .returned (.bool (isL v)) ∧ w' = w := by
  obtain ⟨r, hr⟩ : ∃ r, isL v = r := ⟨_, rfl⟩
  rw [hr]
  have HR : Hid ((decide (97 ≤ v ∧ v ≤ 122) || decide (65 ≤ v ∧ v ≤ 90)) = r) := hr
  clear hr
  by_cases h1 : 65 ≤ v
  · have h1i : (65 : Int) ≤ (v : Int) := by omega
    by_cases h2 : v ≤ 90
    · have h2i : (v : Int) ≤ 90 := by omega
      go_enter Tryz.func154, Tryz.ntmps154
      go_wp2
      go_ret
      refine ⟨ret_bool ?_, rfl⟩
      rw [← unhide HR, decide_eq_false (by omega), decide_eq_true ⟨h1, h2⟩]
      rfl
    · have h2i : ¬ (v : Int) ≤ 90 := by omega
      by_cases h3 : 97 ≤ v
      · have h3i : (97 : Int) ≤ (v : Int) := by omega
        go_enter Tryz.func154, Tryz.ntmps154
        go_wp2
        go_ret
        refine ⟨ret_bool ?_, rfl⟩
        rw [← unhide HR]
        by_cases h4 : v ≤ 122
        · rw [decide_eq_true (by omega), decide_eq_true ⟨h3, h4⟩]; rfl
        · rw [decide_eq_false (by omega), decide_eq_false (by omega), decide_eq_false (by omega)]; rfl
      · have h3i : ¬ (97 : Int) ≤ (v : Int) := by omega
        go_enter Tryz.func154, Tryz.ntmps154
        go_wp2
        go_ret
        refine ⟨ret_bool ?_, rfl⟩
        rw [← unhide HR, decide_eq_false (by omega), decide_eq_false (by omega)]
        rfl
  · have h1i : ¬ (65 : Int) ≤ (v : Int) := by omega
    have h3i : ¬ (97 : Int) ≤ (v : Int) := by omega
    go_enter Tryz.func154, Tryz.ntmps154
    go_wp2
    go_ret
    refine ⟨ret_bool ?_, rfl⟩
    rw [← unhide HR, decide_eq_false (by omega), decide_eq_false (by omega)]
    rfl

theorem implLD_any (v : Nat) (w : World) : Calls Tryz.prog 189 #[.int .i32 (v : Nat)] w fun e w' => e = .returned (.bool (isLD v)) ∧ w' = w := by
  have HL := hide (implLetter_any v w)
  have HD := hide (implDigit_any v w)
  have HE : Hid (isLD v = (isL v || isD v)) := rfl
  cases hl : isL v with
  | true =>
    rw [hl] at HL HE
    go_enter Tryz.func189, Tryz.ntmps189
    go_wp2_with (go_at_call 154; refine (unhide HL).mono ?_; rintro e w1 ⟨rfl, hw⟩; obtain rfl := hw.symm)
    go_ret
    exact ⟨ret_bool (by rw [unhide HE]; rfl), rfl⟩
  | false =>
    rw [hl] at HL HE
    go_enter Tryz.func189, Tryz.ntmps189
    go_wp2_with (first | (go_at_call 154; refine (unhide HL).mono ?_; rintro e w1 ⟨rfl, hw⟩; obtain rfl := hw.symm) | (go_at_call 151; refine (unhide HD).mono ?_; rintro e w1 ⟨rfl, hw⟩; obtain rfl := hw.symm))
    go_ret
    exact ⟨ret_bool (by rw [unhide HE]; rfl), rfl⟩

theorem implBlank_any (v : Nat) (w : World) : Calls Tryz.prog 99 #[.int .i32 (v : Nat)] w fun e w' => e = .returned (.bool (decide (v = 32 ∨ v = 9))) ∧ w' = w := by
  obtain ⟨r, hr⟩ : ∃ r, decide (v = 32 ∨ v = 9) = r := ⟨_, rfl⟩
  rw [hr]
  have HR := hide hr
  clear hr
  by_cases h1 : v = 32
  · subst h1
    go_enter Tryz.func99, Tryz.ntmps99
    go_wp2
    go_ret
    exact ⟨ret_bool (by rw [← unhide HR]; rfl), rfl⟩
  · have h1i : ¬ (v : Int) = 32 := by omega
    go_enter Tryz.func99, Tryz.ntmps99
    go_wp2
    go_ret
    refine ⟨ret_bool ?_, rfl⟩
    rw [← unhide HR]
    by_cases h2 : v = 9
    · subst h2; rfl
    · rw [decide_eq_false (show ¬ (v = 32 ∨ v = 9) by omega)]
      simp
      omega

/-- Where the characters of a text no longer belong. -/
def strTo (p : Nat → Bool) (s : ByteArray) : Nat → Nat → Nat
  | 0, _ => s.size
  | f + 1, i => if i < s.size then (if p (Utf8.decode s i).1 = true then strTo p s f (i + (Utf8.decode s i).2) else i) else s.size

def stretchN (p : Nat → Bool) (s : ByteArray) : Nat := strTo p s (s.size + 1) 0

set_option maxRecDepth 20000 in
set_option maxHeartbeats 2000000 in
theorem stretch_any (g : Nat) (eg : ∀ args w, (callFunc g args).run Tryz.prog w = .ok (.enter g args) w) (p : Nat → Bool) (hp : ∀ v W, Calls Tryz.prog g #[.int .i32 ((v : Nat) : Int)] W fun e w' => e = .returned (.bool (p v)) ∧ w' = W) (s : ByteArray) (w : World) (hs : s.size ≤ 17592186044416) :
    Calls Tryz.prog 183 #[.string s, .func (.func g) #[] #[]] w fun e w' => e = .returned (.int .i64 (stretchN p s : Nat)) ∧ Below w.heap.size w w' := by
  have HP := hide hp
  clear hp
  obtain ⟨tgt, htgt⟩ : ∃ t, strTo p s (s.size + 1) 0 = t := ⟨_, rfl⟩
  have e : stretchN p s = tgt := htgt
  rw [e]
  have HT := hide htgt
  clear e htgt
  go_enter Tryz.func183, Tryz.ntmps183
  go_wp2_with fail
  go_loopw [5] (fun _ w' => ∃ (pos F : Nat), w' = w.iter s pos ∧ s.size - pos < F ∧ Hid (strTo p s F pos = tgt)) (fun _ w' => s.size - w'.iterPos w.heap.size)
  case atStart => exact ⟨0, s.size + 1, rfl, by omega, HT⟩
  case round =>
    obtain ⟨pos, F, rfl, hF, HK⟩ := hrel
    obtain ⟨F', rfl⟩ : ∃ f, F = f + 1 := ⟨F - 1, by omega⟩
    by_cases hlt : pos < s.size
    · have hnx : ∀ ty, (Instr.next (.pointer (some ⟨w.heap.size, 0, none⟩)) true ty).run Tryz.prog (w.iter s pos) = _ := fun ty => run_next_any w s pos ty hlt
      have hwd := Lib.decode_width_pos s pos hlt
      have HK2 : Hid ((if p (Utf8.decode s pos).1 = true then strTo p s F' (pos + (Utf8.decode s pos).2) else pos) = tgt) := by
        have := unhide HK
        rw [strTo, if_pos hlt] at this
        exact this
      have HC := hide (fun W => unhide HP (Utf8.decode s pos).1 W)
      obtain ⟨v, hv⟩ : ∃ v, (Utf8.decode s pos).1 = v := ⟨_, rfl⟩
      obtain ⟨wd, hw⟩ : ∃ n, (Utf8.decode s pos).2 = n := ⟨_, rfl⟩
      rw [hv, hw] at hnx HK2
      rw [hv] at HC
      rw [hw] at hwd
      clear HK hv hw
      cases hq : p v with
      | true =>
        rw [hq] at HC HK2
        rw [if_pos rfl] at HK2
        go_wp2_with (go_at_fn g; refine (unhide HC _).mono ?_; rintro e w1 ⟨rfl, hw⟩; obtain rfl := hw.symm)
        go_roundw
        case rel => exact ⟨pos + wd, F', rfl, by omega, HK2⟩
        case measure => simp; omega
      | false =>
        rw [hq] at HC HK2
        rw [if_neg (by decide)] at HK2
        go_wp2_with (go_at_fn g; refine (unhide HC _).mono ?_; rintro e w1 ⟨rfl, hw⟩; obtain rfl := hw.symm)
        go_ret
        exact ⟨by rw [← unhide HK2]; rfl, (Below.refl _ _).alloc (Nat.le_refl _) _⟩
    · have hnx : ∀ ty, (Instr.next (.pointer (some ⟨w.heap.size, 0, none⟩)) true ty).run Tryz.prog (w.iter s pos) = _ := fun ty => run_next_end w s pos ty hlt
      have HK2 : Hid (s.size = tgt) := by
        have := unhide HK
        rw [strTo, if_neg hlt] at this
        exact this
      clear HK
      go_wp2_with fail
      go_ret
      exact ⟨by rw [← unhide HK2]; rfl, (Below.refl _ _).alloc (Nat.le_refl _) _⟩

end Go.Proofs.YtinndpnilmmmjaaGreatDoor
namespace Go.Proofs.YtinndpnilmmmjaaGreatDoor
open Go

/-- The end of a text from place i on. -/
theorem tail_size (s : ByteArray) (i : Nat) : (s.extract i s.size).size = s.size - i := by
  rw [Lib.size_eq, sub_list, List.length_take, List.length_drop, ← Lib.size_eq]; omega

theorem tail_bt {s : ByteArray} {i j : Nat} (h : i + j < s.size) : bt (s.extract i s.size) j = bt s (i + j) := by
  have h1 : j < (s.extract i s.size).size := by rw [tail_size]; omega
  rw [bt_data h1, bt_data h, sub_list]
  simp only [List.getD_eq_getElem?_getD, List.getElem?_take, List.getElem?_drop]
  rw [if_pos (by omega)]

theorem tail_tl (s : ByteArray) (i j : Nat) : tl (s.extract i s.size) j = tl s (i + j) := by
  unfold tl
  by_cases h : i + j < s.size
  · rw [tail_bt h, tail_size]
    congr 1
    exact propext ⟨fun ⟨a, b⟩ => ⟨by omega, b⟩, fun ⟨a, b⟩ => ⟨by omega, b⟩⟩
  · rw [decide_eq_false (by rw [tail_size]; omega), decide_eq_false (by omega)]

/-- A character is read in the rest of a text as in the text. -/
theorem tail_decode {s : ByteArray} {i j : Nat} (h : i + j < s.size) : Utf8.decode (s.extract i s.size) j = Utf8.decode s (i + j) := by
  rw [decode_is, decode_is]
  have t1 : tl (s.extract i s.size) (j + 1) = tl s (i + j + 1) := by rw [tail_tl]; rfl
  have t2 : tl (s.extract i s.size) (j + 2) = tl s (i + j + 2) := by rw [tail_tl]; rfl
  have t3 : tl (s.extract i s.size) (j + 3) = tl s (i + j + 3) := by rw [tail_tl]; rfl
  have b : ∀ {k}, tl s (i + j + k) = true → bt (s.extract i s.size) (j + k) = bt s (i + j + k) := fun {k} hk => by
    have := (tl_bd hk).1
    rw [tail_bt (by omega), ← Nat.add_assoc]
  rw [tail_bt h, t1, t2, t3]
  by_cases c0 : bt s (i + j) < 128
  · rw [if_pos c0, if_pos c0]
  · rw [if_neg c0, if_neg c0]
    by_cases c1 : bt s (i + j) / 32 = 6 ∧ tl s (i + j + 1) = true
    · rw [if_pos c1, if_pos c1]
      have : v2 (s.extract i s.size) j = v2 s (i + j) := by unfold v2; rw [tail_bt h, b c1.2]
      rw [this]
    · rw [if_neg c1, if_neg c1]
      by_cases c2 : bt s (i + j) / 16 = 14 ∧ tl s (i + j + 1) = true ∧ tl s (i + j + 2) = true
      · rw [if_pos c2, if_pos c2]
        have : v3 (s.extract i s.size) j = v3 s (i + j) := by unfold v3; rw [tail_bt h, b c2.2.1, b c2.2.2]
        rw [this]
      · rw [if_neg c2, if_neg c2]
        by_cases c3 : bt s (i + j) / 8 = 30 ∧ tl s (i + j + 1) = true ∧ tl s (i + j + 2) = true ∧ tl s (i + j + 3) = true
        · rw [if_pos c3, if_pos c3]
          have : v4 (s.extract i s.size) j = v4 s (i + j) := by unfold v4; rw [tail_bt h, b c3.2.1, b c3.2.2.1, b c3.2.2.2]
          rw [this]
        · rw [if_neg c3, if_neg c3]

theorem decode_ge {s : ByteArray} {i : Nat} (h : ¬ bt s i < 128) : 128 ≤ (Utf8.decode s i).1 := by
  rw [decode_is, if_neg h]
  split
  · split
    · assumption
    · decide
  · split
    · split
      · rename_i h'; show 128 ≤ v3 s i; have := h'.1; omega
      · decide
    · split
      · split
        · rename_i h'; show 128 ≤ v4 s i; have := h'.1; omega
        · decide
      · decide

/-- Where only small characters belong, a stretch ends as the bytes say. -/
theorem strTo_end {p : Nat → Bool} (hp : ∀ v, p v = true → v < 128) {s : ByteArray} : ∀ (F i : Nat), s.size - i < F → i ≤ s.size → strTo p s F i = endOf p s i
  | 0, i, h, _ => by omega
  | F + 1, i, h, hi => by
    rw [strTo]
    by_cases h1 : i < s.size
    · rw [if_pos h1]
      by_cases h2 : bt s i < 128
      · have hd : Utf8.decode s i = (bt s i, 1) := by rw [decode_is, if_pos h2]
        rw [hd]
        by_cases h3 : p (bt s i) = true
        · rw [if_pos h3, endOf_go h1 h3]
          exact strTo_end hp F (i + 1) (by omega) (by omega)
        · rw [if_neg h3, endOf_stop (fun h => h3 h.2)]
      · have hge := decode_ge (s := s) (i := i) h2
        have h3 : ¬ p (Utf8.decode s i).1 = true := fun e => by have := hp _ e; omega
        have h4 : ¬ p (bt s i) = true := fun e => h2 (hp _ e)
        rw [if_neg h3, endOf_stop (fun h => h4 h.2)]
    · rw [if_neg h1, endOf_stop (fun h => h1 h.1)]
      omega

theorem isD_small (v : Nat) (h : isD v = true) : v < 128 := by unfold isD at h; have := of_decide_eq_true h; omega
theorem isL_small (v : Nat) (h : isL v = true) : v < 128 := by
  unfold isL at h
  rcases Bool.or_eq_true _ _ ▸ h with h | h <;> have := of_decide_eq_true h <;> omega
theorem isLD_small (v : Nat) (h : isLD v = true) : v < 128 := by
  unfold isLD at h
  rcases Bool.or_eq_true _ _ ▸ h with h | h
  · exact isL_small v h
  · exact isD_small v h

theorem endOf_tail {p : Nat → Bool} {s : ByteArray} {i : Nat} (hi : i ≤ s.size) : ∀ (d j : Nat), s.size - (i + j) = d → i + j ≤ s.size → endOf p (s.extract i s.size) j + i = endOf p s (i + j)
  | d, j, hd, hj => by
    by_cases h : i + j < s.size ∧ p (bt s (i + j)) = true
    · rw [endOf_go h.1 h.2, endOf_go (s := s.extract i s.size) (i := j) (by rw [tail_size]; omega) (by rw [tail_bt h.1]; exact h.2)]
      match d, hd with
      | 0, hd => omega
      | d + 1, hd => exact endOf_tail hi d (j + 1) (by omega) (by omega)
    · rw [endOf_stop h, endOf_stop (s := s.extract i s.size) (i := j) (fun h' => h (by
        have h1 : i + j < s.size := by have := h'.1; rw [tail_size] at this; omega
        exact ⟨h1, by rw [← tail_bt h1]; exact h'.2⟩))]
      omega

/-- A stretch of small characters at the rest of a text. -/
theorem stretch_tail {p : Nat → Bool} (hp : ∀ v, p v = true → v < 128) {s : ByteArray} {i : Nat} (hi : i ≤ s.size) : stretchN p (s.extract i s.size) + i = endOf p s i := by
  unfold stretchN
  rw [strTo_end hp _ 0 (by omega) (by omega)]
  exact endOf_tail hi _ 0 rfl hi

end Go.Proofs.YtinndpnilmmmjaaGreatDoor
namespace Go.Proofs.YtinndpnilmmmjaaGreatDoor
open Go.RowKit

/-- The number that digits spell. -/
def dv (acc : Nat) (l : List UInt8) : Nat := l.foldl (fun a c => a * 10 + (c.toNat - 48)) acc

theorem dv_ge : ∀ (l : List UInt8) (acc : Nat), acc ≤ dv acc l
  | [], _ => Nat.le_refl _
  | c :: r, acc => Nat.le_trans (by omega) (dv_ge r (acc * 10 + (c.toNat - 48)))

theorem uint_digits : ∀ (l : List UInt8) (acc : Nat), (∀ c ∈ l, isD c.toNat = true) → Lib.parseUint10 acc l = .ok (dv acc l) ∨ (Lib.parseUint10 acc l = .range ∧ 18446744073709551616 ≤ dv acc l)
  | [], _, _ => Or.inl rfl
  | c :: r, acc, h => by
    have hc : 48 ≤ c.toNat ∧ c.toNat ≤ 57 := of_decide_eq_true (h c List.mem_cons_self)
    have hge := dv_ge r (acc * 10 + (c.toNat - 48))
    have e : dv acc (c :: r) = dv (acc * 10 + (c.toNat - 48)) r := rfl
    rw [Lib.parseUint10, if_pos hc, e]
    split
    · exact Or.inr ⟨rfl, by omega⟩
    · split
      · exact Or.inr ⟨rfl, by omega⟩
      · exact uint_digits r _ fun x hx => h x (List.mem_cons_of_mem _ hx)

theorem atoi_digits (l : List UInt8) (h0 : l ≠ []) (h : ∀ c ∈ l, isD c.toNat = true) : Lib.atoiAll l = .ok ((dv 0 l : Nat) : Int) ∨ (Lib.atoiAll l = .range ∧ 9223372036854775808 ≤ dv 0 l) := by
  cases l with
  | nil => exact absurd rfl h0
  | cons c r =>
    have hc : 48 ≤ c.toNat ∧ c.toNat ≤ 57 := of_decide_eq_true (h c List.mem_cons_self)
    rw [Lib.atoiAll_plain c r (by omega) (by omega)]
    have hm : Lib.parseMag (c :: r) = Lib.parseUint10 0 (c :: r) := by unfold Lib.parseMag; rw [if_neg (by simp)]
    rw [hm]
    rcases uint_digits (c :: r) 0 h with e | ⟨e, hb⟩
    · rw [e]
      unfold Lib.signless
      by_cases hb : 9223372036854775808 ≤ dv 0 (c :: r)
      · exact Or.inr ⟨by simp [hb], hb⟩
      · exact Or.inl (by simp [hb])
    · rw [e]
      exact Or.inr ⟨rfl, by omega⟩

theorem take_data (t : ByteArray) (k : Nat) : (t.extract 0 k).data.toList = t.data.toList.take k := by
  rw [ByteArray.data_extract, Array.toList_extract]
  simp

theorem dv_take (t : ByteArray) : ∀ k, k ≤ t.size → dv 0 (t.data.toList.take k) = decV t 0 k
  | 0, _ => rfl
  | k + 1, h => by
    have hl : k < t.data.toList.length := by rw [← Lib.size_eq]; exact h
    rw [List.take_succ_eq_append_getElem hl, dv, List.foldl_append]
    show dv 0 (t.data.toList.take k) * 10 + ((t.data.toList[k]).toNat - 48) = _
    have eb : bt t k = (t.data.toList[k]).toNat := by
      rw [bt_data h, List.getD_eq_getElem?_getD, List.getElem?_eq_getElem hl]
      rfl
    rw [dv_take t k (by omega), decV, Nat.zero_add, eb]

end Go.Proofs.YtinndpnilmmmjaaGreatDoor
namespace Go.Proofs.YtinndpnilmmmjaaGreatDoor
open Go

theorem pre_starts (s p : ByteArray) : Lib.hasPrefix s.data.toList p.data.toList = startsB s 0 p := by
  rw [← Lib.hasPrefix_raw]
  unfold startsB
  rw [Nat.zero_add]

theorem trim_starts (s p : ByteArray) : (⟨(Lib.trimPrefix s.data.toList p.data.toList).toArray⟩ : ByteArray) = if startsB s 0 p = true then s.extract p.size s.size else s := by
  by_cases h : startsB s 0 p = true
  · rw [if_pos h]
    unfold startsB at h
    rw [Nat.zero_add, Bool.and_eq_true, decide_eq_true_eq] at h
    exact Lib.trimPrefix_hit s p h.1 h.2
  · rw [if_neg h]
    have h' : startsB s 0 p = false := by simpa using h
    unfold startsB at h'
    rw [Nat.zero_add] at h'
    exact Lib.trimPrefix_miss s p h'

theorem tail_high {s : ByteArray} {i j : Nat} (h : i ≤ s.size) : high (s.extract i s.size) j = high s (i + j) := by
  unfold high
  rw [tail_size]
  by_cases h2 : i + j + 2 ≤ s.size
  · rw [tail_bt (by omega), tail_bt (by omega), Nat.add_assoc i j 1]
    exact decide_eq_decide.2 ⟨fun ⟨_, b⟩ => ⟨h2, b⟩, fun ⟨_, b⟩ => ⟨by omega, b⟩⟩
  · rw [decide_eq_false (fun hh => h2 (by omega)), decide_eq_false (fun hh => h2 hh.1)]

theorem tail_decV {s : ByteArray} {i f : Nat} : ∀ k, i + f + k ≤ s.size → decV (s.extract i s.size) f k = decV s (i + f) k
  | 0, _ => rfl
  | k + 1, h => by
    rw [decV, decV, tail_decV k (by omega), tail_bt (by omega), Nat.add_assoc]

end Go.Proofs.YtinndpnilmmmjaaGreatDoor
namespace Go.Proofs.YtinndpnilmmmjaaGreatDoor
open Go.RowKit

/-- Block p holds a token. -/
def TBox (w : World) (p : Nat) (v0 v1 v2 v3 : Value) : Prop := w.heap[p]? = some (.cells #[v0, v1, v2, v3] 64 (0, 0))

theorem TBox.all {w : World} {p : Nat} {v0 v1 v2 v3 : Value} (h : TBox w p v0 v1 v2 v3) : w.cell? ⟨p, 0, none⟩ = some v0 ∧ w.cell? ⟨p, 1, none⟩ = some v1 ∧ w.cell? ⟨p, 2, none⟩ = some v2 ∧ w.cell? ⟨p, 3, none⟩ = some v3 ∧ w.frozen? ⟨p, 0, none⟩ = false ∧ w.frozen? ⟨p, 1, none⟩ = false ∧ w.frozen? ⟨p, 2, none⟩ = false ∧ w.frozen? ⟨p, 3, none⟩ = false := by
  unfold TBox at h
  refine ⟨?_, ?_, ?_, ?_, frozen_of_row w p 0 _ _ h, frozen_of_row w p 1 _ _ h, frozen_of_row w p 2 _ _ h, frozen_of_row w p 3 _ _ h⟩ <;> simp [World.cell?, h]

theorem TBox.lt {w : World} {p : Nat} {v0 v1 v2 v3 : Value} (h : TBox w p v0 v1 v2 v3) : p < w.heap.size := lt_of_block h

theorem TBox.below {w w' : World} {p B : Nat} {v0 v1 v2 v3 : Value} (h : TBox w p v0 v1 v2 v3) (hB : w.heap.size ≤ B) (hb : Below B w w') : TBox w' p v0 v1 v2 v3 := (hb.block p (Nat.lt_of_lt_of_le h.lt hB)).trans h

theorem TBox.new (w : World) (v0 v1 v2 v3 : Value) : TBox (w.alloc (.cells #[v0, v1, v2, v3] 64 (0, 0))) w.heap.size v0 v1 v2 v3 := by
  show (w.heap.push _)[w.heap.size]? = _
  simp

/-- What a reader of a token gives: the token, how many bytes it has, and a code. -/
def readV (k n : Int) (t : ByteArray) (wd : Nat) (c : Int) : Value := .tuple #[.agg #[.int .i64 k, .int .i64 n, .string t, .int .i64 0], .int .i64 (wd : Nat), .int .i64 c]

theorem run_sub0 {s : ByteArray} {q : Nat} (h2 : q ≤ s.size) (W : World) : (Instr.slice 9 (.string s) none (some (.int .i64 (q : Nat))) none).run Tryz.prog W = .ok (.string (s.extract 0 q)) W := by
  have h3 : (q : Int) ≤ (s.size : Int) := by omega
  go_simp

theorem strTo_le {p : Nat → Bool} {s : ByteArray} : ∀ (F i : Nat), strTo p s F i ≤ s.size
  | 0, _ => Nat.le_refl _
  | F + 1, i => by
    rw [strTo]
    split
    · split
      · exact strTo_le F _
      · omega
    · exact Nat.le_refl _

theorem eg_ld : ∀ args w, (callFunc 189 args).run Tryz.prog w = .ok (.enter 189 args) w := enters_of Tryz.func189 (by kernel_rfl) rfl
theorem eg_d : ∀ args w, (callFunc 151 args).run Tryz.prog w = .ok (.enter 151 args) w := enters_of Tryz.func151 (by kernel_rfl) rfl
theorem eg_l : ∀ args w, (callFunc 154 args).run Tryz.prog w = .ok (.enter 154 args) w := enters_of Tryz.func154 (by kernel_rfl) rfl

set_option maxRecDepth 20000 in
set_option maxHeartbeats 2000000 in
theorem readName_any (t : ByteArray) (w : World) (hs : t.size ≤ 17592186044416) :
    Calls Tryz.prog 155 #[.string t] w fun e w' => e = .returned (if 20 < stretchN isLD t then readV 0 0 ⟨#[]⟩ 0 1 else readV 3 0 (t.extract 0 (stretchN isLD t)) (stretchN isLD t) 0) ∧ Below w.heap.size w w' := by
  obtain ⟨Q, hQ⟩ : ∃ Q, Q = w.alloc (.cells #[.int .i64 0, .int .i64 0, .string ⟨#[]⟩, .int .i64 0] 64) := ⟨_, rfl⟩
  have HQ := hide hQ
  have HBX : Hid (TBox Q w.heap.size (.int .i64 0) (.int .i64 0) (.string ⟨#[]⟩) (.int .i64 0)) := by rw [hQ]; exact TBox.new w _ _ _ _
  have HBQ : Hid (Below w.heap.size w Q) := by rw [hQ]; exact (Below.refl _ _).alloc (Nat.le_refl _) _
  clear hQ
  have HST := hide (stretch_any 189 eg_ld isLD (fun v W => implLD_any v W) t Q hs)
  have hle : stretchN isLD t ≤ t.size := strTo_le _ _
  have hsl := fun W => run_sub0 (s := t) (q := stretchN isLD t) hle W
  obtain ⟨c, hc⟩ : ∃ c, stretchN isLD t = c := ⟨_, rfl⟩
  rw [hc] at HST hsl hle ⊢
  clear hc
  obtain ⟨x, hx⟩ : ∃ x, t.extract 0 c = x := ⟨_, rfl⟩
  rw [hx] at hsl ⊢
  clear hx
  by_cases h20 : 20 < c
  · rw [if_pos h20]
    have h20i : (20 : Int) < (c : Int) := by omega
    go_enter Tryz.func155, Tryz.ntmps155
    go_wp2_with (go_at_call 183; rw [← unhide HQ]; refine (unhide HST).mono ?_; rintro e w5 ⟨rfl, hb5⟩; obtain ⟨q0, q1, q2, q3, f0, f1, f2, f3⟩ := ((unhide HBX).below (Nat.le_refl _) hb5).all; have HB5 := hide ((unhide HBQ).trans (hb5.mono (unhide HBQ).size)); clear hb5)
    refine bodyPost_ret (v := readV 0 0 ⟨#[]⟩ 0 1) (by simp [results, Tryz.results155, go_sem, q0, q1, q2, q3, readV]) rfl ?_
    exact ⟨rfl, (((((unhide HB5).setCell (Nat.le_refl _) _).setCell (Nat.le_refl _) _).setCell (Nat.le_refl _) _).setCell (Nat.le_refl _) _)⟩
  · rw [if_neg h20]
    have h20i : ¬ (20 : Int) < (c : Int) := by omega
    go_enter Tryz.func155, Tryz.ntmps155
    go_wp2_with (go_at_call 183; rw [← unhide HQ]; refine (unhide HST).mono ?_; rintro e w5 ⟨rfl, hb5⟩; obtain ⟨q0, q1, q2, q3, f0, f1, f2, f3⟩ := ((unhide HBX).below (Nat.le_refl _) hb5).all; have HB5 := hide ((unhide HBQ).trans (hb5.mono (unhide HBQ).size)); clear hb5)
    refine bodyPost_ret (v := readV 3 0 x c 0) (by simp [results, Tryz.results155, go_sem, q0, q1, q2, q3, readV]) rfl ?_
    exact ⟨rfl, (((((unhide HB5).setCell (Nat.le_refl _) _).setCell (Nat.le_refl _) _).setCell (Nat.le_refl _) _).setCell (Nat.le_refl _) _)⟩

end Go.Proofs.YtinndpnilmmmjaaGreatDoor
