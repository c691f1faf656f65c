import Derived.Test.YtijamlgiinjikaaGreatDoorMFit0
import Derived.Test.YtijamlgiinjikaaGreatDoorMFit0
import Derived.Lib.AtoiAllCases
import Derived.Lib.Strings
import Derived.Shelf.Strings.Prefix
import Derived.Ground.NamesProg
import Derived.Test.YtijamlgiinjikaaGreatDoorProg
import Derived.Shelf.Strconv.AtoiAll
namespace Go.Proofs.YtijamlgiinjikaaGreatDoor
open Go

/-- The end of a text from place i on. -/
theorem tail_size (s : ByteArray) (i : Nat) : (s.extract i s.size).size = s.size - i := by
  rw [Lib.size_eq, sub_list, List.length_take, List.length_drop, ← Lib.size_eq]; omega

theorem tail_bt {s : ByteArray} {i j : Nat} (h : i + j < s.size) : bt (s.extract i s.size) j = bt s (i + j) := by
  have h1 : j < (s.extract i s.size).size := by rw [tail_size]; omega
  rw [bt_data h1, bt_data h, sub_list]
  simp only [List.getD_eq_getElem?_getD, List.getElem?_take, List.getElem?_drop]
  rw [if_pos (by omega)]

theorem tail_tl (s : ByteArray) (i j : Nat) : tl (s.extract i s.size) j = tl s (i + j) := by
  unfold tl
  by_cases h : i + j < s.size
  · rw [tail_bt h, tail_size]
    congr 1
    exact propext ⟨fun ⟨a, b⟩ => ⟨by omega, b⟩, fun ⟨a, b⟩ => ⟨by omega, b⟩⟩
  · rw [decide_eq_false (by rw [tail_size]; omega), decide_eq_false (by omega)]

/-- A character is read in the rest of a text as in the text. -/
theorem tail_decode {s : ByteArray} {i j : Nat} (h : i + j < s.size) : Utf8.decode (s.extract i s.size) j = Utf8.decode s (i + j) := by
  rw [decode_is, decode_is]
  have t1 : tl (s.extract i s.size) (j + 1) = tl s (i + j + 1) := by rw [tail_tl]; rfl
  have t2 : tl (s.extract i s.size) (j + 2) = tl s (i + j + 2) := by rw [tail_tl]; rfl
  have t3 : tl (s.extract i s.size) (j + 3) = tl s (i + j + 3) := by rw [tail_tl]; rfl
  have b : ∀ {k}, tl s (i + j + k) = true → bt (s.extract i s.size) (j + k) = bt s (i + j + k) := fun {k} hk => by
    have := (tl_bd hk).1
    rw [tail_bt (by omega), ← Nat.add_assoc]
  rw [tail_bt h, t1, t2, t3]
  by_cases c0 : bt s (i + j) < 128
  · rw [if_pos c0, if_pos c0]
  · rw [if_neg c0, if_neg c0]
    by_cases c1 : bt s (i + j) / 32 = 6 ∧ tl s (i + j + 1) = true
    · rw [if_pos c1, if_pos c1]
      have : v2 (s.extract i s.size) j = v2 s (i + j) := by unfold v2; rw [tail_bt h, b c1.2]
      rw [this]
    · rw [if_neg c1, if_neg c1]
      by_cases c2 : bt s (i + j) / 16 = 14 ∧ tl s (i + j + 1) = true ∧ tl s (i + j + 2) = true
      · rw [if_pos c2, if_pos c2]
        have : v3 (s.extract i s.size) j = v3 s (i + j) := by unfold v3; rw [tail_bt h, b c2.2.1, b c2.2.2]
        rw [this]
      · rw [if_neg c2, if_neg c2]
        by_cases c3 : bt s (i + j) / 8 = 30 ∧ tl s (i + j + 1) = true ∧ tl s (i + j + 2) = true ∧ tl s (i + j + 3) = true
        · rw [if_pos c3, if_pos c3]
          have : v4 (s.extract i s.size) j = v4 s (i + j) := by unfold v4; rw [tail_bt h, b c3.2.1, b c3.2.2.1, b c3.2.2.2]
          rw [this]
        · rw [if_neg c3, if_neg c3]

theorem decode_ge {s : ByteArray} {i : Nat} (h : ¬ bt s i < 128) : 128 ≤ (Utf8.decode s i).1 := by
  rw [decode_is, if_neg h]
  split
  · split
    · assumption
    · decide
  · split
    · split
      · rename_i h'; show 128 ≤ v3 s i; have := h'.1; omega
      · decide
    · split
      · split
        · rename_i h'; show 128 ≤ v4 s i; have := h'.1; omega
        · decide
      · decide

/-- Where only small characters belong, a stretch ends as the bytes say. -/
theorem strTo_end {p : Nat → Bool} (hp : ∀ v, p v = true → v < 128) {s : ByteArray} : ∀ (F i : Nat), s.size - i < F → i ≤ s.size → strTo p s F i = endOf p s i
  | 0, i, h, _ => by omega
  | F + 1, i, h, hi => by
    rw [strTo]
    by_cases h1 : i < s.size
    · rw [if_pos h1]
      by_cases h2 : bt s i < 128
      · have hd : Utf8.decode s i = (bt s i, 1) := by rw [decode_is, if_pos h2]
        rw [hd]
        by_cases h3 : p (bt s i) = true
        · rw [if_pos h3, endOf_go h1 h3]
          exact strTo_end hp F (i + 1) (by omega) (by omega)
        · rw [if_neg h3, endOf_stop (fun h => h3 h.2)]
      · have hge := decode_ge (s := s) (i := i) h2
        have h3 : ¬ p (Utf8.decode s i).1 = true := fun e => by have := hp _ e; omega
        have h4 : ¬ p (bt s i) = true := fun e => h2 (hp _ e)
        rw [if_neg h3, endOf_stop (fun h => h4 h.2)]
    · rw [if_neg h1, endOf_stop (fun h => h1 h.1)]
      omega

theorem isD_small (v : Nat) (h : isD v = true) : v < 128 := by unfold isD at h; have := of_decide_eq_true h; omega
theorem isL_small (v : Nat) (h : isL v = true) : v < 128 := by
  unfold isL at h
  rcases Bool.or_eq_true _ _ ▸ h with h | h <;> have := of_decide_eq_true h <;> omega
theorem isLD_small (v : Nat) (h : isLD v = true) : v < 128 := by
  unfold isLD at h
  rcases Bool.or_eq_true _ _ ▸ h with h | h
  · exact isL_small v h
  · exact isD_small v h

theorem endOf_tail {p : Nat → Bool} {s : ByteArray} {i : Nat} (hi : i ≤ s.size) : ∀ (d j : Nat), s.size - (i + j) = d → i + j ≤ s.size → endOf p (s.extract i s.size) j + i = endOf p s (i + j)
  | d, j, hd, hj => by
    by_cases h : i + j < s.size ∧ p (bt s (i + j)) = true
    · rw [endOf_go h.1 h.2, endOf_go (s := s.extract i s.size) (i := j) (by rw [tail_size]; omega) (by rw [tail_bt h.1]; exact h.2)]
      match d, hd with
      | 0, hd => omega
      | d + 1, hd => exact endOf_tail hi d (j + 1) (by omega) (by omega)
    · rw [endOf_stop h, endOf_stop (s := s.extract i s.size) (i := j) (fun h' => h (by
        have h1 : i + j < s.size := by have := h'.1; rw [tail_size] at this; omega
        exact ⟨h1, by rw [← tail_bt h1]; exact h'.2⟩))]
      omega

/-- A stretch of small characters at the rest of a text. -/
theorem stretch_tail {p : Nat → Bool} (hp : ∀ v, p v = true → v < 128) {s : ByteArray} {i : Nat} (hi : i ≤ s.size) : stretchN p (s.extract i s.size) + i = endOf p s i := by
  unfold stretchN
  rw [strTo_end hp _ 0 (by omega) (by omega)]
  exact endOf_tail hi _ 0 rfl hi

end Go.Proofs.YtijamlgiinjikaaGreatDoor
namespace Go.Proofs.YtijamlgiinjikaaGreatDoor
open Go.RowKit

/-- The number that digits spell. -/
def dv (acc : Nat) (l : List UInt8) : Nat := l.foldl (fun a c => a * 10 + (c.toNat - 48)) acc

theorem dv_ge : ∀ (l : List UInt8) (acc : Nat), acc ≤ dv acc l
  | [], _ => Nat.le_refl _
  | c :: r, acc => Nat.le_trans (by omega) (dv_ge r (acc * 10 + (c.toNat - 48)))

theorem uint_digits : ∀ (l : List UInt8) (acc : Nat), (∀ c ∈ l, isD c.toNat = true) → Lib.parseUint10 acc l = .ok (dv acc l) ∨ (Lib.parseUint10 acc l = .range ∧ 18446744073709551616 ≤ dv acc l)
  | [], _, _ => Or.inl rfl
  | c :: r, acc, h => by
    have hc : 48 ≤ c.toNat ∧ c.toNat ≤ 57 := of_decide_eq_true (h c List.mem_cons_self)
    have hge := dv_ge r (acc * 10 + (c.toNat - 48))
    have e : dv acc (c :: r) = dv (acc * 10 + (c.toNat - 48)) r := rfl
    rw [Lib.parseUint10, if_pos hc, e]
    split
    · exact Or.inr ⟨rfl, by omega⟩
    · split
      · exact Or.inr ⟨rfl, by omega⟩
      · exact uint_digits r _ fun x hx => h x (List.mem_cons_of_mem _ hx)

theorem atoi_digits (l : List UInt8) (h0 : l ≠ []) (h : ∀ c ∈ l, isD c.toNat = true) : Lib.atoiAll l = .ok ((dv 0 l : Nat) : Int) ∨ (Lib.atoiAll l = .range ∧ 9223372036854775808 ≤ dv 0 l) := by
  cases l with
  | nil => exact absurd rfl h0
  | cons c r =>
    have hc : 48 ≤ c.toNat ∧ c.toNat ≤ 57 := of_decide_eq_true (h c List.mem_cons_self)
    rw [Lib.atoiAll_plain c r (by omega) (by omega)]
    have hm : Lib.parseMag (c :: r) = Lib.parseUint10 0 (c :: r) := by unfold Lib.parseMag; rw [if_neg (by simp)]
    rw [hm]
    rcases uint_digits (c :: r) 0 h with e | ⟨e, hb⟩
    · rw [e]
      unfold Lib.signless
      by_cases hb : 9223372036854775808 ≤ dv 0 (c :: r)
      · exact Or.inr ⟨by simp [hb], hb⟩
      · exact Or.inl (by simp [hb])
    · rw [e]
      exact Or.inr ⟨rfl, by omega⟩

theorem take_data (t : ByteArray) (k : Nat) : (t.extract 0 k).data.toList = t.data.toList.take k := by
  rw [ByteArray.data_extract, Array.toList_extract]
  simp

theorem dv_take (t : ByteArray) : ∀ k, k ≤ t.size → dv 0 (t.data.toList.take k) = decV t 0 k
  | 0, _ => rfl
  | k + 1, h => by
    have hl : k < t.data.toList.length := by rw [← Lib.size_eq]; exact h
    rw [List.take_succ_eq_append_getElem hl, dv, List.foldl_append]
    show dv 0 (t.data.toList.take k) * 10 + ((t.data.toList[k]).toNat - 48) = _
    have eb : bt t k = (t.data.toList[k]).toNat := by
      rw [bt_data h, List.getD_eq_getElem?_getD, List.getElem?_eq_getElem hl]
      rfl
    rw [dv_take t k (by omega), decV, Nat.zero_add, eb]

end Go.Proofs.YtijamlgiinjikaaGreatDoor
namespace Go.Proofs.YtijamlgiinjikaaGreatDoor
open Go

theorem pre_starts (s p : ByteArray) : Lib.hasPrefix s.data.toList p.data.toList = startsB s 0 p := by
  rw [← Lib.hasPrefix_raw]
  unfold startsB
  rw [Nat.zero_add]

theorem trim_starts (s p : ByteArray) : (⟨(Lib.trimPrefix s.data.toList p.data.toList).toArray⟩ : ByteArray) = if startsB s 0 p = true then s.extract p.size s.size else s := by
  by_cases h : startsB s 0 p = true
  · rw [if_pos h]
    unfold startsB at h
    rw [Nat.zero_add, Bool.and_eq_true, decide_eq_true_eq] at h
    exact Lib.trimPrefix_hit s p h.1 h.2
  · rw [if_neg h]
    have h' : startsB s 0 p = false := by simpa using h
    unfold startsB at h'
    rw [Nat.zero_add] at h'
    exact Lib.trimPrefix_miss s p h'

theorem tail_high {s : ByteArray} {i j : Nat} (h : i ≤ s.size) : high (s.extract i s.size) j = high s (i + j) := by
  unfold high
  rw [tail_size]
  by_cases h2 : i + j + 2 ≤ s.size
  · rw [tail_bt (by omega), tail_bt (by omega), Nat.add_assoc i j 1]
    exact decide_eq_decide.2 ⟨fun ⟨_, b⟩ => ⟨h2, b⟩, fun ⟨_, b⟩ => ⟨by omega, b⟩⟩
  · rw [decide_eq_false (fun hh => h2 (by omega)), decide_eq_false (fun hh => h2 hh.1)]

theorem tail_decV {s : ByteArray} {i f : Nat} : ∀ k, i + f + k ≤ s.size → decV (s.extract i s.size) f k = decV s (i + f) k
  | 0, _ => rfl
  | k + 1, h => by
    rw [decV, decV, tail_decV k (by omega), tail_bt (by omega), Nat.add_assoc]

end Go.Proofs.YtijamlgiinjikaaGreatDoor
namespace Go.Proofs.YtijamlgiinjikaaGreatDoor
open Go.RowKit

/-- Block p holds a token. -/
def TBox (w : World) (p : Nat) (v0 v1 v2 v3 : Value) : Prop := w.heap[p]? = some (.cells #[v0, v1, v2, v3] 30 (0, 0))

theorem TBox.all {w : World} {p : Nat} {v0 v1 v2 v3 : Value} (h : TBox w p v0 v1 v2 v3) : w.cell? ⟨p, 0, none⟩ = some v0 ∧ w.cell? ⟨p, 1, none⟩ = some v1 ∧ w.cell? ⟨p, 2, none⟩ = some v2 ∧ w.cell? ⟨p, 3, none⟩ = some v3 ∧ w.frozen? ⟨p, 0, none⟩ = false ∧ w.frozen? ⟨p, 1, none⟩ = false ∧ w.frozen? ⟨p, 2, none⟩ = false ∧ w.frozen? ⟨p, 3, none⟩ = false := by
  unfold TBox at h
  refine ⟨?_, ?_, ?_, ?_, frozen_of_row w p 0 _ _ h, frozen_of_row w p 1 _ _ h, frozen_of_row w p 2 _ _ h, frozen_of_row w p 3 _ _ h⟩ <;> simp [World.cell?, h]

theorem TBox.lt {w : World} {p : Nat} {v0 v1 v2 v3 : Value} (h : TBox w p v0 v1 v2 v3) : p < w.heap.size := lt_of_block h

theorem TBox.below {w w' : World} {p B : Nat} {v0 v1 v2 v3 : Value} (h : TBox w p v0 v1 v2 v3) (hB : w.heap.size ≤ B) (hb : Below B w w') : TBox w' p v0 v1 v2 v3 := (hb.block p (Nat.lt_of_lt_of_le h.lt hB)).trans h

theorem TBox.new (w : World) (v0 v1 v2 v3 : Value) : TBox (w.alloc (.cells #[v0, v1, v2, v3] 30 (0, 0))) w.heap.size v0 v1 v2 v3 := by
  show (w.heap.push _)[w.heap.size]? = _
  simp

/-- What a reader of a token gives: the token, how many bytes it has, and a code. -/
def readV (k n : Int) (t : ByteArray) (wd : Nat) (c : Int) : Value := .tuple #[.agg #[.int .i64 k, .int .i64 n, .string t, .int .i64 0], .int .i64 (wd : Nat), .int .i64 c]

theorem run_sub0 {s : ByteArray} {q : Nat} (h2 : q ≤ s.size) (W : World) : (Instr.slice 9 (.string s) none (some (.int .i64 (q : Nat))) none).run Tryz.prog W = .ok (.string (s.extract 0 q)) W := by
  have h3 : (q : Int) ≤ (s.size : Int) := by omega
  go_simp

theorem strTo_le {p : Nat → Bool} {s : ByteArray} : ∀ (F i : Nat), strTo p s F i ≤ s.size
  | 0, _ => Nat.le_refl _
  | F + 1, i => by
    rw [strTo]
    split
    · split
      · exact strTo_le F _
      · omega
    · exact Nat.le_refl _

theorem eg_ld : ∀ args w, (callFunc 50 args).run Tryz.prog w = .ok (.enter 50 args) w := enters_of Tryz.func50 (by kernel_rfl) rfl
theorem eg_d : ∀ args w, (callFunc 29 args).run Tryz.prog w = .ok (.enter 29 args) w := enters_of Tryz.func29 (by kernel_rfl) rfl
theorem eg_l : ∀ args w, (callFunc 32 args).run Tryz.prog w = .ok (.enter 32 args) w := enters_of Tryz.func32 (by kernel_rfl) rfl

set_option maxRecDepth 20000 in
set_option maxHeartbeats 2000000 in
theorem readName_any (t : ByteArray) (w : World) (hs : t.size ≤ 17592186044416) :
    Calls Tryz.prog 33 #[.string t] w fun e w' => e = .returned (if 20 < stretchN isLD t then readV 0 0 ⟨#[]⟩ 0 1 else readV 3 0 (t.extract 0 (stretchN isLD t)) (stretchN isLD t) 0) ∧ Below w.heap.size w w' := by
  obtain ⟨Q, hQ⟩ : ∃ Q, Q = w.alloc (.cells #[.int .i64 0, .int .i64 0, .string ⟨#[]⟩, .int .i64 0] 30) := ⟨_, rfl⟩
  have HQ := hide hQ
  have HBX : Hid (TBox Q w.heap.size (.int .i64 0) (.int .i64 0) (.string ⟨#[]⟩) (.int .i64 0)) := by rw [hQ]; exact TBox.new w _ _ _ _
  have HBQ : Hid (Below w.heap.size w Q) := by rw [hQ]; exact (Below.refl _ _).alloc (Nat.le_refl _) _
  clear hQ
  have HST := hide (stretch_any 50 eg_ld isLD (fun v W => implLD_any v W) t Q hs)
  have hle : stretchN isLD t ≤ t.size := strTo_le _ _
  have hsl := fun W => run_sub0 (s := t) (q := stretchN isLD t) hle W
  obtain ⟨c, hc⟩ : ∃ c, stretchN isLD t = c := ⟨_, rfl⟩
  rw [hc] at HST hsl hle ⊢
  clear hc
  obtain ⟨x, hx⟩ : ∃ x, t.extract 0 c = x := ⟨_, rfl⟩
  rw [hx] at hsl ⊢
  clear hx
  by_cases h20 : 20 < c
  · rw [if_pos h20]
    have h20i : (20 : Int) < (c : Int) := by omega
    go_enter Tryz.func33, Tryz.ntmps33
    go_wp2_with (go_at_call 42; rw [← unhide HQ]; refine (unhide HST).mono ?_; rintro e w5 ⟨rfl, hb5⟩; obtain ⟨q0, q1, q2, q3, f0, f1, f2, f3⟩ := ((unhide HBX).below (Nat.le_refl _) hb5).all; have HB5 := hide ((unhide HBQ).trans (hb5.mono (unhide HBQ).size)); clear hb5)
    refine bodyPost_ret (v := readV 0 0 ⟨#[]⟩ 0 1) (by simp [results, Tryz.results33, go_sem, q0, q1, q2, q3, readV]) rfl ?_
    exact ⟨rfl, (((((unhide HB5).setCell (Nat.le_refl _) _).setCell (Nat.le_refl _) _).setCell (Nat.le_refl _) _).setCell (Nat.le_refl _) _)⟩
  · rw [if_neg h20]
    have h20i : ¬ (20 : Int) < (c : Int) := by omega
    go_enter Tryz.func33, Tryz.ntmps33
    go_wp2_with (go_at_call 42; rw [← unhide HQ]; refine (unhide HST).mono ?_; rintro e w5 ⟨rfl, hb5⟩; obtain ⟨q0, q1, q2, q3, f0, f1, f2, f3⟩ := ((unhide HBX).below (Nat.le_refl _) hb5).all; have HB5 := hide ((unhide HBQ).trans (hb5.mono (unhide HBQ).size)); clear hb5)
    refine bodyPost_ret (v := readV 3 0 x c 0) (by simp [results, Tryz.results33, go_sem, q0, q1, q2, q3, readV]) rfl ?_
    exact ⟨rfl, (((((unhide HB5).setCell (Nat.le_refl _) _).setCell (Nat.le_refl _) _).setCell (Nat.le_refl _) _).setCell (Nat.le_refl _) _)⟩

end Go.Proofs.YtijamlgiinjikaaGreatDoor
namespace Go.Proofs
open Go.Shelf
def Tryz.hasPreS_ren : Go.Shelf.Ren := ⟨fun | 99 => 43 | 206 => 58 | n => n, fun | 9 => 9 | 4 => 4 | 3 => 3 | n => n, fun | n => n⟩
theorem Tryz.hasPreS : Go.Proofs.Lays.n99 Tryz.prog Tryz.hasPreS_ren := {
  mixed := by kernel_rfl
  f99 := Tryz.func43.trans (congrArg some (by kernel_rfl))
  f206 := Tryz.func58.trans (congrArg some (by kernel_rfl))
  t3 := Tryz.underlying3
  a3 := Tryz.isAgg3
  z3 := Tryz.sizeOf3
  v3 := Tryz.zeroValue3
  t4 := Tryz.underlying4
  a4 := Tryz.isAgg4
  z4 := Tryz.sizeOf4
  v4 := Tryz.zeroValue4
  t9 := Tryz.underlying9
  a9 := Tryz.isAgg9
  z9 := Tryz.sizeOf9
  v9 := Tryz.zeroValue9 }
end Go.Proofs
namespace Go.Proofs
open Go.Shelf
def Tryz.trimPreS_ren : Go.Shelf.Ren := ⟨fun | 101 => 41 | 208 => 57 | 206 => 58 | n => n, fun | 9 => 9 | 4 => 4 | 3 => 3 | n => n, fun | n => n⟩
theorem Tryz.trimPreS : Go.Proofs.Lays.n101 Tryz.prog Tryz.trimPreS_ren := {
  mixed := by kernel_rfl
  f101 := Tryz.func41.trans (congrArg some (by kernel_rfl))
  f206 := Tryz.func58.trans (congrArg some (by kernel_rfl))
  f208 := Tryz.func57.trans (congrArg some (by kernel_rfl))
  t3 := Tryz.underlying3
  a3 := Tryz.isAgg3
  z3 := Tryz.sizeOf3
  v3 := Tryz.zeroValue3
  t4 := Tryz.underlying4
  a4 := Tryz.isAgg4
  z4 := Tryz.sizeOf4
  v4 := Tryz.zeroValue4
  t9 := Tryz.underlying9
  a9 := Tryz.isAgg9
  z9 := Tryz.sizeOf9
  v9 := Tryz.zeroValue9 }
end Go.Proofs
namespace Go.Proofs
open Go.Shelf
def Tryz.atoiS_ren : Go.Shelf.Ren := ⟨fun | 172 => 44 | 244 => 59 | 245 => 60 | 247 => 71 | 279 => 72 | 280 => 73 | 281 => 74 | 282 => 75 | 287 => 88 | 316 => 89 | 171 => 36 | 205 => 90 | 321 => 98 | 322 => 99 | 243 => 56 | 246 => 70 | 283 => 84 | 284 => 85 | 285 => 86 | 286 => 87 | 129 => 94 | 317 => 93 | 318 => 95 | 319 => 96 | 320 => 97 | 337 => 100 | 338 => 101 | n => n, fun | 9 => 9 | 3 => 3 | 75 => 66 | 76 => 67 | 4 => 4 | 5 => 5 | 167 => 92 | 37 => 22 | 0 => 0 | 85 => 93 | 2 => 2 | 168 => 95 | 53 => 100 | 175 => 107 | 46 => 86 | 210 => 111 | 127 => 87 | 145 => 123 | 143 => 121 | 21 => 21 | 171 => 102 | 173 => 105 | 212 => 117 | 51 => 113 | 20 => 20 | 213 => 118 | 232 => 125 | 233 => 126 | 80 => 51 | n => n, fun | 15 => 3 | 16 => 4 | 17 => 5 | 18 => 6 | 19 => 7 | n => n⟩
theorem Tryz.atoiS : Go.Proofs.LaysC.n172 Tryz.prog Tryz.atoiS_ren := {
  mixed := by kernel_rfl
  f129 := Tryz.func94.trans (congrArg some (by kernel_rfl))
  f171 := Tryz.func36.trans (congrArg some (by kernel_rfl))
  f172 := Tryz.func44.trans (congrArg some (by kernel_rfl))
  f205 := Tryz.func90.trans (congrArg some (by kernel_rfl))
  f243 := Tryz.func56.trans (congrArg some (by kernel_rfl))
  f244 := Tryz.func59.trans (congrArg some (by kernel_rfl))
  f245 := Tryz.func60.trans (congrArg some (by kernel_rfl))
  f246 := Tryz.func70.trans (congrArg some (by kernel_rfl))
  f247 := Tryz.func71.trans (congrArg some (by kernel_rfl))
  f279 := Tryz.func72.trans (congrArg some (by kernel_rfl))
  f280 := Tryz.func73.trans (congrArg some (by kernel_rfl))
  f281 := Tryz.func74.trans (congrArg some (by kernel_rfl))
  f282 := Tryz.func75.trans (congrArg some (by kernel_rfl))
  f283 := Tryz.func84.trans (congrArg some (by kernel_rfl))
  f284 := Tryz.func85.trans (congrArg some (by kernel_rfl))
  f285 := Tryz.func86.trans (congrArg some (by kernel_rfl))
  f286 := Tryz.func87.trans (congrArg some (by kernel_rfl))
  f287 := Tryz.func88.trans (congrArg some (by kernel_rfl))
  f316 := Tryz.func89.trans (congrArg some (by kernel_rfl))
  f317 := Tryz.func93.trans (congrArg some (by kernel_rfl))
  f318 := Tryz.func95.trans (congrArg some (by kernel_rfl))
  f319 := Tryz.func96.trans (congrArg some (by kernel_rfl))
  f320 := Tryz.func97.trans (congrArg some (by kernel_rfl))
  f321 := Tryz.func98.trans (congrArg some (by kernel_rfl))
  f322 := Tryz.func99.trans (congrArg some (by kernel_rfl))
  f337 := Tryz.func100.trans (congrArg some (by kernel_rfl))
  f338 := Tryz.func101.trans (congrArg some (by kernel_rfl))
  t0 := Tryz.underlying0
  a0 := Tryz.isAgg0
  z0 := Tryz.sizeOf0
  v0 := Tryz.zeroValue0
  t2 := Tryz.underlying2
  a2 := Tryz.isAgg2
  z2 := Tryz.sizeOf2
  v2 := Tryz.zeroValue2
  t3 := Tryz.underlying3
  a3 := Tryz.isAgg3
  z3 := Tryz.sizeOf3
  v3 := Tryz.zeroValue3
  t4 := Tryz.underlying4
  a4 := Tryz.isAgg4
  z4 := Tryz.sizeOf4
  v4 := Tryz.zeroValue4
  t5 := Tryz.underlying5
  a5 := Tryz.isAgg5
  z5 := Tryz.sizeOf5
  v5 := Tryz.zeroValue5
  t9 := Tryz.underlying9
  a9 := Tryz.isAgg9
  z9 := Tryz.sizeOf9
  v9 := Tryz.zeroValue9
  t20 := Tryz.underlying20
  a20 := Tryz.isAgg20
  z20 := Tryz.sizeOf20
  v20 := Tryz.zeroValue20
  t21 := Tryz.underlying21
  a21 := Tryz.isAgg21
  z21 := Tryz.sizeOf21
  v21 := Tryz.zeroValue21
  t37 := Tryz.underlying22
  a37 := Tryz.isAgg22
  z37 := Tryz.sizeOf22
  v37 := Tryz.zeroValue22
  t46 := Tryz.underlying86
  a46 := Tryz.isAgg86
  z46 := Tryz.sizeOf86
  v46 := Tryz.zeroValue86
  t51 := Tryz.underlying113
  a51 := Tryz.isAgg113
  z51 := Tryz.sizeOf113
  v51 := Tryz.zeroValue113
  t53 := Tryz.underlying100
  a53 := Tryz.isAgg100
  z53 := Tryz.sizeOf100
  v53 := Tryz.zeroValue100
  t75 := Tryz.underlying66
  a75 := Tryz.isAgg66
  z75 := Tryz.sizeOf66
  v75 := Tryz.zeroValue66
  t76 := Tryz.underlying67
  a76 := Tryz.isAgg67
  z76 := Tryz.sizeOf67
  v76 := Tryz.zeroValue67
  t85 := Tryz.underlying93
  a85 := Tryz.isAgg93
  z85 := Tryz.sizeOf93
  v85 := Tryz.zeroValue93
  t127 := Tryz.underlying87
  a127 := Tryz.isAgg87
  z127 := Tryz.sizeOf87
  v127 := Tryz.zeroValue87
  t143 := Tryz.underlying121
  a143 := Tryz.isAgg121
  z143 := Tryz.sizeOf121
  v143 := Tryz.zeroValue121
  t145 := Tryz.underlying123
  a145 := Tryz.isAgg123
  z145 := Tryz.sizeOf123
  v145 := Tryz.zeroValue123
  t167 := Tryz.underlying92
  a167 := Tryz.isAgg92
  z167 := Tryz.sizeOf92
  v167 := Tryz.zeroValue92
  t168 := Tryz.underlying95
  a168 := Tryz.isAgg95
  z168 := Tryz.sizeOf95
  v168 := Tryz.zeroValue95
  t171 := Tryz.underlying102
  a171 := Tryz.isAgg102
  z171 := Tryz.sizeOf102
  v171 := Tryz.zeroValue102
  t173 := Tryz.underlying105
  a173 := Tryz.isAgg105
  z173 := Tryz.sizeOf105
  v173 := Tryz.zeroValue105
  t175 := Tryz.underlying107
  a175 := Tryz.isAgg107
  z175 := Tryz.sizeOf107
  v175 := Tryz.zeroValue107
  t210 := Tryz.underlying111
  a210 := Tryz.isAgg111
  z210 := Tryz.sizeOf111
  v210 := Tryz.zeroValue111
  t212 := Tryz.underlying117
  a212 := Tryz.isAgg117
  z212 := Tryz.sizeOf117
  v212 := Tryz.zeroValue117
  t213 := Tryz.underlying118
  a213 := Tryz.isAgg118
  z213 := Tryz.sizeOf118
  t232 := Tryz.underlying125
  a232 := Tryz.isAgg125
  z232 := Tryz.sizeOf125
  v232 := Tryz.zeroValue125
  t233 := Tryz.underlying126
  a233 := Tryz.isAgg126
  z233 := Tryz.sizeOf126
  v233 := Tryz.zeroValue126
  g15 := by kernel_rfl
  g16 := by kernel_rfl
  g17 := by kernel_rfl
  g18 := by kernel_rfl
  g19 := by kernel_rfl
  t80 := Tryz.underlying51
  a80 := Tryz.isAgg51
  z80 := Tryz.sizeOf51
  v80 := Tryz.zeroValue51
  i0 := by kernel_rfl
  i2 := by kernel_rfl
  i3 := by kernel_rfl
  i4 := by kernel_rfl
  i5 := by kernel_rfl
  i9 := by kernel_rfl
  i20 := by kernel_rfl
  i21 := by kernel_rfl
  i37 := by kernel_rfl
  i46 := by kernel_rfl
  i51 := by kernel_rfl
  i53 := by kernel_rfl
  i75 := by kernel_rfl
  i76 := by kernel_rfl
  i80 := by kernel_rfl
  i85 := by kernel_rfl
  i127 := by kernel_rfl
  i143 := by kernel_rfl
  i145 := by kernel_rfl
  i167 := by kernel_rfl
  i168 := by kernel_rfl
  i171 := by kernel_rfl
  i173 := by kernel_rfl
  i175 := by kernel_rfl
  i210 := by kernel_rfl
  i212 := by kernel_rfl
  i232 := by kernel_rfl
  i233 := by kernel_rfl
  m15 := by kernel_rfl
  m16 := by kernel_rfl
  m17 := by kernel_rfl
  m18 := by kernel_rfl
  m19 := by kernel_rfl
  c0 := by kernel_rfl
  c2 := by kernel_rfl
  c3 := by kernel_rfl
  c4 := by kernel_rfl
  c5 := by kernel_rfl
  c9 := by kernel_rfl
  c20 := by kernel_rfl
  c21 := by kernel_rfl
  c37 := by kernel_rfl
  c46 := by kernel_rfl
  c51 := by kernel_rfl
  c53 := by kernel_rfl
  c75 := by kernel_rfl
  c76 := by kernel_rfl
  c80 := by kernel_rfl
  c85 := by kernel_rfl
  c127 := by kernel_rfl
  c143 := by kernel_rfl
  c145 := by kernel_rfl
  c167 := by kernel_rfl
  c168 := by kernel_rfl
  c171 := by kernel_rfl
  c173 := by kernel_rfl
  c175 := by kernel_rfl
  c210 := by kernel_rfl
  c212 := by kernel_rfl
  c213 := by kernel_rfl
  c232 := by kernel_rfl
  c233 := by kernel_rfl }
end Go.Proofs
namespace Go.Proofs.YtijamlgiinjikaaGreatDoor
open Go.RowKit

theorem trimPre_any (t : ByteArray) (w : World) : Calls Tryz.prog 41 #[.string t, .string ⟨#[194, 175]⟩] w fun e w' => e = .returned (.string (if high t 0 = true then t.extract 2 t.size else t)) ∧ w' = w := by
  have h := Any.strings_TrimPrefix Tryz.trimPreS t ⟨#[194, 175]⟩ w
  rw [trim_starts, starts_high] at h
  exact h

theorem hasPre_any (t : ByteArray) (w : World) : Calls Tryz.prog 43 #[.string t, .string ⟨#[194, 175]⟩] w fun e w' => e = .returned (.bool (high t 0)) ∧ w' = w := by
  have h := Any.strings_HasPrefix Tryz.hasPreS t ⟨#[194, 175]⟩ w
  rw [pre_starts, starts_high] at h
  exact h

/-- Where strconv.ErrRange lies. -/
def RangeAt (w : World) : Prop := ∃ ev, w.cell? ⟨Tryz.atoiS_ren.g 16, 0, none⟩ = some ev ∧ (ev = .nilIface ∨ ∃ te pe, ev = .iface te pe)

theorem RangeAt.below {w w' : World} (h : RangeAt w) (hb : Below w.heap.size w w') : RangeAt w' := by
  obtain ⟨ev, h1, h2⟩ := h
  exact ⟨ev, (hb.cell (show (⟨Tryz.atoiS_ren.g 16, 0, none⟩ : Addr).block < w.heap.size from Lib.lt_of_cell h1)).trans h1, h2⟩

theorem atoi_ok (x : ByteArray) (n : Nat) (hs : x.size ≤ 17592186044416) (h : Lib.atoiAll x.data.toList = .ok (n : Int)) (w : World) : Calls Tryz.prog 44 #[.string x] w fun e w' => e = .returned (.tuple #[.int .i64 (n : Int), .nilIface]) ∧ Below w.heap.size w w' := by
  refine (Any.strconv_Atoi_ok Tryz.atoiS x (by omega) n h w).mono ?_
  rintro e w' ⟨rfl, hw⟩
  refine ⟨rfl, ?_⟩
  rcases hw with rfl | ⟨t, rfl⟩
  · exact Below.refl _ _
  · exact Lib.bytesWorld_below _ _ _

theorem atoi_range (x : ByteArray) (hs : x.size ≤ 17592186044416) (h : Lib.atoiAll x.data.toList = .range) (w : World) (hR : RangeAt w) : Calls Tryz.prog 44 #[.string x] w fun e w' => ∃ n ty p, e = .returned (.tuple #[.int .i64 n, .iface ty p]) ∧ Below w.heap.size w w' := by
  obtain ⟨ev, h1, h2⟩ := hR
  refine (Any.strconv_Atoi_range Tryz.atoiS x (by omega) h ev w h1 h2).mono ?_
  rintro e w' ⟨N, rfl, -, -, hb⟩
  exact ⟨_, _, _, rfl, hb⟩

theorem run_sub1 {s : ByteArray} {q : Nat} (h2 : q ≤ s.size) (W : World) : (Instr.slice 9 (.string s) (some (.int .i64 (q : Nat))) none none).run Tryz.prog W = .ok (.string (s.extract q s.size)) W := by
  have h3 : (q : Int) ≤ (s.size : Int) := by omega
  go_simp

end Go.Proofs.YtijamlgiinjikaaGreatDoor
namespace Go.Proofs.YtijamlgiinjikaaGreatDoor
open Go.RowKit

set_option maxRecDepth 20000 in
set_option maxHeartbeats 2000000 in
theorem readNumber_zero (t d r x : ByteArray) (H : Bool) (c l : Nat) (w : World) (hH : high t 0 = H) (hd : (if H = true then t.extract 2 t.size else t) = d) (hc : stretchN isD d = c) (hr : d.extract c d.size = r) (hx : d.extract 0 c = x) (hl : stretchN isL r = l) (hs : t.size ≤ 17592186044416) (h0 : c = 0) :
    Calls Tryz.prog 30 #[.string t] w fun e w' => e = .returned (readV 0 0 ⟨#[]⟩ 0 1) ∧ Below w.heap.size w w' := by
  have hds : d.size ≤ t.size := by
    rw [← hd]
    by_cases hh : H = true
    · rw [if_pos hh, tail_size]; omega
    · rw [if_neg hh]; exact Nat.le_refl _
  have hle : c ≤ d.size := by rw [← hc]; exact strTo_le _ _
  have hrs : r.size ≤ d.size := by rw [← hr, tail_size]; omega
  have hxs : x.size ≤ d.size := by rw [← hx, ByteArray.size_extract]; omega
  have hlr : l ≤ r.size := by rw [← hl]; exact strTo_le _ _
  obtain ⟨Q, hQ⟩ : ∃ Q, Q = w.alloc (.cells #[.int .i64 0, .int .i64 0, .string ⟨#[]⟩, .int .i64 0] 30) := ⟨_, rfl⟩
  have HQ := hide hQ
  have HBX : Hid (TBox Q w.heap.size (.int .i64 0) (.int .i64 0) (.string ⟨#[]⟩) (.int .i64 0)) := by rw [hQ]; exact TBox.new w _ _ _ _
  have HBQ : Hid (Below w.heap.size w Q) := by rw [hQ]; exact (Below.refl _ _).alloc (Nat.le_refl _) _
  clear hQ
  have HT := hide (trimPre_any t)
  have HS1 := hide (fun W => stretch_any 29 eg_d isD (fun v W => implDigit_any v W) d W (by omega))
  have HS2 := hide (fun W => stretch_any 32 eg_l isL (fun v W => implLetter_any v W) r W (by omega))
  have HP := hide (hasPre_any r)
  have hsl := fun W => run_sub1 (s := d) (q := c) hle W
  have hsx := fun W => run_sub0 (s := d) (q := c) hle W
  rw [hH, hd] at HT
  rw [hc] at HS1
  rw [hl] at HS2
  rw [hr] at hsl
  rw [hx] at hsx
  clear hH hd hc hr hx hl
  subst h0
  go_enter Tryz.func30, Tryz.ntmps30
  go_wp2_with (first | (go_at_call 41; rw [← unhide HQ]; refine (unhide HT _).mono ?_; rintro e w1 ⟨rfl, hw⟩; obtain rfl := hw.symm) | (go_at_call 42; refine (unhide HS1 _).mono ?_; rintro e w5 ⟨rfl, hb5⟩; have HB5 := hide ((unhide HBQ).trans (hb5.mono (unhide HBQ).size)); have HX5 := hide ((unhide HBX).below (Nat.le_refl _) hb5); clear hb5; obtain ⟨q0, q1, q2, q3, f0, f1, f2, f3⟩ := (unhide HX5).all))
  refine bodyPost_ret (v := readV 0 0 ⟨#[]⟩ 0 1) (by simp [results, Tryz.results30, go_sem, q0, q1, q2, q3, readV]) rfl ?_
  exact ⟨rfl, (((((unhide HB5).setCell (Nat.le_refl _) _).setCell (Nat.le_refl _) _).setCell (Nat.le_refl _) _).setCell (Nat.le_refl _) _)⟩

end Go.Proofs.YtijamlgiinjikaaGreatDoor
namespace Go.Proofs.YtijamlgiinjikaaGreatDoor
open Go.RowKit

set_option maxRecDepth 20000 in
set_option maxHeartbeats 2000000 in
theorem readNumber_letter (t d r x : ByteArray) (H : Bool) (c l : Nat) (w : World) (hH : high t 0 = H) (hd : (if H = true then t.extract 2 t.size else t) = d) (hc : stretchN isD d = c) (hr : d.extract c d.size = r) (hx : d.extract 0 c = x) (hl : stretchN isL r = l) (hs : t.size ≤ 17592186044416) (h0 : c ≠ 0) (h1 : 0 < l) :
    Calls Tryz.prog 30 #[.string t] w fun e w' => e = .returned (readV 0 0 ⟨#[]⟩ 0 1) ∧ Below w.heap.size w w' := by
  have hds : d.size ≤ t.size := by
    rw [← hd]
    by_cases hh : H = true
    · rw [if_pos hh, tail_size]; omega
    · rw [if_neg hh]; exact Nat.le_refl _
  have hle : c ≤ d.size := by rw [← hc]; exact strTo_le _ _
  have hrs : r.size ≤ d.size := by rw [← hr, tail_size]; omega
  have hxs : x.size ≤ d.size := by rw [← hx, ByteArray.size_extract]; omega
  have hlr : l ≤ r.size := by rw [← hl]; exact strTo_le _ _
  obtain ⟨Q, hQ⟩ : ∃ Q, Q = w.alloc (.cells #[.int .i64 0, .int .i64 0, .string ⟨#[]⟩, .int .i64 0] 30) := ⟨_, rfl⟩
  have HQ := hide hQ
  have HBX : Hid (TBox Q w.heap.size (.int .i64 0) (.int .i64 0) (.string ⟨#[]⟩) (.int .i64 0)) := by rw [hQ]; exact TBox.new w _ _ _ _
  have HBQ : Hid (Below w.heap.size w Q) := by rw [hQ]; exact (Below.refl _ _).alloc (Nat.le_refl _) _
  clear hQ
  have HT := hide (trimPre_any t)
  have HS1 := hide (fun W => stretch_any 29 eg_d isD (fun v W => implDigit_any v W) d W (by omega))
  have HS2 := hide (fun W => stretch_any 32 eg_l isL (fun v W => implLetter_any v W) r W (by omega))
  have HP := hide (hasPre_any r)
  have hsl := fun W => run_sub1 (s := d) (q := c) hle W
  have hsx := fun W => run_sub0 (s := d) (q := c) hle W
  rw [hH, hd] at HT
  rw [hc] at HS1
  rw [hl] at HS2
  rw [hr] at hsl
  rw [hx] at hsx
  clear hH hd hc hr hx hl
  have h0i : ¬ (c : Int) = 0 := by omega
  have h1i : (0 : Int) < (l : Int) := by omega
  go_enter Tryz.func30, Tryz.ntmps30
  go_wp2_with (first | (go_at_call 41; rw [← unhide HQ]; refine (unhide HT _).mono ?_; rintro e w1 ⟨rfl, hw⟩; obtain rfl := hw.symm) | (have hz5 := HB5; clear hz5; go_at_call 42; refine (unhide HS2 _).mono ?_; rintro e w6 ⟨rfl, hb6⟩; have HB6 := hide ((unhide HB5).trans (hb6.mono (unhide HB5).size)); have HX6 := hide ((unhide HX5).below (Nat.le_refl _) hb6); clear hb6; obtain ⟨q0, q1, q2, q3, f0, f1, f2, f3⟩ := (unhide HX6).all) | (go_at_call 42; refine (unhide HS1 _).mono ?_; rintro e w5 ⟨rfl, hb5⟩; have HB5 := hide ((unhide HBQ).trans (hb5.mono (unhide HBQ).size)); have HX5 := hide ((unhide HBX).below (Nat.le_refl _) hb5); clear hb5))
  refine bodyPost_ret (v := readV 0 0 ⟨#[]⟩ 0 1) (by simp [results, Tryz.results30, go_sem, q0, q1, q2, q3, readV]) rfl ?_
  exact ⟨rfl, (((((unhide HB6).setCell (Nat.le_refl _) _).setCell (Nat.le_refl _) _).setCell (Nat.le_refl _) _).setCell (Nat.le_refl _) _)⟩

end Go.Proofs.YtijamlgiinjikaaGreatDoor
namespace Go.Proofs.YtijamlgiinjikaaGreatDoor
open Go.RowKit

set_option maxRecDepth 20000 in
set_option maxHeartbeats 2000000 in
theorem readNumber_mark (t d r x : ByteArray) (H : Bool) (c l : Nat) (w : World) (hH : high t 0 = H) (hd : (if H = true then t.extract 2 t.size else t) = d) (hc : stretchN isD d = c) (hr : d.extract c d.size = r) (hx : d.extract 0 c = x) (hl : stretchN isL r = l) (hs : t.size ≤ 17592186044416) (h0 : c ≠ 0) (h1 : l = 0) (h2 : high r 0 = true) :
    Calls Tryz.prog 30 #[.string t] w fun e w' => e = .returned (readV 0 0 ⟨#[]⟩ 0 1) ∧ Below w.heap.size w w' := by
  have hds : d.size ≤ t.size := by
    rw [← hd]
    by_cases hh : H = true
    · rw [if_pos hh, tail_size]; omega
    · rw [if_neg hh]; exact Nat.le_refl _
  have hle : c ≤ d.size := by rw [← hc]; exact strTo_le _ _
  have hrs : r.size ≤ d.size := by rw [← hr, tail_size]; omega
  have hxs : x.size ≤ d.size := by rw [← hx, ByteArray.size_extract]; omega
  have hlr : l ≤ r.size := by rw [← hl]; exact strTo_le _ _
  obtain ⟨Q, hQ⟩ : ∃ Q, Q = w.alloc (.cells #[.int .i64 0, .int .i64 0, .string ⟨#[]⟩, .int .i64 0] 30) := ⟨_, rfl⟩
  have HQ := hide hQ
  have HBX : Hid (TBox Q w.heap.size (.int .i64 0) (.int .i64 0) (.string ⟨#[]⟩) (.int .i64 0)) := by rw [hQ]; exact TBox.new w _ _ _ _
  have HBQ : Hid (Below w.heap.size w Q) := by rw [hQ]; exact (Below.refl _ _).alloc (Nat.le_refl _) _
  clear hQ
  have HT := hide (trimPre_any t)
  have HS1 := hide (fun W => stretch_any 29 eg_d isD (fun v W => implDigit_any v W) d W (by omega))
  have HS2 := hide (fun W => stretch_any 32 eg_l isL (fun v W => implLetter_any v W) r W (by omega))
  have HP := hide (hasPre_any r)
  have hsl := fun W => run_sub1 (s := d) (q := c) hle W
  have hsx := fun W => run_sub0 (s := d) (q := c) hle W
  rw [hH, hd] at HT
  rw [hc] at HS1
  rw [hl] at HS2
  rw [hr] at hsl
  rw [hx] at hsx
  clear hH hd hc hr hx hl
  have h0i : ¬ (c : Int) = 0 := by omega
  subst h1
  rw [h2] at HP
  clear h2
  go_enter Tryz.func30, Tryz.ntmps30
  go_wp2_with (first | (go_at_call 41; rw [← unhide HQ]; refine (unhide HT _).mono ?_; rintro e w1 ⟨rfl, hw⟩; obtain rfl := hw.symm) | (have hz5 := HB5; clear hz5; go_at_call 42; refine (unhide HS2 _).mono ?_; rintro e w6 ⟨rfl, hb6⟩; have HB6 := hide ((unhide HB5).trans (hb6.mono (unhide HB5).size)); have HX6 := hide ((unhide HX5).below (Nat.le_refl _) hb6); clear hb6; obtain ⟨q0, q1, q2, q3, f0, f1, f2, f3⟩ := (unhide HX6).all) | (go_at_call 42; refine (unhide HS1 _).mono ?_; rintro e w5 ⟨rfl, hb5⟩; have HB5 := hide ((unhide HBQ).trans (hb5.mono (unhide HBQ).size)); have HX5 := hide ((unhide HBX).below (Nat.le_refl _) hb5); clear hb5) | (go_at_call 43; refine (unhide HP _).mono ?_; rintro e w1 ⟨rfl, hw⟩; obtain rfl := hw.symm))
  refine bodyPost_ret (v := readV 0 0 ⟨#[]⟩ 0 1) (by simp [results, Tryz.results30, go_sem, q0, q1, q2, q3, readV]) rfl ?_
  exact ⟨rfl, (((((unhide HB6).setCell (Nat.le_refl _) _).setCell (Nat.le_refl _) _).setCell (Nat.le_refl _) _).setCell (Nat.le_refl _) _)⟩

end Go.Proofs.YtijamlgiinjikaaGreatDoor
namespace Go.Proofs.YtijamlgiinjikaaGreatDoor
open Go.RowKit

set_option maxRecDepth 20000 in
set_option maxHeartbeats 2000000 in
theorem readNumber_big (t d r x : ByteArray) (H : Bool) (c l : Nat) (n : Nat) (w : World) (hH : high t 0 = H) (hd : (if H = true then t.extract 2 t.size else t) = d) (hc : stretchN isD d = c) (hr : d.extract c d.size = r) (hx : d.extract 0 c = x) (hl : stretchN isL r = l) (hs : t.size ≤ 17592186044416) (h0 : c ≠ 0) (h1 : l = 0) (h2 : high r 0 = false) (h3 : Lib.atoiAll x.data.toList = .ok (n : Int)) (h4 : 1000000000000000 < n) :
    Calls Tryz.prog 30 #[.string t] w fun e w' => e = .returned (readV 0 0 ⟨#[]⟩ 0 7) ∧ Below w.heap.size w w' := by
  have hds : d.size ≤ t.size := by
    rw [← hd]
    by_cases hh : H = true
    · rw [if_pos hh, tail_size]; omega
    · rw [if_neg hh]; exact Nat.le_refl _
  have hle : c ≤ d.size := by rw [← hc]; exact strTo_le _ _
  have hrs : r.size ≤ d.size := by rw [← hr, tail_size]; omega
  have hxs : x.size ≤ d.size := by rw [← hx, ByteArray.size_extract]; omega
  have hlr : l ≤ r.size := by rw [← hl]; exact strTo_le _ _
  obtain ⟨Q, hQ⟩ : ∃ Q, Q = w.alloc (.cells #[.int .i64 0, .int .i64 0, .string ⟨#[]⟩, .int .i64 0] 30) := ⟨_, rfl⟩
  have HQ := hide hQ
  have HBX : Hid (TBox Q w.heap.size (.int .i64 0) (.int .i64 0) (.string ⟨#[]⟩) (.int .i64 0)) := by rw [hQ]; exact TBox.new w _ _ _ _
  have HBQ : Hid (Below w.heap.size w Q) := by rw [hQ]; exact (Below.refl _ _).alloc (Nat.le_refl _) _
  clear hQ
  have HT := hide (trimPre_any t)
  have HS1 := hide (fun W => stretch_any 29 eg_d isD (fun v W => implDigit_any v W) d W (by omega))
  have HS2 := hide (fun W => stretch_any 32 eg_l isL (fun v W => implLetter_any v W) r W (by omega))
  have HP := hide (hasPre_any r)
  have hsl := fun W => run_sub1 (s := d) (q := c) hle W
  have hsx := fun W => run_sub0 (s := d) (q := c) hle W
  rw [hH, hd] at HT
  rw [hc] at HS1
  rw [hl] at HS2
  rw [hr] at hsl
  rw [hx] at hsx
  clear hH hd hc hr hx hl
  have h0i : ¬ (c : Int) = 0 := by omega
  subst h1
  rw [h2] at HP
  clear h2
  have h4i : (1000000000000000 : Int) < (n : Int) := by omega
  have HA := hide (fun W => atoi_ok x n (by omega) h3 W)
  clear h3
  go_enter Tryz.func30, Tryz.ntmps30
  go_wp2_with (first | (go_at_call 41; rw [← unhide HQ]; refine (unhide HT _).mono ?_; rintro e w1 ⟨rfl, hw⟩; obtain rfl := hw.symm) | (have hz5 := HB5; clear hz5; go_at_call 42; refine (unhide HS2 _).mono ?_; rintro e w6 ⟨rfl, hb6⟩; have HB6 := hide ((unhide HB5).trans (hb6.mono (unhide HB5).size)); have HX6 := hide ((unhide HX5).below (Nat.le_refl _) hb6); clear hb6) | (go_at_call 42; refine (unhide HS1 _).mono ?_; rintro e w5 ⟨rfl, hb5⟩; have HB5 := hide ((unhide HBQ).trans (hb5.mono (unhide HBQ).size)); have HX5 := hide ((unhide HBX).below (Nat.le_refl _) hb5); clear hb5) | (go_at_call 43; refine (unhide HP _).mono ?_; rintro e w1 ⟨rfl, hw⟩; obtain rfl := hw.symm) | (go_at_call 44; refine (unhide HA _).mono ?_; rintro e w7 ⟨rfl, hb7⟩; have HB7 := hide ((unhide HB6).trans (hb7.mono (unhide HB6).size)); obtain ⟨q0, q1, q2, q3, f0, f1, f2, f3⟩ := ((unhide HX6).below (Nat.le_refl _) hb7).all; clear hb7))
  refine bodyPost_ret (v := readV 0 0 ⟨#[]⟩ 0 7) (by simp [results, Tryz.results30, go_sem, q0, q1, q2, q3, readV]) rfl ?_
  exact ⟨rfl, (((((unhide HB7).setCell (Nat.le_refl _) _).setCell (Nat.le_refl _) _).setCell (Nat.le_refl _) _).setCell (Nat.le_refl _) _)⟩

end Go.Proofs.YtijamlgiinjikaaGreatDoor
namespace Go.Proofs.YtijamlgiinjikaaGreatDoor
open Go.RowKit

set_option maxRecDepth 20000 in
set_option maxHeartbeats 2000000 in
theorem readNumber_range (t d r x : ByteArray) (H : Bool) (c l : Nat) (w : World) (hH : high t 0 = H) (hd : (if H = true then t.extract 2 t.size else t) = d) (hc : stretchN isD d = c) (hr : d.extract c d.size = r) (hx : d.extract 0 c = x) (hl : stretchN isL r = l) (hs : t.size ≤ 17592186044416) (h0 : c ≠ 0) (h1 : l = 0) (h2 : high r 0 = false) (h3 : Lib.atoiAll x.data.toList = .range) (hR : RangeAt w) :
    Calls Tryz.prog 30 #[.string t] w fun e w' => e = .returned (readV 0 0 ⟨#[]⟩ 0 7) ∧ Below w.heap.size w w' := by
  have hds : d.size ≤ t.size := by
    rw [← hd]
    by_cases hh : H = true
    · rw [if_pos hh, tail_size]; omega
    · rw [if_neg hh]; exact Nat.le_refl _
  have hle : c ≤ d.size := by rw [← hc]; exact strTo_le _ _
  have hrs : r.size ≤ d.size := by rw [← hr, tail_size]; omega
  have hxs : x.size ≤ d.size := by rw [← hx, ByteArray.size_extract]; omega
  have hlr : l ≤ r.size := by rw [← hl]; exact strTo_le _ _
  obtain ⟨Q, hQ⟩ : ∃ Q, Q = w.alloc (.cells #[.int .i64 0, .int .i64 0, .string ⟨#[]⟩, .int .i64 0] 30) := ⟨_, rfl⟩
  have HQ := hide hQ
  have HBX : Hid (TBox Q w.heap.size (.int .i64 0) (.int .i64 0) (.string ⟨#[]⟩) (.int .i64 0)) := by rw [hQ]; exact TBox.new w _ _ _ _
  have HBQ : Hid (Below w.heap.size w Q) := by rw [hQ]; exact (Below.refl _ _).alloc (Nat.le_refl _) _
  clear hQ
  have HT := hide (trimPre_any t)
  have HS1 := hide (fun W => stretch_any 29 eg_d isD (fun v W => implDigit_any v W) d W (by omega))
  have HS2 := hide (fun W => stretch_any 32 eg_l isL (fun v W => implLetter_any v W) r W (by omega))
  have HP := hide (hasPre_any r)
  have hsl := fun W => run_sub1 (s := d) (q := c) hle W
  have hsx := fun W => run_sub0 (s := d) (q := c) hle W
  rw [hH, hd] at HT
  rw [hc] at HS1
  rw [hl] at HS2
  rw [hr] at hsl
  rw [hx] at hsx
  clear hH hd hc hr hx hl
  have h0i : ¬ (c : Int) = 0 := by omega
  subst h1
  rw [h2] at HP
  clear h2
  have HA := hide (fun W (hb : Below w.heap.size w W) => atoi_range x (by omega) h3 W (hR.below hb))
  clear h3 hR
  go_enter Tryz.func30, Tryz.ntmps30
  go_wp2_with (first | (go_at_call 41; rw [← unhide HQ]; refine (unhide HT _).mono ?_; rintro e w1 ⟨rfl, hw⟩; obtain rfl := hw.symm) | (have hz5 := HB5; clear hz5; go_at_call 42; refine (unhide HS2 _).mono ?_; rintro e w6 ⟨rfl, hb6⟩; have HB6 := hide ((unhide HB5).trans (hb6.mono (unhide HB5).size)); have HX6 := hide ((unhide HX5).below (Nat.le_refl _) hb6); clear hb6) | (go_at_call 42; refine (unhide HS1 _).mono ?_; rintro e w5 ⟨rfl, hb5⟩; have HB5 := hide ((unhide HBQ).trans (hb5.mono (unhide HBQ).size)); have HX5 := hide ((unhide HBX).below (Nat.le_refl _) hb5); clear hb5) | (go_at_call 43; refine (unhide HP _).mono ?_; rintro e w1 ⟨rfl, hw⟩; obtain rfl := hw.symm) | (go_at_call 44; refine (unhide HA _ (unhide HB6)).mono ?_; rintro e w7 ⟨n, ty, p, rfl, hb7⟩; have HB7 := hide ((unhide HB6).trans (hb7.mono (unhide HB6).size)); obtain ⟨q0, q1, q2, q3, f0, f1, f2, f3⟩ := ((unhide HX6).below (Nat.le_refl _) hb7).all; clear hb7))
  refine bodyPost_ret (v := readV 0 0 ⟨#[]⟩ 0 7) (by simp [results, Tryz.results30, go_sem, q0, q1, q2, q3, readV]) rfl ?_
  exact ⟨rfl, (((((unhide HB7).setCell (Nat.le_refl _) _).setCell (Nat.le_refl _) _).setCell (Nat.le_refl _) _).setCell (Nat.le_refl _) _)⟩

end Go.Proofs.YtijamlgiinjikaaGreatDoor
namespace Go.Proofs.YtijamlgiinjikaaGreatDoor
open Go.RowKit

set_option maxRecDepth 20000 in
set_option maxHeartbeats 2000000 in
theorem readNumber_ok (t d r x : ByteArray) (H : Bool) (c l : Nat) (n : Nat) (w : World) (hH : high t 0 = H) (hd : (if H = true then t.extract 2 t.size else t) = d) (hc : stretchN isD d = c) (hr : d.extract c d.size = r) (hx : d.extract 0 c = x) (hl : stretchN isL r = l) (hs : t.size ≤ 17592186044416) (h0 : c ≠ 0) (h1 : l = 0) (h2 : high r 0 = false) (h3 : Lib.atoiAll x.data.toList = .ok (n : Int)) (h4 : n ≤ 1000000000000000) (hT : H = false) :
    Calls Tryz.prog 30 #[.string t] w fun e w' => e = .returned (readV 1 ((n : Int)) ⟨#[]⟩ (t.size - r.size) 0) ∧ Below w.heap.size w w' := by
  have hds : d.size ≤ t.size := by
    rw [← hd]
    by_cases hh : H = true
    · rw [if_pos hh, tail_size]; omega
    · rw [if_neg hh]; exact Nat.le_refl _
  have hle : c ≤ d.size := by rw [← hc]; exact strTo_le _ _
  have hrs : r.size ≤ d.size := by rw [← hr, tail_size]; omega
  have hxs : x.size ≤ d.size := by rw [← hx, ByteArray.size_extract]; omega
  have hlr : l ≤ r.size := by rw [← hl]; exact strTo_le _ _
  have hdt : d.size = t.size := by rw [← hd, hT, if_neg (by decide)]
  obtain ⟨Q, hQ⟩ : ∃ Q, Q = w.alloc (.cells #[.int .i64 0, .int .i64 0, .string ⟨#[]⟩, .int .i64 0] 30) := ⟨_, rfl⟩
  have HQ := hide hQ
  have HBX : Hid (TBox Q w.heap.size (.int .i64 0) (.int .i64 0) (.string ⟨#[]⟩) (.int .i64 0)) := by rw [hQ]; exact TBox.new w _ _ _ _
  have HBQ : Hid (Below w.heap.size w Q) := by rw [hQ]; exact (Below.refl _ _).alloc (Nat.le_refl _) _
  clear hQ
  have HT := hide (trimPre_any t)
  have HS1 := hide (fun W => stretch_any 29 eg_d isD (fun v W => implDigit_any v W) d W (by omega))
  have HS2 := hide (fun W => stretch_any 32 eg_l isL (fun v W => implLetter_any v W) r W (by omega))
  have HP := hide (hasPre_any r)
  have hsl := fun W => run_sub1 (s := d) (q := c) hle W
  have hsx := fun W => run_sub0 (s := d) (q := c) hle W
  rw [hH, hd] at HT
  rw [hc] at HS1
  rw [hl] at HS2
  rw [hr] at hsl
  rw [hx] at hsx
  clear hH hd hc hr hx hl
  have h0i : ¬ (c : Int) = 0 := by omega
  subst h1
  rw [h2] at HP
  clear h2
  have hlt : ¬ (d.size : Int) < (t.size : Int) := by omega
  have h4i : ¬ (1000000000000000 : Int) < (n : Int) := by omega
  have HA := hide (fun W => atoi_ok x n (by omega) h3 W)
  have hwd : ((t.size - r.size : Nat) : Int) = (t.size : Int) - (r.size : Int) := by omega
  clear h3 hT
  go_enter Tryz.func30, Tryz.ntmps30
  go_wp2_with (first | (go_at_call 41; rw [← unhide HQ]; refine (unhide HT _).mono ?_; rintro e w1 ⟨rfl, hw⟩; obtain rfl := hw.symm) | (have hz5 := HB5; clear hz5; go_at_call 42; refine (unhide HS2 _).mono ?_; rintro e w6 ⟨rfl, hb6⟩; have HB6 := hide ((unhide HB5).trans (hb6.mono (unhide HB5).size)); have HX6 := hide ((unhide HX5).below (Nat.le_refl _) hb6); clear hb6) | (go_at_call 42; refine (unhide HS1 _).mono ?_; rintro e w5 ⟨rfl, hb5⟩; have HB5 := hide ((unhide HBQ).trans (hb5.mono (unhide HBQ).size)); have HX5 := hide ((unhide HBX).below (Nat.le_refl _) hb5); clear hb5) | (go_at_call 43; refine (unhide HP _).mono ?_; rintro e w1 ⟨rfl, hw⟩; obtain rfl := hw.symm) | (go_at_call 44; refine (unhide HA _).mono ?_; rintro e w7 ⟨rfl, hb7⟩; have HB7 := hide ((unhide HB6).trans (hb7.mono (unhide HB6).size)); obtain ⟨q0, q1, q2, q3, f0, f1, f2, f3⟩ := ((unhide HX6).below (Nat.le_refl _) hb7).all; clear hb7))
  refine bodyPost_ret (v := readV 1 ((n : Int)) ⟨#[]⟩ (t.size - r.size) 0) (by simp [results, Tryz.results30, go_sem, q0, q1, q2, q3, readV, hwd]) rfl ?_
  exact ⟨rfl, (((((unhide HB7).setCell (Nat.le_refl _) _).setCell (Nat.le_refl _) _).setCell (Nat.le_refl _) _).setCell (Nat.le_refl _) _)⟩

end Go.Proofs.YtijamlgiinjikaaGreatDoor
namespace Go.Proofs.YtijamlgiinjikaaGreatDoor
open Go.RowKit

set_option maxRecDepth 20000 in
set_option maxHeartbeats 2000000 in
theorem readNumber_neg (t d r x : ByteArray) (H : Bool) (c l : Nat) (n : Nat) (w : World) (hH : high t 0 = H) (hd : (if H = true then t.extract 2 t.size else t) = d) (hc : stretchN isD d = c) (hr : d.extract c d.size = r) (hx : d.extract 0 c = x) (hl : stretchN isL r = l) (hs : t.size ≤ 17592186044416) (h0 : c ≠ 0) (h1 : l = 0) (h2 : high r 0 = false) (h3 : Lib.atoiAll x.data.toList = .ok (n : Int)) (h4 : n ≤ 1000000000000000) (hT : H = true) :
    Calls Tryz.prog 30 #[.string t] w fun e w' => e = .returned (readV 1 (-(n : Int)) ⟨#[]⟩ (t.size - r.size) 0) ∧ Below w.heap.size w w' := by
  have hds : d.size ≤ t.size := by
    rw [← hd]
    by_cases hh : H = true
    · rw [if_pos hh, tail_size]; omega
    · rw [if_neg hh]; exact Nat.le_refl _
  have hle : c ≤ d.size := by rw [← hc]; exact strTo_le _ _
  have hrs : r.size ≤ d.size := by rw [← hr, tail_size]; omega
  have hxs : x.size ≤ d.size := by rw [← hx, ByteArray.size_extract]; omega
  have hlr : l ≤ r.size := by rw [← hl]; exact strTo_le _ _
  have hdt : d.size < t.size := by
    have h2 := of_decide_eq_true (hH.trans hT)
    rw [← hd, hT, if_pos rfl, tail_size]
    omega
  obtain ⟨Q, hQ⟩ : ∃ Q, Q = w.alloc (.cells #[.int .i64 0, .int .i64 0, .string ⟨#[]⟩, .int .i64 0] 30) := ⟨_, rfl⟩
  have HQ := hide hQ
  have HBX : Hid (TBox Q w.heap.size (.int .i64 0) (.int .i64 0) (.string ⟨#[]⟩) (.int .i64 0)) := by rw [hQ]; exact TBox.new w _ _ _ _
  have HBQ : Hid (Below w.heap.size w Q) := by rw [hQ]; exact (Below.refl _ _).alloc (Nat.le_refl _) _
  clear hQ
  have HT := hide (trimPre_any t)
  have HS1 := hide (fun W => stretch_any 29 eg_d isD (fun v W => implDigit_any v W) d W (by omega))
  have HS2 := hide (fun W => stretch_any 32 eg_l isL (fun v W => implLetter_any v W) r W (by omega))
  have HP := hide (hasPre_any r)
  have hsl := fun W => run_sub1 (s := d) (q := c) hle W
  have hsx := fun W => run_sub0 (s := d) (q := c) hle W
  rw [hH, hd] at HT
  rw [hc] at HS1
  rw [hl] at HS2
  rw [hr] at hsl
  rw [hx] at hsx
  clear hH hd hc hr hx hl
  have h0i : ¬ (c : Int) = 0 := by omega
  subst h1
  rw [h2] at HP
  clear h2
  have hlt : (d.size : Int) < (t.size : Int) := by omega
  have h4i : ¬ (1000000000000000 : Int) < (n : Int) := by omega
  have HA := hide (fun W => atoi_ok x n (by omega) h3 W)
  have hwd : ((t.size - r.size : Nat) : Int) = (t.size : Int) - (r.size : Int) := by omega
  clear h3 hT
  go_enter Tryz.func30, Tryz.ntmps30
  go_wp2_with (first | (go_at_call 41; rw [← unhide HQ]; refine (unhide HT _).mono ?_; rintro e w1 ⟨rfl, hw⟩; obtain rfl := hw.symm) | (have hz5 := HB5; clear hz5; go_at_call 42; refine (unhide HS2 _).mono ?_; rintro e w6 ⟨rfl, hb6⟩; have HB6 := hide ((unhide HB5).trans (hb6.mono (unhide HB5).size)); have HX6 := hide ((unhide HX5).below (Nat.le_refl _) hb6); clear hb6) | (go_at_call 42; refine (unhide HS1 _).mono ?_; rintro e w5 ⟨rfl, hb5⟩; have HB5 := hide ((unhide HBQ).trans (hb5.mono (unhide HBQ).size)); have HX5 := hide ((unhide HBX).below (Nat.le_refl _) hb5); clear hb5) | (go_at_call 43; refine (unhide HP _).mono ?_; rintro e w1 ⟨rfl, hw⟩; obtain rfl := hw.symm) | (go_at_call 44; refine (unhide HA _).mono ?_; rintro e w7 ⟨rfl, hb7⟩; have HB7 := hide ((unhide HB6).trans (hb7.mono (unhide HB6).size)); obtain ⟨q0, q1, q2, q3, f0, f1, f2, f3⟩ := ((unhide HX6).below (Nat.le_refl _) hb7).all; clear hb7))
  refine bodyPost_ret (v := readV 1 (-(n : Int)) ⟨#[]⟩ (t.size - r.size) 0) (by simp [results, Tryz.results30, go_sem, q0, q1, q2, q3, readV, hwd]) rfl ?_
  exact ⟨rfl, (((((unhide HB7).setCell (Nat.le_refl _) _).setCell (Nat.le_refl _) _).setCell (Nat.le_refl _) _).setCell (Nat.le_refl _) _)⟩

end Go.Proofs.YtijamlgiinjikaaGreatDoor
namespace Go.Proofs.YtijamlgiinjikaaGreatDoor
open Go.RowKit

theorem enc_one (v c : Nat) (hc : c < 128) : Utf8.encode (v : Int) = ⟨#[UInt8.ofNat c]⟩ ↔ v = c := by
  constructor
  · intro h
    have hsz := congrArg (fun b : ByteArray => b.data.toList) h
    by_cases hv : Utf8.valid (v : Int) = true
    · by_cases h1 : v < 128
      · unfold Utf8.encode at hsz
        simp only [hv, if_true, Int.toNat_natCast, if_pos h1] at hsz
        have e := congrArg (fun l : List UInt8 => (l.headD 0).toNat) hsz
        change (UInt8.ofNat v).toNat = (UInt8.ofNat c).toNat at e
        rw [UInt8.toNat_ofNat', UInt8.toNat_ofNat'] at e
        omega
      · have := (encode_facts v hv (by omega)).1
        rw [h] at this
        exact absurd this (by show ¬ 2 ≤ 1; omega)
    · unfold Utf8.encode at hsz
      simp [hv, Utf8.runeError] at hsz
  · rintro rfl
    have hv : Utf8.valid (v : Int) = true := by unfold Utf8.valid; simp; omega
    unfold Utf8.encode
    simp only [hv, if_true, Int.toNat_natCast, if_pos hc]

theorem enc_high (v : Nat) : Utf8.encode (v : Int) = ⟨#[194, 175]⟩ ↔ v = 175 := by
  constructor
  · intro h
    have hsz := congrArg (fun b : ByteArray => b.data.toList) h
    by_cases hv : Utf8.valid (v : Int) = true
    · unfold Utf8.encode at hsz
      simp only [hv, if_true, Int.toNat_natCast] at hsz
      by_cases h1 : v < 128
      · rw [if_pos h1] at hsz; simp at hsz
      · rw [if_neg h1] at hsz
        by_cases h2 : v < 2048
        · rw [if_pos h2] at hsz
          have a := congrArg (fun l : List UInt8 => (l.headD 0).toNat) hsz
          have b := congrArg (fun l : List UInt8 => (l.tail.headD 0).toNat) hsz
          change (UInt8.ofNat (192 + v / 64)).toNat = 194 at a
          change (UInt8.ofNat (128 + v % 64)).toNat = 175 at b
          rw [UInt8.toNat_ofNat'] at a b
          omega
        · rw [if_neg h2] at hsz
          split at hsz <;> simp at hsz
    · unfold Utf8.encode at hsz
      simp [hv, Utf8.runeError] at hsz
  · rintro rfl
    decide

end Go.Proofs.YtijamlgiinjikaaGreatDoor
