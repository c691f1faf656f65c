import Derived.Test.YtinndpnilmmmjaaGreatDoorMNumA
import Derived.Test.YtinndpnilmmmjaaGreatDoorMNumA
import Derived.Test.YtinndpnilmmmjaaGreatDoorMShelf
import Derived.Test.YtinndpnilmmmjaaGreatDoorMShelf
import Derived.Test.YtinndpnilmmmjaaGreatDoorMShelf
import Derived.Lib.ValidLaws
import Derived.Lib.IndexLaws
import Derived.Lib.IndexBytes
import Derived.Test.YtinndpnilmmmjaaGreatDoorMBs
namespace Go.Proofs.YtinndpnilmmmjaaGreatDoor
open Go.RowKit

theorem starts_quote1 (s : ByteArray) (i : Nat) : startsB s i ⟨#[39]⟩ = quote1 s i := by
  unfold startsB quote1
  rw [show (ByteArray.mk #[39]).size = 1 from rfl, Lib.extract_toList, show (ByteArray.mk #[39]).toList = [UInt8.ofNat 39] by rw [Lib.toList_data]; rfl, show i + 1 - i = 0 + 1 by omega]
  by_cases h : i + 1 ≤ s.size
  · rw [start_step (by omega) (by omega)]
    simp [h]
  · rw [decide_eq_false h, decide_eq_false (fun hh => h hh.1)]; rfl

theorem tail_quote1 {s : ByteArray} {i : Nat} (h : i ≤ s.size) : quote1 (s.extract i s.size) 0 = quote1 s i := by
  unfold quote1
  rw [tail_size]
  by_cases h2 : i + 1 ≤ s.size
  · rw [tail_bt (by omega), Nat.add_zero]
    exact decide_eq_decide.2 ⟨fun ⟨_, b⟩ => ⟨h2, b⟩, fun ⟨_, b⟩ => ⟨by omega, b⟩⟩
  · rw [decide_eq_false (fun hh => h2 (by omega)), decide_eq_false (fun hh => h2 hh.1)]

theorem cutPre_any (t : ByteArray) (w : World) : Calls Tryz.prog 187 #[.string t, .string ⟨#[39]⟩] w fun e w' => e = .returned (.tuple #[.string (if quote1 t 0 = true then t.extract 1 t.size else t), .bool (quote1 t 0)]) ∧ w' = w := by
  have h := Any.strings_CutPrefix Tryz.cutPreS t ⟨#[39]⟩ w
  rw [trim_starts, pre_starts, starts_quote1] at h
  exact h

/-- The same, of the rest of a text. -/
theorem cutPre_at (s : ByteArray) (i : Nat) (hi : i ≤ s.size) (w : World) : Calls Tryz.prog 187 #[.string (s.extract i s.size), .string ⟨#[39]⟩] w fun e w' => e = .returned (.tuple #[.string (s.extract (if quote1 s i = true then i + 1 else i) s.size), .bool (quote1 s i)]) ∧ w' = w := by
  have h := cutPre_any (s.extract i s.size) w
  rw [tail_quote1 hi] at h
  have e : (if quote1 s i = true then (s.extract i s.size).extract 1 (s.extract i s.size).size else s.extract i s.size) = s.extract (if quote1 s i = true then i + 1 else i) s.size := by
    by_cases hq : quote1 s i = true
    · rw [if_pos hq, if_pos hq, tail_tail]
    · rw [if_neg hq, if_neg hq]
  rw [e] at h
  exact h

/-- utf8's two tables lie as laid. -/
def TabsAt (w : World) : Prop := Lib.Utf8Tabs (Tryz.decodeS_ren.g 3) (Tryz.decodeS_ren.g 4) w

theorem TabsAt.below {w w' : World} (h : TabsAt w) (hb : Below w.heap.size w w') : TabsAt w' := Utf8Tabs_below h hb

theorem decode_any (t : ByteArray) (h0 : 0 < t.size) (w : World) (hT : TabsAt w) : Calls Tryz.prog 175 #[.string t] w fun e w' => e = .returned (.tuple #[.int .i32 ((Utf8.decode t 0).1 : Nat), .int .i64 ((Utf8.decode t 0).2 : Nat)]) ∧ Below w.heap.size w w' := by
  have h := Any.utf8_DecodeRuneInString Tryz.decodeS t w hT
  have e : Lib.decodeGo t = Utf8.decode t 0 := by unfold Lib.decodeGo; rw [if_neg (by omega)]
  rw [e] at h
  exact h

theorem valid_any (t : ByteArray) (hs : t.size ≤ 17592186044416) (w : World) (hT : TabsAt w) : Calls Tryz.prog 188 #[.string t] w fun e w' => e = .returned (.bool (Lib.validD t.data.toList)) ∧ Below w.heap.size w w' :=
  Any.utf8_ValidString Tryz.validS t w (by omega) hT

end Go.Proofs.YtinndpnilmmmjaaGreatDoor
namespace Go.Proofs.YtinndpnilmmmjaaGreatDoor
open Go

theorem decode_width_le {s : ByteArray} {i : Nat} (h : i < s.size) : i + (Utf8.decode s i).2 ≤ s.size := by
  rw [decode_is]
  split
  · exact h
  · split
    · rename_i c
      have := (tl_bd c.2).1
      split <;> simp <;> omega
    · split
      · rename_i c
        have := (tl_bd c.2.2).1
        split <;> simp <;> omega
      · split
        · rename_i c
          have := (tl_bd c.2.2.2).1
          split <;> simp <;> omega
        · simp; omega

/-- A stretch at the rest of a text. -/
theorem strTo_tail {q : Nat → Bool} {s : ByteArray} {i : Nat} (hi : i ≤ s.size) : ∀ (F j : Nat), i + j ≤ s.size → strTo q (s.extract i s.size) F j + i = strTo q s F (i + j)
  | 0, j, _ => by rw [strTo, strTo, tail_size]; omega
  | F + 1, j, hj => by
    rw [strTo, strTo, tail_size]
    by_cases h : i + j < s.size
    · rw [if_pos h, if_pos (by omega), tail_decode h]
      by_cases hq : q (Utf8.decode s (i + j)).1 = true
      · rw [if_pos hq, if_pos hq]
        have := decode_width_le h
        rw [strTo_tail hi F _ (by omega), Nat.add_assoc]
      · rw [if_neg hq, if_neg hq]; omega
    · rw [if_neg h, if_neg (by omega)]; omega

theorem strTo_fuel {q : Nat → Bool} {s : ByteArray} : ∀ (F G i : Nat), s.size - i < F → s.size - i < G → strTo q s F i = strTo q s G i
  | 0, _, _, h, _ => by omega
  | _ + 1, 0, _, _, h => by omega
  | F + 1, G + 1, i, h1, h2 => by
    rw [strTo, strTo]
    by_cases h : i < s.size
    · rw [if_pos h, if_pos h]
      have := Lib.decode_width_pos s i h
      rw [strTo_fuel F G (i + (Utf8.decode s i).2) (by omega) (by omega)]
    · rw [if_neg h, if_neg h]

theorem inEnd_is {s : ByteArray} {p : Nat} (h : p ≤ s.size) : inEnd s p = strTo isIn s (s.size + 1) p := by
  unfold inEnd stretchN
  have := strTo_tail (q := isIn) h ((s.extract p s.size).size + 1) 0 (by omega)
  rw [Nat.add_zero] at this
  rw [Nat.add_comm, this]
  exact strTo_fuel _ _ _ (by rw [tail_size]; omega) (by omega)

theorem inEnd_go {s : ByteArray} {p : Nat} (h : p < s.size) (hq : isIn (Utf8.decode s p).1 = true) : inEnd s p = inEnd s (p + (Utf8.decode s p).2) := by
  have h1 := decode_width_le h
  have h2 := Lib.decode_width_pos s p h
  rw [inEnd_is (by omega), inEnd_is h1, strTo, if_pos h, if_pos hq]
  exact strTo_fuel _ _ _ (by omega) (by omega)

theorem inEnd_stop {s : ByteArray} {p : Nat} (h : p < s.size) (hq : ¬ isIn (Utf8.decode s p).1 = true) : inEnd s p = p := by
  rw [inEnd_is (by omega), strTo, if_pos h, if_neg hq]

theorem inEnd_end {s : ByteArray} : inEnd s s.size = s.size := by
  rw [inEnd_is (Nat.le_refl _), strTo, if_neg (by omega)]

/-- How a text is read, character by character. -/
def devT (s : ByteArray) : Nat → Nat → List UInt8 → Option (Nat × List UInt8)
  | 0, _, _ => none
  | f + 1, p, out =>
    if p < s.size then
      if isIn (Utf8.decode s p).1 = true then devT s f (p + (Utf8.decode s p).2) (out ++ (s.extract p (p + (Utf8.decode s p).2)).data.toList)
      else if quote1 s p = true then (if quote1 s (p + 1) = true then devT s f (p + 2) (out ++ [39]) else some (p + 1, out))
      else none
    else none

theorem inEnd_upTo {s : ByteArray} : ∀ (d p : Nat), s.size - p ≤ d → p ≤ s.size → p ≤ inEnd s p ∧ inEnd s p ≤ s.size
  | 0, p, hd, hp => by
    have : p = s.size := by omega
    subst this
    rw [inEnd_end]; omega
  | d + 1, p, hd, hp => by
    by_cases h : p < s.size
    · by_cases hq : isIn (Utf8.decode s p).1 = true
      · have h1 := decode_width_le h
        have h2 := Lib.decode_width_pos s p h
        rw [inEnd_go h hq]
        have := inEnd_upTo d (p + (Utf8.decode s p).2) (by omega) h1
        omega
      · rw [inEnd_stop h hq]; omega
    · have : p = s.size := by omega
      subst this
      rw [inEnd_end]; omega

theorem textR_go {s : ByteArray} {F p : Nat} {out : List UInt8} (h : p < s.size) (hq : isIn (Utf8.decode s p).1 = true) :
    textR s (F + 1) p out = textR s (F + 1) (p + (Utf8.decode s p).2) (out ++ (s.extract p (p + (Utf8.decode s p).2)).data.toList) := by
  have h1 := decode_width_le h
  have h3 := (inEnd_upTo _ (p + (Utf8.decode s p).2) (Nat.le_refl _) h1)
  have e := inEnd_go h hq
  rw [textR, textR, ← e]
  rw [← e] at h3
  have hx : (s.extract p (inEnd s p)).data.toList = (s.extract p (p + (Utf8.decode s p).2)).data.toList ++ (s.extract (p + (Utf8.decode s p).2) (inEnd s p)).data.toList := by
    rw [sub_list, sub_list, sub_list, ← List.drop_drop, show inEnd s p - p = (Utf8.decode s p).2 + (inEnd s p - (p + (Utf8.decode s p).2)) by omega, List.take_add, show p + (Utf8.decode s p).2 - p = (Utf8.decode s p).2 by omega]
  rw [hx]
  simp only [List.append_assoc]

theorem textR_dev {s : ByteArray} : ∀ (f F p : Nat) (out : List UInt8), s.size - p < F → s.size - p < f → p ≤ s.size → textR s F p out = devT s f p out
  | 0, _, _, _, _, h, _ => by omega
  | _ + 1, 0, _, _, h, _, _ => by omega
  | f + 1, F + 1, p, out, h1, h2, hp => by
    by_cases h : p < s.size
    · by_cases hq : isIn (Utf8.decode s p).1 = true
      · have a := decode_width_le h
        have b := Lib.decode_width_pos s p h
        rw [textR_go h hq, devT, if_pos h, if_pos hq]
        exact textR_dev f (F + 1) _ _ (by omega) (by omega) a
      · have hx : (s.extract p p).data.toList = [] := by rw [sub_list, Nat.sub_self]; rfl
        rw [textR, devT, if_pos h, if_neg hq, inEnd_stop h hq, hx, List.append_nil]
        by_cases c : quote1 s p = true
        · rw [if_pos c, if_pos c]
          by_cases c2 : quote1 s (p + 1) = true
          · rw [if_pos c2, if_pos c2]
            have : p + 2 ≤ s.size := by unfold quote1 at c2; have := of_decide_eq_true c2; omega
            exact textR_dev f F _ _ (by omega) (by omega) this
          · rw [if_neg c2, if_neg c2]
        · rw [if_neg c, if_neg c]
    · have : p = s.size := by omega
      subst this
      rw [textR, devT, if_neg h, inEnd_end, if_neg (fun c => by unfold quote1 at c; have := of_decide_eq_true c; omega)]

end Go.Proofs.YtinndpnilmmmjaaGreatDoor
namespace Go.Proofs.YtinndpnilmmmjaaGreatDoor
open Go

def hiB (b : UInt8) : Bool := decide (128 ≤ b.toNat)

theorem tw_at : ∀ (l : List UInt8) (k : Nat), k ≤ (l.takeWhile hiB).length → ((k < l.length ∧ hiB (l.getD k 0) = true) ↔ k < (l.takeWhile hiB).length) ∧ (k < (l.takeWhile hiB).length → l.getD k 0 = (l.takeWhile hiB).getD k 0)
  | [], k, h => by simp at h ⊢
  | a :: t, 0, _ => by
    by_cases ha : hiB a = true
    · rw [List.takeWhile_cons_of_pos ha]; simp [ha]
    · rw [List.takeWhile_cons_of_neg ha]; simp [ha]
  | a :: t, k + 1, h => by
    by_cases ha : hiB a = true
    · rw [List.takeWhile_cons_of_pos ha] at h ⊢
      have := tw_at t k (by simpa using h)
      simpa using this
    · rw [List.takeWhile_cons_of_neg ha] at h
      simp at h

theorem lbt {l : List UInt8} {k : Nat} (h : k < l.length) : bt ⟨l.toArray⟩ k = (l.getD k 0).toNat := by
  rw [bt_data (by simpa [ByteArray.size] using h)]

theorem tw_tl (l : List UInt8) (k : Nat) (h : k ≤ (l.takeWhile hiB).length) : tl ⟨l.toArray⟩ k = decide (k < (l.takeWhile hiB).length ∧ ((l.takeWhile hiB).getD k 0).toNat < 192) ∧ (tl ⟨l.toArray⟩ k = true → bt ⟨l.toArray⟩ k = ((l.takeWhile hiB).getD k 0).toNat ∧ k + 1 ≤ (l.takeWhile hiB).length) := by
  obtain ⟨h1, h2⟩ := tw_at l k h
  have key : tl ⟨l.toArray⟩ k = decide (k < (l.takeWhile hiB).length ∧ ((l.takeWhile hiB).getD k 0).toNat < 192) := by
    unfold tl
    refine decide_eq_decide.2 ?_
    have hz : (ByteArray.mk l.toArray).size = l.length := by simp [ByteArray.size]
    rw [hz]
    constructor
    · rintro ⟨a, b, c⟩
      rw [lbt a] at b c
      have := h1.1 ⟨a, by unfold hiB; exact decide_eq_true b⟩
      exact ⟨this, by rw [← h2 this]; exact c⟩
    · rintro ⟨a, b⟩
      obtain ⟨c, d⟩ := h1.2 a
      rw [← h2 a] at b
      rw [lbt c]
      exact ⟨c, by unfold hiB at d; exact of_decide_eq_true d, b⟩
  refine ⟨key, fun ht => ?_⟩
  rw [key] at ht
  obtain ⟨a, b⟩ := of_decide_eq_true ht
  rw [lbt (h1.2 a).1, h2 a]
  exact ⟨rfl, a⟩

theorem decode_agree {x y : ByteArray} {i j : Nat} (h0 : bt x i = bt y j) (h1 : tl x (i + 1) = tl y (j + 1))
    (h2 : tl y (j + 1) = true → bt x (i + 1) = bt y (j + 1) ∧ tl x (i + 2) = tl y (j + 2) ∧ (tl y (j + 2) = true → bt x (i + 2) = bt y (j + 2) ∧ tl x (i + 3) = tl y (j + 3) ∧ (tl y (j + 3) = true → bt x (i + 3) = bt y (j + 3)))) : Utf8.decode x i = Utf8.decode y j := by
  rw [decode_is, decode_is, h0, h1]
  by_cases c0 : bt y j < 128
  · rw [if_pos c0, if_pos c0]
  · rw [if_neg c0, if_neg c0]
    by_cases t1 : tl y (j + 1) = true
    · obtain ⟨b1, e2, h3⟩ := h2 t1
      have w2 : v2 x i = v2 y j := by unfold v2; rw [h0, b1]
      rw [e2, w2]
      by_cases t2 : tl y (j + 2) = true
      · obtain ⟨b2, e3, h4⟩ := h3 t2
        have w3 : v3 x i = v3 y j := by unfold v3; rw [h0, b1, b2]
        rw [e3, w3]
        by_cases t3 : tl y (j + 3) = true
        · have w4 : v4 x i = v4 y j := by unfold v4; rw [h0, b1, b2, h4 t3]
          rw [w4]
        · simp [t3]
      · simp [t2]
    · simp [t1]

/-- From a byte of 128 or more on a character is read by the bytes of 128 and more that follow one another. -/
theorem decodeL_high (l m : List UInt8) (h : l.takeWhile hiB = m.takeWhile hiB) (hne : l.takeWhile hiB ≠ []) : Lib.decodeL l = Lib.decodeL m := by
  have hl : 0 < (l.takeWhile hiB).length := List.length_pos_iff.2 hne
  obtain ⟨a1, a2⟩ := tw_at l 0 (by omega)
  obtain ⟨b1, b2⟩ := tw_at m 0 (by rw [← h]; omega)
  unfold Lib.decodeL
  have z0 : bt ⟨l.toArray⟩ 0 = bt ⟨m.toArray⟩ 0 := by
    rw [lbt (a1.2 hl).1, lbt (b1.2 (by rw [← h]; exact hl)).1, a2 hl, b2 (by rw [← h]; exact hl), h]
  have step : ∀ k, k ≤ (l.takeWhile hiB).length → tl ⟨l.toArray⟩ k = tl ⟨m.toArray⟩ k ∧ (tl ⟨m.toArray⟩ k = true → bt ⟨l.toArray⟩ k = bt ⟨m.toArray⟩ k ∧ k + 1 ≤ (l.takeWhile hiB).length) := fun k hk => by
    obtain ⟨p1, p2⟩ := tw_tl l k hk
    obtain ⟨q1, q2⟩ := tw_tl m k (by rw [← h]; exact hk)
    have e : tl ⟨l.toArray⟩ k = tl ⟨m.toArray⟩ k := by rw [p1, q1, h]
    exact ⟨e, fun ht => ⟨by rw [(p2 (e ▸ ht)).1, (q2 ht).1, h], (p2 (e ▸ ht)).2⟩⟩
  obtain ⟨s1, s1'⟩ := step 1 (by omega)
  refine decode_agree z0 s1 fun t1 => ⟨(s1' t1).1, ?_⟩
  obtain ⟨s2, s2'⟩ := step 2 (s1' t1).2
  refine ⟨s2, fun t2 => ⟨(s2' t2).1, ?_⟩⟩
  obtain ⟨s3, s3'⟩ := step 3 (s2' t2).2
  exact ⟨s3, fun t3 => (s3' t3).1⟩

theorem tw_append {a b c : List UInt8} (h : b.takeWhile hiB = c.takeWhile hiB) : (a ++ b).takeWhile hiB = (a ++ c).takeWhile hiB := by
  induction a with
  | nil => exact h
  | cons x t ih =>
    rw [List.cons_append, List.cons_append]
    by_cases hx : hiB x = true
    · rw [List.takeWhile_cons_of_pos hx, List.takeWhile_cons_of_pos hx, ih]
    · rw [List.takeWhile_cons_of_neg hx, List.takeWhile_cons_of_neg hx]

/-- A character that is read where a text ends is read where the text goes on. -/
theorem decode_longer {x y : ByteArray} {i j : Nat} (hi : i < x.size) (hb : ∀ k, i + k < x.size → j + k < y.size ∧ bt y (j + k) = bt x (i + k)) (hg : Utf8.decode x i ≠ (65533, 1)) : Utf8.decode y j = Utf8.decode x i := by
  have e0 : bt y j = bt x i := (hb 0 hi).2
  have ht : ∀ k, tl x (i + k) = true → tl y (j + k) = true ∧ bt y (j + k) = bt x (i + k) := fun k h => by
    obtain ⟨p, q, r⟩ := tl_bd h
    obtain ⟨a, b⟩ := hb k p
    refine ⟨?_, b⟩
    unfold tl
    rw [b]
    exact decide_eq_true ⟨a, q, r⟩
  rw [decode_is] at hg
  rw [decode_is, decode_is x i, e0]
  by_cases c0 : bt x i < 128
  · rw [if_pos c0, if_pos c0]
  · rw [if_neg c0] at hg ⊢
    rw [if_neg c0]
    by_cases c1 : bt x i / 32 = 6 ∧ tl x (i + 1) = true
    · have w : v2 y j = v2 x i := by unfold v2; rw [e0, (ht 1 c1.2).2]
      rw [if_pos c1, if_pos ⟨c1.1, (ht 1 c1.2).1⟩, w]
    · rw [if_neg c1] at hg ⊢
      by_cases c2 : bt x i / 16 = 14 ∧ tl x (i + 1) = true ∧ tl x (i + 2) = true
      · have w : v3 y j = v3 x i := by unfold v3; rw [e0, (ht 1 c2.2.1).2, (ht 2 c2.2.2).2]
        rw [if_pos c2, if_neg (by omega), if_pos ⟨c2.1, (ht 1 c2.2.1).1, (ht 2 c2.2.2).1⟩, w]
      · rw [if_neg c2] at hg ⊢
        by_cases c3 : bt x i / 8 = 30 ∧ tl x (i + 1) = true ∧ tl x (i + 2) = true ∧ tl x (i + 3) = true
        · have w : v4 y j = v4 x i := by unfold v4; rw [e0, (ht 1 c3.2.1).2, (ht 2 c3.2.2.1).2, (ht 3 c3.2.2.2).2]
          rw [if_pos c3, if_neg (by omega), if_neg (by omega), if_pos ⟨c3.1, (ht 1 c3.2.1).1, (ht 2 c3.2.2.1).1, (ht 3 c3.2.2.2).1⟩, w]
        · rw [if_neg c3] at hg
          exact absurd rfl hg

theorem decodeL_append {a b : List UInt8} (ha : a ≠ []) (hg : Lib.decodeL a ≠ (65533, 1)) : Lib.decodeL (a ++ b) = Lib.decodeL a := by
  have hl : 0 < a.length := List.length_pos_iff.2 ha
  unfold Lib.decodeL at hg ⊢
  have hz : (ByteArray.mk a.toArray).size = a.length := by simp [ByteArray.size]
  refine decode_longer (by omega) (fun k hk => ?_) hg
  have h1 : 0 + k < a.length := by omega
  have h2 : 0 + k < (a ++ b).length := by rw [List.length_append]; omega
  refine ⟨by simpa [ByteArray.size] using h2, ?_⟩
  rw [lbt h1, lbt h2]
  congr 1
  simp only [List.getD_eq_getElem?_getD]
  rw [List.getElem?_append_left h1]

/-- Behind what is valid. -/
theorem validD_append : ∀ (n : Nat) (a b : List UInt8), a.length ≤ n → Lib.validD a = true → Lib.validD (a ++ b) = Lib.validD b
  | 0, a, b, hn, _ => by
    have : a = [] := List.eq_nil_of_length_eq_zero (by omega)
    subst this
    rfl
  | n + 1, a, b, hn, hv => by
    by_cases ha : a = []
    · subst ha; rfl
    · have hl : 0 < a.length := List.length_pos_iff.2 ha
      rw [Lib.validD_step a ha] at hv
      by_cases hg : (Lib.decodeL a).1 = 65533 ∧ (Lib.decodeL a).2 = 1
      · rw [if_pos hg] at hv; cases hv
      · rw [if_neg hg] at hv
        have hg' : Lib.decodeL a ≠ (65533, 1) := fun e => hg ⟨by rw [e], by rw [e]⟩
        have hw := Lib.decodeL_width a
        have hle : (Lib.decodeL a).2 ≤ a.length := by
          have := decode_width_le (s := ⟨a.toArray⟩) (i := 0) (by simpa [ByteArray.size] using hl)
          simpa [ByteArray.size, Lib.decodeL] using this
        rw [Lib.validD_step (a ++ b) (by simp [ha]), decodeL_append ha hg', if_neg hg, List.drop_append_of_le_length hle]
        exact validD_append n _ b (by rw [List.length_drop]; omega) hv

theorem decode_cut {s x : ByteArray} {p n : Nat} (hn : (Utf8.decode s p).2 = n) (hp : 1 ≤ n) (hxs : x.size = n) (hb : ∀ k, k < n → p + k < s.size ∧ bt x k = bt s (p + k)) (hg : Utf8.decode s p ≠ (65533, 1)) : Utf8.decode x 0 = Utf8.decode s p := by
  have ht : ∀ k, k < n → tl x (0 + k) = tl s (p + k) := fun k hk => by
    unfold tl
    rw [Nat.zero_add, (hb k hk).2, hxs]
    exact decide_eq_decide.2 ⟨fun ⟨_, b⟩ => ⟨(hb k hk).1, b⟩, fun ⟨_, b⟩ => ⟨hk, b⟩⟩
  have e0 : bt x 0 = bt s p := by rw [(hb 0 (by omega)).2, Nat.add_zero]
  have hd := decode_is s p
  rw [decode_is x 0, hd, e0]
  rw [hd] at hn
  by_cases c0 : bt s p < 128
  · rw [if_pos c0, if_pos c0]
  · rw [if_neg c0] at hd hn ⊢
    rw [if_neg c0]
    by_cases c1 : bt s p / 32 = 6 ∧ tl s (p + 1) = true
    · rw [if_pos c1] at hd hn
      have hn : n = 2 := by
        by_cases c : 128 ≤ v2 s p
        · rw [if_pos c] at hn; exact hn.symm
        · rw [if_neg c] at hd; exact absurd hd hg
      have w : v2 x 0 = v2 s p := by unfold v2; rw [e0, (hb 1 (by omega)).2]
      rw [if_pos c1, if_pos ⟨c1.1, by rw [ht 1 (by omega)]; exact c1.2⟩, w]
    · rw [if_neg c1] at hd hn ⊢
      by_cases c2 : bt s p / 16 = 14 ∧ tl s (p + 1) = true ∧ tl s (p + 2) = true
      · rw [if_pos c2] at hd hn
        have hn : n = 3 := by
          by_cases c : 2048 ≤ v3 s p ∧ Utf8.valid (v3 s p : Nat) = true
          · rw [if_pos c] at hn; exact hn.symm
          · rw [if_neg c] at hd; exact absurd hd hg
        have w : v3 x 0 = v3 s p := by unfold v3; rw [e0, (hb 1 (by omega)).2, (hb 2 (by omega)).2]
        rw [if_pos c2, if_neg (by omega), if_pos ⟨c2.1, by rw [ht 1 (by omega)]; exact c2.2.1, by rw [ht 2 (by omega)]; exact c2.2.2⟩, w]
      · rw [if_neg c2] at hd hn ⊢
        by_cases c3 : bt s p / 8 = 30 ∧ tl s (p + 1) = true ∧ tl s (p + 2) = true ∧ tl s (p + 3) = true
        · rw [if_pos c3] at hd hn
          have hn : n = 4 := by
            by_cases c : 65536 ≤ v4 s p ∧ Utf8.valid (v4 s p : Nat) = true
            · rw [if_pos c] at hn; exact hn.symm
            · rw [if_neg c] at hd; exact absurd hd hg
          have w : v4 x 0 = v4 s p := by unfold v4; rw [e0, (hb 1 (by omega)).2, (hb 2 (by omega)).2, (hb 3 (by omega)).2]
          rw [if_pos c3, if_neg (by omega), if_neg (by omega), if_pos ⟨c3.1, by rw [ht 1 (by omega)]; exact c3.2.1, by rw [ht 2 (by omega)]; exact c3.2.2.1, by rw [ht 3 (by omega)]; exact c3.2.2.2⟩, w]
        · rw [if_neg c3] at hd
          exact absurd hd hg

/-- The bytes of a character are valid. -/
theorem valid_char {s : ByteArray} {p : Nat} (h : p < s.size) (hg : Utf8.decode s p ≠ (65533, 1)) : Lib.validD (s.extract p (p + (Utf8.decode s p).2)).data.toList = true := by
  have h1 := decode_width_le h
  have h2 := Lib.decode_width_pos s p h
  obtain ⟨n, hn⟩ : ∃ n, (Utf8.decode s p).2 = n := ⟨_, rfl⟩
  rw [hn] at h1 h2 ⊢
  have hlen : (s.extract p (p + n)).data.toList.length = n := by
    rw [sub_list, List.length_take, List.length_drop, ← Lib.size_eq]; omega
  have hdec : Lib.decodeL (s.extract p (p + n)).data.toList = Utf8.decode s p := by
    unfold Lib.decodeL
    refine decode_cut hn h2 hlen (fun k hk => ⟨by omega, ?_⟩) hg
    rw [lbt (by rw [hlen]; exact hk), bt_data (by omega), sub_list]
    simp only [List.getD_eq_getElem?_getD, List.getElem?_take, List.getElem?_drop]
    rw [if_pos (by omega)]
  have hne : (s.extract p (p + n)).data.toList ≠ [] := List.ne_nil_of_length_pos (by omega)
  rw [Lib.validD_step _ hne, hdec, if_neg (fun h => hg (Prod.ext h.1 h.2)), hn, List.drop_of_length_le (by omega)]
  rfl

/-- What a text's reading adds goes on as the text does, up to the first byte below 128. -/
theorem dev_fol {s : ByteArray} : ∀ (f p : Nat) (out : List UInt8) (e : Nat) (o : List UInt8), devT s f p out = some (e, o) → p ≤ s.size → ∃ r, o = out ++ r ∧ r.takeWhile hiB = (s.data.toList.drop p).takeWhile hiB
  | 0, _, _, _, _, h, _ => by rw [devT] at h; cases h
  | f + 1, p, out, e, o, h, hp => by
    rw [devT] at h
    by_cases hlt : p < s.size
    · rw [if_pos hlt] at h
      have hl : p < s.data.toList.length := by rw [← Lib.size_eq]; exact hlt
      by_cases hq : isIn (Utf8.decode s p).1 = true
      · rw [if_pos hq] at h
        have h1 := decode_width_le hlt
        obtain ⟨r, hr, ht⟩ := dev_fol f _ _ e o h h1
        refine ⟨(s.extract p (p + (Utf8.decode s p).2)).data.toList ++ r, by rw [hr, List.append_assoc], ?_⟩
        rw [tw_append ht, sub_list, Nat.add_sub_cancel_left, ← List.drop_drop, List.take_append_drop]
      · rw [if_neg hq] at h
        by_cases c : quote1 s p = true
        · have hb : hiB (s.data.toList[p]) = false := by
            unfold quote1 at c
            have c2 := (of_decide_eq_true c).2
            rw [bt_data hlt, List.getD_eq_getElem?_getD, List.getElem?_eq_getElem hl] at c2
            rw [Option.getD_some] at c2
            unfold hiB
            exact decide_eq_false (by omega)
          have hz : (s.data.toList.drop p).takeWhile hiB = [] := by
            rw [List.drop_eq_getElem_cons hl, List.takeWhile_cons_of_neg (by rw [hb]; simp)]
          rw [if_pos c] at h
          by_cases c2 : quote1 s (p + 1) = true
          · rw [if_pos c2] at h
            have h2 : p + 2 ≤ s.size := by unfold quote1 at c2; have := of_decide_eq_true c2; omega
            obtain ⟨r, hr, ht⟩ := dev_fol f _ _ e o h h2
            refine ⟨39 :: r, by rw [hr, List.append_assoc]; rfl, ?_⟩
            rw [hz, List.takeWhile_cons_of_neg (by decide)]
          · rw [if_neg c2] at h
            obtain ⟨rfl, rfl⟩ : p + 1 = e ∧ out = o := by simpa using h
            exact ⟨[], by simp, by rw [hz]; rfl⟩
        · rw [if_neg c] at h; cases h
    · rw [if_neg hlt] at h; cases h

theorem not_in {s : ByteArray} {p : Nat} (hq : ¬ isIn (Utf8.decode s p).1 = true) : bt s p = 39 ∨ bt s p = 10 := by
  have hv : (Utf8.decode s p).1 = 39 ∨ (Utf8.decode s p).1 = 10 := by
    unfold isIn at hq
    by_cases a : (Utf8.decode s p).1 = 39
    · exact Or.inl a
    · by_cases b : (Utf8.decode s p).1 = 10
      · exact Or.inr b
      · simp [a, b] at hq
  have hb : bt s p < 128 := by
    by_cases h : bt s p < 128
    · exact h
    · have := decode_ge h; omega
  rw [decode_is, if_pos hb] at hv
  exact hv

theorem is_in {s : ByteArray} {p : Nat} (hq : isIn (Utf8.decode s p).1 = true) : bt s p ≠ 39 ∧ bt s p ≠ 10 := by
  constructor
  · intro e
    rw [decode_is, if_pos (by omega), e] at hq
    exact absurd hq (by decide)
  · intro e
    rw [decode_is, if_pos (by omega), e] at hq
    exact absurd hq (by decide)

/-- What a text's reading gives, whole and then looked at, is what is read character by character. -/
theorem dev_tok {s : ByteArray} : ∀ (f p : Nat) (out : List UInt8), p ≤ s.size → Lib.validD out = true → textTok s f p out = match devT s f p out with
    | none => bad 1
    | some (e, o) => if Lib.validD o = true then ⟨2, 0, ⟨o.toArray⟩, e, 0⟩ else bad 1
  | 0, _, _, _, _ => by rw [textTok, devT]
  | f + 1, p, out, hp, hv => by
    rw [textTok, devT]
    by_cases hlt : p < s.size
    · rw [if_pos hlt, if_pos hlt]
      by_cases hq : isIn (Utf8.decode s p).1 = true
      · obtain ⟨n39, n10⟩ := is_in hq
        rw [if_neg n39, if_pos hq]
        by_cases hg : Utf8.decode s p = (65533, 1)
        · have hr : runeAt s p = (0, 0) := rune_none hg
          rw [if_pos (Or.inl (by rw [hr]))]
          cases hd : devT s f (p + (Utf8.decode s p).2) (out ++ (s.extract p (p + (Utf8.decode s p).2)).data.toList) with
          | none => rfl
          | some x =>
            obtain ⟨e, o⟩ := x
            have hd2 : devT s (f + 1) p out = some (e, o) := by rw [devT, if_pos hlt, if_pos hq]; exact hd
            obtain ⟨r, hr, ht⟩ := dev_fol (f + 1) p out e o hd2 hp
            have hl : p < s.data.toList.length := by rw [← Lib.size_eq]; exact hlt
            have hhi : hiB (s.data.toList[p]) = true := by
              have hb : ¬ bt s p < 128 := fun h => by rw [decode_is, if_pos h] at hg; have := congrArg Prod.fst hg; simp at this; omega
              rw [bt_data hlt, List.getD_eq_getElem?_getD, List.getElem?_eq_getElem hl] at hb
              unfold hiB
              exact decide_eq_true (by simpa using hb)
            have hne : (s.data.toList.drop p).takeWhile hiB ≠ [] := by
              rw [List.drop_eq_getElem_cons hl, List.takeWhile_cons_of_pos hhi]
              exact List.cons_ne_nil _ _
            have hdl : Lib.decodeL r = (65533, 1) := by
              rw [decodeL_high r (s.data.toList.drop p) ht (by rw [ht]; exact hne), ← hg, ← tail_list]
              exact (tail_decode (i := p) (j := 0) hlt)
            have hrn : r ≠ [] := fun e => by rw [e] at ht; exact hne ht.symm
            have hvf : Lib.validD o = false := by
              rw [hr, validD_append _ out r (Nat.le_refl _) hv, Lib.validD_step r hrn, hdl]
              rfl
            show bad 1 = if Lib.validD o = true then _ else bad 1
            rw [hvf, if_neg (by decide)]
        · have hr : runeAt s p = Utf8.decode s p := by unfold runeAt; rw [if_neg hg]
          have h1 := decode_width_le hlt
          have h2 := Lib.decode_width_pos s p hlt
          rw [hr, if_neg (fun h => by rcases h with h | h <;> omega)]
          exact dev_tok f _ _ h1 (by rw [validD_append _ out _ (Nat.le_refl _) hv]; exact valid_char hlt hg)
      · rw [if_neg hq]
        rcases not_in hq with h39 | h10
        · have c : quote1 s p = true := by unfold quote1; exact decide_eq_true ⟨hlt, h39⟩
          have hqq : quotes s p = quote1 s (p + 1) := by
            unfold quotes quote1
            exact decide_eq_decide.2 ⟨fun ⟨a, _, b⟩ => ⟨a, b⟩, fun ⟨a, b⟩ => ⟨a, h39, b⟩⟩
          rw [if_pos h39, if_pos c, hqq]
          by_cases c2 : quote1 s (p + 1) = true
          · rw [if_pos c2, if_pos c2]
            have h2 : p + 2 ≤ s.size := by unfold quote1 at c2; have := of_decide_eq_true c2; omega
            exact dev_tok f _ _ h2 (by rw [validD_append _ out _ (Nat.le_refl _) hv]; decide)
          · rw [if_neg c2, if_neg c2]
            show _ = if Lib.validD out = true then _ else bad 1
            rw [if_pos hv]
        · rw [if_neg (by omega), if_pos (Or.inr h10), if_neg (fun c => by unfold quote1 at c; have := of_decide_eq_true c; omega)]
    · rw [if_neg hlt, if_neg hlt]

theorem tail_quotes {s : ByteArray} {i j : Nat} : quotes (s.extract i s.size) j = quotes s (i + j) := by
  unfold quotes
  by_cases h : i + j + 2 ≤ s.size
  · rw [tail_bt (by omega), tail_bt (by omega), tail_size]
    exact decide_eq_decide.2 ⟨fun ⟨_, b⟩ => ⟨h, b⟩, fun ⟨_, b⟩ => ⟨by omega, b⟩⟩
  · rw [decide_eq_false (fun hh => h (by have := hh.1; rw [tail_size] at this; omega)), decide_eq_false (fun hh => h hh.1)]

/-- What is read in the rest of a line from place i on, in the line's places. -/
def shiftG (i : Nat) (g : Got) : Got := if g.c = 0 then ⟨g.k, g.n, g.t, g.e + i, g.c⟩ else bad 1

theorem shift_bad (i : Nat) : shiftG i (bad 1) = bad 1 := by unfold shiftG; rw [if_neg (by simp [bad])]

/-- A text is read in the rest of a line as in the line. -/
theorem tok_tail {s : ByteArray} {i : Nat} : ∀ (f p : Nat) (out : List UInt8), textTok s f (i + p) out = shiftG i (textTok (s.extract i s.size) f p out)
  | 0, p, out => by rw [textTok, textTok, shift_bad]
  | f + 1, p, out => by
    rw [textTok, textTok]
    by_cases h : i + p < s.size
    · have hd : runeAt (s.extract i s.size) p = runeAt s (i + p) := by unfold runeAt; rw [tail_decode h]
      have h2 : p < (s.extract i s.size).size := by rw [tail_size]; omega
      rw [if_pos h, if_pos h2, tail_bt h, tail_quotes, hd]
      by_cases c1 : bt s (i + p) = 39
      · rw [if_pos c1, if_pos c1]
        by_cases c2 : quotes s (i + p) = true
        · rw [if_pos c2, if_pos c2]
          exact tok_tail f (p + 2) _
        · rw [if_neg c2, if_neg c2]
          unfold shiftG
          rw [if_pos rfl]
          simp only [Got.mk.injEq, true_and, and_true]
          omega
      · rw [if_neg c1, if_neg c1]
        by_cases c2 : (runeAt s (i + p)).2 = 0 ∨ bt s (i + p) = 10
        · rw [if_pos c2, if_pos c2, shift_bad]
        · rw [if_neg c2, if_neg c2]
          have hw : i + p + (runeAt s (i + p)).2 ≤ s.size := by
            by_cases hg : Utf8.decode s (i + p) = (65533, 1)
            · exact absurd (Or.inl (by rw [rune_none hg])) c2
            · have hr : runeAt s (i + p) = Utf8.decode s (i + p) := by unfold runeAt; rw [if_neg hg]
              rw [hr]
              exact decode_width_le h
          have hx : (s.extract i s.size).extract p (p + (runeAt s (i + p)).2) = s.extract (i + p) (i + p + (runeAt s (i + p)).2) := by
            refine ByteArray.ext (Array.toList_inj.1 ?_)
            rw [sub_list, tail_list, sub_list, List.drop_drop, Nat.add_sub_cancel_left, Nat.add_sub_cancel_left]
          rw [hx, Nat.add_assoc]
          exact tok_tail f _ _
    · have h2 : ¬ p < (s.extract i s.size).size := by rw [tail_size]; omega
      rw [if_neg h, if_neg h2, shift_bad]

end Go.Proofs.YtinndpnilmmmjaaGreatDoor
namespace Go.Proofs.YtinndpnilmmmjaaGreatDoor
open Go

/-- The text rs stands in s, its last byte at place k. -/
def Mt (s rs : ByteArray) (L k : Nat) : Prop := L ≤ k ∧ k < s.size ∧ ∀ j, j ≤ L → bt s (k - j) = bt rs (L - j)

/-- How often a byte stands ahead of a place. -/
def cnt (s : ByteArray) (c : Nat) : Nat → Nat
  | 0 => 0
  | k + 1 => cnt s c k + (if bt s k = c then 1 else 0)

theorem cnt_mono (s : ByteArray) (c k : Nat) : ∀ d, cnt s c k ≤ cnt s c (k + d)
  | 0 => Nat.le_refl _
  | d + 1 => by
    have := cnt_mono s c k d
    rw [← Nat.add_assoc, cnt]
    omega

theorem cnt_hit {s : ByteArray} {c k m : Nat} (h : k ≤ m) (hm : bt s m = c) {f : Nat} (hf : f ≤ cnt s c k) : f + 1 ≤ cnt s c (m + 1) := by
  have := cnt_mono s c k (m - k)
  rw [show k + (m - k) = m by omega] at this
  rw [cnt, if_pos hm]
  omega

theorem tail_at {s : ByteArray} {k j : Nat} (h : k + j < s.size) : (s.extract k s.size).data.toList[j]? = some (UInt8.ofNat (bt s (k + j))) := by
  rw [tail_list, List.getElem?_drop]
  have hl : k + j < s.data.toList.length := by rw [← Lib.size_eq]; exact h
  rw [List.getElem?_eq_getElem hl, bt_data h, List.getD_eq_getElem?_getD, List.getElem?_eq_getElem hl, Option.getD_some]
  simp

theorem idx_none {s : ByteArray} {k c : Nat} (h : Lib.indexByte (s.extract (k + 1) s.size).data.toList (((c : Nat) : Int).toNat.toUInt8) = -1) (m : Nat) (h1 : k < m) (h2 : m < s.size) : bt s m ≠ c := by
  intro e
  have := Lib.indexByte_none h (m - (k + 1))
  rw [tail_at (by omega), show k + 1 + (m - (k + 1)) = m by omega, e] at this
  exact this (by simp)

theorem idx_some {s : ByteArray} {k c o : Nat} (hc : c < 256) (ho : k + 1 + o < s.size) (h : Lib.indexByte (s.extract (k + 1) s.size).data.toList (((c : Nat) : Int).toNat.toUInt8) = o) : bt s (k + 1 + o) = c ∧ ∀ m, k < m → m < k + 1 + o → bt s m ≠ c := by
  obtain ⟨h1, h2⟩ := Lib.indexByte_some h
  constructor
  · rw [tail_at ho] at h1
    have h3 := congrArg UInt8.toNat (Option.some.inj h1)
    have := bt_lt s (k + 1 + o)
    rw [UInt8.toNat_ofNat', Int.toNat_natCast] at h3
    simp at h3
    omega
  · intro m m1 m2 e
    have := h2 (m - (k + 1)) (by omega)
    rw [tail_at (by omega), show k + 1 + (m - (k + 1)) = m by omega, e] at this
    exact this (by simp)

end Go.Proofs.YtinndpnilmmmjaaGreatDoor
namespace Go.Proofs.YtinndpnilmmmjaaGreatDoor
open Go

/-- The signs, one behind the other. -/
def sgs : ByteArray := ⟨(signCs.flatMap fun c => (encZ (c : Nat)).map fun x => x.toNat.toUInt8).toArray⟩

end Go.Proofs.YtinndpnilmmmjaaGreatDoor
namespace Go.Proofs.YtinndpnilmmmjaaGreatDoor
open Go

/-- What the bytes of a character of two to four bytes are. -/
structure Wide (v L : Nat) : Prop where
  size : (Utf8.encode (v : Int)).size = L + 1
  lo : 1 ≤ L
  hi : L ≤ 3
  last : 128 ≤ bt (Utf8.encode (v : Int)) L ∧ bt (Utf8.encode (v : Int)) L < 192
  reads : ∀ s i, i + L < s.size → (∀ t, t ≤ L → bt s (i + t) = bt (Utf8.encode (v : Int)) t) → Utf8.decode s i = (v, L + 1)
  len : (encZ (v : Int)).length = L + 1
  same : ∀ t, t ≤ L → bt (Utf8.encode (v : Int)) t = ((encZ (v : Int)).getD t 0).toNat

theorem u8n {x : Nat} (h : x < 256) : (UInt8.ofNat x).toNat = x := by rw [UInt8.toNat_ofNat']; omega

theorem wide_of {v : Nat} (hv : Utf8.valid (v : Int) = true) (h : 128 ≤ v) : ∃ L, Wide v L := by
  have hlt : v < 2097152 := by
    have := valid_ok v
    rw [hv] at this
    unfold runeOk at this
    have := of_decide_eq_true this.symm
    omega
  have n0 : ¬ v < 128 := by omega
  have z0 : ¬ (v : Int) < 128 := by omega
  by_cases h2 : v < 2048
  · have e : Utf8.encode (v : Int) = ⟨#[UInt8.ofNat (192 + v / 64), UInt8.ofNat (128 + v % 64)]⟩ := by
      unfold Utf8.encode
      simp only [hv, if_true, Int.toNat_natCast, if_neg n0, if_pos h2]
    have b0 : bt (Utf8.encode (v : Int)) 0 = 192 + v / 64 := by rw [e]; exact u8n (by omega)
    have b1 : bt (Utf8.encode (v : Int)) 1 = 128 + v % 64 := by rw [e]; exact u8n (by omega)
    have ez : encZ (v : Int) = [192 + (v : Int) / 64, 128 + (v : Int) % 64] := by unfold encZ; rw [if_neg z0, if_pos (by omega)]
    refine ⟨1, by rw [e]; rfl, by omega, by omega, by rw [b1]; omega, fun s i hi hb => ?_, by rw [ez]; rfl, fun t ht => ?_⟩
    · have c0 := hb 0 (by omega)
      have c1 := hb 1 (by omega)
      rw [b0, Nat.add_zero] at c0
      rw [b1] at c1
      have t1 : tl s (i + 1) = true := by unfold tl; exact decide_eq_true ⟨hi, by omega, by omega⟩
      have w : v2 s i = v := by unfold v2; rw [c0, c1]; omega
      rw [decode_is, if_neg (by omega), if_pos ⟨by omega, t1⟩, if_pos (by omega), w]
    · rw [ez]
      rcases (by omega : t = 0 ∨ t = 1) with rfl | rfl
      · rw [b0]; show _ = (192 + (v : Int) / 64).toNat; omega
      · rw [b1]; show _ = (128 + (v : Int) % 64).toNat; omega
  by_cases h3 : v < 65536
  · have e : Utf8.encode (v : Int) = ⟨#[UInt8.ofNat (224 + v / 4096), UInt8.ofNat (128 + v / 64 % 64), UInt8.ofNat (128 + v % 64)]⟩ := by
      unfold Utf8.encode
      simp only [hv, if_true, Int.toNat_natCast, if_neg n0, if_neg h2, if_pos h3]
    have b0 : bt (Utf8.encode (v : Int)) 0 = 224 + v / 4096 := by rw [e]; exact u8n (by omega)
    have b1 : bt (Utf8.encode (v : Int)) 1 = 128 + v / 64 % 64 := by rw [e]; exact u8n (by omega)
    have b2 : bt (Utf8.encode (v : Int)) 2 = 128 + v % 64 := by rw [e]; exact u8n (by omega)
    have ez : encZ (v : Int) = [224 + (v : Int) / 4096, 128 + (v : Int) / 64 % 64, 128 + (v : Int) % 64] := by unfold encZ; rw [if_neg z0, if_neg (by omega), if_pos (by omega)]
    refine ⟨2, by rw [e]; rfl, by omega, by omega, by rw [b2]; omega, fun s i hi hb => ?_, by rw [ez]; rfl, fun t ht => ?_⟩
    · have c0 := hb 0 (by omega)
      have c1 := hb 1 (by omega)
      have c2 := hb 2 (by omega)
      rw [b0, Nat.add_zero] at c0
      rw [b1] at c1
      rw [b2] at c2
      have t1 : tl s (i + 1) = true := by unfold tl; exact decide_eq_true ⟨by omega, by omega, by omega⟩
      have t2 : tl s (i + 2) = true := by unfold tl; exact decide_eq_true ⟨hi, by omega, by omega⟩
      have w : v3 s i = v := by unfold v3; rw [c0, c1, c2]; omega
      rw [decode_is, if_neg (by omega), if_neg (by omega), if_pos ⟨by omega, t1, t2⟩, w, if_pos ⟨by omega, hv⟩]
    · rw [ez]
      rcases (by omega : t = 0 ∨ t = 1 ∨ t = 2) with rfl | rfl | rfl
      · rw [b0]; show _ = (224 + (v : Int) / 4096).toNat; omega
      · rw [b1]; show _ = (128 + (v : Int) / 64 % 64).toNat; omega
      · rw [b2]; show _ = (128 + (v : Int) % 64).toNat; omega
  · have e : Utf8.encode (v : Int) = ⟨#[UInt8.ofNat (240 + v / 262144), UInt8.ofNat (128 + v / 4096 % 64), UInt8.ofNat (128 + v / 64 % 64), UInt8.ofNat (128 + v % 64)]⟩ := by
      unfold Utf8.encode
      simp only [hv, if_true, Int.toNat_natCast, if_neg n0, if_neg h2, if_neg h3]
    have b0 : bt (Utf8.encode (v : Int)) 0 = 240 + v / 262144 := by rw [e]; exact u8n (by omega)
    have b1 : bt (Utf8.encode (v : Int)) 1 = 128 + v / 4096 % 64 := by rw [e]; exact u8n (by omega)
    have b2 : bt (Utf8.encode (v : Int)) 2 = 128 + v / 64 % 64 := by rw [e]; exact u8n (by omega)
    have b3 : bt (Utf8.encode (v : Int)) 3 = 128 + v % 64 := by rw [e]; exact u8n (by omega)
    have ez : encZ (v : Int) = [240 + (v : Int) / 262144, 128 + (v : Int) / 4096 % 64, 128 + (v : Int) / 64 % 64, 128 + (v : Int) % 64] := by unfold encZ; rw [if_neg z0, if_neg (by omega), if_neg (by omega)]
    refine ⟨3, by rw [e]; rfl, by omega, by omega, by rw [b3]; omega, fun s i hi hb => ?_, by rw [ez]; rfl, fun t ht => ?_⟩
    · have c0 := hb 0 (by omega)
      have c1 := hb 1 (by omega)
      have c2 := hb 2 (by omega)
      have c3 := hb 3 (by omega)
      rw [b0, Nat.add_zero] at c0
      rw [b1] at c1
      rw [b2] at c2
      rw [b3] at c3
      have t1 : tl s (i + 1) = true := by unfold tl; exact decide_eq_true ⟨by omega, by omega, by omega⟩
      have t2 : tl s (i + 2) = true := by unfold tl; exact decide_eq_true ⟨by omega, by omega, by omega⟩
      have t3 : tl s (i + 3) = true := by unfold tl; exact decide_eq_true ⟨hi, by omega, by omega⟩
      have w : v4 s i = v := by unfold v4; rw [c0, c1, c2, c3]; omega
      rw [decode_is, if_neg (by omega), if_neg (by omega), if_neg (by omega), if_pos ⟨by omega, t1, t2, t3⟩, w, if_pos ⟨by omega, hv⟩]
    · rw [ez]
      rcases (by omega : t = 0 ∨ t = 1 ∨ t = 2 ∨ t = 3) with rfl | rfl | rfl | rfl
      · rw [b0]; show _ = (240 + (v : Int) / 262144).toNat; omega
      · rw [b1]; show _ = (128 + (v : Int) / 4096 % 64).toNat; omega
      · rw [b2]; show _ = (128 + (v : Int) / 64 % 64).toNat; omega
      · rw [b3]; show _ = (128 + (v : Int) % 64).toNat; omega

/-- What is read is a character. -/
theorem decode_valid (s : ByteArray) (i : Nat) : Utf8.valid ((Utf8.decode s i).1 : Int) = true := by
  have small : ∀ {v : Nat}, v < 2048 → Utf8.valid (v : Int) = true := fun {v} h => by
    rw [valid_ok]
    unfold runeOk
    exact decide_eq_true (by omega)
  have hbad : Utf8.valid ((65533 : Nat) : Int) = true := by decide
  rw [decode_is]
  by_cases c0 : bt s i < 128
  · rw [if_pos c0]; exact small (by show bt s i < 2048; omega)
  · rw [if_neg c0]
    by_cases c1 : bt s i / 32 = 6 ∧ tl s (i + 1) = true
    · rw [if_pos c1]
      by_cases c : 128 ≤ v2 s i
      · rw [if_pos c]; exact small (by show v2 s i < 2048; unfold v2; omega)
      · rw [if_neg c]; exact hbad
    · rw [if_neg c1]
      by_cases c2 : bt s i / 16 = 14 ∧ tl s (i + 1) = true ∧ tl s (i + 2) = true
      · rw [if_pos c2]
        by_cases c : 2048 ≤ v3 s i ∧ Utf8.valid (v3 s i : Nat) = true
        · rw [if_pos c]; exact c.2
        · rw [if_neg c]; exact hbad
      · rw [if_neg c2]
        by_cases c3 : bt s i / 8 = 30 ∧ tl s (i + 1) = true ∧ tl s (i + 2) = true ∧ tl s (i + 3) = true
        · rw [if_pos c3]
          by_cases c : 65536 ≤ v4 s i ∧ Utf8.valid (v4 s i : Nat) = true
          · rw [if_pos c]; exact c.2
          · rw [if_neg c]; exact hbad
        · rw [if_neg c3]; exact hbad

/-- The count of a byte, place by place. -/
def passes (c : Nat) : List UInt8 → Nat → Nat → Bool
  | [], _, _ => true
  | b :: t, i, n => decide (n ≤ (i + 16) / 8) && passes c t (i + 1) (n + if b.toNat = c then 1 else 0)

theorem passes_cnt {s : ByteArray} {c : Nat} : ∀ (d i : Nat), s.size - i = d → passes c (s.data.toList.drop i) i (cnt s c i) = true → ∀ j, i ≤ j → j < s.size → cnt s c j ≤ (j + 16) / 8
  | 0, i, hd, _, j, h1, h2 => by omega
  | d + 1, i, hd, hp, j, h1, h2 => by
    have hl : i < s.data.toList.length := by rw [← Lib.size_eq]; omega
    rw [List.drop_eq_getElem_cons hl, passes, Bool.and_eq_true] at hp
    by_cases e : j = i
    · rw [e]; exact of_decide_eq_true hp.1
    · refine passes_cnt d (i + 1) (by omega) ?_ j (by omega) h2
      have hb : (s.data.toList[i]).toNat = bt s i := by rw [bt_data (by omega), List.getD_eq_getElem?_getD, List.getElem?_eq_getElem hl, Option.getD_some]
      rw [cnt, ← hb]
      exact hp.2

set_option maxRecDepth 100000 in
theorem sgs_passes : (List.range 64).all (fun d => passes (128 + d) sgs.data.toList 0 0) = true := by kernel_rfl

theorem sgs_cnt {c : Nat} (h1 : 128 ≤ c) (h2 : c < 192) (j : Nat) (hj : j < sgs.size) : cnt sgs c j ≤ (j + 16) / 8 := by
  have h := List.all_eq_true.1 sgs_passes (c - 128) (List.mem_range.2 (by omega))
  rw [show 128 + (c - 128) = c by omega] at h
  exact passes_cnt (sgs.size - 0) 0 rfl h j (Nat.zero_le _) hj

set_option maxRecDepth 100000 in
theorem sgs_reads : (List.range sgs.size).all (fun i => decide ((Utf8.decode sgs i).1 ∈ signCs) || decide ((Utf8.decode sgs i).1 = 65533)) = true := by kernel_rfl

theorem sgs_list : sgs.data.toList = signCs.flatMap fun c => (encZ (c : Nat)).map fun x => x.toNat.toUInt8 := rfl

/-- A character of two bytes or more stands in the signs where it is one of them. -/
theorem sgs_has {v L : Nat} (hW : Wide v L) (hne : v ≠ 65533) : (∃ k, Mt sgs (Utf8.encode (v : Int)) L k) ↔ v ∈ signCs := by
  constructor
  · rintro ⟨k, h1, h2, h3⟩
    have hd : Utf8.decode sgs (k - L) = (v, L + 1) := hW.reads sgs (k - L) (by omega) fun t ht => by
      have := h3 (L - t) (by omega)
      rw [show k - (L - t) = k - L + t by omega, show L - (L - t) = t by omega] at this
      exact this
    have := List.all_eq_true.1 sgs_reads (k - L) (List.mem_range.2 (by omega))
    rw [hd] at this
    rcases Bool.or_eq_true _ _ ▸ this with h | h
    · exact of_decide_eq_true h
    · exact absurd (of_decide_eq_true h) hne
  · intro hm
    obtain ⟨l1, l2, hl⟩ := List.append_of_mem hm
    have hs : sgs.data.toList = (l1.flatMap fun c => (encZ (c : Nat)).map fun x => x.toNat.toUInt8) ++ ((encZ (v : Int)).map fun x => x.toNat.toUInt8) ++ (l2.flatMap fun c => (encZ (c : Nat)).map fun x => x.toNat.toUInt8) := by
      rw [sgs_list, hl, List.flatMap_append, List.flatMap_cons, List.append_assoc]
    generalize (l1.flatMap fun c => (encZ (c : Nat)).map fun x => x.toNat.toUInt8) = A at hs
    generalize (l2.flatMap fun c => (encZ (c : Nat)).map fun x => x.toNat.toUInt8) = B at hs
    have hsz : sgs.size = A.length + (L + 1) + B.length := by
      rw [Lib.size_eq, hs, List.length_append, List.length_append, List.length_map, hW.len]
    refine ⟨A.length + L, by omega, by omega, fun j hj => ?_⟩
    have hv : v ≤ 2097151 := by
      have : v ∈ signCs := hm
      have h : ∀ x ∈ signCs, x ≤ 2097151 := by decide
      exact h v this
    have hb := encZ_byte hv
    have hx : L - j < (encZ (v : Int)).length := by rw [hW.len]; omega
    rw [bt_data (by omega), hs, hW.same (L - j) (by omega), List.getD_eq_getElem?_getD, List.getElem?_append_left (by rw [List.length_append, List.length_map, hW.len]; omega), List.getElem?_append_right (by omega), show A.length + L - j - A.length = L - j by omega, List.getElem?_map, List.getD_eq_getElem?_getD, List.getElem?_eq_getElem hx]
    have h2 := hb _ (List.getElem_mem hx)
    simp only [Option.map_some, Option.getD_some]
    generalize (encZ (v : Int))[L - j] = y at h2
    have : y.toNat < 256 := by omega
    simp only [Nat.toUInt8]
    exact u8n this

end Go.Proofs.YtinndpnilmmmjaaGreatDoor
