import Derived.Test.YtinndpnilmmmjaaGreatDoorMBase
import Derived.Lib.ItoaNum
import Derived.Lib.Replace
import Derived.Lib.RuneCount
import Derived.Lib.CountLaws
import Derived.Test.YtinndpnilmmmjaaGreatDoorMRel
import Derived.Test.YtinndpnilmmmjaaGreatDoorMTb
import Derived.Test.YtinndpnilmmmjaaGreatDoorMShelf
import Derived.Test.YtinndpnilmmmjaaGreatDoorMShelf
namespace Go.Proofs.YtinndpnilmmmjaaGreatDoor

/-- Numbers as bytes. -/
def zb (l : List Int) : List UInt8 := l.map fun x => x.toNat.toUInt8

theorem zb_app (l m : List Int) : zb (l ++ m) = zb l ++ zb m := by simp [zb]

theorem dec_digits (u : Nat) : Lib.decDigits u = zb (decZ u) := by
  induction u using Nat.strongRecOn with
  | _ u ih =>
    by_cases h : u < 10
    · rw [Lib.decDigits, dif_pos h, decZ_small h]
      simp only [zb, List.map_cons, List.map_nil]
      rw [show (48 + (u : Int)).toNat = 48 + u by omega]
    · rw [Lib.decDigits, dif_neg h, decZ_big h, zb_app, ih (u / 10) (by omega)]
      simp only [zb, List.map_cons, List.map_nil]
      rw [show (48 + ((u % 10 : Nat) : Int)).toNat = 48 + u % 10 by omega]

theorem zb_digit {l : List Int} (h : ∀ x ∈ l, 48 ≤ x ∧ x ≤ 57) : ∀ b ∈ zb l, 48 ≤ b.toNat ∧ b.toNat ≤ 57 := by
  intro b hb
  obtain ⟨x, hx, rfl⟩ := List.mem_map.1 hb
  have := h x hx
  show 48 ≤ (UInt8.ofNat x.toNat).toNat ∧ _
  rw [UInt8.toNat_ofNat_of_lt' (by simp [UInt8.size]; omega)]
  omega

theorem index_none {l : List UInt8} (h : ∀ b ∈ l, 48 ≤ b.toNat ∧ b.toNat ≤ 57) : Lib.index l [45] = -1 := by
  induction l with
  | nil => rfl
  | cons b l ih =>
    have hb := h b (by simp)
    have hne : ¬ (45 : UInt8) = b := fun e => by rw [← e] at hb; exact absurd hb (by decide)
    rw [Lib.index, ih (fun x hx => h x (by simp [hx]))]
    simp [List.isPrefixOf, hne]

end Go.Proofs.YtinndpnilmmmjaaGreatDoor
namespace Go.Proofs.YtinndpnilmmmjaaGreatDoor

theorem index_head (l : List UInt8) : Lib.index (45 :: l) [45] = ((0 : Nat) : Int) := by
  rw [Lib.index]
  simp [List.isPrefixOf]

theorem count_some (l : List UInt8) : 1 ≤ Lib.count (45 :: l) [45] := by
  rw [Lib.count_hit (by simp) (index_head l)]
  omega

/-- strings.Replace(strconv.Itoa(n), "-", mark, 1) is the number's text. -/
theorem itoa_text (n : Int) : Lib.replace (Lib.itoa n) [45] [194, 175] 1 = zb (numT n) := by
  unfold Lib.replace
  rw [if_neg (by decide)]
  by_cases h : n < 0
  · have hc := count_some (Lib.decDigits n.natAbs)
    have e : Lib.itoa n = 45 :: Lib.decDigits n.natAbs := by rw [Lib.itoa, if_pos h]
    have hnum : Lib.replaceNum (45 :: Lib.decDigits n.natAbs) [45] 1 = 0 + 1 := by
      unfold Lib.replaceNum
      rw [if_neg (by omega)]
      rfl
    rw [e, hnum, Lib.replaceK_hit _ _ _ _ _ (index_head _)]
    unfold numT
    rw [if_pos h, zb_app, ← dec_digits]
    simp [Lib.replaceK, zb]
  · have e : Lib.itoa n = Lib.decDigits n.natAbs := by
      rw [Lib.itoa, if_neg h]
      congr 1
      omega
    have hi : Lib.index (Lib.decDigits n.natAbs) [45] = -1 := by
      rw [dec_digits]
      exact index_none (zb_digit (decZ_byte _))
    have hnum : Lib.replaceNum (Lib.decDigits n.natAbs) [45] 1 = 0 := by
      unfold Lib.replaceNum
      rw [Lib.count_miss hi, if_pos (by omega)]
    rw [e, hnum]
    unfold numT
    rw [if_neg h]
    simp [Lib.replaceK, dec_digits]

end Go.Proofs.YtinndpnilmmmjaaGreatDoor
namespace Go.Proofs.YtinndpnilmmmjaaGreatDoor
open Go

theorem index_q (l : List UInt8) : Lib.index (39 :: l) [39] = ((0 : Nat) : Int) := by
  rw [Lib.index]
  simp [List.isPrefixOf]

theorem index_b {b : UInt8} (hb : b ≠ 39) (l : List UInt8) : Lib.index (b :: l) [39] = if Lib.index l [39] = -1 then -1 else Lib.index l [39] + 1 := by
  rw [Lib.index]
  have h1 : (39 == b) = false := by simpa using fun e => hb e.symm
  simp [List.isPrefixOf, h1]

/-- strings.ReplaceAll(s, quote, quote + quote) writes each quote twice. -/
theorem replaceK_qd : ∀ l : List UInt8, Lib.replaceK [39] [39, 39] (Lib.count l [39]) l = qd l
  | [] => by
    have hi : Lib.index [] [39] = -1 := by rw [Lib.index]; rfl
    rw [Lib.count_miss hi]
    rfl
  | b :: l => by
    have ih := replaceK_qd l
    by_cases hb : b = 39
    · subst hb
      rw [Lib.count_hit (by simp) (index_q l), Nat.add_comm, Lib.replaceK_hit _ _ _ _ _ (index_q l)]
      show [] ++ [39, 39] ++ Lib.replaceK [39] [39, 39] (Lib.count l [39]) l = _
      rw [ih]
      unfold qd
      rw [List.flatMap_cons, if_pos rfl]
      rfl
    · have hq : qd (b :: l) = b :: qd l := by unfold qd; rw [List.flatMap_cons, if_neg hb]; rfl
      rw [hq]
      have hi := index_b hb l
      by_cases h : Lib.index l [39] = -1
      · rw [if_pos h] at hi
        rw [Lib.count_miss hi]
        rw [Lib.count_miss h] at ih
        have : l = qd l := ih
        show b :: l = _
        rw [← this]
      · rw [if_neg h] at hi
        have hge := Lib.index_ge l [39]
        obtain ⟨i, hl⟩ : ∃ i : Nat, Lib.index l [39] = i := ⟨(Lib.index l [39]).toNat, by omega⟩
        rw [hl] at hi
        have hi' : Lib.index (b :: l) [39] = ((i + 1 : Nat) : Int) := by rw [hi]; rfl
        rw [Lib.count_hit (by simp) hl, Nat.add_comm, Lib.replaceK_hit _ _ _ _ _ hl] at ih
        rw [Lib.count_hit (by simp) hi', Nat.add_comm, Lib.replaceK_hit _ _ _ _ _ hi', ← ih]
        rfl

theorem replaceAll_qd (l : List UInt8) : Lib.replaceAll l [39] [39, 39] = qd l := by
  unfold Lib.replaceAll Lib.replace
  rw [if_neg (by decide)]
  have : Lib.replaceNum l [39] (-1) = Lib.count l [39] := by unfold Lib.replaceNum; rw [if_pos (by omega)]
  rw [this]
  exact replaceK_qd l

end Go.Proofs.YtinndpnilmmmjaaGreatDoor
namespace Go.Proofs.YtinndpnilmmmjaaGreatDoor
open Go.RowKit

/-- The tables that a token's spelling comes to lie as laid. -/
structure GlT (w : World) : Prop where
  pow : Lib.TabIs Tryz.prog w "internal/strconv.uint64pow10" .u64 Lib.pow10Tab
  len : ∃ m : Int, w.cell? ⟨4, 0, none⟩ = some (.int .i64 m)

theorem var_belowT {W W' : World} {n : String} {cs : Array Value} (h : W.var? Tryz.prog n = some cs) (hb : Below W.heap.size W W') : W'.var? Tryz.prog n = some cs := by
  unfold World.var? at h ⊢
  cases hg : Tryz.prog.globalNamed n with
  | none => simp [hg] at h
  | some g =>
    simp only [hg, Option.bind_some] at h ⊢
    have hlt : g < W.heap.size := by
      cases hh : W.heap[g]? with
      | none => rw [hh] at h; cases h
      | some o => exact (Array.getElem?_eq_some_iff.1 hh).1
    rw [hb.block g hlt]; exact h

theorem GlT.below {w w' : World} (h : GlT w) (hb : Below w.heap.size w w') : GlT w' := by
  obtain ⟨m, hm⟩ := h.len
  exact ⟨var_belowT h.pow hb, m, (hb.cell (p := ⟨4, 0, none⟩) (World.block_lt_of_cell? _ _ hm)).trans hm⟩

theorem extra_repl : Builder.Extra Tryz.prog Tryz.replAllS_ren where
  sizeBuilder := by kernel_rfl
  liesBuilder := by kernel_rfl
  t5 := Tryz.underlying5
  a5 := Tryz.isAgg5
  z5 := Tryz.sizeOf5
  v5 := Tryz.zeroValue5
  infoByte := by kernel_rfl
  cellsByte := by kernel_rfl
  sizeByte := by kernel_rfl
  neB5 := by decide

theorem itoa_len {n : Int} (h : n.natAbs < 10 ^ 19) : (Lib.itoa n).length ≤ 20 := by
  have h1 := decZ_le 18 n.natAbs h
  have h2 := decZ_le 18 n.toNat (by omega)
  unfold Lib.itoa
  split
  · rw [dec_digits]; simp [zb]; omega
  · rw [dec_digits]; simp [zb]; omega

theorem below_growT (w : World) (q : Nat) (os : Array Obj) : Below w.heap.size w (Go.Sort.grow (w.drewN q) os) := ⟨rfl, rfl, rfl, by simp [Go.Sort.grow], fun k hk => by simp [Go.Sort.grow, Array.getElem?_append, hk]⟩

set_option maxHeartbeats 1000000 in
theorem spell_num (n at' : Int) (t : ByteArray) (hn : -9223372036854775808 ≤ n ∧ n ≤ 9223372036854775807) (w : World) (hG : GlT w) :
    Calls Tryz.prog 82 #[.agg #[.int .i64 1, .int .i64 n, .string t, .int .i64 at']] w fun e w' => e = .returned (.string (bstr (numT n))) ∧ Below w.heap.size w w' := by
  have HG := hide hG
  have HN := hide hn
  clear hG hn
  go_enter Tryz.func82, Tryz.ntmps82
  go_wp2_with fail
  refine (Any.strconv_Itoa Tryz.itoaS n (by have := unhide HN; omega) (by have := unhide HN; omega) _ (by exact ((unhide HG).below ((Below.refl _ _).alloc (Nat.le_refl _) _)).pow)).mono ?_
  rintro e w1 ⟨rfl, q, os, hw1⟩
  have hb1 : Below w.heap.size w w1 := by rw [hw1]; exact ((Below.refl _ _).alloc (Nat.le_refl _) _).trans ((below_growT _ _ _).mono (by simp))
  have HB := hide hb1
  clear hb1 hw1
  obtain ⟨m, hm⟩ := ((unhide HG).below (unhide HB)).len
  have hl := itoa_len (n := n) (by have := unhide HN; omega)
  go_wp2_with fail
  refine (Any.strings_Replace (P := Tryz.prog) (ρ := Tryz.replAllS_ren) { Tryz.replAllS with } extra_repl ⟨(Lib.itoa n).toArray⟩ ⟨#[45]⟩ ⟨#[194, 175]⟩ 1 m _ (by simp [ByteArray.size]; omega) hm (by decide) (by
    have h7 := Lib.count_le (Lib.itoa n) [45]
    show (Lib.itoa n).toArray.size + Lib.count (Lib.itoa n) [45] * 2 ≤ _
    simp
    omega)).mono ?_
  rintro e w2 ⟨rfl, hb2⟩
  have HB2 := hide ((unhide HB).trans (hb2.mono (unhide HB).size))
  have HT : Hid ((ByteArray.mk (Lib.replace (Lib.itoa n) [45] [194, 175] 1).toArray) = bstr (numT n)) := by
    show _ = _
    rw [itoa_text]
    rfl
  clear hb2 hm hl
  go_wp2_with fail
  go_ret
  exact ⟨by rw [← unhide HT]; rfl, unhide HB2⟩

set_option maxHeartbeats 1000000 in
theorem spell_text (n at' : Int) (t : ByteArray) (ht : t.size ≤ 1048576) (w : World) (hG : GlT w) :
    Calls Tryz.prog 82 #[.agg #[.int .i64 2, .int .i64 n, .string t, .int .i64 at']] w fun e w' => e = .returned (.string ⟨(quoteL t.data.toList).toArray⟩) ∧ Below w.heap.size w w' := by
  obtain ⟨m, hm⟩ := (hG.below ((Below.refl _ _).alloc (Nat.le_refl _) (.cells #[.int .i64 2, .int .i64 n, .string t, .int .i64 at'] 64))).len
  have hc := Any.strings_ReplaceAll (P := Tryz.prog) (ρ := Tryz.replAllS_ren) Tryz.replAllS extra_repl t ⟨#[39]⟩ ⟨#[39, 39]⟩ m (w.alloc (.cells #[.int .i64 2, .int .i64 n, .string t, .int .i64 at'] 64)) (by omega) hm (by decide) (by
    have h7 := Lib.count_le t.data.toList [39]
    show t.size + Lib.count t.data.toList [39] * 2 ≤ _
    rw [← Lib.size_eq] at h7
    omega)
  obtain ⟨x, hx⟩ : ∃ x : ByteArray, ⟨(qd t.data.toList).toArray⟩ = x := ⟨_, rfl⟩
  have hq : (ByteArray.mk (Lib.replaceAll t.data.toList (ByteArray.mk #[39]).data.toList (ByteArray.mk #[39, 39]).data.toList).toArray) = x := by
    rw [← hx]
    show ByteArray.mk (Lib.replaceAll t.data.toList [39] [39, 39]).toArray = _
    rw [replaceAll_qd]
  rw [hq] at hc
  have HC := hide hc
  have hxs : x.size ≤ 2097152 := by
    rw [← hx]
    show (qd t.data.toList).toArray.size ≤ _
    have := (qd_len t.data.toList).1
    rw [← Lib.size_eq] at this
    rw [List.size_toArray]
    omega
  have HR : Hid ((ByteArray.mk #[39] ++ x) ++ ByteArray.mk #[39] = ⟨(quoteL t.data.toList).toArray⟩) := by
    show _ = _
    rw [← hx]
    refine ByteArray.ext (Array.toList_inj.1 ?_)
    rw [ByteArray.data_append, ByteArray.data_append, Array.toList_append, Array.toList_append]
    unfold quoteL qd
    simp
  have hno1 : ¬ 9223372036854775807 < (ByteArray.mk #[39]).size + x.size := by rw [show (ByteArray.mk #[39]).size = 1 from rfl]; omega
  have hno2 : ¬ 9223372036854775807 < (ByteArray.mk #[39] ++ x).size + (ByteArray.mk #[39]).size := by rw [ByteArray.size_append, show (ByteArray.mk #[39]).size = 1 from rfl]; omega
  clear hc hq hm hx hG ht
  go_enter Tryz.func82, Tryz.ntmps82
  go_wp2_with (go_at_call 126; refine (unhide HC).mono ?_; rintro e w1 ⟨rfl, hb1⟩; have HB1 := hide (((Below.refl _ w).alloc (Nat.le_refl _) (.cells #[.int .i64 2, .int .i64 n, .string t, .int .i64 at'] 64)).trans (hb1.mono (by simp))); clear hb1)
  go_ret
  exact ⟨by rw [← unhide HR]; rfl, unhide HB1⟩

theorem spell_other (k n at' : Int) (t : ByteArray) (h1 : k ≠ 1) (h2 : k ≠ 2) (w : World) :
    Calls Tryz.prog 82 #[.agg #[.int .i64 k, .int .i64 n, .string t, .int .i64 at']] w fun e w' => e = .returned (.string t) ∧ Below w.heap.size w w' := by
  have e1 : (k == 1) = false := by simpa using h1
  have e2 : (k == 2) = false := by simpa using h2
  clear h1 h2
  go_enter Tryz.func82, Tryz.ntmps82
  go_wp2_with fail
  go_ret
  exact ⟨rfl, (Below.refl _ _).alloc (Nat.le_refl _) _⟩

theorem spell_any (k n at' : Int) (t : ByteArray) (hn : -9223372036854775808 ≤ n ∧ n ≤ 9223372036854775807) (ht : t.size ≤ 1048576) (w : World) (hG : GlT w) :
    Calls Tryz.prog 82 #[.agg #[.int .i64 k, .int .i64 n, .string t, .int .i64 at']] w fun e w' => e = .returned (.string (spellT k n t)) ∧ Below w.heap.size w w' := by
  unfold spellT
  by_cases h1 : k = 1
  · rw [if_pos h1, h1]; exact spell_num n at' t hn w hG
  · rw [if_neg h1]
    by_cases h2 : k = 2
    · rw [if_pos h2, h2]; exact spell_text n at' t ht w hG
    · rw [if_neg h2]; exact spell_other k n at' t h1 h2 w

end Go.Proofs.YtinndpnilmmmjaaGreatDoor
