import Derived.Test.YtinndpnilmmmjaaGreatDoorNumMath2
import Derived.Test.YtinndpnilmmmjaaGreatDoorReplMath2
import Derived.Test.YtinndpnilmmmjaaGreatDoorMFit2
import Derived.Test.YtinndpnilmmmjaaGreatDoorShelfReplAll
import Derived.Test.YtinndpnilmmmjaaGreatDoorShelfItoa
namespace Go.Proofs.YtinndpnilmmmjaaGreatDoor
open Go.RowKit

/-- The tables that a token's spelling comes to lie as laid. -/
structure GlT (w : World) : Prop where
  pow : Lib.TabIs Tryz.prog w "internal/strconv.uint64pow10" .u64 Lib.pow10Tab
  len : ∃ m : Int, w.cell? ⟨4, 0, none⟩ = some (.int .i64 m)

theorem var_belowT {W W' : World} {n : String} {cs : Array Value} (h : W.var? Tryz.prog n = some cs) (hb : Below W.heap.size W W') : W'.var? Tryz.prog n = some cs := by
  unfold World.var? at h ⊢
  cases hg : Tryz.prog.globalNamed n with
  | none => simp [hg] at h
  | some g =>
    simp only [hg, Option.bind_some] at h ⊢
    have hlt : g < W.heap.size := by
      cases hh : W.heap[g]? with
      | none => rw [hh] at h; cases h
      | some o => exact (Array.getElem?_eq_some_iff.1 hh).1
    rw [hb.block g hlt]; exact h

theorem GlT.below {w w' : World} (h : GlT w) (hb : Below w.heap.size w w') : GlT w' := by
  obtain ⟨m, hm⟩ := h.len
  exact ⟨var_belowT h.pow hb, m, (hb.cell (p := ⟨4, 0, none⟩) (World.block_lt_of_cell? _ _ hm)).trans hm⟩

theorem extra_repl : Builder.Extra Tryz.prog Tryz.replAllS_ren where
  sizeBuilder := by kernel_rfl
  liesBuilder := by kernel_rfl
  t5 := Tryz.underlying5
  a5 := Tryz.isAgg5
  z5 := Tryz.sizeOf5
  v5 := Tryz.zeroValue5
  infoByte := by kernel_rfl
  cellsByte := by kernel_rfl
  sizeByte := by kernel_rfl
  neB5 := by decide

theorem itoa_len {n : Int} (h : n.natAbs < 10 ^ 19) : (Lib.itoa n).length ≤ 20 := by
  have h1 := decZ_le 18 n.natAbs h
  have h2 := decZ_le 18 n.toNat (by omega)
  unfold Lib.itoa
  split
  · rw [dec_digits]; simp [zb]; omega
  · rw [dec_digits]; simp [zb]; omega

theorem below_growT (w : World) (q : Nat) (os : Array Obj) : Below w.heap.size w (Go.Sort.grow (w.drewN q) os) := ⟨rfl, rfl, rfl, by simp [Go.Sort.grow], fun k hk => by simp [Go.Sort.grow, Array.getElem?_append, hk]⟩

set_option maxHeartbeats 1000000 in
theorem spell_num (n at' : Int) (t : ByteArray) (hn : -9223372036854775808 ≤ n ∧ n ≤ 9223372036854775807) (w : World) (hG : GlT w) :
    Calls Tryz.prog 82 #[.agg #[.int .i64 1, .int .i64 n, .string t, .int .i64 at']] w fun e w' => e = .returned (.string (bstr (numT n))) ∧ Below w.heap.size w w' := by
  have HG := hide hG
  have HN := hide hn
  clear hG hn
  go_enter Tryz.func82, Tryz.ntmps82
  go_wp2_with fail
  refine (Any.strconv_Itoa Tryz.itoaS n (by have := unhide HN; omega) (by have := unhide HN; omega) _ (by exact ((unhide HG).below ((Below.refl _ _).alloc (Nat.le_refl _) _)).pow)).mono ?_
  rintro e w1 ⟨rfl, q, os, hw1⟩
  have hb1 : Below w.heap.size w w1 := by rw [hw1]; exact ((Below.refl _ _).alloc (Nat.le_refl _) _).trans ((below_growT _ _ _).mono (by simp))
  have HB := hide hb1
  clear hb1 hw1
  obtain ⟨m, hm⟩ := ((unhide HG).below (unhide HB)).len
  have hl := itoa_len (n := n) (by have := unhide HN; omega)
  go_wp2_with fail
  refine (Any.strings_Replace (P := Tryz.prog) (ρ := Tryz.replAllS_ren) { Tryz.replAllS with } extra_repl ⟨(Lib.itoa n).toArray⟩ ⟨#[45]⟩ ⟨#[194, 175]⟩ 1 m _ (by simp [ByteArray.size]; omega) hm (by decide) (by
    have h7 := Lib.count_le (Lib.itoa n) [45]
    show (Lib.itoa n).toArray.size + Lib.count (Lib.itoa n) [45] * 2 ≤ _
    simp
    omega)).mono ?_
  rintro e w2 ⟨rfl, hb2⟩
  have HB2 := hide ((unhide HB).trans (hb2.mono (unhide HB).size))
  have HT : Hid ((ByteArray.mk (Lib.replace (Lib.itoa n) [45] [194, 175] 1).toArray) = bstr (numT n)) := by
    show _ = _
    rw [itoa_text]
    rfl
  clear hb2 hm hl
  go_wp2_with fail
  go_ret
  exact ⟨by rw [← unhide HT]; rfl, unhide HB2⟩

set_option maxHeartbeats 1000000 in
theorem spell_text (n at' : Int) (t : ByteArray) (ht : t.size ≤ 1048576) (w : World) (hG : GlT w) :
    Calls Tryz.prog 82 #[.agg #[.int .i64 2, .int .i64 n, .string t, .int .i64 at']] w fun e w' => e = .returned (.string ⟨(quoteL t.data.toList).toArray⟩) ∧ Below w.heap.size w w' := by
  obtain ⟨m, hm⟩ := (hG.below ((Below.refl _ _).alloc (Nat.le_refl _) (.cells #[.int .i64 2, .int .i64 n, .string t, .int .i64 at'] 64))).len
  have hc := Any.strings_ReplaceAll (P := Tryz.prog) (ρ := Tryz.replAllS_ren) Tryz.replAllS extra_repl t ⟨#[39]⟩ ⟨#[39, 39]⟩ m (w.alloc (.cells #[.int .i64 2, .int .i64 n, .string t, .int .i64 at'] 64)) (by omega) hm (by decide) (by
    have h7 := Lib.count_le t.data.toList [39]
    show t.size + Lib.count t.data.toList [39] * 2 ≤ _
    rw [← Lib.size_eq] at h7
    omega)
  obtain ⟨x, hx⟩ : ∃ x : ByteArray, ⟨(qd t.data.toList).toArray⟩ = x := ⟨_, rfl⟩
  have hq : (ByteArray.mk (Lib.replaceAll t.data.toList (ByteArray.mk #[39]).data.toList (ByteArray.mk #[39, 39]).data.toList).toArray) = x := by
    rw [← hx]
    show ByteArray.mk (Lib.replaceAll t.data.toList [39] [39, 39]).toArray = _
    rw [replaceAll_qd]
  rw [hq] at hc
  have HC := hide hc
  have hxs : x.size ≤ 2097152 := by
    rw [← hx]
    show (qd t.data.toList).toArray.size ≤ _
    have := (qd_len t.data.toList).1
    rw [← Lib.size_eq] at this
    rw [List.size_toArray]
    omega
  have HR : Hid ((ByteArray.mk #[39] ++ x) ++ ByteArray.mk #[39] = ⟨(quoteL t.data.toList).toArray⟩) := by
    show _ = _
    rw [← hx]
    refine ByteArray.ext (Array.toList_inj.1 ?_)
    rw [ByteArray.data_append, ByteArray.data_append, Array.toList_append, Array.toList_append]
    unfold quoteL qd
    simp
  have hno1 : ¬ 9223372036854775807 < (ByteArray.mk #[39]).size + x.size := by rw [show (ByteArray.mk #[39]).size = 1 from rfl]; omega
  have hno2 : ¬ 9223372036854775807 < (ByteArray.mk #[39] ++ x).size + (ByteArray.mk #[39]).size := by rw [ByteArray.size_append, show (ByteArray.mk #[39]).size = 1 from rfl]; omega
  clear hc hq hm hx hG ht
  go_enter Tryz.func82, Tryz.ntmps82
  go_wp2_with (go_at_call 126; refine (unhide HC).mono ?_; rintro e w1 ⟨rfl, hb1⟩; have HB1 := hide (((Below.refl _ w).alloc (Nat.le_refl _) (.cells #[.int .i64 2, .int .i64 n, .string t, .int .i64 at'] 64)).trans (hb1.mono (by simp))); clear hb1)
  go_ret
  exact ⟨by rw [← unhide HR]; rfl, unhide HB1⟩

theorem spell_other (k n at' : Int) (t : ByteArray) (h1 : k ≠ 1) (h2 : k ≠ 2) (w : World) :
    Calls Tryz.prog 82 #[.agg #[.int .i64 k, .int .i64 n, .string t, .int .i64 at']] w fun e w' => e = .returned (.string t) ∧ Below w.heap.size w w' := by
  have e1 : (k == 1) = false := by simpa using h1
  have e2 : (k == 2) = false := by simpa using h2
  clear h1 h2
  go_enter Tryz.func82, Tryz.ntmps82
  go_wp2_with fail
  go_ret
  exact ⟨rfl, (Below.refl _ _).alloc (Nat.le_refl _) _⟩

theorem spell_any (k n at' : Int) (t : ByteArray) (hn : -9223372036854775808 ≤ n ∧ n ≤ 9223372036854775807) (ht : t.size ≤ 1048576) (w : World) (hG : GlT w) :
    Calls Tryz.prog 82 #[.agg #[.int .i64 k, .int .i64 n, .string t, .int .i64 at']] w fun e w' => e = .returned (.string (spellT k n t)) ∧ Below w.heap.size w w' := by
  unfold spellT
  by_cases h1 : k = 1
  · rw [if_pos h1, h1]; exact spell_num n at' t hn w hG
  · rw [if_neg h1]
    by_cases h2 : k = 2
    · rw [if_pos h2, h2]; exact spell_text n at' t ht w hG
    · rw [if_neg h2]; exact spell_other k n at' t h1 h2 w

end Go.Proofs.YtinndpnilmmmjaaGreatDoor
