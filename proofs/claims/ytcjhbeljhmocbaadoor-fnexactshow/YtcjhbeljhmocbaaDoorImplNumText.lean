import Derived.Test.YtcjhbeljhmocbaaDoorMNum
import Derived.Test.YtcjhbeljhmocbaaDoorSpecDec
import Derived.Test.YtcjhbeljhmocbaaDoorShelfReplace
import Derived.Test.YtcjhbeljhmocbaaDoorShelfItoa
import Derived.Test.YtcjhbeljhmocbaaDoorShelfRCount
import Derived.Lib.CountLaws
namespace Go.Proofs.YtcjhbeljhmocbaaDoor
open Go.RowKit

/-- The tables that Show comes to lie as laid. -/
structure GlS (w : World) : Prop where
  pow : Lib.TabIs Tryd.prog w "internal/strconv.uint64pow10" .u64 Lib.pow10Tab
  len : ∃ m : Int, w.cell? ⟨0, 0, none⟩ = some (.int .i64 m)

theorem var_belowS {W W' : World} {n : String} {cs : Array Value} (h : W.var? Tryd.prog n = some cs) (hb : Below W.heap.size W W') : W'.var? Tryd.prog n = some cs := by
  unfold World.var? at h ⊢
  cases hg : Tryd.prog.globalNamed n with
  | none => simp [hg] at h
  | some g =>
    simp only [hg, Option.bind_some] at h ⊢
    have hlt : g < W.heap.size := by
      cases hh : W.heap[g]? with
      | none => rw [hh] at h; cases h
      | some o => exact (Array.getElem?_eq_some_iff.1 hh).1
    rw [hb.block g hlt]; exact h

theorem GlS.below {w w' : World} (h : GlS w) (hb : Below w.heap.size w w') : GlS w' := by
  obtain ⟨m, hm⟩ := h.len
  exact ⟨var_belowS h.pow hb, m, (hb.cell (p := ⟨0, 0, none⟩) (World.block_lt_of_cell? _ _ hm)).trans hm⟩

theorem extra_replace : Builder.Extra Tryd.prog Tryd.replaceS_ren where
  sizeBuilder := by kernel_rfl
  liesBuilder := by kernel_rfl
  t5 := Tryd.underlying5
  a5 := Tryd.isAgg5
  z5 := Tryd.sizeOf5
  v5 := Tryd.zeroValue5
  infoByte := by kernel_rfl
  cellsByte := by kernel_rfl
  sizeByte := by kernel_rfl
  neB5 := by decide

theorem itoa_len {n : Int} (h : -1000000000000000 ≤ n ∧ n ≤ 1000000000000000) : (Lib.itoa n).length ≤ 20 := by
  have h1 := decZ_le 15 n.natAbs (by omega)
  have h2 := decZ_le 15 n.toNat (by omega)
  unfold Lib.itoa
  split
  · rw [dec_digits]; simp [zb]; omega
  · rw [dec_digits]; simp [zb]; omega

theorem below_grow (w : World) (q : Nat) (os : Array Obj) : Below w.heap.size w (Go.Sort.grow (w.drewN q) os) := ⟨rfl, rfl, rfl, by simp [Go.Sort.grow], fun k hk => by simp [Go.Sort.grow, Array.getElem?_append, hk]⟩

theorem spelling_num (n : Int) (hn : -1000000000000000 ≤ n ∧ n ≤ 1000000000000000) (w : World) (hG : GlS w) :
    Calls Tryd.prog 48 #[.agg #[.int .i64 1, .int .i64 n, .string ⟨#[]⟩, .int .i64 0]] w fun e w' => e = .returned (.string (bstr (numT n))) ∧ Below w.heap.size w w' := by
  have HG := hide hG
  have HN := hide hn
  clear hG hn
  go_enter Tryd.func48, Tryd.ntmps48
  go_wp2_with fail
  refine (Any.strconv_Itoa Tryd.itoaS n (by have := unhide HN; omega) (by have := unhide HN; omega) _ (by exact ((unhide HG).below ((Below.refl _ _).alloc (Nat.le_refl _) _)).pow)).mono ?_
  rintro e w1 ⟨rfl, q, os, hw1⟩
  have hb1 : Below w.heap.size w w1 := by rw [hw1]; exact ((Below.refl _ _).alloc (Nat.le_refl _) _).trans ((below_grow _ _ _).mono (by simp))
  have HB := hide hb1
  clear hb1 hw1
  obtain ⟨m, hm⟩ := ((unhide HG).below (unhide HB)).len
  have hl := itoa_len (unhide HN)
  go_wp2_with fail
  refine (Any.strings_Replace Tryd.replaceS extra_replace ⟨(Lib.itoa n).toArray⟩ ⟨#[45]⟩ ⟨#[194, 175]⟩ 1 m _ (by simp [ByteArray.size]; omega) hm (by decide) (by
    have h7 := Lib.count_le (Lib.itoa n) [45]
    show (Lib.itoa n).toArray.size + Lib.count (Lib.itoa n) [45] * 2 ≤ _
    simp
    omega)).mono ?_
  rintro e w2 ⟨rfl, hb2⟩
  have HB2 := hide ((unhide HB).trans (hb2.mono (unhide HB).size))
  have HT : Hid ((ByteArray.mk (Lib.replace (Lib.itoa n) [45] [194, 175] 1).toArray) = bstr (numT n)) := by
    show _ = _
    rw [itoa_text]
    rfl
  clear hb2 hm hl
  go_wp2_with fail
  go_ret
  exact ⟨by rw [← unhide HT]; rfl, unhide HB2⟩

end Go.Proofs.YtcjhbeljhmocbaaDoor
