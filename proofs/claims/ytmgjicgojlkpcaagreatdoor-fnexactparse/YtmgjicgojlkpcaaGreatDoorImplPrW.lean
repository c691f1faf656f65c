import Derived.Test.YtmgjicgojlkpcaaGreatDoorImplPr
namespace Go.Proofs.YtmgjicgojlkpcaaGreatDoor
open Go.RowKit

theorem eg_write : ∀ args w, (callFunc 35 args).run Tryz.prog w = .ok (.enter 35 args) w := enters_of Tryz.func35 (by kernel_rfl) rfl

theorem extra_wbyte : Builder.Extra Tryz.prog Tryz.wbyteS_ren where
  sizeBuilder := by kernel_rfl
  liesBuilder := by kernel_rfl
  t5 := Tryz.underlying5
  a5 := Tryz.isAgg5
  z5 := Tryz.sizeOf5
  v5 := Tryz.zeroValue5
  infoByte := by kernel_rfl
  cellsByte := by kernel_rfl
  sizeByte := by kernel_rfl
  neB5 := by decide

theorem IX.grown {Z w w' : World} {tb fb : Nat} {st : List UInt8 × Bool} {l : List UInt8} (h : IX Z tb fb w st) (hi : IsB w' Z.heap.size tb l) (hb : Below Z.heap.size w w') (ho : Lib.OthersKept 5 (some tb) w w') : IX Z tb fb w' (l, st.2) ∧ Kept tb fb w w' := by
  have hs : w.heap.size ≤ w'.heap.size := hb.size
  exact ⟨⟨hi, ho fb _ h.flag (fun e => h.ne (by simpa using e)) (noB_of (by decide)), h.low.trans hb, h.hf⟩, Kept.of_others ho hs⟩

theorem bwriteK (Z : World) (tb fb : Nat) (w : World) (st : List UInt8 × Bool) (s : ByteArray) (h : IX Z tb fb w st) (hlen : lenP st + s.size ≤ 17592186044416) :
    Calls Tryz.prog 37 #[.pointer (some ⟨tb, 0, none⟩), .string s] w fun e w' => (∃ v, e = .returned v) ∧ IX Z tb fb w' (st.1 ++ s.data.toList, st.2) ∧ Kept tb fb w w' := by
  have hl : st.1.length + s.size ≤ 17592186044416 := hlen
  refine (Any.Builder_WriteString_k { Tryz.replaceS with } extra_builder Z.heap.size tb (Lib.byteCells st.1) s w h.isb (by simp [Lib.byteCells]; omega) h.low.size).mono ?_
  rintro e w' ⟨rfl, h1, h2, h3⟩
  have e : Lib.byteCells st.1 ++ Lib.strCells s = Lib.byteCells (st.1 ++ s.data.toList) := by simp [Lib.byteCells, Lib.strCells]
  rw [e] at h1
  exact ⟨⟨_, rfl⟩, h.grown (Or.inr h1) h2 h3⟩

theorem bbyteK (Z : World) (tb fb : Nat) (w : World) (st : List UInt8 × Bool) (h : IX Z tb fb w st) (hlen : lenP st + 1 ≤ 17592186044416) :
    Calls Tryz.prog 36 #[.pointer (some ⟨tb, 0, none⟩), .int .u8 32] w fun e w' => (∃ v, e = .returned v) ∧ IX Z tb fb w' (st.1 ++ [32], st.2) ∧ Kept tb fb w w' := by
  have hl : st.1.length + 1 ≤ 17592186044416 := hlen
  refine (Any.Builder_WriteByte_k { Tryz.wbyteS with } extra_wbyte Z.heap.size tb (Lib.byteCells st.1) 32 w h.isb (by simp [Lib.byteCells]; omega) h.low.size).mono ?_
  rintro e w' ⟨rfl, h1, h2, h3⟩
  have e : Lib.byteCells st.1 ++ [Value.int .u8 32] = Lib.byteCells (st.1 ++ [32]) := by simp [Lib.byteCells]
  rw [e] at h1
  exact ⟨⟨_, rfl⟩, h.grown (Or.inr h1) h2 h3⟩

/-- The flag set. -/
theorem IX.setFlag {Z w : World} {tb fb : Nat} {st : List UInt8 × Bool} (h : IX Z tb fb w st) (b : Bool) : IX Z tb fb (w.setCell ⟨fb, 0, none⟩ (.bool b)) (st.1, b) ∧ Kept tb fb w (w.setCell ⟨fb, 0, none⟩ (.bool b)) := by
  have hne := h.ne
  have hoth : ∀ k, k ≠ fb → (w.setCell ⟨fb, 0, none⟩ (.bool b)).heap[k]? = w.heap[k]? := fun k hk => heap_setCell_other w ⟨fb, 0, none⟩ k _ (fun e => hk e)
  have hnb : ∀ g c fz, w.heap[g]? = some (.cells c 5 fz) → g ≠ fb := by
    intro g c fz hg e
    rw [e, h.flag] at hg
    exact noB_of (T := 4) (by decide) _ _ (Option.some.inj hg)
  refine ⟨⟨?_, ?_, ⟨h.low.os, h.low.tape, h.low.output, by simpa using h.low.size, fun k hk => ?_⟩, h.hf⟩, fun k o hk _ h2 _ => (hoth k h2).trans hk, by simp⟩
  · have key : ∀ p, Lib.BuilderAtF (Tryz.replaceS_ren.t 72) (Tryz.replaceS_ren.t 5) Z.heap.size tb p (Lib.byteCells st.1) w → Lib.BuilderAtF (Tryz.replaceS_ren.t 72) (Tryz.replaceS_ren.t 5) Z.heap.size tb p (Lib.byteCells st.1) (w.setCell ⟨fb, 0, none⟩ (.bool b)) := by
      rintro p ⟨hB, v, hbk, hown, hne'⟩
      refine ⟨hB, v, (hoth tb (fun e => hne e.symm)).trans hbk, ⟨hown.1, ?_⟩, hne'⟩
      rcases hown.2 with hn | ⟨g, cap, cur, fz, hv, hbg, hg, rest⟩
      · exact .inl hn
      · exact .inr ⟨g, cap, cur, fz, hv, hbg, (hoth g (hnb g _ _ hg)).trans hg, rest⟩
    exact h.isb.elim (fun x => .inl (key _ x)) (fun x => .inr (key _ x))
  · rw [heap_setCell_same w fb 0 _ _ _ h.flag]
    simp
  · have := h.hf
    exact (hoth k (by omega)).trans (h.low.block k hk)

end Go.Proofs.YtmgjicgojlkpcaaGreatDoor
