import Derived.Test.YtkgcmpmgaghdhaaGreatDoorRangeLaw
import Derived.Test.YtkgcmpmgaghdhaaGreatDoorMFit1
import Derived.Test.YtkgcmpmgaghdhaaGreatDoorImplAdvance
import Derived.Test.YtkgcmpmgaghdhaaGreatDoorMFit2
import Derived.RangeFuncBound
import Derived.RangeFuncCalls
import Derived.Shelf.Abstract
import Derived.Shelf.RegionOpen
import Derived.WalkKit
import Derived.OwnWalkIn
import Derived.TacticsInMore
import Derived.LoopNIn
import Derived.LoopIn
namespace Go.Proofs.YtkgcmpmgaghdhaaGreatDoor
open Go.RowKit Go.Shelf

attribute [local go_sem] Oper.semAt_some

/-- What a round is handed: the index of its number, in a block from lo on. -/
def ixAt (n : Nat) (sh : List Int) (lo : Nat) (k : Nat) (v : Value) (W : World) : Prop := ∃ g, lo ≤ g ∧ v = .slice (some ⟨g, 0, none⟩) n n ∧ Blk W g (digits sh k)

theorem indexesIn_any (sa : Option Addr) (n cap : Nat) (w : World) : Calls Tryz.prog 126 #[.slice sa n cap] w fun e w' => e = .returned (.func (.func 163) #[] #[.pointer (some ⟨w.heap.size, 0, none⟩)]) ∧ w' = w.alloc (.cells #[.slice sa n cap] 23) := by
  go_enter Tryz.func126, Tryz.ntmps126
  go_wp2
  go_ret
  exact ⟨rfl, rfl⟩

theorem cellsOf_n (a : Option Addr) (n cap : Nat) (sh : List Int) (w : World) (h : Row w a n sh) (hin : ShapeIn sh) (N : Nat) (hr : Hid (prodAll sh = (N : Int))) : Calls Tryz.prog 51 #[.slice a n cap] w fun e w' => e = .returned (.int .i64 (N : Int)) ∧ w' = w := by
  rw [← hr.out]
  exact cellsOf_any a n cap sh w h (fun k => (hin.take k).bd)

set_option maxRecDepth 100000 in
set_option maxHeartbeats 2000000 in
theorem indexesIn1_seq (m Bn : Nat) (sa : Option Addr) (n cap : Nat) (sh : List Int) (w0 : World) (N : Nat) (T : Nat → Prop) (hBox : w0.cell? ⟨Bn, 0, none⟩ = some (.slice sa n cap)) (hBn : Bn < w0.heap.size) (hr : Row w0 sa n sh) (h5 : n ≤ 5) (hs : ShapeIn sh) (hN : prodAll sh = (N : Int)) (hT1 : ¬ T Bn) (hT2 : ∀ k, T k → ¬ At sa n k) :
    SeqCells m Tryz.prog 163 #[.pointer (some ⟨Bn, 0, none⟩)] N (ixAt n sh (w0.heap.size + 2)) T w0 := by
  intro l J W hW hz hTl hJ hY h0
  have hl := hr.len
  have hsm := hr.small
  have hNb : N ≤ 10000 := by have := hs.bd; omega
  have hBW : Bn < W.heap.size := by omega
  have hRW : Row W sa n sh := hr.below (Nat.le_refl _) hW
  have hbox := (hW.cell (p := ⟨Bn, 0, none⟩) hBn).trans hBox
  have hbox2 : (W.alloc (.cells (madeCells #[.int .i64 0] n) 3)).cell? ⟨Bn, 0, none⟩ = some (.slice sa n cap) := (((Below.refl _ W).alloc (Nat.le_refl _) _).cell (p := ⟨Bn, 0, none⟩) hBW).trans hbox
  have hmk := run_make_row' (P := Tryz.prog) 23 3 (.int .i64 0) 8 Tryz.underlying23 info_int rfl .i64 .i64 n (by omega) (by omega)
  have HRW := hide hRW
  have HS := hide hs
  have HN := hide hN
  have HY : Hid (∀ k v W1, k < N → J k W1 → ixAt n sh (w0.heap.size + 2) k v W1 → YieldAt Fence.wide (m - 1) Tryz.prog l #[.int .i64 (k : Nat), v] W1 fun e W' => e = .returned (.bool true) ∧ J (k + 1) W' ∧ But T W1 W') := hY
  have HJ : Hid (∀ k A B, J k A → Below W.heap.size A B → J k B) := hJ
  have HTL : Hid (∀ k, T k → k < W.heap.size) := hTl
  have HT1 := hide hT1
  have HT2 : Hid (∀ k, T k → ¬ At sa n k) := hT2
  have H0 := hide h0
  have HL := hide hl
  clear hRW hs hN hY hJ hTl hT1 hT2 h0 hl hr hBox hW
  refine callsIn_of_wp Tryz.func163 rfl trivial ?_ rfl
  simp only [Tryz.ntmps163, List.size_toArray, List.length_cons, List.length_nil, Nat.reduceAdd, Nat.reduceSub, Array.replicate_succ, Array.replicate_zero, List.push_toArray, List.append_toArray, List.nil_append, List.cons_append]
  gi_wp2_with (refine ⟨trivial, fun h => (by simp [Fence.wide] at h), ?_⟩; gi_at_call 51; refine (callsIn_wide.2 (cellsOf_n _ _ _ sh _ ((unhide HRW).alloc _) (unhide HS) N HN)).mono ?_; rintro e w1 ⟨rfl, rfl⟩)
  gi_loopw [10] (fun i wr => ∃ k : Nat, k ≤ N ∧ i = .int .i64 (k : Nat) ∧ Hid (J k wr) ∧ Hid (Blk wr W.heap.size (digits sh k)) ∧ Hid (But T W wr)) (fun i _ => N - (intOf i).toNat)
  case atStart =>
    refine ⟨0, Nat.zero_le _, rfl, hide (HJ.out _ _ _ H0.out ((Below.refl _ _).alloc (Nat.le_refl _) _)), ?_, hide ((But.refl _ _).alloc _)⟩
    show Blk _ _ _
    rw [show ((0 : Nat) : Int) = 0 from rfl, digits_zero, HL.out]
    exact Blk.made _ _ _ rfl
  case round =>
    obtain ⟨k, hk, rfl, hj, hb, hbut⟩ := hrel
    clear hbox2 hmk H0
    by_cases hlt : k < N
    · have HF : Hid (Full sh) := full_of HS.out (by rw [HN.out]; omega)
      obtain ⟨fn, tmps, assign, body, hy, hR⟩ := HY.out k _ wr hlt hj.out ⟨W.heap.size, hz, rfl, hb.out⟩
      gi_wp2
      refine ⟨fun h => (by simp [Fence.wide] at h), hR.mono ?_⟩
      rintro e W3 ⟨rfl, hJ3, hbut3⟩
      have hbt : But T W W3 := (hbut.out.trans hbut3).mono (by rintro x (h | h) <;> exact h)
      have hb3 : Blk W3 W.heap.size (digits sh k) := (hbut3.block _ hb.out.lt (fun h => by have := HTL.out _ h; omega)).trans hb.out
      have hr3 := hide (hbt.row HRW.out HT2.out)
      have hx3 : W3.cell? ⟨Bn, 0, none⟩ = some (.slice sa n cap) := (hbt.cellAt hBW HT1.out).trans hbox
      have HBT := hide hbt
      have HB3 := hide hb3
      have HJ3 := hide hJ3
      have hgs : ¬ At sa n W.heap.size := fun h => by have := HRW.out.hi h; omega
      clear hR hy hb3 hbt hbut3 hJ3 hj hb hbut
      gi_wp2_with (refine ⟨trivial, fun h => (by simp [Fence.wide] at h), ?_⟩; gi_at_call 164; refine (callsIn_wide.2 (advance_any _ _ _ _ _ sh k _ HB3.out hr3.out hgs HF.out HS.out)).mono ?_; rintro e w4 ⟨⟨v, rfl⟩, hb4, hbut4⟩)
      go_roundw
      case rel =>
        refine ⟨k + 1, by omega, by go_num, hide (HJ.out _ _ _ HJ3.out (hbut4.below HBT.out.size (by rintro x rfl; exact Nat.le_refl _))), ?_, ?_⟩
        · show Blk _ _ _
          rw [show ((k + 1 : Nat) : Int) = (k : Int) + 1 by omega]
          exact hb4
        · exact hide ⟨hbut4.os.trans HBT.out.os, hbut4.tape.trans HBT.out.tape, hbut4.output.trans HBT.out.output, Nat.le_trans HBT.out.size hbut4.size, fun x hx hn => (hbut4.block x (Nat.lt_of_lt_of_le hx HBT.out.size) (by omega)).trans (HBT.out.block x hx hn)⟩
      case measure => simp [intOf]; go_num
    · have : k = N := by omega
      subst this
      gi_wp2
      go_end0
      exact ⟨⟨_, rfl⟩, hj.out⟩

end Go.Proofs.YtkgcmpmgaghdhaaGreatDoor
