import Derived.Test.YtmgjicgojlkpcaaGreatDoorImplBr
import Derived.Test.YtmgjicgojlkpcaaGreatDoorImplReader
import Derived.Test.YtmgjicgojlkpcaaGreatDoorImplLexS
namespace Go.Proofs.YtmgjicgojlkpcaaGreatDoor
open Go.RowKit

/-- The developers' row of primitives, and where each begins. -/
def primBs : ByteArray := ⟨(primCs.flatMap fun c => (encZ ((c : Nat) : Int)).map fun x => x.toNat.toUInt8).toArray⟩
def offP (k : Nat) : Nat := ((primCs.take k).map fun c => (encZ ((c : Nat) : Int)).length).sum

theorem primP_all : ((List.range 33).all fun k => decide (Utf8.decode primBs (offP k) = (primCs.getD k 0, offP (k + 1) - offP k)) && (decide (offP k < primBs.size) && (decide (offP k < offP (k + 1)) && decide (Utf8.encode ((primCs.getD k 0 : Nat) : Int) = primT k)))) = true := by kernel_rfl

theorem primP_at {k : Nat} (h : k < 33) : Utf8.decode primBs (offP k) = (primCs.getD k 0, offP (k + 1) - offP k) ∧ offP k < primBs.size ∧ offP k < offP (k + 1) ∧ Utf8.encode ((primCs.getD k 0 : Nat) : Int) = primT k := by
  have := List.all_eq_true.mp primP_all k (by simpa using h)
  simp only [Bool.and_eq_true, decide_eq_true_eq] at this
  exact this

theorem iter_start (w : World) (x : ByteArray) (h : x = primBs) : (w.alloc (.stringIter x 0)).heap[w.heap.size]? = some (.stringIter primBs 0) := by
  rw [h]
  show (w.heap.push _)[w.heap.size]? = _
  simp

theorem offP_0 : offP 0 = 0 := rfl

set_option maxRecDepth 20000 in
set_option maxHeartbeats 2000000 in
theorem primSign_any (N : Nat) (hN : 1 ≤ N ∧ N ≤ 33) (w : World) :
    Calls Tryz.prog 132 #[.int .i64 ((N : Nat) : Int)] w fun e w' => e = .returned (.string (primT (N - 1))) ∧ Below w.heap.size w w' := by
  go_enter Tryz.func132, Tryz.ntmps132
  go_wp2_with fail
  go_loopw [0] (fun u wr => ∃ (j : Nat), u = .int .i64 ((N : Int) - (j : Int)) ∧ j < N ∧ Hid (wr.heap[w.heap.size]? = some (.stringIter primBs (offP j))) ∧ Hid (Below w.heap.size w wr)) (fun e _ => (intOf e).toNat)
  case atStart =>
    refine ⟨0, by simp, by omega, hide ?_, hide ((Below.refl _ _).alloc (Nat.le_refl _) _)⟩
    rw [offP_0]
    exact iter_start w _ (by kernel_rfl)
  case round =>
    obtain ⟨j, rfl, hj, HI, HB⟩ := hrel
    obtain ⟨h1, h2, h3, h4⟩ := primP_at (show j < 33 by omega)
    have hnx : ∀ ty, (Instr.next (.pointer (some ⟨w.heap.size, 0, none⟩)) true ty).run Tryz.prog wr = _ := fun ty => Lib.run_next_any_at wr w.heap.size primBs (offP j) ty (unhide HI) h2
    rw [h1] at hnx
    have e1 : offP j + (offP (j + 1) - offP j) = offP (j + 1) := by omega
    simp only [e1] at hnx
    have HI1 : Hid ((wr.iterAt w.heap.size primBs (offP (j + 1))).heap[w.heap.size]? = some (.stringIter primBs (offP (j + 1)))) := Lib.iterAt_heap _ _ _ _ _ (unhide HI)
    have HB1 := hide (Lib.below_iterAt (unhide HB) (Nat.le_refl _) primBs (offP (j + 1)))
    obtain ⟨wr1, hw1⟩ : ∃ W, wr.iterAt w.heap.size primBs (offP (j + 1)) = W := ⟨_, rfl⟩
    rw [hw1] at HI1 HB1 hnx
    have hcv := conv_any (primCs.getD j 0) (primT j) h4
    obtain ⟨v, hv⟩ : ∃ v, primCs.getD j 0 = v := ⟨_, rfl⟩
    rw [hv] at hnx hcv
    obtain ⟨z, hz⟩ : ∃ z : Int, ((v : Nat) : Int) = z := ⟨_, rfl⟩
    rw [hz] at hnx hcv
    clear h1 h2 h3 h4 hw1 hv hz e1
    by_cases hlast : j + 1 = N
    case pos =>
      have ez : (N : Int) - (j : Int) = 1 := by omega
      have e3 : N - 1 = j := by omega
      rw [ez]
      go_wp2_with fail
      go_ret
      exact ⟨by rw [e3]; rfl, unhide HB1⟩
    case neg =>
      have ez : ((N : Int) - (j : Int) - 1 == 0) = false := by simp; omega
      have hw2 : IntKind.i64.wrap ((N : Int) - (j : Int) - 1) = (N : Int) - (j : Int) - 1 := by rw [IntKind.wrap_i64]; omega
      go_wp2_with fail
      go_roundw
      case rel => exact ⟨j + 1, by go_num, by omega, HI1, HB1⟩
      case measure => simp [intOf]; omega

end Go.Proofs.YtmgjicgojlkpcaaGreatDoor
