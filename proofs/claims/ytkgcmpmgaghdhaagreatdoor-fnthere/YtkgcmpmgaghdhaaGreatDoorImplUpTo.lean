import Derived.Test.YtkgcmpmgaghdhaaGreatDoorMFit1
import Derived.Test.YtkgcmpmgaghdhaaGreatDoorMFit0
import Derived.Test.YtkgcmpmgaghdhaaGreatDoorUpToMath
import Derived.Test.YtkgcmpmgaghdhaaGreatDoorMFit0
import Derived.Test.YtkgcmpmgaghdhaaGreatDoorMFit0
import Derived.Test.YtkgcmpmgaghdhaaGreatDoorMFit0
import Derived.Test.YtkgcmpmgaghdhaaGreatDoorMFit0
import Derived.Test.YtkgcmpmgaghdhaaGreatDoorMFit0
namespace Go.Proofs.YtkgcmpmgaghdhaaGreatDoor
open Go.RowKit

def upToN (L k : Nat) : List Int := (List.range L).map fun (i : Nat) => if i < k then (i : Int) + 1 else 0
theorem upToN_zero (L : Nat) : upToN L 0 = List.replicate L 0 := by
  apply List.ext_getElem <;> simp [upToN]
theorem upToN_all (L : Nat) : upToN L L = upTo L := map_range_eq fun i hi => by rw [if_pos hi]
theorem upToN_step {L k : Nat} : (upToN L k).set k ((k : Int) + 1) = upToN L (k + 1) := by
  unfold upToN
  rw [map_range_set]
  refine map_range_eq fun i hi => ?_
  by_cases h : i = k
  · subst h; simp
  · rw [if_neg h]
    by_cases h2 : i < k
    · rw [if_pos h2, if_pos (by omega)]
    · rw [if_neg h2, if_neg (by omega)]

set_option maxHeartbeats 2000000 in
theorem numbersUpTo_any (L : Nat) (hL : L ≤ 10000) (w : World) :
    Calls Tryz.prog 62 #[.int .i64 (L : Nat)] w fun e w' => ∃ s g, e = .returned (.agg #[.bool false, .slice (some ⟨s, 0, none⟩) 1 1, .slice (some ⟨g, 0, none⟩) L L]) ∧ w.heap.size ≤ s ∧ w.heap.size ≤ g ∧ s ≠ g ∧ Blk w' s [(L : Int)] ∧ Blk w' g (upTo L) ∧ Below w.heap.size w w' := by
  have hmk := run_make_row' (P := Tryz.prog) 23 3 (.int .i64 0) 8 Tryz.underlying23 info_int rfl .i64 .i64 L (by omega) (by omega)
  go_enter Tryz.func62, Tryz.ntmps62
  go_wp2_with fail
  obtain ⟨g, hg⟩ : ∃ g, g = w.heap.size + 1 := ⟨_, rfl⟩
  obtain ⟨W, hW⟩ : ∃ W, W = (w.alloc (.cells #[.bool false, .slice none 0 0, .slice none 0 0] 25)).alloc (.cells (madeCells #[.int .i64 0] L) 3) := ⟨_, rfl⟩
  have HB0 : Hid (Box W w.heap.size false (.slice none 0 0) (.slice none 0 0)) := by rw [hW]; exact (Box.new w _ _ _).alloc _
  have HG : Hid (Blk W g (upToN L 0)) := by show Blk W g _; rw [upToN_zero, hW]; exact Blk.made _ _ _ (by rw [hg]; simp)
  have HBL : Hid (Below w.heap.size w W) := by rw [hW]; exact ((Below.refl _ w).alloc (Nat.le_refl _) _).alloc (by simp) _
  have hzw : W.heap.size = w.heap.size + 1 + 1 := by rw [hW]; simp
  have HZW := hide hzw
  have HGE := hide hg
  rw [← hW, ← hg]
  clear hW hzw hmk
  have hgw : w.heap.size < g := by omega
  clear hg
  go_loopw [9] (fun i wr => ∃ k : Nat, k ≤ L ∧ i = .int .i64 (k : Nat) ∧ Hid (Blk wr g (upToN L k)) ∧ Hid (But (fun x => x = g) W wr)) (fun i _ => L - (intOf i).toNat)
  case atStart => exact ⟨0, Nat.zero_le _, rfl, HG, hide (But.refl _ _)⟩
  case round =>
    obtain ⟨k, hk, rfl, hb, hbut⟩ := hrel
    by_cases hlt : k < L
    · have hc := (unhide hb).cell (i := k) (by simp [upToN, hlt])
      have hf := (unhide hb).free k
      have hkz : (k : Int) < (L : Int) := by omega
      go_wp2_with fail
      go_roundw
      case rel =>
        refine ⟨k + 1, by omega, by go_num, ?_, hide ((unhide hbut).setCell (p := ⟨g, k, none⟩) rfl _)⟩
        show Blk _ _ _
        rw [← upToN_step]
        exact (unhide hb).set k _
      case measure => simp [intOf]; omega
    · have e : k = L := by omega
      subst k
      obtain ⟨s, hs⟩ : ∃ s, s = wr.heap.size := ⟨_, rfl⟩
      have HBW : Hid (Below w.heap.size w wr) := (unhide HBL).trans ((unhide hbut).below (by have := unhide HZW; omega) (by rintro x rfl; omega))
      have hgl := (unhide hb).lt
      have hws := (unhide HBW).size
      have HB1 : Hid (Box (wr.alloc (.cells #[.int .i64 (L : Nat)] 3)) w.heap.size false (.slice none 0 0) (.slice none 0 0)) := ((unhide HB0).but (unhide hbut) (by show ¬ w.heap.size = g; omega)).alloc _
      obtain ⟨q0, q1, q2, q3, q4, q5, q6⟩ := (unhide HB1).all
      have hbs : Blk (wr.alloc (.cells #[.int .i64 (L : Nat)] 3)) wr.heap.size [(L : Int)] := by
        show (wr.heap.push _)[wr.heap.size]? = _
        simp
      have HBS := hide hbs
      clear hbs hk hlt
      go_wp2_with fail
      have hx := (unhide HB1).sets (c' := false) (u1 := .slice (some ⟨wr.heap.size, 0, none⟩) 1 1) (u2 := .slice (some ⟨g, 0, none⟩) L L)
      obtain ⟨r0, r1, r2, _, _, _⟩ := hx.all
      refine bodyPost_ret (v := .agg #[.bool false, .slice (some ⟨wr.heap.size, 0, none⟩) 1 1, .slice (some ⟨g, 0, none⟩) L L]) (by simp [results, Tryz.results62, go_sem, r0, r1, r2]) rfl ?_
      have n1 : wr.heap.size ≠ w.heap.size := by omega
      have n2 : g ≠ w.heap.size := by omega
      refine ⟨wr.heap.size, g, rfl, hws, by omega, by omega, ?_, ?_, ?_⟩
      · exact (((unhide HBS).other (p := ⟨w.heap.size, 0, none⟩) n1 _).other (p := ⟨w.heap.size, 1, none⟩) n1 _).other (p := ⟨w.heap.size, 2, none⟩) n1 _
      · rw [← upToN_all]
        exact ((((unhide hb).alloc _).other (p := ⟨w.heap.size, 0, none⟩) n2 _).other (p := ⟨w.heap.size, 1, none⟩) n2 _).other (p := ⟨w.heap.size, 2, none⟩) n2 _
      · exact ((((unhide HBW).alloc hws _).setCell (by simp) _).setCell (by simp) _).setCell (by simp) _

end Go.Proofs.YtkgcmpmgaghdhaaGreatDoor
