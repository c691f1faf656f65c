import Derived.Test.YtkgcmpmgaghdhaaGreatDoorMFit0
import Derived.Test.YtkgcmpmgaghdhaaGreatDoorMFit0
import Derived.Test.YtkgcmpmgaghdhaaGreatDoorMFit0
import Derived.BigQuiet
import Derived.Deep.DeepCutAuto
namespace Go.Proofs.YtkgcmpmgaghdhaaGreatDoor
open Go.RowKit

theorem But.drewN {S : Nat → Prop} {w w' : World} (h : But S w w') (q : Nat) : But S w (w'.drewN q) := ⟨h.os, h.tape, h.output, h.size, h.block⟩

set_option maxRecDepth 20000 in
set_option maxHeartbeats 2000000 in
theorem advance_any (g : Nat) (sa : Option Addr) (n c1 c2 : Nat) (sh : List Int) (p : Int) (w : World) (h : Blk w g (digits sh p)) (hr : Row w sa n sh) (hne : ¬ At sa n g) (hf : Full sh) (hs : ShapeIn sh) :
    Calls Tryz.prog 164 #[.slice (some ⟨g, 0, none⟩) n c1, .slice sa n c2] w fun e w' => (∃ v, e = .returned v) ∧ Blk w' g (digits sh (p + 1)) ∧ But (fun k => k = g) w w' := by
  have hl := hr.len
  have hsm := hr.small
  have H0 : Hid (Blk w g (mid sh p 0)) := by show Blk _ _ _; rw [mid_zero]; exact h
  have HR := hide hr
  have HF := hide hf
  have HS := hide hs
  have HNE := hide hne
  have HC0 := hide (carry_zero sh p)
  have HL := hide hl
  clear h hr hf hs hne
  go_enter Tryz.func164, Tryz.ntmps164
  go_wp2_with fail
  go_loopw [4] (fun i wr => ∃ j : Nat, j ≤ n ∧ i = .int .i64 ((n : Int) - 1 - (j : Nat)) ∧ Hid (Carry sh p j) ∧ Hid (Blk wr g (mid sh p j)) ∧ Hid (But (fun k => k = g) w wr)) (fun i _ => (intOf i + 1).toNat)
  case atStart => exact ⟨0, Nat.zero_le _, by simp, HC0, H0, hide (But.refl _ _)⟩
  case round =>
    obtain ⟨j, hj, rfl, hc, hb, hbut⟩ := hrel
    clear H0 HC0
    by_cases hlt : j < n
    · obtain ⟨i, hi⟩ : ∃ i : Nat, i = n - 1 - j := ⟨_, rfl⟩
      have e1 : (n : Int) - 1 - (j : Nat) = (i : Nat) := by omega
      rw [e1]
      obtain ⟨d, hd⟩ : ∃ d, d = digit sh p i := ⟨_, rfl⟩
      obtain ⟨s, hs'⟩ : ∃ s, s = sh.getD i 0 := ⟨_, rfl⟩
      have hin : i < n := by omega
      have hrow := (hbut.out.row HR.out (by rintro k rfl; exact HNE.out))
      obtain ⟨b, off, rfl, hblt, hcs⟩ := hrow.get hin
      have hbg : b ≠ g := fun e => HNE.out ⟨by omega, _, rfl, e⟩
      rw [← hs'] at hcs
      have hgi : sh.length - 1 - j = i := by omega
      have hcd := hb.out.cell (i := i) (by rw [mid_len]; omega)
      have hmg := mid_get sh p j (by omega)
      rw [hgi, ← hd] at hmg
      rw [hmg] at hcd
      have hfr := hb.out.free i
      have hdb : 0 ≤ d ∧ d < s := by
        have hs0 := HF.out i (by omega)
        rw [hd, hs']
        unfold digit
        exact ⟨Int.emod_nonneg _ (by omega), Int.emod_lt_of_pos _ hs0⟩
      have hsb : s ≤ 10000 := by rw [hs']; exact (HS.out.cell i).2
      have hw1 : IntKind.i64.wrap (d + 1) = d + 1 := by rw [IntKind.wrap_i64]; omega
      have HD := hide hd
      have HSS := hide hs'
      have HI := hide hi
      have HGI := hide hgi
      clear hd hs' hi hgi hmg hrow e1
      have hc2 : (wr.setCell ⟨g, i, none⟩ (.int .i64 (d + 1))).cell? ⟨g, i, none⟩ = some (.int .i64 (d + 1)) := World.cell?_setCell_same' _ _ _ (by rw [hcd]; rfl)
      have hc3 : (wr.setCell ⟨g, i, none⟩ (.int .i64 (d + 1))).cell? ⟨b, off + i, none⟩ = some (.int .i64 s) := (World.cell?_setCell_other _ _ _ _ (by simp <;> omega)).trans hcs
      have hf2 : (wr.setCell ⟨g, i, none⟩ (.int .i64 (d + 1))).frozen? ⟨g, i, none⟩ = false := by rw [World.frozen?_setCell]; exact hfr
      by_cases hd1 : d + 1 < s
      · go_upto_region 4 with fail
        go_quiet (fail)
        go_wp2_with fail
        refine bodyPost_ret (results_none rfl _ _ _) rfl ?_
        refine ⟨⟨_, rfl⟩, ?_, ?_⟩
        · have e := hb.out.set i (d + 1)
          have e2 := carry_stop HF.out hc.out (by omega) (by rw [HGI.out, ← HD.out, ← HSS.out]; exact hd1)
          rw [HGI.out, ← HD.out] at e2
          rw [e2] at e
          exact e
        · exact (hbut.out.setCell (p := ⟨g, i, none⟩) rfl _).drewN _
      · go_upto_region 4 with fail
        go_quiet (fail)
        go_wp2_with fail
        go_roundw
        case rel =>
          refine ⟨j + 1, by omega, by rw [HI.out]; go_num, hide (carry_step HF.out hc.out (by omega) (by rw [HGI.out, ← HD.out, ← HSS.out]; exact hd1)), ?_, hide (((hbut.out.setCell (p := ⟨g, i, none⟩) rfl _).drewN _).setCell (p := ⟨g, i, none⟩) rfl _)⟩
          have e2 := mid_step sh p j (by omega)
          rw [HGI.out] at e2
          have e3 : mid sh p (j + 1) = ((mid sh p j).set i (d + 1)).set i 0 := by rw [List.set_set, e2]
          show Blk _ _ _
          rw [e3]
          exact Blk.set (hb.out.set i (d + 1)) i 0
        case measure => simp [intOf]
    · have : j = n := by omega
      subst this
      have e1 : (j : Int) - 1 - (j : Nat) = -1 := by omega
      rw [e1]
      go_wp2_with fail
      go_end0
      refine ⟨⟨_, rfl⟩, ?_, hbut.out⟩
      have e := hb.out
      rw [carry_end hc.out (by rw [HL.out]; exact Nat.le_refl _)] at e
      exact e

end Go.Proofs.YtkgcmpmgaghdhaaGreatDoor
