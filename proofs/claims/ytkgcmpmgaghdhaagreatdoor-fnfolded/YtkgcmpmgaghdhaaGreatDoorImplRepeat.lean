import Derived.Test.YtkgcmpmgaghdhaaGreatDoorMFit0
import Derived.Test.YtkgcmpmgaghdhaaGreatDoorMFit0
import Derived.Laws.CopyOwn
import Derived.Laws.Bits64b
import Derived.Deep.RegionHeld3
import Derived.Deep.DeepCutAuto
namespace Go.Proofs.YtkgcmpmgaghdhaaGreatDoor
open Go.RowKit

set_option maxHeartbeats 1000000 in
theorem Mul64_one (n : Nat) (hn : n ≤ 10000) (w : World) : Calls Tryz.prog 178 #[.int .u64 1, .int .u64 (n : Nat)] w fun e w' => e = .returned (.tuple #[.int .u64 0, .int .u64 (n : Nat)]) ∧ w' = w := by
  have hA : bits .and .u64 (n : Int) 4294967295 = (n : Int) := by
    have h := bits_and_u64_nat n 4294967295 (by omega) (by omega)
    rw [show n &&& 4294967295 = n % 4294967296 from Nat.and_two_pow_sub_one_eq_mod n 32, Nat.mod_eq_of_lt (by omega)] at h
    exact h
  have h1 : bits .and .u64 1 4294967295 = 1 := by decide
  have h0 : bits .and .u64 0 4294967295 = 0 := by decide
  have hD : (n : Int) / 4294967296 = 0 := by omega
  go_enter Tryz.func178, Tryz.ntmps178
  go_wp2
  go_ret2
  exact ⟨by simp, rfl⟩

theorem Mul_one (n : Nat) (hn : n ≤ 10000) (w : World) : Calls Tryz.prog 162 #[.int .u64 1, .int .u64 (n : Nat)] w fun e w' => e = .returned (.tuple #[.int .u64 0, .int .u64 (n : Nat)]) ∧ w' = w := by
  go_enter Tryz.func162, Tryz.ntmps162
  go_wp2_with (go_at_call 178; refine (Mul64_one n hn _).mono ?_; rintro e w1 ⟨rfl, rfl⟩)
  go_ret2
  exact ⟨rfl, rfl⟩

theorem splice_rep (v : Int) (k m n : Nat) (h : k + m ≤ n) : splice ((List.replicate k v ++ List.replicate (n - k) 0).map (Value.int .i64)) k (List.replicate m (Value.int .i64 v)) = (List.replicate (k + m) v ++ List.replicate (n - (k + m)) 0).map (Value.int .i64) := by
  unfold splice
  simp only [List.map_append, List.map_replicate, List.length_replicate]
  rw [List.take_append_of_le_length (by simp), List.take_of_length_le (by simp), List.drop_append, List.drop_eq_nil_of_le (by simp), List.nil_append, List.length_replicate, List.drop_replicate, ← List.append_assoc, List.replicate_append_replicate]
  rw [show n - k - (k + m - k) = n - (k + m) by omega]

set_option maxRecDepth 20000 in
set_option maxHeartbeats 4000000 in
theorem Repeat_any (a : Addr) (ca n : Nat) (v : Int) (w : World) (h : Row w (some a) 1 [v]) (hn : n ≤ 10000) :
    Calls Tryz.prog 124 #[.slice (some a) 1 ca, .int .i64 (n : Nat)] w fun e w' => e = .returned (.slice (some ⟨w.heap.size, 0, none⟩) n n) ∧ Blk w' w.heap.size (List.replicate n v) ∧ Below w.heap.size w w' := by
  obtain ⟨i0, hi, hz0, hz1, hz2⟩ := info_parts info_int
  have hsz : (Tryz.prog.info? 3).map (·.size) = some 1 := by rw [hi]; simp [hz1]
  obtain ⟨ba, oa, hab, hblt, hc⟩ := h.get (show 0 < 1 by omega)
  cases hab
  have HC : Hid (∀ w1, Below w.heap.size w w1 → w1.cell? ⟨ba, oa, none⟩ = some (.int .i64 v)) := fun w1 hb => (hb.cell (p := ⟨ba, oa, none⟩) hblt).trans (by simpa using hc)
  clear h hc hblt
  obtain ⟨m, hm⟩ : ∃ m, m = Nat.min 1 n := ⟨_, rfl⟩
  have hm1 : m ≤ n := by rw [hm]; exact Nat.min_le_right _ _
  have hm2 : m = 0 → n = 0 := by intro e; rw [hm] at e; exact (Nat.eq_zero_or_pos n).elim id fun h0 => by rw [show Nat.min 1 n = 1 from Nat.min_eq_left h0] at e; cases e
  obtain ⟨cs, hcs⟩ : ∃ cs, cs = List.replicate m (Value.int .i64 v) := ⟨_, rfl⟩
  have hcl : cs.length = m := by rw [hcs]; simp
  have HM := hide hm
  have HCS := hide hcs
  have HM2 := hide hm2
  have HPOS : Hid (∀ w1, Below w.heap.size w w1 → ∀ j x, cs[j]? = some x → w1.cell? ((⟨ba, oa, none⟩ : Addr).add j) = some x) := by
    intro w1 hb j x hx
    have hj : j = 0 ∧ x = .int .i64 v := by
      rw [unhide HCS] at hx
      have hm' : m ≤ 1 := by rw [unhide HM]; exact Nat.min_le_left _ _
      rw [List.getElem?_replicate] at hx
      split at hx
      · exact ⟨by omega, by simpa using hx.symm⟩
      · cases hx
    obtain ⟨rfl, rfl⟩ := hj
    exact unhide HC _ hb
  clear hm hcs hm2
  go_enter Tryz.func124, Tryz.ntmps124
  go_wp2_with (first | (go_at_call 162; go_loud (refine (Mul_one n hn _).mono ?_); rintro e w1 ⟨rfl, hw⟩; obtain rfl := hw.symm) | (at_make; go_loud (refine wpList_make_full _ rfl _ _ 23 rfl w.heap.size 3 i0 (.int .i64 0) 1 Tryz.underlying23 hi hz0 hz1 _ _ _ _ n rfl rfl rfl rfl (by rw [hz2]; omega) (by unfold maxLen; omega) (Nat.le_refl _) ?_); intro w1 hown hgrow; have HBK : Hid (Blk w1 w.heap.size (List.replicate 0 v ++ List.replicate (n - 0) 0)) := Blk.of_owns (n := n) (base := w.heap.size) (by simpa [toList_madeCells_one, Value.cells] using hown); have HBL : Hid (Below w.heap.size w w1) := (Below.refl _ _).grown hgrow (Nat.le_refl _) (by simp); clear hown hgrow) | (refine wpList_copy_splice rfl (.tmp 31) (.tmp 32) 23 23 rfl 3 Tryz.underlying23 hsz _ _ _ _ _ _ rfl rfl w.heap.size 0 _ 3 (unhide HBK) cs (hcl.trans (unhide HM)) (fun _ => ⟨rfl, _, rfl, unhide HPOS _ (unhide HBL)⟩) (by rw [hcl]; simp; omega) (by rw [unhide HCS]; intro x hx; rw [List.eq_of_mem_replicate hx]; rfl) w.heap.size w (unhide HBL) (Nat.le_refl _) ?_; intro w2 hg2 hb2; have HG2 := hide hg2.out; have HL2 := hide hb2; clear hg2 hb2))
  · have HB2 : Hid (Blk w2 w.heap.size (List.replicate m v ++ List.replicate (n - m) 0)) := by
      have e := unhide HG2
      rw [unhide HCS, splice_rep v 0 m n (by omega)] at e
      show Blk _ _ _
      rw [Nat.zero_add] at e
      exact e
    clear HG2 HBK HBL w1 HC HCS HM HPOS hcl cs
    go_loopw [8] (fun i wr => ∃ k : Nat, k ≤ n ∧ (k = 0 → n = 0) ∧ i = .int .i64 k ∧ Hid (Blk wr w.heap.size (List.replicate k v ++ List.replicate (n - k) 0)) ∧ Hid (Below w.heap.size w wr)) (fun i _ => n - (intOf i).toNat)
    case atStart => exact ⟨m, hm1, unhide HM2, rfl, HB2, HL2⟩
    case round =>
      obtain ⟨k, hk, hk0, rfl, hb, hbl⟩ := hrel
      clear HB2 HL2 w2 HM2 hm1
      by_cases hlt : k < n
      · have hk1 : 1 ≤ k := by omega
        obtain ⟨q, hq⟩ : ∃ q, q = Nat.min k (n - k) := ⟨_, rfl⟩
        have hq1 : q ≤ n - k := by rw [hq]; exact Nat.min_le_right _ _
        have hq2 : q ≤ k := by rw [hq]; exact Nat.min_le_left _ _
        have hq3 : 1 ≤ q := by rw [hq]; exact Nat.le_min.mpr ⟨hk1, by omega⟩
        obtain ⟨cs, hcs⟩ : ∃ cs, cs = List.replicate q (Value.int .i64 v) := ⟨_, rfl⟩
        have hcl : cs.length = q := by rw [hcs]; simp
        have HCS := hide hcs
        have HQ := hide hq
        have HPOS : Hid (∀ j x, cs[j]? = some x → wr.drew.cell? ((⟨w.heap.size, 0, none⟩ : Addr).add j) = some x) := by
          intro j x hx
          rw [hcs, List.getElem?_replicate] at hx
          split at hx
          · rename_i hjq
            have hc := (unhide hb).cell (i := j) (by simp; omega)
            have hjk : j < k := by omega
            have hg : (List.replicate k v ++ List.replicate (n - k) 0).getD j 0 = v := by simp [List.getD, List.getElem?_append, hjk]
            rw [hg] at hc
            cases hx
            have ha : (⟨w.heap.size, 0, none⟩ : Addr).add j = ⟨w.heap.size, j, none⟩ := by cases j <;> simp [Addr.add]
            rw [ha]
            simpa using hc
          · cases hx
        clear hcs hq hk0
        go_upto_region 9 with fail
        go_region_held3 (fun _ => True) (first | exact trivial) (first | (refine step_copy_splice rfl (.tmp 41) (.tmp 44) 23 23 rfl 3 Tryz.underlying23 hsz _ _ _ _ _ _ rfl rfl w.heap.size k _ 3 (unhide hb).drew cs (hcl.trans (unhide HQ)) (fun _ => ⟨by first | rfl | rw [if_neg (by omega)], _, rfl, unhide HPOS⟩) (by rw [hcl]; simp; omega) (by rw [unhide HCS]; intro x hx; rw [List.eq_of_mem_replicate hx]; rfl) w.heap.size w (unhide hbl).drew (Nat.le_refl _) ?_; intro w4 hg4 hb4; have HG4 := hide hg4.out; have HL4 := hide hb4; clear hg4 hb4))
        have HB4 : Hid (Blk w4 w.heap.size (List.replicate (k + q) v ++ List.replicate (n - (k + q)) 0)) := by
          have e := unhide HG4
          rw [unhide HCS, splice_rep v k q n (by omega)] at e
          exact e
        clear HG4
        have hkw : IntKind.i64.wrap ((k : Int) + (q : Int)) = ((k + q : Nat) : Int) := by rw [IntKind.wrap_i64]; omega
        go_wp2_with fail
        go_roundw
        case rel => exact ⟨(k + q : Nat), by omega, by omega, by first | rfl | rw [hkw], HB4, HL4⟩
        case measure => (first | rw [hkw] | skip); simp [intOf]; omega
      · have hkn : k = n := by omega
        subst hkn
        go_wp2
        go_ret
        exact ⟨rfl, by simpa using unhide hb, unhide hbl⟩

theorem Repeat_ex (a : Addr) (ca n : Nat) (v : Int) (w : World) (h : Row w (some a) 1 [v]) (hn : n ≤ 10000) :
    Calls Tryz.prog 124 #[.slice (some a) 1 ca, .int .i64 (n : Nat)] w fun e w' => ∃ g, e = .returned (.slice (some ⟨g, 0, none⟩) n n) ∧ Row w' (some ⟨g, 0, none⟩) n (List.replicate n v) ∧ Below w.heap.size w w' := by
  refine (Repeat_any a ca n v w h hn).mono ?_
  rintro e w' ⟨rfl, hb, hl⟩
  exact ⟨_, rfl, hb.row (by simp) (by omega), hl⟩

end Go.Proofs.YtkgcmpmgaghdhaaGreatDoor
