import Derived.Test.YtngbmcljhcckmaaPParts
import Derived.Deep.RegionWith
import Derived.Deep.DeepCutAuto
namespace Go.Proofs.Ytngbmcljhcckmaa
open Go.RowKit

set_option maxHeartbeats 2000000 in
theorem eqPart_refl (b c : Bool) (a1 a2 b1 b2 : Option Addr) (n1 n2 m1 m2 c1 c2 d1 d2 : Nat) (sh dt : List Int) (w : World) (h1 : Row w a1 n1 sh) (h2 : Row w a2 n2 dt) (k1 : Row w b1 m1 sh) (k2 : Row w b2 m2 dt) :
    Calls Try.prog 84 #[.agg #[.bool b, .bool c, .slice a1 n1 c1, .slice a2 n2 c2], .agg #[.bool b, .bool c, .slice b1 m1 d1, .slice b2 m2 d2]] w fun e w' => e = .returned (.bool true) ∧ Below w.heap.size w w' := by
  have hb : (b != b) = false := by simp
  go_enter Try.func84, Try.ntmps84
  go_wp2_with fail
  refine (eqArray_refl _ _ _ _ _ _ _ _ _ _ _ _ _ sh dt _ ((h1.alloc _).alloc _) ((h2.alloc _).alloc _) ((k1.alloc _).alloc _) ((k2.alloc _).alloc _)).mono ?_
  rintro e w1 ⟨rfl, hb1⟩
  have hB : Below w.heap.size w w1 := (((Below.refl _ _).alloc (Nat.le_refl _) _).alloc (by simp) _).trans (hb1.mono (by simp; omega))
  clear hb1
  go_wp2
  go_ret
  exact ⟨rfl, hB⟩

set_option maxHeartbeats 2000000 in
theorem eqPartS_refl (a b : Option Addr) (n c d : Nat) (ps : List PartD) (w : World) (h : PRow w a n ps) (k : PRow w b n ps) :
    Calls Try.prog 29 #[.slice a n c, .slice b n d] w fun e w' => e = .returned (.bool true) ∧ Below w.heap.size w w' := by
  have hn := h.small
  have H := hide h
  have K := hide k
  clear h k
  have hnn : ((n : Int) != (n : Int)) = false := by simp
  go_enter Try.func29, Try.ntmps29
  go_wp2_with fail
  go_loopw [5] (fun i wr => ∃ k : Nat, k ≤ n ∧ i = .int .i64 k ∧ Hid (Below w.heap.size w wr)) (fun i _ => n - (intOf i).toNat)
  case atStart => exact ⟨0, Nat.zero_le _, rfl, Below.refl _ _⟩
  case round =>
    obtain ⟨k, hk, rfl, HB⟩ := hrel
    by_cases hlt : k < n
    · obtain ⟨p1, o1, rfl, hl1, t1, m1, e1, t2, m2, e2, x1, x2, x3, x4, x5, x6⟩ := ((unhide H).below (Nat.le_refl _) (unhide HB)).get hlt
      obtain ⟨p2, o2, rfl, hl2, u1, q1, f1, u2, q2, f2, y1, y2, y3, y4, y5, y6⟩ := ((unhide K).below (Nat.le_refl _) (unhide HB)).get hlt
      have X5 := hide x5
      have X6 := hide x6
      have Y5 := hide y5
      have Y6 := hide y6
      obtain ⟨pa, hpa⟩ : ∃ x, x = (part ps k).all := ⟨_, rfl⟩
      obtain ⟨pc, hpc⟩ : ∃ x, x = (part ps k).c := ⟨_, rfl⟩
      rw [← hpa] at x1 y1
      rw [← hpc] at x2 y2
      clear x5 x6 y5 y6 hpa hpc
      go_wp2_with fail
      go_region_with (go_at_call 84; refine (eqPart_refl _ _ _ _ _ _ _ _ _ _ _ _ _ _ (part ps k).sh (part ps k).dt _ (by exact (unhide X5).below (Nat.le_refl _) (Below.refl _ _).drew) (by exact (unhide X6).below (Nat.le_refl _) (Below.refl _ _).drew) (by exact (unhide Y5).below (Nat.le_refl _) (Below.refl _ _).drew) (by exact (unhide Y6).below (Nat.le_refl _) (Below.refl _ _).drew)).mono ?_; rintro e w1 ⟨rfl, hb1⟩; have HB1 := hide ((unhide HB).trans ((Below.refl _ _).drew.trans (hb1.mono (unhide HB).size))); clear hb1)
      all_goals go_wp2_with fail
      all_goals (go_roundw; (case rel => exact ⟨k + 1, by omega, by go_num, unhide HB1⟩); (case measure => simp [intOf]; omega))
    · have hkn : k = n := by omega
      subst hkn
      go_wp2
      go_ret
      exact ⟨rfl, unhide HB⟩

set_option maxHeartbeats 4000000 in
theorem markPartS_any (g n H : Nat) (ps : List PartD) (k0 : Int) (w : World) (h : PNew w g n H ps) (hk0 : 0 ≤ k0) (hk1 : k0 ≤ 1125899906842624) :
    Calls Try.prog 30 #[.slice (some ⟨g, 0, none⟩) n n, .int .i64 k0] w fun e w' => ∃ k' : Int, e = .returned (.int .i64 k') ∧ 0 ≤ k' ∧ k' ≤ 2305843009213693952 ∧ But (fun x => g ≤ x ∧ x < H) w w' := by
  obtain ⟨hgH, hlen, hn, hsm, f, s1, s2, hm⟩ := h
  have HSM := hide hsm
  have HM := hide hm
  clear hsm hm hlen
  go_enter Try.func30, Try.ntmps30
  go_wp2_with fail
  go_loopw [1, 5] (fun c i wr => ∃ (j : Nat) (kk : Int), j ≤ n ∧ i = .int .i64 j ∧ c = .int .i64 kk ∧ 0 ≤ kk ∧ kk ≤ k0 + 2097154 * j ∧ Hid ((∃ f', wr.rowIs g 96 (n * 4) f' ∧ ∀ o, j * 4 ≤ o → f' o = f o) ∧ (∀ i, j ≤ i → i < n → Blk wr (s1 i) (part ps i).sh ∧ Blk wr (s2 i) (part ps i).dt) ∧ But (fun x => g ≤ x ∧ x < H) w wr)) (fun _ i _ => n - (intOf i).toNat)
  case atStart => exact ⟨0, k0, Nat.zero_le _, rfl, rfl, hk0, by omega, ⟨f, (unhide HM).row, fun _ _ => rfl⟩, fun i _ hi => (unhide HM).blk i hi, But.refl _ _⟩
  case round =>
    obtain ⟨j, kk, hj, rfl, rfl, hkk0, hkk1, HX⟩ := hrel
    by_cases hlt : j < n
    · obtain ⟨⟨f', hrow, hf'⟩, hblk, hbut⟩ := unhide HX
      obtain ⟨z0, z1, z2, z3⟩ := (unhide HM).cells j hlt
      have x0 := hrow.cell (i := j * 4) (by omega)
      have x1 := hrow.cell (i := j * 4 + 1) (by omega)
      have x2 := hrow.cell (i := j * 4 + 2) (by omega)
      have x3 := hrow.cell (i := j * 4 + 3) (by omega)
      rw [hf' _ (by omega), z2] at x2
      rw [hf' _ (by omega), z3] at x3
      have y0 := hrow.frozen (j * 4)
      have y1 := hrow.frozen (j * 4 + 1)
      obtain ⟨n1, hn1⟩ : ∃ x, (part ps j).sh.length = x := ⟨_, rfl⟩
      obtain ⟨n2, hn2⟩ : ∃ x, (part ps j).dt.length = x := ⟨_, rfl⟩
      have hs := unhide HSM j hlt
      have hlow := (unhide HM).low j hlt
      rw [hn1] at x2 hs
      rw [hn2] at x3 hs
      have HN1 := hide hn1
      have HN2 := hide hn2
      have HROW := hide hrow
      have HF' := hide hf'
      have HBLK := hide hblk
      have HBUT := hide hbut
      obtain ⟨hs1, hs2⟩ := hs
      obtain ⟨hl0, hl1, hl2⟩ := hlow
      obtain ⟨p1, hp1⟩ : ∃ x, s1 j = x := ⟨_, rfl⟩
      obtain ⟨p2, hp2⟩ : ∃ x, s2 j = x := ⟨_, rfl⟩
      rw [hp1] at x2 hl0 hl1
      rw [hp2] at x3 hl1 hl2
      have HP1 := hide hp1
      have HP2 := hide hp2
      have hglt := hrow.lt
      clear HX hrow hf' hblk hbut z0 z1 z2 z3 hn1 hn2 hp1 hp2
      go_wp2_with fail
      refine (markIntS_any _ _ _ p1 (part ps j).sh _ _ (by
        have := (unhide HBLK j (Nat.le_refl _) hlt).1
        rw [unhide HP1] at this
        exact ((this.other (by simp; omega) _).other (by simp; omega) _).own (unhide HN1) (by omega) (Nat.le_refl _)) (by omega) (by omega)).mono ?_
      rintro e w1 ⟨rfl, ho1, hb1⟩
      have hne : ¬ At (some ⟨p1, 0, none⟩) n1 g := fun hh => by have := at_eq hh; omega
      have hgb := hb1.block g (by simpa using hglt) hne
      have hr1 := (((unhide HROW).set (j * 4) (.bool (kk % 3 == 0))).set (j * 4 + 1) (.bool ((kk + 1) % 3 == 0))).of_block hgb
      have x3' := hr1.cell (i := j * 4 + 3) (by omega)
      rw [if_neg (by omega), if_neg (by omega), unhide HF' _ (by omega), ((unhide HM).cells j hlt).2.2.2, unhide HN2, unhide HP2] at x3'
      have hz1 := hb1.size
      have HR1 := hide hr1
      have HB1 := hide hb1
      have HBLK1 : Hid (∀ i, j ≤ i → i < n → i ≠ j → Blk w1 (s1 i) (part ps i).sh ∧ Blk w1 (s2 i) (part ps i).dt) := fun i hi hin hne => by
        obtain ⟨d1, d2⟩ := unhide HBLK i hi hin
        have ha := (unhide HM).apart j i (by omega) hin
        have hl := (unhide HM).low i hin
        rw [unhide HP2] at ha
        refine ⟨(hb1.block _ (by simpa using d1.lt) (fun hh => by have := at_eq hh; omega)).trans ?_, (hb1.block _ (by simpa using d2.lt) (fun hh => by have := at_eq hh; omega)).trans ?_⟩
        · exact (d1.other (by simp; omega) _).other (by simp; omega) _
        · exact (d2.other (by simp; omega) _).other (by simp; omega) _
      have HO2 : Hid (Own w1 p2 (some ⟨p2, 0, none⟩) n2 (part ps j).dt) := by
        have d2 := (unhide HBLK j (Nat.le_refl _) hlt).2
        rw [unhide HP2] at d2
        have d3 : Blk w1 p2 (part ps j).dt := (hb1.block _ (by simpa using d2.lt) (fun hh => by have := at_eq hh; omega)).trans ((d2.other (by simp; omega) _).other (by simp; omega) _)
        exact d3.own (unhide HN2) (by omega) (Nat.le_refl _)
      have HBUT1 : Hid (But (fun x => g ≤ x ∧ x < H) w w1) := (((unhide HBUT).setCell (p := ⟨g, j * 4, none⟩) ⟨Nat.le_refl _, hgH⟩ _).setCell (p := ⟨g, j * 4 + 1, none⟩) ⟨Nat.le_refl _, hgH⟩ _ |>.trans hb1).mono (fun x hx => by
        rcases hx with hx | hx
        · exact hx
        · have := at_eq hx; omega)
      have hgl1 : g < w1.heap.size := hr1.lt
      clear hgb hr1 hb1 ho1 hne x0 x1 x2 x3 y0 y1 HROW HBLK HBUT hz1 HB1 hglt
      go_wp2_with fail
      refine (markIntS_any _ _ _ p2 (part ps j).dt _ _ (by exact unhide HO2) (by omega) (by omega)).mono ?_
      rintro e w2 ⟨rfl, ho2, hb2⟩
      clear ho2
      have HR2 : Hid (∃ f', w2.rowIs g 96 (n * 4) f' ∧ ∀ o, (j + 1) * 4 ≤ o → f' o = f o) := ⟨_, (unhide HR1).of_block (hb2.block g hgl1 (fun hh => by have := at_eq hh; omega)), fun o ho => by
        (try dsimp only)
        rw [if_neg (by omega), if_neg (by omega)]
        exact unhide HF' o (by omega)⟩
      have HBLK2 : Hid (∀ i, j + 1 ≤ i → i < n → Blk w2 (s1 i) (part ps i).sh ∧ Blk w2 (s2 i) (part ps i).dt) := fun i hi hin => by
        obtain ⟨d1, d2⟩ := unhide HBLK1 i (by omega) hin (by omega)
        have ha := (unhide HM).apart j i (by omega) hin
        have hl := (unhide HM).low i hin
        rw [unhide HP2] at ha
        exact ⟨(hb2.block _ d1.lt (fun hh => by have := at_eq hh; omega)).trans d1, (hb2.block _ d2.lt (fun hh => by have := at_eq hh; omega)).trans d2⟩
      have HBUT2 : Hid (But (fun x => g ≤ x ∧ x < H) w w2) := ((unhide HBUT1).trans hb2).mono (fun x hx => by
        rcases hx with hx | hx
        · exact hx
        · have := at_eq hx; omega)
      clear hb2 HR1 HBLK1 HBUT1 HO2 x3' HF'
      go_wp2_with fail
      go_roundw
      case rel => exact ⟨j + 1, _, by omega, by go_num, rfl, by omega, by omega, unhide HR2, unhide HBLK2, unhide HBUT2⟩
      case measure => simp [intOf]; omega
    · have hkn : j = n := by omega
      subst hkn
      have HBUT := hide (unhide HX).2.2
      clear HX
      go_wp2
      go_ret
      exact ⟨_, rfl, hkk0, by omega, unhide HBUT⟩

end Go.Proofs.Ytngbmcljhcckmaa
