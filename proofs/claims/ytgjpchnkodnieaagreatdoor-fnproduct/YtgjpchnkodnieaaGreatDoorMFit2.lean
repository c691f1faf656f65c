import Derived.Test.YtgjpchnkodnieaaGreatDoorMFit0
import Derived.Test.YtgjpchnkodnieaaGreatDoorMFit0
import Derived.Test.YtgjpchnkodnieaaGreatDoorChecked
import Derived.Test.YtgjpchnkodnieaaGreatDoorMFit1
import Derived.Test.YtgjpchnkodnieaaGreatDoorMFit1
import Derived.Test.YtgjpchnkodnieaaGreatDoorMFit1
import Derived.Test.YtgjpchnkodnieaaGreatDoorMFit1
import Derived.Test.YtgjpchnkodnieaaGreatDoorMFit1
import Derived.Test.YtgjpchnkodnieaaGreatDoorMFit1
import Derived.Deep.DeepCutAuto
import Derived.Deep.RegionHeld3
import Derived.RangeFuncRecord
import Derived.WalkKit
import Derived.Deep.RegionHeld
import Derived.BigQuiet
import Derived.RangeFuncNested
import Derived.RangeFuncLeaves
import Derived.RangeFuncBound
import Derived.RangeFuncCalls
import Derived.Shelf.Abstract
import Derived.Shelf.RegionOpen
import Derived.OwnWalkIn
import Derived.TacticsInMore
import Derived.LoopNIn
import Derived.LoopIn
import Derived.Laws.EntriesVeiled
import Derived.Laws.CopyOwn
import Derived.Laws.Bits64b
import Derived.RangeFuncWrites
import Derived.Maps.AppendAt
import Derived.Shelf.Sort.Plain
import Derived.Ground.NamesProg
import Derived.Test.YtgjpchnkodnieaaGreatDoorProg
import Derived.Shelf.Slices.In.SortNone
import Derived.Sort.OwnSortedInts
namespace Go.Proofs.YtgjpchnkodnieaaGreatDoor
open Go.RowKit

set_option maxHeartbeats 1000000 in
theorem l4Mod_any (a b : Int) (w : World) (ha : -1000000000000000 ≤ a ∧ a ≤ 1000000000000000) (hb : -1000000000000000 ≤ b ∧ b ≤ 1000000000000000) : Calls Tryz.prog 196 #[.int .i64 a, .int .i64 b] w fun e w' => e = .returned (.int .i64 (modOf a b)) ∧ w' = w := by
  obtain ⟨ha1, ha2⟩ := ha
  obtain ⟨hb1, hb2⟩ := hb
  by_cases h0 : a = 0
  · subst h0
    have HE : Hid (modOf 0 b = b) := rfl
    go_enter Tryz.func196, Tryz.ntmps196
    go_wp2
    go_ret
    exact ⟨ret_int HE.out.symm, rfl⟩
  have q0 : (a == 0) = false := by simp [h0]
  have hm : -1000000000000000 ≤ b.tmod a ∧ b.tmod a ≤ 1000000000000000 := by
    have := Int.natAbs_tmod b a
    have h3 : b.natAbs % a.natAbs ≤ b.natAbs := Nat.mod_le _ _
    omega
  obtain ⟨m, hm0⟩ : ∃ m, b.tmod a = m := ⟨_, rfl⟩
  rw [hm0] at hm
  obtain ⟨hm1, hm2⟩ := hm
  by_cases hz : m = 0
  · subst hz
    have HE : Hid (modOf a b = 0) := by show _ = _; unfold modOf; rw [if_neg h0, hm0]; simp
    go_enter Tryz.func196, Tryz.ntmps196
    go_wp2
    go_ret
    exact ⟨ret_int HE.out.symm, rfl⟩
  have q1 : (m != 0) = true := by simp [hz]
  by_cases hs : m < 0
  · by_cases ht : a < 0
    · have HE : Hid (modOf a b = m) := by show _ = _; unfold modOf; rw [if_neg h0, hm0]; simp [hs, ht]
      clear hz
      go_enter Tryz.func196, Tryz.ntmps196
      go_wp2
      go_ret
      exact ⟨ret_int HE.out.symm, rfl⟩
    · have HE : Hid (modOf a b = m + a) := by show _ = _; unfold modOf; rw [if_neg h0, hm0]; simp [hs, ht, hz]
      clear hz
      go_enter Tryz.func196, Tryz.ntmps196
      go_wp2
      go_ret
      exact ⟨ret_int HE.out.symm, rfl⟩
  · by_cases ht : a < 0
    · have HE : Hid (modOf a b = m + a) := by show _ = _; unfold modOf; rw [if_neg h0, hm0]; simp [hs, ht, hz]
      clear hz
      go_enter Tryz.func196, Tryz.ntmps196
      go_wp2
      go_ret
      exact ⟨ret_int HE.out.symm, rfl⟩
    · have HE : Hid (modOf a b = m) := by show _ = _; unfold modOf; rw [if_neg h0, hm0]; simp [hs, ht]
      clear hz
      go_enter Tryz.func196, Tryz.ntmps196
      go_wp2
      go_ret
      exact ⟨ret_int HE.out.symm, rfl⟩

end Go.Proofs.YtgjpchnkodnieaaGreatDoor
namespace Go.Proofs.YtgjpchnkodnieaaGreatDoor

/-- The axis' numbers as axisOf gives them: before, along, behind. -/
structure AxisIs (sh : List Int) (fl : Bool) (B L A : Nat) : Prop where
  b : axisB sh fl = B
  l : axisN sh fl = L
  a : axisA sh fl = A

theorem axis_is {c : Bool} {sh dt : List Int} (fl : Bool) (hok : arrOk c sh dt = true) (hne : sh ≠ []) : ∃ B L A : Nat, AxisIs sh fl B L A ∧ B * L * A = dt.length ∧ B ≤ 10000 ∧ L ≤ 10000 ∧ A ≤ 10000 := by
  obtain ⟨hin, hp, _⟩ := shapeIn_of hok
  have h1 := (hin.take (axisAt sh fl)).bd
  have h2 := hin.cell (axisAt sh fl)
  have h3 := (hin.drop (axisAt sh fl + 1)).bd
  have e := axis_all sh fl hne
  rw [hp] at e
  obtain ⟨B, hB⟩ : ∃ B : Nat, axisB sh fl = B := ⟨(axisB sh fl).toNat, by unfold axisB; omega⟩
  obtain ⟨L, hL⟩ : ∃ L : Nat, axisN sh fl = L := ⟨(axisN sh fl).toNat, by unfold axisN; omega⟩
  obtain ⟨A, hA⟩ : ∃ A : Nat, axisA sh fl = A := ⟨(axisA sh fl).toNat, by unfold axisA; omega⟩
  refine ⟨B, L, A, ⟨hB, hL, hA⟩, ?_, ?_, ?_, ?_⟩
  · rw [hB, hL, hA] at e
    exact_mod_cast e
  · unfold axisB at hB; omega
  · unfold axisN at hL; omega
  · unfold axisA at hA; omega

end Go.Proofs.YtgjpchnkodnieaaGreatDoor
namespace Go.Proofs.YtgjpchnkodnieaaGreatDoor
open Go.RowKit

set_option maxRecDepth 20000 in
set_option maxHeartbeats 8000000 in
theorem Rotate_any (c d : Bool) (a1 a2 b1 b2 : Addr) (n1 n2 m1 m2 c1 c2 d1 d2 : Nat) (sh dt sh' dt' : List Int) (fl : Bool) (w : World) (h1 : Row w (some a1) n1 sh) (h2 : Row w (some a2) n2 dt) (k1 : Row w (some b1) m1 sh') (k2 : Row w (some b2) m2 dt') :
    Calls Tryz.prog 126 #[.agg #[.bool c, .slice (some a1) n1 c1, .slice (some a2) n2 c2], .agg #[.bool d, .slice (some b1) m1 d1, .slice (some b2) m2 d2], .bool fl] w (GivesRow w (rotate c d sh dt sh' dt' fl)) := by
  have hl1 := hide h1.len
  have hl2 := hide h2.len
  have hl3 := hide k1.len
  have hl4 := hide k2.len
  have hs1 := h1.small
  have hs2 := h2.small
  have hs3 := k1.small
  have hs4 := k2.small
  have H1 := hide h1
  have H2 := hide h2
  have K1 := hide k1
  have K2 := hide k2
  clear h1 h2 k1 k2
  obtain ⟨r1, hr1⟩ : ∃ r, arrOk c sh dt = r := ⟨_, rfl⟩
  obtain ⟨r2, hr2⟩ : ∃ r, arrOk d sh' dt' = r := ⟨_, rfl⟩
  have HR1 := hide hr1
  have HR2 := hide hr2
  clear hr1 hr2
  go_enter Tryz.func126, Tryz.ntmps126
  go_wp2_with fail
  refine (ArrayOk_eq _ _ _ _ _ _ _ sh dt _ ((((unhide H1).alloc _).alloc _).alloc _) ((((unhide H2).alloc _).alloc _).alloc _) _ HR1).mono ?_
  rintro e w1 ⟨rfl, hb1⟩
  obtain ⟨B4, B5, B6, hB1⟩ := boxes3 hb1
  have hz1 := B6.lt
  clear hb1
  obtain ⟨x0, x1, x2, x3, x4, x5, x6⟩ := B4.all
  obtain ⟨y0, y1, y2, y3, y4, y5, y6⟩ := B5.all
  cases r1 with
  | false =>
    have HS : Hid (rotate c d sh dt sh' dt' fl = noAns 3) := rotate_bad1 (unhide HR1)
    go_wp2_with fail
    refine (l4None_any _).mono ?_
    rintro e w9 ⟨rfl, hb9⟩
    obtain ⟨q0, q1, q2, q3, q4, q5, q6⟩ := ((B6).below (Nat.le_refl _) hb9).all
    have hB9 := hide ((hB1).trans (hb9.mono (hB1).size))
    clear hb9 hB1 B4 B5 B6 hz1 x0 x1 x2 x3 x4 x5 x6 y0 y1 y2 y3 y4 y5 y6
    go_wp2
    refine bodyPost_ret (v := .tuple #[.agg #[.bool false, .slice none 0 0, .slice none 0 0], .int .i64 3]) (by simp [results, Tryz.results126, go_sem, q0, q1, q2]) rfl ?_
    rw [unhide HS]
    exact ⟨none, 0, 0, none, 0, 0, rfl, row_nil _ _, row_nil _ _, (((unhide hB9).setCell (by simp <;> omega) _).setCell (by simp <;> omega) _).setCell (by simp <;> omega) _⟩
  | true =>
    go_wp2_with fail
    refine (ArrayOk_eq _ _ _ _ _ _ _ sh' dt' _ ((unhide K1).below (Nat.le_refl _) hB1) ((unhide K2).below (Nat.le_refl _) hB1) _ HR2).mono ?_
    rintro e w2 ⟨rfl, hb2⟩
    have C4 := hide (B4.below (Nat.le_refl _) hb2)
    have C5 := hide (B5.below (Nat.le_refl _) hb2)
    have C6 := hide (B6.below (Nat.le_refl _) hb2)
    have hB2 := hide (hB1.trans (hb2.mono hB1.size))
    clear hb2 hB1 B4 B5 B6 hz1 x0 x1 x2 x3 x4 x5 x6 y0 y1 y2 y3 y4 y5 y6 w1
    cases r2 with
    | false =>
      have HS : Hid (rotate c d sh dt sh' dt' fl = noAns 3) := rotate_bad2 (unhide HR2)
      go_wp2_with fail
      refine (l4None_any _).mono ?_
      rintro e w9 ⟨rfl, hb9⟩
      obtain ⟨q0, q1, q2, q3, q4, q5, q6⟩ := ((unhide C6).below (Nat.le_refl _) hb9).all
      have hB9 := hide ((unhide hB2).trans (hb9.mono (unhide hB2).size))
      clear hb9 C4 C5 C6 hB2
      go_wp2
      refine bodyPost_ret (v := .tuple #[.agg #[.bool false, .slice none 0 0, .slice none 0 0], .int .i64 3]) (by simp [results, Tryz.results126, go_sem, q0, q1, q2]) rfl ?_
      rw [unhide HS]
      exact ⟨none, 0, 0, none, 0, 0, rfl, row_nil _ _, row_nil _ _, (((unhide hB9).setCell (by simp <;> omega) _).setCell (by simp <;> omega) _).setCell (by simp <;> omega) _⟩
    | true =>
      obtain ⟨x0, x1, x2, x3, x4, x5, x6⟩ := (unhide C4).all
      obtain ⟨y0, y1, y2, y3, y4, y5, y6⟩ := (unhide C5).all
      obtain ⟨r, hr⟩ : ∃ r, singleCode c n2 = r := ⟨_, rfl⟩
      have HSC := hide hr
      have HCC : Hid (singleCode c dt.length = r) := by rw [unhide hl2]; exact hr
      clear hr
      go_upto_region 4 with (go_at_call 154; refine (l5Single_any c _ _ _ _ _ hs2 r HSC).mono ?_; rintro e w3 ⟨rfl, hb3⟩; have HB3 := hide hb3; clear hb3)
      have D4 := hide ((unhide C4).below (Nat.le_refl _) (unhide HB3))
      have D5 := hide ((unhide C5).below (Nat.le_refl _) (unhide HB3))
      have D6 := hide ((unhide C6).below (Nat.le_refl _) (unhide HB3))
      have hB3 := hide ((unhide hB2).trans ((unhide HB3).mono (unhide hB2).size))
      clear C4 C5 C6 hB2 HB3 x0 x1 x2 x3 x4 x5 x6 y0 y1 y2 y3 y4 y5 y6 w2
      by_cases h0 : r = 0
      · subst h0
        obtain ⟨y0, y1, y2, y3, y4, y5, y6⟩ := (unhide D5).all
        have hcall := l3Copy_owns d b1 b2 m1 m2 d1 d2 sh' dt' w3 ((unhide K1).below (Nat.le_refl _) (unhide hB3)) ((unhide K2).below (Nat.le_refl _) (unhide hB3))
        go_upto_region 7 with (go_at_call 155; refine hcall.mono ?_; rintro e w4 ⟨s1, f1, s2, f2, rfl, ho, hr2, hap, hb4⟩; have HO := hide ho; have HR := hide hr2; have HAP := hide hap; have HB4 := hide hb4; clear ho hr2 hap hb4)
        clear hcall y0 y1 y2 y3 y4 y5 y6
        obtain ⟨_, _, ev, hO1⟩ := Own.of_owns (unhide HO) hs3
        cases ev
        have hz6 := (unhide D6).lt
        have hz4 := (unhide HB4).size
        have hz3 := (unhide hB3).size
        have E4 := hide (((unhide D4).below (Nat.le_refl _) (unhide HB4)).alloc (.cells #[.bool d, .slice s1 m1 f1, .slice s2 m2 f2] 25))
        have E5 := hide (((unhide D5).below (Nat.le_refl _) (unhide HB4)).alloc (.cells #[.bool d, .slice s1 m1 f1, .slice s2 m2 f2] 25))
        have E6 := hide (((unhide D6).below (Nat.le_refl _) (unhide HB4)).alloc (.cells #[.bool d, .slice s1 m1 f1, .slice s2 m2 f2] 25))
        have E7 := hide (Box.new w4 d (.slice s1 m1 f1) (.slice s2 m2 f2))
        have HS1 : Hid (Own (w4.alloc (.cells #[.bool d, .slice s1 m1 f1, .slice s2 m2 f2] 25)) (w.heap.size + 3) s1 m1 sh') := (hO1.mono (by omega)).alloc _
        have HS2 : Hid (Own (w4.alloc (.cells #[.bool d, .slice s1 m1 f1, .slice s2 m2 f2] 25)) (w.heap.size + 3) s2 m2 dt') := ((unhide HR).mono (by omega)).alloc _
        have HAP' : Hid (∀ x, At s1 m1 x → ∀ y, At s2 m2 y → x ≠ y) := fun x hx y hy e => by
          obtain ⟨hne, pa, e1, e2⟩ := hx
          subst e1
          have h1 := unhide HAP y hy
          rcases (unhide HO).2 with ⟨hv, _⟩ | ⟨g, cap, cur, hv, _⟩
          · simp at hv
          · simp at hv
            apply h1
            obtain ⟨e3, _⟩ := hv
            rw [e3] at e2 ⊢
            simp [Value.ownBlock] at e2 ⊢
            omega
        have HW : Hid (Below w.heap.size w (w4.alloc (.cells #[.bool d, .slice s1 m1 f1, .slice s2 m2 f2] 25))) := ((unhide hB3).trans ((unhide HB4).mono hz3)).alloc (by omega) _
        have hp2 : w.heap.size + 2 < w4.heap.size := by omega
        generalize w4.alloc (.cells #[.bool d, .slice s1 m1 f1, .slice s2 m2 f2] 25) = W at *
        have hpl : w4.heap.size < W.heap.size := (unhide E7).lt
        generalize w4.heap.size = p at *
        clear hO1 HO HR HAP D4 D5 D6 hB3 HB4 hz6 hz4 hz3 w4 w3
        obtain ⟨y0, y1, y2, y3, y4, y5, y6⟩ := (unhide E5).all
        obtain ⟨v0, v1, v2, v3, v4, v5, v6⟩ := (unhide E7).all
        obtain ⟨z0, z1, z2, z3, z4, z5, z6⟩ := (unhide E6).all
        by_cases hm1 : m1 = 0
        · have HS : Hid (rotate c d sh dt sh' dt' fl = ⟨d, sh', dt', 0⟩) := rotate_none (unhide HR1) (unhide HR2) (unhide HCC) (.inl (List.length_eq_zero_iff.mp (by rw [unhide hl3]; exact hm1)))
          have g0 : ((m1 : Int) == 0) = true := by simp; omega
          clear hm1
          go_wp2
          refine bodyPost_ret (v := .tuple #[.agg #[.bool d, .slice s1 m1 f1, .slice s2 m2 f2], .int .i64 0]) (by simp [results, Tryz.results126, go_sem, z0, z1, z2]) rfl ?_
          rw [unhide HS]
          exact ⟨_, _, _, _, _, _, rfl, (unhide HS1).row.sets (unhide E6) _ _ _, (unhide HS2).row.sets (unhide E6) _ _ _, (((unhide HW).setCell (by simp <;> omega) _).setCell (by simp <;> omega) _).setCell (by simp <;> omega) _⟩

        · have g0 : ((m1 : Int) == 0) = false := by simp; omega
          by_cases hm2 : m2 = 0
          · have HS : Hid (rotate c d sh dt sh' dt' fl = ⟨d, sh', dt', 0⟩) := rotate_none (unhide HR1) (unhide HR2) (unhide HCC) (.inr (List.length_eq_zero_iff.mp (by rw [unhide hl4]; exact hm2)))
            have g1 : ((m2 : Int) == 0) = true := by simp; omega
            clear hm1 hm2
            go_wp2
            refine bodyPost_ret (v := .tuple #[.agg #[.bool d, .slice s1 m1 f1, .slice s2 m2 f2], .int .i64 0]) (by simp [results, Tryz.results126, go_sem, z0, z1, z2]) rfl ?_
            rw [unhide HS]
            exact ⟨_, _, _, _, _, _, rfl, (unhide HS1).row.sets (unhide E6) _ _ _, (unhide HS2).row.sets (unhide E6) _ _ _, (((unhide HW).setCell (by simp <;> omega) _).setCell (by simp <;> omega) _).setCell (by simp <;> omega) _⟩

          · have g1 : ((m2 : Int) == 0) = false := by simp; omega
            have hne : sh' ≠ [] := fun e => hm1 (by rw [← unhide hl3, e]; rfl)
            have hne2 : dt' ≠ [] := fun e => hm2 (by rw [← unhide hl4, e]; rfl)
            obtain ⟨B, n, A, hax, hprod, hBb, hnb, hAb⟩ := axis_is fl (unhide HR2) hne
            rw [unhide hl4] at hprod
            have hn0 : 0 < n := by rcases Nat.eq_zero_or_pos n with h | h; (· subst h; simp at hprod; omega); exact h
            have hk0 := dataOk_bd (unhide HR1) (k := 0) (by rw [unhide hl2]; have := unhide HCC; unfold singleCode at this; rw [unhide hl2] at this; split at this; (· cases this); rename_i h; simp at h; omega)
            have hn2 : n2 = 1 := by have := unhide HCC; unfold singleCode at this; rw [unhide hl2] at this; split at this; (· cases this); rename_i h; simpa using h
            obtain ⟨hm0, hm3⟩ := modOf_pos hn0 (dt.getD 0 0)
            obtain ⟨e, he⟩ : ∃ e : Nat, modOf (n : Int) (dt.getD 0 0) = (e : Int) := ⟨(modOf (n : Int) (dt.getD 0 0)).toNat, by omega⟩
            have hen : e < n := by omega
            have HS : Hid (rotate c d sh dt sh' dt' fl = ⟨d, sh', vals (rotAt n A e dt') m2, 0⟩) := by rw [← unhide hl4]; exact rotate_go (unhide HR1) (unhide HR2) (unhide HCC) hne hne2 n A e hax.l hax.a he
            subst hn2
            obtain ⟨bk, ok, hab, hbk, hck⟩ := (unhide H2).get (by omega : 0 < 1)
            cases hab
            have hckW := ((unhide HW).cell (p := ⟨bk, ok + 0, none⟩) hbk).trans hck
            obtain ⟨kk, hkk⟩ : ∃ k, k = dt.getD 0 0 := ⟨_, rfl⟩
            rw [← hkk] at hckW hk0 he
            have hca := l4Axis_any (some b1) m1 d1 sh' fl W ((unhide K1).below (Nat.le_refl _) (unhide HW)) (shapeIn_of (unhide HR2)).1 (by omega)
            rw [hax.b, hax.l, hax.a] at hca
            have HCM : Hid (∀ wx, Calls Tryz.prog 196 #[.int .i64 (n : Nat), .int .i64 kk] wx fun e' w' => e' = .returned (.int .i64 (e : Nat)) ∧ w' = wx) := fun wx => by
              have := l4Mod_any (n : Nat) kk wx ⟨by omega, by omega⟩ hk0
              rwa [he] at this
            have HPR := hide hprod
            have hm2' := hm2
            clear hne hne2 hax hprod hm0 hm3 he hkk hk0 hck hm1 hm2
            obtain ⟨x0, x1, x2, x3, x4, x5, x6⟩ := (unhide E4).all
            go_upto_region 10 with (go_at_call 106; refine hca.mono ?_; rintro e' w5 ⟨rfl, hb5⟩; have HB5 := hide hb5; clear hb5)
            clear hca x0 x1 x2 x3 x4 x5 x6
            obtain ⟨x0, x1, x2, x3, x4, x5, x6⟩ := ((unhide E4).below (Nat.le_refl _) (unhide HB5)).all
            have hckr : w5.cell? ⟨bk, ok, none⟩ = some (.int .i64 kk) := ((unhide HB5).cell (p := ⟨bk, ok + 0, none⟩) (Nat.lt_of_lt_of_le hbk (unhide HW).size)).trans hckW
            go_upto_region 11 with (go_at_call 196; refine (unhide HCM _).mono ?_; rintro e' wq ⟨rfl, hw⟩; obtain rfl := hw.symm)
            have F5 := hide ((unhide E5).below (Nat.le_refl _) (unhide HB5))
            have F6 := hide ((unhide E6).below (Nat.le_refl _) (unhide HB5))
            have F7 := hide ((unhide E7).below (Nat.le_refl _) (unhide HB5))
            have HT1 := hide ((unhide HS1).below (Nat.le_refl _) (unhide HB5))
            have HT2 := hide ((unhide HS2).below (Nat.le_refl _) (unhide HB5))
            have HW5 := hide ((unhide HW).trans ((unhide HB5).mono (unhide HW).size))
            clear x0 x1 x2 x3 x4 x5 x6 y0 y1 y2 y3 y4 y5 y6 z0 z1 z2 z3 z4 z5 z6 v0 v1 v2 v3 v4 v5 v6 E4 E5 E6 E7 HS1 HS2 HW HB5 hckW hckr HCM hbk g0 g1 hpl W
            have hm2 : 0 < m2 := by
              have := unhide HPR
              rcases Nat.eq_zero_or_pos m2 with h | h
              · exact absurd h hm2'
              · exact h
            rcases (unhide HT2).at_ with h | ⟨g, off, rfl, hg, hgl, _, _⟩
            · omega
            have hgp : g ≠ p := (unhide HT2).row.notBox (unhide F7) (at_self (by omega))
            obtain ⟨R, hR⟩ : ∃ R, R = vals (rotAt n A e dt') m2 := ⟨_, rfl⟩
            have HRL : Hid (R.length = m2) := by rw [hR, vals_len]; exact rfl
            have HRG : Hid (∀ P i q, P < B → i < n → q < A → R.getD ((P * n + i) * A + q) 0 = dt'.getD ((P * n + (i + e) % n) * A + q) 0) := by
              intro P i q hP hi hq
              have h1 := three_lt hP hi hq
              rw [unhide HPR] at h1
              rw [hR, vals_get _ _ _ h1]
              show dt'.getD (rotFrom n A e _) 0 = _
              rw [rotFrom_at hi hq]
            rw [← hR] at HS
            clear hR
            have HT0 : Hid (RotTo w5 (w.heap.size + 3) g off m2 R dt' 0 w5) := ⟨by simpa using unhide HT2, But.refl _ _⟩
            have HBX : Hid (∀ wx, But (fun k => k = g) w5 wx → Box wx p d (.slice s1 m1 f1) (.slice (some ⟨g, off, none⟩) m2 f2) ∧ Box wx (w.heap.size + 1) d (.slice (some b1) m1 d1) (.slice (some b2) m2 d2)) := fun wx hwx => ⟨(unhide F7).but hwx (fun e => hgp e.symm), (unhide F5).but hwx (by show ¬ (w.heap.size + 1 = g); omega)⟩
            go_wp2_with fail
            go_loopw [14] (fun v wr => ∃ P : Nat, P ≤ B ∧ v = .int .i64 (P : Nat) ∧ Hid (RotTo w5 (w.heap.size + 3) g off m2 R dt' (P * n * A) wr)) (fun v _ => B - (intOf v).toNat)
            case atStart => exact ⟨0, Nat.zero_le _, rfl, by simpa using HT0⟩
            case round =>
              obtain ⟨P, hP, rfl, ht⟩ := hrel
              clear HT0
              by_cases hlt : P < B
              · obtain ⟨wo, hwo⟩ : ∃ x, x = wr := ⟨_, rfl⟩
                subst hwo
                go_wp2_with fail
                go_loopw [15] (fun v wr => ∃ i : Nat, i ≤ n ∧ v = .int .i64 (i : Nat) ∧ Hid (RotTo w5 (w.heap.size + 3) g off m2 R dt' ((P * n + i) * A) wr)) (fun v _ => n - (intOf v).toNat)
                case atStart => exact ⟨0, Nat.zero_le _, rfl, by simpa using ht⟩
                case round =>
                  obtain ⟨i, hi, rfl, ht2⟩ := hrel
                  clear ht wo
                  by_cases hli : i < n
                  · obtain ⟨wo, hwo⟩ : ∃ x, x = wr := ⟨_, rfl⟩
                    subst hwo
                    go_wp2_with fail
                    go_loopw [16] (fun v wr => ∃ q : Nat, q ≤ A ∧ v = .int .i64 (q : Nat) ∧ Hid (RotTo w5 (w.heap.size + 3) g off m2 R dt' ((P * n + i) * A + q) wr)) (fun v _ => A - (intOf v).toNat)
                    case atStart => exact ⟨0, Nat.zero_le _, rfl, by simpa using ht2⟩
                    case round =>
                      obtain ⟨q, hq, rfl, ht3⟩ := hrel
                      clear ht2 wo
                      by_cases hlq : q < A
                      · have hj0 : (i + e) % n < n := Nat.mod_lt _ hn0
                        obtain ⟨v1, hv1⟩ : ∃ v, v = i + e := ⟨_, rfl⟩
                        obtain ⟨v2, hv2⟩ : ∃ v, v = v1 % n := ⟨_, rfl⟩
                        obtain ⟨u1, hu1⟩ : ∃ v, v = P * n := ⟨_, rfl⟩
                        obtain ⟨u2, hu2⟩ : ∃ v, v = u1 + i := ⟨_, rfl⟩
                        obtain ⟨v3, hv3⟩ : ∃ v, v = u1 + v2 := ⟨_, rfl⟩
                        obtain ⟨u3, hu3⟩ : ∃ v, v = u2 * A := ⟨_, rfl⟩
                        obtain ⟨v4, hv4⟩ : ∃ v, v = v3 * A := ⟨_, rfl⟩
                        obtain ⟨T, hT⟩ : ∃ v, v = u3 + q := ⟨_, rfl⟩
                        obtain ⟨J, hJ⟩ : ∃ v, v = v4 + q := ⟨_, rfl⟩
                        have hTe : T = (P * n + i) * A + q := by rw [hT, hu3, hu2, hu1]
                        have hJe : J = (P * n + (i + e) % n) * A + q := by rw [hJ, hv4, hv3, hu1, hv2, hv1]
                        have ht1 : T < m2 := by rw [hTe, ← unhide HPR]; exact three_lt hlt hli hlq
                        have hj1 : J < m2 := by rw [hJe, ← unhide HPR]; exact three_lt hlt hj0 hlq
                        rw [← hTe] at ht3
                        have hu1b : u1 ≤ 100000000 := by rw [hu1]; exact Nat.mul_le_mul (by omega : P ≤ 10000) hnb
                        have hm4 : m2 ≤ 10000 := by have h9 := (shapeIn_of (unhide HR2)).2.1; rw [unhide hl4] at h9; have := (shapeIn_of (unhide HR2)).1.bd; omega
                        have hv2n : v2 < n := by rw [hv2]; exact Nat.mod_lt _ hn0
                        have hw1 : IntKind.i64.wrap ((P : Int) * (n : Int)) = (u1 : Nat) := wrapN (by rw [hu1]; push_cast; rfl) (by omega)
                        have hw2 : IntKind.i64.wrap ((u1 : Int) + (i : Int)) = (u2 : Nat) := wrapN (by rw [hu2]; push_cast; rfl) (by omega)
                        have hw3 : IntKind.i64.wrap ((u2 : Int) * (A : Int)) = (u3 : Nat) := wrapN (by rw [hu3]; push_cast; rfl) (by omega)
                        have hw4 : IntKind.i64.wrap ((u3 : Int) + (q : Int)) = (T : Nat) := wrapN (by rw [hT]; push_cast; rfl) (by omega)
                        have hw5 : IntKind.i64.wrap ((i : Int) + (e : Int)) = (v1 : Nat) := wrapN (by rw [hv1]; push_cast; rfl) (by omega)
                        have hm9 : v1 % n = v2 := hv2.symm
                        have hm10 : ((v1 : Int) % (n : Int)) = (v2 : Int) := by rw [hv2]; rfl
                        have hm11 : Int.tmod (v1 : Int) (n : Int) = (v2 : Int) := by rw [hv2]; rfl
                        have hn1 : ¬ n = 0 := by omega
                        have hw6 : IntKind.i64.wrap ((u1 : Int) + (v2 : Int)) = (v3 : Nat) := wrapN (by rw [hv3]; push_cast; rfl) (by omega)
                        have hw7 : IntKind.i64.wrap ((v3 : Int) * (A : Int)) = (v4 : Nat) := wrapN (by rw [hv4]; push_cast; rfl) (by omega)
                        have hw8 : IntKind.i64.wrap ((v4 : Int) + (q : Int)) = (J : Nat) := wrapN (by rw [hJ]; push_cast; rfl) (by omega)
                        obtain ⟨bb, ob, hab, hbb, hcb⟩ := (unhide K2).get hj1
                        cases hab
                        have hbw : bb < w5.heap.size := Nat.lt_of_lt_of_le hbb (unhide HW5).size
                        have hcb5 := ((unhide HW5).cell (p := ⟨bb, ob + J, none⟩) hbb).trans hcb
                        have hbg : ¬ bb = g := by omega
                        obtain ⟨x, hx⟩ : ∃ x, x = dt'.getD J 0 := ⟨_, rfl⟩
                        rw [← hx] at hcb5
                        have HX : Hid (R.getD T 0 = x) := by
                          show _ = _
                          rw [hx, hTe, hJe]
                          exact unhide HRG P i q hlt hli hlq
                        have HST : Hid (RotTo w5 (w.heap.size + 3) g off m2 R dt' ((P * n + i) * A + (q + 1)) (wr.setCell ⟨g, off + T, none⟩ (.int .i64 x))) := by
                          have := (unhide ht3).step (unhide HRL) (unhide hl4) ht1 (unhide HX)
                          rwa [show T + 1 = (P * n + i) * A + (q + 1) from by rw [hTe, Nat.add_assoc]] at this
                        have hbut := (unhide ht3).but
                        rcases (unhide ht3).own.at_ with h9 | ⟨g9, off9, e9, _, _, hcc, hff⟩
                        · omega
                        cases e9
                        have hct := hcc T ht1
                        have hft := hff T ht1
                        have hlJ : (J : Int) < (m2 : Int) := by omega
                        have hlT : (T : Int) < (m2 : Int) := by omega
                        clear hcc hff hcb hv2 hu1 hu3 hv4 hx hj0 hv1 hu2 hv3 hT hJ hTe hJe hv2n hu1b
                        obtain ⟨hbp, hb4⟩ := unhide HBX _ hbut
                        obtain ⟨x0, x1, x2, x3, x4, x5, x6⟩ := hbp.all
                        obtain ⟨y0, y1, y2, y3, y4, y5, y6⟩ := hb4.all
                        clear hbp hb4
                        go_upto_region 20 with fail
                        have HKEEP : ∀ wx, But (fun k => k = g) w5 wx → But (fun k => k = g) w5 wx ∧ wx.cell? ⟨p, 2, none⟩ = some (.slice (some ⟨g, off, none⟩) m2 f2) ∧ wx.cell? ⟨w.heap.size + 1, 2, none⟩ = some (.slice (some ⟨bb, ob, none⟩) m2 d2) ∧ wx.cell? ⟨bb, ob + J, none⟩ = some (.int .i64 x) := fun wx hwx => ⟨hwx, (unhide HBX _ hwx).1.cells.2.2, (unhide HBX _ hwx).2.cells.2.2, (hwx.cellAt hbw hbg).trans hcb5⟩
                        go_region_held3 (fun wx => But (fun k => k = g) w5 wx ∧ wx.cell? ⟨p, 2, none⟩ = some (.slice (some ⟨g, off, none⟩) m2 f2) ∧ wx.cell? ⟨w.heap.size + 1, 2, none⟩ = some (.slice (some ⟨bb, ob, none⟩) m2 d2) ∧ wx.cell? ⟨bb, ob + J, none⟩ = some (.int .i64 x)) (first | exact HKEEP _ (hbut.drew.setCell rfl _) | exact HKEEP _ hbut.drew | exact HKEEP _ hbut) (first | fail)
                        all_goals
                          go_wp2_with fail
                          go_roundw
                          case rel => exact ⟨q + 1, by omega, by go_num, by have := unhide HST; exact RotTo.drew this⟩
                          case measure => simp [intOf]; omega
                      · have hqA : q = A := by omega
                        subst hqA
                        go_wp2
                        go_roundw
                        case rel => exact ⟨i + 1, by omega, by go_num, by have := unhide ht3; rwa [show (P * n + (i + 1)) * q = (P * n + i) * q + q from by rw [← Nat.add_assoc, Nat.add_mul, Nat.one_mul]]⟩
                        case measure => simp [intOf]; omega
                  · have hin : i = n := by omega
                    subst hin
                    go_wp2
                    go_roundw
                    case rel => exact ⟨P + 1, by omega, by go_num, by have := unhide ht2; rwa [show (P + 1) * i * A = (P * i + i) * A from by rw [Nat.add_mul, Nat.one_mul]]⟩
                    case measure => simp [intOf]; omega
              · have hPB : P = B := by omega
                subst hPB
                have HE : Hid (R.take (P * n * A) ++ dt'.drop (P * n * A) = R) := by
                  show _ = _
                  rw [unhide HPR, List.take_of_length_le (by rw [unhide HRL]; exact Nat.le_refl _), List.drop_of_length_le (by rw [unhide hl4]; exact Nat.le_refl _), List.append_nil]
                have hbut := (unhide ht).but
                have HO := hide (unhide ht).own
                have HB6 := hide ((unhide F6).but hbut (by show ¬ (w.heap.size + 2 = g); omega))
                have HB7 := hide (unhide HBX _ hbut).1
                have HO1 := hide (hbut.own (unhide HT1) (fun k hk hat => unhide HAP' k hat g (at_self (by omega)) hk))
                have HWr := hide ((unhide HW5).trans (hbut.below (B := w.heap.size) (unhide HW5).size (fun k hk => by omega)))
                obtain ⟨z0, z1, z2, z3, z4, z5, z6⟩ := (unhide HB6).all
                obtain ⟨v0, v1, v2, v3, v4, v5, v6⟩ := (unhide HB7).all
                rw [unhide HE] at HO
                clear ht hbut
                go_wp2
                refine bodyPost_ret (v := .tuple #[.agg #[.bool d, .slice s1 m1 f1, .slice (some ⟨g, off, none⟩) m2 f2], .int .i64 0]) (by simp [results, Tryz.results126, go_sem, z0, z1, z2]) rfl ?_
                rw [unhide HS]
                exact ⟨_, _, _, _, _, _, rfl, (unhide HO1).row.sets (unhide HB6) _ _ _, (unhide HO).row.sets (unhide HB6) _ _ _, (((unhide HWr).setCell (by simp <;> omega) _).setCell (by simp <;> omega) _).setCell (by simp <;> omega) _⟩
      · have HS : Hid (rotate c d sh dt sh' dt' fl = noAns r) := rotate_code (unhide HR1) (unhide HR2) r (unhide HCC) h0
        have hcb : (r != 0) = true := by simp [h0]
        clear h0
        go_wp2_with fail
        refine (l4None_any _).mono ?_
        rintro e w9 ⟨rfl, hb9⟩
        obtain ⟨q0, q1, q2, q3, q4, q5, q6⟩ := ((unhide D6).below (Nat.le_refl _) hb9).all
        have hB9 := hide ((unhide hB3).trans (hb9.mono (unhide hB3).size))
        clear hb9 D4 D5 D6 hB3
        go_wp2
        refine bodyPost_ret (v := .tuple #[.agg #[.bool false, .slice none 0 0, .slice none 0 0], .int .i64 r]) (by simp [results, Tryz.results126, go_sem, q0, q1, q2]) rfl ?_
        rw [unhide HS]
        exact ⟨none, 0, 0, none, 0, 0, rfl, row_nil _ _, row_nil _ _, (((unhide hB9).setCell (by simp <;> omega) _).setCell (by simp <;> omega) _).setCell (by simp <;> omega) _⟩

end Go.Proofs.YtgjpchnkodnieaaGreatDoor
namespace Go.Proofs.YtgjpchnkodnieaaGreatDoor
open Go.RowKit

/-- As GivesRow; the room is said, and no slice of a good answer is nil. -/
def GivesRoom (w : World) (r : Ans) (e : Ending) (w' : World) : Prop :=
  ∃ b1 m1 d1 b2 m2 d2, e = .returned (.tuple #[.agg #[.bool r.c, .slice b1 m1 d1, .slice b2 m2 d2], .int .i64 r.code]) ∧ Row w' b1 m1 r.sh ∧ Row w' b2 m2 r.dt ∧ Below w.heap.size w w' ∧ (m1 ≤ d1 ∧ m2 ≤ d2 ∧ (r.code = 0 → (∃ ad, b1 = some ad) ∧ ∃ ad, b2 = some ad))

end Go.Proofs.YtgjpchnkodnieaaGreatDoor
namespace Go.Proofs.YtgjpchnkodnieaaGreatDoor
open Go.RowKit

theorem owns_capR {w : World} {base e size n m cap : Nat} {a : Option Addr} {xs : List Value} (h : w.ownsRow base e size (.slice a m cap) n xs) : n ≤ cap := by
  rcases h.2 with ⟨e, h0⟩ | ⟨g, c, cur, e, _, _, hc, _⟩
  · cases e; omega
  · cases e; exact hc

set_option maxRecDepth 20000 in
set_option maxHeartbeats 8000000 in
theorem Transpose_room (c d : Bool) (a1 a2 b1 b2 : Addr) (n1 n2 m1 m2 c1 c2 d1 d2 : Nat) (sh dt sh' dt' : List Int) (w : World) (h1 : Row w (some a1) n1 sh) (h2 : Row w (some a2) n2 dt) (k1 : Row w (some b1) m1 sh') (k2 : Row w (some b2) m2 dt') :
    Calls Tryz.prog 14 #[.agg #[.bool c, .slice (some a1) n1 c1, .slice (some a2) n2 c2], .agg #[.bool d, .slice (some b1) m1 d1, .slice (some b2) m2 d2]] w (GivesRoom w (transpose c d sh dt sh' dt')) := by
  have hl1 := hide h1.len
  have hl2 := hide h2.len
  have hl3 := hide k1.len
  have hl4 := hide k2.len
  have hs1 := h1.small
  have hs2 := h2.small
  have hs3 := k1.small
  have hs4 := k2.small
  have H1 := hide h1
  have H2 := hide h2
  have K1 := hide k1
  have K2 := hide k2
  clear h1 h2 k1 k2
  obtain ⟨r1, hr1⟩ : ∃ r, arrOk c sh dt = r := ⟨_, rfl⟩
  obtain ⟨r2, hr2⟩ : ∃ r, arrOk d sh' dt' = r := ⟨_, rfl⟩
  have HR1 := hide hr1
  have HR2 := hide hr2
  clear hr1 hr2
  go_enter Tryz.func14, Tryz.ntmps14
  go_wp2_with fail
  refine (ArrayOk_eq _ _ _ _ _ _ _ sh dt _ ((((unhide H1).alloc _).alloc _).alloc _) ((((unhide H2).alloc _).alloc _).alloc _) _ HR1).mono ?_
  rintro e w1 ⟨rfl, hb1⟩
  obtain ⟨B4, B5, B6, hB1⟩ := boxes3 hb1
  have hz1 := B6.lt
  clear hb1
  obtain ⟨x0, x1, x2, x3, x4, x5, x6⟩ := B4.all
  obtain ⟨y0, y1, y2, y3, y4, y5, y6⟩ := B5.all
  cases r1 with
  | false =>
    have HS : Hid (transpose c d sh dt sh' dt' = noAns 3) := transpose_bad1 (unhide HR1)
    go_wp2_with fail
    refine (l4None_any _).mono ?_
    rintro e w9 ⟨rfl, hb9⟩
    obtain ⟨q0, q1, q2, q3, q4, q5, q6⟩ := ((B6).below (Nat.le_refl _) hb9).all
    have hB9 := hide ((hB1).trans (hb9.mono (hB1).size))
    clear hb9 hB1 B4 B5 B6 hz1 x0 x1 x2 x3 x4 x5 x6 y0 y1 y2 y3 y4 y5 y6
    go_wp2
    refine bodyPost_ret (v := .tuple #[.agg #[.bool false, .slice none 0 0, .slice none 0 0], .int .i64 3]) (by simp [results, Tryz.results14, go_sem, q0, q1, q2]) rfl ?_
    rw [unhide HS]
    exact ⟨none, 0, 0, none, 0, 0, rfl, row_nil _ _, row_nil _ _, (((unhide hB9).setCell (by simp <;> omega) _).setCell (by simp <;> omega) _).setCell (by simp <;> omega) _, Nat.le_refl _, Nat.le_refl _, fun e => absurd e (by first | exact unhide HN0 | decide)⟩
  | true =>
    go_wp2_with fail
    refine (ArrayOk_eq _ _ _ _ _ _ _ sh' dt' _ ((unhide K1).below (Nat.le_refl _) hB1) ((unhide K2).below (Nat.le_refl _) hB1) _ HR2).mono ?_
    rintro e w2 ⟨rfl, hb2⟩
    have C4 := hide (B4.below (Nat.le_refl _) hb2)
    have C5 := hide (B5.below (Nat.le_refl _) hb2)
    have C6 := hide (B6.below (Nat.le_refl _) hb2)
    have hB2 := hide (hB1.trans (hb2.mono hB1.size))
    clear hb2 hB1 B4 B5 B6 hz1 x0 x1 x2 x3 x4 x5 x6 y0 y1 y2 y3 y4 y5 y6 w1
    cases r2 with
    | false =>
      have HS : Hid (transpose c d sh dt sh' dt' = noAns 3) := transpose_bad2 (unhide HR2)
      go_wp2_with fail
      refine (l4None_any _).mono ?_
      rintro e w9 ⟨rfl, hb9⟩
      obtain ⟨q0, q1, q2, q3, q4, q5, q6⟩ := ((unhide C6).below (Nat.le_refl _) hb9).all
      have hB9 := hide ((unhide hB2).trans (hb9.mono (unhide hB2).size))
      clear hb9 C4 C5 C6 hB2
      go_wp2
      refine bodyPost_ret (v := .tuple #[.agg #[.bool false, .slice none 0 0, .slice none 0 0], .int .i64 3]) (by simp [results, Tryz.results14, go_sem, q0, q1, q2]) rfl ?_
      rw [unhide HS]
      exact ⟨none, 0, 0, none, 0, 0, rfl, row_nil _ _, row_nil _ _, (((unhide hB9).setCell (by simp <;> omega) _).setCell (by simp <;> omega) _).setCell (by simp <;> omega) _, Nat.le_refl _, Nat.le_refl _, fun e => absurd e (by first | exact unhide HN0 | decide)⟩
    | true =>
      obtain ⟨x0, x1, x2, x3, x4, x5, x6⟩ := (unhide C4).all
      obtain ⟨y0, y1, y2, y3, y4, y5, y6⟩ := (unhide C5).all
      obtain ⟨r, hr⟩ : ∃ r, listCode c n1 = r := ⟨_, rfl⟩
      have HLC := hide hr
      have HCC : Hid (listCode c sh.length = r) := by rw [unhide hl1]; exact hr
      clear hr
      go_upto_region 4 with (go_at_call 54; refine (l5List_any c _ _ _ _ _ hs1 r HLC).mono ?_; rintro e w3 ⟨rfl, hb3⟩; have HB3 := hide hb3; clear hb3)
      have D4 := hide ((unhide C4).below (Nat.le_refl _) (unhide HB3))
      have D5 := hide ((unhide C5).below (Nat.le_refl _) (unhide HB3))
      have D6 := hide ((unhide C6).below (Nat.le_refl _) (unhide HB3))
      have hB3 := hide ((unhide hB2).trans ((unhide HB3).mono (unhide hB2).size))
      clear C4 C5 C6 hB2 HB3 x0 x1 x2 x3 x4 x5 x6 y0 y1 y2 y3 y4 y5 y6 w2
      by_cases h0 : r = 0
      · subst h0
        obtain ⟨x0, x1, x2, x3, x4, x5, x6⟩ := (unhide D4).all
        obtain ⟨y0, y1, y2, y3, y4, y5, y6⟩ := (unhide D5).all
        by_cases hlen : n2 = m1
        · subst hlen
          have hn5 : n2 ≤ 5 := by rw [← unhide hl3]; exact (shapeIn_of (unhide HR2)).2.2
          have hmk := run_make_row' (P := Tryz.prog) 23 3 (.int .i64 0) 8 Tryz.underlying23 info_int rfl .i64 .i64 n2 (by omega) (by omega)
          have hmb := run_make_row' (P := Tryz.prog) 79 4 (.bool false) 1 Tryz.underlying79 info_boolT rfl .i64 .i64 n2 (by omega) (by omega)
          go_upto_region 9 with fail
          go_cut [8] (fun r wx => LaidTr w3 d n2 r wx)
          case first =>
            as_aux_lemma =>
              go_region
              all_goals go_wp2_with fail
              all_goals go_meet
              all_goals case rel =>
                apply laidT_of
                · (repeat (first | with_reducible exact Box.new' (by first | rfl | (simp; done) | (simp <;> omega)) | with_reducible refine Box.sets ?_ | with_reducible refine Box.alloc ?_ _ | with_reducible refine Box.drew ?_))
                · (repeat (first | with_reducible exact Blk.made _ _ _ (by first | rfl | (simp; done) | (simp <;> omega)) | with_reducible exact Blk.new' (by first | rfl | (simp; done) | (simp <;> omega)) | with_reducible refine Blk.alloc ?_ _ | with_reducible refine Blk.drew ?_ | with_reducible refine Blk.other ?_ (by first | omega | (simp <;> omega)) _))
                · (repeat (first | with_reducible exact Blk.made _ _ _ (by first | rfl | (simp; done) | (simp <;> omega)) | with_reducible exact Blk.new' (by first | rfl | (simp; done) | (simp <;> omega)) | with_reducible refine Blk.alloc ?_ _ | with_reducible refine Blk.drew ?_ | with_reducible refine Blk.other ?_ (by first | omega | (simp <;> omega)) _))
                · (repeat (first | with_reducible exact Below.refl _ _ | with_reducible refine Below.drew ?_ | with_reducible refine Below.alloc ?_ (by first | omega | (simp <;> omega)) _ | with_reducible refine Below.setCell ?_ (by first | omega | (simp <;> omega)) _))
                · refine ⟨?_, ?_, ?_, ?_, ?_, ?_⟩ <;> first | omega | (simp; done) | (simp <;> omega)
          case rest =>
            obtain ⟨w4, hw4⟩ : ∃ x, x = wc := ⟨_, rfl⟩
            subst hw4
            obtain ⟨p, gs, g0, rfl, hbx, hks, hk0, hb4, hp, hgs, hg0, hne1, hne2, hne3⟩ := hcut
            have hw34 := hb4.size
            have hz6 := (unhide D6).lt
            have E4 := hide ((unhide D4).below (Nat.le_refl _) hb4)
            have E5 := hide ((unhide D5).below (Nat.le_refl _) hb4)
            have E6 := hide ((unhide D6).below (Nat.le_refl _) hb4)
            have HW4 := hide ((unhide hB3).trans (hb4.mono (unhide hB3).size))
            have HBX := hide hbx
            have HKS := hide hks
            have HK0 := hide hk0
            have hpl := hbx.lt
            have hgsl := hks.lt
            have hg0l := hk0.lt
            clear hbx hks hk0 hb4 x0 x1 x2 x3 x4 x5 x6 y0 y1 y2 y3 y4 y5 y6 D4 D5 D6 hB3
            go_upto_region 11 with fail
            have F4 := hide ((unhide E4).alloc (.cells (madeCells #[.bool false] n2) 4))
            have F5 := hide ((unhide E5).alloc (.cells (madeCells #[.bool false] n2) 4))
            have F6 := hide ((unhide E6).alloc (.cells (madeCells #[.bool false] n2) 4))
            have FBX := hide ((unhide HBX).alloc (.cells (madeCells #[.bool false] n2) 4))
            have FKS := hide ((unhide HKS).alloc (.cells (madeCells #[.bool false] n2) 4))
            have FK0 := hide ((unhide HK0).alloc (.cells (madeCells #[.bool false] n2) 4))
            have FSB := hide (BBlk.made w4 n2 w4.heap.size rfl)
            have FW : Hid (Below w.heap.size w (w4.alloc (.cells (madeCells #[.bool false] n2) 4))) := (unhide HW4).alloc (by have := (unhide HW4).size; omega) _
            have hWz : (w4.alloc (.cells (madeCells #[.bool false] n2) 4)).heap.size = w4.heap.size + 1 := by simp
            generalize w4.alloc (.cells (madeCells #[.bool false] n2) 4) = W at *
            generalize w4.heap.size = gb at *
            generalize w3.heap.size = H at *
            clear E4 E5 E6 HBX HKS HK0 HW4
            go_wp2_with fail
            go_loopw [10] (fun v wr => ∃ i : Nat, i ≤ n2 ∧ v = .int .i64 (i : Nat) ∧ Hid (orderOk dt n2 i = true) ∧ Hid (Blk wr gs (turnN dt sh' n2 i)) ∧ Hid (BBlk wr gb (seenN dt n2 i)) ∧ Hid (Box wr p d (.slice (some ⟨gs, 0, none⟩) n2 n2) (.slice (some ⟨g0, 0, none⟩) 0 0)) ∧ Hid (Blk wr g0 []) ∧ Hid (Below H W wr)) (fun v _ => n2 - (intOf v).toNat)
            case atStart => exact ⟨0, Nat.zero_le _, rfl, rfl, FKS, FSB, FBX, FK0, Below.refl _ _⟩
            case round =>
              obtain ⟨i, hi, rfl, hord, hsh, hse, hbx, hk0, hlow⟩ := hrel
              clear FKS FSB FBX FK0
              have G4 := hide ((unhide F4).low (by omega) (unhide hlow))
              have G5 := hide ((unhide F5).low (by omega) (unhide hlow))
              have G6 := hide ((unhide F6).low (by omega) (unhide hlow))
              have GW := hide ((unhide FW).trans ((unhide hlow).mono (by omega)))
              obtain ⟨x0, x1, x2, x3, x4, x5, x6⟩ := (unhide G4).all
              obtain ⟨y0, y1, y2, y3, y4, y5, y6⟩ := (unhide G5).all
              obtain ⟨v0, v1, v2, v3, v4, v5, v6⟩ := (unhide hbx).all
              by_cases hlt : i < n2
              · obtain ⟨bk, ok, hab, hbk, hck⟩ := (unhide H2).get hlt
                cases hab
                have hckr := ((unhide GW).cell (p := ⟨bk, ok + i, none⟩) hbk).trans hck
                obtain ⟨be, oe, hab, hbe, hce⟩ := (unhide K1).get hlt
                cases hab
                have hcer := ((unhide GW).cell (p := ⟨be, oe + i, none⟩) hbe).trans hce
                have hxb := dataOk_bd (unhide HR1) (k := i) (by rw [unhide hl2]; exact hlt)
                obtain ⟨x, hx⟩ : ∃ x, x = dt.getD i 0 := ⟨_, rfl⟩
                obtain ⟨y, hy⟩ : ∃ y, y = sh'.getD i 0 := ⟨_, rfl⟩
                rw [← hx] at hckr hxb
                rw [← hy] at hcer
                have HX := hide hx
                have HY := hide hy
                clear hx hy hck hce
                by_cases hx0 : x < 1
                · have HS : Hid (transpose c d sh dt sh' dt' = noAns 3) := transpose_dom (unhide HR1) (unhide HR2) (unhide HCC) (by rw [unhide hl2, unhide hl3]) (by rw [unhide hl3]; exact order_bad hlt (by unfold stepOk; rw [← unhide HX, decide_eq_false (by omega)]; rfl))
                  have g0' : x - 1 < 0 := by omega
                  clear hx0
                  go_wp2_with fail
                  refine (l4None_any _).mono ?_
                  rintro e w9 ⟨rfl, hb9⟩
                  obtain ⟨q0, q1, q2, q3, q4, q5, q6⟩ := ((unhide G6).below (Nat.le_refl _) hb9).all
                  have hB9 := hide ((unhide GW).trans (hb9.mono (unhide GW).size))
                  clear hb9 G4 G5 G6 GW x0 x1 x2 x3 x4 x5 x6 y0 y1 y2 y3 y4 y5 y6 v0 v1 v2 v3 v4 v5 v6
                  go_wp2
                  refine bodyPost_ret (v := .tuple #[.agg #[.bool false, .slice none 0 0, .slice none 0 0], .int .i64 3]) (by simp [results, Tryz.results14, go_sem, q0, q1, q2]) rfl ?_
                  rw [unhide HS]
                  exact ⟨none, 0, 0, none, 0, 0, rfl, row_nil _ _, row_nil _ _, (((unhide hB9).setCell (by simp <;> omega) _).setCell (by simp <;> omega) _).setCell (by simp <;> omega) _, Nat.le_refl _, Nat.le_refl _, fun e => absurd e (by first | exact unhide HN0 | decide)⟩
                · by_cases hxn : (n2 : Int) < x
                  · have HS : Hid (transpose c d sh dt sh' dt' = noAns 3) := transpose_dom (unhide HR1) (unhide HR2) (unhide HCC) (by rw [unhide hl2, unhide hl3]) (by rw [unhide hl3]; exact order_bad hlt (by unfold stepOk; rw [← unhide HX, decide_eq_false (by omega)]; rfl))
                    have g0' : (n2 : Int) ≤ x - 1 := by omega
                    have g1' : ¬ (x - 1 < 0) := by omega
                    clear hx0 hxn
                    go_wp2_with fail
                    refine (l4None_any _).mono ?_
                    rintro e w9 ⟨rfl, hb9⟩
                    obtain ⟨q0, q1, q2, q3, q4, q5, q6⟩ := ((unhide G6).below (Nat.le_refl _) hb9).all
                    have hB9 := hide ((unhide GW).trans (hb9.mono (unhide GW).size))
                    clear hb9 G4 G5 G6 GW x0 x1 x2 x3 x4 x5 x6 y0 y1 y2 y3 y4 y5 y6 v0 v1 v2 v3 v4 v5 v6
                    go_wp2
                    refine bodyPost_ret (v := .tuple #[.agg #[.bool false, .slice none 0 0, .slice none 0 0], .int .i64 3]) (by simp [results, Tryz.results14, go_sem, q0, q1, q2]) rfl ?_
                    rw [unhide HS]
                    exact ⟨none, 0, 0, none, 0, 0, rfl, row_nil _ _, row_nil _ _, (((unhide hB9).setCell (by simp <;> omega) _).setCell (by simp <;> omega) _).setCell (by simp <;> omega) _, Nat.le_refl _, Nat.le_refl _, fun e => absurd e (by first | exact unhide HN0 | decide)⟩
                  · obtain ⟨k, hk⟩ : ∃ k : Nat, x = (k : Int) + 1 := ⟨(x - 1).toNat, by omega⟩
                    have hkn : k < n2 := by omega
                    have HAX : Hid (axNo dt i = k) := by show _ = _; unfold axNo; rw [← unhide HX, hk]; omega
                    have hcs := (unhide hse).cell (i := k) (by rw [seenN_len]; exact hkn)
                    have hfs := (unhide hse).free k
                    have hct := (unhide hsh).cell (i := k) (by rw [turnN_len]; exact hkn)
                    have hft := (unhide hsh).free k
                    obtain ⟨sb, hsb⟩ : ∃ b, b = (seenN dt n2 i).getD k false := ⟨_, rfl⟩
                    rw [← hsb] at hcs
                    have HSK : Hid (stepOk dt n2 i = !sb) := by
                      show _ = _
                      unfold stepOk
                      rw [← unhide HX, decide_eq_true (by omega), unhide HAX, hsb]; rfl
                    subst hk
                    have hwk : IntKind.i64.wrap ((k : Int) + 1 - 1) = (k : Int) := by rw [IntKind.wrap_i64]; omega
                    clear hsb hx0 hxn
                    cases sb with
                    | true =>
                      have HS : Hid (transpose c d sh dt sh' dt' = noAns 3) := transpose_dom (unhide HR1) (unhide HR2) (unhide HCC) (by rw [unhide hl2, unhide hl3]) (by rw [unhide hl3]; exact order_bad hlt (unhide HSK))
                      go_wp2_with fail
                      refine (l4None_any _).mono ?_
                      rintro e w9 ⟨rfl, hb9⟩
                      obtain ⟨q0, q1, q2, q3, q4, q5, q6⟩ := ((unhide G6).below (Nat.le_refl _) hb9).all
                      have hB9 := hide ((unhide GW).trans (hb9.mono (unhide GW).size))
                      clear hb9 G4 G5 G6 GW x0 x1 x2 x3 x4 x5 x6 y0 y1 y2 y3 y4 y5 y6 v0 v1 v2 v3 v4 v5 v6
                      go_wp2
                      refine bodyPost_ret (v := .tuple #[.agg #[.bool false, .slice none 0 0, .slice none 0 0], .int .i64 3]) (by simp [results, Tryz.results14, go_sem, q0, q1, q2]) rfl ?_
                      rw [unhide HS]
                      exact ⟨none, 0, 0, none, 0, 0, rfl, row_nil _ _, row_nil _ _, (((unhide hB9).setCell (by simp <;> omega) _).setCell (by simp <;> omega) _).setCell (by simp <;> omega) _, Nat.le_refl _, Nat.le_refl _, fun e => absurd e (by first | exact unhide HN0 | decide)⟩
                    | false =>
                      have HO1 : Hid (orderOk dt n2 (i + 1) = true) := by show (orderOk dt n2 i && stepOk dt n2 i) = true; rw [unhide hord, unhide HSK]; rfl
                      go_upto_region 18 with fail
                      have I4 := hide ((unhide G4).other (q := ⟨gb, k, none⟩) (by show w.heap.size ≠ gb; omega) (.bool true))
                      have I5 := hide ((unhide G5).other (q := ⟨gb, k, none⟩) (by show w.heap.size + 1 ≠ gb; omega) (.bool true))
                      have IBX := hide ((unhide hbx).other (q := ⟨gb, k, none⟩) (by show p ≠ gb; omega) (.bool true))
                      have ISH := hide ((unhide hsh).other (p := ⟨gb, k, none⟩) (by show gs ≠ gb; omega) (.bool true))
                      have IK0 := hide ((unhide hk0).other (p := ⟨gb, k, none⟩) (by show g0 ≠ gb; omega) (.bool true))
                      have ISE := hide ((unhide hse).set k true)
                      have ILW := hide ((unhide hlow).setCell (p := ⟨gb, k, none⟩) (by show H ≤ gb; omega) (.bool true))
                      have IW := hide ((unhide GW).setCell (p := ⟨gb, k, none⟩) (by show w.heap.size ≤ gb; omega) (.bool true))
                      clear x0 x1 x2 x3 x4 x5 x6 y0 y1 y2 y3 y4 y5 y6 v0 v1 v2 v3 v4 v5 v6 hcs hfs hct hft hckr hcer G4 G5 hbx hsh hk0 hse hlow GW G6
                      generalize wr.setCell ⟨gb, k, none⟩ (.bool true) = w7 at *
                      have hbew : be < w7.heap.size := Nat.lt_of_lt_of_le hbe (unhide IW).size
                      have hceY : w7.cell? ⟨be, oe + i, none⟩ = some (.int .i64 y) := by
                        obtain ⟨be', oe', hab', _, hc'⟩ := ((unhide K1).below (Nat.le_refl _) (unhide IW)).get hlt
                        cases hab'
                        rw [hc', unhide HY]
                      have hct := (unhide ISH).cell (i := k) (by rw [turnN_len]; exact hkn)
                      have hft := (unhide ISH).free k
                      obtain ⟨x0, x1, x2, x3, x4, x5, x6⟩ := (unhide I5).all
                      obtain ⟨v0, v1, v2, v3, v4, v5, v6⟩ := (unhide IBX).all
                      have HKEEP : ∀ wx, But (fun k => k = gs) w7 wx → But (fun k => k = gs) w7 wx ∧ wx.cell? ⟨p, 1, none⟩ = some (.slice (some ⟨gs, 0, none⟩) n2 n2) ∧ wx.cell? ⟨w.heap.size + 1, 1, none⟩ = some (.slice (some ⟨be, oe, none⟩) n2 d1) ∧ wx.cell? ⟨be, oe + i, none⟩ = some (.int .i64 y) := fun wx hwx => ⟨hwx, ((unhide IBX).but hwx (fun e => hne2 e.symm)).cells.2.1, ((unhide I5).but hwx (by show ¬ (w.heap.size + 1 = gs); omega)).cells.2.1, (hwx.cellAt hbew (by omega)).trans hceY⟩
                      go_region_held3 (fun wx => But (fun k => k = gs) w7 wx ∧ wx.cell? ⟨p, 1, none⟩ = some (.slice (some ⟨gs, 0, none⟩) n2 n2) ∧ wx.cell? ⟨w.heap.size + 1, 1, none⟩ = some (.slice (some ⟨be, oe, none⟩) n2 d1) ∧ wx.cell? ⟨be, oe + i, none⟩ = some (.int .i64 y)) (first | exact HKEEP _ ((But.refl (fun k => k = gs) w7).setCell (p := ⟨gs, k, none⟩) rfl (.int .i64 y)).drew | exact HKEEP _ (But.refl (fun k => k = gs) w7).drew | exact HKEEP _ (But.refl _ _)) (first | fail)
                      all_goals
                        go_wp2_with fail
                        go_roundw
                        case rel => exact ⟨i + 1, by omega, by go_num, HO1, by show Blk _ _ ((turnN dt sh' n2 i).set (axNo dt i) (sh'.getD i 0)); rw [unhide HAX, ← unhide HY]; exact Blk.set (unhide ISH) k y, BBlk.other (by show BBlk _ _ ((seenN dt n2 i).set (axNo dt i) true); rw [unhide HAX]; exact unhide ISE) (by show gb ≠ gs; omega) _, Box.other (unhide IBX) (fun e => hne2 e.symm) _, Blk.other (unhide IK0) (fun e => hne1 e.symm) _, by first | exact (Below.setCell (unhide ILW) (by show H ≤ gs; omega) _).drew | exact Below.setCell (unhide ILW) (by show H ≤ gs; omega) _⟩
                        case measure => simp [intOf]; omega
              · have hin : i = n2 := by omega
                subst hin
                have HSI := hide (shapeIn_of (unhide HR2)).1
                obtain ⟨ZS, hZS⟩ : ∃ z, z = turnN dt sh' i i := ⟨_, rfl⟩
                have HZL : Hid (ZS.length = i) := by rw [hZS, turnN_len]; exact rfl
                obtain ⟨f, hf⟩ : ∃ f, f = transAt dt sh' dt' := ⟨_, rfl⟩
                have HS : Hid (transpose c d sh dt sh' dt' = ⟨d, ZS, vals f m2, 0⟩) := by
                  rw [hZS, hf, ← unhide hl4]
                  have := transpose_go (unhide HR1) (unhide HR2) (unhide HCC) (by rw [unhide hl2, unhide hl3]) (by rw [unhide hl3]; exact unhide hord)
                  rwa [unhide hl3] at this
                have HFP : Hid (∀ P, (f P).1 = dt'.getD (place sh' (backIx dt (digits ZS (P : Nat)) i)).toNat 0) := by
                  intro P
                  rw [hf, hZS]
                  show dt'.getD (place sh' (backIx dt (digits (turnN dt sh' sh'.length sh'.length) P) sh'.length)).toNat 0 = _
                  rw [unhide hl3]
                have HZLE : Hid (∀ k, ZS.getD k 0 ≤ 10000) := by rw [hZS]; exact turn_le (unhide hord) (fun k => ((unhide HSI).cell k).2)
                have HZF : Hid (0 < m2 → Full ZS) := fun h => by
                  rw [hZS]
                  refine turn_full (unhide hord) (unhide hl3) (full_of (unhide HSI) ?_)
                  rw [(shapeIn_of (unhide HR2)).2.1, unhide hl4]; omega
                have HBI : Hid (∀ D, IxIn ZS D → IxIn sh' (backIx dt D i)) := fun D hD => back_in (unhide hord) (unhide hl3) (by rw [← hZS]; exact hD)
                have HSTP : Hid (∀ j, j < i → axNo dt j < i ∧ dt.getD j 0 = (axNo dt j : Int) + 1) := fun j hj => by
                  have h9 := order_step (unhide hord) hj
                  refine ⟨stepOk_lt h9, ?_⟩
                  unfold stepOk at h9
                  simp only [Bool.and_eq_true, decide_eq_true_eq] at h9
                  unfold axNo
                  omega
                have hm4 : m2 ≤ 10000 := by have h9 := (shapeIn_of (unhide HR2)).2.1; rw [unhide hl4] at h9; have := (unhide HSI).bd; omega
                rw [← hZS] at hsh
                have HST0 := hide (Stg.start f (unhide hbx) (unhide hk0) (unhide GW) (by omega) (by omega))
                have HG0 : Hid (g0 ≠ gs) := fun e => hne1 e.symm
                obtain ⟨i0, hi', hz0, hz1, hz2⟩ := info_parts info_int
                clear hZS hf x0 x1 x2 x3 x4 x5 x6 y0 y1 y2 y3 y4 y5 y6 v0 v1 v2 v3 v4 v5 v6 hbx hk0 hse hlow hmb F4 F5 F6 FW
                obtain ⟨y0, y1, y2, y3, y4, y5, y6⟩ := (unhide G5).all
                go_wp2_with fail
                go_loopw [12] (fun v wr => ∃ P g cap, P ≤ m2 ∧ v = .int .i64 (P : Nat) ∧ Hid (Stg w p d (.slice (some ⟨gs, 0, none⟩) i i) f P wr g cap) ∧ Hid (g ≠ gs) ∧ Hid (Blk wr gs ZS) ∧ Hid (Box wr w.heap.size c (.slice (some a1) n1 c1) (.slice (some a2) i c2)) ∧ Hid (Box wr (w.heap.size + 1) d (.slice (some b1) i d1) (.slice (some b2) m2 d2)) ∧ Hid (Box wr (w.heap.size + 2) false (.slice none 0 0) (.slice none 0 0))) (fun v _ => m2 - (intOf v).toNat)
                case atStart => exact ⟨0, _, 0, Nat.zero_le _, rfl, HST0, HG0, hsh, G4, G5, G6⟩
                case round =>
                  obtain ⟨wo, hwo⟩ : ∃ x, x = wr := ⟨_, rfl⟩
                  subst hwo
                  obtain ⟨P, g, cap, hP, rfl, hst, hgg, hzs, hb4, hb5, hb6⟩ := hrel
                  clear HST0 HG0 hsh G4 G5 G6 GW y0 y1 y2 y3 y4 y5 y6
                  obtain ⟨x0, x1, x2, x3, x4, x5, x6⟩ := (unhide hb4).all
                  obtain ⟨y0, y1, y2, y3, y4, y5, y6⟩ := (unhide hb5).all
                  obtain ⟨v0, v1, v2, v3, v4, v5, v6⟩ := (unhide hst).box.all
                  by_cases hlt2 : P < m2
                  · have HFU := hide (unhide HZF (by omega))
                    obtain ⟨D, hD⟩ : ∃ D, D = digits ZS (P : Nat) := ⟨_, rfl⟩
                    have HDL : Hid (D.length = i) := by rw [hD, digits_len]; exact unhide HZL
                    have HDI : Hid (IxIn ZS D) := by rw [hD]; exact digits_in (unhide HFU) _
                    have hci := l5Index_any (some ⟨gs, 0, none⟩) i i ZS (P : Nat) wo ((unhide hzs).row (unhide HZL) (by omega)) (by omega) (unhide HZLE) (unhide HFU) (by omega) (by omega)
                    rw [← hD] at hci
                    have HFPP : Hid ((f P).1 = dt'.getD (place sh' (backIx dt D i)).toNat 0) := by rw [hD]; exact unhide HFP P
                    clear hD
                    go_upto_region 24 with (go_at_call 55; refine hci.mono ?_; rintro e w2 ⟨rfl, hK2, hb2⟩; have HK2 := hide hK2; have HB2 := hide hb2; clear hK2 hb2)
                    clear hci
                    have hwz := (unhide hst).low.size
                    have hwz2 := (unhide HB2).size
                    have Jb4 := hide (((unhide hb4).below (Nat.le_refl _) (unhide HB2)).alloc (.cells (madeCells #[.int .i64 0] i) 3))
                    have Jb5 := hide (((unhide hb5).below (Nat.le_refl _) (unhide HB2)).alloc (.cells (madeCells #[.int .i64 0] i) 3))
                    have Jb6 := hide (((unhide hb6).below (Nat.le_refl _) (unhide HB2)).alloc (.cells (madeCells #[.int .i64 0] i) 3))
                    have Jzs := hide (((unhide hzs).below (Nat.le_refl _) (unhide HB2)).alloc (.cells (madeCells #[.int .i64 0] i) 3))
                    have Jst := hide ((unhide hst).below ((unhide HB2).alloc hwz2 (.cells (madeCells #[.int .i64 0] i) 3)))
                    have JK := hide ((unhide HK2).alloc (.cells (madeCells #[.int .i64 0] i) 3))
                    have JF := hide (Blk.made w2 i w2.heap.size rfl)
                    have hgt : wo.heap.size < w2.heap.size := (unhide HK2).lt
                    have hl6 := (unhide hb6).lt
                    have hlp := (unhide hst).box.lt
                    have hlz := (unhide hzs).lt
                    have hlg := owns_lt (unhide hst).owns (g := g) rfl
                    have hWs : (w2.alloc (.cells (madeCells #[.int .i64 0] i) 3)).heap.size = w2.heap.size + 1 := by simp
                    generalize w2.alloc (.cells (madeCells #[.int .i64 0] i) 3) = wf at *
                    generalize w2.heap.size = gf at *
                    generalize wo.heap.size = gt at *
                    clear hst hzs hb4 hb5 hb6 HK2 HB2 x0 x1 x2 x3 x4 x5 x6 y0 y1 y2 y3 y4 y5 y6 v0 v1 v2 v3 v4 v5 v6 w2
                    obtain ⟨BI, hBI⟩ : ∃ b, b = backIx dt D i := ⟨_, rfl⟩
                    have HBL : Hid (BI.length = i) := by rw [hBI, backIx_len]; exact rfl
                    have HBG : Hid (∀ j, j < i → BI.getD j 0 = D.getD (axNo dt j) 0) := fun j hj => by rw [hBI, backIx_get _ _ _ _ hj]
                    have HBN : Hid (IxIn sh' BI) := by rw [hBI]; exact unhide HBI D (unhide HDI)
                    rw [← hBI] at HFPP
                    clear hBI
                    go_wp2_with fail
                    go_loopw [15] (fun v wr => ∃ j : Nat, j ≤ i ∧ v = .int .i64 (j : Nat) ∧ Hid (Blk wr gf (BI.take j ++ (List.replicate i 0).drop j)) ∧ Hid (Below gf wf wr)) (fun v _ => i - (intOf v).toNat)
                    case atStart => exact ⟨0, Nat.zero_le _, rfl, by simpa using JF, Below.refl _ _⟩
                    case round =>
                      obtain ⟨j, hj, rfl, hbf, hlf⟩ := hrel
                      clear JF
                      have L4 := hide ((unhide Jb4).low (by omega) (unhide hlf))
                      have HWr := hide ((unhide Jst).low.trans ((unhide hlf).mono (by omega)))
                      obtain ⟨x0, x1, x2, x3, x4, x5, x6⟩ := (unhide L4).all
                      by_cases hlj : j < i
                      · obtain ⟨bk, ok, hab, hbk, hck⟩ := (unhide H2).get hlj
                        cases hab
                        have hckr := ((unhide HWr).cell (p := ⟨bk, ok + j, none⟩) hbk).trans hck
                        obtain ⟨hka, hkx⟩ := unhide HSTP j hlj
                        rw [hkx] at hckr
                        have HGJ := hide (unhide HBG j hlj)
                        obtain ⟨k, hk⟩ : ∃ k, k = axNo dt j := ⟨_, rfl⟩
                        rw [← hk] at hka hckr HGJ
                        have hcd := ((unhide hlf).cell (p := ⟨gt, k, none⟩) hgt).trans ((unhide JK).cell (i := k) (by rw [unhide HDL]; exact hka))
                        have hcf := (unhide hbf).cell (i := j) (by rw [mix_len (by rw [unhide HBL]; simp) (by simp; exact hj)]; simpa using hlj)
                        have hff := (unhide hbf).free j
                        obtain ⟨y, hy⟩ : ∃ y, y = D.getD k 0 := ⟨_, rfl⟩
                        rw [← hy] at hcd HGJ
                        have HNX : Hid (Blk (wr.setCell ⟨gf, j, none⟩ (.int .i64 y)) gf (BI.take (j + 1) ++ (List.replicate i 0).drop (j + 1))) := by
                          have h9 := (unhide hbf).set j y
                          rw [← unhide HGJ, mix_set (by rw [unhide HBL]; simp) (by simpa using hlj)] at h9
                          rwa [unhide HGJ] at h9
                        clear hck hkx hk hy
                        go_wp2
                        go_roundw
                        case rel => exact ⟨j + 1, by omega, by go_num, HNX, (unhide hlf).setCell (by exact Nat.le_refl _) _⟩
                        case measure => simp [intOf]; omega
                      · have hji : j = i := by omega
                        subst hji
                        have HBF : Hid (Blk wr gf BI) := by
                          have := unhide hbf
                          rwa [List.take_of_length_le (by rw [unhide HBL]; exact Nat.le_refl _), List.drop_of_length_le (by simp), List.append_nil] at this
                        have M5 := hide ((unhide Jb5).low (by omega) (unhide hlf))
                        have M6 := hide ((unhide Jb6).low (by omega) (unhide hlf))
                        have MZ : Hid (Blk wr gs ZS) := ((unhide hlf).block gs (by have := (unhide Jzs).lt; omega)).trans (unhide Jzs)
                        have NST : Hid (Stg w p d (.slice (some ⟨gs, 0, none⟩) j j) f P wr g cap) := ⟨(unhide Jst).box.low (by omega) (unhide hlf), owns_lowB (unhide Jst).owns (by omega) (unhide hlf), unhide HWr, (unhide Jst).place⟩
                        have hpb := place_bd (unhide HBN)
                        rw [(shapeIn_of (unhide HR2)).2.1, unhide hl4] at hpb
                        obtain ⟨J, hJ⟩ : ∃ J : Nat, place sh' BI = (J : Int) := ⟨(place sh' BI).toNat, by omega⟩
                        have hJl : J < m2 := by omega
                        obtain ⟨bd, od, hab, hbd, hcd⟩ := (unhide K2).get hJl
                        cases hab
                        have hcdr := ((unhide HWr).cell (p := ⟨bd, od + J, none⟩) hbd).trans hcd
                        have hbdl : bd < wr.heap.size := Nat.lt_of_lt_of_le hbd (unhide HWr).size
                        obtain ⟨x, hx⟩ : ∃ x, x = dt'.getD J 0 := ⟨_, rfl⟩
                        rw [← hx] at hcdr
                        have HFX : Hid ((f P).1 = x) := by rw [unhide HFPP, hJ, hx]; exact rfl
                        have HKK : Hid (∀ wx, Below wr.heap.size wr wx → wx.cell? ⟨p, 2, none⟩ = some (.slice (some ⟨g, 0, none⟩) P cap) ∧ wx.cell? ⟨w.heap.size + 1, 2, none⟩ = some (.slice (some ⟨bd, od, none⟩) m2 d2) ∧ wx.cell? ⟨w.heap.size + 1, 1, none⟩ = some (.slice (some b1) j d1) ∧ wx.cell? ⟨bd, od + J, none⟩ = some (.int .i64 x) ∧ wx.frozen? ⟨p, 2, none⟩ = false) := fun wx hwx => ⟨((unhide NST).box.below (Nat.le_refl _) hwx).cells.2.2, ((unhide M5).below (Nat.le_refl _) hwx).cells.2.2, ((unhide M5).below (Nat.le_refl _) hwx).cells.2.1, (hwx.cell (p := ⟨bd, od + J, none⟩) hbdl).trans hcdr, ((unhide NST).box.below (Nat.le_refl _) hwx).free _⟩
                        have HCC2 : Hid (∀ wx, Below wr.heap.size wr wx → Calls Tryz.prog 56 #[.slice (some b1) j d1, .slice (some ⟨gf, 0, none⟩) j j] wx fun e w' => e = .returned (.int .i64 (J : Nat)) ∧ Below wx.heap.size wx w') := fun wx hwx => by
                          rw [← hJ]
                          exact l5At_any (some b1) (some ⟨gf, 0, none⟩) j d1 j j sh' BI wx (((unhide K1).below (Nat.le_refl _) (unhide HWr)).below (Nat.le_refl _) hwx) (((unhide HBF).below (Nat.le_refl _) hwx).row (unhide HBL) (by omega)) (Nat.le_refl _) (unhide HSI) (unhide HBN)
                        have HAA : Hid (∀ wx w7, Below wr.heap.size wr wx → (wx.alloc (.cells #[.int .i64 x] 3)).grownBy w7 (some g) → w7.cell? ⟨p, 2, none⟩ = some (.slice (some ⟨g, 0, none⟩) P cap) ∧ w7.cell? ⟨w.heap.size + 1, 2, none⟩ = some (.slice (some ⟨bd, od, none⟩) m2 d2) ∧ w7.cell? ⟨w.heap.size + 1, 1, none⟩ = some (.slice (some b1) j d1) ∧ w7.cell? ⟨bd, od + J, none⟩ = some (.int .i64 x) ∧ w7.frozen? ⟨p, 2, none⟩ = false) := fun wx w7 hwx hg => by
                          have ho := owns_below (unhide NST).owns (Nat.le_refl _) hwx
                          have q1 := ((unhide NST).box.below (Nat.le_refl _) hwx).grown ho _ hg
                          have q2 := ((unhide M5).below (Nat.le_refl _) hwx).grown ho _ hg
                          have hgw : w.heap.size ≤ g := by
                            rcases ho.2 with ⟨hv, _⟩ | ⟨g', cp, cur, hv, hbg, _⟩
                            · simp at hv
                            · simp at hv; omega
                          exact ⟨q1.cells.2.2, q2.cells.2.2, q2.cells.2.1, (grown_cell _ hg (Nat.lt_of_lt_of_le hbdl hwx.size) (by omega)).trans ((hwx.cell (p := ⟨bd, od + J, none⟩) hbdl).trans hcdr), q1.free _⟩
                        clear hpb hJ hcd hx hbf hlf JK Jst Jb4 Jb5 Jb6 Jzs
                        go_upto_region 28 with fail
                        refine regionT _ wr (by simp) p (w.heap.size + 1) rfl rfl (.slice (some ⟨gf, 0, none⟩) j j) rfl g P cap ((vals f P).map (Value.int .i64)) bd od m2 d2 J (some b1) j d1 x w.heap.size hJl (by omega) (fun wx => wx.cell? ⟨p, 2, none⟩ = some (.slice (some ⟨g, 0, none⟩) P cap) ∧ wx.cell? ⟨w.heap.size + 1, 2, none⟩ = some (.slice (some ⟨bd, od, none⟩) m2 d2) ∧ wx.cell? ⟨w.heap.size + 1, 1, none⟩ = some (.slice (some b1) j d1) ∧ wx.cell? ⟨bd, od + J, none⟩ = some (.int .i64 x) ∧ wx.frozen? ⟨p, 2, none⟩ = false) (fun _ h => h) (unhide HKK) (unhide HCC2) (unhide NST).owns (unhide HWr).size (unhide HAA) (fun _ _ _ _ _ h => h) ?_
                        intro wx g' cap' w7 hbx hown7 hgrow hat
                        simp only [outT, Act.put, List.setIfInBounds_toArray, List.set_cons_zero, List.set_cons_succ]
                        have ho := owns_below (unhide NST).owns (Nat.le_refl _) hbx
                        obtain ⟨hb7, hst7⟩ := ((unhide NST).below hbx).push _ (unhide HFX) hown7 hgrow
                        have N4 := (((unhide L4).below (Nat.le_refl _) hbx).grown ho _ hgrow).other (q := ⟨p, 2, none⟩) (by show w.heap.size ≠ p; omega) (.slice (some ⟨g', 0, none⟩) (P + 1) cap')
                        have N5 := (((unhide M5).below (Nat.le_refl _) hbx).grown ho _ hgrow).other (q := ⟨p, 2, none⟩) (by show w.heap.size + 1 ≠ p; omega) (.slice (some ⟨g', 0, none⟩) (P + 1) cap')
                        have N6 := (((unhide M6).below (Nat.le_refl _) hbx).grown ho _ hgrow).other (q := ⟨p, 2, none⟩) (by show w.heap.size + 2 ≠ p; omega) (.slice (some ⟨g', 0, none⟩) (P + 1) cap')
                        have NZ := (((unhide MZ).below (Nat.le_refl _) hbx).grown _ hgrow (fun e => unhide hgg e.symm)).other (p := ⟨p, 2, none⟩) hne2 (.slice (some ⟨g', 0, none⟩) (P + 1) cap')
                        have hgs : g' ≠ gs := by
                          rcases hat with e | e
                          · have e' : g = g' := by simpa [Value.ownBlock] using e
                            rw [← e']; exact unhide hgg
                          · have := ((unhide MZ).below (Nat.le_refl _) hbx).lt; omega
                        clear hb7 hown7 hgrow hat ho hbx
                        go_wp2_with fail
                        go_roundw
                        case rel => exact ⟨P + 1, g', cap', by omega, by go_num, hst7, hgs, NZ, N4, N5, N6⟩
                        case measure => simp [intOf]; omega
                  · have hPN : P = m2 := by omega
                    subst hPN
                    have HLW := hide (unhide hst).low
                    have HCAP := hide (owns_capR (unhide hst).owns)
                    obtain ⟨_, _, hv, hDD⟩ := Own.of_owns (unhide hst).owns (by omega)
                    cases hv
                    have HD := hide hDD
                    obtain ⟨z0, z1, z2, z3, z4, z5, z6⟩ := (unhide hb6).all
                    clear hst hDD
                    go_wp2
                    refine bodyPost_ret (v := .tuple #[.agg #[.bool d, .slice (some ⟨gs, 0, none⟩) i i, .slice (some ⟨g, 0, none⟩) P cap], .int .i64 0]) (by simp [results, Tryz.results14, go_sem, z0, z1, z2]) rfl ?_
                    rw [unhide HS]
                    exact ⟨_, _, _, _, _, _, rfl, ((unhide hzs).row (unhide HZL) (by omega)).sets (unhide hb6) _ _ _, (unhide HD).row.sets (unhide hb6) _ _ _, (((unhide HLW).setCell (by simp <;> omega) _).setCell (by simp <;> omega) _).setCell (by simp <;> omega) _, Nat.le_refl _, unhide HCAP, fun _ => ⟨⟨_, rfl⟩, ⟨_, rfl⟩⟩⟩
        · have HS : Hid (transpose c d sh dt sh' dt' = noAns 5) := transpose_len (unhide HR1) (unhide HR2) (unhide HCC) (by rw [unhide hl2, unhide hl3]; exact hlen)
          have g0 : ((n2 : Int) != (m1 : Int)) = true := by simp; omega
          clear hlen
          go_wp2_with fail
          refine (l4None_any _).mono ?_
          rintro e w9 ⟨rfl, hb9⟩
          obtain ⟨q0, q1, q2, q3, q4, q5, q6⟩ := ((unhide D6).below (Nat.le_refl _) hb9).all
          have hB9 := hide ((unhide hB3).trans (hb9.mono (unhide hB3).size))
          clear hb9 D4 D5 D6 hB3 x0 x1 x2 x3 x4 x5 x6 y0 y1 y2 y3 y4 y5 y6
          go_wp2
          refine bodyPost_ret (v := .tuple #[.agg #[.bool false, .slice none 0 0, .slice none 0 0], .int .i64 5]) (by simp [results, Tryz.results14, go_sem, q0, q1, q2]) rfl ?_
          rw [unhide HS]
          exact ⟨none, 0, 0, none, 0, 0, rfl, row_nil _ _, row_nil _ _, (((unhide hB9).setCell (by simp <;> omega) _).setCell (by simp <;> omega) _).setCell (by simp <;> omega) _, Nat.le_refl _, Nat.le_refl _, fun e => absurd e (by first | exact unhide HN0 | decide)⟩

      · have HS : Hid (transpose c d sh dt sh' dt' = noAns r) := transpose_list (unhide HR1) (unhide HR2) r (unhide HCC) h0
        have hcb : (r != 0) = true := by simp [h0]
        have HN0 : Hid (¬ (noAns r).code = 0) := h0
        clear h0
        go_wp2_with fail
        refine (l4None_any _).mono ?_
        rintro e w9 ⟨rfl, hb9⟩
        obtain ⟨q0, q1, q2, q3, q4, q5, q6⟩ := ((unhide D6).below (Nat.le_refl _) hb9).all
        have hB9 := hide ((unhide hB3).trans (hb9.mono (unhide hB3).size))
        clear hb9 D4 D5 D6 hB3
        go_wp2
        refine bodyPost_ret (v := .tuple #[.agg #[.bool false, .slice none 0 0, .slice none 0 0], .int .i64 r]) (by simp [results, Tryz.results14, go_sem, q0, q1, q2]) rfl ?_
        rw [unhide HS]
        exact ⟨none, 0, 0, none, 0, 0, rfl, row_nil _ _, row_nil _ _, (((unhide hB9).setCell (by simp <;> omega) _).setCell (by simp <;> omega) _).setCell (by simp <;> omega) _, Nat.le_refl _, Nat.le_refl _, fun e => absurd e (by first | exact unhide HN0 | decide)⟩

end Go.Proofs.YtgjpchnkodnieaaGreatDoor
namespace Go.Proofs.YtgjpchnkodnieaaGreatDoor
open Go.RowKit

theorem wpList_append_some {P : Program} {w : World} {ops : Array Oper} {rest : List Oper} {o : Oper} {a : Act} {Q : Exit → Act → World → Prop} (hgd : o.guard = none) (s x : Operand) (t : TypeId)
    (ho : o.op = .call { callee := .builtin .append, args := #[s, x], argTypes := #[t, t] })
    (base : Nat) (e : TypeId) (i : TypeInfo) (z : Value) (size bytes : Nat) (ht : P.underlying t = some (.slice e)) (hi : P.info? e = some i) (hz : i.zero = some z)
    (hsize : i.size = size) (hby : i.bytes = bytes) (hzs : z.cells.size = size) (hsz : 0 < size)
    (g0 n cap0 : Nat) (xs : List Value) (hs : a.eval s = .slice (some ⟨g0, 0, none⟩) n cap0) (hown : w.ownsRow base e size (.slice (some ⟨g0, 0, none⟩) n cap0) n xs)
    (ad : Addr) (m c : Nat) (news : List Value) (hx : a.eval x = .slice (some ad) m c) (hl : news.length = m * size) (hnews : ∀ j u, news[j]? = some u → w.cell? (ad.add j) = some u) (h1 : ∀ u ∈ news, u.oneCell' = true)
    (h63 : n + m ≤ maxLen) (hbytes : (n + m) * bytes ≤ 140737488355328) (hbase : base ≤ w.heap.size)
    (h : ∀ g cap w', w'.ownsRow base e size (.slice (some ⟨g, 0, none⟩) (n + m) cap) (n + m) (xs ++ news) → w.grownBy w' (some g0) → (g = g0 ∨ g = w.heap.size) → wpList P ops Q rest (a.put o.dst (.slice (some ⟨g, 0, none⟩) (n + m) cap)) w') : wpList P ops Q (o :: rest) a w :=
  wpList_plain hgd fun _ hK => wp_append_some w s x t ho base e i z size bytes ht hi hz hsize hby hzs hsz g0 n cap0 xs hs hown ad m c news hx hl hnews h1 h63 hbytes hbase fun g cap w' h2 h3 h4 => hK _ _ (h g cap w' h2 h3 h4)

end Go.Proofs.YtgjpchnkodnieaaGreatDoor
namespace Go.Proofs.YtgjpchnkodnieaaGreatDoor
open Go.RowKit

theorem wpList_append_ch {W V : World} {g cap n : Nat} {zs : List Int} {ops : Array Oper} {rest : List Oper} {o : Oper} {a : Act} {Q : Exit → Act → World → Prop} (hgd : o.guard = none) (s x : Operand)
    (ho : o.op = .call { callee := .builtin .append, args := #[s, x], argTypes := #[23, 23] })
    (hC : Ch W V g cap n zs) (hs : a.eval s = .slice (some ⟨g, 0, none⟩) n cap) (ad : Addr) (m c : Nat) (ys : List Int) (hr : Row V (some ad) m ys) (hx : a.eval x = .slice (some ad) m c) (N : Nat) (hN : n + m = N) (hb : N ≤ 20000)
    (h : ∀ g' cap' V', Ch W V' g' cap' N (zs ++ ys) → (∀ p c v1 v2, Box V p c v1 v2 → Box V' p c v1 v2) → wpList Tryz.prog ops Q rest (a.put o.dst (.slice (some ⟨g', 0, none⟩) N cap')) V') :
    wpList Tryz.prog ops Q (o :: rest) a V := by
  subst hN
  obtain ⟨i0, hi, hz0, hz1, hz2⟩ := info_parts info_int
  have hl := hr.len
  refine wpList_append_some hgd s x 23 ho W.heap.size 3 i0 (.int .i64 0) 1 8 Tryz.underlying23 hi hz0 hz1 hz2 rfl (by decide) g n cap (zs.map (Value.int .i64)) hs hC.own ad m c (ys.map (Value.int .i64)) hx (by simpa using hl) (cells_ints hr) (one_ints ys) (by unfold maxLen; omega) (by omega) hC.low.size ?_
  intro g' cap' V' hown hgrow _
  have hge : W.heap.size ≤ g := by
    rcases hC.own.2 with ⟨e, _⟩ | ⟨g', c', cur, e, hg, _⟩
    · cases e
    · cases e; exact hg
  exact h g' cap' V' ⟨by rw [List.map_append]; exact hown, hC.low.grown hgrow hC.low.size (by intro k hk; cases hk; exact hge)⟩ (fun p c v1 v2 hbx => hbx.grown0 hC.own hgrow)

/-- A new block of one number. -/
theorem row_one (V : World) (x : Int) : Row (V.alloc (.cells #[.int .i64 x] 3)) (some ⟨V.heap.size, 0, none⟩) 1 [x] :=
  Blk.row (show Blk _ V.heap.size [x] from World.alloc_heap_new V _) rfl (by omega)

end Go.Proofs.YtgjpchnkodnieaaGreatDoor
namespace Go.Proofs.YtgjpchnkodnieaaGreatDoor

/-- The numbers n, n - 1, .. down to 1. -/
def downTo (n : Nat) : List Int := (List.range n).map fun i => ((n - i : Nat) : Int)
theorem downTo_len (n : Nat) : (downTo n).length = n := by simp [downTo]

end Go.Proofs.YtgjpchnkodnieaaGreatDoor
namespace Go.Proofs.YtgjpchnkodnieaaGreatDoor
open Go.RowKit

set_option maxHeartbeats 2000000 in
theorem l6Vector_any (ad : Addr) (n c : Nat) (zs : List Int) (w : World) (h : Row w (some ad) n zs) :
    Calls Tryz.prog 69 #[.slice (some ad) n c] w fun e w' => ∃ g1 g2 d2, e = .returned (.agg #[.bool false, .slice (some ⟨g1, 0, none⟩) 1 1, .slice (some ⟨g2, 0, none⟩) n d2]) ∧ Row w' (some ⟨g1, 0, none⟩) 1 [(n : Int)] ∧ Row w' (some ⟨g2, 0, none⟩) n zs ∧ Below w.heap.size w w' := by
  have hl := h.len
  have hs := h.small
  obtain ⟨W, hW⟩ : ∃ W, W = (w.alloc (.cells #[.bool false, .slice none 0 0, .slice none 0 0] 25)).alloc (.cells #[.int .i64 (n : Nat)] 3) := ⟨_, rfl⟩
  have hBW : Below w.heap.size w W := by rw [hW]; exact ((Below.refl _ w).alloc (Nat.le_refl _) _).alloc (by simp) _
  have HX : Hid (Box W w.heap.size false (.slice none 0 0) (.slice none 0 0)) := by rw [hW]; exact (Box.new w _ _ _).alloc _
  have HR1 : Hid (Row W (some ⟨w.heap.size + 1, 0, none⟩) 1 [(n : Int)]) := by
    rw [hW]
    have := row_one (w.alloc (.cells #[.bool false, .slice none 0 0, .slice none 0 0] 25)) (n : Int)
    rwa [World.size_alloc] at this
  have hcall := l3Ints_some ad n c zs W (h.below (Nat.le_refl _) hBW)
  have HBW := hide hBW
  rw [hW] at hcall
  clear h hBW
  go_enter Tryz.func69, Tryz.ntmps69
  go_wp2_with (go_at_call 71; refine hcall.mono ?_; rintro e w1 ⟨g2, d2, rfl, ho, hb1⟩; rw [← hW] at ho hb1; have HR2 := hide ho.row; have HX1 := hide ((unhide HX).below (Nat.le_refl _) hb1); have HR1' := hide ((unhide HR1).below (Nat.le_refl _) hb1); have HB1 := hide ((unhide HBW).trans (hb1.mono (unhide HBW).size)); obtain ⟨y0, y1, y2, y3, y4, y5, y6⟩ := (unhide HX1).all; clear ho hb1)
  have hx := (unhide HX1).sets (c' := false) (u1 := .slice (some ⟨w.heap.size + 1, 0, none⟩) 1 1) (u2 := .slice (some ⟨g2, 0, none⟩) n d2)
  obtain ⟨r0, r1, r2, _, _, _⟩ := hx.all
  refine bodyPost_ret (v := .agg #[.bool false, .slice (some ⟨w.heap.size + 1, 0, none⟩) 1 1, .slice (some ⟨g2, 0, none⟩) n d2]) (by simp [results, Tryz.results69, go_sem, r0, r1, r2]) rfl ?_
  exact ⟨_, _, _, rfl, (unhide HR1').sets (unhide HX1) _ _ _, (unhide HR2).sets (unhide HX1) _ _ _, (((unhide HB1).setCell (p := ⟨w.heap.size, 0, none⟩) (Nat.le_refl _) _).setCell (p := ⟨w.heap.size, 1, none⟩) (Nat.le_refl _) _).setCell (p := ⟨w.heap.size, 2, none⟩) (Nat.le_refl _) _⟩

/-- k numbers from n down. -/
theorem down_take (n k : Nat) (h : k < n) : (downTo n).take k ++ [((n - k : Nat) : Int)] = (downTo n).take (k + 1) := by
  rw [List.take_add_one]
  congr 1
  unfold downTo
  rw [List.getElem?_map, List.getElem?_range h]
  rfl

set_option maxHeartbeats 4000000 in
theorem l6Backward_any (n : Nat) (hn : n ≤ 10000) (w : World) :
    Calls Tryz.prog 73 #[.int .i64 (n : Nat)] w fun e w' => ∃ g1 g2 d2, e = .returned (.agg #[.bool false, .slice (some ⟨g1, 0, none⟩) 1 1, .slice (some ⟨g2, 0, none⟩) n d2]) ∧ Row w' (some ⟨g1, 0, none⟩) 1 [(n : Int)] ∧ Row w' (some ⟨g2, 0, none⟩) n (downTo n) ∧ Below w.heap.size w w' := by
  obtain ⟨W, hW⟩ : ∃ W, W = w.alloc (.cells #[.bool false, .slice none 0 0, .slice none 0 0] 25) := ⟨_, rfl⟩
  have hz : W.heap.size = w.heap.size + 1 := by rw [hW]; simp
  have HX : Hid (Box W w.heap.size false (.slice none 0 0) (.slice none 0 0)) := by rw [hW]; exact Box.new w _ _ _
  have HBW : Hid (Below w.heap.size w W) := by rw [hW]; exact (Below.refl _ w).alloc (Nat.le_refl _) _
  have HC : Hid (Ch W (W.alloc (.cells #[] 3)) (w.heap.size + 1) 0 0 []) := Ch.start (Below.refl _ _) hz.symm
  clear hz
  rw [hW] at HC
  go_enter Tryz.func73, Tryz.ntmps73
  go_wp2_with fail
  rw [← hW] at HC ⊢
  clear hW
  go_loopw [3, 4] (fun v i wr => ∃ (k g cap : Nat) (y : Int), k ≤ n ∧ v = .slice (some ⟨g, 0, none⟩) k cap ∧ i = .int .i64 y ∧ Hid (y = (n : Int) - (k : Int)) ∧ Hid (Ch W wr g cap k ((downTo n).take k))) (fun _ i _ => (intOf i).toNat)
  case atStart => exact ⟨0, _, _, n, Nat.zero_le _, rfl, rfl, hide (by simp), HC⟩
  case round =>
    obtain ⟨k, g, cap, y, hk, rfl, rfl, hy, hC⟩ := hrel
    clear HC
    by_cases hlt : k < n
    · have hy' : 0 < y := by have := unhide hy; omega
      have hyn : y ≤ 10000 := by have := unhide hy; omega
      have g0 : decide (0 < y) = true := by simpa using hy'
      have hr := row_one wr y
      have hC1 := (unhide hC).alloc (.cells #[.int .i64 y] 3)
      go_wp2_with (at_builtin; refine wpList_append_ch rfl _ _ rfl hC1 rfl _ _ _ [y] hr rfl (k + 1) rfl (by omega) ?_; intro g' cap' w1 hC2 _; have HC2 : Hid (Ch W w1 g' cap' (k + 1) ((downTo n).take (k + 1))) := (by rw [← down_take n k hlt, show (((n - k : Nat)) : Int) = y by have := unhide hy; omega]; exact hC2); clear hC2 hC1 hr)
      refine ⟨⟨k + 1, g', cap', y - 1, by omega, rfl, by go_num, hide (by have := unhide hy; omega), HC2⟩, ?_⟩
      simp [intOf]; omega
    · have hkn : k = n := by omega
      subst hkn
      have hy0 : ¬ 0 < y := by have := unhide hy; omega
      have hrow := (unhide hC).row (by omega)
      rw [List.take_of_length_le (by rw [downTo_len]; exact Nat.le_refl _)] at hrow
      have hcall := l6Vector_any ⟨g, 0, none⟩ k cap (downTo k) wr hrow
      have HXw := hide ((unhide HX).below (Nat.le_refl _) (unhide hC).low)
      have HBw := hide ((unhide HBW).trans ((unhide hC).low.mono (unhide HBW).size))
      clear hrow hlt
      go_wp2_with (go_at_call 69; refine hcall.mono ?_; rintro e w1 ⟨g1, g2, d2, rfl, r1, r2, hb1⟩; have R1 := hide r1; have R2 := hide r2; have HX1 := hide ((unhide HXw).below (Nat.le_refl _) hb1); have HB1 := hide ((unhide HBw).trans (hb1.mono (unhide HBw).size)); obtain ⟨y0, y1, y2, y3, y4, y5, y6⟩ := (unhide HX1).all; clear r1 r2 hb1)
      have hx := (unhide HX1).sets (c' := false) (u1 := .slice (some ⟨g1, 0, none⟩) 1 1) (u2 := .slice (some ⟨g2, 0, none⟩) k d2)
      obtain ⟨s0, s1, s2, _, _, _⟩ := hx.all
      refine bodyPost_ret (v := .agg #[.bool false, .slice (some ⟨g1, 0, none⟩) 1 1, .slice (some ⟨g2, 0, none⟩) k d2]) (by simp [results, Tryz.results73, go_sem, s0, s1, s2]) rfl ?_
      exact ⟨_, _, _, rfl, (unhide R1).sets (unhide HX1) _ _ _, (unhide R2).sets (unhide HX1) _ _ _, (((unhide HB1).setCell (p := ⟨w.heap.size, 0, none⟩) (Nat.le_refl _) _).setCell (p := ⟨w.heap.size, 1, none⟩) (Nat.le_refl _) _).setCell (p := ⟨w.heap.size, 2, none⟩) (Nat.le_refl _) _⟩

end Go.Proofs.YtgjpchnkodnieaaGreatDoor
namespace Go.Proofs.YtgjpchnkodnieaaGreatDoor
open Go.RowKit

set_option maxRecDepth 20000 in
set_option maxHeartbeats 8000000 in
theorem Monad_turn (c : Bool) (a1 a2 : Addr) (n1 n2 c1 c2 : Nat) (sh dt : List Int) (w : World) (h1 : Row w (some a1) n1 sh) (h2 : Row w (some a2) n2 dt) (hok : arrOk c sh dt = true) :
    Calls Tryz.prog 20 #[.int .i64 23, .agg #[.bool c, .slice (some a1) n1 c1, .slice (some a2) n2 c2]] w (GivesRoom w (transpose false c [(n1 : Int)] (downTo n1) sh dt)) := by
  have hl1 := hide h1.len
  have hl2 := hide h2.len
  have hs1 := h1.small
  have hs2 := h2.small
  have H1 := hide h1
  have H2 := hide h2
  have HR := hide hok
  clear h1 h2 hok
  obtain ⟨W0, hW0⟩ : ∃ W0, W0 = (w.alloc (.cells #[.bool c, .slice (some a1) n1 c1, .slice (some a2) n2 c2] 25)).alloc (.cells #[.bool false, .slice none 0 0, .slice none 0 0] 25) := ⟨_, rfl⟩
  obtain ⟨B4, B5, hB0⟩ := boxes2 (w := w) (c := c) (v1 := .slice (some a1) n1 c1) (v2 := .slice (some a2) n2 c2) (Below.refl _ _)
  rw [← hW0] at B4 B5 hB0
  have D4 := hide B4
  have D6 := hide B5
  have HB0 := hide hB0
  have hcall := ArrayOk_eq c (some a1) (some a2) n1 n2 c1 c2 sh dt W0 ((unhide H1).below (Nat.le_refl _) hB0) ((unhide H2).below (Nat.le_refl _) hB0) true HR
  obtain ⟨y0, y1, y2, y3, y4, y5, y6⟩ := B4.all
  rw [hW0] at hcall y0 y1 y2 y3 y4 y5 y6
  clear B4 B5 hB0
  go_enter Tryz.func20, Tryz.ntmps20
  go_upto_region 14 with (go_at_call 10; refine hcall.mono ?_; rintro e w3 ⟨rfl, hb3⟩; rw [← hW0] at hb3; have HB3 := hide hb3; have E4 := hide ((unhide D4).below (Nat.le_refl _) hb3); obtain ⟨x0, x1, x2, x3, x4, x5, x6⟩ := (unhide E4).all; clear hb3)
  have E6 := hide ((unhide D6).below (Nat.le_refl _) (unhide HB3))
  have HB := hide ((unhide HB0).trans ((unhide HB3).mono (unhide HB0).size))
  clear D4 D6 HB0 HB3 y0 y1 y2 y3 y4 y5 y6 hW0 W0 hcall
  have hz6 := (unhide E6).lt
  have K1 := hide ((unhide H1).below (Nat.le_refl _) (unhide HB))
  have K2 := hide ((unhide H2).below (Nat.le_refl _) (unhide HB))
  have hn5 : n1 ≤ 5 := by rw [← unhide hl1]; exact (shapeIn_of (unhide HR)).2.2
  obtain ⟨rc, rsh, rdt, rp, hr⟩ : ∃ rc rsh rdt rp, transpose false c [(n1 : Int)] (downTo n1) sh dt = ⟨rc, rsh, rdt, rp⟩ := ⟨_, _, _, _, rfl⟩
  have HRR := hide hr
  clear hr
  have hK0 : Below w3.heap.size w3 w3.drew := (Below.refl _ _).drew
  have HKEEP : ∀ wx, Below (w.heap.size + 1) w3 wx → Below (w.heap.size + 1) w3 wx ∧ wx.cell? ⟨w.heap.size, 0, none⟩ = some (.bool c) ∧ wx.cell? ⟨w.heap.size, 1, none⟩ = some (.slice (some a1) n1 c1) ∧ wx.cell? ⟨w.heap.size, 2, none⟩ = some (.slice (some a2) n2 c2) := fun wx hwx => ⟨hwx, ((unhide E4).low (by omega) hwx).cells⟩
  clear x3 x4 x5
  go_region_held (fun wx => Below (w.heap.size + 1) w3 wx ∧ wx.cell? ⟨w.heap.size, 0, none⟩ = some (.bool c) ∧ wx.cell? ⟨w.heap.size, 1, none⟩ = some (.slice (some a1) n1 c1) ∧ wx.cell? ⟨w.heap.size, 2, none⟩ = some (.slice (some a2) n2 c2)) (first | exact HKEEP _ (hK5.mono (by omega)) | exact HKEEP _ ((((hK5.mono (by omega)).setCell (by simp) _).setCell (by simp) _).setCell (by simp) _) | exact HKEEP _ (hK4.mono (by omega)) | exact HKEEP _ (hK0.mono (by omega)))
    (first
    | (go_at_call 73; refine (l6Backward_any n1 (by omega) _).mono ?_; rintro e w4 ⟨g1, g2, d2, rfl, r1, r2, hb4⟩; have R1 := hide r1; have R2 := hide r2; have hK4 : Below w3.heap.size w3 w4 := hK0.trans (hb4.mono (by simp)); clear r1 r2 hb4)
    | (go_at_call 14; refine (Transpose_room false c ⟨g1, 0, none⟩ ⟨g2, 0, none⟩ a1 a2 1 n1 n1 n2 1 d2 c1 c2 [(n1 : Int)] (downTo n1) sh dt _ (unhide R1) (unhide R2) ((unhide K1).below (Nat.le_refl _) hK4) ((unhide K2).below (Nat.le_refl _) hK4)).mono ?_; rintro e w5 ⟨b1, m1, f1, b2, m2, f2, rfl, s1, s2, hb5, hcp⟩; (have HR' := unhide HRR; rw [HR'] at s1 s2 hcp ⊢; simp only at s1 s2 hcp ⊢; clear HR'); have HCP := hide hcp; clear hcp; have S1 := hide s1; have S2 := hide s2; have hK5 : Below w3.heap.size w3 w5 := hK4.trans (hb5.mono hK4.size); obtain ⟨q0, q1, q2, q3, q4, q5, q6⟩ := ((unhide E6).below (Nat.le_refl _) hK5).all; clear s1 s2 hb5))
  all_goals go_wp2_with fail
  all_goals
    have HX := hide ((unhide E6).below (Nat.le_refl _) hK5)
    have HBX := hide ((unhide HB).trans (hK5.mono (unhide HB).size))
    have hx := (unhide HX).sets (c' := rc) (u1 := .slice b1 m1 f1) (u2 := .slice b2 m2 f2)
    obtain ⟨s0, s1, s2, _, _, _⟩ := hx.all
    refine bodyPost_ret (v := .tuple #[.agg #[.bool rc, .slice b1 m1 f1, .slice b2 m2 f2], .int .i64 rp]) (by simp [results, Tryz.results20, go_sem, s0, s1, s2]) rfl ?_
    rw [unhide HRR]
    exact ⟨_, _, _, _, _, _, rfl, (unhide S1).sets (unhide HX) _ _ _, (unhide S2).sets (unhide HX) _ _ _, (((unhide HBX).setCell (by simp <;> omega) _).setCell (by simp <;> omega) _).setCell (by simp <;> omega) _, unhide HCP⟩

end Go.Proofs.YtgjpchnkodnieaaGreatDoor
namespace Go.Proofs.YtgjpchnkodnieaaGreatDoor
open Go.RowKit

def withinB (v lo hi : Int) : Bool := decide (lo ≤ v ∧ v ≤ hi)

set_option maxHeartbeats 400000 in
theorem isWithin_any (v lo hi : Int) (w : World) : Calls Tryz.prog 50 #[.int .i64 v, .int .i64 lo, .int .i64 hi] w fun e w' => e = .returned (.bool (withinB v lo hi)) ∧ w' = w := by
  by_cases h1 : lo ≤ v
  · by_cases h2 : v ≤ hi
    · have HE : Hid (withinB v lo hi = true) := decide_eq_true ⟨h1, h2⟩
      go_enter Tryz.func50, Tryz.ntmps50
      go_wp2
      go_ret
      exact ⟨ret_bool HE.out.symm, rfl⟩
    · have HE : Hid (withinB v lo hi = false) := decide_eq_false (fun h => by omega)
      go_enter Tryz.func50, Tryz.ntmps50
      go_wp2
      go_ret
      exact ⟨ret_bool HE.out.symm, rfl⟩
  · have HE : Hid (withinB v lo hi = false) := decide_eq_false (fun h => by omega)
    go_enter Tryz.func50, Tryz.ntmps50
    go_wp2
    go_ret
    exact ⟨ret_bool HE.out.symm, rfl⟩

theorem isWithin_eq (v lo hi : Int) (w : World) (b : Bool) (h : Hid (withinB v lo hi = b)) : Calls Tryz.prog 50 #[.int .i64 v, .int .i64 lo, .int .i64 hi] w fun e w' => e = .returned (.bool b) ∧ w' = w := by
  rw [← h.out]; exact isWithin_any v lo hi w

set_option maxHeartbeats 1000000 in
theorem shapeOk_any (a : Option Addr) (n cap : Nat) (sh : List Int) (w : World) (h : Row w a n sh) : Calls Tryz.prog 114 #[.slice a n cap] w fun e w' => e = .returned (.bool (shapeB sh)) ∧ w' = w := by
  have hlen := hide h.len
  have hsm := h.small
  have H := hide h
  clear h
  by_cases h5 : 5 < n
  · have HE := hide (shape_long (unhide hlen) h5)
    go_enter Tryz.func114, Tryz.ntmps114
    go_wp2
    go_ret
    exact ⟨ret_bool HE.out.symm, rfl⟩
  · go_enter Tryz.func114, Tryz.ntmps114
    go_wp2
    go_loop [3, 5, 11] (fun p _ i => ∃ (k : Nat) (m : Int), k ≤ n ∧ i = .int .i64 k ∧ p = .int .i64 m ∧ Hid ((sh.take k).all inCells = true) ∧ Hid (prodFrom (sh.take k) 1 = some m)) (fun _ _ i => n - (intOf i).toNat)
    case atStart => exact ⟨0, 1, Nat.zero_le _, rfl, rfl, rfl, rfl⟩
    case round =>
      obtain ⟨k, m, hk, rfl, rfl, hall, hp⟩ := hrel
      have hmb := prodFrom_bd (sh.take k) 1 m (unhide hall) (by omega) (by omega) (unhide hp)
      obtain ⟨hm1, hm2⟩ := hmb
      by_cases hlt : k < n
      · obtain ⟨b, off, rfl, hblt, hc⟩ := (unhide H).get hlt
        have hks : Hid (k < sh.length) := by show k < sh.length; rw [unhide hlen]; exact hlt
        obtain ⟨x, hx⟩ : ∃ x, x = sh.getD k 0 := ⟨_, rfl⟩
        rw [← hx] at hc
        have HX := hide hx
        clear hx
        by_cases hin : 0 ≤ x ∧ x ≤ 10000
        · have HW : Hid (withinB x 0 10000 = true) := decide_eq_true hin
          have HA : Hid ((sh.take (k + 1)).all inCells = true) := all_step sh inCells k (unhide hks) (unhide hall) (by rw [← unhide HX]; exact decide_eq_true hin)
          obtain ⟨hx0, hx1⟩ := hin
          by_cases h0 : x = 0
          · have HP := hide (prod_step0 sh k (unhide hks) m (unhide hp) (by rw [← unhide HX]; exact h0))
            subst h0
            have hw : wrap64 (m * (if (0 : Int) < 1 then 1 else 0)) = m := by rw [if_pos (by omega), Int.mul_one]; exact (by unfold wrap64; omega)
            have hv : wrap64 (m * max 0 1) = m := hw
            go_wp2_with (go_at_call 50; refine (isWithin_eq _ _ _ _ true HW).mono ?_; rintro e w' ⟨rfl, rfl⟩)
            go_round
            case rel => exact ⟨k + 1, m, by omega, by go_num, (by first | rfl | rw [hv]), HA, HP⟩
            case measure => simp [intOf]; omega
          · have hx2 : ¬ x < 1 := by omega
            have hmx : m * x ≤ 10000 * 10000 := Int.mul_le_mul hm2 hx1 hx0 (by omega)
            have hmx0 : 0 ≤ m * x := Int.mul_nonneg (by omega) hx0
            have hw : wrap64 (m * x) = m * x := (by unfold wrap64; omega)
            have hv : max x 1 = x := by omega
            by_cases hbig : 10000 < m * x
            · have HE : Hid (shapeB sh = false) := shape_bad (count_big sh (prod_none sh k (unhide hks) m (unhide hp) (by rw [← unhide HX]; exact h0) (by rw [← unhide HX]; exact hbig)))
              clear h0
              go_wp2_with (go_at_call 50; refine (isWithin_eq _ _ _ _ true HW).mono ?_; rintro e w' ⟨rfl, rfl⟩)
              go_ret
              exact ⟨ret_bool HE.out.symm, rfl⟩
            · have HP := hide (prod_step sh k (unhide hks) m (unhide hp) (by rw [← unhide HX]; exact h0) (by rw [← unhide HX]; omega))
              rw [← unhide HX] at HP
              clear h0
              go_wp2_with (go_at_call 50; refine (isWithin_eq _ _ _ _ true HW).mono ?_; rintro e w' ⟨rfl, rfl⟩)
              go_round
              case rel => exact ⟨k + 1, m * x, by omega, by go_num, rfl, HA, HP⟩
              case measure => simp [intOf]; omega
        · have HW : Hid (withinB x 0 10000 = false) := decide_eq_false hin
          have HE : Hid (shapeB sh = false) := shape_bad (count_bad sh (all_not sh inCells k (unhide hks) (by rw [← unhide HX]; exact decide_eq_false hin)))
          clear hin
          go_wp2_with (go_at_call 50; refine (isWithin_eq _ _ _ _ false HW).mono ?_; rintro e w' ⟨rfl, rfl⟩)
          go_ret
          exact ⟨ret_bool HE.out.symm, rfl⟩
      · have htk : sh.take k = sh := List.take_of_length_le (by rw [unhide hlen]; omega)
        have HE := hide (shape_good (unhide hlen) (by omega) m (by have := unhide hall; rwa [htk] at this) (by have := unhide hp; rwa [htk] at this))
        clear htk
        go_wp2
        go_ret
        exact ⟨ret_bool HE.out.symm, rfl⟩

theorem shapeOk_eq (a : Option Addr) (n cap : Nat) (sh : List Int) (w : World) (h : Row w a n sh) (r : Bool) (hr : Hid (shapeB sh = r)) : Calls Tryz.prog 114 #[.slice a n cap] w fun e w' => e = .returned (.bool r) ∧ w' = w := by
  rw [← hr.out]; exact shapeOk_any a n cap sh w h

set_option maxHeartbeats 400000 in
theorem cellsOf_any (a : Option Addr) (n cap : Nat) (sh : List Int) (w : World) (h : Row w a n sh) (hb : ∀ k, 0 ≤ prodAll (sh.take k) ∧ prodAll (sh.take k) ≤ 10000) : Calls Tryz.prog 116 #[.slice a n cap] w fun e w' => e = .returned (.int .i64 (prodAll sh)) ∧ w' = w := by
  have hlen := hide h.len
  have hsm := h.small
  have H := hide h
  have HB := hide hb
  clear h hb
  go_enter Tryz.func116, Tryz.ntmps116
  go_wp2
  go_loop [3, 5, 8] (fun p _ i => ∃ (k : Nat) (m : Int), k ≤ n ∧ i = .int .i64 k ∧ p = .int .i64 m ∧ Hid (prodAll (sh.take k) = m)) (fun _ _ i => n - (intOf i).toNat)
  case atStart => exact ⟨0, 1, Nat.zero_le _, rfl, rfl, rfl⟩
  case round =>
    obtain ⟨k, m, hk, rfl, rfl, hp⟩ := hrel
    by_cases hlt : k < n
    · obtain ⟨b, off, rfl, hblt, hc⟩ := (unhide H).get hlt
      have hks : Hid (k < sh.length) := by show k < sh.length; rw [unhide hlen]; exact hlt
      obtain ⟨x, hx⟩ : ∃ x, x = sh.getD k 0 := ⟨_, rfl⟩
      have HP : Hid (prodAll (sh.take (k + 1)) = m * x) := by show _ = _; rw [prodAll_snoc sh k (unhide hks), unhide hp, hx]
      have hpb := unhide HB (k + 1)
      rw [unhide HP] at hpb
      obtain ⟨hb0, hb1⟩ := hpb
      rw [← hx] at hc
      clear hx
      go_wp2
      go_round
      case rel => exact ⟨k + 1, m * x, by omega, by go_num, rfl, HP⟩
      case measure => simp [intOf]; omega
    · have HE : Hid (prodAll sh = m) := by have := unhide hp; rwa [List.take_of_length_le (by rw [unhide hlen]; omega)] at this
      go_wp2
      go_ret
      exact ⟨ret_int HE.out.symm, rfl⟩

theorem cellsOf_count (a : Option Addr) (n cap : Nat) (sh : List Int) (w : World) (h : Row w a n sh) (hs : shapeB sh = true) (cn : Int) (hc : Hid (countOf sh = cn)) : Calls Tryz.prog 116 #[.slice a n cap] w fun e w' => e = .returned (.int .i64 cn) ∧ w' = w := by
  rw [← hc.out, ← prodAll_count sh hs]; exact cellsOf_any a n cap sh w h (prodAll_bd sh hs)

end Go.Proofs.YtgjpchnkodnieaaGreatDoor
namespace Go.Proofs.YtgjpchnkodnieaaGreatDoor
open Go.RowKit

set_option maxHeartbeats 400000 in
theorem isNumber_any (v : Int) (w : World) : Calls Tryz.prog 215 #[.int .i64 v] w fun e w' => e = .returned (.bool (dataOk false v)) ∧ w' = w := by
  have HE : Hid (dataOk false v = withinB v (-1000000000000000) 1000000000000000) := by show _ = _; unfold dataOk withinB; simp
  go_enter Tryz.func215, Tryz.ntmps215
  go_wp2_with (go_at_call 50; refine (isWithin_any _ _ _ _).mono ?_; rintro e w' ⟨rfl, rfl⟩)
  go_ret
  exact ⟨ret_bool HE.out.symm, rfl⟩

set_option maxHeartbeats 400000 in
theorem ValidRune_any (v : Int) (w : World) (h0 : 0 ≤ v) (h1 : v ≤ 1114111) : Calls Tryz.prog 266 #[.int .i32 v] w fun e w' => e = .returned (.bool (runeOk v)) ∧ w' = w := by
  by_cases h3 : v < 55296
  · have HE : Hid (runeOk v = true) := decide_eq_true ⟨h0, h1, .inl h3⟩
    go_enter Tryz.func266, Tryz.ntmps266
    go_wp2
    go_ret
    exact ⟨ret_bool HE.out.symm, rfl⟩
  · by_cases h4 : 57343 < v
    · have HE : Hid (runeOk v = true) := decide_eq_true ⟨h0, h1, .inr h4⟩
      go_enter Tryz.func266, Tryz.ntmps266
      go_wp2
      go_ret
      exact ⟨ret_bool HE.out.symm, rfl⟩
    · have HE : Hid (runeOk v = false) := decide_eq_false (fun h => by omega)
      go_enter Tryz.func266, Tryz.ntmps266
      go_wp2
      go_ret
      exact ⟨ret_bool HE.out.symm, rfl⟩

theorem wrap32 (v : Int) (h0 : 0 ≤ v) (h1 : v ≤ 1114111) : IntKind.i32.wrap v = v := by
  unfold IntKind.wrap; simp [IntKind.bits, IntKind.signed]; omega

set_option maxHeartbeats 400000 in
theorem isCharacter_any (v : Int) (w : World) : Calls Tryz.prog 216 #[.int .i64 v] w fun e w' => e = .returned (.bool (dataOk true v)) ∧ w' = w := by
  by_cases h : 0 ≤ v ∧ v ≤ 1114111
  · obtain ⟨h0, h1⟩ := h
    have HE : Hid (dataOk true v = runeOk v) := by show _ = _; unfold dataOk; rw [decide_eq_true (by omega)]; simp
    have HW : Hid (withinB v 0 1114111 = true) := decide_eq_true ⟨h0, h1⟩
    have hw := wrap32 v h0 h1
    go_enter Tryz.func216, Tryz.ntmps216
    go_wp2_with (first | (go_at_call 50; refine (isWithin_eq _ _ _ _ true HW).mono ?_; rintro e w' ⟨rfl, rfl⟩) | (go_at_call 266; refine (ValidRune_any _ _ h0 h1).mono ?_; rintro e w' ⟨rfl, rfl⟩))
    go_ret
    exact ⟨ret_bool HE.out.symm, rfl⟩
  · have HE : Hid (dataOk true v = false) := by show _ = _; unfold dataOk runeOk; rw [decide_eq_false (p := 0 ≤ v ∧ _ ∧ _) (by omega)]; simp
    have HW : Hid (withinB v 0 1114111 = false) := decide_eq_false h
    clear h
    go_enter Tryz.func216, Tryz.ntmps216
    go_wp2_with (go_at_call 50; refine (isWithin_eq _ _ _ _ false HW).mono ?_; rintro e w' ⟨rfl, rfl⟩)
    go_ret
    exact ⟨ret_bool HE.out.symm, rfl⟩

end Go.Proofs.YtgjpchnkodnieaaGreatDoor
namespace Go.Proofs.YtgjpchnkodnieaaGreatDoor

theorem map_range_set (n k : Nat) (f : Nat → Int) (x : Int) : ((List.range n).map f).set k x = (List.range n).map fun i => if i = k then x else f i := by
  apply List.ext_getElem
  · simp
  · intro i h1 h2
    simp only [List.getElem_set, List.getElem_map, List.getElem_range]
    by_cases e : k = i
    · subst e; simp
    · rw [if_neg e, if_neg (fun h => e h.symm)]

theorem map_range_get (n k : Nat) (f : Nat → Int) (h : k < n) : ((List.range n).map f).getD k 0 = f k := by simp [h]
theorem map_range_len (n : Nat) (f : Nat → Int) : ((List.range n).map f).length = n := by simp
theorem map_range_eq {n : Nat} {f g : Nat → Int} (h : ∀ i, i < n → f i = g i) : (List.range n).map f = (List.range n).map g := List.map_congr_left fun i hi => h i (by simpa using hi)

/-- The index of place p whose last j numbers have gone back to 0. -/
def midDigit (sh : List Int) (p : Int) (j i : Nat) : Int := if sh.length - j ≤ i then 0 else digit sh p i
def mid (sh : List Int) (p : Int) (j : Nat) : List Int := (List.range sh.length).map (midDigit sh p j)

theorem mid_len (sh : List Int) (p : Int) (j : Nat) : (mid sh p j).length = sh.length := by simp [mid]
theorem mid_get (sh : List Int) (p : Int) (j : Nat) (hj : j < sh.length) : (mid sh p j).getD (sh.length - 1 - j) 0 = digit sh p (sh.length - 1 - j) := by
  unfold mid; rw [map_range_get _ _ _ (by omega)]; unfold midDigit; rw [if_neg (by omega)]
theorem mid_zero (sh : List Int) (p : Int) : mid sh p 0 = digits sh p := map_range_eq fun i hi => by unfold midDigit; rw [if_neg (by omega)]
theorem mid_step (sh : List Int) (p : Int) (j : Nat) (hj : j < sh.length) : (mid sh p j).set (sh.length - 1 - j) 0 = mid sh p (j + 1) := by
  unfold mid
  rw [map_range_set]
  refine map_range_eq fun i hi => ?_
  unfold midDigit
  by_cases e : i = sh.length - 1 - j
  · rw [if_pos e, if_pos (by omega)]
  · rw [if_neg e]
    by_cases h : sh.length - j ≤ i
    · rw [if_pos h, if_pos (by omega)]
    · rw [if_neg h, if_neg (by omega)]

def Carry (sh : List Int) (p : Int) (j : Nat) : Prop := restN sh (p + 1) j = restN sh p j + 1 ∧ ∀ i, sh.length - j ≤ i → i < sh.length → digit sh (p + 1) i = 0

theorem carry_zero (sh : List Int) (p : Int) : Carry sh p 0 := ⟨rfl, fun i h1 h2 => by omega⟩

theorem next_same {r s : Int} (hs : 0 < s) (h : r % s + 1 < s) : (r + 1) / s = r / s ∧ (r + 1) % s = r % s + 1 := by
  have h1 := Int.mul_ediv_add_emod r s
  have h2 := Int.emod_nonneg r (by omega : s ≠ 0)
  exact (Int.ediv_emod_unique hs).2 ⟨by omega, by omega, h⟩

theorem next_over {r s : Int} (hs : 0 < s) (h : ¬ r % s + 1 < s) : (r + 1) / s = r / s + 1 ∧ (r + 1) % s = 0 := by
  have h1 := Int.mul_ediv_add_emod r s
  have h2 := Int.emod_nonneg r (by omega : s ≠ 0)
  have h3 := Int.emod_lt_of_pos r hs
  have h4 : r % s + 1 = s := by omega
  refine (Int.ediv_emod_unique hs).2 ⟨?_, by omega, hs⟩
  rw [Int.mul_add, Int.mul_one]
  omega

theorem digit_at (sh : List Int) (p : Int) (j : Nat) (hj : j < sh.length) : digit sh p (sh.length - 1 - j) = restN sh p j % sh.getD (sh.length - 1 - j) 0 := by
  unfold digit; rw [show sh.length - 1 - (sh.length - 1 - j) = j by omega]

theorem carry_step {sh : List Int} (hf : Full sh) {p : Int} {j : Nat} (hc : Carry sh p j) (hj : j < sh.length) (h : ¬ digit sh p (sh.length - 1 - j) + 1 < sh.getD (sh.length - 1 - j) 0) : Carry sh p (j + 1) := by
  rw [digit_at _ _ _ hj] at h
  obtain ⟨h1, h2⟩ := next_over (hf (sh.length - 1 - j) (by omega)) h
  refine ⟨?_, fun i hi hl => ?_⟩
  · show restN sh (p + 1) j / _ = restN sh p j / _ + 1
    rw [hc.1]; exact h1
  · by_cases e : i = sh.length - 1 - j
    · subst e; rw [digit_at _ _ _ hj, hc.1]; exact h2
    · exact hc.2 i (by omega) hl

theorem restN_congr {sh : List Int} {p q : Int} {j : Nat} (h : restN sh p j = restN sh q j) (d : Nat) : restN sh p (j + d) = restN sh q (j + d) := by
  induction d with
  | zero => exact h
  | succ d ih => show restN sh p (j + d) / _ = restN sh q (j + d) / _; rw [ih]

theorem carry_stop {sh : List Int} (hf : Full sh) {p : Int} {j : Nat} (hc : Carry sh p j) (hj : j < sh.length) (h : digit sh p (sh.length - 1 - j) + 1 < sh.getD (sh.length - 1 - j) 0) :
    (mid sh p j).set (sh.length - 1 - j) (digit sh p (sh.length - 1 - j) + 1) = digits sh (p + 1) := by
  have hd := digit_at sh p j hj
  rw [hd] at h ⊢
  obtain ⟨h1, h2⟩ := next_same (hf (sh.length - 1 - j) (by omega)) h
  unfold mid digits
  rw [map_range_set]
  refine map_range_eq fun i hi => ?_
  by_cases e : i = sh.length - 1 - j
  · rw [if_pos e]; subst e; rw [digit_at _ _ _ hj, hc.1, h2]
  · rw [if_neg e]
    unfold midDigit
    by_cases h3 : sh.length - j ≤ i
    · rw [if_pos h3, hc.2 i h3 hi]
    · rw [if_neg h3]
      have e2 : restN sh p (j + 1) = restN sh (p + 1) (j + 1) := by
        show restN sh p j / _ = restN sh (p + 1) j / _
        rw [hc.1, h1]
      have e3 := restN_congr e2 (sh.length - 1 - i - (j + 1))
      rw [show j + 1 + (sh.length - 1 - i - (j + 1)) = sh.length - 1 - i by omega] at e3
      unfold digit
      rw [e3]

theorem carry_end {sh : List Int} {p : Int} {j : Nat} (hc : Carry sh p j) (hj : sh.length ≤ j) : mid sh p j = digits sh (p + 1) :=
  map_range_eq fun i hi => by unfold midDigit; rw [if_pos (by omega), hc.2 i (by omega) hi]

theorem digits_zero (sh : List Int) : digits sh 0 = List.replicate sh.length 0 := by
  have h0 : ∀ j, restN sh 0 j = 0 := by
    intro j
    induction j with
    | zero => rfl
    | succ j ih => show restN sh 0 j / _ = 0; rw [ih]; simp
  have e : List.replicate sh.length (0 : Int) = (List.range sh.length).map fun _ => 0 := by
    rw [List.map_const']; simp
  rw [e]
  exact map_range_eq fun i hi => by unfold digit; rw [h0]; simp

/-- The index of another array that a function of indexes means. -/
def meant (sh : List Int) (f : List Int → Nat → Int) (D : List Int) : List Int := (List.range sh.length).map (f D)

theorem meant_len (sh : List Int) (f : List Int → Nat → Int) (D : List Int) : (meant sh f D).length = sh.length := by simp [meant]
theorem meant_get (sh : List Int) (f : List Int → Nat → Int) (D : List Int) (k : Nat) (h : k < sh.length) : (meant sh f D).getD k 0 = f D k := map_range_get _ _ _ h

/-- What stands at place k of what is gathered. -/
def gatherAt (c : Bool) (sh dt : List Int) (f : List Int → Nat → Int) (zs : List Int) (k : Nat) : Int × Int :=
  if insideN sh (meant sh f (digits zs k)) sh.length = true then (dt.getD (place sh (meant sh f (digits zs k))).toNat 0, 0) else (fillOf c, 0)

/-- k elements have been gathered, the others are the fill. -/
def halfway (c : Bool) (sh dt : List Int) (f : List Int → Nat → Int) (zs : List Int) (N k : Nat) : List Int := (List.range N).map fun i => if i < k then (gatherAt c sh dt f zs i).1 else fillOf c

theorem half_len (c : Bool) (sh dt : List Int) (f : List Int → Nat → Int) (zs : List Int) (N k : Nat) : (halfway c sh dt f zs N k).length = N := by simp [halfway]
theorem half_zero (c : Bool) (sh dt : List Int) (f : List Int → Nat → Int) (zs : List Int) (N : Nat) : halfway c sh dt f zs N 0 = List.replicate N (fillOf c) := by
  have e : List.replicate N (fillOf c) = (List.range N).map fun _ => fillOf c := by rw [List.map_const']; simp
  rw [e]
  exact map_range_eq fun i _ => by rw [if_neg (by omega)]
theorem half_all (c : Bool) (sh dt : List Int) (f : List Int → Nat → Int) (zs : List Int) (N : Nat) : halfway c sh dt f zs N N = vals (gatherAt c sh dt f zs) N := map_range_eq fun i hi => by rw [if_pos hi]
theorem half_in (c : Bool) (sh dt : List Int) (f : List Int → Nat → Int) (zs : List Int) (N k : Nat) (x : Int) (hx : (gatherAt c sh dt f zs k).1 = x) : (halfway c sh dt f zs N k).set k x = halfway c sh dt f zs N (k + 1) := by
  unfold halfway
  rw [map_range_set]
  refine map_range_eq fun i _ => ?_
  by_cases e : i = k
  · subst e; rw [if_pos rfl, if_pos (by omega), hx]
  · rw [if_neg e]
    by_cases h : i < k
    · rw [if_pos h, if_pos (by omega)]
    · rw [if_neg h, if_neg (by omega)]
theorem half_out (c : Bool) (sh dt : List Int) (f : List Int → Nat → Int) (zs : List Int) (N k : Nat) (h : insideN sh (meant sh f (digits zs k)) sh.length = false) : halfway c sh dt f zs N k = halfway c sh dt f zs N (k + 1) := by
  refine map_range_eq fun i _ => ?_
  by_cases e : i = k
  · subst e; rw [if_neg (by omega), if_pos (by omega)]; unfold gatherAt; rw [if_neg (by simp [h])]
  · by_cases h : i < k
    · rw [if_pos h, if_pos (by omega)]
    · rw [if_neg h, if_neg (by omega)]
theorem gather_in {c : Bool} {sh dt : List Int} {f : List Int → Nat → Int} {zs : List Int} {k : Nat} (h : insideN sh (meant sh f (digits zs k)) sh.length = true) : (gatherAt c sh dt f zs k).1 = dt.getD (place sh (meant sh f (digits zs k))).toNat 0 := by unfold gatherAt; rw [if_pos h]

theorem inside_step {sh ix : List Int} {k : Nat} (h : insideN sh ix k = true) (h1 : 0 ≤ ix.getD k 0) (h2 : ix.getD k 0 < sh.getD k 0) : insideN sh ix (k + 1) = true := by
  simp only [insideN, Bool.and_eq_true, decide_eq_true_eq]; exact ⟨h, h1, h2⟩
theorem inside_not {sh ix : List Int} {n k : Nat} (hk : k < n) (h : ¬ (0 ≤ ix.getD k 0 ∧ ix.getD k 0 < sh.getD k 0)) : insideN sh ix n = false := by
  cases e : insideN sh ix n with
  | false => rfl
  | true => exact absurd (inside_each e k hk) h
theorem placeN_bd' {sh ix : List Int} (k : Nat) (hi : insideN sh ix k = true) (hk : k ≤ sh.length) : 0 ≤ placeN sh ix k ∧ placeN sh ix k < prodAll (sh.take k) ∨ k = 0 := by
  by_cases h0 : k = 0
  · exact .inr h0
  refine .inl ?_
  have hin : IxIn (sh.take k) ix := fun i hi' => by
    have hi2 : i < k := by simp at hi'; omega
    have := inside_each hi i hi2
    have e : (sh.take k).getD i 0 = sh.getD i 0 := by simp [List.getD, hi2]
    rw [e]; exact this
  have hb := place_bd hin
  have e2 : ∀ j, j ≤ k → placeN (sh.take k) ix j = placeN sh ix j := by
    intro j
    induction j with
    | zero => intro _; rfl
    | succ j ih =>
      intro hj
      show placeN (sh.take k) ix j * _ + _ = placeN sh ix j * _ + _
      rw [ih (by omega)]
      have e : (sh.take k).getD j 0 = sh.getD j 0 := by simp [List.getD, show j < k by omega]
      rw [e]
  have hlen : (sh.take k).length = k := by simp; omega
  unfold place at hb
  rw [hlen, e2 k (Nat.le_refl _)] at hb
  exact hb

end Go.Proofs.YtgjpchnkodnieaaGreatDoor
namespace Go.Proofs.YtgjpchnkodnieaaGreatDoor

/-- The numbers 1, 2, .. up to L. -/
def upTo (L : Nat) : List Int := (List.range L).map fun (i : Nat) => (i : Int) + 1
theorem upTo_len (L : Nat) : (upTo L).length = L := by simp [upTo]
theorem upTo_get {L i : Nat} (h : i < L) : (upTo L).getD i 0 = (i : Int) + 1 := by simp [upTo, h]

end Go.Proofs.YtgjpchnkodnieaaGreatDoor
namespace Go.Proofs.YtgjpchnkodnieaaGreatDoor
open Go.RowKit

def upToN (L k : Nat) : List Int := (List.range L).map fun (i : Nat) => if i < k then (i : Int) + 1 else 0
theorem upToN_zero (L : Nat) : upToN L 0 = List.replicate L 0 := by
  apply List.ext_getElem <;> simp [upToN]
theorem upToN_all (L : Nat) : upToN L L = upTo L := map_range_eq fun i hi => by rw [if_pos hi]
theorem upToN_step {L k : Nat} : (upToN L k).set k ((k : Int) + 1) = upToN L (k + 1) := by
  unfold upToN
  rw [map_range_set]
  refine map_range_eq fun i hi => ?_
  by_cases h : i = k
  · subst h; simp
  · rw [if_neg h]
    by_cases h2 : i < k
    · rw [if_pos h2, if_pos (by omega)]
    · rw [if_neg h2, if_neg (by omega)]

set_option maxHeartbeats 2000000 in
theorem numbersUpTo_any (L : Nat) (hL : L ≤ 10000) (w : World) :
    Calls Tryz.prog 218 #[.int .i64 (L : Nat)] w fun e w' => ∃ s g, e = .returned (.agg #[.bool false, .slice (some ⟨s, 0, none⟩) 1 1, .slice (some ⟨g, 0, none⟩) L L]) ∧ w.heap.size ≤ s ∧ w.heap.size ≤ g ∧ s ≠ g ∧ Blk w' s [(L : Int)] ∧ Blk w' g (upTo L) ∧ Below w.heap.size w w' := by
  have hmk := run_make_row' (P := Tryz.prog) 23 3 (.int .i64 0) 8 Tryz.underlying23 info_int rfl .i64 .i64 L (by omega) (by omega)
  go_enter Tryz.func218, Tryz.ntmps218
  go_wp2_with fail
  obtain ⟨g, hg⟩ : ∃ g, g = w.heap.size + 1 := ⟨_, rfl⟩
  obtain ⟨W, hW⟩ : ∃ W, W = (w.alloc (.cells #[.bool false, .slice none 0 0, .slice none 0 0] 25)).alloc (.cells (madeCells #[.int .i64 0] L) 3) := ⟨_, rfl⟩
  have HB0 : Hid (Box W w.heap.size false (.slice none 0 0) (.slice none 0 0)) := by rw [hW]; exact (Box.new w _ _ _).alloc _
  have HG : Hid (Blk W g (upToN L 0)) := by show Blk W g _; rw [upToN_zero, hW]; exact Blk.made _ _ _ (by rw [hg]; simp)
  have HBL : Hid (Below w.heap.size w W) := by rw [hW]; exact ((Below.refl _ w).alloc (Nat.le_refl _) _).alloc (by simp) _
  have hzw : W.heap.size = w.heap.size + 1 + 1 := by rw [hW]; simp
  have HZW := hide hzw
  have HGE := hide hg
  rw [← hW, ← hg]
  clear hW hzw hmk
  have hgw : w.heap.size < g := by omega
  clear hg
  go_loopw [9] (fun i wr => ∃ k : Nat, k ≤ L ∧ i = .int .i64 (k : Nat) ∧ Hid (Blk wr g (upToN L k)) ∧ Hid (But (fun x => x = g) W wr)) (fun i _ => L - (intOf i).toNat)
  case atStart => exact ⟨0, Nat.zero_le _, rfl, HG, hide (But.refl _ _)⟩
  case round =>
    obtain ⟨k, hk, rfl, hb, hbut⟩ := hrel
    by_cases hlt : k < L
    · have hc := (unhide hb).cell (i := k) (by simp [upToN, hlt])
      have hf := (unhide hb).free k
      have hkz : (k : Int) < (L : Int) := by omega
      go_wp2_with fail
      go_roundw
      case rel =>
        refine ⟨k + 1, by omega, by go_num, ?_, hide ((unhide hbut).setCell (p := ⟨g, k, none⟩) rfl _)⟩
        show Blk _ _ _
        rw [← upToN_step]
        exact (unhide hb).set k _
      case measure => simp [intOf]; omega
    · have e : k = L := by omega
      subst k
      obtain ⟨s, hs⟩ : ∃ s, s = wr.heap.size := ⟨_, rfl⟩
      have HBW : Hid (Below w.heap.size w wr) := (unhide HBL).trans ((unhide hbut).below (by have := unhide HZW; omega) (by rintro x rfl; omega))
      have hgl := (unhide hb).lt
      have hws := (unhide HBW).size
      have HB1 : Hid (Box (wr.alloc (.cells #[.int .i64 (L : Nat)] 3)) w.heap.size false (.slice none 0 0) (.slice none 0 0)) := ((unhide HB0).but (unhide hbut) (by show ¬ w.heap.size = g; omega)).alloc _
      obtain ⟨q0, q1, q2, q3, q4, q5, q6⟩ := (unhide HB1).all
      have hbs : Blk (wr.alloc (.cells #[.int .i64 (L : Nat)] 3)) wr.heap.size [(L : Int)] := by
        show (wr.heap.push _)[wr.heap.size]? = _
        simp
      have HBS := hide hbs
      clear hbs hk hlt
      go_wp2_with fail
      have hx := (unhide HB1).sets (c' := false) (u1 := .slice (some ⟨wr.heap.size, 0, none⟩) 1 1) (u2 := .slice (some ⟨g, 0, none⟩) L L)
      obtain ⟨r0, r1, r2, _, _, _⟩ := hx.all
      refine bodyPost_ret (v := .agg #[.bool false, .slice (some ⟨wr.heap.size, 0, none⟩) 1 1, .slice (some ⟨g, 0, none⟩) L L]) (by simp [results, Tryz.results218, go_sem, r0, r1, r2]) rfl ?_
      have n1 : wr.heap.size ≠ w.heap.size := by omega
      have n2 : g ≠ w.heap.size := by omega
      refine ⟨wr.heap.size, g, rfl, hws, by omega, by omega, ?_, ?_, ?_⟩
      · exact (((unhide HBS).other (p := ⟨w.heap.size, 0, none⟩) n1 _).other (p := ⟨w.heap.size, 1, none⟩) n1 _).other (p := ⟨w.heap.size, 2, none⟩) n1 _
      · rw [← upToN_all]
        exact ((((unhide hb).alloc _).other (p := ⟨w.heap.size, 0, none⟩) n2 _).other (p := ⟨w.heap.size, 1, none⟩) n2 _).other (p := ⟨w.heap.size, 2, none⟩) n2 _
      · exact ((((unhide HBW).alloc hws _).setCell (by simp) _).setCell (by simp) _).setCell (by simp) _

end Go.Proofs.YtgjpchnkodnieaaGreatDoor
namespace Go.Proofs.YtgjpchnkodnieaaGreatDoor
open Go.RowKit

/-- A function that hands out N rounds, each with its number and a value of which H says what lies there, and that keeps cells of its own from one round to the next. T: the blocks that a round may change. -/
def SeqCells (m : Nat) (P : Program) (g : Nat) (lb : Array Value) (N : Nat) (H : Nat → Value → World → Prop) (T : Nat → Prop) (w0 : World) : Prop :=
  ∀ (l : Nat) (J : Nat → World → Prop) (W : World), Below w0.heap.size w0 W → w0.heap.size + 2 ≤ W.heap.size → (∀ k, T k → k < W.heap.size) → (∀ k A B, J k A → Below W.heap.size A B → J k B) →
    (∀ k v W1, k < N → J k W1 → H k v W1 → YieldAt Fence.wide (m - 1) P l #[.int .i64 (k : Nat), v] W1 fun e W' => e = .returned (.bool true) ∧ J (k + 1) W' ∧ But T W1 W') →
    J 0 W → CallsIn Fence.wide m P g (#[.func (.yield l) #[] #[]] ++ lb) W fun e W' => (∃ v, e = .returned v) ∧ J N W'

/-- How a round's body is left: off its end, with what it wrote in S alone. -/
def roundEnd (S : Nat → Prop) (I : World → Prop) (W : World) : Exit → Act → World → Prop
  | .normal, _, W' => But S W W' ∧ I W'
  | _, _, _ => False

theorem But.putObj {S : Nat → Prop} (W : World) {l : Nat} (hl : S l) (o : Obj) : But S W (W.putObj l o) :=
  ⟨rfl, rfl, rfl, by simp, fun k _ hn => World.putObj_heap_other (fun e => hn (e ▸ hl))⟩

theorem below_putObj {B : Nat} (W : World) {l : Nat} (hl : B ≤ l) (o : Obj) : Below B W (W.putObj l o) :=
  ⟨rfl, rfl, rfl, by simp, fun k hk => World.putObj_heap_other (by omega)⟩

/-- A range over such a function whose body never leaves it. -/
theorem range_cells {P : Program} {m N : Nat} {g : Operand} {ps : Array Tmp} {assign body : Code} {Q : Exit → Act → World → Prop} {a : Act} {w : World}
    {gf : Nat} {lb : Array Value} (hg : a.eval g = .func (.func gf) #[] lb) (eg : ∀ args w, (callFunc gf args).run P w = .ok (.enter gf args) w) (hps : ps.size = 2)
    {H : Nat → Value → World → Prop} (S : Nat → Prop) (hS : ∀ k, S k → k < w.heap.size) (hseq : SeqCells (m - 1) P gf lb N H (fun k => S k ∨ k = w.heap.size + 1) w)
    (hH : ∀ k v A o, H k v A → w.heap.size + 1 < A.heap.size → H k v (A.putObj (w.heap.size + 1) o))
    (I : Nat → World → Prop) (hI : ∀ k A B, I k A → Below w.heap.size A B → I k B) (h0 : I 0 w) (a₁ : Nat → Value → Act)
    (hassign : ∀ (l k : Nat) (v : Value) (W : World) (K : Act → World → Prop), K (a₁ k v) W →
      assign.wpIn (Fence.wide.inRound l) (m - 1 - 1) P (Exit.then K (fun _ _ _ => False)) { tmps := (ps.zip #[.int .i64 (k : Nat), v]).foldl (fun t (p, v) => t.setIfInBounds p v) a.tmps, defers := [] } W)
    (hbody : ∀ (l k : Nat) (v : Value) (W : World), k < N → I k W → H k v W → w.heap.size ≤ W.heap.size → body.wpIn (Fence.wide.inRound l) (m - 1 - 1) P (roundEnd S (I (k + 1)) W) (a₁ k v) W)
    (hdone : ∀ (D : Nat) (W : World), w.heap.size ≤ D → I N W → W.heap[D]? = some (.deferred (some [])) → Q .normal { a with defers := { target := .collected D, args := #[] } :: a.defers } W) :
    (Code.rangeFunc g ps assign body).wpIn Fence.wide m P Q a w := by
  refine wpIn_rangeFunc ?_
  intro fn hfn
  obtain ⟨rec, hrec⟩ : ∃ rec : LoopState → Loop, rec = fun st => { state := st, pending := none, fn, tmps := a.tmps, params := ps, assign, body, defers := w.heap.size } := ⟨_, rfl⟩
  obtain ⟨W1, hW1⟩ : ∃ W1, (w.alloc (.deferred (some []))).alloc (.loop (rec .ready)) = W1 := ⟨_, rfl⟩
  have hL1 : W1.heap[w.heap.size + 1]? = some (.loop (rec .ready)) := by
    rw [← hW1]; have := World.alloc_heap_new (w.alloc (.deferred (some []))) (.loop (rec .ready)); rwa [World.size_alloc] at this
  have hK1 : W1.heap[w.heap.size]? = some (.deferred (some [])) := by rw [← hW1]; exact (Below.heap_alloc _ _ _ (by simp)).trans (World.alloc_heap_new w _)
  have hb1 : Below w.heap.size w W1 := by rw [← hW1]; exact ((Below.refl _ w).alloc (Nat.le_refl _) _).alloc (by simp) _
  have hz1 : W1.heap.size = w.heap.size + 2 := by rw [← hW1]; simp
  refine ⟨w.heap.size + 1, [{ target := .collected w.heap.size, args := #[] }], W1, { target := .fn (.func gf) lb, args := #[.func (.yield (w.heap.size + 1)) #[] #[]] }, W1, gf,
    #[.func (.yield (w.heap.size + 1)) #[] #[]] ++ lb, W1, ?_, ?_, ?_, ?_, ?_, ?_⟩
  · rw [← hW1, hrec]; exact run_enterLoop_outer _ _ _ _ _
  · simp only [resolve, hg]; simp [go_sem]
  · intro _ _; exact trivial
  · simp [invoke, go_sem, eg]
  · intro h; simp [Fence.wide] at h
  · refine (hseq (w.heap.size + 1) (fun k W => I k W ∧ W.heap[w.heap.size + 1]? = some (.loop (rec .ready)) ∧ W.heap[w.heap.size]? = some (.deferred (some []))) W1 hb1 (by omega)
      (by rintro k (h | rfl); exact Nat.lt_of_lt_of_le (hS k h) (by omega); omega) ?_ ?_ ⟨hI _ _ _ h0 hb1, hL1, hK1⟩).mono ?_
    · rintro k A B ⟨i, l, d⟩ hb
      rw [hz1] at hb
      exact ⟨hI _ _ _ i (hb.mono (by omega)), (hb.block _ (by omega)).trans l, (hb.block _ (by omega)).trans d⟩
    · rintro k v W hk ⟨hi, hl, hd⟩ hh
      have hlt : w.heap.size + 1 < W.heap.size := (Array.getElem?_eq_some_iff.1 hl).1
      have hy := run_yield (P := P) (args := #[.int .i64 (k : Nat), v]) hl (by rw [hrec]; simp [hps])
      rw [hrec] at hy
      refine ⟨fn, _, assign, body, hy, roundIn_of_wpIn hfn (hassign _ k v W _ ⟨_, run_beginRound hl (by rw [hrec]), ?_⟩)⟩
      refine wpIn_mono (hbody _ k v _ hk (hI _ _ _ hi (below_putObj W (by omega) _)) (hH _ _ _ _ hh hlt) (by simp; omega)) ?_
      rintro e a3 W3 hp
      cases e with
      | normal =>
        obtain ⟨hbut, hi3⟩ := hp
        have hne : ¬ S (w.heap.size + 1) := fun h => by have := hS _ h; omega
        have hnd : ¬ S w.heap.size := fun h => by have := hS _ h; omega
        have hl3 := (hbut.block (w.heap.size + 1) (by simpa using hlt) hne).trans (World.putObj_heap_same hlt)
        have hd3 := (hbut.block w.heap.size (by simp; omega) hnd).trans ((World.putObj_heap_other (by omega)).trans hd)
        have hr := run_endRound (P := P) none hl3
        have hlt3 : w.heap.size + 1 < W3.heap.size := (Array.getElem?_eq_some_iff.1 hl3).1
        refine ⟨_, _, hr, rfl, ⟨hI _ _ _ hi3 (below_putObj W3 (by omega) _), ?_, (World.putObj_heap_other (by omega)).trans hd3⟩, ?_⟩
        · rw [World.putObj_heap_same hlt3, hrec]; rfl
        · exact (((But.putObj (S := fun k => S k ∨ k = w.heap.size + 1) W (.inr rfl) _).trans (hbut.mono (T := fun k => S k ∨ k = w.heap.size + 1) (fun k hk => Or.inl hk))).trans (But.putObj (S := fun k => S k ∨ k = w.heap.size + 1) W3 (.inr rfl) _)).mono (by rintro k ((h | h) | h) <;> exact h)
      | ret => exact hp.elim
      | exit id => exact hp.elim
      | goto t => exact hp.elim
      | panic ch => exact hp.elim
      | outgrown => exact hp.elim
    · rintro e W2 ⟨⟨v, rfl⟩, hi, hl, hd⟩
      refine ⟨none, _, by have := run_endLoop (P := P) hl (by rw [hrec]; simp); rw [hrec] at this; exact this, hdone w.heap.size _ (Nat.le_refl _) (hI _ _ _ hi (below_putObj W2 (by omega) _)) ((World.putObj_heap_other (by omega)).trans hd)⟩

end Go.Proofs.YtgjpchnkodnieaaGreatDoor

namespace Go.Proofs.YtgjpchnkodnieaaGreatDoor
open Go.RowKit

theorem But.drewN {S : Nat → Prop} {w w' : World} (h : But S w w') (q : Nat) : But S w (w'.drewN q) := ⟨h.os, h.tape, h.output, h.size, h.block⟩

set_option maxRecDepth 20000 in
set_option maxHeartbeats 2000000 in
theorem advance_any (g : Nat) (sa : Option Addr) (n c1 c2 : Nat) (sh : List Int) (p : Int) (w : World) (h : Blk w g (digits sh p)) (hr : Row w sa n sh) (hne : ¬ At sa n g) (hf : Full sh) (hs : ShapeIn sh) :
    Calls Tryz.prog 229 #[.slice (some ⟨g, 0, none⟩) n c1, .slice sa n c2] w fun e w' => (∃ v, e = .returned v) ∧ Blk w' g (digits sh (p + 1)) ∧ But (fun k => k = g) w w' := by
  have hl := hr.len
  have hsm := hr.small
  have H0 : Hid (Blk w g (mid sh p 0)) := by show Blk _ _ _; rw [mid_zero]; exact h
  have HR := hide hr
  have HF := hide hf
  have HS := hide hs
  have HNE := hide hne
  have HC0 := hide (carry_zero sh p)
  have HL := hide hl
  clear h hr hf hs hne
  go_enter Tryz.func229, Tryz.ntmps229
  go_wp2_with fail
  go_loopw [4] (fun i wr => ∃ j : Nat, j ≤ n ∧ i = .int .i64 ((n : Int) - 1 - (j : Nat)) ∧ Hid (Carry sh p j) ∧ Hid (Blk wr g (mid sh p j)) ∧ Hid (But (fun k => k = g) w wr)) (fun i _ => (intOf i + 1).toNat)
  case atStart => exact ⟨0, Nat.zero_le _, by simp, HC0, H0, hide (But.refl _ _)⟩
  case round =>
    obtain ⟨j, hj, rfl, hc, hb, hbut⟩ := hrel
    clear H0 HC0
    by_cases hlt : j < n
    · obtain ⟨i, hi⟩ : ∃ i : Nat, i = n - 1 - j := ⟨_, rfl⟩
      have e1 : (n : Int) - 1 - (j : Nat) = (i : Nat) := by omega
      rw [e1]
      obtain ⟨d, hd⟩ : ∃ d, d = digit sh p i := ⟨_, rfl⟩
      obtain ⟨s, hs'⟩ : ∃ s, s = sh.getD i 0 := ⟨_, rfl⟩
      have hin : i < n := by omega
      have hrow := (hbut.out.row HR.out (by rintro k rfl; exact HNE.out))
      obtain ⟨b, off, rfl, hblt, hcs⟩ := hrow.get hin
      have hbg : b ≠ g := fun e => HNE.out ⟨by omega, _, rfl, e⟩
      rw [← hs'] at hcs
      have hgi : sh.length - 1 - j = i := by omega
      have hcd := hb.out.cell (i := i) (by rw [mid_len]; omega)
      have hmg := mid_get sh p j (by omega)
      rw [hgi, ← hd] at hmg
      rw [hmg] at hcd
      have hfr := hb.out.free i
      have hdb : 0 ≤ d ∧ d < s := by
        have hs0 := HF.out i (by omega)
        rw [hd, hs']
        unfold digit
        exact ⟨Int.emod_nonneg _ (by omega), Int.emod_lt_of_pos _ hs0⟩
      have hsb : s ≤ 10000 := by rw [hs']; exact (HS.out.cell i).2
      have hw1 : IntKind.i64.wrap (d + 1) = d + 1 := by rw [IntKind.wrap_i64]; omega
      have HD := hide hd
      have HSS := hide hs'
      have HI := hide hi
      have HGI := hide hgi
      clear hd hs' hi hgi hmg hrow e1
      have hc2 : (wr.setCell ⟨g, i, none⟩ (.int .i64 (d + 1))).cell? ⟨g, i, none⟩ = some (.int .i64 (d + 1)) := World.cell?_setCell_same' _ _ _ (by rw [hcd]; rfl)
      have hc3 : (wr.setCell ⟨g, i, none⟩ (.int .i64 (d + 1))).cell? ⟨b, off + i, none⟩ = some (.int .i64 s) := (World.cell?_setCell_other _ _ _ _ (by simp <;> omega)).trans hcs
      have hf2 : (wr.setCell ⟨g, i, none⟩ (.int .i64 (d + 1))).frozen? ⟨g, i, none⟩ = false := by rw [World.frozen?_setCell]; exact hfr
      by_cases hd1 : d + 1 < s
      · go_upto_region 4 with fail
        go_quiet (fail)
        go_wp2_with fail
        refine bodyPost_ret (results_none rfl _ _ _) rfl ?_
        refine ⟨⟨_, rfl⟩, ?_, ?_⟩
        · have e := hb.out.set i (d + 1)
          have e2 := carry_stop HF.out hc.out (by omega) (by rw [HGI.out, ← HD.out, ← HSS.out]; exact hd1)
          rw [HGI.out, ← HD.out] at e2
          rw [e2] at e
          exact e
        · exact (hbut.out.setCell (p := ⟨g, i, none⟩) rfl _).drewN _
      · go_upto_region 4 with fail
        go_quiet (fail)
        go_wp2_with fail
        go_roundw
        case rel =>
          refine ⟨j + 1, by omega, by rw [HI.out]; go_num, hide (carry_step HF.out hc.out (by omega) (by rw [HGI.out, ← HD.out, ← HSS.out]; exact hd1)), ?_, hide (((hbut.out.setCell (p := ⟨g, i, none⟩) rfl _).drewN _).setCell (p := ⟨g, i, none⟩) rfl _)⟩
          have e2 := mid_step sh p j (by omega)
          rw [HGI.out] at e2
          have e3 : mid sh p (j + 1) = ((mid sh p j).set i (d + 1)).set i 0 := by rw [List.set_set, e2]
          show Blk _ _ _
          rw [e3]
          exact Blk.set (hb.out.set i (d + 1)) i 0
        case measure => simp [intOf]
    · have : j = n := by omega
      subst this
      have e1 : (j : Int) - 1 - (j : Nat) = -1 := by omega
      rw [e1]
      go_wp2_with fail
      go_end0
      refine ⟨⟨_, rfl⟩, ?_, hbut.out⟩
      have e := hb.out
      rw [carry_end hc.out (by rw [HL.out]; exact Nat.le_refl _)] at e
      exact e

end Go.Proofs.YtgjpchnkodnieaaGreatDoor
namespace Go.Proofs.YtgjpchnkodnieaaGreatDoor
open Go.RowKit Go.Shelf

attribute [local go_sem] Oper.semAt_some

/-- What a round is handed: the index of its number, in a block from lo on. -/
def ixAt (n : Nat) (sh : List Int) (lo : Nat) (k : Nat) (v : Value) (W : World) : Prop := ∃ g, lo ≤ g ∧ v = .slice (some ⟨g, 0, none⟩) n n ∧ Blk W g (digits sh k)

theorem indexesIn_any (sa : Option Addr) (n cap : Nat) (w : World) : Calls Tryz.prog 150 #[.slice sa n cap] w fun e w' => e = .returned (.func (.func 228) #[] #[.pointer (some ⟨w.heap.size, 0, none⟩)]) ∧ w' = w.alloc (.cells #[.slice sa n cap] 23) := by
  go_enter Tryz.func150, Tryz.ntmps150
  go_wp2
  go_ret
  exact ⟨rfl, rfl⟩

theorem cellsOf_n (a : Option Addr) (n cap : Nat) (sh : List Int) (w : World) (h : Row w a n sh) (hin : ShapeIn sh) (N : Nat) (hr : Hid (prodAll sh = (N : Int))) : Calls Tryz.prog 116 #[.slice a n cap] w fun e w' => e = .returned (.int .i64 (N : Int)) ∧ w' = w := by
  rw [← hr.out]
  exact cellsOf_any a n cap sh w h (fun k => (hin.take k).bd)

set_option maxRecDepth 100000 in
set_option maxHeartbeats 2000000 in
theorem indexesIn1_seq (m Bn : Nat) (sa : Option Addr) (n cap : Nat) (sh : List Int) (w0 : World) (N : Nat) (T : Nat → Prop) (hBox : w0.cell? ⟨Bn, 0, none⟩ = some (.slice sa n cap)) (hBn : Bn < w0.heap.size) (hr : Row w0 sa n sh) (h5 : n ≤ 5) (hs : ShapeIn sh) (hN : prodAll sh = (N : Int)) (hT1 : ¬ T Bn) (hT2 : ∀ k, T k → ¬ At sa n k) :
    SeqCells m Tryz.prog 228 #[.pointer (some ⟨Bn, 0, none⟩)] N (ixAt n sh (w0.heap.size + 2)) T w0 := by
  intro l J W hW hz hTl hJ hY h0
  have hl := hr.len
  have hsm := hr.small
  have hNb : N ≤ 10000 := by have := hs.bd; omega
  have hBW : Bn < W.heap.size := by omega
  have hRW : Row W sa n sh := hr.below (Nat.le_refl _) hW
  have hbox := (hW.cell (p := ⟨Bn, 0, none⟩) hBn).trans hBox
  have hbox2 : (W.alloc (.cells (madeCells #[.int .i64 0] n) 3)).cell? ⟨Bn, 0, none⟩ = some (.slice sa n cap) := (((Below.refl _ W).alloc (Nat.le_refl _) _).cell (p := ⟨Bn, 0, none⟩) hBW).trans hbox
  have hmk := run_make_row' (P := Tryz.prog) 23 3 (.int .i64 0) 8 Tryz.underlying23 info_int rfl .i64 .i64 n (by omega) (by omega)
  have HRW := hide hRW
  have HS := hide hs
  have HN := hide hN
  have HY : Hid (∀ k v W1, k < N → J k W1 → ixAt n sh (w0.heap.size + 2) k v W1 → YieldAt Fence.wide (m - 1) Tryz.prog l #[.int .i64 (k : Nat), v] W1 fun e W' => e = .returned (.bool true) ∧ J (k + 1) W' ∧ But T W1 W') := hY
  have HJ : Hid (∀ k A B, J k A → Below W.heap.size A B → J k B) := hJ
  have HTL : Hid (∀ k, T k → k < W.heap.size) := hTl
  have HT1 := hide hT1
  have HT2 : Hid (∀ k, T k → ¬ At sa n k) := hT2
  have H0 := hide h0
  have HL := hide hl
  clear hRW hs hN hY hJ hTl hT1 hT2 h0 hl hr hBox hW
  refine callsIn_of_wp Tryz.func228 rfl trivial ?_ rfl
  simp only [Tryz.ntmps228, List.size_toArray, List.length_cons, List.length_nil, Nat.reduceAdd, Nat.reduceSub, Array.replicate_succ, Array.replicate_zero, List.push_toArray, List.append_toArray, List.nil_append, List.cons_append]
  gi_wp2_with (refine ⟨trivial, fun h => (by simp [Fence.wide] at h), ?_⟩; gi_at_call 116; refine (callsIn_wide.2 (cellsOf_n _ _ _ sh _ ((unhide HRW).alloc _) (unhide HS) N HN)).mono ?_; rintro e w1 ⟨rfl, rfl⟩)
  gi_loopw [10] (fun i wr => ∃ k : Nat, k ≤ N ∧ i = .int .i64 (k : Nat) ∧ Hid (J k wr) ∧ Hid (Blk wr W.heap.size (digits sh k)) ∧ Hid (But T W wr)) (fun i _ => N - (intOf i).toNat)
  case atStart =>
    refine ⟨0, Nat.zero_le _, rfl, hide (HJ.out _ _ _ H0.out ((Below.refl _ _).alloc (Nat.le_refl _) _)), ?_, hide ((But.refl _ _).alloc _)⟩
    show Blk _ _ _
    rw [show ((0 : Nat) : Int) = 0 from rfl, digits_zero, HL.out]
    exact Blk.made _ _ _ rfl
  case round =>
    obtain ⟨k, hk, rfl, hj, hb, hbut⟩ := hrel
    clear hbox2 hmk H0
    by_cases hlt : k < N
    · have HF : Hid (Full sh) := full_of HS.out (by rw [HN.out]; omega)
      obtain ⟨fn, tmps, assign, body, hy, hR⟩ := HY.out k _ wr hlt hj.out ⟨W.heap.size, hz, rfl, hb.out⟩
      gi_wp2
      refine ⟨fun h => (by simp [Fence.wide] at h), hR.mono ?_⟩
      rintro e W3 ⟨rfl, hJ3, hbut3⟩
      have hbt : But T W W3 := (hbut.out.trans hbut3).mono (by rintro x (h | h) <;> exact h)
      have hb3 : Blk W3 W.heap.size (digits sh k) := (hbut3.block _ hb.out.lt (fun h => by have := HTL.out _ h; omega)).trans hb.out
      have hr3 := hide (hbt.row HRW.out HT2.out)
      have hx3 : W3.cell? ⟨Bn, 0, none⟩ = some (.slice sa n cap) := (hbt.cellAt hBW HT1.out).trans hbox
      have HBT := hide hbt
      have HB3 := hide hb3
      have HJ3 := hide hJ3
      have hgs : ¬ At sa n W.heap.size := fun h => by have := HRW.out.hi h; omega
      clear hR hy hb3 hbt hbut3 hJ3 hj hb hbut
      gi_wp2_with (refine ⟨trivial, fun h => (by simp [Fence.wide] at h), ?_⟩; gi_at_call 229; refine (callsIn_wide.2 (advance_any _ _ _ _ _ sh k _ HB3.out hr3.out hgs HF.out HS.out)).mono ?_; rintro e w4 ⟨⟨v, rfl⟩, hb4, hbut4⟩)
      go_roundw
      case rel =>
        refine ⟨k + 1, by omega, by go_num, hide (HJ.out _ _ _ HJ3.out (hbut4.below HBT.out.size (by rintro x rfl; exact Nat.le_refl _))), ?_, ?_⟩
        · show Blk _ _ _
          rw [show ((k + 1 : Nat) : Int) = (k : Int) + 1 by omega]
          exact hb4
        · exact hide ⟨hbut4.os.trans HBT.out.os, hbut4.tape.trans HBT.out.tape, hbut4.output.trans HBT.out.output, Nat.le_trans HBT.out.size hbut4.size, fun x hx hn => (hbut4.block x (Nat.lt_of_lt_of_le hx HBT.out.size) (by omega)).trans (HBT.out.block x hx hn)⟩
      case measure => simp [intOf]; go_num
    · have : k = N := by omega
      subst this
      gi_wp2
      go_end0
      exact ⟨⟨_, rfl⟩, hj.out⟩

end Go.Proofs.YtgjpchnkodnieaaGreatDoor
namespace Go.Proofs.YtgjpchnkodnieaaGreatDoor
open Go.RowKit

/-- The function value (g, lb) gives of each index D of the shape zs at each axis below r what f says, in whatever world holds what lay in w. -/
def NumOk (g : Nat) (lb : Array Value) (f : List Int → Nat → Int) (zs : List Int) (r : Nat) (w : World) : Prop :=
  ∀ D, IxIn zs D → D.length = zs.length → ∀ k, k < r → ∀ (ib : Nat) W, Below w.heap.size w W → Blk W ib D → Calls Tryz.prog g (#[.slice (some ⟨ib, 0, none⟩) zs.length zs.length, .int .i64 (k : Nat)] ++ lb) W fun e w' => e = .returned (.int .i64 (f D k)) ∧ Below W.heap.size W w'

theorem NumOk.low {g : Nat} {lb : Array Value} {f : List Int → Nat → Int} {zs : List Int} {r : Nat} {w w1 : World} (h : NumOk g lb f zs r w) (hb : Below w.heap.size w w1) : NumOk g lb f zs r w1 :=
  fun D h1 h2 k hk ib W hW hB => h D h1 h2 k hk ib W (hb.trans (hW.mono hb.size)) hB

set_option maxRecDepth 20000 in
set_option maxHeartbeats 2000000 in
theorem placeIn_any (g : Nat) (lb : Array Value) (eg : ∀ args w, (callFunc g args).run Tryz.prog w = .ok (.enter g args) w) (f : List Int → Nat → Int) (zs D sh : List Int) (sa : Option Addr) (n cap ib : Nat) (w : World)
    (hr : Row w sa n sh) (hN : NumOk g lb f zs n w) (hD : IxIn zs D) (hDl : D.length = zs.length) (hb : Blk w ib D) (hs : ShapeIn sh) (r : Bool) (hres : Hid (insideN sh (meant sh f D) sh.length = r)) (p : Int) (hp : Hid ((if r then place sh (meant sh f D) else 0) = p)) :
    Calls Tryz.prog 151 #[.slice sa n cap, .slice (some ⟨ib, 0, none⟩) zs.length zs.length, .func (.func g) #[] lb] w fun e w' => e = .returned (.tuple #[.int .i64 p, .bool r]) ∧ Below w.heap.size w w' := by
  have hl := hr.len
  have hsm := hr.small
  obtain ⟨zl, hzl⟩ : ∃ zl, zs.length = zl := ⟨_, rfl⟩
  have HNUM : Hid (∀ k, k < n → ∀ W, Below w.heap.size w W → Calls Tryz.prog g (#[.slice (some ⟨ib, 0, none⟩) zl zl, .int .i64 (k : Nat)] ++ lb) W fun e w' => e = .returned (.int .i64 (f D k)) ∧ Below W.heap.size W w') := fun k hk W hW => by
    have := hN D hD hDl k hk ib W hW (hb.below (Nat.le_refl _) hW)
    rwa [hzl] at this
  rw [hzl]
  clear hN hD hDl hb hzl
  obtain ⟨M, hM⟩ : ∃ M, M = meant sh f D := ⟨_, rfl⟩
  have HMG : Hid (∀ k, k < n → M.getD k 0 = f D k) := fun k hk => by rw [hM]; exact meant_get sh f D k (by omega)
  rw [← hM] at hres hp
  have HR := hide hr
  have HS := hide hs
  have HL := hide hl
  clear hr hs hM
  go_enter Tryz.func151, Tryz.ntmps151
  go_wp2_with fail
  go_loopw [8, 14] (fun q i wr => ∃ k : Nat, k ≤ n ∧ i = .int .i64 (k : Nat) ∧ q = .int .i64 (placeN sh M k) ∧ Hid (insideN sh M k = true) ∧ Hid (Below w.heap.size w wr)) (fun _ i _ => n - (intOf i).toNat)
  case atStart => exact ⟨0, Nat.zero_le _, rfl, rfl, rfl, hide (Below.refl _ _)⟩
  case round =>
    obtain ⟨k, hk, rfl, rfl, hin, hbl⟩ := hrel
    by_cases hlt : k < n
    · obtain ⟨s, hs'⟩ : ∃ s, s = sh.getD k 0 := ⟨_, rfl⟩
      obtain ⟨v, hv⟩ : ∃ v, v = f D k := ⟨_, rfl⟩
      obtain ⟨q, hq⟩ : ∃ q, q = placeN sh M k := ⟨_, rfl⟩
      obtain ⟨b, off, rfl, hblt, hcs⟩ := (HR.out.below (Nat.le_refl _) hbl.out).get hlt
      have hcall := HNUM.out k hlt wr hbl.out
      rw [← hv] at hcall
      rw [← hs'] at hcs
      have hmv : M.getD k 0 = v := by rw [HMG.out k hlt, hv]
      have hsb : 0 ≤ s ∧ s ≤ 10000 := by rw [hs']; exact HS.out.cell k
      have hw1 : IntKind.i64.wrap (s - 1) = s - 1 := by rw [IntKind.wrap_i64]; omega
      by_cases hvi : 0 ≤ v ∧ v < s
      · have hin1 : insideN sh M (k + 1) = true := inside_step hin.out (by omega) (by rw [hmv, ← hs']; omega)
        have hpn : placeN sh M (k + 1) = q * s + v := by show placeN sh M k * _ + _ = _; rw [← hq, ← hs', hmv]
        have hbd := placeN_bd' (k + 1) hin1 (by rw [HL.out]; omega)
        have hpb := (HS.out.take (k + 1)).bd
        have hq0 : 0 ≤ q := by
          rcases placeN_bd' k hin.out (by rw [HL.out]; omega) with h | h
          · rw [hq]; exact h.1
          · subst h; rw [hq]; exact Int.le_refl _
        have hqs : 0 ≤ q * s := Int.mul_nonneg hq0 hsb.1
        have hw2 : IntKind.i64.wrap (q * s) = q * s := by rw [IntKind.wrap_i64]; rw [hpn] at hbd; omega
        have hw3 : IntKind.i64.wrap (q * s + v) = q * s + v := by rw [IntKind.wrap_i64]; rw [hpn] at hbd; omega
        have HWI : Hid (withinB v 0 (s - 1) = true) := decide_eq_true ⟨hvi.1, by omega⟩
        obtain ⟨t, ht⟩ : ∃ t, t = q * s := ⟨_, rfl⟩
        rw [← ht] at hw2 hw3 hpn
        have HPN := hide hpn
        have HQ := hide hq
        have HIN1 := hide hin1
        have ht2 : q * s = t := ht.symm
        rw [← hq]
        clear hbd hpb hqs hin1 hpn hq hs' hv hmv ht hin hvi hsb hq0 HS HMG
        go_wp2_with (first | (go_at_fn g; refine hcall.mono ?_; rintro e w2 ⟨rfl, hb2⟩; have HL2 := hide (hbl.out.trans (hb2.mono hbl.out.size)); clear hb2) | (go_at_call 50; refine (isWithin_eq _ _ _ _ true HWI).mono ?_; rintro e w' ⟨rfl, rfl⟩))
        go_roundw
        case rel => exact ⟨k + 1, by omega, by go_num, by rw [HPN.out], HIN1, HL2⟩
        case measure => simp [intOf]; omega
      · have hno : insideN sh M sh.length = false := inside_not (by rw [HL.out]; exact hlt) (by rw [hmv, ← hs']; exact hvi)
        obtain rfl : r = false := by rw [← hres.out, hno]
        obtain rfl : p = 0 := by rw [← hp.out]; rfl
        have HWI : Hid (withinB v 0 (s - 1) = false) := decide_eq_false (by omega)
        obtain ⟨q', hq'⟩ : ∃ q', q' = placeN sh M k := ⟨_, rfl⟩
        rw [← hq']
        clear hno hmv hs' hv hvi hsb hres hp hin HS HMG hq hq'
        go_wp2_with (first | (go_at_fn g; refine hcall.mono ?_; rintro e w2 ⟨rfl, hb2⟩; have HL2 := hide (hbl.out.trans (hb2.mono hbl.out.size)); clear hb2) | (go_at_call 50; refine (isWithin_eq _ _ _ _ false HWI).mono ?_; rintro e w' ⟨rfl, rfl⟩))
        go_ret2
        exact ⟨rfl, HL2.out⟩
    · have : k = n := by omega
      subst this
      have hfin : insideN sh M sh.length = true := by rw [HL.out]; exact hin.out
      obtain rfl : r = true := by rw [← hres.out, hfin]
      have hpp : placeN sh M k = p := by rw [← hp.out, if_pos rfl]; unfold place; rw [HL.out]
      rw [hpp]
      clear hfin hpp
      go_wp2
      go_ret2
      exact ⟨rfl, hbl.out⟩

end Go.Proofs.YtgjpchnkodnieaaGreatDoor
namespace Go.Proofs.YtgjpchnkodnieaaGreatDoor
open Go.RowKit

set_option maxHeartbeats 1000000 in
theorem Mul64_one (n : Nat) (hn : n ≤ 10000) (w : World) : Calls Tryz.prog 276 #[.int .u64 1, .int .u64 (n : Nat)] w fun e w' => e = .returned (.tuple #[.int .u64 0, .int .u64 (n : Nat)]) ∧ w' = w := by
  have hA : bits .and .u64 (n : Int) 4294967295 = (n : Int) := by
    have h := bits_and_u64_nat n 4294967295 (by omega) (by omega)
    rw [show n &&& 4294967295 = n % 4294967296 from Nat.and_two_pow_sub_one_eq_mod n 32, Nat.mod_eq_of_lt (by omega)] at h
    exact h
  have h1 : bits .and .u64 1 4294967295 = 1 := by decide
  have h0 : bits .and .u64 0 4294967295 = 0 := by decide
  have hD : (n : Int) / 4294967296 = 0 := by omega
  go_enter Tryz.func276, Tryz.ntmps276
  go_wp2
  go_ret2
  exact ⟨by simp, rfl⟩

theorem Mul_one (n : Nat) (hn : n ≤ 10000) (w : World) : Calls Tryz.prog 227 #[.int .u64 1, .int .u64 (n : Nat)] w fun e w' => e = .returned (.tuple #[.int .u64 0, .int .u64 (n : Nat)]) ∧ w' = w := by
  go_enter Tryz.func227, Tryz.ntmps227
  go_wp2_with (go_at_call 276; refine (Mul64_one n hn _).mono ?_; rintro e w1 ⟨rfl, rfl⟩)
  go_ret2
  exact ⟨rfl, rfl⟩

theorem splice_rep (v : Int) (k m n : Nat) (h : k + m ≤ n) : splice ((List.replicate k v ++ List.replicate (n - k) 0).map (Value.int .i64)) k (List.replicate m (Value.int .i64 v)) = (List.replicate (k + m) v ++ List.replicate (n - (k + m)) 0).map (Value.int .i64) := by
  unfold splice
  simp only [List.map_append, List.map_replicate, List.length_replicate]
  rw [List.take_append_of_le_length (by simp), List.take_of_length_le (by simp), List.drop_append, List.drop_eq_nil_of_le (by simp), List.nil_append, List.length_replicate, List.drop_replicate, ← List.append_assoc, List.replicate_append_replicate]
  rw [show n - k - (k + m - k) = n - (k + m) by omega]

set_option maxRecDepth 20000 in
set_option maxHeartbeats 4000000 in
theorem Repeat_any (a : Addr) (ca n : Nat) (v : Int) (w : World) (h : Row w (some a) 1 [v]) (hn : n ≤ 10000) :
    Calls Tryz.prog 148 #[.slice (some a) 1 ca, .int .i64 (n : Nat)] w fun e w' => e = .returned (.slice (some ⟨w.heap.size, 0, none⟩) n n) ∧ Blk w' w.heap.size (List.replicate n v) ∧ Below w.heap.size w w' := by
  obtain ⟨i0, hi, hz0, hz1, hz2⟩ := info_parts info_int
  have hsz : (Tryz.prog.info? 3).map (·.size) = some 1 := by rw [hi]; simp [hz1]
  obtain ⟨ba, oa, hab, hblt, hc⟩ := h.get (show 0 < 1 by omega)
  cases hab
  have HC : Hid (∀ w1, Below w.heap.size w w1 → w1.cell? ⟨ba, oa, none⟩ = some (.int .i64 v)) := fun w1 hb => (hb.cell (p := ⟨ba, oa, none⟩) hblt).trans (by simpa using hc)
  clear h hc hblt
  obtain ⟨m, hm⟩ : ∃ m, m = Nat.min 1 n := ⟨_, rfl⟩
  have hm1 : m ≤ n := by rw [hm]; exact Nat.min_le_right _ _
  have hm2 : m = 0 → n = 0 := by intro e; rw [hm] at e; exact (Nat.eq_zero_or_pos n).elim id fun h0 => by rw [show Nat.min 1 n = 1 from Nat.min_eq_left h0] at e; cases e
  obtain ⟨cs, hcs⟩ : ∃ cs, cs = List.replicate m (Value.int .i64 v) := ⟨_, rfl⟩
  have hcl : cs.length = m := by rw [hcs]; simp
  have HM := hide hm
  have HCS := hide hcs
  have HM2 := hide hm2
  have HPOS : Hid (∀ w1, Below w.heap.size w w1 → ∀ j x, cs[j]? = some x → w1.cell? ((⟨ba, oa, none⟩ : Addr).add j) = some x) := by
    intro w1 hb j x hx
    have hj : j = 0 ∧ x = .int .i64 v := by
      rw [unhide HCS] at hx
      have hm' : m ≤ 1 := by rw [unhide HM]; exact Nat.min_le_left _ _
      rw [List.getElem?_replicate] at hx
      split at hx
      · exact ⟨by omega, by simpa using hx.symm⟩
      · cases hx
    obtain ⟨rfl, rfl⟩ := hj
    exact unhide HC _ hb
  clear hm hcs hm2
  go_enter Tryz.func148, Tryz.ntmps148
  go_wp2_with (first | (go_at_call 227; go_loud (refine (Mul_one n hn _).mono ?_); rintro e w1 ⟨rfl, hw⟩; obtain rfl := hw.symm) | (at_make; go_loud (refine wpList_make_full _ rfl _ _ 23 rfl w.heap.size 3 i0 (.int .i64 0) 1 Tryz.underlying23 hi hz0 hz1 _ _ _ _ n rfl rfl rfl rfl (by rw [hz2]; omega) (by unfold maxLen; omega) (Nat.le_refl _) ?_); intro w1 hown hgrow; have HBK : Hid (Blk w1 w.heap.size (List.replicate 0 v ++ List.replicate (n - 0) 0)) := Blk.of_owns (n := n) (base := w.heap.size) (by simpa [toList_madeCells_one, Value.cells] using hown); have HBL : Hid (Below w.heap.size w w1) := (Below.refl _ _).grown hgrow (Nat.le_refl _) (by simp); clear hown hgrow) | (refine wpList_copy_splice rfl (.tmp 31) (.tmp 32) 23 23 rfl 3 Tryz.underlying23 hsz _ _ _ _ _ _ rfl rfl w.heap.size 0 _ 3 (unhide HBK) cs (hcl.trans (unhide HM)) (fun _ => ⟨rfl, _, rfl, unhide HPOS _ (unhide HBL)⟩) (by rw [hcl]; simp; omega) (by rw [unhide HCS]; intro x hx; rw [List.eq_of_mem_replicate hx]; rfl) w.heap.size w (unhide HBL) (Nat.le_refl _) ?_; intro w2 hg2 hb2; have HG2 := hide hg2.out; have HL2 := hide hb2; clear hg2 hb2))
  · have HB2 : Hid (Blk w2 w.heap.size (List.replicate m v ++ List.replicate (n - m) 0)) := by
      have e := unhide HG2
      rw [unhide HCS, splice_rep v 0 m n (by omega)] at e
      show Blk _ _ _
      rw [Nat.zero_add] at e
      exact e
    clear HG2 HBK HBL w1 HC HCS HM HPOS hcl cs
    go_loopw [8] (fun i wr => ∃ k : Nat, k ≤ n ∧ (k = 0 → n = 0) ∧ i = .int .i64 k ∧ Hid (Blk wr w.heap.size (List.replicate k v ++ List.replicate (n - k) 0)) ∧ Hid (Below w.heap.size w wr)) (fun i _ => n - (intOf i).toNat)
    case atStart => exact ⟨m, hm1, unhide HM2, rfl, HB2, HL2⟩
    case round =>
      obtain ⟨k, hk, hk0, rfl, hb, hbl⟩ := hrel
      clear HB2 HL2 w2 HM2 hm1
      by_cases hlt : k < n
      · have hk1 : 1 ≤ k := by omega
        obtain ⟨q, hq⟩ : ∃ q, q = Nat.min k (n - k) := ⟨_, rfl⟩
        have hq1 : q ≤ n - k := by rw [hq]; exact Nat.min_le_right _ _
        have hq2 : q ≤ k := by rw [hq]; exact Nat.min_le_left _ _
        have hq3 : 1 ≤ q := by rw [hq]; exact Nat.le_min.mpr ⟨hk1, by omega⟩
        obtain ⟨cs, hcs⟩ : ∃ cs, cs = List.replicate q (Value.int .i64 v) := ⟨_, rfl⟩
        have hcl : cs.length = q := by rw [hcs]; simp
        have HCS := hide hcs
        have HQ := hide hq
        have HPOS : Hid (∀ j x, cs[j]? = some x → wr.drew.cell? ((⟨w.heap.size, 0, none⟩ : Addr).add j) = some x) := by
          intro j x hx
          rw [hcs, List.getElem?_replicate] at hx
          split at hx
          · rename_i hjq
            have hc := (unhide hb).cell (i := j) (by simp; omega)
            have hjk : j < k := by omega
            have hg : (List.replicate k v ++ List.replicate (n - k) 0).getD j 0 = v := by simp [List.getD, List.getElem?_append, hjk]
            rw [hg] at hc
            cases hx
            have ha : (⟨w.heap.size, 0, none⟩ : Addr).add j = ⟨w.heap.size, j, none⟩ := by cases j <;> simp [Addr.add]
            rw [ha]
            simpa using hc
          · cases hx
        clear hcs hq hk0
        go_upto_region 9 with fail
        go_region_held3 (fun _ => True) (first | exact trivial) (first | (refine step_copy_splice rfl (.tmp 41) (.tmp 44) 23 23 rfl 3 Tryz.underlying23 hsz _ _ _ _ _ _ rfl rfl w.heap.size k _ 3 (unhide hb).drew cs (hcl.trans (unhide HQ)) (fun _ => ⟨by first | rfl | rw [if_neg (by omega)], _, rfl, unhide HPOS⟩) (by rw [hcl]; simp; omega) (by rw [unhide HCS]; intro x hx; rw [List.eq_of_mem_replicate hx]; rfl) w.heap.size w (unhide hbl).drew (Nat.le_refl _) ?_; intro w4 hg4 hb4; have HG4 := hide hg4.out; have HL4 := hide hb4; clear hg4 hb4))
        have HB4 : Hid (Blk w4 w.heap.size (List.replicate (k + q) v ++ List.replicate (n - (k + q)) 0)) := by
          have e := unhide HG4
          rw [unhide HCS, splice_rep v k q n (by omega)] at e
          exact e
        clear HG4
        have hkw : IntKind.i64.wrap ((k : Int) + (q : Int)) = ((k + q : Nat) : Int) := by rw [IntKind.wrap_i64]; omega
        go_wp2_with fail
        go_roundw
        case rel => exact ⟨(k + q : Nat), by omega, by omega, by first | rfl | rw [hkw], HB4, HL4⟩
        case measure => (first | rw [hkw] | skip); simp [intOf]; omega
      · have hkn : k = n := by omega
        subst hkn
        go_wp2
        go_ret
        exact ⟨rfl, by simpa using unhide hb, unhide hbl⟩

theorem Repeat_ex (a : Addr) (ca n : Nat) (v : Int) (w : World) (h : Row w (some a) 1 [v]) (hn : n ≤ 10000) :
    Calls Tryz.prog 148 #[.slice (some a) 1 ca, .int .i64 (n : Nat)] w fun e w' => ∃ g, e = .returned (.slice (some ⟨g, 0, none⟩) n n) ∧ Row w' (some ⟨g, 0, none⟩) n (List.replicate n v) ∧ Below w.heap.size w w' := by
  refine (Repeat_any a ca n v w h hn).mono ?_
  rintro e w' ⟨rfl, hb, hl⟩
  exact ⟨_, rfl, hb.row (by simp) (by omega), hl⟩

end Go.Proofs.YtgjpchnkodnieaaGreatDoor
namespace Go.Proofs.YtgjpchnkodnieaaGreatDoor
open Go.RowKit Go.Shelf

attribute [local go_sem] Oper.semAt_some

theorem fillOf_any (c : Bool) (v1 v2 : Value) (w : World) : Calls Tryz.prog 149 #[.agg #[.bool c, v1, v2]] w fun e w' => e = .returned (.int .i64 (fillOf c)) ∧ Below w.heap.size w w' := by
  have hb : Below w.heap.size w (w.alloc (.cells #[.bool c, v1, v2] 25)) := (Below.refl _ w).alloc (Nat.le_refl _) _
  cases c
  · go_enter Tryz.func149, Tryz.ntmps149
    go_wp2
    go_ret
    exact ⟨rfl, hb⟩
  · go_enter Tryz.func149, Tryz.ntmps149
    go_wp2
    go_ret
    exact ⟨rfl, hb⟩

theorem Row.one (w : World) (x : Int) : Row (w.alloc (.cells #[.int .i64 x] 3)) (some ⟨w.heap.size, 0, none⟩) 1 [x] :=
  Blk.row (show Blk _ _ [x] from World.alloc_heap_new w _) rfl (by omega)

set_option maxRecDepth 100000 in
set_option maxHeartbeats 4000000 in
theorem gathered_in (c : Bool) (a1 a2 sa : Option Addr) (n1 n2 c1 c2 n cap : Nat) (sh dt zs : List Int) (g : Nat) (lb : Array Value) (eg : ∀ args w, (callFunc g args).run Tryz.prog w = .ok (.enter g args) w) (f : List Int → Nat → Int) (w : World) (N : Nat)
    (h1 : Row w a1 n1 sh) (h2 : Row w a2 n2 dt) (hz : Row w sa n zs) (hs : ShapeIn sh) (hsz : ShapeIn zs) (h5 : n ≤ 5) (hN : prodAll zs = (N : Int)) (hd : prodAll sh = (n2 : Int)) (hnum : NumOk g lb f zs n1 w) :
    CallsIn Fence.wide 9 Tryz.prog 59 #[.agg #[.bool c, .slice a1 n1 c1, .slice a2 n2 c2], .slice sa n cap, .func (.func g) #[] lb] w fun e w' => ∃ gd, e = .returned (.agg #[.bool c, .slice sa n cap, .slice (some ⟨gd, 0, none⟩) N N]) ∧ w.heap.size ≤ gd ∧ Blk w' gd (vals (gatherAt c sh dt f zs) N) ∧ Below w.heap.size w w' := by
  have hNb : N ≤ 10000 := by have := hsz.bd; omega
  have H1 := hide h1
  have H2 := hide h2
  have HZ := hide hz
  have HS := hide hs
  have HSZ := hide hsz
  have HN := hide hN
  have HD := hide hd
  have HNUM := hide hnum
  clear h1 h2 hz hs hsz hN hd hnum
  refine callsIn_of_wp_marks Tryz.func59 rfl trivial ?_ rfl
  simp only [Tryz.ntmps59, List.size_toArray, List.length_cons, List.length_nil, Nat.reduceAdd, Nat.reduceSub, Array.replicate_succ, Array.replicate_zero, List.push_toArray, List.append_toArray, List.nil_append, List.cons_append]
  obtain ⟨W0, hW0⟩ : ∃ W0, W0 = ((w.alloc (.cells #[.bool c, .slice a1 n1 c1, .slice a2 n2 c2] 25)).alloc (.cells #[.func (.func g) #[] lb] 89)).alloc (.cells #[.bool false, .slice none 0 0, .slice none 0 0] 25) := ⟨_, rfl⟩
  have hz0 : W0.heap.size = w.heap.size + 3 := by rw [hW0]; simp
  have HB0 : Hid (Below w.heap.size w W0) := by rw [hW0]; exact (((Below.refl _ w).alloc (Nat.le_refl _) _).alloc (by simp) _).alloc (by simp; omega) _
  have HX0 : Hid (Box W0 w.heap.size c (.slice a1 n1 c1) (.slice a2 n2 c2)) := by rw [hW0]; exact ((Box.new w _ _ _).alloc _).alloc _
  have HX2 : Hid (Box W0 (w.heap.size + 1 + 1) false (.slice none 0 0) (.slice none 0 0)) := by
    rw [hW0]
    show Box _ _ _ _ _
    have := Box.new ((w.alloc (.cells #[.bool c, .slice a1 n1 c1, .slice a2 n2 c2] 25)).alloc (.cells #[.func (.func g) #[] lb] 89)) false (.slice none 0 0) (.slice none 0 0)
    simpa using this
  have HX1 : Hid (W0.heap[w.heap.size + 1]? = some (.cells #[.func (.func g) #[] lb] 89 (0, 0))) := by
    rw [hW0]
    refine (Below.heap_alloc _ _ _ (by simp)).trans ?_
    have := World.alloc_heap_new (w.alloc (.cells #[.bool c, .slice a1 n1 c1, .slice a2 n2 c2] 25)) (.cells #[.func (.func g) #[] lb] 89)
    simpa using this
  have HW0 := hide hW0
  clear hW0
  gi_wp2_with (first | (refine ⟨trivial, ?_⟩; gi_at_call 149; rw [← HW0.out]; refine (callsIn_wide.2 (fillOf_any _ _ _ _)).mono ?_; rintro e wA ⟨rfl, hbA⟩; have HBA := hide hbA; clear hbA) | (refine ⟨trivial, ?_⟩; gi_at_call 116; refine (callsIn_wide.2 (cellsOf_n _ _ _ zs _ (((HZ.out.below (Nat.le_refl _) HB0.out).below (Nat.le_refl _) HBA.out).alloc _) HSZ.out N HN)).mono ?_; rintro e wB ⟨rfl, hwB⟩; obtain rfl := hwB.symm) | (refine ⟨trivial, ?_⟩; gi_at_call 148; refine (callsIn_wide.2 (Repeat_any ⟨wA.heap.size, 0, none⟩ _ N (fillOf c) _ (Row.one wA _) hNb)).mono ?_; rintro e wR ⟨rfl, hR1, hR2⟩; have HR1 := hide hR1; have HR2 := hide hR2; clear hR1 hR2) | (refine ⟨trivial, ?_⟩; gi_at_call 150; refine (callsIn_wide.2 (indexesIn_any _ _ _ _)).mono ?_; rintro e wI ⟨rfl, hwI⟩; obtain rfl := hwI.symm))
  obtain ⟨p, hp⟩ : ∃ p, p = w.heap.size := ⟨_, rfl⟩
  obtain ⟨gd, hgd⟩ : ∃ gd, gd = wA.heap.size + 1 := ⟨_, rfl⟩
  obtain ⟨pd, hpd⟩ : ∃ pd, pd = wR.heap.size := ⟨_, rfl⟩
  obtain ⟨W, hW⟩ : ∃ W, W = (wR.alloc (.cells #[.slice (some ⟨wA.heap.size + 1, 0, none⟩) N N] 23)).alloc (.cells #[.slice sa n cap] 23) := ⟨_, rfl⟩
  have hzA := HBA.out.size
  have hzR := HR2.out.size
  rw [World.size_alloc] at hzR
  have hBR : Below W0.heap.size W0 wR := (HBA.out.alloc hzA _).trans (HR2.out.mono (by simp; omega))
  have hBW : Below W0.heap.size W0 W := by rw [hW]; exact (hBR.alloc (by omega) _).alloc (by simp; omega) _
  have HBW : Hid (Below p w W) := by rw [hp]; exact HB0.out.trans (hBW.mono (by omega))
  have HY0 : Hid (Box W p c (.slice a1 n1 c1) (.slice a2 n2 c2)) := by rw [hp]; exact HX0.out.low (by omega) hBW
  have HY1 : Hid (W.heap[p + 1]? = some (.cells #[.func (.func g) #[] lb] 89 (0, 0))) := by rw [hp]; exact (hBW.block _ (by omega)).trans HX1.out
  have HY2 : Hid (Box W (p + 1 + 1) false (.slice none 0 0) (.slice none 0 0)) := by rw [hp]; exact HX2.out.low (by omega) hBW
  have HY3 : Hid (W.heap[pd]? = some (.cells #[.slice (some ⟨gd, 0, none⟩) N N] 23 (0, 0))) := by
    rw [hW, hpd, hgd]; exact (Below.heap_alloc _ _ _ (by simp)).trans (World.alloc_heap_new wR _)
  have HY4 : Hid (W.heap[pd + 1]? = some (.cells #[.slice sa n cap] 23 (0, 0))) := by
    rw [hW, hpd]; have := World.alloc_heap_new (wR.alloc (.cells #[.slice (some ⟨wA.heap.size + 1, 0, none⟩) N N] 23)) (.cells #[.slice sa n cap] 23); rwa [World.size_alloc] at this
  have HG : Hid (Blk W gd (halfway c sh dt f zs N 0)) := by
    show Blk _ _ _
    rw [half_zero, hW, hgd]
    have := HR1.out
    rw [World.size_alloc] at this
    exact (this.alloc _).alloc _
  have hzW : W.heap.size = pd + 2 := by rw [hW, hpd]; simp
  have hpg : p + 3 ≤ gd := by omega
  have hgp : gd < pd := by have := HR1.out.lt; rw [World.size_alloc] at this; omega
  have H1W := hide (H1.out.below (by omega) HBW.out)
  have H2W := hide (H2.out.below (by omega) HBW.out)
  have HZW := hide (HZ.out.below (by omega) HBW.out)
  have HPL : Hid ((∀ k, At a1 n1 k → k < p) ∧ (∀ k, At a2 n2 k → k < p) ∧ (∀ k, At sa n k → k < p)) := ⟨fun k h => by rw [hp]; exact H1.out.hi h, fun k h => by rw [hp]; exact H2.out.hi h, fun k h => by rw [hp]; exact HZ.out.hi h⟩
  rw [← hW, ← hp, ← hgd, ← hpd]
  clear hzA hzR hBR hBW HX0 HX1 HX2 HBA HR1 HR2 hW hgd hpd hwB hwI HW0 HB0 hz0 H1 H2 HZ
  have HP := hide hp
  clear hp
  refine range_cells (gf := 228) (lb := #[.pointer (some ⟨pd + 1, 0, none⟩)]) rfl (enters_of Tryz.func228 (by kernel_rfl) rfl) rfl (fun k => k = gd) (by rintro k rfl; omega)
    (indexesIn1_seq _ (pd + 1) sa n cap zs W N _ (by simp [World.cell?, HY4.out]) (by omega) HZW.out h5 HSZ.out HN.out (by omega) (by rintro k (rfl | rfl) h <;> have := HPL.out.2.2 _ h <;> omega))
    (by rintro k v A o ⟨ib, hlo, rfl, hb⟩ _; exact ⟨ib, hlo, rfl, (World.putObj_heap_other (by omega)).trans hb⟩)
    (fun k A => Blk A gd (halfway c sh dt f zs N k) ∧ But (fun b => b = gd) W A)
    (by rintro k A B ⟨h, hb⟩ hbl; exact ⟨(hbl.block _ (by omega)).trans h, hbl.os.trans hb.os, hbl.tape.trans hb.tape, hbl.output.trans hb.output, Nat.le_trans hb.size hbl.size, fun x hx hn => (hbl.block x hx).trans (hb.block x hx hn)⟩)
    ⟨HG.out, But.refl _ _⟩
    (fun k v => { tmps := #[.agg #[.bool c, .slice a1 n1 c1, .slice a2 n2 c2], .slice sa n cap, .func (.func g) #[] lb, .pointer (some ⟨p, 0, none⟩), undef, .pointer (some ⟨p + 1, 0, none⟩), .pointer (some ⟨p + 1 + 1, 0, none⟩), .pointer (some ⟨pd, 0, none⟩), .int .i64 (k : Nat), v, undef, undef, .agg #[.bool c, .slice a1 n1 c1, .slice a2 n2 c2], .int .i64 (fillOf c), .slice (some ⟨wA.heap.size, 0, none⟩) 1 1, .slice sa n cap, .int .i64 (N : Nat), .slice (some ⟨gd, 0, none⟩) N N, .slice sa n cap, .func (.func 228) #[] #[.pointer (some ⟨pd + 1, 0, none⟩)], .int .i64 (k : Nat), v, undef, undef, undef, undef, undef, undef, undef, undef, undef, undef, undef, undef, undef, undef, undef, undef, undef, undef, undef, undef, undef, undef], defers := [] }) ?assign ?body ?done
  case assign =>
    intro l k v A K hK
    gi_wp2
    exact hK
  case body =>
    rintro l k v A hk ⟨hb, hbut⟩ ⟨ib, hlo, rfl, hix⟩ hzA
    have hA0 : Box A p c (.slice a1 n1 c1) (.slice a2 n2 c2) := (hbut.block p (by omega) (by omega)).trans HY0.out
    have hA1 := (hbut.block (p + 1) (by omega) (by omega)).trans HY1.out
    have hA3 := (hbut.block pd (by omega) (by omega)).trans HY3.out
    have hr1 := hbut.row H1W.out (by rintro x rfl h; have := HPL.out.1 _ h; omega)
    have hr2 := hbut.row H2W.out (by rintro x rfl h; have := HPL.out.2.1 _ h; omega)
    have hBA : Below p w A := HBW.out.trans (hbut.below (by omega) (by rintro x rfl; omega))
    have hnA : NumOk g lb f zs n1 A := HNUM.out.low (by rw [← HP.out]; exact hBA)
    have hF : Full zs := full_of HSZ.out (by rw [HN.out]; omega)
    obtain ⟨r, hr⟩ : ∃ r, insideN sh (meant sh f (digits zs k)) sh.length = r := ⟨_, rfl⟩
    obtain ⟨q, hq⟩ : ∃ q, (if r then place sh (meant sh f (digits zs k)) else 0) = q := ⟨_, rfl⟩
    have hpl := placeIn_any g lb eg f zs (digits zs k) sh a1 n1 c1 ib A hr1 hnA (digits_in hF _) (digits_len _ _) hix HS.out r (hide hr) q (hide hq)
    rw [HZW.out.len] at hpl
    obtain ⟨ca0, ca1, ca2, _, _, _⟩ := hA0.all
    have cn : A.cell? ⟨p + 1, 0, none⟩ = some (.func (.func g) #[] lb) := by simp [World.cell?, hA1]
    have hzp : p + 1 < A.heap.size := by omega
    have HPL2 := hide hpl
    have HA0 := hide hA0
    have HA3 := hide hA3
    have HBT := hide hbut
    have HBK := hide hb
    have HR := hide hr
    have HQ := hide hq
    have HR2 := hide hr2
    clear hpl hA0 hA1 hA3 hr1 hr2 hBA hnA hF hb hbut hr hq hix
    cases r with
    | false =>
      gi_wp2_with (refine ⟨trivial, ?_⟩; gi_at_call 151; refine (CallsIn.inRound l (callsIn_wide.2 HPL2.out)).mono ?_; rintro e wP ⟨rfl, hbP⟩)
      refine ⟨?_, ?_, ?_⟩
      · exact But.of_below hbP
      · have := HBK.out.below (Nat.le_refl _) hbP
        rwa [half_out c sh dt f zs N k HR.out] at this
      · exact ⟨hbP.os.trans HBT.out.os, hbP.tape.trans HBT.out.tape, hbP.output.trans HBT.out.output, Nat.le_trans HBT.out.size hbP.size, fun x hx hn => (hbP.block x (Nat.lt_of_lt_of_le hx HBT.out.size)).trans (HBT.out.block x hx hn)⟩
    | true =>
      have hpb := place_bd (inside_in HR.out)
      obtain ⟨j, rfl⟩ : ∃ j : Nat, q = (j : Int) := ⟨q.toNat, by have := HQ.out; rw [if_pos rfl] at this; omega⟩
      have hj : (j : Int) < n2 := by have := HQ.out; rw [if_pos rfl] at this; have := HD.out; omega
      gi_wp2_with (refine ⟨trivial, ?_⟩; gi_at_call 151; refine (CallsIn.inRound l (callsIn_wide.2 HPL2.out)).mono ?_; rintro e wP ⟨rfl, hbP⟩; obtain ⟨cb0, cb1, cb2, _, _, _⟩ := (Box.low HA0.out (by omega) hbP).all; have cd : wP.cell? ⟨pd, 0, none⟩ = some (.slice (some ⟨gd, 0, none⟩) N N) := (by have h3 := (hbP.block pd (by omega)).trans HA3.out; simp [World.cell?, h3]); have HKP := hide (HBK.out.below (Nat.le_refl _) hbP); have cg := HKP.out.cell (i := k) (by rw [half_len]; exact hk); have cf := HKP.out.free k; have HRP := hide (HR2.out.below (Nat.le_refl _) hbP); obtain ⟨bd, od, hbd, hbd2, cdt⟩ := HRP.out.get (show j < n2 by omega); cases hbd; have HBP := hide hbP; clear hbP)
      have hmx : Tryz.prog.follows .mixedOrders = true := by kernel_rfl
      clear HPL2 HA0 HA3 ca0 ca1 ca2 cn cb0 cb1
      have HFIN : Hid (But (fun b => b = gd) A ((wP.setCell ⟨gd, k, none⟩ (.int .i64 (dt.getD j 0))).drew) ∧ (Blk ((wP.setCell ⟨gd, k, none⟩ (.int .i64 (dt.getD j 0))).drew) gd (halfway c sh dt f zs N (k + 1)) ∧ But (fun b => b = gd) W ((wP.setCell ⟨gd, k, none⟩ (.int .i64 (dt.getD j 0))).drew))) := by
        have e1 : But (fun b => b = gd) A ((wP.setCell ⟨gd, k, none⟩ (.int .i64 (dt.getD j 0))).drew) := ((But.of_below (S := fun b => b = gd) HBP.out).setCell (p := ⟨gd, k, none⟩) rfl _).drew
        refine ⟨e1, ?_, (HBT.out.trans e1).mono (by rintro x (h | h) <;> exact h)⟩
        have hg : (gatherAt c sh dt f zs k).1 = dt.getD j 0 := by rw [gather_in HR.out]; have := HQ.out; simp only [if_true] at this; rw [this]; simp
        have e2 := Blk.set HKP.out k (dt.getD j 0)
        rw [half_in c sh dt f zs N k _ hg] at e2
        exact e2
      clear HKP HBP HBK HBT HR HQ HRP HR2
      gi_region_with_o (fail)
      all_goals exact HFIN.out
  case done =>
    rintro D A hD ⟨hb, hbut⟩ hK
    have hA0 : Box A p c (.slice a1 n1 c1) (.slice a2 n2 c2) := (hbut.block p (by omega) (by omega)).trans HY0.out
    have hA2 : Box A (p + 1 + 1) false (.slice none 0 0) (.slice none 0 0) := (hbut.block (p + 1 + 1) (by omega) (by omega)).trans HY2.out
    have hA3 := (hbut.block pd (by omega) (by omega)).trans HY3.out
    obtain ⟨ca0, ca1, ca2, _, _, _⟩ := hA0.all
    obtain ⟨cc0, cc1, cc2, cf0, cf1, cf2⟩ := hA2.all
    have cd : A.cell? ⟨pd, 0, none⟩ = some (.slice (some ⟨gd, 0, none⟩) N N) := by simp [World.cell?, hA3]
    have HBT := hide hbut
    have HB := hide hb
    have HA2 := hide hA2
    clear hb hbut hA0 hA2 hA3
    gi_wp2
    obtain ⟨WX, hWX⟩ : ∃ WX, WX = ((A.setCell ⟨p + 1 + 1, 0, none⟩ (.bool c)).setCell ⟨p + 1 + 1, 1, none⟩ (.slice sa n cap)).setCell ⟨p + 1 + 1, 2, none⟩ (.slice (some ⟨gd, 0, none⟩) N N) := ⟨_, rfl⟩
    have hX : Box WX (p + 1 + 1) c (.slice sa n cap) (.slice (some ⟨gd, 0, none⟩) N N) := by rw [hWX]; exact HA2.out.sets
    have hbX : But (fun b => b = p + 1 + 1) A WX := by rw [hWX]; exact (((But.refl (fun b => b = p + 1 + 1) A).setCell (p := ⟨p + 1 + 1, 0, none⟩) rfl _).setCell (p := ⟨p + 1 + 1, 1, none⟩) rfl _).setCell (p := ⟨p + 1 + 1, 2, none⟩) rfl _
    have hlD : D < A.heap.size := (Array.getElem?_eq_some_iff.1 hK).1
    have hKX : WX.heap[D]? = some (.deferred (some [])) := (hbX.block D hlD (by omega)).trans hK
    have hbD : But (fun b => b = D) WX (WX.putObj D (.deferred none)) := But.putObj (S := fun b => b = D) WX rfl _
    have hXD : Box (WX.putObj D (.deferred none)) (p + 1 + 1) c (.slice sa n cap) (.slice (some ⟨gd, 0, none⟩) N N) := (World.putObj_heap_other (by omega)).trans hX
    obtain ⟨x0, x1, x2, _, _, _⟩ := hXD.all
    rw [← hWX]
    refine ⟨by simp, .inl ⟨_, _, rfl, run_takeDeferred hKX, ?_⟩⟩
    refine ⟨.agg #[.bool c, .slice sa n cap, .slice (some ⟨gd, 0, none⟩) N N], ?_, gd, rfl, by rw [← HP.out]; omega, ?_, ?_⟩
    · simp [results, Tryz.f59, go_sem, x0, x1, x2]
      done
    · rw [← half_all]
      exact (hbD.block gd (by have := hbX.size; have := HB.out.lt; omega) (by omega)).trans ((hbX.block gd HB.out.lt (by omega)).trans HB.out)
    · have e := (HBW.out.trans (HBT.out.below (B := p) (by omega) (by rintro x rfl; omega))).trans ((hbX.trans hbD).below (B := p) (by have := HBT.out.size; omega) (by rintro x (rfl | rfl) <;> omega))
      rw [← HP.out]
      exact e

theorem gathered_any (c : Bool) (a1 a2 sa : Option Addr) (n1 n2 c1 c2 n cap : Nat) (sh dt zs : List Int) (g : Nat) (lb : Array Value) (eg : ∀ args w, (callFunc g args).run Tryz.prog w = .ok (.enter g args) w) (f : List Int → Nat → Int) (w : World) (N : Nat)
    (h1 : Row w a1 n1 sh) (h2 : Row w a2 n2 dt) (hz : Row w sa n zs) (hs : ShapeIn sh) (hsz : ShapeIn zs) (h5 : n ≤ 5) (hN : prodAll zs = (N : Int)) (hd : prodAll sh = (n2 : Int)) (hnum : NumOk g lb f zs n1 w) :
    Calls Tryz.prog 59 #[.agg #[.bool c, .slice a1 n1 c1, .slice a2 n2 c2], .slice sa n cap, .func (.func g) #[] lb] w fun e w' => ∃ gd, e = .returned (.agg #[.bool c, .slice sa n cap, .slice (some ⟨gd, 0, none⟩) N N]) ∧ w.heap.size ≤ gd ∧ Blk w' gd (vals (gatherAt c sh dt f zs) N) ∧ Below w.heap.size w w' :=
  callsIn_wide.1 (gathered_in c a1 a2 sa n1 n2 c1 c2 n cap sh dt zs g lb eg f w N h1 h2 hz hs hsz h5 hN hd hnum)

end Go.Proofs.YtgjpchnkodnieaaGreatDoor
namespace Go.Proofs.YtgjpchnkodnieaaGreatDoor
open Go.RowKit

/-- A function that hands out N rounds, the k-th with the values ar k, as long as R holds of the world; it writes nothing. -/
def SeqWhen (m : Nat) (P : Program) (g : Nat) (lb : Array Value) (N : Nat) (ar : Nat → Array Value) (R : World → Prop) : Prop :=
  ∀ (l : Nat) (J : Nat → World → Prop) (W : World), (∀ k A, J k A → R A) →
    (∀ k W1, k < N → J k W1 → YieldAt Fence.wide (m - 1) P l (ar k) W1 fun e W' => e = .returned (.bool true) ∧ J (k + 1) W') →
    J 0 W → CallsIn Fence.wide m P g (#[.func (.yield l) #[] #[]] ++ lb) W fun e W' => (∃ v, e = .returned v) ∧ J N W'

/-- How a round's body is left: off its end; whatever holds no cells and lies at or beyond B lies as it lay. -/
def roundEndF (B : Nat) (I : World → Prop) (W : World) : Exit → Act → World → Prop
  | .normal, _, W' => KeepsFrom B W W' ∧ I W'
  | _, _, _ => False

/-- A range over such a function whose body never leaves it. -/
theorem range_when {P : Program} {m N : Nat} {g : Operand} {ps : Array Tmp} {assign body : Code} {Q : Exit → Act → World → Prop} {a : Act} {w : World} {R : World → Prop}
    {gf : Nat} {lb : Array Value} (hg : a.eval g = .func (.func gf) #[] lb) (eg : ∀ args w, (callFunc gf args).run P w = .ok (.enter gf args) w) {ar : Nat → Array Value} (hps : ∀ k, (ar k).size = ps.size)
    (hseq : SeqWhen (m - 1) P gf lb N ar R)
    (I : Nat → World → Prop) (hI : ∀ k A, I k A → R A) (hIp : ∀ k A l o o', I k A → w.heap.size ≤ l → A.heap[l]? = some o → o.isCells = false → I k (A.putObj l o')) (h0 : ∀ o o', I 0 ((w.alloc o).alloc o')) (a₁ : Nat → Act)
    (hassign : ∀ (l k : Nat) (W : World) (K : Act → World → Prop), K (a₁ k) W →
      assign.wpIn (Fence.wide.inRound l) (m - 1 - 1) P (Exit.then K (fun _ _ _ => False)) { tmps := (ps.zip (ar k)).foldl (fun t (p, v) => t.setIfInBounds p v) a.tmps, defers := [] } W)
    (hbody : ∀ (l k : Nat) (W : World), k < N → I k W → body.wpIn (Fence.wide.inRound l) (m - 1 - 1) P (roundEndF w.heap.size (I (k + 1)) W) (a₁ k) W)
    (hdone : ∀ (D : Nat) (W : World), w.heap.size ≤ D → I N W → W.heap[D]? = some (.deferred (some [])) → Q .normal { a with defers := { target := .collected D, args := #[] } :: a.defers } W) :
    (Code.rangeFunc g ps assign body).wpIn Fence.wide m P Q a w := by
  refine wpIn_rangeFunc ?_
  intro fn hfn
  obtain ⟨rec, hrec⟩ : ∃ rec : LoopState → Loop, rec = fun st => { state := st, pending := none, fn, tmps := a.tmps, params := ps, assign, body, defers := w.heap.size } := ⟨_, rfl⟩
  obtain ⟨W1, hW1⟩ : ∃ W1, (w.alloc (.deferred (some []))).alloc (.loop (rec .ready)) = W1 := ⟨_, rfl⟩
  have hL1 : W1.heap[w.heap.size + 1]? = some (.loop (rec .ready)) := by
    rw [← hW1]; have := World.alloc_heap_new (w.alloc (.deferred (some []))) (.loop (rec .ready)); rwa [World.size_alloc] at this
  have hK1 : W1.heap[w.heap.size]? = some (.deferred (some [])) := by rw [← hW1]; exact (Below.heap_alloc _ _ _ (by simp)).trans (World.alloc_heap_new w _)
  refine ⟨w.heap.size + 1, [{ target := .collected w.heap.size, args := #[] }], W1, { target := .fn (.func gf) lb, args := #[.func (.yield (w.heap.size + 1)) #[] #[]] }, W1, gf,
    #[.func (.yield (w.heap.size + 1)) #[] #[]] ++ lb, W1, ?_, ?_, ?_, ?_, ?_, ?_⟩
  · rw [← hW1, hrec]; exact run_enterLoop_outer _ _ _ _ _
  · simp only [resolve, hg]; simp [go_sem]
  · intro _ _; exact trivial
  · simp [invoke, go_sem, eg]
  · intro h; simp [Fence.wide] at h
  · refine (hseq (w.heap.size + 1) (fun k W => I k W ∧ W.heap[w.heap.size + 1]? = some (.loop (rec .ready)) ∧ W.heap[w.heap.size]? = some (.deferred (some []))) W1 (fun k A h => hI k A h.1) ?_ ⟨by rw [← hW1]; exact h0 _ _, hL1, hK1⟩).mono ?_
    · rintro k W hk ⟨hi, hl, hd⟩
      have hlt : w.heap.size + 1 < W.heap.size := (Array.getElem?_eq_some_iff.1 hl).1
      have hy := run_yield (P := P) (args := ar k) hl (by rw [hrec]; exact hps k)
      rw [hrec] at hy
      refine ⟨fn, _, assign, body, hy, roundIn_of_wpIn hfn (hassign _ k W _ ⟨_, run_beginRound hl (by rw [hrec]), ?_⟩)⟩
      refine wpIn_mono (hbody _ k _ hk (hIp _ _ _ _ _ hi (by omega) hl rfl)) ?_
      rintro e a3 W3 hp
      cases e with
      | normal =>
        obtain ⟨hkeep, hi3⟩ := hp
        have hl3 := hkeep.same _ _ (by omega) (World.putObj_heap_same (o := .loop { rec .ready with state := .busy }) hlt) rfl
        have hd3 := hkeep.same _ _ (Nat.le_refl _) ((World.putObj_heap_other (r := w.heap.size + 1) (by omega)).trans hd) rfl
        have hr := run_endRound (P := P) none hl3
        have hlt3 : w.heap.size + 1 < W3.heap.size := (Array.getElem?_eq_some_iff.1 hl3).1
        refine ⟨_, _, hr, rfl, hIp _ _ _ _ _ hi3 (by omega) hl3 rfl, ?_, (World.putObj_heap_other (by omega)).trans hd3⟩
        rw [World.putObj_heap_same hlt3, hrec]; rfl
      | ret => exact hp.elim
      | exit id => exact hp.elim
      | goto t => exact hp.elim
      | panic ch => exact hp.elim
      | outgrown => exact hp.elim
    · rintro e W2 ⟨⟨v, rfl⟩, hi, hl, hd⟩
      refine ⟨none, _, by have := run_endLoop (P := P) hl (by rw [hrec]; simp); rw [hrec] at this; exact this, hdone w.heap.size _ (Nat.le_refl _) (hIp _ _ _ _ _ hi (by omega) hl rfl) ((World.putObj_heap_other (by omega)).trans hd)⟩

end Go.Proofs.YtgjpchnkodnieaaGreatDoor

namespace Go.Proofs.YtgjpchnkodnieaaGreatDoor
open Go.RowKit

/-- A function that hands out N rounds, the k-th with the values ar k, as long as what lay in w0 lies as it lay; it writes nothing. -/
abbrev SeqReads (m : Nat) (P : Program) (g : Nat) (lb : Array Value) (N : Nat) (ar : Nat → Array Value) (w0 : World) : Prop := SeqWhen m P g lb N ar (Below w0.heap.size w0)

/-- How a round's body is left: off its end; whatever holds no cells lies as it lay. -/
def roundEndQ (I : World → Prop) (W : World) : Exit → Act → World → Prop
  | .normal, _, W' => KeepsOthers W W' ∧ I W'
  | _, _, _ => False

theorem roundEndQ_F {B : Nat} {I : World → Prop} {W : World} : ∀ (e : Exit) (a : Act) (W' : World), roundEndQ I W e a W' → roundEndF B I W e a W'
  | .normal, _, _, h => ⟨h.1.from B, h.2⟩
  | .ret, _, _, h => h
  | .exit _, _, _, h => h
  | .goto _, _, _, h => h
  | .panic _, _, _, h => h
  | .outgrown, _, _, h => h

/-- A range over such a function whose body never leaves it. -/
theorem range_reads {P : Program} {m N : Nat} {g : Operand} {ps : Array Tmp} {assign body : Code} {Q : Exit → Act → World → Prop} {a : Act} {w w0 : World}
    {gf : Nat} {lb : Array Value} (hg : a.eval g = .func (.func gf) #[] lb) (eg : ∀ args w, (callFunc gf args).run P w = .ok (.enter gf args) w) {ar : Nat → Array Value} (hps : ∀ k, (ar k).size = ps.size)
    (hseq : SeqReads (m - 1) P gf lb N ar w0)
    (I : Nat → World → Prop) (hI : ∀ k A, I k A → Below w0.heap.size w0 A) (hIp : ∀ k A l o o', I k A → w.heap.size ≤ l → A.heap[l]? = some o → o.isCells = false → I k (A.putObj l o')) (h0 : ∀ o o', I 0 ((w.alloc o).alloc o')) (a₁ : Nat → Act)
    (hassign : ∀ (l k : Nat) (W : World) (K : Act → World → Prop), K (a₁ k) W →
      assign.wpIn (Fence.wide.inRound l) (m - 1 - 1) P (Exit.then K (fun _ _ _ => False)) { tmps := (ps.zip (ar k)).foldl (fun t (p, v) => t.setIfInBounds p v) a.tmps, defers := [] } W)
    (hbody : ∀ (l k : Nat) (W : World), k < N → I k W → body.wpIn (Fence.wide.inRound l) (m - 1 - 1) P (roundEndQ (I (k + 1)) W) (a₁ k) W)
    (hdone : ∀ (D : Nat) (W : World), w.heap.size ≤ D → I N W → W.heap[D]? = some (.deferred (some [])) → Q .normal { a with defers := { target := .collected D, args := #[] } :: a.defers } W) :
    (Code.rangeFunc g ps assign body).wpIn Fence.wide m P Q a w := by
  exact range_when hg eg hps hseq I hI hIp h0 a₁ hassign (fun l k W hk hi => wpIn_mono (hbody l k W hk hi) roundEndQ_F) hdone

end Go.Proofs.YtgjpchnkodnieaaGreatDoor
namespace Go.Proofs.YtgjpchnkodnieaaGreatDoor
open Go.RowKit Go.Shelf

attribute [local go_sem] Oper.semAt_some

theorem Values_any (sa : Option Addr) (n cap : Nat) (w : World) : Calls Tryz.prog 147 #[.slice sa n cap] w fun e w' => e = .returned (.func (.func 226) #[] #[.pointer (some ⟨w.heap.size, 0, none⟩)]) ∧ w' = w.alloc (.cells #[.slice sa n cap] 23) := by
  go_enter Tryz.func147, Tryz.ntmps147
  go_wp2
  go_ret
  exact ⟨rfl, rfl⟩

set_option maxRecDepth 100000 in
set_option maxHeartbeats 2000000 in
theorem values1_seq (m Bn : Nat) (sa : Option Addr) (n cap : Nat) (zs : List Int) (w0 : World) (hBox : w0.cell? ⟨Bn, 0, none⟩ = some (.slice sa n cap)) (hBn : Bn < w0.heap.size) (hr : Row w0 sa n zs) :
    SeqReads m Tryz.prog 226 #[.pointer (some ⟨Bn, 0, none⟩)] n (fun k => #[.int .i64 (zs.getD k 0)]) w0 := by
  intro l J W hJ hY h0
  have hsm := hr.small
  have hbox := ((hJ _ _ h0).cell (p := ⟨Bn, 0, none⟩) hBn).trans hBox
  have HJ : Hid (∀ k A, J k A → Below w0.heap.size w0 A) := hJ
  have HY : Hid (∀ k W1, k < n → J k W1 → YieldAt Fence.wide (m - 1) Tryz.prog l #[.int .i64 (zs.getD k 0)] W1 fun e W' => e = .returned (.bool true) ∧ J (k + 1) W') := hY
  have H0 := hide h0
  have HR := hide hr
  clear hJ hY h0 hr hBox
  refine callsIn_of_wp Tryz.func226 rfl trivial ?_ rfl
  simp only [Tryz.ntmps226, List.size_toArray, List.length_cons, List.length_nil, Nat.reduceAdd, Nat.reduceSub, Array.replicate_succ, Array.replicate_zero, List.push_toArray, List.append_toArray, List.nil_append, List.cons_append]
  gi_wp2
  gi_loopw [7] (fun i wr => ∃ k : Nat, k ≤ n ∧ i = .int .i64 (k : Nat) ∧ Hid (J k wr)) (fun i _ => n - (intOf i).toNat)
  case atStart => exact ⟨0, Nat.zero_le _, rfl, H0⟩
  case round =>
    obtain ⟨k, hk, rfl, hj⟩ := hrel
    clear H0 hbox
    by_cases hlt : k < n
    · obtain ⟨b, off, rfl, hblt, hc⟩ := (HR.out.below (Nat.le_refl _) (HJ.out _ _ hj.out)).get hlt
      obtain ⟨fn, tmps, assign, body, hy, hRr⟩ := HY.out k wr hlt hj.out
      obtain ⟨x, hx⟩ : ∃ x, x = zs.getD k 0 := ⟨_, rfl⟩
      rw [← hx] at hc hy
      clear hx
      gi_wp2
      refine ⟨fun h => (by simp [Fence.wide] at h), hRr.mono ?_⟩
      rintro e W3 ⟨rfl, hJ3⟩
      have HJ3 := hide hJ3
      clear hRr hy hJ3 hc
      gi_wp2
      go_roundw
      case rel => exact ⟨k + 1, by omega, by go_num, HJ3⟩
      case measure => simp [intOf]; omega
    · have : k = n := by omega
      subst this
      gi_wp2
      go_end0
      exact ⟨⟨_, rfl⟩, hj.out⟩

/-- k elements have been collected in a slice whose box is pb. -/
def Coll (w0 : World) (pb : Nat) (zs : List Int) (k : Nat) (W : World) : Prop :=
  (∃ v, Boxed W pb 23 v ∧ W.ownsRow w0.heap.size 3 1 v k ((zs.take k).map (Value.int .i64)) ∧ (v = .slice none 0 0 ↔ k = 0)) ∧ Below w0.heap.size w0 W

theorem Coll.putObj {w0 : World} {pb : Nat} {zs : List Int} {k : Nat} {A : World} {l : Nat} {o : Obj} (h : Coll w0 pb zs k A) (hl : w0.heap.size ≤ l) (ho : A.heap[l]? = some o) (hc : o.isCells = false) (o' : Obj) : Coll w0 pb zs k (A.putObj l o') := by
  obtain ⟨⟨v, hb, hr, hn⟩, hbl⟩ := h
  refine ⟨⟨v, ?_, ?_, hn⟩, hbl.trans (below_putObj A hl o')⟩
  · have hne : pb ≠ l := fun e => by subst e; rw [show A.heap[pb]? = _ from hb] at ho; cases ho; cases hc
    exact (World.putObj_heap_other hne).trans hb
  · rcases hr with ⟨h1, h2⟩
    refine ⟨h1, ?_⟩
    rcases h2 with h | ⟨g, cap, cur, hv, hg, hgb, rest⟩
    · exact .inl h
    · have hne : g ≠ l := fun e => by subst e; rw [hgb] at ho; cases ho; cases hc
      exact .inr ⟨g, cap, cur, hv, hg, (World.putObj_heap_other hne).trans hgb, rest⟩

theorem Coll.alloc {w0 : World} {pb : Nat} {zs : List Int} {k : Nat} {A : World} (h : Coll w0 pb zs k A) (o : Obj) : Coll w0 pb zs k (A.alloc o) := by
  obtain ⟨⟨v, hb, hr, hn⟩, hbl⟩ := h
  exact ⟨⟨v, hb.alloc o, hr.alloc o, hn⟩, hbl.alloc hbl.size o⟩

theorem eg_vals : ∀ args w, (callFunc 226 args).run Tryz.prog w = .ok (.enter 226 args) w := enters_of Tryz.func226 (by kernel_rfl) rfl

set_option maxRecDepth 100000 in
set_option maxHeartbeats 2000000 in
theorem appendSeq_any (Bn : Nat) (sa : Option Addr) (n cap : Nat) (zs : List Int) (w : World) (hBox : w.cell? ⟨Bn, 0, none⟩ = some (.slice sa n cap)) (hBn : Bn < w.heap.size) (hr : Row w sa n zs) (hn : n ≤ 10000) :
    Calls Tryz.prog 272 #[.slice none 0 0, .func (.func 226) #[] #[.pointer (some ⟨Bn, 0, none⟩)]] w fun e w' => ∃ v, e = .returned v ∧ w'.ownsRow w.heap.size 3 1 v n (zs.map (Value.int .i64)) ∧ (v = .slice none 0 0 ↔ n = 0) ∧ Below w.heap.size w w' := by
  refine (callsIn_wide (n := 9)).1 ?_
  obtain ⟨i0, hi, hz0, hz1, hz2⟩ := info_parts info_int
  refine callsIn_of_wp_marks Tryz.func272 rfl trivial ?_ rfl
  simp only [Tryz.ntmps272, List.size_toArray, List.length_cons, List.length_nil, Nat.reduceAdd, Nat.reduceSub, Array.replicate_succ, Array.replicate_zero, List.push_toArray, List.append_toArray, List.nil_append, List.cons_append]
  gi_wp2
  have hlen := hr.len
  obtain ⟨W, hW⟩ : ∃ W, W = w.alloc (.cells #[.slice none 0 0] 23) := ⟨_, rfl⟩
  have h0 : Coll w w.heap.size zs 0 W := by
    rw [hW]
    exact ⟨⟨.slice none 0 0, Boxed.new w _ _, by simpa using World.ownsRow_nil _ _ _ _, by simp⟩, (Below.refl _ w).alloc (Nat.le_refl _) _⟩
  have hz : W.heap.size = w.heap.size + 1 := by rw [hW]; simp
  rw [← hW]
  refine range_reads (w0 := w) (gf := 226) (lb := #[.pointer (some ⟨Bn, 0, none⟩)]) rfl eg_vals (ar := fun k => #[.int .i64 (zs.getD k 0)]) (fun _ => rfl) (values1_seq _ Bn sa n cap zs w hBox hBn hr)
    (Coll w w.heap.size zs) (fun _ _ h => h.2) (fun k A l o o' h hl ho hc => h.putObj (by omega) ho hc o') (fun o o' => (h0.alloc o).alloc o')
    (fun k => { tmps := #[.slice none 0 0, .func (.func 226) #[] #[.pointer (some ⟨Bn, 0, none⟩)], .pointer (some ⟨w.heap.size, 0, none⟩), undef, .slice none 0 0, .int .i64 (zs.getD k 0), .func (.func 226) #[] #[.pointer (some ⟨Bn, 0, none⟩)], .int .i64 (zs.getD k 0), undef, undef, undef, undef, undef], defers := [] }) ?assign ?body ?done
  case assign =>
    intro l k A K hK
    gi_wp2
    exact hK
  case body =>
    rintro l k A hk ⟨⟨v, hv, hrow, hnil⟩, hB⟩
    obtain ⟨x, hx⟩ : ∃ x, x = zs.getD k 0 := ⟨_, rfl⟩
    have hts : (zs.take (k + 1)).map (Value.int .i64) = (zs.take k).map (Value.int .i64) ++ [.int .i64 x] := by rw [take_snoc zs k (by omega), ← hx]; simp
    have HTS := hide hts
    rw [← hx]
    have hc := hv.cell
    have hf := hv.frozen
    clear hx hts h0 hnil
    gi_wp2_with (gi_at_builtin; refine wpListIn_append_own _ rfl _ _ 23 rfl w.heap.size 3 i0 (.int .i64 0) 1 8 Tryz.underlying23 hi hz0 hz1 hz2 rfl (by decide) _ _ _ rfl (hrow.alloc _) ⟨A.heap.size, 0, none⟩ 1 1 [.int .i64 x] rfl rfl (cell_one_new _ _ _) (by simp [Value.oneCell']) (by unfold maxLen; omega) (by omega) (by have := hB.size; simp; omega) ?_; intro v' w1 hown' hgrow _; obtain ⟨g', cap', rfl⟩ := ownsRow_succ hown'; obtain ⟨hv1, hv2, hr2, hk2, hb2⟩ := hv.appended (by decide) hrow hB.size (Nat.le_refl _) hown' hgrow; have hc1 := hv1.cell; have hf1 := hv1.frozen)
    exact ⟨hk2, ⟨_, hv2, by rw [HTS.out]; exact hr2, by simp⟩, hB.trans hb2⟩
  case done =>
    rintro D A hD ⟨⟨v, hv, hrow, hnil⟩, hB⟩ hK
    have hc := hv.cell
    have hall : zs.take n = zs := List.take_of_length_le (by omega)
    have HALL := hide hall
    clear hall h0
    gi_wp2
    refine ⟨by simp, .inl ⟨_, _, rfl, run_takeDeferred hK, ?_⟩⟩
    refine ⟨_, results_tmp rfl _ _ _, v, rfl, ?_, hnil, hB.trans (below_putObj A (by omega) _)⟩
    have h := ownsRow_putObj hrow (.deferred none) hK rfl
    rw [HALL.out] at h
    exact h

end Go.Proofs.YtgjpchnkodnieaaGreatDoor
namespace Go.Proofs
open Go.Shelf
def Tryz.sortI_ren : Go.Shelf.Ren := ⟨fun | 189 => 225 | 125 => 274 | 257 => 273 | 128 => 321 | 129 => 322 | 294 => 312 | 295 => 313 | 296 => 314 | 297 => 315 | 298 => 316 | 299 => 317 | 216 => 318 | 300 => 319 | 301 => 320 | 328 => 328 | 329 => 329 | 330 => 330 | 331 => 331 | 332 => 332 | 215 => 311 | 343 => 335 | n => n, fun | 28 => 23 | 3 => 3 | 46 => 196 | 0 => 0 | 51 => 216 | 53 => 219 | 4 => 4 | 183 => 244 | 182 => 243 | 131 => 166 | 5 => 5 | 9 => 9 | 218 => 270 | 222 => 274 | 228 => 276 | 229 => 104 | n => n, fun | n => n⟩
theorem Tryz.sortI : Go.Proofs.Lays.n189 Tryz.prog Tryz.sortI_ren := {
  mixed := by kernel_rfl
  f125 := Tryz.func274.trans (congrArg some (by kernel_rfl))
  f128 := Tryz.func321.trans (congrArg some (by kernel_rfl))
  f129 := Tryz.func322.trans (congrArg some (by kernel_rfl))
  f189 := Tryz.func225.trans (congrArg some (by kernel_rfl))
  f215 := Tryz.func311.trans (congrArg some (by kernel_rfl))
  f216 := Tryz.func318.trans (congrArg some (by kernel_rfl))
  f257 := Tryz.func273.trans (congrArg some (by kernel_rfl))
  f294 := Tryz.func312.trans (congrArg some (by kernel_rfl))
  f295 := Tryz.func313.trans (congrArg some (by kernel_rfl))
  f296 := Tryz.func314.trans (congrArg some (by kernel_rfl))
  f297 := Tryz.func315.trans (congrArg some (by kernel_rfl))
  f298 := Tryz.func316.trans (congrArg some (by kernel_rfl))
  f299 := Tryz.func317.trans (congrArg some (by kernel_rfl))
  f300 := Tryz.func319.trans (congrArg some (by kernel_rfl))
  f301 := Tryz.func320.trans (congrArg some (by kernel_rfl))
  f328 := Tryz.func328.trans (congrArg some (by kernel_rfl))
  f329 := Tryz.func329.trans (congrArg some (by kernel_rfl))
  f330 := Tryz.func330.trans (congrArg some (by kernel_rfl))
  f331 := Tryz.func331.trans (congrArg some (by kernel_rfl))
  f332 := Tryz.func332.trans (congrArg some (by kernel_rfl))
  f343 := Tryz.func335.trans (congrArg some (by kernel_rfl))
  t0 := Tryz.underlying0
  a0 := Tryz.isAgg0
  z0 := Tryz.sizeOf0
  v0 := Tryz.zeroValue0
  t3 := Tryz.underlying3
  a3 := Tryz.isAgg3
  z3 := Tryz.sizeOf3
  v3 := Tryz.zeroValue3
  t4 := Tryz.underlying4
  a4 := Tryz.isAgg4
  z4 := Tryz.sizeOf4
  v4 := Tryz.zeroValue4
  t5 := Tryz.underlying5
  a5 := Tryz.isAgg5
  z5 := Tryz.sizeOf5
  v5 := Tryz.zeroValue5
  t9 := Tryz.underlying9
  a9 := Tryz.isAgg9
  z9 := Tryz.sizeOf9
  v9 := Tryz.zeroValue9
  t28 := Tryz.underlying23
  a28 := Tryz.isAgg23
  z28 := Tryz.sizeOf23
  v28 := Tryz.zeroValue23
  t46 := Tryz.underlying196
  a46 := Tryz.isAgg196
  z46 := Tryz.sizeOf196
  v46 := Tryz.zeroValue196
  t51 := Tryz.underlying216
  a51 := Tryz.isAgg216
  z51 := Tryz.sizeOf216
  v51 := Tryz.zeroValue216
  t53 := Tryz.underlying219
  a53 := Tryz.isAgg219
  z53 := Tryz.sizeOf219
  v53 := Tryz.zeroValue219
  t131 := Tryz.underlying166
  a131 := Tryz.isAgg166
  z131 := Tryz.sizeOf166
  v131 := Tryz.zeroValue166
  t182 := Tryz.underlying243
  a182 := Tryz.isAgg243
  z182 := Tryz.sizeOf243
  v182 := Tryz.zeroValue243
  t183 := Tryz.underlying244
  a183 := Tryz.isAgg244
  z183 := Tryz.sizeOf244
  v183 := Tryz.zeroValue244
  t218 := Tryz.underlying270
  a218 := Tryz.isAgg270
  z218 := Tryz.sizeOf270
  v218 := Tryz.zeroValue270
  t222 := Tryz.underlying274
  a222 := Tryz.isAgg274
  z222 := Tryz.sizeOf274
  v222 := Tryz.zeroValue274
  t228 := Tryz.underlying276
  a228 := Tryz.isAgg276
  z228 := Tryz.sizeOf276
  v228 := Tryz.zeroValue276
  t229 := Tryz.underlying104
  a229 := Tryz.isAgg104
  z229 := Tryz.sizeOf104
  v229 := Tryz.zeroValue104 }
end Go.Proofs
namespace Go.Proofs.YtgjpchnkodnieaaGreatDoor

def sortedI (zs : List Int) : List Int := zs.mergeSort fun x y => decide (x ≤ y)

theorem sortedI_perm (zs : List Int) : (sortedI zs).Perm zs := List.mergeSort_perm zs _
theorem sortedI_len (zs : List Int) : (sortedI zs).length = zs.length := (sortedI_perm zs).length_eq
theorem sortedI_up (zs : List Int) : (sortedI zs).Pairwise (fun x y => x ≤ y) := by
  have h := List.pairwise_mergeSort (le := fun x y : Int => decide (x ≤ y)) (fun a b c h1 h2 => by simp at *; omega) (fun a b => by simp; omega) zs
  exact h.imp fun h => by simpa using h

/-- Each number from 1 on stands at its place. -/
def inTurn (zs : List Int) : Nat → Bool
  | 0 => true
  | k + 1 => inTurn zs k && decide (zs.getD k 0 = (k : Int) + 1)

theorem inTurn_at {zs : List Int} {n : Nat} (h : inTurn zs n = true) : ∀ k, k < n → zs.getD k 0 = (k : Int) + 1 := by
  induction n with
  | zero => intro k hk; omega
  | succ n ih =>
    simp only [inTurn, Bool.and_eq_true, decide_eq_true_eq] at h
    intro k hk
    by_cases e : k = n
    · subst e; exact h.2
    · exact ih h.1 k (by omega)
theorem inTurn_of {zs : List Int} {n : Nat} (h : ∀ k, k < n → zs.getD k 0 = (k : Int) + 1) : inTurn zs n = true := by
  induction n with
  | zero => rfl
  | succ n ih =>
    simp only [inTurn, Bool.and_eq_true, decide_eq_true_eq]
    exact ⟨ih fun k hk => h k (by omega), h n (by omega)⟩
theorem inTurn_not {zs : List Int} {n k : Nat} (hk : k < n) (h : zs.getD k 0 ≠ (k : Int) + 1) : inTurn zs n = false := by
  cases e : inTurn zs n with
  | false => rfl
  | true => exact absurd (inTurn_at e k hk) h

theorem getD_eq (zs : List Int) (k : Nat) (h : k < zs.length) : zs.getD k 0 = zs[k] := by simp [List.getD, h]

theorem order_range {dt : List Int} {r : Nat} (h : orderOk dt r r = true) (i : Nat) (hi : i < r) : 1 ≤ dt.getD i 0 ∧ dt.getD i 0 ≤ r := by
  have := order_step h hi
  unfold stepOk at this
  simp only [Bool.and_eq_true, decide_eq_true_eq] at this
  exact this.1

theorem order_nodup {dt : List Int} {r : Nat} (h : orderOk dt r r = true) (hl : dt.length = r) : dt.Nodup := by
  refine List.pairwise_iff_getElem.2 fun i j hi hj hij he => ?_
  have hs := order_step h (show j < r by omega)
  have hn := stepOk_new hs
  have ht := (turned (sh := []) (orderOk_le h (show j ≤ r by omega)) i hij).2
  have : axNo dt i = axNo dt j := by unfold axNo; rw [getD_eq dt i hi, getD_eq dt j hj, he]
  rw [this, hn] at ht
  cases ht

theorem up_strict {s : List Int} (h1 : s.Pairwise (fun x y => x ≤ y)) (h2 : s.Nodup) (k : Nat) (hk : k + 1 < s.length) : s.getD k 0 < s.getD (k + 1) 0 := by
  rw [getD_eq s k (by omega), getD_eq s (k + 1) hk]
  have a := List.pairwise_iff_getElem.1 h1 k (k + 1) (by omega) hk (by omega)
  have b := List.pairwise_iff_getElem.1 h2 k (k + 1) (by omega) hk (by omega)
  omega

theorem order_sorted {dt : List Int} {r : Nat} (h : orderOk dt r r = true) (hl : dt.length = r) : inTurn (sortedI dt) r = true := by
  have hsl : (sortedI dt).length = r := by rw [sortedI_len, hl]
  have hnd : (sortedI dt).Nodup := (sortedI_perm dt).nodup_iff.2 (order_nodup h hl)
  have hst := up_strict (sortedI_up dt) hnd
  have hmem : ∀ k, k < r → 1 ≤ (sortedI dt).getD k 0 ∧ (sortedI dt).getD k 0 ≤ r := fun k hk => by
    rw [getD_eq _ k (by omega)]
    have hm : (sortedI dt)[k]'(by omega) ∈ dt := (sortedI_perm dt).mem_iff.1 (List.getElem_mem _)
    obtain ⟨i, hi, he⟩ := List.getElem_of_mem hm
    have := order_range h i (by omega)
    rw [getD_eq dt i hi, he] at this
    exact this
  have hlow : ∀ k, k < r → (k : Int) + 1 ≤ (sortedI dt).getD k 0 := by
    intro k
    induction k with
    | zero => intro hk; have := hmem 0 hk; omega
    | succ k ih => intro hk; have := ih (by omega); have := hst k (by omega); omega
  have hup : ∀ d k, k + d + 1 = r → (sortedI dt).getD k 0 ≤ (k : Int) + 1 := by
    intro d
    induction d with
    | zero => intro k hk; have := hmem k (by omega); omega
    | succ d ih => intro k hk; have := ih (k + 1) (by omega); have := hst k (by omega); omega
  refine inTurn_of fun k hk => ?_
  have a := hlow k hk
  have b := hup (r - 1 - k) k (by omega)
  omega

theorem sorted_order {dt : List Int} {r : Nat} (h : inTurn (sortedI dt) r = true) (hl : dt.length = r) : orderOk dt r r = true := by
  have hsl : (sortedI dt).length = r := by rw [sortedI_len, hl]
  have hat := inTurn_at h
  have hnd : dt.Nodup := by
    refine (sortedI_perm dt).nodup_iff.1 (List.pairwise_iff_getElem.2 fun i j hi hj hij he => ?_)
    have a := hat i (by omega)
    have b := hat j (by omega)
    rw [getD_eq _ i hi] at a
    rw [getD_eq _ j hj] at b
    omega
  have hrng : ∀ i, i < r → 1 ≤ dt.getD i 0 ∧ dt.getD i 0 ≤ r := fun i hi => by
    rw [getD_eq dt i (by omega)]
    have hm : dt[i]'(by omega) ∈ sortedI dt := (sortedI_perm dt).mem_iff.2 (List.getElem_mem _)
    obtain ⟨k, hk, he⟩ := List.getElem_of_mem hm
    have := hat k (by omega)
    rw [getD_eq _ k hk, he] at this
    omega
  have key : ∀ m, m ≤ r → orderOk dt r m = true := by
    intro m
    induction m with
    | zero => intro _; rfl
    | succ m ih =>
      intro hm
      simp only [orderOk, Bool.and_eq_true]
      refine ⟨ih (by omega), ?_⟩
      unfold stepOk
      simp only [Bool.and_eq_true, decide_eq_true_eq, Bool.not_eq_true']
      refine ⟨hrng m (by omega), ?_⟩
      cases e : (seenN dt r m).getD (axNo dt m) false with
      | false => rfl
      | true =>
        obtain ⟨i, hi, he⟩ := seen_from e
        have a := hrng i (by omega)
        have b := hrng m (by omega)
        have heq : dt.getD i 0 = dt.getD m 0 := by unfold axNo at he; omega
        rw [getD_eq dt i (by omega), getD_eq dt m (by omega)] at heq
        exact absurd heq (List.pairwise_iff_getElem.1 hnd i m (by omega) (by omega) hi)
  exact key r (Nat.le_refl _)

theorem order_is {dt : List Int} {r : Nat} (hl : dt.length = r) : orderOk dt r r = inTurn (sortedI dt) r := by
  cases e : inTurn (sortedI dt) r with
  | true => exact sorted_order e hl
  | false =>
    cases e2 : orderOk dt r r with
    | false => rfl
    | true => rw [order_sorted e2 hl] at e; cases e

end Go.Proofs.YtgjpchnkodnieaaGreatDoor
namespace Go.Proofs.YtgjpchnkodnieaaGreatDoor
open Go.RowKit Go.Shelf

theorem Sort_own (base n : Nat) (v : Value) (zs : List Int) (w : World) (hrow : w.ownsRow base 3 1 v n (zs.map (Value.int .i64))) (hnil : v = .slice none 0 0 ↔ n = 0) (hl : zs.length = n) (hn : n ≤ 10000) (hb : base ≤ w.heap.size) :
    Calls Tryz.prog 225 #[v] w fun e w' => e = .returned (.tuple #[]) ∧ w'.ownsRow base 3 1 v n ((sortedI zs).map (Value.int .i64)) ∧ Below base w w' := by
  by_cases h0 : n = 0
  · obtain rfl := hnil.2 h0
    subst h0
    have hz : zs = [] := List.length_eq_zero_iff.1 hl
    subst hz
    refine (Any.slices_Sort_int_none Tryz.sortI none 0 w).mono ?_
    rintro e w' ⟨rfl, rfl⟩
    exact ⟨rfl, by simpa [sortedI] using hrow, Below.refl _ _⟩
  · obtain ⟨h1, h2⟩ := hrow
    rcases h2 with ⟨h, _⟩ | ⟨g, cap, cur, rfl, hg, hgb, hc1, hc2, hc3, hc4⟩
    · exact absurd (hnil.1 h) h0
    · have hH := holds_of_blockI (ss := zs) hgb (by rw [hl]; simpa using hc4)
      have hgl : g < w.heap.size := (Array.getElem?_eq_some_iff.1 hgb).1
      subst hl
      refine (Any.slices_Sort_int Tryz.sortI g 0 cap zs w hH hgl (by omega)).mono ?_
      rintro e w' ⟨rfl, q, os, rfl⟩
      refine ⟨rfl, ownsRow_sortedI (sortedI_len zs) hg hgb hc1 hc2 hc3, ?_⟩
      exact (Below.refl base w).grown (grownBy_sortedI _) hb (fun k e => by cases e; exact hg)

set_option maxHeartbeats 1000000 in
theorem Collect_any (Bn : Nat) (sa : Option Addr) (n cap : Nat) (zs : List Int) (w : World) (hBox : w.cell? ⟨Bn, 0, none⟩ = some (.slice sa n cap)) (hBn : Bn < w.heap.size) (hr : Row w sa n zs) (hn : n ≤ 10000) :
    Calls Tryz.prog 224 #[.func (.func 226) #[] #[.pointer (some ⟨Bn, 0, none⟩)]] w fun e w' => ∃ v, e = .returned v ∧ w'.ownsRow w.heap.size 3 1 v n (zs.map (Value.int .i64)) ∧ (v = .slice none 0 0 ↔ n = 0) ∧ Below w.heap.size w w' := by
  have HC := hide (appendSeq_any Bn sa n cap zs w hBox hBn hr hn)
  clear hBox hBn hr
  go_enter Tryz.func224, Tryz.ntmps224
  go_wp2_with (go_at_call 272; refine HC.out.mono ?_; rintro e w1 ⟨v, rfl, hv1, hv2, hv3⟩)
  go_ret
  exact ⟨v, rfl, hv1, hv2, hv3⟩

set_option maxHeartbeats 1000000 in
theorem Sorted_any (Bn : Nat) (sa : Option Addr) (n cap : Nat) (zs : List Int) (w : World) (hBox : w.cell? ⟨Bn, 0, none⟩ = some (.slice sa n cap)) (hBn : Bn < w.heap.size) (hr : Row w sa n zs) (hn : n ≤ 10000) :
    Calls Tryz.prog 146 #[.func (.func 226) #[] #[.pointer (some ⟨Bn, 0, none⟩)]] w fun e w' => ∃ a cp, e = .returned (.slice a n cp) ∧ Row w' a n (sortedI zs) ∧ Below w.heap.size w w' := by
  have HC := hide (Collect_any Bn sa n cap zs w hBox hBn hr hn)
  have HL := hide hr.len
  clear hBox hBn hr
  go_enter Tryz.func146, Tryz.ntmps146
  go_wp2_with (first | (go_at_call 224; refine HC.out.mono ?_; rintro e w1 ⟨v, rfl, hv1, hv2, hv3⟩; have H1 := hide hv1; have H2 : Hid (v = .slice none 0 0 ↔ n = 0) := hv2; have H3 := hide hv3; clear hv1 hv2 hv3) | (go_at_call 225; refine (Sort_own w.heap.size n v zs _ H1.out H2.out HL.out hn H3.out.size).mono ?_; rintro e w2 ⟨rfl, ho, hb⟩; have HO := hide ho; have HB := hide hb; clear ho hb))
  go_ret
  obtain ⟨a, cp, rfl, ho⟩ := Own.of_owns HO.out (by omega)
  exact ⟨a, cp, rfl, ho.row, H3.out.trans (HB.out)⟩

set_option maxHeartbeats 1000000 in
theorem isOrder_any (sa : Option Addr) (n cap : Nat) (zs : List Int) (w : World) (hr : Row w sa n zs) (hn : n ≤ 10000) (r : Bool) (hres : Hid (inTurn (sortedI zs) n = r)) :
    Calls Tryz.prog 58 #[.slice sa n cap] w fun e w' => e = .returned (.bool r) ∧ Below w.heap.size w w' := by
  have HS : Hid (Calls Tryz.prog 146 #[.func (.func 226) #[] #[.pointer (some ⟨w.heap.size, 0, none⟩)]] (w.alloc (.cells #[.slice sa n cap] 23)) fun e w' => ∃ a cp, e = .returned (.slice a n cp) ∧ Row w' a n (sortedI zs) ∧ Below (w.alloc (.cells #[.slice sa n cap] 23)).heap.size (w.alloc (.cells #[.slice sa n cap] 23)) w') := Sorted_any w.heap.size sa n cap zs _ (Boxed.new w _ _).cell (by simp) (hr.alloc _) hn
  clear hr
  go_enter Tryz.func58, Tryz.ntmps58
  go_wp2_with (first | (go_at_call 147; refine (Values_any _ _ _ _).mono ?_; rintro e w1 ⟨rfl, hw1⟩; subst hw1) | (go_at_call 146; refine HS.out.mono ?_; rintro e w2 ⟨a, cp, rfl, hro, hbl⟩; have HR := hide hro; have HB : Hid (Below w.heap.size w w2) := ((Below.refl _ w).alloc (Nat.le_refl _) _).trans (hbl.mono (by simp)); clear hro hbl))
  clear HS
  obtain ⟨ys, hys⟩ : ∃ ys, ys = sortedI zs := ⟨_, rfl⟩
  rw [← hys] at hres HR
  clear hys
  go_loopw [9] (fun i wr => ∃ k : Nat, k ≤ n ∧ i = .int .i64 (k : Nat) ∧ wr = w2 ∧ Hid (inTurn ys k = true)) (fun i _ => n - (intOf i).toNat)
  case atStart => exact ⟨0, Nat.zero_le _, rfl, rfl, rfl⟩
  case round =>
    obtain ⟨k, hk, rfl, hw, hin⟩ := hrel
    subst hw
    by_cases hlt : k < n
    · obtain ⟨b, off, rfl, hblt, hc⟩ := HR.out.get hlt
      obtain ⟨x, hx⟩ : ∃ x, x = ys.getD k 0 := ⟨_, rfl⟩
      rw [← hx] at hc
      by_cases he : x = (k : Int) + 1
      · have HN : Hid (inTurn ys (k + 1) = true) := by simp only [inTurn, Bool.and_eq_true, decide_eq_true_eq]; exact ⟨hin.out, by rw [← hx]; exact he⟩
        subst he
        clear hx
        go_wp2_with fail
        go_roundw
        case rel => exact ⟨k + 1, by omega, by go_num, by first | rfl | trivial, HN⟩
        case measure => simp [intOf]; omega
      · obtain rfl : r = false := by rw [← hres.out]; exact inTurn_not hlt (by rw [← hx]; exact he)
        have hq : (x != (k : Int) + 1) = true := by simp [he]
        clear hx he
        go_wp2_with fail
        go_ret
        exact ⟨rfl, HB.out⟩
    · have : k = n := by omega
      subst this
      obtain rfl : r = true := by rw [← hres.out]; exact hin.out
      go_wp2_with fail
      go_ret
      exact ⟨rfl, HB.out⟩

end Go.Proofs.YtgjpchnkodnieaaGreatDoor
namespace Go.Proofs.YtgjpchnkodnieaaGreatDoor

theorem prodAll_cons (x : Int) (l : List Int) : prodAll (x :: l) = x * prodAll l := by
  have e : x :: l = [x] ++ l := rfl
  rw [e, prodAll_append]
  simp [prodAll]

theorem prodAll_perm {l1 l2 : List Int} (h : l1.Perm l2) : prodAll l1 = prodAll l2 := by
  induction h with
  | nil => rfl
  | cons x _ ih => rw [prodAll_cons, prodAll_cons, ih]
  | swap x y l => rw [prodAll_cons, prodAll_cons, prodAll_cons, prodAll_cons, Int.mul_left_comm]
  | trans _ _ h1 h2 => exact h1.trans h2

/-- The product of the numbers that are not 0. -/
def big : List Int → Int
  | [] => 1
  | x :: r => if x = 0 then big r else x * big r

theorem big_pos {l : List Int} (h : l.all inCells = true) : 1 ≤ big l := by
  induction l with
  | nil => simp [big]
  | cons x r ih =>
    simp only [List.all_cons, Bool.and_eq_true] at h
    have hx : 0 ≤ x ∧ x ≤ 10000 := by simpa [inCells] using h.1
    have := ih h.2
    unfold big
    split
    · exact this
    · have h1 : 1 * 1 ≤ x * big r := Int.mul_le_mul (by omega) this (by omega) (by omega)
      omega

theorem big_perm {l1 l2 : List Int} (h : l1.Perm l2) : big l1 = big l2 := by
  induction h with
  | nil => rfl
  | cons x _ ih => simp only [big, ih]
  | swap x y l =>
    simp only [big]
    by_cases hx : x = 0
    · by_cases hy : y = 0
      · simp [hx, hy]
      · simp [hx, hy]
    · by_cases hy : y = 0
      · simp [hx, hy]
      · simp [hx, hy, Int.mul_left_comm]
  | trans _ _ h1 h2 => exact h1.trans h2

theorem prodFrom_big (l : List Int) (h : l.all inCells = true) (n : Int) (h1 : 1 ≤ n) (h2 : n ≤ 10000) : (∃ m, prodFrom l n = some m) ↔ n * big l ≤ 10000 := by
  induction l generalizing n with
  | nil => simp [prodFrom, big, h2]
  | cons x r ih =>
    simp only [List.all_cons, Bool.and_eq_true] at h
    have hx : 0 ≤ x ∧ x ≤ 10000 := by simpa [inCells] using h.1
    have hb := big_pos h.2
    simp only [prodFrom, big]
    by_cases h0 : x = 0
    · rw [if_pos h0, if_pos h0]; exact ih h.2 n h1 h2
    · rw [if_neg h0, if_neg h0, ← Int.mul_assoc]
      have hnx : 1 * 1 ≤ n * x := Int.mul_le_mul h1 (by omega) (by omega) (by omega)
      split
      · rename_i hbig
        constructor
        · rintro ⟨m, hm⟩; cases hm
        · intro hle
          have : n * x * 1 ≤ n * x * big r := Int.mul_le_mul_of_nonneg_left hb (by omega)
          omega
      · rename_i hbig
        exact ih h.2 (n * x) (by omega) (by omega)

theorem shapeIn_perm {l1 l2 : List Int} (h : l1.Perm l2) (hs : ShapeIn l1) : ShapeIn l2 := by
  have ha : l2.all inCells = true := by
    rw [List.all_eq_true]
    exact fun x hx => List.all_eq_true.1 hs.1 x (h.mem_iff.2 hx)
  have := (prodFrom_big l1 hs.1 1 (by omega) (by omega)).1 hs.2
  rw [big_perm h] at this
  exact ⟨ha, (prodFrom_big l2 ha 1 (by omega) (by omega)).2 this⟩

theorem order_perm {dt : List Int} {r : Nat} (h : orderOk dt r r = true) (hl : dt.length = r) : ((List.range r).map (axNo dt)).Perm (List.range r) := by
  have hat := inTurn_at (order_sorted h hl)
  have hsl : (sortedI dt).length = r := by rw [sortedI_len, hl]
  have e1 : (sortedI dt).map (fun x => (x - 1).toNat) = List.range r := by
    apply List.ext_getElem
    · simp [hsl]
    · intro i h1 h2
      have hi : i < r := by simpa using h2
      have := hat i hi
      rw [getD_eq _ i (by omega)] at this
      simp [this]
  have e2 : dt.map (fun x => (x - 1).toNat) = (List.range r).map (axNo dt) := by
    apply List.ext_getElem
    · simp [hl]
    · intro i h1 h2
      have hi : i < dt.length := by simpa using h1
      simp [axNo, hi]
  rw [← e2, ← e1]
  exact ((sortedI_perm dt).map _).symm

theorem turn_perm {dt sh : List Int} {r : Nat} (h : orderOk dt r r = true) (hl : dt.length = r) (hs : sh.length = r) : (turnN dt sh r r).Perm sh := by
  have e1 : sh = ((List.range r).map (axNo dt)).map (fun k => (turnN dt sh r r).getD k 0) := by
    apply List.ext_getElem
    · simp [hs]
    · intro i h1 h2
      have := (turned (sh := sh) h i (by omega)).1
      rw [getD_eq sh i h1] at this
      simp only [List.getElem_map, List.getElem_range]
      exact this.symm
  have e2 : turnN dt sh r r = (List.range r).map (fun k => (turnN dt sh r r).getD k 0) := by
    apply List.ext_getElem
    · simp [turnN_len]
    · intro i h1 h2
      rw [List.getElem_map, List.getElem_range, getD_eq _ i h1]
  have hp := ((order_perm h hl).map (fun k => (turnN dt sh r r).getD k 0)).symm
  rw [← e1, ← e2] at hp
  exact hp

/-- Which number of an index of the turned array is meant by an axis. -/
def transF (dt D : List Int) (i : Nat) : Int := D.getD (axNo dt i) 0

end Go.Proofs.YtgjpchnkodnieaaGreatDoor
namespace Go.Proofs.YtgjpchnkodnieaaGreatDoor

theorem inside_of {sh ix : List Int} (h : IxIn sh ix) (k : Nat) (hk : k ≤ sh.length) : insideN sh ix k = true := by
  induction k with
  | zero => rfl
  | succ k ih => exact inside_step (ih (by omega)) (h k (by omega)).1 (h k (by omega)).2

theorem getD_drop (l : List Int) (b m : Nat) : (l.drop b).getD m 0 = l.getD (b + m) 0 := by simp [List.getD]

theorem placeN_add (sh ix : List Int) (b m : Nat) (hm : b + m ≤ sh.length) : placeN sh ix (b + m) = placeN sh ix b * prodAll ((sh.drop b).take m) + placeN (sh.drop b) (ix.drop b) m := by
  induction m with
  | zero => simp [placeN, prodAll]
  | succ m ih =>
    show placeN sh ix (b + m) * sh.getD (b + m) 0 + ix.getD (b + m) 0 = _
    rw [ih (by omega), prodAll_snoc _ _ (by simp; omega)]
    show _ = placeN sh ix b * (prodAll ((sh.drop b).take m) * (sh.drop b).getD m 0) + (placeN (sh.drop b) (ix.drop b) m * (sh.drop b).getD m 0 + (ix.drop b).getD m 0)
    rw [getD_drop, getD_drop, Int.add_mul, Int.mul_assoc, Int.add_assoc]

theorem place_split (sh ix : List Int) (a : Nat) (ha : a < sh.length) : place sh ix = (placeN sh ix a * sh.getD a 0 + ix.getD a 0) * prodAll (sh.drop (a + 1)) + place (sh.drop (a + 1)) (ix.drop (a + 1)) := by
  have h := placeN_add sh ix (a + 1) (sh.length - (a + 1)) (by omega)
  rw [show a + 1 + (sh.length - (a + 1)) = sh.length by omega, List.take_of_length_le (by simp)] at h
  unfold place
  rw [h]
  simp [placeN]

theorem placeN_same {sh x y : List Int} (k : Nat) (h : ∀ i, i < k → x.getD i 0 = y.getD i 0) : placeN sh x k = placeN sh y k := by
  induction k with
  | zero => rfl
  | succ k ih => show placeN sh x k * _ + _ = placeN sh y k * _ + _; rw [ih (fun i hi => h i (by omega)), h k (by omega)]

theorem modOf_emod {n : Int} (hn : 0 < n) (b : Int) : modOf n b = b % n := by
  unfold modOf
  rw [if_neg (by omega)]
  have h1 := Int.tmod_lt_of_pos b hn
  have h2 : -n < b.tmod n := Int.lt_tmod_of_pos b hn
  have h3 := Int.mul_tdiv_add_tmod b n
  split
  · rename_i h
    have h4 : b.tmod n < 0 := by
      by_cases h4 : b.tmod n < 0
      · exact h4
      · exfalso; apply h.2; rw [decide_eq_false h4, decide_eq_false (by omega)]
    have := (Int.ediv_emod_unique (a := b) (r := b.tmod n + n) (q := b.tdiv n - 1) hn).2 ⟨by rw [Int.mul_sub, Int.mul_one]; omega, by omega, by omega⟩
    exact this.2.symm
  · rename_i h
    have h4 : ¬ b.tmod n < 0 := by
      intro h4
      apply h
      refine ⟨by omega, ?_⟩
      rw [decide_eq_true h4, decide_eq_false (by omega)]; simp
    have := (Int.ediv_emod_unique (a := b) (r := b.tmod n) (q := b.tdiv n) hn).2 ⟨by omega, by omega, by omega⟩
    exact this.2.symm

theorem wrap_emod {n : Int} (hn : 0 < n) (b : Int) : (b.tmod n + n).tmod n = b % n := by
  have h1 := Int.tmod_lt_of_pos b hn
  have h2 : -n < b.tmod n := Int.lt_tmod_of_pos b hn
  have h3 := Int.mul_tdiv_add_tmod b n
  rw [Int.tmod_eq_emod_of_nonneg (by omega)]
  by_cases h4 : b.tmod n < 0
  · rw [Int.emod_eq_of_lt (by omega) (by omega)]
    have := (Int.ediv_emod_unique (a := b) (r := b.tmod n + n) (q := b.tdiv n - 1) hn).2 ⟨by rw [Int.mul_sub, Int.mul_one]; omega, by omega, by omega⟩
    exact this.2.symm
  · rw [Int.add_emod_right, Int.emod_eq_of_lt (by omega) (by omega)]
    have := (Int.ediv_emod_unique (a := b) (r := b.tmod n) (q := b.tdiv n) hn).2 ⟨by omega, by omega, by omega⟩
    exact this.2.symm

/-- Which element along each axis is meant where axis a is turned by k. -/
def rotF (sh : List Int) (a : Int) (k : Int) (D : List Int) (i : Nat) : Int := if (i : Int) = a then (D.getD i 0 + k) % sh.getD i 0 else D.getD i 0

theorem rot_gather {d : Bool} {sh dt : List Int} {a : Nat} {k : Int} (hf : Full sh) (ha : a < sh.length) (t : Nat) (ht : (t : Int) < prodAll sh) (n A e : Nat) (hn : sh.getD a 0 = n) (hA : prodAll (sh.drop (a + 1)) = A) (he : modOf n k = e) :
    gatherAt d sh dt (rotF sh a k) sh t = rotAt n A e dt t := by
  have hn0 : (0 : Int) < n := by rw [← hn]; exact hf a ha
  have hD := digits_in hf (t : Int)
  have hpl := place_digits hf (p := (t : Int)) (by omega) ht
  have hDl := digits_len sh (t : Int)
  obtain ⟨D, hDD⟩ : ∃ D, digits sh (t : Int) = D := ⟨_, rfl⟩
  rw [hDD] at hD hpl hDl
  have hMg := meant_get sh (rotF sh a k) D
  have hMl := meant_len sh (rotF sh a k) D
  obtain ⟨M, hM⟩ : ∃ M, meant sh (rotF sh a k) D = M := ⟨_, rfl⟩
  rw [hM] at hMg hMl
  have hoth : ∀ i, i < sh.length → i ≠ a → M.getD i 0 = D.getD i 0 := fun i hi hne => by rw [hMg i hi]; unfold rotF; rw [if_neg (by omega)]
  have hat : M.getD a 0 = (D.getD a 0 + k) % n := by rw [hMg a ha]; unfold rotF; rw [if_pos rfl, hn]
  have hMin : IxIn sh M := fun i hi => by
    by_cases e : i = a
    · subst e; rw [hat, hn]; exact ⟨Int.emod_nonneg _ (by omega), Int.emod_lt_of_pos _ hn0⟩
    · rw [hoth i hi e]; exact hD i hi
  have hdrop : M.drop (a + 1) = D.drop (a + 1) := by
    apply List.ext_getElem
    · simp; omega
    · intro i h1 h2
      have hi : a + 1 + i < sh.length := by simp at h1; omega
      have := hoth (a + 1 + i) hi (by omega)
      simp only [List.getElem_drop]
      simpa [List.getD, show a + 1 + i < M.length by omega, show a + 1 + i < D.length by omega] using this
  have hsp := place_split sh M a ha
  have hsd := place_split sh D a ha
  rw [placeN_same a (fun i hi => hoth i (by omega) (by omega)), hat, hdrop, hn, hA] at hsp
  rw [hpl, hn, hA] at hsd
  have hrest : IxIn (sh.drop (a + 1)) (D.drop (a + 1)) := fun i hi => by
    rw [getD_drop, getD_drop]; exact hD _ (by simp at hi; omega)
  have hq := place_bd hrest
  rw [hA] at hq
  have hP := (placeN_bd hD a (by omega)).1
  have hi := hD a ha
  rw [hn] at hi
  obtain ⟨p, hp⟩ : ∃ p : Nat, placeN sh D a = p := ⟨(placeN sh D a).toNat, by omega⟩
  obtain ⟨i, hi'⟩ : ∃ i : Nat, D.getD a 0 = i := ⟨(D.getD a 0).toNat, by omega⟩
  obtain ⟨q, hq'⟩ : ∃ q : Nat, place (sh.drop (a + 1)) (D.drop (a + 1)) = q := ⟨(place (sh.drop (a + 1)) (D.drop (a + 1))).toNat, by omega⟩
  rw [hp, hi', hq'] at hsd hsp
  rw [hi'] at hi
  rw [hq'] at hq
  have he2 : ((i : Int) + k) % n = (((i + e) % n : Nat) : Int) := by
    rw [modOf_emod hn0] at he
    rw [Int.natCast_emod, Int.natCast_add, ← he, Int.add_emod_emod]
  rw [he2] at hsp
  have hts : t = (p * n + i) * A + q := by exact_mod_cast hsd
  have hfrom := rotFrom_at (n := n) (A := A) (d := e) (p := p) (i := i) (q := q) (by omega) (by omega)
  have hpm : place sh M = ((rotFrom n A e t : Nat) : Int) := by rw [hts, hfrom, hsp]; push_cast; rfl
  unfold gatherAt rotAt
  rw [hDD, hM, if_pos (inside_of hMin _ (Nat.le_refl _)), hpm]
  simp

theorem vals_same {f g : Nat → Int × Int} {n : Nat} (h : ∀ i, i < n → (f i).1 = (g i).1) : vals f n = vals g n := map_range_eq h

end Go.Proofs.YtgjpchnkodnieaaGreatDoor
namespace Go.Proofs.YtgjpchnkodnieaaGreatDoor

theorem trans_gather {d : Bool} {dt sh dt' : List Int} (h : orderOk dt sh.length sh.length = true) (hf : Full sh) (k : Nat) : gatherAt d sh dt' (transF dt) (turnN dt sh sh.length sh.length) k = transAt dt sh dt' k := by
  have hD := digits_in (turn_full h rfl hf) (k : Int)
  have hb := back_in h rfl hD
  have e : meant sh (transF dt) (digits (turnN dt sh sh.length sh.length) k) = backIx dt (digits (turnN dt sh sh.length sh.length) k) sh.length := rfl
  unfold gatherAt transAt
  rw [e, if_pos (inside_of hb _ (Nat.le_refl _))]

theorem trans_vals {d : Bool} {dt sh dt' : List Int} (h2 : arrOk d sh dt' = true) (h : orderOk dt sh.length sh.length = true) : vals (gatherAt d sh dt' (transF dt) (turnN dt sh sh.length sh.length)) dt'.length = vals (transAt dt sh dt') dt'.length := by
  obtain ⟨hin, hp, _⟩ := shapeIn_of h2
  by_cases h0 : dt'.length = 0
  · rw [h0]; rfl
  · exact map_range_eq fun k _ => by rw [trans_gather h (full_of hin (by rw [hp]; omega))]

end Go.Proofs.YtgjpchnkodnieaaGreatDoor
namespace Go.Proofs.YtgjpchnkodnieaaGreatDoor
open Go.RowKit

set_option maxRecDepth 20000 in
set_option maxHeartbeats 4000000 in
theorem inOrder_any (a b : Option Addr) (n c1 c2 : Nat) (l ps : List Int) (w : World) (h1 : Row w a n l) (h2 : Row w b n ps) (hn : n ≤ 5) (hord : orderOk ps n n = true) :
    Calls Tryz.prog 60 #[.slice a n c1, .slice b n c2] w fun e w' => ∃ g, e = .returned (.slice (some ⟨g, 0, none⟩) n n) ∧ w.heap.size ≤ g ∧ Blk w' g (turnN ps l n n) ∧ Below w.heap.size w w' := by
  have hl1 := hide h1.len
  have hl2 := hide h2.len
  have hmk := run_make_row' (P := Tryz.prog) 23 3 (.int .i64 0) 8 Tryz.underlying23 info_int rfl .i64 .i64 n (by omega) (by omega)
  obtain ⟨W, hW⟩ : ∃ W, w.alloc (.cells (madeCells #[.int .i64 0] n) 3) = W := ⟨_, rfl⟩
  obtain ⟨g, hg⟩ : ∃ g, w.heap.size = g := ⟨_, rfl⟩
  have HB : Hid (Below g w W) := by rw [← hW, ← hg]; exact (Below.refl _ _).alloc (Nat.le_refl _) _
  have HK0 : Hid (Blk W g (turnN ps l n 0)) := by rw [← hW]; exact Blk.made w n g hg.symm
  have HA : Hid (Row W a n l) := by rw [← hW]; exact h1.alloc _
  have HP : Hid (Row W b n ps) := by rw [← hW]; exact h2.alloc _
  have HA1 : Hid (∀ k, At a n k → k ≠ g) := fun k hk => by rw [← hg]; have := h1.hi hk; omega
  have HP1 : Hid (∀ k, At b n k → k ≠ g) := fun k hk => by rw [← hg]; have := h2.hi hk; omega
  have HWE := hide hW
  have HGE := hide hg
  have HO := hide hord
  clear h1 h2 hW hg hord
  go_enter Tryz.func60, Tryz.ntmps60
  go_upto_region 2 with fail
  rw [unhide HWE, unhide HGE]
  clear HWE hmk
  go_wp2_with fail
  go_loopw [13] (fun i wr => ∃ k : Nat, k ≤ n ∧ i = .int .i64 k ∧ Hid (Blk wr g (turnN ps l n k)) ∧ Hid (But (fun x => x = g) W wr)) (fun i _ => n - (intOf i).toNat)
  case atStart => exact ⟨0, Nat.zero_le _, rfl, HK0, hide (But.refl _ _)⟩
  case round =>
    obtain ⟨k, hk, rfl, hb, hbut⟩ := hrel
    by_cases hlt : k < n
    · obtain ⟨b1, o1, rfl, hb1, hc1⟩ := ((unhide hbut).row (unhide HA) (by rintro x rfl h; exact unhide HA1 _ h rfl)).get hlt
      obtain ⟨b2, o2, rfl, hb2, hc2⟩ := ((unhide hbut).row (unhide HP) (by rintro x rfl h; exact unhide HP1 _ h rfl)).get hlt
      have hso := order_step (unhide HO) hlt
      have hax := stepOk_lt hso
      have hrg := order_range (unhide HO) k hlt
      obtain ⟨x, hx⟩ : ∃ x, l.getD k 0 = x := ⟨_, rfl⟩
      obtain ⟨y, hy⟩ : ∃ y, ps.getD k 0 = y := ⟨_, rfl⟩
      obtain ⟨j, hj⟩ : ∃ j, axNo ps k = j := ⟨_, rfl⟩
      have hyj : y = (j : Int) + 1 := by rw [← hj]; unfold axNo; rw [hy]; rw [hy] at hrg; omega
      rw [hj] at hax
      rw [hx] at hc1
      rw [hy, hyj] at hc2
      have HN := hide ((unhide hb).set j x)
      have HE : Hid ((turnN ps l n k).set j x = turnN ps l n (k + 1)) := by show _ = (turnN ps l n k).set (axNo ps k) (l.getD k 0); rw [hj, hx]
      rw [unhide HE] at HN
      have hcj := (unhide hb).cell (i := j) (by rw [turnN_len]; exact hax)
      have hfj := (unhide hb).free j
      have hgl := (unhide hb).lt
      have hw1 : IntKind.i64.wrap ((j : Int) + 1 - 1) = (j : Int) := by rw [IntKind.wrap_i64]; omega
      have hji : (j : Int) < n := by omega
      have hj0 : (0 : Int) ≤ j := by omega
      have hjn : ((j : Int) + 1 - 1) = (j : Int) := by omega
      clear hx hy hj hyj hso hrg hax HE
      go_wp2_with fail
      go_roundw
      case rel => exact ⟨k + 1, by omega, by go_num, HN, hide ((unhide hbut).setCell (p := ⟨g, j, none⟩) rfl _)⟩
      case measure => (simp [intOf] <;> omega)
    · obtain rfl : k = n := by omega
      have KB := hide ((unhide HB).trans ((unhide hbut).below (B := g) (by have := (unhide HK0).lt; omega) (fun k hk => by omega)))
      go_wp2_with fail
      go_ret
      exact ⟨g, rfl, by rw [unhide HGE]; exact Nat.le_refl _, unhide hb, by rw [unhide HGE]; exact unhide KB⟩

end Go.Proofs.YtgjpchnkodnieaaGreatDoor
namespace Go.Proofs.YtgjpchnkodnieaaGreatDoor
open Go.RowKit

set_option maxHeartbeats 1000000 in
theorem elementsOk_any (c : Bool) (a1 a2 : Option Addr) (n1 n2 c1 c2 : Nat) (dt : List Int) (w : World) (h2 : Row w a2 n2 dt) :
    Calls Tryz.prog 136 #[.agg #[.bool c, .slice a1 n1 c1, .slice a2 n2 c2]] w fun e w' => e = .returned (.bool (dt.all (dataOk c))) ∧ Below w.heap.size w w' := by
  have hl2 := hide h2.len
  have hs2 := h2.small
  have H2 := hide h2
  clear h2
  have hW : ∀ o, Below w.heap.size w (w.alloc o) := fun o => (Below.refl _ _).alloc (Nat.le_refl _) _
  cases c with
  | true =>
    go_enter Tryz.func136, Tryz.ntmps136
    go_wp2
    go_loop [5, 11] (fun _ i => ∃ k : Nat, k ≤ n2 ∧ i = .int .i64 k ∧ Hid ((dt.take k).all (dataOk true) = true)) (fun _ i => n2 - (intOf i).toNat)
    case atStart => exact ⟨0, Nat.zero_le _, rfl, rfl⟩
    case round =>
      obtain ⟨k, hk, rfl, hall⟩ := hrel
      by_cases hlt : k < n2
      · obtain ⟨b, off, rfl, hblt, hc⟩ := (unhide H2).get hlt
        have hks : Hid (k < dt.length) := by show k < dt.length; rw [unhide hl2]; exact hlt
        obtain ⟨x, hx⟩ : ∃ x, x = dt.getD k 0 := ⟨_, rfl⟩
        rw [← hx] at hc
        have HX := hide hx
        clear hx
        cases hr : dataOk true x with
        | true =>
          have HA := hide (all_step dt (dataOk true) k (unhide hks) (unhide hall) (by rw [← unhide HX, hr]))
          have HR := hide hr
          clear hr
          go_wp2_with (go_at_call 216; refine (isCharacter_any _ _).mono ?_; rintro e w' ⟨rfl, rfl⟩; rw [unhide HR])
          go_round
          case rel => exact ⟨k + 1, by omega, by go_num, HA⟩
          case measure => simp [intOf]; omega
        | false =>
          have HE := hide (all_not dt (dataOk true) k (unhide hks) (by rw [← unhide HX, hr]))
          have HR := hide hr
          clear hr
          go_wp2_with (go_at_call 216; refine (isCharacter_any _ _).mono ?_; rintro e w' ⟨rfl, rfl⟩; rw [unhide HR])
          go_ret
          exact ⟨ret_bool HE.out.symm, hW _⟩
      · have HA : Hid (dt.all (dataOk true) = true) := by
          have := unhide hall
          rwa [List.take_of_length_le (by rw [unhide hl2]; omega)] at this
        go_wp2
        go_ret
        exact ⟨ret_bool HA.out.symm, hW _⟩
  | false =>
    go_enter Tryz.func136, Tryz.ntmps136
    go_wp2
    go_loop [5, 11] (fun _ i => ∃ k : Nat, k ≤ n2 ∧ i = .int .i64 k ∧ Hid ((dt.take k).all (dataOk false) = true)) (fun _ i => n2 - (intOf i).toNat)
    case atStart => exact ⟨0, Nat.zero_le _, rfl, rfl⟩
    case round =>
      obtain ⟨k, hk, rfl, hall⟩ := hrel
      by_cases hlt : k < n2
      · obtain ⟨b, off, rfl, hblt, hc⟩ := (unhide H2).get hlt
        have hks : Hid (k < dt.length) := by show k < dt.length; rw [unhide hl2]; exact hlt
        obtain ⟨x, hx⟩ : ∃ x, x = dt.getD k 0 := ⟨_, rfl⟩
        rw [← hx] at hc
        have HX := hide hx
        clear hx
        cases hr : dataOk false x with
        | true =>
          have HA := hide (all_step dt (dataOk false) k (unhide hks) (unhide hall) (by rw [← unhide HX, hr]))
          have HR := hide hr
          clear hr
          go_wp2_with (go_at_call 215; refine (isNumber_any _ _).mono ?_; rintro e w' ⟨rfl, rfl⟩; rw [unhide HR])
          go_round
          case rel => exact ⟨k + 1, by omega, by go_num, HA⟩
          case measure => simp [intOf]; omega
        | false =>
          have HE := hide (all_not dt (dataOk false) k (unhide hks) (by rw [← unhide HX, hr]))
          have HR := hide hr
          clear hr
          go_wp2_with (go_at_call 215; refine (isNumber_any _ _).mono ?_; rintro e w' ⟨rfl, rfl⟩; rw [unhide HR])
          go_ret
          exact ⟨ret_bool HE.out.symm, hW _⟩
      · have HA : Hid (dt.all (dataOk false) = true) := by
          have := unhide hall
          rwa [List.take_of_length_le (by rw [unhide hl2]; omega)] at this
        go_wp2
        go_ret
        exact ⟨ret_bool HA.out.symm, hW _⟩

theorem elementsOk_eq (c : Bool) (a1 a2 : Option Addr) (n1 n2 c1 c2 : Nat) (dt : List Int) (w : World) (h2 : Row w a2 n2 dt) (r : Bool) (hr : Hid (dt.all (dataOk c) = r)) :
    Calls Tryz.prog 136 #[.agg #[.bool c, .slice a1 n1 c1, .slice a2 n2 c2]] w fun e w' => e = .returned (.bool r) ∧ Below w.heap.size w w' := by
  rw [← hr.out]; exact elementsOk_any c a1 a2 n1 n2 c1 c2 dt w h2

theorem arr_shape {c : Bool} {sh dt : List Int} (h : shapeB sh = false) : arrOk c sh dt = false := by
  unfold arrOk; unfold shapeB at h
  by_cases h1 : sh.length ≤ 5
  · rw [decide_eq_true h1] at h
    have h2 : ¬ 0 ≤ countOf sh := by simpa using h
    rw [decide_eq_false (p := countOf sh = _) (by omega)]; simp
  · rw [decide_eq_false h1]; rfl

set_option maxHeartbeats 1000000 in
theorem implArrayOk_any (c : Bool) (a1 a2 : Option Addr) (n1 n2 c1 c2 : Nat) (sh dt : List Int) (w : World) (h1 : Row w a1 n1 sh) (h2 : Row w a2 n2 dt) :
    Calls Tryz.prog 51 #[.agg #[.bool c, .slice a1 n1 c1, .slice a2 n2 c2]] w fun e w' => e = .returned (.bool (arrOk c sh dt)) ∧ Below w.heap.size w w' := by
  have hl1 := hide h1.len
  have hl2 := hide h2.len
  have hs1 := h1.small
  have hs2 := h2.small
  have H1 := hide h1
  have H2 := hide h2
  clear h1 h2
  have hW : ∀ o, Below w.heap.size w (w.alloc o) := fun o => (Below.refl _ _).alloc (Nat.le_refl _) _
  cases hsb : shapeB sh with
  | false =>
    have HS := hide hsb
    have HE := hide (arr_shape (c := c) (dt := dt) hsb)
    clear hsb
    go_enter Tryz.func51, Tryz.ntmps51
    go_wp2
    go_quiet ((go_at_call 114; exact Calls.quiet_of_same (shapeOk_eq _ _ _ sh _ (((unhide H1).alloc _).drewN _) false HS)))
    go_wp2
    go_ret
    exact ⟨ret_bool HE.out.symm, Below.drewN (hW _) _⟩
  | true =>
    have HS := hide hsb
    clear hsb
    obtain ⟨cn, hcn⟩ : ∃ cn, countOf sh = cn := ⟨_, rfl⟩
    have HC := hide hcn
    clear hcn
    by_cases hcn : cn = n2
    · have hb : ((n2 : Int) == cn) = true := by simp [hcn]
      have HCN := hide hcn
      clear hcn
      obtain ⟨r, hr⟩ : ∃ r, dt.all (dataOk c) = r := ⟨_, rfl⟩
      have HR := hide hr
      clear hr
      have HE : Hid (arrOk c sh dt = r) := by
        show _ = _
        have h5 := unhide HS
        unfold shapeB at h5
        simp only [Bool.and_eq_true, decide_eq_true_eq] at h5
        unfold arrOk
        rw [unhide HR, decide_eq_true h5.1, decide_eq_true (by rw [unhide HC, unhide HCN, unhide hl2])]; rfl
      go_enter Tryz.func51, Tryz.ntmps51
      go_wp2_with fail
      go_cut [2] (fun r' wr => r' = .bool r ∧ Below w.heap.size w wr)
      case first =>
        go_region_with (first
          | (go_at_call 114; refine (shapeOk_eq _ _ _ sh _ (by first | exact ((unhide H1).alloc _).drew | exact (((unhide H1).alloc _).drewN _)) true HS).mono ?_; rintro e w' ⟨rfl, rfl⟩)
          | (go_at_call 116; refine (cellsOf_count _ _ _ sh _ (by first | exact ((unhide H1).alloc _).drew | exact (((unhide H1).alloc _).drewN _)) (unhide HS) cn HC).mono ?_; rintro e w' ⟨rfl, rfl⟩)
          | (go_at_call 136; refine (elementsOk_eq _ _ _ _ _ _ _ dt _ (by first | exact ((unhide H2).alloc _).drew | exact (((unhide H2).alloc _).drewN _)) r HR).mono ?_; rintro e w' ⟨rfl, hbe⟩))
        all_goals go_wp2_with fail
        all_goals (go_meet; case rel => exact ⟨rfl, (hW _).drew.trans (hbe.mono (by simp))⟩)
      case rest =>
        obtain ⟨rfl, hbc⟩ := hcut
        go_wp2
        go_ret
        exact ⟨ret_bool HE.out.symm, hbc⟩
    · have hb : ((n2 : Int) == cn) = false := by simp; omega
      have HE := hide (arr_count (c := c) (sh := sh) (unhide hl2) (by rw [unhide HC]; exact hcn))
      clear hcn
      go_enter Tryz.func51, Tryz.ntmps51
      go_wp2
      go_quiet (first | (go_at_call 114; exact Calls.quiet_of_same (shapeOk_eq _ _ _ sh _ (((unhide H1).alloc _).drewN _) true HS)) | (go_at_call 116; exact Calls.quiet_of_same (cellsOf_count _ _ _ sh _ (((unhide H1).alloc _).drewN _) (unhide HS) cn HC)))
      go_wp2
      go_ret
      exact ⟨ret_bool HE.out.symm, Below.drewN (hW _) _⟩

theorem implArrayOk_eq (c : Bool) (a1 a2 : Option Addr) (n1 n2 c1 c2 : Nat) (sh dt : List Int) (w : World) (h1 : Row w a1 n1 sh) (h2 : Row w a2 n2 dt) (r : Bool) (hr : Hid (arrOk c sh dt = r)) :
    Calls Tryz.prog 51 #[.agg #[.bool c, .slice a1 n1 c1, .slice a2 n2 c2]] w fun e w' => e = .returned (.bool r) ∧ Below w.heap.size w w' := by
  rw [← hr.out]; exact implArrayOk_any c a1 a2 n1 n2 c1 c2 sh dt w h1 h2

end Go.Proofs.YtgjpchnkodnieaaGreatDoor
namespace Go.Proofs.YtgjpchnkodnieaaGreatDoor
open Go.RowKit

set_option maxRecDepth 20000 in
set_option maxHeartbeats 4000000 in
theorem listCode_bad1 (c d : Bool) (a1 a2 b1 b2 : Option Addr) (n1 n2 m1 m2 c1 c2 d1 d2 : Nat) (sh dt sh' dt' : List Int) (w : World) (h1 : Row w a1 n1 sh) (h2 : Row w a2 n2 dt) (k1 : Row w b1 m1 sh') (k2 : Row w b2 m2 dt') (hok : arrOk c sh dt = false) :
    Calls Tryz.prog 57 #[.agg #[.bool c, .slice a1 n1 c1, .slice a2 n2 c2], .agg #[.bool d, .slice b1 m1 d1, .slice b2 m2 d2]] w fun e w' => e = .returned (.int .i64 3) ∧ Below w.heap.size w w' := by
  obtain ⟨W0, hW0⟩ : ∃ W0, W0 = (w.alloc (.cells #[.bool c, .slice a1 n1 c1, .slice a2 n2 c2] 25)).alloc (.cells #[.bool d, .slice b1 m1 d1, .slice b2 m2 d2] 25) := ⟨_, rfl⟩
  have hz0 : W0.heap.size = w.heap.size + 2 := by rw [hW0]; simp
  have HB0 : Hid (Below w.heap.size w W0) := by rw [hW0]; exact ((Below.refl _ w).alloc (Nat.le_refl _) _).alloc (by simp) _
  have HX0 : Hid (Box W0 w.heap.size c (.slice a1 n1 c1) (.slice a2 n2 c2)) := by rw [hW0]; exact (Box.new w _ _ _).alloc _
  have HX1 : Hid (Box W0 (w.heap.size + 1) d (.slice b1 m1 d1) (.slice b2 m2 d2)) := by
    rw [hW0]
    show Box _ _ _ _ _
    have := Box.new (w.alloc (.cells #[.bool c, .slice a1 n1 c1, .slice a2 n2 c2] 25)) d (.slice b1 m1 d1) (.slice b2 m2 d2)
    simpa using this
  have H1 := hide (h1.below (Nat.le_refl _) HB0.out)
  have H2 := hide (h2.below (Nat.le_refl _) HB0.out)
  have K1 := hide (k1.below (Nat.le_refl _) HB0.out)
  have K2 := hide (k2.below (Nat.le_refl _) HB0.out)
  have hs1 := h1.small
  have HW0 := hide hW0
  have HR := hide hok
  clear h1 h2 k1 k2 hok hW0
  go_enter Tryz.func57, Tryz.ntmps57
  go_wp2_with (first | (go_at_call_of 51 (Value.slice a1 n1 c1); rw [← HW0.out]; refine (implArrayOk_eq _ _ _ _ _ _ _ sh dt _ H1.out H2.out _ HR).mono ?_; rintro e w1 ⟨rfl, hb1⟩; have HE1 := hide hb1; clear hb1; obtain ⟨x0, x1, x2, _, _, _⟩ := (HX0.out.below (Nat.le_refl _) HE1.out).all; obtain ⟨y0, y1, y2, _, _, _⟩ := (HX1.out.below (Nat.le_refl _) HE1.out).all; have hp1 : w.heap.size + 1 < w1.heap.size := (by have := HE1.out.size; omega)))
  go_ret
  exact ⟨rfl, HB0.out.trans (HE1.out.mono (by omega))⟩

set_option maxRecDepth 20000 in
set_option maxHeartbeats 4000000 in
theorem listCode_bad2 (c d : Bool) (a1 a2 b1 b2 : Option Addr) (n1 n2 m1 m2 c1 c2 d1 d2 : Nat) (sh dt sh' dt' : List Int) (w : World) (h1 : Row w a1 n1 sh) (h2 : Row w a2 n2 dt) (k1 : Row w b1 m1 sh') (k2 : Row w b2 m2 dt') (hok : arrOk c sh dt = true) (hok' : arrOk d sh' dt' = false) :
    Calls Tryz.prog 57 #[.agg #[.bool c, .slice a1 n1 c1, .slice a2 n2 c2], .agg #[.bool d, .slice b1 m1 d1, .slice b2 m2 d2]] w fun e w' => e = .returned (.int .i64 3) ∧ Below w.heap.size w w' := by
  obtain ⟨W0, hW0⟩ : ∃ W0, W0 = (w.alloc (.cells #[.bool c, .slice a1 n1 c1, .slice a2 n2 c2] 25)).alloc (.cells #[.bool d, .slice b1 m1 d1, .slice b2 m2 d2] 25) := ⟨_, rfl⟩
  have hz0 : W0.heap.size = w.heap.size + 2 := by rw [hW0]; simp
  have HB0 : Hid (Below w.heap.size w W0) := by rw [hW0]; exact ((Below.refl _ w).alloc (Nat.le_refl _) _).alloc (by simp) _
  have HX0 : Hid (Box W0 w.heap.size c (.slice a1 n1 c1) (.slice a2 n2 c2)) := by rw [hW0]; exact (Box.new w _ _ _).alloc _
  have HX1 : Hid (Box W0 (w.heap.size + 1) d (.slice b1 m1 d1) (.slice b2 m2 d2)) := by
    rw [hW0]
    show Box _ _ _ _ _
    have := Box.new (w.alloc (.cells #[.bool c, .slice a1 n1 c1, .slice a2 n2 c2] 25)) d (.slice b1 m1 d1) (.slice b2 m2 d2)
    simpa using this
  have H1 := hide (h1.below (Nat.le_refl _) HB0.out)
  have H2 := hide (h2.below (Nat.le_refl _) HB0.out)
  have K1 := hide (k1.below (Nat.le_refl _) HB0.out)
  have K2 := hide (k2.below (Nat.le_refl _) HB0.out)
  have hs1 := h1.small
  have HW0 := hide hW0
  have HR := hide hok
  have HR' := hide hok'
  clear hok'
  clear h1 h2 k1 k2 hok hW0
  go_enter Tryz.func57, Tryz.ntmps57
  go_wp2_with (first | (go_at_call_of 51 (Value.slice a1 n1 c1); rw [← HW0.out]; refine (implArrayOk_eq _ _ _ _ _ _ _ sh dt _ H1.out H2.out _ HR).mono ?_; rintro e w1 ⟨rfl, hb1⟩; have HE1 := hide hb1; clear hb1; obtain ⟨x0, x1, x2, _, _, _⟩ := (HX0.out.below (Nat.le_refl _) HE1.out).all; obtain ⟨y0, y1, y2, _, _, _⟩ := (HX1.out.below (Nat.le_refl _) HE1.out).all; have hp1 : w.heap.size + 1 < w1.heap.size := (by have := HE1.out.size; omega)) | (go_at_call 51; refine (implArrayOk_eq _ _ _ _ _ _ _ sh' dt' _ (K1.out.below (Nat.le_refl _) HE1.out) (K2.out.below (Nat.le_refl _) HE1.out) _ HR').mono ?_; rintro e w2 ⟨rfl, hb2⟩; have HE2 := hide (HE1.out.trans (hb2.mono HE1.out.size)); clear hb2 x0 x1 x2 y0 y1 y2; obtain ⟨x0, x1, x2, _, _, _⟩ := (HX0.out.below (Nat.le_refl _) HE2.out).all; have hp2 : w.heap.size + 1 < w2.heap.size := (by have := HE2.out.size; omega)))
  go_ret
  exact ⟨rfl, HB0.out.trans (HE2.out.mono (by omega))⟩

set_option maxRecDepth 20000 in
set_option maxHeartbeats 4000000 in
theorem listCode_long (c d : Bool) (a1 a2 b1 b2 : Option Addr) (n1 n2 m1 m2 c1 c2 d1 d2 : Nat) (sh dt sh' dt' : List Int) (w : World) (h1 : Row w a1 n1 sh) (h2 : Row w a2 n2 dt) (k1 : Row w b1 m1 sh') (k2 : Row w b2 m2 dt') (hok : arrOk c sh dt = true) (hok' : arrOk d sh' dt' = true) (hn : 1 < n1) :
    Calls Tryz.prog 57 #[.agg #[.bool c, .slice a1 n1 c1, .slice a2 n2 c2], .agg #[.bool d, .slice b1 m1 d1, .slice b2 m2 d2]] w fun e w' => e = .returned (.int .i64 4) ∧ Below w.heap.size w w' := by
  obtain ⟨W0, hW0⟩ : ∃ W0, W0 = (w.alloc (.cells #[.bool c, .slice a1 n1 c1, .slice a2 n2 c2] 25)).alloc (.cells #[.bool d, .slice b1 m1 d1, .slice b2 m2 d2] 25) := ⟨_, rfl⟩
  have hz0 : W0.heap.size = w.heap.size + 2 := by rw [hW0]; simp
  have HB0 : Hid (Below w.heap.size w W0) := by rw [hW0]; exact ((Below.refl _ w).alloc (Nat.le_refl _) _).alloc (by simp) _
  have HX0 : Hid (Box W0 w.heap.size c (.slice a1 n1 c1) (.slice a2 n2 c2)) := by rw [hW0]; exact (Box.new w _ _ _).alloc _
  have HX1 : Hid (Box W0 (w.heap.size + 1) d (.slice b1 m1 d1) (.slice b2 m2 d2)) := by
    rw [hW0]
    show Box _ _ _ _ _
    have := Box.new (w.alloc (.cells #[.bool c, .slice a1 n1 c1, .slice a2 n2 c2] 25)) d (.slice b1 m1 d1) (.slice b2 m2 d2)
    simpa using this
  have H1 := hide (h1.below (Nat.le_refl _) HB0.out)
  have H2 := hide (h2.below (Nat.le_refl _) HB0.out)
  have K1 := hide (k1.below (Nat.le_refl _) HB0.out)
  have K2 := hide (k2.below (Nat.le_refl _) HB0.out)
  have hs1 := h1.small
  have HW0 := hide hW0
  have HR := hide hok
  have HR' := hide hok'
  clear hok'
  clear h1 h2 k1 k2 hok hW0
  go_enter Tryz.func57, Tryz.ntmps57
  go_wp2_with (first | (go_at_call_of 51 (Value.slice a1 n1 c1); rw [← HW0.out]; refine (implArrayOk_eq _ _ _ _ _ _ _ sh dt _ H1.out H2.out _ HR).mono ?_; rintro e w1 ⟨rfl, hb1⟩; have HE1 := hide hb1; clear hb1; obtain ⟨x0, x1, x2, _, _, _⟩ := (HX0.out.below (Nat.le_refl _) HE1.out).all; obtain ⟨y0, y1, y2, _, _, _⟩ := (HX1.out.below (Nat.le_refl _) HE1.out).all; have hp1 : w.heap.size + 1 < w1.heap.size := (by have := HE1.out.size; omega)) | (go_at_call 51; refine (implArrayOk_eq _ _ _ _ _ _ _ sh' dt' _ (K1.out.below (Nat.le_refl _) HE1.out) (K2.out.below (Nat.le_refl _) HE1.out) _ HR').mono ?_; rintro e w2 ⟨rfl, hb2⟩; have HE2 := hide (HE1.out.trans (hb2.mono HE1.out.size)); clear hb2 x0 x1 x2 y0 y1 y2; obtain ⟨x0, x1, x2, _, _, _⟩ := (HX0.out.below (Nat.le_refl _) HE2.out).all; have hp2 : w.heap.size + 1 < w2.heap.size := (by have := HE2.out.size; omega)))
  go_ret
  exact ⟨rfl, HB0.out.trans (HE2.out.mono (by omega))⟩

set_option maxRecDepth 20000 in
set_option maxHeartbeats 4000000 in
theorem listCode_rest (c d : Bool) (a1 a2 b1 b2 : Option Addr) (n1 n2 m1 m2 c1 c2 d1 d2 : Nat) (sh dt sh' dt' : List Int) (w : World) (h1 : Row w a1 n1 sh) (h2 : Row w a2 n2 dt) (k1 : Row w b1 m1 sh') (k2 : Row w b2 m2 dt') (hok : arrOk c sh dt = true) (hok' : arrOk d sh' dt' = true) (hn : ¬ 1 < n1) :
    Calls Tryz.prog 57 #[.agg #[.bool c, .slice a1 n1 c1, .slice a2 n2 c2], .agg #[.bool d, .slice b1 m1 d1, .slice b2 m2 d2]] w fun e w' => e = .returned (.int .i64 (if c then 3 else 0)) ∧ Below w.heap.size w w' := by
  cases c with
  | false =>
    obtain ⟨W0, hW0⟩ : ∃ W0, W0 = (w.alloc (.cells #[.bool false, .slice a1 n1 c1, .slice a2 n2 c2] 25)).alloc (.cells #[.bool d, .slice b1 m1 d1, .slice b2 m2 d2] 25) := ⟨_, rfl⟩
    have hz0 : W0.heap.size = w.heap.size + 2 := by rw [hW0]; simp
    have HB0 : Hid (Below w.heap.size w W0) := by rw [hW0]; exact ((Below.refl _ w).alloc (Nat.le_refl _) _).alloc (by simp) _
    have HX0 : Hid (Box W0 w.heap.size false (.slice a1 n1 c1) (.slice a2 n2 c2)) := by rw [hW0]; exact (Box.new w _ _ _).alloc _
    have HX1 : Hid (Box W0 (w.heap.size + 1) d (.slice b1 m1 d1) (.slice b2 m2 d2)) := by
      rw [hW0]
      show Box _ _ _ _ _
      have := Box.new (w.alloc (.cells #[.bool false, .slice a1 n1 c1, .slice a2 n2 c2] 25)) d (.slice b1 m1 d1) (.slice b2 m2 d2)
      simpa using this
    have H1 := hide (h1.below (Nat.le_refl _) HB0.out)
    have H2 := hide (h2.below (Nat.le_refl _) HB0.out)
    have K1 := hide (k1.below (Nat.le_refl _) HB0.out)
    have K2 := hide (k2.below (Nat.le_refl _) HB0.out)
    have hs1 := h1.small
    have HW0 := hide hW0
    have HR := hide hok
    have HR' := hide hok'
    clear hok'
    clear h1 h2 k1 k2 hok hW0
    go_enter Tryz.func57, Tryz.ntmps57
    go_wp2_with (first | (go_at_call_of 51 (Value.slice a1 n1 c1); rw [← HW0.out]; refine (implArrayOk_eq _ _ _ _ _ _ _ sh dt _ H1.out H2.out _ HR).mono ?_; rintro e w1 ⟨rfl, hb1⟩; have HE1 := hide hb1; clear hb1; obtain ⟨x0, x1, x2, _, _, _⟩ := (HX0.out.below (Nat.le_refl _) HE1.out).all; obtain ⟨y0, y1, y2, _, _, _⟩ := (HX1.out.below (Nat.le_refl _) HE1.out).all; have hp1 : w.heap.size + 1 < w1.heap.size := (by have := HE1.out.size; omega)) | (go_at_call 51; refine (implArrayOk_eq _ _ _ _ _ _ _ sh' dt' _ (K1.out.below (Nat.le_refl _) HE1.out) (K2.out.below (Nat.le_refl _) HE1.out) _ HR').mono ?_; rintro e w2 ⟨rfl, hb2⟩; have HE2 := hide (HE1.out.trans (hb2.mono HE1.out.size)); clear hb2 x0 x1 x2 y0 y1 y2; obtain ⟨x0, x1, x2, _, _, _⟩ := (HX0.out.below (Nat.le_refl _) HE2.out).all; have hp2 : w.heap.size + 1 < w2.heap.size := (by have := HE2.out.size; omega)))
    go_ret
    exact ⟨rfl, HB0.out.trans (HE2.out.mono (by omega))⟩
  | true =>
    obtain ⟨W0, hW0⟩ : ∃ W0, W0 = (w.alloc (.cells #[.bool true, .slice a1 n1 c1, .slice a2 n2 c2] 25)).alloc (.cells #[.bool d, .slice b1 m1 d1, .slice b2 m2 d2] 25) := ⟨_, rfl⟩
    have hz0 : W0.heap.size = w.heap.size + 2 := by rw [hW0]; simp
    have HB0 : Hid (Below w.heap.size w W0) := by rw [hW0]; exact ((Below.refl _ w).alloc (Nat.le_refl _) _).alloc (by simp) _
    have HX0 : Hid (Box W0 w.heap.size true (.slice a1 n1 c1) (.slice a2 n2 c2)) := by rw [hW0]; exact (Box.new w _ _ _).alloc _
    have HX1 : Hid (Box W0 (w.heap.size + 1) d (.slice b1 m1 d1) (.slice b2 m2 d2)) := by
      rw [hW0]
      show Box _ _ _ _ _
      have := Box.new (w.alloc (.cells #[.bool true, .slice a1 n1 c1, .slice a2 n2 c2] 25)) d (.slice b1 m1 d1) (.slice b2 m2 d2)
      simpa using this
    have H1 := hide (h1.below (Nat.le_refl _) HB0.out)
    have H2 := hide (h2.below (Nat.le_refl _) HB0.out)
    have K1 := hide (k1.below (Nat.le_refl _) HB0.out)
    have K2 := hide (k2.below (Nat.le_refl _) HB0.out)
    have hs1 := h1.small
    have HW0 := hide hW0
    have HR := hide hok
    have HR' := hide hok'
    clear hok'
    clear h1 h2 k1 k2 hok hW0
    go_enter Tryz.func57, Tryz.ntmps57
    go_wp2_with (first | (go_at_call_of 51 (Value.slice a1 n1 c1); rw [← HW0.out]; refine (implArrayOk_eq _ _ _ _ _ _ _ sh dt _ H1.out H2.out _ HR).mono ?_; rintro e w1 ⟨rfl, hb1⟩; have HE1 := hide hb1; clear hb1; obtain ⟨x0, x1, x2, _, _, _⟩ := (HX0.out.below (Nat.le_refl _) HE1.out).all; obtain ⟨y0, y1, y2, _, _, _⟩ := (HX1.out.below (Nat.le_refl _) HE1.out).all; have hp1 : w.heap.size + 1 < w1.heap.size := (by have := HE1.out.size; omega)) | (go_at_call 51; refine (implArrayOk_eq _ _ _ _ _ _ _ sh' dt' _ (K1.out.below (Nat.le_refl _) HE1.out) (K2.out.below (Nat.le_refl _) HE1.out) _ HR').mono ?_; rintro e w2 ⟨rfl, hb2⟩; have HE2 := hide (HE1.out.trans (hb2.mono HE1.out.size)); clear hb2 x0 x1 x2 y0 y1 y2; obtain ⟨x0, x1, x2, _, _, _⟩ := (HX0.out.below (Nat.le_refl _) HE2.out).all; have hp2 : w.heap.size + 1 < w2.heap.size := (by have := HE2.out.size; omega)))
    go_ret
    exact ⟨rfl, HB0.out.trans (HE2.out.mono (by omega))⟩

/-- The code of what must be a list of numbers, beside an array. -/
def codeList (c d : Bool) (sh dt sh' dt' : List Int) : Int := if arrOk c sh dt = true ∧ arrOk d sh' dt' = true then listCode c sh.length else 3

theorem implListCode_any (c d : Bool) (a1 a2 b1 b2 : Option Addr) (n1 n2 m1 m2 c1 c2 d1 d2 : Nat) (sh dt sh' dt' : List Int) (w : World) (h1 : Row w a1 n1 sh) (h2 : Row w a2 n2 dt) (k1 : Row w b1 m1 sh') (k2 : Row w b2 m2 dt') (r : Int) (hr : Hid (codeList c d sh dt sh' dt' = r)) :
    Calls Tryz.prog 57 #[.agg #[.bool c, .slice a1 n1 c1, .slice a2 n2 c2], .agg #[.bool d, .slice b1 m1 d1, .slice b2 m2 d2]] w fun e w' => e = .returned (.int .i64 r) ∧ Below w.heap.size w w' := by
  have hr' := hr.out
  clear hr
  subst hr'
  unfold codeList
  cases hok : arrOk c sh dt with
  | false => rw [if_neg (by simp)]; exact listCode_bad1 c d a1 a2 b1 b2 n1 n2 m1 m2 c1 c2 d1 d2 sh dt sh' dt' w h1 h2 k1 k2 hok
  | true =>
    cases hok' : arrOk d sh' dt' with
    | false => rw [if_neg (by simp)]; exact listCode_bad2 c d a1 a2 b1 b2 n1 n2 m1 m2 c1 c2 d1 d2 sh dt sh' dt' w h1 h2 k1 k2 hok hok'
    | true =>
      rw [if_pos ⟨rfl, rfl⟩, h1.len]
      unfold listCode
      by_cases hn : 1 < n1
      · rw [if_pos hn]; exact listCode_long c d a1 a2 b1 b2 n1 n2 m1 m2 c1 c2 d1 d2 sh dt sh' dt' w h1 h2 k1 k2 hok hok' hn
      · rw [if_neg hn]; exact listCode_rest c d a1 a2 b1 b2 n1 n2 m1 m2 c1 c2 d1 d2 sh dt sh' dt' w h1 h2 k1 k2 hok hok' hn

end Go.Proofs.YtgjpchnkodnieaaGreatDoor
namespace Go.Proofs.YtgjpchnkodnieaaGreatDoor
open Go.RowKit

/-- The box of the answer holds an array of the call's own. -/
def Res5 (w : World) (d : Bool) (zs ys : List Int) (n N box : Nat) (wx : World) : Prop :=
  ∃ ash csh gd, Box wx box d (.slice ash n csh) (.slice (some ⟨gd, 0, none⟩) N N) ∧ Own wx w.heap.size ash n zs ∧ w.heap.size ≤ gd ∧ Blk wx gd ys ∧ ¬ At ash n gd ∧ Below w.heap.size w wx

theorem Res5.set {w W : World} {d : Bool} {zs ys : List Int} {n N box gd csh : Nat} {ash : Option Addr} {v1 v2 : Value} {c : Bool} (hb : Box W box c v1 v2) (hO : Own W w.heap.size ash n zs) (hg : w.heap.size ≤ gd) (hB : Blk W gd ys) (hne : ¬ At ash n gd) (hbl : Below w.heap.size w W) (hb1 : ¬ At ash n box) (hb2 : gd ≠ box) (hw : w.heap.size ≤ box) :
    Res5 w d zs ys n N box (((W.setCell ⟨box, 0, none⟩ (.bool d)).setCell ⟨box, 1, none⟩ (.slice ash n csh)).setCell ⟨box, 2, none⟩ (.slice (some ⟨gd, 0, none⟩) N N)) := by
  have hk : ∀ k, At ash n k → k ≠ box := fun k hk e => hb1 (e ▸ hk)
  exact ⟨ash, csh, gd, hb.sets, ((hO.other (q := ⟨box, 0, none⟩) hk _).other (q := ⟨box, 1, none⟩) hk _).other (q := ⟨box, 2, none⟩) hk _, hg, ((hB.other (p := ⟨box, 0, none⟩) hb2 _).other (p := ⟨box, 1, none⟩) hb2 _).other (p := ⟨box, 2, none⟩) hb2 _, hne, ((hbl.setCell (p := ⟨box, 0, none⟩) hw _).setCell (p := ⟨box, 1, none⟩) hw _).setCell (p := ⟨box, 2, none⟩) hw _⟩

theorem gives_res {w wx : World} {d : Bool} {zs ys : List Int} {n N gd csh : Nat} {ash : Option Addr} (hl : ys.length = N) (hN : N ≤ 17592186044416) (hO : Own wx w.heap.size ash n zs) (hg : w.heap.size ≤ gd) (hB : Blk wx gd ys) (hne : ¬ At ash n gd) (hbl : Below w.heap.size w wx) :
    GivesOwn w ⟨d, zs, ys, 0⟩ (.returned (.tuple #[.agg #[.bool d, .slice ash n csh, .slice (some ⟨gd, 0, none⟩) N N], .int .i64 0])) wx :=
  ⟨ash, n, csh, some ⟨gd, 0, none⟩, N, N, rfl, hO, hB.own hl hN hg, fun k h1 h2 => by have := at_eq h2; subst this; exact hne h1, hbl⟩

end Go.Proofs.YtgjpchnkodnieaaGreatDoor
