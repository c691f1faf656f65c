import Derived.Test.YtlnangnimbgpoaaCountMath
import Derived.Test.YtlnangnimbgpoaaSpecCopyO
import Derived.Test.YtlnangnimbgpoaaSpecList
import Derived.Test.YtlnangnimbgpoaaSpecLaid
import Derived.Deep.AppendLies
namespace Go.Proofs.Ytlnangnimbgpoaa
open Go.RowKit

theorem Box.set1 {w : World} {p : Nat} {c : Bool} {v1 v2 : Value} (h : Box w p c v1 v2) (v : Value) : Box (w.setCell ⟨p, 1, none⟩ v) p c v v2 := by
  unfold Box at h ⊢
  rw [heap_setCell_same w p 1 _ _ _ h]
  simp

/-- What l5Counted gives. -/
def GivesCounted (w : World) (d : Bool) (r : Int) (n2 m2 : Nat) (zs dt : List Int) (e : Ending) (w' : World) : Prop :=
  (∃ e1 l1 f1 e2 l2 f2, e = .returned (.tuple #[.agg #[.bool d, .slice e1 l1 f1, .slice e2 l2 f2], .int .i64 r]) ∧ (r = 0 → l1 = n2 ∧ l2 = m2 ∧ Row w' e1 n2 zs ∧ Row w' e2 m2 dt)) ∧ Below w.heap.size w w'

set_option maxRecDepth 20000 in
set_option maxHeartbeats 4000000 in
theorem l5Counted_any (c d : Bool) (a1 a2 b1 b2 : Addr) (n1 n2 m1 m2 c1 c2 d1 d2 : Nat) (sh dt sh' dt' : List Int) (w : World) (h1 : Row w (some a1) n1 sh) (h2 : Row w (some a2) n2 dt) (k1 : Row w (some b1) m1 sh') (k2 : Row w (some b2) m2 dt') (r : Int) (hr : countedCode c n1 n2 m1 = r) :
    Calls Try.prog 70 #[.agg #[.bool c, .slice (some a1) n1 c1, .slice (some a2) n2 c2], .agg #[.bool d, .slice (some b1) m1 d1, .slice (some b2) m2 d2]] w (GivesCounted w d r n2 m2 (countedSh n2 sh') dt') := by
  have hl3 := hide k1.len
  have hs1 := h1.small
  have hs2 := h2.small
  have hs3 := k1.small
  have K1 := hide k1
  have K2 := hide k2
  have HRR := hide hr
  clear h1 h2 k1 k2 hr
  obtain ⟨q, hq⟩ : ∃ q, listCode c n1 = q := ⟨_, rfl⟩
  have HQ := hide hq
  clear hq
  go_enter Try.func70, Try.ntmps70
  go_wp2_with fail
  refine (l5List_any c _ _ _ _ _ hs1 q HQ).mono ?_
  rintro e w1 ⟨rfl, hb1⟩
  obtain ⟨B4, B5, B6, hB1⟩ := boxes3 hb1
  have C4 := hide B4
  have C5 := hide B5
  have C6 := hide B6
  have HW1 := hide hB1
  obtain ⟨x0, x1, x2, x3, x4, x5, x6⟩ := B4.all
  obtain ⟨y0, y1, y2, y3, y4, y5, y6⟩ := B5.all
  obtain ⟨z0, z1, z2, z3, z4, z5, z6⟩ := B6.all
  clear hb1 B4 B5 B6 hB1
  by_cases h0 : q = 0
  · subst h0
    have HG := hide ((unhide HRR).symm.trans (counted_go (n2 := n2) (m1 := m1) (unhide HQ)))
    have hcall := l3Copy_owns d b1 b2 m1 m2 d1 d2 sh' dt' w1 ((unhide K1).below (Nat.le_refl _) (unhide HW1)) ((unhide K2).below (Nat.le_refl _) (unhide HW1))
    go_upto_region 5 with (go_at_call 62; refine hcall.mono ?_; rintro e w2 ⟨s1, f1, s2, f2, rfl, ho, hr2, hap, hb2⟩; have HO := hide ho; have HAP := hide hap; have HR2 := hide hr2; have HB2 := hide hb2; clear ho hr2 hap hb2)
    have D4 := hide (((unhide C4).below (Nat.le_refl _) (unhide HB2)).alloc (.cells #[.bool d, .slice s1 m1 f1, .slice s2 m2 f2] 26))
    have D5 := hide (((unhide C5).below (Nat.le_refl _) (unhide HB2)).alloc (.cells #[.bool d, .slice s1 m1 f1, .slice s2 m2 f2] 26))
    have D6 := hide (((unhide C6).below (Nat.le_refl _) (unhide HB2)).alloc (.cells #[.bool d, .slice s1 m1 f1, .slice s2 m2 f2] 26))
    have D7 := hide (Box.new w2 d (.slice s1 m1 f1) (.slice s2 m2 f2))
    have HO3 := hide (owns_below (owns_mono (base' := w.heap.size + 3) (unhide HO) (by have := (unhide C6).lt; omega)) (Nat.le_refl _) ((Below.refl w2.heap.size w2).alloc (Nat.le_refl _) (.cells #[.bool d, .slice s1 m1 f1, .slice s2 m2 f2] 26)))
    have HR3 := hide ((unhide HR2).alloc (.cells #[.bool d, .slice s1 m1 f1, .slice s2 m2 f2] 26))
    have hw12 := (unhide HB2).size
    have hww := (unhide HW1).size
    have hz6 := (unhide C6).lt
    have HW3 := hide (((unhide HW1).trans ((unhide HB2).mono hww)).alloc (by omega) (.cells #[.bool d, .slice s1 m1 f1, .slice s2 m2 f2] 26))
    have hp2 : w.heap.size + 2 < w2.heap.size := by omega
    generalize w2.alloc (.cells #[.bool d, .slice s1 m1 f1, .slice s2 m2 f2] 26) = W at *
    generalize w2.heap.size = p at *
    clear x0 x1 x2 x3 x4 x5 x6 y0 y1 y2 y3 y4 y5 y6 z0 z1 z2 z3 z4 z5 z6 C4 C5 C6 HO HR2 HB2 hcall HW1
    obtain ⟨x0, x1, x2, x3, x4, x5, x6⟩ := (unhide D4).all
    obtain ⟨y0, y1, y2, y3, y4, y5, y6⟩ := (unhide D5).all
    by_cases hm : m1 = 0
    · subst hm
      rw [if_pos rfl] at HG
      have hnil : sh' = [] := List.length_eq_zero_iff.mp (unhide hl3)
      have HE : Hid (countedSh n2 sh' = List.replicate n2 1) := by show _ = _; unfold countedSh; rw [if_pos hnil]
      have HO4 : Hid (W.ownsRow (w.heap.size + 3) 3 1 (.slice s1 0 f1) 0 ((List.replicate 0 (1 : Int)).map (Value.int .i64))) := by have := unhide HO3; rw [hnil] at this; exact this
      have hWs : w.heap.size + 3 ≤ W.heap.size := by have := (unhide D6).lt; omega
      clear hnil HO3
      obtain ⟨i0, hi, hz0, hz1, hz2⟩ := info_parts info_int
      go_wp2_with fail
      go_loopw [8] (fun i wr => ∃ k v, k ≤ n2 ∧ k ≤ 5 ∧ i = .int .i64 (k : Nat) ∧ Hid (Box wr p d v (.slice s2 m2 f2)) ∧ Hid (wr.ownsRow (w.heap.size + 3) 3 1 v k ((List.replicate k (1 : Int)).map (Value.int .i64))) ∧ Hid (Own wr w1.heap.size s2 m2 dt') ∧ Hid (∀ x, At s2 m2 x → v.ownBlock ≠ some x) ∧ Hid (Below (w.heap.size + 3) W wr)) (fun i _ => n2 - (intOf i).toNat)
      case atStart => exact ⟨0, _, Nat.zero_le _, Nat.zero_le _, rfl, D7, HO4, HR3, HAP, Below.refl _ _⟩
      case round =>
        obtain ⟨k, v, hk, hk5, rfl, hbx, hown, hdat, hap, hlow⟩ := hrel
        clear HO4 HR3 HAP x0 x1 x2 x3 x4 x5 x6 y0 y1 y2 y3 y4 y5 y6
        obtain ⟨sa, sc, rfl⟩ := owns_slice (unhide hown)
        have E4 := hide ((unhide D4).low (by omega) (unhide hlow))
        have E5 := hide ((unhide D5).low (by omega) (unhide hlow))
        have E6 := hide ((unhide D6).low (by omega) (unhide hlow))
        have HWr := hide ((unhide HW3).trans ((unhide hlow).mono (by omega)))
        obtain ⟨x0, x1, x2, x3, x4, x5, x6⟩ := (unhide E4).all
        obtain ⟨y0, y1, y2, y3, y4, y5, y6⟩ := (unhide E5).all
        obtain ⟨z0, z1, z2, z3, z4, z5, z6⟩ := (unhide E6).all
        obtain ⟨v0, v1, v2, v3, v4, v5, v6⟩ := (unhide hbx).all
        by_cases hlt : k < n2
        · by_cases h5 : k = 5
          · subst h5
            rw [if_pos hlt] at HG
            have HG' := hide (unhide HG)
            obtain rfl := unhide HG'
            go_wp2
            refine bodyPost_ret (v := .tuple #[.agg #[.bool d, (.slice (some b1) 0 d1), (.slice (some b2) m2 d2)], .int .i64 7]) (by simp [results, Try.results70, go_sem, z0, z1, z2]) rfl ?_
            refine ⟨⟨_, _, _, _, _, _, rfl, fun h => absurd h (by decide)⟩, (((unhide HWr).setCell (by simp <;> omega) _).setCell (by simp <;> omega) _).setCell (by simp <;> omega) _⟩
          · have hwz := (unhide hlow).size
            have hk4 : k < 5 := by omega
            go_wp2_with (at_builtin; refine wpList_append_lies _ rfl _ _ 22 rfl (w.heap.size + 3) 3 i0 (.int .i64 0) 1 8 Try.underlying22 hi hz0 hz1 hz2 rfl (by decide) _ _ _ rfl (owns_below (unhide hown) (Nat.le_refl _) ((Below.refl _ _).alloc (Nat.le_refl _) _)) ⟨wr.heap.size, 0, none⟩ 1 1 [.int .i64 1] rfl rfl (cells_new _ _) (one_one _) (by omega) (by unfold maxLen; omega) (by omega) (by simp; omega) (wr.heap.size + 1) (by simp) ?_; intro g' cap' w7 hown' hgrow hat hlt7; have hb7 := (unhide hbx).grown (unhide hown) _ hgrow; have hl7 := below_append _ (unhide hown) (by omega) hgrow; have hd7 := (unhide hdat).grownO _ hgrow (unhide hap); obtain ⟨t0, t1, t2, t3, t4, t5, t6⟩ := hb7.all; have hap7 : ∀ x, At s2 m2 x → (Value.slice (some ⟨g', 0, none⟩) (k + 1) cap').ownBlock ≠ some x := (fun x hx e => by have e' : g' = x := (by simpa [Value.ownBlock] using e); have := (unhide hdat).row.hi hx; rcases hat with h | h; exact unhide hap x hx (e' ▸ h); omega); clear hgrow hat)
            go_roundw
            case rel => exact ⟨k + 1, _, by omega, by omega, by go_num, hb7.set1 _, by rw [ones_snoc]; exact owns_box_set hown' hb7 _ _, hd7.other (fun x hx => hd7.row.notBox hb7 hx) _, hap7, ((unhide hlow).trans hl7).setCell (by simp; omega) _⟩
            case measure => simp [intOf]; omega
        · have hkn : k = n2 := by omega
          subst hkn
          rw [if_neg (by omega)] at HG
          have HG' := hide (unhide HG)
          obtain rfl := unhide HG'
          obtain ⟨ad, cp, hv, hown'⟩ := Own.of_owns (unhide hown) hs2
          cases hv
          have HS := hide hown'
          clear hown'
          go_wp2
          refine bodyPost_ret (v := .tuple #[.agg #[.bool d, (.slice sa k sc), (.slice s2 m2 f2)], .int .i64 0]) (by simp [results, Try.results70, go_sem, z0, z1, z2]) rfl ?_
          refine ⟨⟨_, _, _, _, _, _, rfl, fun _ => ⟨rfl, rfl, by rw [unhide HE]; exact (unhide HS).row.sets (unhide E6) _ _ _, (unhide hdat).row.sets (unhide E6) _ _ _⟩⟩, (((unhide HWr).setCell (by simp <;> omega) _).setCell (by simp <;> omega) _).setCell (by simp <;> omega) _⟩
    · obtain ⟨z0, z1, z2, z3, z4, z5, z6⟩ := (unhide D6).all
      obtain ⟨v0, v1, v2, v3, v4, v5, v6⟩ := (unhide D7).all
      have g0 : ((m1 : Int) == 0) = false := by simp; omega
      rw [if_neg hm] at HG
      by_cases hn : n2 = m1
      · subst hn
        rw [if_neg (by simp)] at HG
        have HG' := hide (unhide HG)
        obtain rfl := unhide HG'
        have HE : Hid (countedSh n2 sh' = sh') := by show _ = _; unfold countedSh; rw [if_neg (by intro e; rw [e] at hl3; exact hm (unhide hl3).symm)]
        obtain ⟨ad, cp, hv, hown⟩ := Own.of_owns (unhide HO3) hs2
        cases hv
        have HS := hide hown
        clear hown
        go_wp2
        refine bodyPost_ret (v := .tuple #[.agg #[.bool d, (.slice s1 n2 f1), (.slice s2 m2 f2)], .int .i64 0]) (by simp [results, Try.results70, go_sem, z0, z1, z2]) rfl ?_
        refine ⟨⟨_, _, _, _, _, _, rfl, fun _ => ⟨rfl, rfl, by rw [unhide HE]; exact (unhide HS).row.sets (unhide D6) _ _ _, (unhide HR3).row.sets (unhide D6) _ _ _⟩⟩, (((unhide HW3).setCell (by simp <;> omega) _).setCell (by simp <;> omega) _).setCell (by simp <;> omega) _⟩
      · have g1 : ((n2 : Int) != (m1 : Int)) = true := by simp; omega
        rw [if_pos hn] at HG
        have HG' := hide (unhide HG)
        obtain rfl := unhide HG'
        go_wp2
        refine bodyPost_ret (v := .tuple #[.agg #[.bool d, (.slice (some b1) m1 d1), (.slice (some b2) m2 d2)], .int .i64 5]) (by simp [results, Try.results70, go_sem, z0, z1, z2]) rfl ?_
        refine ⟨⟨_, _, _, _, _, _, rfl, fun h => absurd h (by decide)⟩, (((unhide HW3).setCell (by simp <;> omega) _).setCell (by simp <;> omega) _).setCell (by simp <;> omega) _⟩
  · have g0 : (q != 0) = true := by simp [h0]
    have HG := hide ((unhide HRR).symm.trans (counted_list (n2 := n2) (m1 := m1) (unhide HQ) h0))
    obtain rfl := unhide HG
    have HZ := hide h0
    clear h0
    go_wp2
    refine bodyPost_ret (v := .tuple #[.agg #[.bool d, (.slice (some b1) m1 d1), (.slice (some b2) m2 d2)], .int .i64 r]) (by simp [results, Try.results70, go_sem, z0, z1, z2]) rfl ?_
    refine ⟨⟨_, _, _, _, _, _, rfl, fun h => absurd h (unhide HZ)⟩, (((unhide HW1).setCell (by simp <;> omega) _).setCell (by simp <;> omega) _).setCell (by simp <;> omega) _⟩

end Go.Proofs.Ytlnangnimbgpoaa
