import Derived.Test.YtlnangnimbgpoaaMShelf
namespace Go.Proofs.Ytlnangnimbgpoaa
open Go.RowKit

set_option maxRecDepth 20000 in
set_option maxHeartbeats 8000000 in
theorem symA_any (cf : Nat) (lb : Array Value) (eg : ∀ args w, (callFunc cf args).run Try.prog w = .ok (.enter cf args) w) (C : Int → Int → Int) (K : Int → Int) (hK : CmpKey C K) (P : Int → Prop) (g n cap a m b : Nat) (D : Nat → Int) (w : World) (h : Blk w g (tab n D)) (hcmp : CmpOk cf lb C P w g) (hP : ∀ i, i < n → P (D i)) (ham : m = a + 1) (hmb : m < b) (hbn : b ≤ n) (hn : n ≤ 1000000) (hr : Rise K D m b) (hlow : Low D a m b) :
    Calls Try.prog 101 #[.slice (some ⟨g, 0, none⟩) n cap, .int .i64 (a : Nat), .int .i64 (m : Nat), .int .i64 (b : Nat), .func (.func cf) #[] lb] w fun e w' => (∃ v, e = .returned v) ∧ ∃ E, Merged K D E a b ∧ TabS w g n E w' := by
  have H := hide (TabS.refl h)
  have HC := hide hcmp
  have HP := hide hP
  have HR := hide hr
  have HL := hide hlow
  have HAM := hide ham
  clear h hcmp hP hr hlow
  have e1 : (m : Int) - (a : Int) = 1 := by omega
  have hma : a < m := by omega
  clear ham
  have ca := (unhide H).cell (i := a) (by omega)
  obtain ⟨da, hda⟩ : ∃ x, D a = x := ⟨_, rfl⟩
  rw [hda] at ca
  have HDA := hide hda
  have pa : Hid (P da) := by rw [← hda]; exact unhide HP a (by omega)
  clear hda
  have hani : (a : Int) < (n : Int) := by omega
  go_enter Try.func101, Try.ntmps101
  go_wp2_with fail
  go_loopw [10, 11] (fun u v wr => ∃ (i j : Nat), u = .int .i64 i ∧ v = .int .i64 j ∧ m ≤ i ∧ i ≤ j ∧ j ≤ b ∧ Hid ((i = m ∨ K (D (i - 1)) < K da) ∧ (j = b ∨ K da ≤ K (D j))) ∧ Hid (TabS w g n D wr)) (fun u v _ => (intOf v).toNat - (intOf u).toNat)
  case atStart => exact ⟨m, b, rfl, rfl, Nat.le_refl _, by omega, Nat.le_refl _, ⟨.inl rfl, .inl rfl⟩, H⟩
  case round =>
    obtain ⟨i, j, rfl, rfl, hmi, hij, hjb, HI, HT⟩ := hrel
    clear H ca
    by_cases hlt : i < j
    case neg =>
      obtain rfl : i = j := by omega
      clear hij hlt
      obtain ⟨ws, hws⟩ : ∃ x, x = wr := ⟨_, rfl⟩
      subst hws
      have HM : Hid (Merged K D (rot D a (a + 1) i) a b) := by
        obtain ⟨h1, h2⟩ := unhide HI
        have q := unhide HAM
        subst q
        rw [← unhide HDA] at h1 h2
        exact ins_left hmi hjb (unhide HR) (unhide HL) h1 h2
      have H0 : Hid (TabS w g n (rot D a (a + 1) (a + 1)) ws) := by show TabS _ _ _ _ _; rw [rot_self2]; exact unhide HT
      obtain ⟨i1, hi1⟩ : ∃ x, i = x + 1 := ⟨i - 1, by omega⟩
      have ei : (i : Int) - 1 = (i1 : Int) := by omega
      have hai : a ≤ i1 := by omega
      have hin : i1 < n := by omega
      have HI1 := hide hi1
      clear hi1 HI HT
      go_wp2_with fail
      go_loopw [13] (fun u wr => ∃ (k : Nat), u = .int .i64 k ∧ a ≤ k ∧ k ≤ i1 ∧ Hid (TabS w g n (rot D a (a + 1) (k + 1)) wr)) (fun u _ => i1 - (intOf u).toNat)
      case atStart => exact ⟨a, rfl, Nat.le_refl _, hai, H0⟩
      case round =>
        obtain ⟨k, rfl, hak, hki, HT⟩ := hrel
        clear H0
        by_cases hkl : k < i1
        · have hkli : (k : Int) < (i1 : Int) := by omega
          obtain ⟨R, hR⟩ : ∃ R, rot D a (a + 1) (k + 1) = R := ⟨_, rfl⟩
          have HRR := hide hR
          rw [hR] at HT
          clear hR
          obtain ⟨y, hy⟩ : ∃ y, k + 1 = y := ⟨_, rfl⟩
          have ey : (k : Int) + 1 = (y : Int) := by omega
          have HY := hide hy
          have hyn : (y : Int) < (n : Int) := by have := unhide HI1; omega
          have hkn : (k : Int) < (n : Int) := by omega
          have c1 := (unhide HT).cell (i := k) (by omega)
          have c2 := (unhide HT).cell (i := y) (by omega)
          have f1 := (unhide HT).free k
          have f2 := (unhide HT).free y
          have hne : k ≠ y := by omega
          have hen : ¬ y = k := by omega
          obtain ⟨u, hu⟩ : ∃ u, R k = u := ⟨_, rfl⟩
          obtain ⟨v, hv⟩ : ∃ v, R y = v := ⟨_, rfl⟩
          have HN : Hid (TabS w g n (rot D a (a + 1) (y + 1)) ((wr.setCell ⟨g, k, none⟩ (.int .i64 v)).setCell ⟨g, y, none⟩ (.int .i64 u))) := by
            have h1 := (unhide HT).swap (x := k) (y := y) (by omega)
            rw [hu, hv] at h1
            have h2 : swap2 R k y = rot D a (a + 1) (y + 1) := by rw [← unhide HRR, ← hy]; exact swap_on D hak
            rw [h2] at h1
            exact h1
          rw [hu] at c1
          rw [hv] at c2
          clear hu hv hy
          go_wp2_with fail
          go_region
          all_goals go_wp2_with fail
          all_goals (go_roundw; (case rel => exact ⟨y, by go_num, by have := unhide HY; omega, by have := unhide HY; omega, (unhide HN).drew⟩); (case measure => simp [intOf]; have := unhide HY; omega))
        · obtain rfl : k = i1 := by omega
          have HE : Hid (TabS w g n (rot D a (a + 1) i) wr) := by show TabS _ _ _ _ _; rw [unhide HI1]; exact unhide HT
          clear hkl
          go_wp2_with fail
          first | go_end0 | refine bodyPost_ret (results_none rfl _ _ _) rfl ?_
          exact ⟨⟨_, rfl⟩, _, unhide HM, unhide HE⟩
    have hlti : (i : Int) < (j : Int) := by omega
    obtain ⟨x, hx⟩ : ∃ x, (i + j) / 2 = x := ⟨_, rfl⟩
    have ex : ((i : Int) + (j : Int)) / 2 = (x : Int) := by omega
    have hix : i ≤ x := by omega
    have hxj : x < j := by omega
    have hxn : (x : Int) < (n : Int) := by omega
    clear hx
    obtain ⟨u, hu⟩ : ∃ u, D x = u := ⟨_, rfl⟩
    have c1 := (unhide HT).cell (i := x) (by omega)
    have c2 := (unhide HT).cell (i := a) (by omega)
    have pu := unhide HP x (by omega)
    rw [hu] at c1 pu
    rw [unhide HDA] at c2
    have HU1 := hide hu
    have HCV : Hid (∀ k, Calls Try.prog cf (#[.int .i64 u, .int .i64 da] ++ lb) (wr.drewN k) fun e w' => e = .returned (.int .i64 (C u da)) ∧ ∃ m, w' = (wr.drewN k).drewN m) := fun k => unhide HC u da pu (unhide pa) _ ((unhide HT).drewN k).but
    have HKC := hide (hK u da)
    obtain ⟨cv, hcv⟩ : ∃ cv, C u da = cv := ⟨_, rfl⟩
    rw [hcv] at HCV HKC
    clear hu hcv pu
    by_cases hcc : cv < 0
    · have HN : Hid (((x + 1 = m ∨ K (D (x + 1 - 1)) < K da) ∧ (j = b ∨ K da ≤ K (D j)))) := by
        refine ⟨.inr ?_, (unhide HI).2⟩
        rw [Nat.add_sub_cancel, unhide HU1]
        exact (unhide HKC).1 hcc
      go_wp2_with fail
      go_quiet (first | (go_at_fn cf; exact Calls.quiet_of (unhide HCV _)))
      go_wp2_with fail
      go_roundw
      case rel => exact ⟨x + 1, j, by go_num, rfl, by omega, by omega, hjb, HN, (unhide HT).drewN _⟩
      case measure => simp [intOf]; omega
    · have HN : Hid (((i = m ∨ K (D (i - 1)) < K da) ∧ (x = b ∨ K da ≤ K (D x)))) := by
        refine ⟨(unhide HI).1, .inr ?_⟩
        rw [unhide HU1]
        have := mt (unhide HKC).2 hcc
        omega
      go_wp2_with fail
      go_quiet (first | (go_at_fn cf; exact Calls.quiet_of (unhide HCV _)))
      go_wp2_with fail
      go_roundw
      case rel => exact ⟨i, x, rfl, rfl, hmi, hix, by omega, HN, (unhide HT).drewN _⟩
      case measure => simp [intOf]; omega

end Go.Proofs.Ytlnangnimbgpoaa
