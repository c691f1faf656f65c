import Derived.Test.YtogmcecnckgcpaaImplOk
import Derived.Test.YtogmcecnckgcpaaLawSame
namespace Go.Proofs.Ytogmcecnckgcpaa
open Go.RowKit

set_option maxHeartbeats 400000 in
theorem Equal_any (a b : Option Addr) (n m ca cb : Nat) (xs ys : List Int) (w : World) (hx : Row w a n xs) (hy : Row w b m ys) :
    Calls Try.prog 35 #[.slice a n ca, .slice b m cb] w fun e w' => e = .returned (.bool (decide (xs = ys))) ∧ ∃ q, w' = w.drewN q := by
  obtain ⟨hxl, hxs, hxa⟩ := hx
  obtain ⟨hyl, hys, hya⟩ := hy
  by_cases hne : n = m
  · subst hne
    have hn : ((n : Int) != (n : Int)) = false := by simp
    go_enter Try.func35, Try.ntmps35
    go_wp2
    go_loopw [5, 13] (fun _ i wr => ∃ k : Nat, k ≤ n ∧ i = .int .i64 k ∧ xs.take k = ys.take k ∧ ∃ q, wr = w.drewN q) (fun _ i _ => n - (intOf i).toNat)
    case atStart => exact ⟨0, Nat.zero_le _, rfl, rfl, 0, rfl⟩
    case round =>
      obtain ⟨k, hk, rfl, htk, q, rfl⟩ := hrel
      by_cases hlt : k < n
      · have ha : ∃ b off, a = some ⟨b, off, none⟩ ∧ w.cell? ⟨b, off + k, none⟩ = some (.int .i64 (xs.getD k 0)) := by
          rcases hxa with h0 | ⟨b, off, rfl, hlt', hc⟩
          · omega
          · exact ⟨b, off, rfl, hc k hlt⟩
        have hb : ∃ b' off, b = some ⟨b', off, none⟩ ∧ w.cell? ⟨b', off + k, none⟩ = some (.int .i64 (ys.getD k 0)) := by
          rcases hya with h0 | ⟨b, off, rfl, hlt', hc⟩
          · omega
          · exact ⟨b, off, rfl, hc k hlt⟩
        obtain ⟨b1, o1, rfl, hc1⟩ := ha
        obtain ⟨b2, o2, rfl, hc2⟩ := hb
        clear hxa hya
        obtain ⟨x, hx⟩ : ∃ x, x = xs.getD k 0 := ⟨_, rfl⟩
        obtain ⟨y, hy⟩ : ∃ y, y = ys.getD k 0 := ⟨_, rfl⟩
        rw [← hx] at hc1
        rw [← hy] at hc2
        have HX : Hid (x = xs.getD k 0) := hx
        have HY : Hid (y = ys.getD k 0) := hy
        have HT : Hid (xs.take k = ys.take k) := htk
        have HL : Hid (xs.length = n ∧ ys.length = n) := ⟨hxl, hyl⟩
        clear hx hy htk hxl hyl
        by_cases hxy : x = y
        · have hb : (x != y) = false := by simp [hxy]
          have HXY : Hid (x = y) := hxy
          clear hxy
          go_wp2
          go_quiet (fail)
          go_wp2
          go_roundw
          case rel => exact ⟨k + 1, by omega, by go_num, take_step HL.out.1 HL.out.2 hlt HT.out (HX.out.symm.trans (HXY.out.trans HY.out)), _, by first | rfl | exact World.drewN_drewN _ _ _⟩
          case measure => simp [intOf]; omega
        · have hb : (x != y) = true := by simp [hxy]
          have HN : Hid (¬ xs = ys) := fun e => hxy (by rw [HX.out, HY.out, e])
          clear hxy
          go_wp2
          go_quiet (fail)
          go_wp2
          go_ret
          exact ⟨ret_bool (decide_eq_false HN.out).symm, _, World.drewN_drewN _ _ _⟩
      · have hkn : k = n := by omega
        have HE : Hid (xs = ys) := by
          show xs = ys
          rwa [List.take_of_length_le (by omega), List.take_of_length_le (by omega)] at htk
        clear htk
        subst hkn
        go_wp2
        go_ret
        exact ⟨ret_bool (decide_eq_true HE.out).symm, _, rfl⟩
  · have hn : ((n : Int) != (m : Int)) = true := by simp; omega
    have HN : Hid (¬ xs = ys) := fun e => hne (by rw [← hxl, ← hyl, e])
    clear hne
    go_enter Try.func35, Try.ntmps35
    go_wp2
    go_ret
    exact ⟨ret_bool (decide_eq_false HN.out).symm, 0, rfl⟩

theorem Equal_eq (a b : Option Addr) (n m ca cb : Nat) (xs ys : List Int) (w : World) (hx : Row w a n xs) (hy : Row w b m ys) (r : Bool) (hr : Hid (decide (xs = ys) = r)) :
    Calls Try.prog 35 #[.slice a n ca, .slice b m cb] w fun e w' => e = .returned (.bool r) ∧ ∃ q, w' = w.drewN q := by
  rw [← hr.out]; exact Equal_any a b n m ca cb xs ys w hx hy


theorem ImplOk_eq (c : Bool) (a1 a2 : Option Addr) (n1 n2 c1 c2 : Nat) (sh dt : List Int) (w : World) (h1 : Row w a1 n1 sh) (h2 : Row w a2 n2 dt) (r : Bool) (hr : Hid (arrOk c sh dt = r)) :
    Calls Try.prog 12 #[.agg #[.bool c, .slice a1 n1 c1, .slice a2 n2 c2]] w fun e w' => e = .returned (.bool r) ∧ Below w.heap.size w w' := by
  rw [← hr.out]; exact ImplOk_holds c a1 a2 n1 n2 c1 c2 sh dt w h1 h2

theorem same_alike (c d : Bool) (sh dt sh' dt' : List Int) : sameOk c d sh dt sh' dt' = (arrOk c sh dt && (decide (c = d) && (decide (sh = sh') && decide (dt = dt')))) := by
  unfold sameOk
  by_cases h1 : c = d
  · by_cases h2 : sh = sh'
    · by_cases h3 : dt = dt'
      · subst h1 h2 h3; cases arrOk c sh dt <;> simp
      · simp [h3]
    · simp [h2]
  · simp [h1]

set_option maxHeartbeats 1000000 in
theorem ImplSame_holds : ImplSame := by
  intro c d a1 a2 b1 b2 n1 n2 m1 m2 c1 c2 d1 d2 sh dt sh' dt' w h1 h2 k1 k2
  have H1 := hide h1
  have H2 := hide h2
  have K1 := hide k1
  have K2 := hide k2
  clear h1 h2 k1 k2
  have hW : ∀ o1 o2, Below w.heap.size w ((w.alloc o1).alloc o2) := fun o1 o2 => ((Below.refl _ _).alloc (Nat.le_refl _) _).alloc (by simp) _
  obtain ⟨r1, hr1⟩ : ∃ r, arrOk c sh dt = r := ⟨_, rfl⟩
  obtain ⟨r4, hr4⟩ : ∃ r, decide (sh = sh') = r := ⟨_, rfl⟩
  obtain ⟨r5, hr5⟩ : ∃ r, decide (dt = dt') = r := ⟨_, rfl⟩
  have HS : Hid (sameOk c d sh dt sh' dt' = (r1 && (decide (c = d) && (r4 && r5)))) := by show _ = _; rw [same_alike, hr1, hr4, hr5]
  have HR1 := hide hr1
  have HR4 := hide hr4
  have HR5 := hide hr5
  clear hr1 hr4 hr5
  go_enter Try.func15, Try.ntmps15
  go_wp2_with fail
  refine (ImplOk_eq _ _ _ _ _ _ _ sh dt _ (((unhide H1).alloc _).alloc _) (((unhide H2).alloc _).alloc _) r1 HR1).mono ?_
  rintro e w1 ⟨rfl, hb1⟩
  obtain ⟨hc, hf⟩ := bcell hb1
  have hz := hb1.size
  have hB2 := (hW _ _).trans (hb1.mono (by simp <;> omega))
  simp at hc hf hz
  have hz0 : w.heap.size < w1.heap.size := by omega
  have hz1 : w.heap.size + 1 < w1.heap.size := by omega
  clear hb1
  cases r1 with
  | false =>
    go_wp2
    go_ret
    exact ⟨ret_bool (by rw [unhide HS]; rfl), hB2⟩
  | true =>
    by_cases hcd : c = d
    · subst hcd
      have hb : (c == c) = true := by simp
      go_wp2_with fail
      refine (Equal_eq _ _ _ _ _ _ sh sh' _ ((unhide H1).below (Nat.le_refl _) hB2) ((unhide K1).below (Nat.le_refl _) hB2) r4 HR4).mono ?_
      rintro e w3 ⟨rfl, q, rfl⟩
      cases r4 with
      | false =>
        go_wp2
        go_ret
        exact ⟨ret_bool (by rw [unhide HS]; simp), Below.drewN hB2 _⟩
      | true =>
        go_wp2_with fail
        refine (Equal_eq _ _ _ _ _ _ dt dt' _ (((unhide H2).below (Nat.le_refl _) hB2).drewN _) (((unhide K2).below (Nat.le_refl _) hB2).drewN _) r5 HR5).mono ?_
        rintro e w3 ⟨rfl, q', rfl⟩
        cases r5 with
        | false =>
          go_wp2
          go_ret
          exact ⟨ret_bool (by rw [unhide HS]; simp), Below.drewN hB2 _⟩
        | true =>
          go_wp2
          go_ret
          exact ⟨ret_bool (by rw [unhide HS]; simp), Below.drewN hB2 _⟩
    · have hb : (c == d) = false := by simp [hcd]
      have HS2 : Hid (sameOk c d sh dt sh' dt' = false) := by show _ = _; rw [unhide HS, decide_eq_false hcd]; simp
      clear hcd
      go_wp2
      go_ret
      exact ⟨ret_bool HS2.out.symm, hB2⟩

end Go.Proofs.Ytogmcecnckgcpaa
