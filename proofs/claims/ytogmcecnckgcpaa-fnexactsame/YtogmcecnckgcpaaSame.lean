import Derived.Test.YtogmcecnckgcpaaArrSpec
import Derived.Test.YtogmcecnckgcpaaL3Same
namespace Go.Proofs.Ytogmcecnckgcpaa
open Go.RowKit

def sameOk (c d : Bool) (sh dt sh' dt' : List Int) : Bool := arrOk c sh dt && (arrOk d sh' dt' && (decide (c = d) && (decide (sh = sh') && decide (dt = dt'))))

set_option maxHeartbeats 1000000 in
theorem Same_any (c d : Bool) (a1 a2 b1 b2 : Option Addr) (n1 n2 m1 m2 c1 c2 d1 d2 : Nat) (sh dt sh' dt' : List Int) (w : World) (h1 : Row w a1 n1 sh) (h2 : Row w a2 n2 dt) (k1 : Row w b1 m1 sh') (k2 : Row w b2 m2 dt') :
    Calls Try.prog 14 #[.agg #[.bool c, .slice a1 n1 c1, .slice a2 n2 c2], .agg #[.bool d, .slice b1 m1 d1, .slice b2 m2 d2]] w fun e w' => e = .returned (.bool (sameOk c d sh dt sh' dt')) ∧ Below w.heap.size w w' := by
  have H1 := hide h1
  have H2 := hide h2
  have K1 := hide k1
  have K2 := hide k2
  clear h1 h2 k1 k2
  have hW : ∀ o1 o2, Below w.heap.size w ((w.alloc o1).alloc o2) := fun o1 o2 => ((Below.refl _ _).alloc (Nat.le_refl _) _).alloc (by simp) _
  obtain ⟨r1, hr1⟩ : ∃ r, arrOk c sh dt = r := ⟨_, rfl⟩
  obtain ⟨r2, hr2⟩ : ∃ r, arrOk d sh' dt' = r := ⟨_, rfl⟩
  obtain ⟨r4, hr4⟩ : ∃ r, decide (sh = sh') = r := ⟨_, rfl⟩
  obtain ⟨r5, hr5⟩ : ∃ r, decide (dt = dt') = r := ⟨_, rfl⟩
  have HS : Hid (sameOk c d sh dt sh' dt' = (r1 && (r2 && (decide (c = d) && (r4 && r5))))) := by show _ = _; unfold sameOk; rw [hr1, hr2, hr4, hr5]
  have HR1 := hide hr1
  have HR2 := hide hr2
  have HR4 := hide hr4
  have HR5 := hide hr5
  clear hr1 hr2 hr4 hr5
  go_enter Try.func14, Try.ntmps14
  go_wp2_with fail
  refine (ArrayOk_eq _ _ _ _ _ _ _ sh dt _ (((unhide H1).alloc _).alloc _) (((unhide H2).alloc _).alloc _) r1 HR1).mono ?_
  rintro e w1 ⟨rfl, hb1⟩
  obtain ⟨hc, hf⟩ := bcell hb1
  have hz := hb1.size
  have hB := (hW _ _).trans (hb1.mono (by simp <;> omega))
  simp at hc hf hz
  have hz0 : w.heap.size < w1.heap.size := by omega
  have hz1 : w.heap.size + 1 < w1.heap.size := by omega
  clear hb1
  cases r1 with
  | false =>
    go_wp2
    go_ret
    exact ⟨ret_bool (by rw [unhide HS]; rfl), hB⟩
  | true =>
    go_wp2_with fail
    refine (ArrayOk_eq _ _ _ _ _ _ _ sh' dt' _ ((unhide K1).below (Nat.le_refl _) hB) ((unhide K2).below (Nat.le_refl _) hB) r2 HR2).mono ?_
    rintro e w2 ⟨rfl, hb2⟩
    obtain ⟨hc2, hf2⟩ := bcell hb2
    have hB2 := hB.trans (hb2.mono (by omega))
    clear hb2
    cases r2 with
    | false =>
      go_wp2
      go_ret
      exact ⟨ret_bool (by rw [unhide HS]; rfl), hB2⟩
    | true =>
      by_cases hcd : c = d
      · subst hcd
        have hb : (c == c) = true := by simp
        go_wp2_with fail
        refine (l3Same_eq _ _ _ _ _ _ sh sh' _ ((unhide H1).below (Nat.le_refl _) hB2) ((unhide K1).below (Nat.le_refl _) hB2) r4 HR4).mono ?_
        rintro e w3 ⟨rfl, q, rfl⟩
        cases r4 with
        | false =>
          go_wp2
          go_ret
          exact ⟨ret_bool (by rw [unhide HS]; simp), Below.drewN hB2 _⟩
        | true =>
          go_wp2_with fail
          refine (l3Same_eq _ _ _ _ _ _ dt dt' _ (((unhide H2).below (Nat.le_refl _) hB2).drewN _) (((unhide K2).below (Nat.le_refl _) hB2).drewN _) r5 HR5).mono ?_
          rintro e w3 ⟨rfl, q', rfl⟩
          cases r5 with
          | false =>
            go_wp2
            go_ret
            exact ⟨ret_bool (by rw [unhide HS]; simp), Below.drewN hB2 _⟩
          | true =>
            go_wp2
            go_ret
            exact ⟨ret_bool (by rw [unhide HS]; simp), Below.drewN hB2 _⟩
      · have hb : (c == d) = false := by simp [hcd]
        have HS2 : Hid (sameOk c d sh dt sh' dt' = false) := by show _ = _; rw [unhide HS, decide_eq_false hcd]; simp
        clear hcd
        go_wp2
        go_ret
        exact ⟨ret_bool HS2.out.symm, hB2⟩

end Go.Proofs.Ytogmcecnckgcpaa
