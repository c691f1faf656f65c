import Derived.Test.YtadbhidpmihghaaSpecViewOk
namespace Go.Proofs.Ytadbhidpmihghaa
open Go.RowKit

/-- What Places gives. -/
def places (off : Int) (sh st : List Int) (cells : Int) : List Int := if viewOk off sh st cells = true then placesOf off sh st else []

theorem viewOk_formed {off cells : Int} {sh st : List Int} (h : viewOk off sh st cells = true) : formed off sh st = true := by
  cases e : formed off sh st with
  | true => rfl
  | false => rw [viewOk_no1 e] at h; cases h

set_option maxHeartbeats 2000000 in
theorem Places_any (off : Int) (a1 a2 : Option Addr) (n1 n2 c1 c2 : Nat) (sh st : List Int) (cells : Int) (w : World) (h1 : Row w a1 n1 sh) (h2 : Row w a2 n2 st) :
    Calls Try.prog 25 #[.agg #[.int .i64 off, .slice a1 n1 c1, .slice a2 n2 c2], .int .i64 cells] w fun e w' => ∃ b m d, e = .returned (.slice b m d) ∧ Row w' b m (places off sh st cells) ∧ Below w.heap.size w w' := by
  have hl1 := hide h1.len
  have hl2 := hide h2.len
  have H1 := hide h1
  have H2 := hide h2
  clear h1 h2
  have hW : ∀ o, Below w.heap.size w (w.alloc o) := fun o => (Below.refl _ _).alloc (Nat.le_refl _) _
  obtain ⟨r, hr⟩ : ∃ r, viewOk off sh st cells = r := ⟨_, rfl⟩
  have HR := hide hr
  clear hr
  have HCV := hide (ViewOk_eq off a1 a2 n1 n2 c1 c2 sh st cells (w.alloc (.cells #[.int .i64 off, .slice a1 n1 c1, .slice a2 n2 c2] 24)) ((unhide H1).alloc _) ((unhide H2).alloc _) r HR)
  cases r with
  | false =>
    have HE : Hid (places off sh st cells = []) := by show _ = _; unfold places; rw [if_neg (by rw [unhide HR]; simp)]
    go_enter Try.func25, Try.ntmps25
    go_wp2_with (go_at_call 18; refine (unhide HCV).mono ?_; rintro e w1 ⟨rfl, hb1⟩; have HB1 := hide hb1; clear hb1)
    go_ret
    refine ⟨_, _, _, rfl, ?_, ((hW _).trans ((unhide HB1).mono (by simp))).alloc (by have := (unhide HB1).size; simp at this; omega) _⟩
    rw [unhide HE]
    exact row_nil _ _
  | true =>
    have HFM := hide (viewOk_formed (unhide HR))
    obtain ⟨hsb, hl, _, _⟩ := formed_parts (unhide HFM)
    rw [unhide hl1, unhide hl2] at hl
    subst hl
    have hcb := shapeB_count hsb
    obtain ⟨N, hN⟩ : ∃ N : Nat, countOf sh = (N : Int) := ⟨(countOf sh).toNat, by omega⟩
    have HN := hide hN
    have HE : Hid (places off sh st cells = placesOf off sh st) := by show _ = _; unfold places; rw [if_pos (unhide HR)]
    clear hsb hcb hN
    go_enter Try.func25, Try.ntmps25
    go_wp2_with (first | (go_at_call 18; refine (unhide HCV).mono ?_; rintro e w1 ⟨rfl, hb1⟩; have HB1 := hide hb1; obtain ⟨x0, x1, x2, x3, x4, x5, x6⟩ := ((VBox.new w off (.slice a1 n2 c1) (.slice a2 n2 c2)).below (Nat.le_refl _) hb1).all; clear hb1) | (go_at_call 37; refine (l7Places_any off a1 a2 n2 c1 c2 sh st _ (by exact ((unhide H1).alloc _).below (Nat.le_refl _) (unhide HB1)) (by exact ((unhide H2).alloc _).below (Nat.le_refl _) (unhide HB1)) (unhide HFM) N (unhide HN)).mono ?_; rintro e w2 ⟨g, k, rfl, ho2, hb2⟩; have HO := hide ho2; have HB2 := hide hb2; clear ho2 hb2))
    go_ret
    refine ⟨_, _, _, rfl, by rw [unhide HE]; exact (unhide HO).row, ((hW _).trans ((unhide HB1).mono (by simp))).trans ((unhide HB2).mono (by have := (unhide HB1).size; simp at this; omega))⟩

end Go.Proofs.Ytadbhidpmihghaa
