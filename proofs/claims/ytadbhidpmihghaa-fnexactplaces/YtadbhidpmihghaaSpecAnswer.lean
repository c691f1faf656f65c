import Derived.Test.YtadbhidpmihghaaSpecView
import Derived.Test.YtadbhidpmihghaaSpecVCopy
import Derived.Test.YtadbhidpmihghaaVAnsMath
import Derived.Deep.RegionHeld3
namespace Go.Proofs.Ytadbhidpmihghaa
open Go.RowKit

def noView : VAns := ⟨0, [], [], false⟩

/-- A view, when it is formed. -/
def answerOf (c : Int) (sh st : List Int) : VAns := if formed c sh st = true then ⟨c, sh, st, true⟩ else noView

/-- What a spec function's answer of a view and a truth is. -/
def GivesV (w : World) (r : VAns) (e : Ending) (w' : World) : Prop :=
  ∃ b1 m1 d1 b2 m2 d2, e = .returned (.tuple #[.agg #[.int .i64 r.c, .slice b1 m1 d1, .slice b2 m2 d2], .bool r.code]) ∧ Row w' b1 m1 r.sh ∧ Row w' b2 m2 r.dt ∧ Below w.heap.size w w'

/-- .. its lists those of the argument, or none. -/
def GivesA (w : World) (r : VAns) (a1 : Option Addr) (n1 : Nat) (a2 : Option Addr) (n2 : Nat) (e : Ending) (w' : World) : Prop :=
  ∃ b1 m1 d1 b2 m2 d2, e = .returned (.tuple #[.agg #[.int .i64 r.c, .slice b1 m1 d1, .slice b2 m2 d2], .bool r.code]) ∧ Row w' b1 m1 r.sh ∧ Row w' b2 m2 r.dt ∧ (∀ x, At b1 m1 x → At a1 n1 x) ∧ (∀ x, At b2 m2 x → At a2 n2 x) ∧ Below w.heap.size w w'

set_option maxHeartbeats 2000000 in
theorem l7Answer_any (c : Int) (a1 a2 : Option Addr) (n1 n2 c1 c2 : Nat) (sh st : List Int) (w : World) (h1 : Row w a1 n1 sh) (h2 : Row w a2 n2 st) :
    Calls Try.prog 48 #[.agg #[.int .i64 c, .slice a1 n1 c1, .slice a2 n2 c2], .bool true] w (GivesA w (answerOf c sh st) a1 n1 a2 n2) := by
  have H1 := hide h1
  have H2 := hide h2
  have hi1 : Hid (∀ k, At a1 n1 k → k ≠ w.heap.size + 1) := fun k hk => by have := h1.hi hk; omega
  have hi2 : Hid (∀ k, At a2 n2 k → k ≠ w.heap.size + 1) := fun k hk => by have := h2.hi hk; omega
  clear h1 h2
  obtain ⟨r, hr⟩ : ∃ r, formed c sh st = r := ⟨_, rfl⟩
  have HR := hide hr
  clear hr
  have HCF := hide (l7Formed_eq c a1 a2 n1 n2 c1 c2 sh st ((w.alloc (.cells #[.int .i64 c, .slice a1 n1 c1, .slice a2 n2 c2] 24)).alloc (.cells #[.int .i64 0, .slice none 0 0, .slice none 0 0] 24)) (((unhide H1).alloc _).alloc _) (((unhide H2).alloc _).alloc _) r HR)
  go_enter Try.func48, Try.ntmps48
  go_wp2_with fail
  refine (unhide HCF).mono ?_
  rintro e w1 ⟨rfl, hb1⟩
  obtain ⟨B0, B1, hB⟩ := vboxes2 hb1
  obtain ⟨x0, x1, x2, x3, x4, x5, x6⟩ := B0.all
  obtain ⟨z0, z1, z2, z3, z4, z5, z6⟩ := B1.all
  have HB := hide hB
  clear hb1 B0 B1 hB HCF
  cases r with
  | false =>
    have HS : Hid (answerOf c sh st = noView) := by show _ = _; unfold answerOf; rw [if_neg (by rw [unhide HR]; simp)]
    go_wp2
    refine bodyPost_ret (v := .tuple #[.agg #[.int .i64 0, .slice none 0 0, .slice none 0 0], .bool false]) (by simp [results, Try.results48, go_sem, z0, z1, z2]) rfl ?_
    rw [unhide HS]
    exact ⟨none, 0, 0, none, 0, 0, rfl, row_nil _ _, row_nil _ _, fun x hx => absurd rfl hx.1, fun x hx => absurd rfl hx.1, (((unhide HB).setCell (by simp <;> omega) _).setCell (by simp <;> omega) _).setCell (by simp <;> omega) _⟩
  | true =>
    have HS : Hid (answerOf c sh st = ⟨c, sh, st, true⟩) := by show _ = _; unfold answerOf; rw [if_pos (unhide HR)]
    go_wp2
    refine bodyPost_ret (v := .tuple #[.agg #[.int .i64 c, .slice a1 n1 c1, .slice a2 n2 c2], .bool true]) (by simp [results, Try.results48, go_sem, z0, z1, z2]) rfl ?_
    rw [unhide HS]
    exact ⟨a1, n1, c1, a2, n2, c2, rfl, ((unhide H1).below (Nat.le_refl _) (unhide HB)).setsV (unhide hi1) _ _ _, ((unhide H2).below (Nat.le_refl _) (unhide HB)).setsV (unhide hi2) _ _ _, fun _ h => h, fun _ h => h, (((unhide HB).setCell (by simp <;> omega) _).setCell (by simp <;> omega) _).setCell (by simp <;> omega) _⟩

end Go.Proofs.Ytadbhidpmihghaa
