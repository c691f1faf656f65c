import Derived.Test.YtcjhbeljhmocbaaDoorImplNumText
namespace Go.Proofs.YtcjhbeljhmocbaaDoor
open Go.RowKit

theorem numberText_any (n : Int) (hn : -1000000000000000 ≤ n ∧ n ≤ 1000000000000000) (w : World) (hG : GlS w) :
    Calls Tryd.prog 43 #[.int .i64 n] w fun e w' => e = .returned (.string (bstr (numT n))) ∧ Below w.heap.size w w' := by
  have HC := hide (fun W (hW : GlS W) => spelling_num n hn W hW)
  have HG := hide hG
  clear hG hn
  go_enter Tryd.func43, Tryd.ntmps43
  go_wp2_with fail
  refine (unhide HC _ (by exact unhide HG)).mono ?_
  rintro e w1 ⟨rfl, hb⟩
  have HB := hide hb
  clear hb
  go_wp2_with fail
  go_ret
  exact ⟨rfl, unhide HB⟩

theorem below_iter (w : World) (s : ByteArray) (pos : Nat) : Below w.heap.size w (w.iter s pos) := (Below.refl _ _).alloc (Nat.le_refl _) _

theorem widthOf_num (n : Int) (hn : -1000000000000000 ≤ n ∧ n ≤ 1000000000000000) (w : World) :
    Calls Tryd.prog 42 #[.string (bstr (numT n))] w fun e w' => e = .returned (.int .i64 (wid n : Nat)) ∧ Below w.heap.size w w' := by
  have HC : Hid (∀ W, Calls Tryd.prog 47 #[.string (bstr (numT n))] W fun e w' => e = .returned (.int .i64 (wid n : Nat)) ∧ Below W.heap.size W w') := fun W =>
    (Any.utf8_RuneCountInString Tryd.runeCnt (bstr (numT n)) W (by
      have h1 := decZ_le 15 n.natAbs (by omega)
      rw [bstr_size]
      unfold numT
      split <;> simp <;> omega)).mono (by
        rintro e w' ⟨rfl, pos, rfl⟩
        exact ⟨by rw [show Lib.runeCount (bstr (numT n)) = wid n from text_count n], below_iter _ _ _⟩)
  obtain ⟨s, hs⟩ : ∃ s, bstr (numT n) = s := ⟨_, rfl⟩
  rw [hs] at HC ⊢
  clear hn hs
  go_enter Tryd.func42, Tryd.ntmps42
  go_wp2_with fail
  refine (unhide HC _).mono ?_
  rintro e w1 ⟨rfl, hb⟩
  have HB := hide hb
  clear hb
  go_wp2_with fail
  go_ret
  exact ⟨rfl, unhide HB⟩

end Go.Proofs.YtcjhbeljhmocbaaDoor
