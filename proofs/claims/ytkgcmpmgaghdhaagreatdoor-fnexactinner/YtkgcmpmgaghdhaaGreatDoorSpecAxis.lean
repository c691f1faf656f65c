import Derived.Test.YtkgcmpmgaghdhaaGreatDoorSpecAxisN
namespace Go.Proofs.YtkgcmpmgaghdhaaGreatDoor
open Go.RowKit

set_option maxHeartbeats 400000 in
theorem l4Without_any (b off n cap : Nat) (sh : List Int) (first : Bool) (w : World) (h : Row w (some ⟨b, off, none⟩) n sh) (hn : 0 < n) (hcap : n ≤ cap) :
    Calls Tryz.prog 88 #[.slice (some ⟨b, off, none⟩) n cap, .bool first] w fun e w' => ∃ a' cap', e = .returned (.slice a' (n - 1) cap') ∧ Own w' w.heap.size a' (n - 1) (without sh first) ∧ Below w.heap.size w w' := by
  have H := hide h
  have hlen := hide h.len
  have hsm := h.small
  clear h
  have hz : ∀ (ad : Addr), n - 1 = 0 → Row w (some ad) (n - 1) (sh.drop 1) := fun ad h0 => by
    rw [h0]
    exact ⟨by rw [List.length_drop, unhide hlen]; exact h0, by omega, .inl rfl⟩
  cases first with
  | true =>
    go_enter Tryz.func88, Tryz.ntmps88
    go_wp2_with fail
    all_goals
      refine (l3Ints_any _ _ _ (sh.drop 1) _ (by first | exact row_tail (unhide H) hn | exact hz _ (by omega))).mono ?_
      rintro e w1 ⟨a', cap', rfl, hO, hb⟩
      go_wp2
      go_ret
      exact ⟨a', cap', rfl, hO, hb⟩
  | false =>
    have HE : Hid (without sh false = sh.take (n - 1)) := by show _ = _; unfold without; rw [unhide hlen]; rfl
    have hn1 : (n : Int) - 1 = ((n - 1 : Nat) : Int) := by omega
    go_enter Tryz.func88, Tryz.ntmps88
    go_wp2_with fail
    all_goals
      refine (l3Ints_any _ _ _ (sh.take (n - 1)) _ (by first | exact row_head (unhide H) (Nat.sub_le _ _))).mono ?_
      rintro e w1 ⟨a', cap', rfl, hO, hb⟩
      go_wp2
      go_ret
      exact ⟨a', cap', rfl, by rw [unhide HE]; exact hO, hb⟩

end Go.Proofs.YtkgcmpmgaghdhaaGreatDoor
