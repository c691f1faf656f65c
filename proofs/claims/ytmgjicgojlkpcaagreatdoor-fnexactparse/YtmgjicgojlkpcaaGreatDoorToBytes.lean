import Derived.Test.YtmgjicgojlkpcaaGreatDoorBytesMark
import Derived.Deep.RegionHeld
import Derived.BigQuiet
namespace Go.Proofs.YtmgjicgojlkpcaaGreatDoor
open Go.RowKit

/-- Cells of a row that is owned. -/
theorem owns_cells {w : World} {B e size n g cap : Nat} {xs : List Value} (h : w.ownsRow B e size (.slice (some ⟨g, 0, none⟩) n cap) n xs) :
    B ≤ g ∧ g < w.heap.size ∧ (∀ i, i < n * size → w.cell? ⟨g, i, none⟩ = xs[i]?) ∧ (∀ i, w.frozen? ⟨g, i, none⟩ = false) := by
  rcases h.2 with ⟨h', _⟩ | ⟨g', cap', cur, h', hb, hg, _, _, hcs, ht⟩
  · simp at h'
  · cases h'
    refine ⟨hb, lt_of_block hg, fun i hi => ?_, fun i => frozen_of_row w g i _ _ hg⟩
    have e : cur.toList[i]? = xs[i]? := by rw [← ht, List.getElem?_take, if_pos hi]
    simpa [World.cell?, hg] using e

set_option maxHeartbeats 400000 in
theorem toByteS_any (a : Option Addr) (n cap : Nat) (zs : List Int) (w : World) (h : RowB w a n zs) (hsm : n ≤ 1048576) :
    Calls Tryz.prog 19 #[.slice a n cap] w fun e w' => ∃ g, e = .returned (.slice (some ⟨g, 0, none⟩) n n) ∧ w.heap.size ≤ g ∧ g < w'.heap.size ∧ OwnB w' w.heap.size (some ⟨g, 0, none⟩) n zs ∧ Below w.heap.size w w' := by
  obtain ⟨hlen, hat⟩ := h
  obtain ⟨i0, hi, hz0, hz1, hz2⟩ := info_parts info_byte
  go_enter Tryz.func19, Tryz.ntmps19
  go_wp2_with (at_make; refine wpList_make_full _ rfl _ _ 33 rfl w.heap.size 5 i0 (.int .u8 0) 1 Tryz.underlying33 hi hz0 hz1 _ _ _ _ n rfl rfl rfl rfl (by rw [hz2]; omega) (by unfold maxLen; omega) (Nat.le_refl _) ?_; intro w1 hown hgrow)
  obtain ⟨_, hgl, hcc, hff⟩ := owns_cells hown
  have hxl := hown.1
  have hbel : Below w.heap.size w w1 := (Below.refl _ _).grown hgrow (Nat.le_refl _) (by simp)
  have HS0 : Hid (∀ i, i < n → (w1.cell? ⟨w.heap.size, i, none⟩).isSome = true) := fun i hi => by rw [hcc i (by omega), List.getElem?_eq_getElem (by omega)]; rfl
  have HF0 : Hid (∀ i, i < n → w1.frozen? ⟨w.heap.size, i, none⟩ = false) := fun i _ => hff i
  clear hown hgrow hi hz0 hz1 hz2 hcc hff hxl
  go_wp2
  go_loopw [4] (fun i wr => ∃ k : Nat, k ≤ n ∧ i = .int .i64 k ∧ w.heap.size < wr.heap.size ∧ Hid (∀ i, i < k → wr.cell? ⟨w.heap.size, i, none⟩ = some (.int .u8 (zs.getD i 0))) ∧ Hid (∀ i, i < n → (wr.cell? ⟨w.heap.size, i, none⟩).isSome = true) ∧ Hid (∀ i, i < n → wr.frozen? ⟨w.heap.size, i, none⟩ = false) ∧ Hid (Below w.heap.size w wr)) (fun i _ => n - (intOf i).toNat)
  case atStart => exact ⟨0, Nat.zero_le _, rfl, hgl, (fun i hi => absurd hi (Nat.not_lt_zero _)), HS0, HF0, hbel⟩
  case round =>
    obtain ⟨k, hk, rfl, hgz, HC, HS, HF, HB⟩ := hrel
    clear HS0 HF0 hbel
    by_cases hlt : k < n
    · have hat' : ∃ b off, a = some ⟨b, off, none⟩ ∧ wr.cell? ⟨b, off + k, none⟩ = some (.int .u8 (zs.getD k 0)) := by
        rcases hat with h0 | ⟨b, off, rfl, hlt', hc⟩
        · omega
        · exact ⟨b, off, rfl, ((unhide HB).cell (p := ⟨b, off + k, none⟩) hlt').trans (hc k hlt)⟩
      obtain ⟨b, off, rfl, hc⟩ := hat'
      clear hat
      obtain ⟨x, hx⟩ : ∃ x, x = zs.getD k 0 := ⟨_, rfl⟩
      rw [← hx] at hc
      have HX := hide hx
      have hs1 := unhide HS k hlt
      have hf2 := unhide HF k hlt
      obtain ⟨u, hc2⟩ := Option.isSome_iff_exists.mp hs1
      clear hx hs1
      go_wp2
      go_roundw
      case rel =>
        refine ⟨k + 1, by omega, by go_num, by simpa using hgz, fun i hi => ?_, fun i hi => ?_, fun i hi => ?_, (unhide HB).setCell (Nat.le_refl _) _⟩
        · by_cases hij : i = k
          · subst hij
            rw [World.cell?_setCell_same _ _ _ hc2, unhide HX]
          · rw [World.cell?_setCell_other _ _ _ _ (by simp <;> omega)]
            exact unhide HC i (by omega)
        · by_cases hij : i = k
          · subst hij
            rw [World.cell?_setCell_same _ _ _ hc2]; rfl
          · rw [World.cell?_setCell_other _ _ _ _ (by simp <;> omega)]
            exact unhide HS i hi
        · simpa using unhide HF i hi
      case measure => simp [intOf]; omega
    · have hkn : k = n := by omega
      subst hkn
      go_wp2
      go_ret
      refine ⟨_, rfl, Nat.le_refl _, hgz, ⟨hlen, by omega, .inr ⟨w.heap.size, 0, rfl, Nat.le_refl _, hgz, fun i hi => ?_, fun i hi => ?_⟩⟩, unhide HB⟩
      · rw [Nat.zero_add]; exact unhide HC i hi
      · rw [Nat.zero_add]; exact unhide HF i hi


end Go.Proofs.YtmgjicgojlkpcaaGreatDoor
