import Derived.Test.YtmgjicgojlkpcaaGreatDoorTokSeen
import Derived.Test.YtmgjicgojlkpcaaGreatDoorPPut
import Derived.Test.YtmgjicgojlkpcaaGreatDoorSpecName
import Derived.Test.YtmgjicgojlkpcaaGreatDoorSpecPrims
namespace Go.Proofs.YtmgjicgojlkpcaaGreatDoor
open Go.RowKit

/-- What lies ready for the specification's parser. -/
structure SEnv (Z : World) (ta : Option Addr) (tn : Nat) (ts : List Tok) : Prop where
  row : RowT Z ta tn ts
  ok : ∀ y ∈ ts, TokOk y
  nam : ∀ y ∈ ts, y.k = 3 → ∀ hi, nameB y.t hi = (decide (bt y.t 0 ≤ 90) == hi)
  siz : ∀ y ∈ ts, y.t.size ≤ 1048576
  few : tn ≤ 4096

abbrev SPS (Z : World) (p : Nat) (ta : Option Addr) (tn tc : Nat) (b : Bool) : World → Nat → Value → List NodeC → Prop := PS 81 Z p (.slice ta tn tc) (.bool b)

/-- The sign at a place, or nothing. -/
def sgT (ts : List Tok) (j : Nat) : ByteArray := if (tokA ts 0 j).k = 4 then (tokA ts 0 j).t else ⟨#[]⟩

theorem tokA_in {ts : List Tok} {j : Nat} {y : Tok} (h : ts[j]? = some y) (b : Nat) : tokA ts b j = y := by unfold tokA; rw [List.getD_eq_getElem?_getD, h]; rfl
theorem tokA_out {ts : List Tok} {j : Nat} (h : ¬ j < ts.length) (b : Nat) : tokA ts b j = ⟨0, 0, ⟨#[]⟩, b⟩ := by unfold tokA; rw [List.getD_eq_getElem?_getD, List.getElem?_eq_none (by omega)]; rfl

theorem RowT.belowS {w w' : World} {a : Option Addr} {n : Nat} {ts : List Tok} (h : RowT w a n ts) (hb : Below w.heap.size w w') : RowT w' a n ts := by
  refine ⟨h.len, ?_⟩
  rcases h.at_ with h0 | ⟨b, off, rfl, hlt, hc⟩
  · exact .inl h0
  · exact .inr ⟨b, off, rfl, Nat.lt_of_lt_of_le hlt hb.size, fun i hi => (hb.cell (p := ⟨b, off + i, none⟩) hlt).trans (hc i hi)⟩

/-- A sign held against a text. -/
theorem sg_is {ts : List Tok} (hok : ∀ y ∈ ts, TokOk y) (j : Nat) {c : Nat} (hc : c ∈ signCs) {s : ByteArray} (hs : s = bstr (encZ ((c : Nat) : Int))) : ((sgT ts j).toList == s.toList) = decide ((seenT ts).cl j = c) := by
  rw [← seen_sign hok 0 j hc, ← hs]
  unfold sgT
  split
  · rename_i h
    rw [decide_eq_true h, Bool.true_and]
  · rename_i h
    rw [decide_eq_false h, Bool.false_and]
    have hge : 40 ≤ c := of_decide_eq_true (List.all_eq_true.mp sign_ge c hc)
    have : s.toList ≠ [] := fun e => by
      have h0 : signOf s = c := by rw [hs]; exact signOf_at hc
      have h1 : s = ⟨#[]⟩ := by
        rw [Lib.toList_data] at e
        exact ByteArray.ext (Array.toList_inj.1 e)
      rw [h1] at h0
      have h2 : signOf ⟨#[]⟩ = 0 := by kernel_rfl
      omega
    have e0 : (⟨#[]⟩ : ByteArray).toList = [] := by rw [Lib.toList_data]
    rw [e0]
    cases h' : s.toList with
    | nil => exact absurd h' this
    | cons a l => rfl

section
variable {Z : World} {ta : Option Addr} {tn : Nat} {ts : List Tok} {p tc : Nat} {w : World} {i : Nat} {nd : Value} {xs : List NodeC} {b : Bool}

set_option maxRecDepth 20000 in
set_option maxHeartbeats 2000000 in
theorem spSignQ (E : SEnv Z ta tn ts) (h : SPS Z p ta tn tc b w i nd xs) {z : Int} {j : Nat} (hz : (i : Int) + z = (j : Int)) (hj : j ≤ 4200) :
    Calls Tryz.prog 91 #[.pointer (some ⟨p, 0, none⟩), .int .i64 z] w fun e w' => e = .returned (.string (sgT ts j)) ∧ ∃ m, w' = w.drewN m := by
  have hT := E.row.belowS h.low
  have hln := hT.len
  obtain ⟨p0, p1, p2, p3, f0, f1, f2, f3, hpl⟩ := h.all
  have hwr : IntKind.i64.wrap (j : Int) = (j : Int) := by rw [IntKind.wrap_i64]; omega
  clear h E
  by_cases hlt : j < tn
  case neg =>
    have hl : decide (j < tn) = false := decide_eq_false (by omega)
    have hl2 : ¬ (j : Int) < (tn : Int) := by omega
    have HE : Hid (sgT ts j = ⟨#[]⟩) := by show _ = _; unfold sgT; rw [tokA_out (by omega)]; rfl
    clear hT hlt hln
    go_enter Tryz.func91, Tryz.ntmps91
    go_wp2_with fail
    go_big_quiet (fail)
    go_wp2_with fail
    go_ret
    exact ⟨by rw [unhide HE]; rfl, (by first | exact ⟨_, rfl⟩ | exact ⟨_, World.drewN_drewN _ _ _⟩)⟩
  case pos =>
    have hl : decide (j < tn) = true := decide_eq_true (by omega)
    have hl2 : (j : Int) < (tn : Int) := by omega
    have hj0 : (0 : Int) ≤ (j : Int) := by omega
    obtain ⟨tb, off, y, rfl, hbl, hy, a0, a1, a2, a3⟩ := hT.get hlt
    have hty := tokA_in hy 0
    obtain ⟨yk, yn, yt, yp⟩ := y
    by_cases h4 : yk = 4
    · subst h4
      have HE : Hid (sgT ts j = yt) := by show _ = _; unfold sgT; rw [hty]; rfl
      clear hT hlt hln hy hty
      go_enter Tryz.func91, Tryz.ntmps91
      go_wp2_with fail
      go_big_quiet (fail)
      go_wp2_with fail
      go_big_quiet (fail)
      go_wp2_with fail
      go_ret
      exact ⟨by rw [unhide HE]; rfl, (by first | exact ⟨_, rfl⟩ | exact ⟨_, World.drewN_drewN _ _ _⟩)⟩
    · have h4' : (yk == 4) = false := by simpa using h4
      have HE : Hid (sgT ts j = ⟨#[]⟩) := by show _ = _; unfold sgT; rw [hty, if_neg h4]
      clear hT hlt hln hy hty h4
      go_enter Tryz.func91, Tryz.ntmps91
      go_wp2_with fail
      go_big_quiet (fail)
      go_wp2_with fail
      go_ret
      exact ⟨by rw [unhide HE]; rfl, (by first | exact ⟨_, rfl⟩ | exact ⟨_, World.drewN_drewN _ _ _⟩)⟩

set_option maxRecDepth 20000 in
set_option maxHeartbeats 2000000 in
theorem spKindQ (E : SEnv Z ta tn ts) (h : SPS Z p ta tn tc b w i nd xs) :
    Calls Tryz.prog 143 #[.pointer (some ⟨p, 0, none⟩)] w fun e w' => e = .returned (.int .i64 (tokA ts 0 i).k) ∧ ∃ m, w' = w.drewN m := by
  have hT := E.row.belowS h.low
  have hln := hT.len
  obtain ⟨p0, p1, p2, p3, f0, f1, f2, f3, hpl⟩ := h.all
  clear h E
  by_cases hlt : i < tn
  case neg =>
    have hl : decide (i < tn) = false := decide_eq_false (by omega)
    have hl2 : ¬ (i : Int) < (tn : Int) := by omega
    have HE : Hid ((tokA ts 0 i).k = 0) := by show _ = _; rw [tokA_out (by omega)]
    clear hT hlt hln
    go_enter Tryz.func143, Tryz.ntmps143
    go_wp2_with fail
    go_big_quiet (fail)
    go_wp2_with fail
    go_ret
    exact ⟨by rw [unhide HE]; rfl, (by first | exact ⟨_, rfl⟩ | exact ⟨_, World.drewN_drewN _ _ _⟩)⟩
  case pos =>
    have hl : decide (i < tn) = true := decide_eq_true (by omega)
    have hl2 : (i : Int) < (tn : Int) := by omega
    obtain ⟨tb, off, y, rfl, hbl, hy, a0, a1, a2, a3⟩ := hT.get hlt
    have HE : Hid ((tokA ts 0 i).k = y.k) := by show _ = _; rw [tokA_in hy 0]
    obtain ⟨yk, yn, yt, yp⟩ := y
    clear hT hlt hln hy
    go_enter Tryz.func143, Tryz.ntmps143
    go_wp2_with fail
    go_big_quiet (fail)
    go_wp2_with fail
    go_big_quiet (fail)
    go_wp2_with fail
    go_ret
    exact ⟨by rw [unhide HE]; rfl, (by first | exact ⟨_, rfl⟩ | exact ⟨_, World.drewN_drewN _ _ _⟩)⟩

theorem spSign (E : SEnv Z ta tn ts) (h : SPS Z p ta tn tc b w i nd xs) {z : Int} {j : Nat} (hz : (i : Int) + z = (j : Int)) (hj : j ≤ 4200) :
    Calls Tryz.prog 91 #[.pointer (some ⟨p, 0, none⟩), .int .i64 z] w fun e w' => e = .returned (.string (sgT ts j)) ∧ Below w.heap.size w w' := (spSignQ E h hz hj).mono fun _ _ ⟨h1, m, h2⟩ => ⟨h1, by rw [h2]; exact Below.drewN (Below.refl _ _) m⟩
theorem spKind (E : SEnv Z ta tn ts) (h : SPS Z p ta tn tc b w i nd xs) :
    Calls Tryz.prog 143 #[.pointer (some ⟨p, 0, none⟩)] w fun e w' => e = .returned (.int .i64 (tokA ts 0 i).k) ∧ Below w.heap.size w w' := (spKindQ E h).mono fun _ _ ⟨h1, m, h2⟩ => ⟨h1, by rw [h2]; exact Below.drewN (Below.refl _ _) m⟩

end
end Go.Proofs.YtmgjicgojlkpcaaGreatDoor
