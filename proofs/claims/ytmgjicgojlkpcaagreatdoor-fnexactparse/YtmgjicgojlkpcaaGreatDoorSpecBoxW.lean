import Derived.Test.YtmgjicgojlkpcaaGreatDoorSpecLooks
namespace Go.Proofs.YtmgjicgojlkpcaaGreatDoor
open Go.RowKit

/-- The writer, and a node's box of the call's own, in a run that came from w0. -/
structure SB (Z : World) (p : Nat) (a : Option Addr) (n cap : Nat) (w0 : World) (g0 q : Nat) (v0 v1 v2 v3 v4 v5 : Value) (w : World) (g gc : Nat) (st : List UInt8 × Bool) : Prop where
  sx : SX Z p a n cap w g gc st
  box : NBox w q v0 v1 v2 v3 v4 v5
  nep : q ≠ p
  neg : q ≠ g
  but : But (fun x => x = p ∨ x = g0) w0 w
  at_ : g = g0 ∨ w0.heap.size ≤ g

section
variable {Z w w0 w' : World} {p : Nat} {a : Option Addr} {n cap g g0 gc q : Nat} {v0 v1 v2 v3 v4 v5 : Value} {st st' : List UInt8 × Bool}

theorem SB.new (h : SX Z p a n cap w g gc st) (v0 v1 v2 v3 v4 v5 : Value) : SB Z p a n cap w g w.heap.size v0 v1 v2 v3 v4 v5 (w.alloc (.cells #[v0, v1, v2, v3, v4, v5] 47)) g gc st := by
  have hl := h.sw.lt
  exact ⟨h.below ((Below.refl _ _).alloc (Nat.le_refl _) _), NBox.new _ _ _ _ _ _ _, by omega, by omega, But.of_below ((Below.refl _ _).alloc (Nat.le_refl _) _), .inl rfl⟩

theorem SB.went (h : SB Z p a n cap w0 g0 q v0 v1 v2 v3 v4 v5 w g gc st) (hw : Went Z p a n cap w g st' w') : ∃ g' gc', SB Z p a n cap w0 g0 q v0 v1 v2 v3 v4 v5 w' g' gc' st' := by
  have hq := h.box.lt
  have hnp := h.nep
  have hng := h.neg
  obtain ⟨g1, gc1, h1, h2, h3⟩ := hw
  obtain ⟨g2, gc2, k1, k2, k3⟩ := Went.trans h.but h.at_ ⟨g1, gc1, h1, h2, h3⟩
  exact ⟨g1, gc1, h1, h.box.but h2 (by omega), hnp, by omega, k2, by have := h.at_; have := h.but.size; omega⟩

theorem SB.below (h : SB Z p a n cap w0 g0 q v0 v1 v2 v3 v4 v5 w g gc st) (hb : Below w.heap.size w w') : SB Z p a n cap w0 g0 q v0 v1 v2 v3 v4 v5 w' g gc st := by
  obtain ⟨g2, gc2, k1, k2, k3⟩ := Went.trans h.but h.at_ ⟨g, gc, h.sx.below hb, But.of_below hb, .inl rfl⟩
  exact ⟨h.sx.below hb, h.box.below h.box.lt hb, h.nep, h.neg, k2, h.at_⟩

theorem SB.done (h : SB Z p a n cap w0 g0 q v0 v1 v2 v3 v4 v5 w g gc st) : Went Z p a n cap w0 g0 st w := ⟨g, gc, h.sx, h.but, h.at_⟩

/-- A call that writes, in such a run. -/
theorem SB.call (h : SB Z p a n cap w0 g0 q v0 v1 v2 v3 v4 v5 w g gc st) {f : Nat} {args : Array Value} {F : List UInt8 × Bool → List UInt8 × Bool} (hs : SaysP Z p a n cap f args F) (hl : lenP (F st) ≤ mostP) :
    Calls Tryz.prog f args w fun e w' => (∃ v, e = .returned v) ∧ ∃ g' gc', SB Z p a n cap w0 g0 q v0 v1 v2 v3 v4 v5 w' g' gc' (F st) := by
  refine (hs w g gc st h.sx hl).mono ?_
  rintro e w' ⟨hv, hw⟩
  exact ⟨hv, h.went hw⟩

/-- The same from a world that the run has grown to. -/
theorem SB.callB (h : SB Z p a n cap w0 g0 q v0 v1 v2 v3 v4 v5 w g gc st) {w1 : World} (hb : Below w.heap.size w w1) {f : Nat} {args : Array Value} {F : List UInt8 × Bool → List UInt8 × Bool} (hs : SaysP Z p a n cap f args F) (hl : lenP (F st) ≤ mostP) :
    Calls Tryz.prog f args w1 fun e w' => (∃ v, e = .returned v) ∧ ∃ g' gc', SB Z p a n cap w0 g0 q v0 v1 v2 v3 v4 v5 w' g' gc' (F st) := (h.below hb).call hs hl

end

theorem says_sign (Z : World) (p : Nat) (a : Option Addr) (n cap : Nat) (s : ByteArray) (c : Nat) (h : s.data.toList = looksD.sg c) : SaysP Z p a n cap 72 #[.pointer (some ⟨p, 0, none⟩), .string s, .bool false] (fun st => sayS looksD st c) :=
  says_congr (says_say Z p a n cap s false) (fun st => by unfold sayS; rw [h])

/-- A row's end cut off. -/
theorem Row.cutTo {w : World} {b off n : Nat} {zs : List Int} (h : Row w (some ⟨b, off, none⟩) n zs) {m : Nat} (hm : m ≤ n) : Row w (some ⟨b, off, none⟩) m (zs.take m) := by
  have hl := h.len
  refine ⟨by rw [List.length_take]; omega, by have := h.small; omega, ?_⟩
  rcases h.at_ with h0 | ⟨b', off', e, hlt, hc⟩
  · exact .inl (by omega)
  · cases e
    refine .inr ⟨b, off, rfl, hlt, fun i hi => ?_⟩
    rw [hc i (by omega)]
    simp [List.getD_eq_getElem?_getD, hi]

/-- A row's first element cut off. -/
theorem Row.cut1 {w : World} {b off n : Nat} {zs : List Int} (h : Row w (some ⟨b, off, none⟩) (n + 1) zs) : Row w (some ⟨b, off + 1, none⟩) n (zs.drop 1) := by
  have hl := h.len
  refine ⟨by rw [List.length_drop]; omega, by have := h.small; omega, ?_⟩
  rcases h.at_ with h0 | ⟨b', off', e, hlt, hc⟩
  · omega
  · cases e
    refine .inr ⟨b, off + 1, rfl, hlt, fun i hi => ?_⟩
    have := hc (i + 1) (by omega)
    rw [show off + 1 + i = off + (i + 1) by omega, this]
    simp [List.getD_eq_getElem?_getD]

end Go.Proofs.YtmgjicgojlkpcaaGreatDoor
