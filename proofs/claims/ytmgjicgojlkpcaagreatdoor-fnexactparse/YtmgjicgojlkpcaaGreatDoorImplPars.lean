import Derived.Test.YtmgjicgojlkpcaaGreatDoorImplPrimO
import Derived.Test.YtmgjicgojlkpcaaGreatDoorPPut
namespace Go.Proofs.YtmgjicgojlkpcaaGreatDoor
open Go.RowKit

/-- What lies ready for the developers' parser. -/
structure IEnv (Z : World) (ta : Option Addr) (tn : Nat) (ts : List Tok) (bytes : Nat) : Prop where
  row : RowT Z ta tn ts
  ok : ∀ y ∈ ts, TokOk y
  few : tn ≤ 4096
  room : bytes ≤ 4096
  gl : GlTree Z
  err : ∃ t a, Z.cell? ⟨1, 0, none⟩ = some (.iface t (.pointer (some a)))

abbrev IPS (Z : World) (p : Nat) (ta : Option Addr) (tn tc bytes : Nat) : World → Nat → Value → List NodeC → Prop := PS 88 Z p (.slice ta tn tc) (.int .i64 (bytes : Nat))

theorem tokA_ok {ts : List Tok} (h : ∀ y ∈ ts, TokOk y) (bytes i : Nat) : TokOk (tokA ts bytes i) ∨ (tokA ts bytes i).k = 0 := by
  by_cases hi : i < ts.length
  · have e : tokA ts bytes i = ts[i] := by unfold tokA; simp [List.getD_eq_getElem?_getD, hi]
    rw [e]
    exact .inl (h _ (List.getElem_mem _))
  · right
    unfold tokA
    rw [List.getD_eq_getElem?_getD, List.getElem?_eq_none (by omega)]
    rfl

theorem tokA_cl {ts : List Tok} (bytes i : Nat) : clT (tokA ts bytes i) = (seenT ts).cl i := by
  show _ = if i < ts.length then clT (tokA ts 0 i) else 0
  by_cases hi : i < ts.length
  · rw [if_pos hi]
    have e : ∀ b, tokA ts b i = ts[i] := fun b => by unfold tokA; simp [List.getD_eq_getElem?_getD, hi]
    rw [e, e]
  · rw [if_neg hi]
    unfold tokA
    rw [List.getD_eq_getElem?_getD, List.getElem?_eq_none (by omega)]
    rfl

theorem RowT.belowP {w w' : World} {a : Option Addr} {n : Nat} {ts : List Tok} (h : RowT w a n ts) (hb : Below w.heap.size w w') : RowT w' a n ts := by
  refine ⟨h.len, ?_⟩
  rcases h.at_ with h0 | ⟨b, off, rfl, hlt, hc⟩
  · exact .inl h0
  · exact .inr ⟨b, off, rfl, Nat.lt_of_lt_of_le hlt hb.size, fun i hi => (hb.cell (p := ⟨b, off + i, none⟩) hlt).trans (hc i hi)⟩

section
variable {Z : World} {ta : Option Addr} {tn : Nat} {ts : List Tok} {bytes : Nat} (E : IEnv Z ta tn ts bytes) {p tc : Nat} {w : World} {i : Nat} {nd : Value} {xs : List NodeC}

theorem aheadP (E : IEnv Z ta tn ts bytes) (h : IPS Z p ta tn tc bytes w i nd xs) (hi : i ≤ 4200) {W : World} (hW : Below w.heap.size w W) (c : Nat) (hc : c ≤ 4200) :
    Calls Tryz.prog 158 #[.pointer (some ⟨p, 0, none⟩), .int .i64 (c : Nat)] W fun e w' => e = .returned (tokW (tokA ts bytes (i + c))) ∧ Below W.heap.size W w' := by
  have h' := h.below hW
  obtain ⟨p0, p1, p2, p3, f0, f1, f2, f3, hpl⟩ := h'.all
  exact ahead_any W p tn tc i c bytes ta ts (E.row.belowP h'.low) p0 p1 p2 hpl (by omega)

theorem signT (E : IEnv Z ta tn ts bytes) (q : Nat) {c : Nat} (hc : c ∈ signCs) {s : ByteArray} (hs : s = bstr (encZ ((c : Nat) : Int))) (w : World) :
    Calls Tryz.prog 159 #[tokW (tokA ts bytes q), .string s] w fun e w' => e = .returned (.bool (decide ((seenT ts).cl q = c))) ∧ Below w.heap.size w w' := by
  have := isSign_any (tokA ts bytes q).k (tokA ts bytes q).n ((tokA ts bytes q).p : Nat) (tokA ts bytes q).t s (decide ((seenT ts).cl q = c)) (by rw [hs]; exact seen_sign E.ok bytes q hc) w
  exact this

set_option maxRecDepth 20000 in
set_option maxHeartbeats 2000000 in
theorem isAheadP (E : IEnv Z ta tn ts bytes) (h : IPS Z p ta tn tc bytes w i nd xs) (hi : i ≤ 4200) {c : Nat} (hc : c ∈ signCs) {s : ByteArray} (hs : s = bstr (encZ ((c : Nat) : Int))) :
    Calls Tryz.prog 191 #[.pointer (some ⟨p, 0, none⟩), .string s] w fun e w' => e = .returned (.bool (decide ((seenT ts).cl i = c))) ∧ Below w.heap.size w w' := by
  have HA := hide (aheadP E h hi (Below.refl _ _) 0 (by omega))
  have HS := hide (fun W => signT E (i + 0) hc hs W)
  rw [Nat.add_zero] at HA HS
  clear hs hc h
  go_enter Tryz.func191, Tryz.ntmps191
  go_wp2_with (first | (go_at_call 158; refine (unhide HA).mono ?_; rintro e w5 ⟨rfl, hb5⟩; have HB5 := hide hb5; clear hb5) | (go_at_call 159; refine (unhide HS _).mono ?_; rintro e w6 ⟨rfl, hb6⟩; have HB6 := hide ((unhide HB5).trans (hb6.mono (unhide HB5).size)); clear hb6))
  go_ret
  exact ⟨rfl, unhide HB6⟩

end
end Go.Proofs.YtmgjicgojlkpcaaGreatDoor
