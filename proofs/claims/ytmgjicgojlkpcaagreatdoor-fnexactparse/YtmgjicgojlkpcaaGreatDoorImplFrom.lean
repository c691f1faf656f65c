import Derived.Test.YtmgjicgojlkpcaaGreatDoorImplOperand
namespace Go.Proofs.YtmgjicgojlkpcaaGreatDoor
open Go.RowKit

section
variable {Z w w0 w1 : World} {p i j : Nat} {nd nd0 nd1 v : Value} {zs : List Int} {xs ys : List NodeC} {bx : List Nat} {ls : List (List NodeD)} {ta : Option Addr} {tn tc bytes : Nat} {ts : List Tok}

/-- The parts in their brackets. -/
def inBr (ts : List Tok) (f j : Nat) : Option Res := bindR (prs (seenT ts) f 2 (j + 1) []) fun q l => if (seenT ts).cl q = 93 then okR (q + 1) l else badR q

theorem own_some {B : Nat} {a : Option Addr} {n c : Nat} {L : List Int} (h : w.ownsRow B 3 1 (.slice a n c) n (L.map (Value.int .i64))) (hn : 0 < n) : ∃ ad, a = some ad ∧ ∀ (j : Nat) u, (L.map (Value.int .i64))[j]? = some u → w.cell? (ad.add j) = some u := by
  rcases h.2 with ⟨_, h0⟩ | ⟨g, cap, cur, e, _, hh, _, _, hs, ht⟩
  · omega
  · have ea : a = some ⟨g, 0, none⟩ := by injection e
    subst ea
    refine ⟨_, rfl, fun j u hu => ?_⟩
    refine World.news_of_block hh j u ?_
    rw [← ht] at hu
    have := List.getElem?_take (l := cur.toList) (i := n * 1) (j := j)
    rw [hu] at this
    split at this
    · exact this.symm
    · cases this

theorem one_is (L : List Int) : ∀ u ∈ L.map (Value.int .i64), u.oneCell' = true := by
  intro u hu
  obtain ⟨z, _, rfl⟩ := List.mem_map.1 hu
  rfl

/-- endWithExpr, whatever comes of it. -/
theorem endP {R : Nat → Nat → List NodeD → Option Res} {L : List Int} {s2 : Option Addr} {c2 : Nat} (hL : L = placesT xs.length ls) (h : KT Z p ta tn tc bytes w0 nd0 xs [] ls i w nd (.slice s2 L.length c2) L) (k n : Int) (s : ByteArray) (hX : ∀ r, R 0 i [] = some r → ReadI Z p ta tn tc ts bytes 166 #[.pointer (some ⟨p, 0, none⟩)] i r) (hone : ∀ q l, R 0 i [] = some (true, q, l) → ∃ t, l = [t] ∧ q ≤ ts.length ∧ i ≤ q ∧ t.length ≤ 4 * (q - i)) (htl : ts.length ≤ 4096) (hroom : xs.length + (rowT ls).length + 4 * (5000 - i) ≤ 100000) (hLl : L.length ≤ 100000)
    {r : Res} (hr : endS R k n s ls i = some r) :
    Calls Tryz.prog 161 #[.pointer (some ⟨p, 0, none⟩), .agg #[.int .i64 k, .int .i64 n, .int .i64 0, .string s, .slice none 0 0, .slice s2 L.length c2]] w fun e w' => ∃ z v, e = .returned (.tuple #[.int .i64 z, v]) ∧ GaveI Z p ta tn tc ts bytes w0 nd0 xs r (.returned (.tuple #[.int .i64 z, v])) w' := by
  unfold endS at hr
  rcases bind_cases hr with ⟨q, l, hx, hk⟩ | ⟨q, l, hx, rfl⟩
  · obtain ⟨t, rfl, hq1, hq2, hq3⟩ := hone q l hx
    cases hk
    exact (end_ok hL h k n 0 s (hX _ hx) hroom (by rw [row_app, row_one]; omega) hLl).mono fun _ _ h => GaveI.tup h
  · exact (end_no h k n 0 s (hX _ hx) hroom).mono fun _ _ h => GaveI.tup h

end
end Go.Proofs.YtmgjicgojlkpcaaGreatDoor
