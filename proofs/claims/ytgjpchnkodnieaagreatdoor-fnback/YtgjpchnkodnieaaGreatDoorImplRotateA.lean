import Derived.Test.YtgjpchnkodnieaaGreatDoorImplRotate
namespace Go.Proofs.YtgjpchnkodnieaaGreatDoor
open Go.RowKit

def turnedAt (sh : List Int) (fl : Bool) : Int := if fl then 0 else (sh.length : Int) - 1

theorem rot_vals {c d : Bool} {sh dt sh' dt' : List Int} {fl : Bool} (h1 : arrOk c sh dt = true) (h2 : arrOk d sh' dt' = true) (h : singleCode c dt.length = 0) :
    rotate c d sh dt sh' dt' fl = ⟨d, sh', vals (gatherAt d sh' dt' (rotF sh' (turnedAt sh' fl) (dt.getD 0 0)) sh') dt'.length, 0⟩ := by
  obtain ⟨hin, hpr, _⟩ := shapeIn_of h2
  by_cases hs : sh' = []
  · subst hs
    rw [rotate_none h1 h2 h (.inl rfl)]
    have hl : dt'.length = 1 := by simp [prodAll] at hpr; omega
    obtain ⟨x, rfl⟩ := List.length_eq_one_iff.1 hl
    simp [vals, gatherAt, insideN, place, placeN]
  · by_cases hd : dt' = []
    · subst hd
      rw [rotate_none h1 h2 h (.inr rfl)]
      simp [vals]
    · have hpos : 0 < dt'.length := List.length_pos_iff.mpr hd
      have hf : Full sh' := full_of hin (by rw [hpr]; omega)
      have hl : 0 < sh'.length := List.length_pos_iff.mpr hs
      have hat : axisAt sh' fl < sh'.length := by unfold axisAt; split <;> omega
      have hz : turnedAt sh' fl = (axisAt sh' fl : Nat) := by unfold turnedAt axisAt; cases fl <;> simp; omega
      have hn0 := hf _ hat
      have hA0 := (hin.drop (axisAt sh' fl + 1)).bd.1
      obtain ⟨n, hn⟩ : ∃ n : Nat, axisN sh' fl = n := ⟨(axisN sh' fl).toNat, by unfold axisN; omega⟩
      obtain ⟨A, hA⟩ : ∃ A : Nat, axisA sh' fl = A := ⟨(axisA sh' fl).toNat, by unfold axisA; omega⟩
      have hnp : 0 < n := by unfold axisN at hn; omega
      have hm := modOf_pos hnp (dt.getD 0 0)
      obtain ⟨e, he⟩ : ∃ e : Nat, modOf n (dt.getD 0 0) = e := ⟨(modOf n (dt.getD 0 0)).toNat, by omega⟩
      rw [rotate_go h1 h2 h hs hd n A e hn hA he, hz]
      congr 1
      exact vals_same fun t ht => by rw [rot_gather hf hat t (by rw [hpr]; omega) n A e hn hA he]

theorem implRotate_any (c d : Bool) (a1 a2 b1 b2 : Option Addr) (n1 n2 m1 m2 c1 c2 d1 d2 : Nat) (sh dt sh' dt' : List Int) (fl : Bool) (w : World) (h1 : Row w a1 n1 sh) (h2 : Row w a2 n2 dt) (k1 : Row w b1 m1 sh') (k2 : Row w b2 m2 dt') :
    Calls Tryz.prog 17 #[.agg #[.bool c, .slice a1 n1 c1, .slice a2 n2 c2], .agg #[.bool d, .slice b1 m1 d1, .slice b2 m2 d2], .bool fl] w (GivesOwn w (rotate c d sh dt sh' dt' fl)) := by
  cases hok : arrOk c sh dt with
  | false => rw [rotate_bad1 hok]; exact implRotate_bad1 c d a1 a2 b1 b2 n1 n2 m1 m2 c1 c2 d1 d2 sh dt fl w h1 h2 hok
  | true =>
    cases hok' : arrOk d sh' dt' with
    | false => rw [rotate_bad2 hok']; exact implRotate_bad2 c d a1 a2 b1 b2 n1 n2 m1 m2 c1 c2 d1 d2 sh dt sh' dt' fl w h1 h2 k1 k2 hok hok'
    | true =>
      by_cases hn : n2 = 1
      · cases c with
        | true => rw [rotate_code hok hok' 3 (by rw [h2.len, hn]; rfl) (by omega)]; exact implRotate_dom d a1 a2 b1 b2 n1 n2 m1 m2 c1 c2 d1 d2 sh dt sh' dt' fl w h1 h2 k1 k2 hok hok' hn
        | false =>
          subst hn
          rw [rot_vals hok hok' (by rw [h2.len]; rfl), k2.len]
          exact implRotate_good d a1 a2 b1 b2 n1 m1 m2 c1 c2 d1 d2 sh dt sh' dt' fl w h1 h2 k1 k2 hok hok' _ (by unfold turnedAt; rw [k1.len])
      · rw [rotate_code hok hok' 5 (by rw [h2.len]; unfold singleCode; rw [if_pos hn]) (by omega)]
        exact implRotate_len c d a1 a2 b1 b2 n1 n2 m1 m2 c1 c2 d1 d2 sh dt sh' dt' fl w h1 h2 k1 k2 hok hok' hn

end Go.Proofs.YtgjpchnkodnieaaGreatDoor
