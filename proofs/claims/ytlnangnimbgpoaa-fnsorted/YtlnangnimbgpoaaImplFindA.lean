import Derived.Test.YtlnangnimbgpoaaImplFind
namespace Go.Proofs.Ytlnangnimbgpoaa
open Go.RowKit

theorem findI_bad1 {c d : Bool} {sh dt sh' dt' : List Int} (h : arrOk c sh dt = false) : find c d sh dt sh' dt' = noAns 3 := by unfold find; rw [if_neg (by simp [h])]
theorem findI_bad2 {c d : Bool} {sh dt sh' dt' : List Int} (h : arrOk d sh' dt' = false) : find c d sh dt sh' dt' = noAns 3 := by unfold find; rw [if_neg (by simp [h])]
theorem findI_rank {c d : Bool} {sh dt sh' dt' : List Int} (h1 : arrOk c sh dt = true) (h2 : arrOk d sh' dt' = true) (h : sh.length ≠ 1) : find c d sh dt sh' dt' = noAns 4 := by unfold find; rw [if_pos ⟨h1, h2⟩, if_pos h]
theorem findI_go {c d : Bool} {sh dt sh' dt' : List Int} (h1 : arrOk c sh dt = true) (h2 : arrOk d sh' dt' = true) (h : sh.length = 1) : find c d sh dt sh' dt' = ⟨false, sh', (List.range dt'.length).map (findF c d dt dt' dt.length), 0⟩ := by
  unfold find
  rw [if_pos ⟨h1, h2⟩, if_neg (by simp [h]), gather_good (firstCode_zero.2 fun k _ => rfl)]
  unfold vals
  congr 1
  refine enc_eq fun k _ => ?_
  have hle := first_le c dt (dt'.getD k 0) d
  unfold findF
  rw [placeAmong_first]
  by_cases hf : firstOf c dt (dt'.getD k 0) d < dt.length
  · rw [if_pos hf, if_neg (by omega)]
  · rw [if_neg hf, if_pos rfl]
    have he : firstOf c dt (dt'.getD k 0) d = dt.length := by omega
    show ((firstOf c dt (dt'.getD k 0) d : Nat) : Int) + 1 = _
    rw [he]

theorem implFind_any (c d : Bool) (a1 a2 b1 b2 : Addr) (n1 n2 m1 m2 c1 c2 d1 d2 : Nat) (sh dt sh' dt' : List Int) (w : World) (h1 : Row w (some a1) n1 sh) (h2 : Row w (some a2) n2 dt) (k1 : Row w (some b1) m1 sh') (k2 : Row w (some b2) m2 dt') :
    Calls Try.prog 22 #[.agg #[.bool c, .slice (some a1) n1 c1, .slice (some a2) n2 c2], .agg #[.bool d, .slice (some b1) m1 d1, .slice (some b2) m2 d2]] w (GivesOwn w (find c d sh dt sh' dt')) := by
  cases hok : arrOk c sh dt with
  | false => rw [findI_bad1 hok]; exact implFind_bad1 c d a1 a2 b1 b2 n1 n2 m1 m2 c1 c2 d1 d2 sh dt w h1 h2 hok
  | true =>
    cases hok' : arrOk d sh' dt' with
    | false => rw [findI_bad2 hok']; exact implFind_bad2 c d a1 a2 b1 b2 n1 n2 m1 m2 c1 c2 d1 d2 sh dt sh' dt' w h1 h2 k1 k2 hok hok'
    | true =>
      obtain ⟨i1, p1, _⟩ := shapeIn_of hok
      obtain ⟨i2, p2, _⟩ := shapeIn_of hok'
      have e1 := i1.bd
      have e2 := i2.bd
      rw [p1, h2.len] at e1
      rw [p2, k2.len] at e2
      by_cases hn : n1 = 1
      · subst hn
        rw [findI_go hok hok' h1.len, k2.len, h2.len]
        exact implFind_good c d a1 a2 b1 b2 n2 m1 m2 c1 c2 d1 d2 sh dt sh' dt' w h1 h2 k1 k2 hok hok' (by omega) (by omega)
      · rw [findI_rank hok hok' (by rw [h1.len]; exact hn)]
        exact implFind_rank c d a1 a2 b1 b2 n1 n2 m1 m2 c1 c2 d1 d2 sh dt sh' dt' w h1 h2 k1 k2 hok hok' hn

end Go.Proofs.Ytlnangnimbgpoaa
