import Derived.Test.YtogmcecnckgcpaaImplMember
namespace Go.Proofs.Ytogmcecnckgcpaa
open Go.RowKit

theorem memberI_bad1 {c d : Bool} {sh dt sh' dt' : List Int} (h : arrOk c sh dt = false) : member c d sh dt sh' dt' = noAns 3 := by unfold member; rw [if_neg (by simp [h])]
theorem memberI_bad2 {c d : Bool} {sh dt sh' dt' : List Int} (h : arrOk d sh' dt' = false) : member c d sh dt sh' dt' = noAns 3 := by unfold member; rw [if_neg (by simp [h])]
theorem memberI_go {c d : Bool} {sh dt sh' dt' : List Int} (h1 : arrOk c sh dt = true) (h2 : arrOk d sh' dt' = true) : member c d sh dt sh' dt' = ⟨false, sh, (List.range dt.length).map (memberF c d dt dt'), 0⟩ := by
  unfold member
  rw [if_pos ⟨h1, h2⟩, gather_good (firstCode_zero.2 fun k _ => rfl)]
  unfold vals
  congr 1
  refine enc_eq fun k _ => ?_
  unfold memberF
  rw [placeAmong_first]
  show truth _ = truth _
  congr 1
  by_cases hf : firstOf d dt' (dt.getD k 0) c < dt'.length
  · rw [if_pos hf, decide_eq_true hf, decide_eq_true (by omega)]
  · rw [if_neg hf, decide_eq_false hf, decide_eq_false (by omega)]

theorem implMember_any (c d : Bool) (a1 a2 b1 b2 : Addr) (n1 n2 m1 m2 c1 c2 d1 d2 : Nat) (sh dt sh' dt' : List Int) (w : World) (h1 : Row w (some a1) n1 sh) (h2 : Row w (some a2) n2 dt) (k1 : Row w (some b1) m1 sh') (k2 : Row w (some b2) m2 dt') :
    Calls Try.prog 21 #[.agg #[.bool c, .slice (some a1) n1 c1, .slice (some a2) n2 c2], .agg #[.bool d, .slice (some b1) m1 d1, .slice (some b2) m2 d2]] w (GivesOwn w (member c d sh dt sh' dt')) := by
  cases hok : arrOk c sh dt with
  | false => rw [memberI_bad1 hok]; exact implMember_bad1 c d a1 a2 b1 b2 n1 n2 m1 m2 c1 c2 d1 d2 sh dt w h1 h2 hok
  | true =>
    cases hok' : arrOk d sh' dt' with
    | false => rw [memberI_bad2 hok']; exact implMember_bad2 c d a1 a2 b1 b2 n1 n2 m1 m2 c1 c2 d1 d2 sh dt sh' dt' w h1 h2 k1 k2 hok hok'
    | true =>
      obtain ⟨i1, p1, _⟩ := shapeIn_of hok
      obtain ⟨i2, p2, _⟩ := shapeIn_of hok'
      have e1 := i1.bd
      have e2 := i2.bd
      rw [p1, h2.len] at e1
      rw [p2, k2.len] at e2
      rw [memberI_go hok hok', h2.len]
      exact implMember_good c d a1 a2 b1 b2 n1 n2 m1 m2 c1 c2 d1 d2 sh dt sh' dt' w h1 h2 k1 k2 hok hok' (by omega) (by omega)

end Go.Proofs.Ytogmcecnckgcpaa
