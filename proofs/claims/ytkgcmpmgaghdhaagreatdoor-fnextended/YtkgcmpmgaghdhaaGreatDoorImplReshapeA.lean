import Derived.Test.YtkgcmpmgaghdhaaGreatDoorImplReshape
namespace Go.Proofs.YtkgcmpmgaghdhaaGreatDoor
open Go.RowKit

theorem codeList_bad1 {c d : Bool} {sh dt sh' dt' : List Int} (h : arrOk c sh dt = false) : codeList c d sh dt sh' dt' = 3 := by unfold codeList; rw [if_neg (by simp [h])]
theorem codeList_bad2 {c d : Bool} {sh dt sh' dt' : List Int} (h : arrOk d sh' dt' = false) : codeList c d sh dt sh' dt' = 3 := by unfold codeList; rw [if_neg (by simp [h])]
theorem codeList_ok {c d : Bool} {sh dt sh' dt' : List Int} (h : arrOk c sh dt = true) (h' : arrOk d sh' dt' = true) : codeList c d sh dt sh' dt' = listCode c sh.length := by unfold codeList; rw [if_pos ⟨h, h'⟩]

theorem implReshape_any (c d : Bool) (a1 a2 b1 b2 : Addr) (n1 n2 m1 m2 c1 c2 d1 d2 : Nat) (sh dt sh' dt' : List Int) (w : World) (h1 : Row w (some a1) n1 sh) (h2 : Row w (some a2) n2 dt) (k1 : Row w (some b1) m1 sh') (k2 : Row w (some b2) m2 dt') :
    Calls Tryz.prog 19 #[.agg #[.bool c, .slice (some a1) n1 c1, .slice (some a2) n2 c2], .agg #[.bool d, .slice (some b1) m1 d1, .slice (some b2) m2 d2]] w (GivesOwn w (reshape c d sh dt sh' dt')) := by
  cases hok : arrOk c sh dt with
  | false => rw [reshape_bad1 hok]; exact implReshape_code c d a1 a2 b1 b2 n1 n2 m1 m2 c1 c2 d1 d2 sh dt sh' dt' w h1 h2 k1 k2 3 (codeList_bad1 hok) (by omega)
  | true =>
    cases hok' : arrOk d sh' dt' with
    | false => rw [reshape_bad2 hok']; exact implReshape_code c d a1 a2 b1 b2 n1 n2 m1 m2 c1 c2 d1 d2 sh dt sh' dt' w h1 h2 k1 k2 3 (codeList_bad2 hok') (by omega)
    | true =>
      have hcl := codeList_ok hok hok'
      by_cases h0 : listCode c sh.length = 0
      · rw [h0] at hcl
        cases hn : dt.all nonNeg with
        | false => rw [reshape_neg hok hok' h0 hn]; exact implReshape_neg c d a1 a2 b1 b2 n1 n2 m1 m2 c1 c2 d1 d2 sh dt sh' dt' w h1 h2 k1 k2 hcl hn
        | true =>
          cases hs : shapeB dt with
          | false => rw [reshape_big hok hok' h0 hn hs]; exact implReshape_big c d a1 a2 b1 b2 n1 n2 m1 m2 c1 c2 d1 d2 sh dt sh' dt' w h1 h2 k1 k2 hcl hn hs
          | true =>
            have hc := shapeB_count hs
            obtain ⟨N, hN⟩ : ∃ N : Nat, countOf dt = (N : Int) := ⟨(countOf dt).toNat, by omega⟩
            obtain ⟨hin, hpr, _⟩ := shapeIn_of hok'
            have hb := hin.bd
            rw [hpr, k2.len] at hb
            rw [reshape_go hok hok' h0 hn hs m2 N k2.len hN, ← resh_vals]
            exact implReshape_good c d a1 a2 b1 b2 n1 n2 m1 m2 c1 c2 d1 d2 sh dt sh' dt' w h1 h2 k1 k2 hcl hn hs N (by rw [prodAll_count dt hs]; exact hN) (by omega)
      · rw [reshape_list hok hok' _ rfl h0]
        exact implReshape_code c d a1 a2 b1 b2 n1 n2 m1 m2 c1 c2 d1 d2 sh dt sh' dt' w h1 h2 k1 k2 _ hcl h0

end Go.Proofs.YtkgcmpmgaghdhaaGreatDoor
