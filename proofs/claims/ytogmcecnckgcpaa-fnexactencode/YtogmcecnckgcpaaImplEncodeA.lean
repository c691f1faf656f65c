import Derived.Test.YtogmcecnckgcpaaImplEncode
namespace Go.Proofs.Ytogmcecnckgcpaa
open Go.RowKit

theorem implEncode_any (c d : Bool) (a1 a2 b1 b2 : Addr) (n1 n2 m1 m2 c1 c2 d1 d2 : Nat) (sh dt sh' dt' : List Int) (w : World) (h1 : Row w (some a1) n1 sh) (h2 : Row w (some a2) n2 dt) (k1 : Row w (some b1) m1 sh') (k2 : Row w (some b2) m2 dt') :
    Calls Try.prog 23 #[.agg #[.bool c, .slice (some a1) n1 c1, .slice (some a2) n2 c2], .agg #[.bool d, .slice (some b1) m1 d1, .slice (some b2) m2 d2]] w (GivesOwn w (encode c d sh dt sh' dt')) := by
  cases hok : arrOk c sh dt with
  | false => rw [encode_bad1 hok]; exact implEncode_code c d a1 a2 b1 b2 n1 n2 m1 m2 c1 c2 d1 d2 sh dt sh' dt' w h1 h2 k1 k2 3 (by unfold codeList; rw [if_neg (by simp [hok])]) (by omega)
  | true =>
    cases hok' : arrOk d sh' dt' with
    | false => rw [encode_bad2 hok']; exact implEncode_code c d a1 a2 b1 b2 n1 n2 m1 m2 c1 c2 d1 d2 sh dt sh' dt' w h1 h2 k1 k2 3 (by unfold codeList; rw [if_neg (by simp [hok'])]) (by omega)
    | true =>
      have hcl : codeList c d sh dt sh' dt' = listCode c sh.length := by unfold codeList; rw [if_pos ⟨hok, hok'⟩]
      by_cases h0 : listCode c sh.length = 0
      · rw [h0] at hcl
        cases hn : dt.all nonNeg with
        | false => rw [encode_neg hok hok' h0 hn]; exact implEncode_neg c d a1 a2 b1 b2 n1 n2 m1 m2 c1 c2 d1 d2 sh dt sh' dt' w h1 h2 k1 k2 hcl hn
        | true =>
          obtain ⟨hin, _, hl1⟩ := shapeIn_of hok
          obtain ⟨hin', _, hl3⟩ := shapeIn_of hok'
          cases d with
          | true => rw [encode_char hok hok' h0 hn]; exact implEncode_char c a1 a2 b1 b2 n1 n2 m1 m2 c1 c2 d1 d2 sh dt sh' dt' w h1 h2 k1 k2 hcl hn
          | false =>
            cases hs : shapeB (sh ++ sh') with
            | false => rw [encode_big hok hok' h0 hn hs]; exact implEncode_big c a1 a2 b1 b2 n1 n2 m1 m2 c1 c2 d1 d2 sh dt sh' dt' w h1 h2 k1 k2 hcl hn (by omega) (by omega) hs
            | true => rw [encode_go hok hok' h0 hn hs, k2.len]; exact implEncode_good c a1 a2 b1 b2 n1 n2 m1 m2 c1 c2 d1 d2 sh dt sh' dt' w h1 h2 k1 k2 hcl hok hok' hn (by omega) (by omega) hs
      · rw [encode_list hok hok' _ rfl h0]
        exact implEncode_code c d a1 a2 b1 b2 n1 n2 m1 m2 c1 c2 d1 d2 sh dt sh' dt' w h1 h2 k1 k2 _ hcl h0

end Go.Proofs.Ytogmcecnckgcpaa
