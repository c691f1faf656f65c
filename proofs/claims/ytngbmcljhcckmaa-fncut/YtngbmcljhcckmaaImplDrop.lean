import Derived.Test.YtngbmcljhcckmaaImplCutdropping
import Derived.Test.YtngbmcljhcckmaaImplCutA
namespace Go.Proofs.Ytngbmcljhcckmaa
open Go.RowKit

theorem cut_dropping (c d : Bool) (a1 a2 b1 b2 : Option Addr) (n1 n2 m1 m2 c1 c2 d1 d2 : Nat) (sh dt sh' dt' : List Int) (w : World) (h1 : Row w a1 n1 sh) (h2 : Row w a2 n2 dt) (k1 : Row w b1 m1 sh') (k2 : Row w b2 m2 dt') :
    Calls Try.prog 69 #[.agg #[], .agg #[.bool c, .slice a1 n1 c1, .slice a2 n2 c2], .agg #[.bool d, .slice b1 m1 d1, .slice b2 m2 d2]] w (GivesCap w (drop c d sh dt sh' dt')) := by
  unfold drop
  cases hok : arrOk c sh dt with
  | false => rw [window_bad1 hok]; exact Cutdropping.code c d a1 a2 b1 b2 n1 n2 m1 m2 c1 c2 d1 d2 sh dt sh' dt' w h1 h2 k1 k2 3 (codeList_bad1' hok) (by omega)
  | true =>
    cases hok' : arrOk d sh' dt' with
    | false => rw [window_bad2 hok']; exact Cutdropping.code c d a1 a2 b1 b2 n1 n2 m1 m2 c1 c2 d1 d2 sh dt sh' dt' w h1 h2 k1 k2 3 (codeList_bad2' hok') (by omega)
    | true =>
      have hcl := codeList_ok' hok hok'
      by_cases h0 : listCode c sh.length = 0
      · rw [h0] at hcl
        have hl := h2.len
        subst hl
        refine Cutdropping.rest c d a1 a2 b1 b2 n1 dt.length m1 m2 c1 c2 d1 d2 sh dt sh' dt' w h1 h2 k1 k2 hcl hok hok' _ rfl _ (fun h => cut_5 hok hok' h0 h) (fun h hz => ?_) (fun h hz => ?_)
        · show window false dropZ (fun _ => dropSt) c d sh dt sh' dt' = _
          by_cases h5 : dt.length ≤ 5
          · have := drop_fits hok' h h5
            rw [drop_z] at this
            rw [this] at hz
            cases hz
          · exact cut_long hok hok' h0 h (by omega)
        · have hz' : shapeB (dropZ (countedSh dt.length sh') dt) = true := hz
          rw [cut_go hok hok' h0 h hz' (dropZ_len _ dt), ← drop_z, ← drop_st]
      · rw [window_code' hok hok' _ (counted_list rfl h0) h0]
        exact Cutdropping.code c d a1 a2 b1 b2 n1 n2 m1 m2 c1 c2 d1 d2 sh dt sh' dt' w h1 h2 k1 k2 _ hcl h0

end Go.Proofs.Ytngbmcljhcckmaa
