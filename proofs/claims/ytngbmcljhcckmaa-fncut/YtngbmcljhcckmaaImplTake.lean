import Derived.Test.YtngbmcljhcckmaaImplCuttaking
import Derived.Test.YtngbmcljhcckmaaImplCutA
namespace Go.Proofs.Ytngbmcljhcckmaa
open Go.RowKit

theorem cut_taking (c d : Bool) (a1 a2 b1 b2 : Option Addr) (n1 n2 m1 m2 c1 c2 d1 d2 : Nat) (sh dt sh' dt' : List Int) (w : World) (h1 : Row w a1 n1 sh) (h2 : Row w a2 n2 dt) (k1 : Row w b1 m1 sh') (k2 : Row w b2 m2 dt') :
    Calls Try.prog 68 #[.agg #[], .agg #[.bool c, .slice a1 n1 c1, .slice a2 n2 c2], .agg #[.bool d, .slice b1 m1 d1, .slice b2 m2 d2]] w (GivesCap w (take c d sh dt sh' dt')) := by
  unfold take
  cases hok : arrOk c sh dt with
  | false => rw [window_bad1 hok]; exact Cuttaking.code c d a1 a2 b1 b2 n1 n2 m1 m2 c1 c2 d1 d2 sh dt sh' dt' w h1 h2 k1 k2 3 (codeList_bad1' hok) (by omega)
  | true =>
    cases hok' : arrOk d sh' dt' with
    | false => rw [window_bad2 hok']; exact Cuttaking.code c d a1 a2 b1 b2 n1 n2 m1 m2 c1 c2 d1 d2 sh dt sh' dt' w h1 h2 k1 k2 3 (codeList_bad2' hok') (by omega)
    | true =>
      have hcl := codeList_ok' hok hok'
      by_cases h0 : listCode c sh.length = 0
      · rw [h0] at hcl
        have hl := h2.len
        subst hl
        refine Cuttaking.rest c d a1 a2 b1 b2 n1 dt.length m1 m2 c1 c2 d1 d2 sh dt sh' dt' w h1 h2 k1 k2 hcl hok hok' _ rfl _ (fun h => cut_5 hok hok' h0 h) (fun h hz => ?_) (fun h hz => ?_)
        · show window true (fun _ => takeZ) takeSt c d sh dt sh' dt' = _
          have hz' : shapeB (takeZ dt) = false := by rw [take_z dt (countedSh dt.length sh')]; exact hz
          by_cases h5 : dt.length ≤ 5
          · exact window_big hok hok' (cut_count h0 h h5) rfl hz'
          · exact cut_long hok hok' h0 h (by omega)
        · have hz' : shapeB (takeZ dt) = true := by rw [take_z dt (countedSh dt.length sh')]; exact hz
          rw [cut_go hok hok' h0 h hz' (takeZ_len dt), ← take_z, ← take_st]
      · rw [window_code' hok hok' _ (counted_list rfl h0) h0]
        exact Cuttaking.code c d a1 a2 b1 b2 n1 n2 m1 m2 c1 c2 d1 d2 sh dt sh' dt' w h1 h2 k1 k2 _ hcl h0

end Go.Proofs.Ytngbmcljhcckmaa
