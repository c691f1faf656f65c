import Derived.Test.YtpondlabofeohaaDoorChecked
import Derived.Test.YtpondlabofeohaaDoorBase
import Derived.Deep.QuietTactic
import Derived.BigQuiet
import Derived.Deep.Draws
namespace Go.Proofs.YtpondlabofeohaaDoor
open Go.RowKit

theorem info_int : (Tryd.prog.info? 3).map (fun i => (i.zero, i.size, i.bytes)) = some (some (.int .i64 0), 1, 8) := by kernel_rfl

theorem take_set (zs : List Int) (m k : Nat) (h : k < zs.length) : (zs.take k ++ List.replicate (m + 1) (0 : Int)).set k (zs.getD k 0) = zs.take (k + 1) ++ List.replicate m 0 := by
  have hk : (zs.take k).length = k := by simp; omega
  have hx : zs.getD k 0 = zs[k] := by simp [h]
  rw [List.replicate_succ, List.set_append_right _ _ (by omega), hk, Nat.sub_self, List.set_cons_zero, hx, List.take_succ_eq_append_getElem h, List.append_assoc]
  rfl

end Go.Proofs.YtpondlabofeohaaDoor
