import Derived.Test.YtlnangnimbgpoaaOrdMath
import Derived.Test.YtlnangnimbgpoaaPermMath
import Derived.Test.YtlnangnimbgpoaaRotGath
namespace Go.Proofs.Ytlnangnimbgpoaa

theorem trans_gather {d : Bool} {dt sh dt' : List Int} (h : orderOk dt sh.length sh.length = true) (hf : Full sh) (k : Nat) : gatherAt d sh dt' (transF dt) (turnN dt sh sh.length sh.length) k = transAt dt sh dt' k := by
  have hD := digits_in (turn_full h rfl hf) (k : Int)
  have hb := back_in h rfl hD
  have e : meant sh (transF dt) (digits (turnN dt sh sh.length sh.length) k) = backIx dt (digits (turnN dt sh sh.length sh.length) k) sh.length := rfl
  unfold gatherAt transAt
  rw [e, if_pos (inside_of hb _ (Nat.le_refl _))]

theorem trans_vals {d : Bool} {dt sh dt' : List Int} (h2 : arrOk d sh dt' = true) (h : orderOk dt sh.length sh.length = true) : vals (gatherAt d sh dt' (transF dt) (turnN dt sh sh.length sh.length)) dt'.length = vals (transAt dt sh dt') dt'.length := by
  obtain ⟨hin, hp, _⟩ := shapeIn_of h2
  by_cases h0 : dt'.length = 0
  · rw [h0]; rfl
  · exact map_range_eq fun k _ => by rw [trans_gather h (full_of hin (by rw [hp]; omega))]

end Go.Proofs.Ytlnangnimbgpoaa
