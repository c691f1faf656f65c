import Derived.Test.YtadbhidpmihghabSpecAnswer
import Derived.Test.YtadbhidpmihghabCutMath
namespace Go.Proofs.Ytadbhidpmihghab

theorem cutA_no {c : Int} {sh st fr ns : List Int} (h : ¬ (formed c sh st = true ∧ fr.length = sh.length ∧ ns.length = sh.length ∧ cutB sh fr ns sh.length = true)) : cutV c sh st fr ns = noView := by unfold cutV; rw [if_neg h]; rfl
theorem cutA_go {c : Int} {sh st fr ns : List Int} (h : formed c sh st = true ∧ fr.length = sh.length ∧ ns.length = sh.length ∧ cutB sh fr ns sh.length = true) : cutV c sh st fr ns = answerOf (offN c fr st sh.length) ns st := by unfold cutV; rw [if_pos h]; rfl

end Go.Proofs.Ytadbhidpmihghab
