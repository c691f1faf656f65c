/-
  No cell of these rows narrows 'for every input' (looked for: loops, veiled, ifaces, maps, wideKeys, modest, calm, conditions, laid).
  DERIVED. THE GIVEN ROWS OF THIS SEAT. 3 by the template 'for every input the law returns true; each argument reads behind the call as it read before'; 0 by the template 'total and deterministic' (their statements: YtadbhidpmihghabTotals.lean).
  GIVEN WITH THE SEED: the statements are not yours to turn. If you find one false, say at which input.
  Laid BY PROGRAM, IN A SANDBOX (cutbox-rows.mjs): the forced cells as the released guide's own fill.sh prints them over the translation a726d24fc3e18161… (all of the seat's roots in one cut). By AI agents, Wed Nov 11 2026. No macro, syntax, notation, axiom, sorry.
-/
import Derived.Test.YtadbhidpmihghabChecked
import GoSem.Claim
import GoSem.ClaimJoined
import GoSem.ClaimMapViews
import Derived.JoinedTies
import Derived.KernelRfl
namespace Go.Proofs.Ytadbhidpmihghab
/- THE CELL 'sum', in the pinned program and in every row, IS THE sha256 OF THE DUMP (.gsa) THAT YtadbhidpmihghabProg.lean LOADS. Nothing in Lean hashes anything: it is a label: what it is worth is what the hold of that sum in a sandbox is worth. -/
noncomputable def Try.pinned : Pinned := { name := "ytadbhidpmihghab", sum := "a726d24fc3e18161ee19cb1f79c717cea1e06ef985589ad786d2cf438ecddee9", checked := Try.checked }
namespace Rows
def none {H : Type} : Left H := { results := [], args := [] }

/-- 'laws.FnExactCutView': WHATEVER THE INPUT: true; the input reads as it did. -/
def fnExactCutViewSpec : ChangeSpec := { name := "fnExactCutView", fn := fun _ => fun
  | [d1, d2, d3] => { results := [.lit (.bool true)], args := [d1, d2, d3] }
  | _ => none }
def fnExactCutViewRow : OpenClaim := { program := "ytadbhidpmihghab", sum := "a726d24fc3e18161ee19cb1f79c717cea1e06ef985589ad786d2cf438ecddee9", func := "loop.example/s02542/laws.FnExactCutView", spec := "fnExactCutView", apart := false }
def FnExactCutViewSaid : Prop := fnExactCutViewRow.holds Try.pinned (OpenSpec.ofChange fnExactCutViewSpec)

/-- ITS FALSE NEIGHBOUR: 'it returns false'. Refute it at one input. -/
def fnExactCutViewWrong : ChangeSpec := { name := "fnExactCutView", fn := fun _ => fun
  | [d1, d2, d3] => { results := [.lit (.bool false)], args := [d1, d2, d3] }
  | _ => none }
def FnExactCutViewWrongFalsely : Prop := fnExactCutViewRow.holds Try.pinned (OpenSpec.ofChange fnExactCutViewWrong)

/-- 'laws.FnExactPickView': WHATEVER THE INPUT: true; the input reads as it did. -/
def fnExactPickViewSpec : ChangeSpec := { name := "fnExactPickView", fn := fun _ => fun
  | [d1, d2, d3, d4, d5] => { results := [.lit (.bool true)], args := [d1, d2, d3, d4, d5] }
  | _ => none }
def fnExactPickViewRow : OpenClaim := { program := "ytadbhidpmihghab", sum := "a726d24fc3e18161ee19cb1f79c717cea1e06ef985589ad786d2cf438ecddee9", func := "loop.example/s02542/laws.FnExactPickView", spec := "fnExactPickView", apart := false }
def FnExactPickViewSaid : Prop := fnExactPickViewRow.holds Try.pinned (OpenSpec.ofChange fnExactPickViewSpec)

/-- ITS FALSE NEIGHBOUR: 'it returns false'. Refute it at one input. -/
def fnExactPickViewWrong : ChangeSpec := { name := "fnExactPickView", fn := fun _ => fun
  | [d1, d2, d3, d4, d5] => { results := [.lit (.bool false)], args := [d1, d2, d3, d4, d5] }
  | _ => none }
def FnExactPickViewWrongFalsely : Prop := fnExactPickViewRow.holds Try.pinned (OpenSpec.ofChange fnExactPickViewWrong)

/-- 'laws.FnExactFoldView': WHATEVER THE INPUT: true; the input reads as it did. -/
def fnExactFoldViewSpec : ChangeSpec := { name := "fnExactFoldView", fn := fun _ => fun
  | [d1, d2] => { results := [.lit (.bool true)], args := [d1, d2] }
  | _ => none }
def fnExactFoldViewRow : OpenClaim := { program := "ytadbhidpmihghab", sum := "a726d24fc3e18161ee19cb1f79c717cea1e06ef985589ad786d2cf438ecddee9", func := "loop.example/s02542/laws.FnExactFoldView", spec := "fnExactFoldView", apart := false }
def FnExactFoldViewSaid : Prop := fnExactFoldViewRow.holds Try.pinned (OpenSpec.ofChange fnExactFoldViewSpec)

/-- ITS FALSE NEIGHBOUR: 'it returns false'. Refute it at one input. -/
def fnExactFoldViewWrong : ChangeSpec := { name := "fnExactFoldView", fn := fun _ => fun
  | [d1, d2] => { results := [.lit (.bool false)], args := [d1, d2] }
  | _ => none }
def FnExactFoldViewWrongFalsely : Prop := fnExactFoldViewRow.holds Try.pinned (OpenSpec.ofChange fnExactFoldViewWrong)

/- THE SECOND FORM. 'bulk': how many values and letters a reading holds, each counted each time it is reached (what is shared counts as often as it is met; a slice's spare places count too). A statement '..UptoSaid' is the law's where the arguments, and the package variables that the reading takes, are together of bulk at most 1048576: NARROWER than '..Said'. Prove '..Said' where nothing that the law and all that it calls make is longer than what came in: it says more and counts as full. Else prove '..UptoSaid'. A law counts once. -/
mutual
def uptoBulk {H : Type} : DataW H → Nat
  | .lit (.string bytes) => bytes.length + 1
  | .lit _ => 1
  | .nil => 1
  | .ptr d => uptoBulk d + 1
  | .slice elems spare => uptoBulkAll elems + uptoBulkAll spare + 1
  | .agg parts => uptoBulkAll parts + 1
  | .iface _ d => uptoBulk d + 1
  | .map entries => uptoBulkEntries entries + 1
  | .held _ => 1
def uptoBulkAll {H : Type} : List (DataW H) → Nat
  | [] => 0
  | d :: r => uptoBulk d + uptoBulkAll r
def uptoBulkEntries {H : Type} : List (Lit × DataW H) → Nat
  | [] => 0
  | x :: r => uptoBulkEntry x + uptoBulkEntries r
def uptoBulkEntry {H : Type} : Lit × DataW H → Nat
  | (.string bytes, d) => bytes.length + uptoBulk d + 1
  | (_, d) => uptoBulk d + 1
 end
def uptoSmall : (H : Type) → List (DataW H) → Bool := fun _ ds => decide (uptoBulkAll ds ≤ 1048576)
def OpenSpec.upto (s : _root_.Go.ChangeSpec) : _root_.Go.OpenSpec := { _root_.Go.OpenSpec.ofChange s with cond := some uptoSmall }

/-- 'laws.FnExactCutView', WHERE WHAT IT READS IS OF BULK AT MOST 1048576: true; the input reads as it did. -/
def fnExactCutViewUptoRow : OpenClaim := { program := "ytadbhidpmihghab", sum := "a726d24fc3e18161ee19cb1f79c717cea1e06ef985589ad786d2cf438ecddee9", func := "loop.example/s02542/laws.FnExactCutView", spec := "fnExactCutView", apart := false, narrowed := true }
def FnExactCutViewUptoSaid : Prop := fnExactCutViewUptoRow.holds Try.pinned (OpenSpec.upto fnExactCutViewSpec)

/-- 'laws.FnExactPickView', WHERE WHAT IT READS IS OF BULK AT MOST 1048576: true; the input reads as it did. -/
def fnExactPickViewUptoRow : OpenClaim := { program := "ytadbhidpmihghab", sum := "a726d24fc3e18161ee19cb1f79c717cea1e06ef985589ad786d2cf438ecddee9", func := "loop.example/s02542/laws.FnExactPickView", spec := "fnExactPickView", apart := false, narrowed := true }
def FnExactPickViewUptoSaid : Prop := fnExactPickViewUptoRow.holds Try.pinned (OpenSpec.upto fnExactPickViewSpec)

/-- 'laws.FnExactFoldView', WHERE WHAT IT READS IS OF BULK AT MOST 1048576: true; the input reads as it did. -/
def fnExactFoldViewUptoRow : OpenClaim := { program := "ytadbhidpmihghab", sum := "a726d24fc3e18161ee19cb1f79c717cea1e06ef985589ad786d2cf438ecddee9", func := "loop.example/s02542/laws.FnExactFoldView", spec := "fnExactFoldView", apart := false, narrowed := true }
def FnExactFoldViewUptoSaid : Prop := fnExactFoldViewUptoRow.holds Try.pinned (OpenSpec.upto fnExactFoldViewSpec)

end Rows
end Go.Proofs.Ytadbhidpmihghab
