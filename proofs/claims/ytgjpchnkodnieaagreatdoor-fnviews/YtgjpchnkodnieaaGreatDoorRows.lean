/-
  NARROWER THAN 'FOR EVERY INPUT', by the rows' own cells (each row's printed sentence says how): FnBack: ifaces, laid · FnExactMonad: ifaces, laid · FnViews: ifaces, laid · FnProduct: ifaces, laid · FnExactDyad: ifaces, laid.
  DERIVED. THE GIVEN ROWS OF THIS SEAT. 5 by the template 'for every input the law returns true; each argument reads behind the call as it read before'; 0 by the template 'total and deterministic' (their statements: YtgjpchnkodnieaaGreatDoorTotals.lean).
  GIVEN WITH THE SEED: the statements are not yours to turn. If you find one false, say at which input.
  Laid BY PROGRAM, IN A SANDBOX (cutbox-rows.mjs): the forced cells as the released guide's own fill.sh prints them over the translation ce4b771fe55b6978… (all of the seat's roots in one cut). By AI agents, Wed Nov 11 2026. No macro, syntax, notation, axiom, sorry.
-/
import Derived.Test.YtgjpchnkodnieaaGreatDoorChecked
import GoSem.Claim
import GoSem.ClaimJoined
import GoSem.ClaimMapViews
import Derived.JoinedTies
import Derived.KernelRfl
namespace Go.Proofs.YtgjpchnkodnieaaGreatDoor
/- THE CELL 'sum', in the pinned program and in every row, IS THE sha256 OF THE DUMP (.gsa) THAT YtgjpchnkodnieaaGreatDoorProg.lean LOADS. Nothing in Lean hashes anything: it is a label: what it is worth is what the hold of that sum in a sandbox is worth. -/
noncomputable def Tryz.pinned : Pinned := { name := "ytgjpchnkodnieaagreatdoor", sum := "ce4b771fe55b697827c697d9fbea380bc43674f71c46d5dd892bf4cd8a4e7a09", checked := Tryz.checked }
namespace Rows
def none {H : Type} : Left H := { results := [], args := [] }

/- WHAT THE LISTED PACKAGE-LEVEL VARIABLES READ AS WHEN THE CALL BEGINS. Each datum BY PROGRAM (the guide's laid-datum.mjs) off the statement by which the dump's own 'gosem.cut.vars' lays the variable. In a bare row this is a premise. The card (YtgjpchnkodnieaaGreatDoorCards.lean) ties it to the program's text. -/
def laid_loop_example_s02542_impl_errNoResult {H : Type} : DataW H := .iface "*errors.errorString" (.ptr (.agg [.lit (.string [116, 104, 101, 32, 101, 108, 101, 109, 101, 110, 116, 115, 32, 104, 97, 118, 101, 32, 110, 111, 32, 115, 117, 99, 104, 32, 114, 101, 115, 117, 108, 116])]))
def laid_loop_example_s02542_impl_errTooGreat {H : Type} : DataW H := .iface "*errors.errorString" (.ptr (.agg [.lit (.string [116, 104, 101, 32, 114, 101, 115, 117, 108, 116, 32, 105, 115, 32, 98, 101, 121, 111, 110, 100, 32, 116, 104, 101, 32, 110, 117, 109, 98, 101, 114, 115, 32, 111, 102, 32, 97, 110, 32, 97, 114, 114, 97, 121])]))
def laid_loop_example_s02542_impl_emptyFolds {H : Type} : DataW H := .agg [.lit (.int .i64 0), .lit (.int .i64 0), .lit (.int .i64 1), .lit (.int .i64 1), .lit (.int .i64 1000000000000000), .lit (.int .i64 (-1000000000000000)), .lit (.int .i64 0), .lit (.int .i64 1), .lit (.int .i64 1), .lit (.int .i64 0), .lit (.int .i64 0), .lit (.int .i64 1), .lit (.int .i64 1), .lit (.int .i64 0), .lit (.int .i64 1), .lit (.int .i64 0)]

/-- 'laws.FnBack': WHATEVER THE INPUT: true; the input reads as it did. -/
def fnBackSpec : ChangeSpec := { name := "fnBack", vars := ["loop.example/s02542/impl.errNoResult", "loop.example/s02542/impl.errTooGreat"], fn := fun _ => fun
  | [d, g1, g2] => { results := [.lit (.bool true)], args := [d], vars := [g1, g2] }
  | _ => none }
def fnBackRow : OpenClaim := { program := "ytgjpchnkodnieaagreatdoor", sum := "ce4b771fe55b697827c697d9fbea380bc43674f71c46d5dd892bf4cd8a4e7a09", func := "loop.example/s02542/laws.FnBack", spec := "fnBack", inPlace := ["internal/reflectlite.TypeOf"], unfollowed := true, recurses := true, named := ["loop.example/s02542/impl.errNoResult", "loop.example/s02542/impl.errTooGreat"], ifaces := true, apart := false, laid := [("loop.example/s02542/impl.errNoResult", laid_loop_example_s02542_impl_errNoResult), ("loop.example/s02542/impl.errTooGreat", laid_loop_example_s02542_impl_errTooGreat)] }
def FnBackSaid : Prop := fnBackRow.holds Tryz.pinned (OpenSpec.ofChange fnBackSpec)

/-- ITS FALSE NEIGHBOUR: 'it returns false'. Refute it at one input. -/
def fnBackWrong : ChangeSpec := { name := "fnBack", vars := ["loop.example/s02542/impl.errNoResult", "loop.example/s02542/impl.errTooGreat"], fn := fun _ => fun
  | [d, g1, g2] => { results := [.lit (.bool false)], args := [d], vars := [g1, g2] }
  | _ => none }
def FnBackWrongFalsely : Prop := fnBackRow.holds Tryz.pinned (OpenSpec.ofChange fnBackWrong)

/-- 'laws.FnExactMonad': WHATEVER THE INPUT: true; the input reads as it did. -/
def fnExactMonadSpec : ChangeSpec := { name := "fnExactMonad", vars := ["loop.example/s02542/impl.errNoResult", "loop.example/s02542/impl.errTooGreat"], fn := fun _ => fun
  | [d1, d2, g1, g2] => { results := [.lit (.bool true)], args := [d1, d2], vars := [g1, g2] }
  | _ => none }
def fnExactMonadRow : OpenClaim := { program := "ytgjpchnkodnieaagreatdoor", sum := "ce4b771fe55b697827c697d9fbea380bc43674f71c46d5dd892bf4cd8a4e7a09", func := "loop.example/s02542/laws.FnExactMonad", spec := "fnExactMonad", inPlace := ["internal/reflectlite.TypeOf"], unfollowed := true, recurses := true, named := ["loop.example/s02542/impl.errNoResult", "loop.example/s02542/impl.errTooGreat"], ifaces := true, apart := false, laid := [("loop.example/s02542/impl.errNoResult", laid_loop_example_s02542_impl_errNoResult), ("loop.example/s02542/impl.errTooGreat", laid_loop_example_s02542_impl_errTooGreat)] }
def FnExactMonadSaid : Prop := fnExactMonadRow.holds Tryz.pinned (OpenSpec.ofChange fnExactMonadSpec)

/-- ITS FALSE NEIGHBOUR: 'it returns false'. Refute it at one input. -/
def fnExactMonadWrong : ChangeSpec := { name := "fnExactMonad", vars := ["loop.example/s02542/impl.errNoResult", "loop.example/s02542/impl.errTooGreat"], fn := fun _ => fun
  | [d1, d2, g1, g2] => { results := [.lit (.bool false)], args := [d1, d2], vars := [g1, g2] }
  | _ => none }
def FnExactMonadWrongFalsely : Prop := fnExactMonadRow.holds Tryz.pinned (OpenSpec.ofChange fnExactMonadWrong)

/-- 'laws.FnViews': WHATEVER THE INPUT: true; the input reads as it did. -/
def fnViewsSpec : ChangeSpec := { name := "fnViews", vars := ["loop.example/s02542/impl.errNoResult", "loop.example/s02542/impl.errTooGreat"], fn := fun _ => fun
  | [d, g1, g2] => { results := [.lit (.bool true)], args := [d], vars := [g1, g2] }
  | _ => none }
def fnViewsRow : OpenClaim := { program := "ytgjpchnkodnieaagreatdoor", sum := "ce4b771fe55b697827c697d9fbea380bc43674f71c46d5dd892bf4cd8a4e7a09", func := "loop.example/s02542/laws.FnViews", spec := "fnViews", inPlace := ["internal/reflectlite.TypeOf"], unfollowed := true, recurses := true, named := ["loop.example/s02542/impl.errNoResult", "loop.example/s02542/impl.errTooGreat"], ifaces := true, apart := false, laid := [("loop.example/s02542/impl.errNoResult", laid_loop_example_s02542_impl_errNoResult), ("loop.example/s02542/impl.errTooGreat", laid_loop_example_s02542_impl_errTooGreat)] }
def FnViewsSaid : Prop := fnViewsRow.holds Tryz.pinned (OpenSpec.ofChange fnViewsSpec)

/-- ITS FALSE NEIGHBOUR: 'it returns false'. Refute it at one input. -/
def fnViewsWrong : ChangeSpec := { name := "fnViews", vars := ["loop.example/s02542/impl.errNoResult", "loop.example/s02542/impl.errTooGreat"], fn := fun _ => fun
  | [d, g1, g2] => { results := [.lit (.bool false)], args := [d], vars := [g1, g2] }
  | _ => none }
def FnViewsWrongFalsely : Prop := fnViewsRow.holds Tryz.pinned (OpenSpec.ofChange fnViewsWrong)

/-- 'laws.FnProduct': WHATEVER THE INPUT: true; the input reads as it did. -/
def fnProductSpec : ChangeSpec := { name := "fnProduct", vars := ["loop.example/s02542/impl.errNoResult", "loop.example/s02542/impl.errTooGreat", "loop.example/s02542/impl.emptyFolds"], fn := fun _ => fun
  | [d, g1, g2, g3] => { results := [.lit (.bool true)], args := [d], vars := [g1, g2, g3] }
  | _ => none }
def fnProductRow : OpenClaim := { program := "ytgjpchnkodnieaagreatdoor", sum := "ce4b771fe55b697827c697d9fbea380bc43674f71c46d5dd892bf4cd8a4e7a09", func := "loop.example/s02542/laws.FnProduct", spec := "fnProduct", inPlace := ["internal/reflectlite.TypeOf"], unfollowed := true, recurses := true, named := ["loop.example/s02542/impl.errNoResult", "loop.example/s02542/impl.errTooGreat", "loop.example/s02542/impl.emptyFolds"], ifaces := true, apart := false, laid := [("loop.example/s02542/impl.errNoResult", laid_loop_example_s02542_impl_errNoResult), ("loop.example/s02542/impl.errTooGreat", laid_loop_example_s02542_impl_errTooGreat), ("loop.example/s02542/impl.emptyFolds", laid_loop_example_s02542_impl_emptyFolds)] }
def FnProductSaid : Prop := fnProductRow.holds Tryz.pinned (OpenSpec.ofChange fnProductSpec)

/-- ITS FALSE NEIGHBOUR: 'it returns false'. Refute it at one input. -/
def fnProductWrong : ChangeSpec := { name := "fnProduct", vars := ["loop.example/s02542/impl.errNoResult", "loop.example/s02542/impl.errTooGreat", "loop.example/s02542/impl.emptyFolds"], fn := fun _ => fun
  | [d, g1, g2, g3] => { results := [.lit (.bool false)], args := [d], vars := [g1, g2, g3] }
  | _ => none }
def FnProductWrongFalsely : Prop := fnProductRow.holds Tryz.pinned (OpenSpec.ofChange fnProductWrong)

/-- 'laws.FnExactDyad': WHATEVER THE INPUT: true; the input reads as it did. -/
def fnExactDyadSpec : ChangeSpec := { name := "fnExactDyad", vars := ["loop.example/s02542/impl.errTooGreat", "loop.example/s02542/impl.errNoResult"], fn := fun _ => fun
  | [d1, d2, d3, g1, g2] => { results := [.lit (.bool true)], args := [d1, d2, d3], vars := [g1, g2] }
  | _ => none }
def fnExactDyadRow : OpenClaim := { program := "ytgjpchnkodnieaagreatdoor", sum := "ce4b771fe55b697827c697d9fbea380bc43674f71c46d5dd892bf4cd8a4e7a09", func := "loop.example/s02542/laws.FnExactDyad", spec := "fnExactDyad", inPlace := ["internal/reflectlite.TypeOf"], unfollowed := true, recurses := true, named := ["loop.example/s02542/impl.errTooGreat", "loop.example/s02542/impl.errNoResult"], ifaces := true, apart := false, laid := [("loop.example/s02542/impl.errNoResult", laid_loop_example_s02542_impl_errNoResult), ("loop.example/s02542/impl.errTooGreat", laid_loop_example_s02542_impl_errTooGreat)] }
def FnExactDyadSaid : Prop := fnExactDyadRow.holds Tryz.pinned (OpenSpec.ofChange fnExactDyadSpec)

/-- ITS FALSE NEIGHBOUR: 'it returns false'. Refute it at one input. -/
def fnExactDyadWrong : ChangeSpec := { name := "fnExactDyad", vars := ["loop.example/s02542/impl.errTooGreat", "loop.example/s02542/impl.errNoResult"], fn := fun _ => fun
  | [d1, d2, d3, g1, g2] => { results := [.lit (.bool false)], args := [d1, d2, d3], vars := [g1, g2] }
  | _ => none }
def FnExactDyadWrongFalsely : Prop := fnExactDyadRow.holds Tryz.pinned (OpenSpec.ofChange fnExactDyadWrong)

/- THE SECOND FORM. 'bulk': how many values and letters a reading holds, each counted each time it is reached (what is shared counts as often as it is met; a slice's spare places count too). A statement '..UptoSaid' is the law's where the arguments, and the package variables that the reading takes, are together of bulk at most 1048576: NARROWER than '..Said'. Prove '..Said' where nothing that the law and all that it calls make is longer than what came in: it says more and counts as full. Else prove '..UptoSaid'. A law counts once. -/
mutual
def uptoBulk {H : Type} : DataW H → Nat
  | .lit (.string bytes) => bytes.length + 1
  | .lit _ => 1
  | .nil => 1
  | .ptr d => uptoBulk d + 1
  | .slice elems spare => uptoBulkAll elems + uptoBulkAll spare + 1
  | .agg parts => uptoBulkAll parts + 1
  | .iface _ d => uptoBulk d + 1
  | .map entries => uptoBulkEntries entries + 1
  | .held _ => 1
def uptoBulkAll {H : Type} : List (DataW H) → Nat
  | [] => 0
  | d :: r => uptoBulk d + uptoBulkAll r
def uptoBulkEntries {H : Type} : List (Lit × DataW H) → Nat
  | [] => 0
  | x :: r => uptoBulkEntry x + uptoBulkEntries r
def uptoBulkEntry {H : Type} : Lit × DataW H → Nat
  | (.string bytes, d) => bytes.length + uptoBulk d + 1
  | (_, d) => uptoBulk d + 1
 end
def uptoSmall : (H : Type) → List (DataW H) → Bool := fun _ ds => decide (uptoBulkAll ds ≤ 1048576)
def OpenSpec.upto (s : _root_.Go.ChangeSpec) : _root_.Go.OpenSpec := { _root_.Go.OpenSpec.ofChange s with cond := some uptoSmall }

/-- 'laws.FnBack', WHERE WHAT IT READS IS OF BULK AT MOST 1048576: true; the input reads as it did. -/
def fnBackUptoRow : OpenClaim := { program := "ytgjpchnkodnieaagreatdoor", sum := "ce4b771fe55b697827c697d9fbea380bc43674f71c46d5dd892bf4cd8a4e7a09", func := "loop.example/s02542/laws.FnBack", spec := "fnBack", inPlace := ["internal/reflectlite.TypeOf"], unfollowed := true, recurses := true, named := ["loop.example/s02542/impl.errNoResult", "loop.example/s02542/impl.errTooGreat"], ifaces := true, apart := false, laid := [("loop.example/s02542/impl.errNoResult", laid_loop_example_s02542_impl_errNoResult), ("loop.example/s02542/impl.errTooGreat", laid_loop_example_s02542_impl_errTooGreat)], narrowed := true }
def FnBackUptoSaid : Prop := fnBackUptoRow.holds Tryz.pinned (OpenSpec.upto fnBackSpec)

/-- 'laws.FnExactMonad', WHERE WHAT IT READS IS OF BULK AT MOST 1048576: true; the input reads as it did. -/
def fnExactMonadUptoRow : OpenClaim := { program := "ytgjpchnkodnieaagreatdoor", sum := "ce4b771fe55b697827c697d9fbea380bc43674f71c46d5dd892bf4cd8a4e7a09", func := "loop.example/s02542/laws.FnExactMonad", spec := "fnExactMonad", inPlace := ["internal/reflectlite.TypeOf"], unfollowed := true, recurses := true, named := ["loop.example/s02542/impl.errNoResult", "loop.example/s02542/impl.errTooGreat"], ifaces := true, apart := false, laid := [("loop.example/s02542/impl.errNoResult", laid_loop_example_s02542_impl_errNoResult), ("loop.example/s02542/impl.errTooGreat", laid_loop_example_s02542_impl_errTooGreat)], narrowed := true }
def FnExactMonadUptoSaid : Prop := fnExactMonadUptoRow.holds Tryz.pinned (OpenSpec.upto fnExactMonadSpec)

/-- 'laws.FnViews', WHERE WHAT IT READS IS OF BULK AT MOST 1048576: true; the input reads as it did. -/
def fnViewsUptoRow : OpenClaim := { program := "ytgjpchnkodnieaagreatdoor", sum := "ce4b771fe55b697827c697d9fbea380bc43674f71c46d5dd892bf4cd8a4e7a09", func := "loop.example/s02542/laws.FnViews", spec := "fnViews", inPlace := ["internal/reflectlite.TypeOf"], unfollowed := true, recurses := true, named := ["loop.example/s02542/impl.errNoResult", "loop.example/s02542/impl.errTooGreat"], ifaces := true, apart := false, laid := [("loop.example/s02542/impl.errNoResult", laid_loop_example_s02542_impl_errNoResult), ("loop.example/s02542/impl.errTooGreat", laid_loop_example_s02542_impl_errTooGreat)], narrowed := true }
def FnViewsUptoSaid : Prop := fnViewsUptoRow.holds Tryz.pinned (OpenSpec.upto fnViewsSpec)

/-- 'laws.FnProduct', WHERE WHAT IT READS IS OF BULK AT MOST 1048576: true; the input reads as it did. -/
def fnProductUptoRow : OpenClaim := { program := "ytgjpchnkodnieaagreatdoor", sum := "ce4b771fe55b697827c697d9fbea380bc43674f71c46d5dd892bf4cd8a4e7a09", func := "loop.example/s02542/laws.FnProduct", spec := "fnProduct", inPlace := ["internal/reflectlite.TypeOf"], unfollowed := true, recurses := true, named := ["loop.example/s02542/impl.errNoResult", "loop.example/s02542/impl.errTooGreat", "loop.example/s02542/impl.emptyFolds"], ifaces := true, apart := false, laid := [("loop.example/s02542/impl.errNoResult", laid_loop_example_s02542_impl_errNoResult), ("loop.example/s02542/impl.errTooGreat", laid_loop_example_s02542_impl_errTooGreat), ("loop.example/s02542/impl.emptyFolds", laid_loop_example_s02542_impl_emptyFolds)], narrowed := true }
def FnProductUptoSaid : Prop := fnProductUptoRow.holds Tryz.pinned (OpenSpec.upto fnProductSpec)

/-- 'laws.FnExactDyad', WHERE WHAT IT READS IS OF BULK AT MOST 1048576: true; the input reads as it did. -/
def fnExactDyadUptoRow : OpenClaim := { program := "ytgjpchnkodnieaagreatdoor", sum := "ce4b771fe55b697827c697d9fbea380bc43674f71c46d5dd892bf4cd8a4e7a09", func := "loop.example/s02542/laws.FnExactDyad", spec := "fnExactDyad", inPlace := ["internal/reflectlite.TypeOf"], unfollowed := true, recurses := true, named := ["loop.example/s02542/impl.errTooGreat", "loop.example/s02542/impl.errNoResult"], ifaces := true, apart := false, laid := [("loop.example/s02542/impl.errNoResult", laid_loop_example_s02542_impl_errNoResult), ("loop.example/s02542/impl.errTooGreat", laid_loop_example_s02542_impl_errTooGreat)], narrowed := true }
def FnExactDyadUptoSaid : Prop := fnExactDyadUptoRow.holds Tryz.pinned (OpenSpec.upto fnExactDyadSpec)

end Rows
end Go.Proofs.YtgjpchnkodnieaaGreatDoor
