/-
  NARROWER THAN 'FOR EVERY INPUT', by the rows' own cells (each row's printed sentence says how): FnExactScalar1: ifaces, laid · FnExactScalar2: ifaces, laid · FnExactOuter: ifaces, laid · FnExactScan: ifaces, laid · FnExactFold: ifaces, laid.
  DERIVED. THE GIVEN ROWS OF THIS SEAT. 5 by the template 'for every input the law returns true; each argument reads behind the call as it read before'; 0 by the template 'total and deterministic' (their statements: YtpondlabofeohaaDoorTotals.lean).
  GIVEN WITH THE SEED: the statements are not yours to turn. If you find one false, say at which input.
  Laid BY PROGRAM, IN A SANDBOX (cutbox-rows.mjs): the forced cells as the released guide's own fill.sh prints them over the translation 5bd1c2b39a04eda8… (all of the seat's roots in one cut). By AI agents, Wed Nov 11 2026. No macro, syntax, notation, axiom, sorry.
-/
import Derived.Test.YtpondlabofeohaaDoorChecked
import GoSem.Claim
import GoSem.ClaimJoined
import GoSem.ClaimMapViews
import Derived.JoinedTies
import Derived.KernelRfl
namespace Go.Proofs.YtpondlabofeohaaDoor
/- THE CELL 'sum', in the pinned program and in every row, IS THE sha256 OF THE DUMP (.gsa) THAT YtpondlabofeohaaDoorProg.lean LOADS. Nothing in Lean hashes anything: it is a label: what it is worth is what the hold of that sum in a sandbox is worth. -/
noncomputable def Tryd.pinned : Pinned := { name := "ytpondlabofeohaadoor", sum := "5bd1c2b39a04eda875a0bcd1cf2dfe91defbfee179c8bf7cb3698199bed4a027", checked := Tryd.checked }
namespace Rows
def none {H : Type} : Left H := { results := [], args := [] }

/- WHAT THE LISTED PACKAGE-LEVEL VARIABLES READ AS WHEN THE CALL BEGINS. Each datum BY PROGRAM (the guide's laid-datum.mjs) off the statement by which the dump's own 'gosem.cut.vars' lays the variable. In a bare row this is a premise. The card (YtpondlabofeohaaDoorCards.lean) ties it to the program's text. -/
def laid_loop_example_s02542_impl_errNoResult {H : Type} : DataW H := .iface "*errors.errorString" (.ptr (.agg [.lit (.string [116, 104, 101, 32, 101, 108, 101, 109, 101, 110, 116, 115, 32, 104, 97, 118, 101, 32, 110, 111, 32, 115, 117, 99, 104, 32, 114, 101, 115, 117, 108, 116])]))
def laid_loop_example_s02542_impl_errTooGreat {H : Type} : DataW H := .iface "*errors.errorString" (.ptr (.agg [.lit (.string [116, 104, 101, 32, 114, 101, 115, 117, 108, 116, 32, 105, 115, 32, 98, 101, 121, 111, 110, 100, 32, 116, 104, 101, 32, 110, 117, 109, 98, 101, 114, 115, 32, 111, 102, 32, 97, 110, 32, 97, 114, 114, 97, 121])]))
def laid_loop_example_s02542_impl_emptyFolds {H : Type} : DataW H := .agg [.lit (.int .i64 0), .lit (.int .i64 0), .lit (.int .i64 1), .lit (.int .i64 1), .lit (.int .i64 1000000000000000), .lit (.int .i64 (-1000000000000000)), .lit (.int .i64 0), .lit (.int .i64 1), .lit (.int .i64 1), .lit (.int .i64 0), .lit (.int .i64 0), .lit (.int .i64 1), .lit (.int .i64 1), .lit (.int .i64 0), .lit (.int .i64 1), .lit (.int .i64 0)]

/-- 'laws.FnExactScalar1': WHATEVER THE INPUT: true; the input reads as it did. -/
def fnExactScalar1Spec : ChangeSpec := { name := "fnExactScalar1", vars := ["loop.example/s02542/impl.errNoResult", "loop.example/s02542/impl.errTooGreat"], fn := fun _ => fun
  | [d1, d2, g1, g2] => { results := [.lit (.bool true)], args := [d1, d2], vars := [g1, g2] }
  | _ => none }
def fnExactScalar1Row : OpenClaim := { program := "ytpondlabofeohaadoor", sum := "5bd1c2b39a04eda875a0bcd1cf2dfe91defbfee179c8bf7cb3698199bed4a027", func := "loop.example/s02542/laws.FnExactScalar1", spec := "fnExactScalar1", inPlace := ["internal/reflectlite.TypeOf"], unfollowed := true, recurses := true, named := ["loop.example/s02542/impl.errNoResult", "loop.example/s02542/impl.errTooGreat"], ifaces := true, apart := false, laid := [("loop.example/s02542/impl.errNoResult", laid_loop_example_s02542_impl_errNoResult), ("loop.example/s02542/impl.errTooGreat", laid_loop_example_s02542_impl_errTooGreat)] }
def FnExactScalar1Said : Prop := fnExactScalar1Row.holds Tryd.pinned (OpenSpec.ofChange fnExactScalar1Spec)

/-- ITS FALSE NEIGHBOUR: 'it returns false'. Refute it at one input. -/
def fnExactScalar1Wrong : ChangeSpec := { name := "fnExactScalar1", vars := ["loop.example/s02542/impl.errNoResult", "loop.example/s02542/impl.errTooGreat"], fn := fun _ => fun
  | [d1, d2, g1, g2] => { results := [.lit (.bool false)], args := [d1, d2], vars := [g1, g2] }
  | _ => none }
def FnExactScalar1WrongFalsely : Prop := fnExactScalar1Row.holds Tryd.pinned (OpenSpec.ofChange fnExactScalar1Wrong)

/-- 'laws.FnExactScalar2': WHATEVER THE INPUT: true; the input reads as it did. -/
def fnExactScalar2Spec : ChangeSpec := { name := "fnExactScalar2", vars := ["loop.example/s02542/impl.errNoResult", "loop.example/s02542/impl.errTooGreat"], fn := fun _ => fun
  | [d1, d2, d3, g1, g2] => { results := [.lit (.bool true)], args := [d1, d2, d3], vars := [g1, g2] }
  | _ => none }
def fnExactScalar2Row : OpenClaim := { program := "ytpondlabofeohaadoor", sum := "5bd1c2b39a04eda875a0bcd1cf2dfe91defbfee179c8bf7cb3698199bed4a027", func := "loop.example/s02542/laws.FnExactScalar2", spec := "fnExactScalar2", inPlace := ["internal/reflectlite.TypeOf"], unfollowed := true, recurses := true, named := ["loop.example/s02542/impl.errNoResult", "loop.example/s02542/impl.errTooGreat"], ifaces := true, apart := false, laid := [("loop.example/s02542/impl.errNoResult", laid_loop_example_s02542_impl_errNoResult), ("loop.example/s02542/impl.errTooGreat", laid_loop_example_s02542_impl_errTooGreat)] }
def FnExactScalar2Said : Prop := fnExactScalar2Row.holds Tryd.pinned (OpenSpec.ofChange fnExactScalar2Spec)

/-- ITS FALSE NEIGHBOUR: 'it returns false'. Refute it at one input. -/
def fnExactScalar2Wrong : ChangeSpec := { name := "fnExactScalar2", vars := ["loop.example/s02542/impl.errNoResult", "loop.example/s02542/impl.errTooGreat"], fn := fun _ => fun
  | [d1, d2, d3, g1, g2] => { results := [.lit (.bool false)], args := [d1, d2, d3], vars := [g1, g2] }
  | _ => none }
def FnExactScalar2WrongFalsely : Prop := fnExactScalar2Row.holds Tryd.pinned (OpenSpec.ofChange fnExactScalar2Wrong)

/-- 'laws.FnExactOuter': WHATEVER THE INPUT: true; the input reads as it did. -/
def fnExactOuterSpec : ChangeSpec := { name := "fnExactOuter", vars := ["loop.example/s02542/impl.errNoResult", "loop.example/s02542/impl.errTooGreat"], fn := fun _ => fun
  | [d1, d2, d3, g1, g2] => { results := [.lit (.bool true)], args := [d1, d2, d3], vars := [g1, g2] }
  | _ => none }
def fnExactOuterRow : OpenClaim := { program := "ytpondlabofeohaadoor", sum := "5bd1c2b39a04eda875a0bcd1cf2dfe91defbfee179c8bf7cb3698199bed4a027", func := "loop.example/s02542/laws.FnExactOuter", spec := "fnExactOuter", inPlace := ["internal/reflectlite.TypeOf"], unfollowed := true, recurses := true, named := ["loop.example/s02542/impl.errNoResult", "loop.example/s02542/impl.errTooGreat"], ifaces := true, apart := false, laid := [("loop.example/s02542/impl.errNoResult", laid_loop_example_s02542_impl_errNoResult), ("loop.example/s02542/impl.errTooGreat", laid_loop_example_s02542_impl_errTooGreat)] }
def FnExactOuterSaid : Prop := fnExactOuterRow.holds Tryd.pinned (OpenSpec.ofChange fnExactOuterSpec)

/-- ITS FALSE NEIGHBOUR: 'it returns false'. Refute it at one input. -/
def fnExactOuterWrong : ChangeSpec := { name := "fnExactOuter", vars := ["loop.example/s02542/impl.errNoResult", "loop.example/s02542/impl.errTooGreat"], fn := fun _ => fun
  | [d1, d2, d3, g1, g2] => { results := [.lit (.bool false)], args := [d1, d2, d3], vars := [g1, g2] }
  | _ => none }
def FnExactOuterWrongFalsely : Prop := fnExactOuterRow.holds Tryd.pinned (OpenSpec.ofChange fnExactOuterWrong)

/-- 'laws.FnExactScan': WHATEVER THE INPUT: true; the input reads as it did. -/
def fnExactScanSpec : ChangeSpec := { name := "fnExactScan", vars := ["loop.example/s02542/impl.errNoResult", "loop.example/s02542/impl.errTooGreat", "loop.example/s02542/impl.emptyFolds"], fn := fun _ => fun
  | [d1, d2, d3, g1, g2, g3] => { results := [.lit (.bool true)], args := [d1, d2, d3], vars := [g1, g2, g3] }
  | _ => none }
def fnExactScanRow : OpenClaim := { program := "ytpondlabofeohaadoor", sum := "5bd1c2b39a04eda875a0bcd1cf2dfe91defbfee179c8bf7cb3698199bed4a027", func := "loop.example/s02542/laws.FnExactScan", spec := "fnExactScan", inPlace := ["internal/reflectlite.TypeOf"], unfollowed := true, recurses := true, named := ["loop.example/s02542/impl.errNoResult", "loop.example/s02542/impl.errTooGreat", "loop.example/s02542/impl.emptyFolds"], ifaces := true, apart := false, laid := [("loop.example/s02542/impl.errNoResult", laid_loop_example_s02542_impl_errNoResult), ("loop.example/s02542/impl.errTooGreat", laid_loop_example_s02542_impl_errTooGreat), ("loop.example/s02542/impl.emptyFolds", laid_loop_example_s02542_impl_emptyFolds)] }
def FnExactScanSaid : Prop := fnExactScanRow.holds Tryd.pinned (OpenSpec.ofChange fnExactScanSpec)

/-- ITS FALSE NEIGHBOUR: 'it returns false'. Refute it at one input. -/
def fnExactScanWrong : ChangeSpec := { name := "fnExactScan", vars := ["loop.example/s02542/impl.errNoResult", "loop.example/s02542/impl.errTooGreat", "loop.example/s02542/impl.emptyFolds"], fn := fun _ => fun
  | [d1, d2, d3, g1, g2, g3] => { results := [.lit (.bool false)], args := [d1, d2, d3], vars := [g1, g2, g3] }
  | _ => none }
def FnExactScanWrongFalsely : Prop := fnExactScanRow.holds Tryd.pinned (OpenSpec.ofChange fnExactScanWrong)

/-- 'laws.FnExactFold': WHATEVER THE INPUT: true; the input reads as it did. -/
def fnExactFoldSpec : ChangeSpec := { name := "fnExactFold", vars := ["loop.example/s02542/impl.errNoResult", "loop.example/s02542/impl.errTooGreat", "loop.example/s02542/impl.emptyFolds"], fn := fun _ => fun
  | [d1, d2, d3, g1, g2, g3] => { results := [.lit (.bool true)], args := [d1, d2, d3], vars := [g1, g2, g3] }
  | _ => none }
def fnExactFoldRow : OpenClaim := { program := "ytpondlabofeohaadoor", sum := "5bd1c2b39a04eda875a0bcd1cf2dfe91defbfee179c8bf7cb3698199bed4a027", func := "loop.example/s02542/laws.FnExactFold", spec := "fnExactFold", inPlace := ["internal/reflectlite.TypeOf"], unfollowed := true, recurses := true, named := ["loop.example/s02542/impl.errNoResult", "loop.example/s02542/impl.errTooGreat", "loop.example/s02542/impl.emptyFolds"], ifaces := true, apart := false, laid := [("loop.example/s02542/impl.errNoResult", laid_loop_example_s02542_impl_errNoResult), ("loop.example/s02542/impl.errTooGreat", laid_loop_example_s02542_impl_errTooGreat), ("loop.example/s02542/impl.emptyFolds", laid_loop_example_s02542_impl_emptyFolds)] }
def FnExactFoldSaid : Prop := fnExactFoldRow.holds Tryd.pinned (OpenSpec.ofChange fnExactFoldSpec)

/-- ITS FALSE NEIGHBOUR: 'it returns false'. Refute it at one input. -/
def fnExactFoldWrong : ChangeSpec := { name := "fnExactFold", vars := ["loop.example/s02542/impl.errNoResult", "loop.example/s02542/impl.errTooGreat", "loop.example/s02542/impl.emptyFolds"], fn := fun _ => fun
  | [d1, d2, d3, g1, g2, g3] => { results := [.lit (.bool false)], args := [d1, d2, d3], vars := [g1, g2, g3] }
  | _ => none }
def FnExactFoldWrongFalsely : Prop := fnExactFoldRow.holds Tryd.pinned (OpenSpec.ofChange fnExactFoldWrong)

/- THE SECOND FORM. 'bulk': how many values and letters a reading holds, each counted each time it is reached (what is shared counts as often as it is met; a slice's spare places count too). A statement '..UptoSaid' is the law's where the arguments, and the package variables that the reading takes, are together of bulk at most 1048576: NARROWER than '..Said'. Prove '..Said' where nothing that the law and all that it calls make is longer than what came in: it says more and counts as full. Else prove '..UptoSaid'. A law counts once. -/
mutual
def uptoBulk {H : Type} : DataW H → Nat
  | .lit (.string bytes) => bytes.length + 1
  | .lit _ => 1
  | .nil => 1
  | .ptr d => uptoBulk d + 1
  | .slice elems spare => uptoBulkAll elems + uptoBulkAll spare + 1
  | .agg parts => uptoBulkAll parts + 1
  | .iface _ d => uptoBulk d + 1
  | .map entries => uptoBulkEntries entries + 1
  | .held _ => 1
def uptoBulkAll {H : Type} : List (DataW H) → Nat
  | [] => 0
  | d :: r => uptoBulk d + uptoBulkAll r
def uptoBulkEntries {H : Type} : List (Lit × DataW H) → Nat
  | [] => 0
  | x :: r => uptoBulkEntry x + uptoBulkEntries r
def uptoBulkEntry {H : Type} : Lit × DataW H → Nat
  | (.string bytes, d) => bytes.length + uptoBulk d + 1
  | (_, d) => uptoBulk d + 1
 end
def uptoSmall : (H : Type) → List (DataW H) → Bool := fun _ ds => decide (uptoBulkAll ds ≤ 1048576)
def OpenSpec.upto (s : _root_.Go.ChangeSpec) : _root_.Go.OpenSpec := { _root_.Go.OpenSpec.ofChange s with cond := some uptoSmall }

/-- 'laws.FnExactScalar1', WHERE WHAT IT READS IS OF BULK AT MOST 1048576: true; the input reads as it did. -/
def fnExactScalar1UptoRow : OpenClaim := { program := "ytpondlabofeohaadoor", sum := "5bd1c2b39a04eda875a0bcd1cf2dfe91defbfee179c8bf7cb3698199bed4a027", func := "loop.example/s02542/laws.FnExactScalar1", spec := "fnExactScalar1", inPlace := ["internal/reflectlite.TypeOf"], unfollowed := true, recurses := true, named := ["loop.example/s02542/impl.errNoResult", "loop.example/s02542/impl.errTooGreat"], ifaces := true, apart := false, laid := [("loop.example/s02542/impl.errNoResult", laid_loop_example_s02542_impl_errNoResult), ("loop.example/s02542/impl.errTooGreat", laid_loop_example_s02542_impl_errTooGreat)], narrowed := true }
def FnExactScalar1UptoSaid : Prop := fnExactScalar1UptoRow.holds Tryd.pinned (OpenSpec.upto fnExactScalar1Spec)

/-- 'laws.FnExactScalar2', WHERE WHAT IT READS IS OF BULK AT MOST 1048576: true; the input reads as it did. -/
def fnExactScalar2UptoRow : OpenClaim := { program := "ytpondlabofeohaadoor", sum := "5bd1c2b39a04eda875a0bcd1cf2dfe91defbfee179c8bf7cb3698199bed4a027", func := "loop.example/s02542/laws.FnExactScalar2", spec := "fnExactScalar2", inPlace := ["internal/reflectlite.TypeOf"], unfollowed := true, recurses := true, named := ["loop.example/s02542/impl.errNoResult", "loop.example/s02542/impl.errTooGreat"], ifaces := true, apart := false, laid := [("loop.example/s02542/impl.errNoResult", laid_loop_example_s02542_impl_errNoResult), ("loop.example/s02542/impl.errTooGreat", laid_loop_example_s02542_impl_errTooGreat)], narrowed := true }
def FnExactScalar2UptoSaid : Prop := fnExactScalar2UptoRow.holds Tryd.pinned (OpenSpec.upto fnExactScalar2Spec)

/-- 'laws.FnExactOuter', WHERE WHAT IT READS IS OF BULK AT MOST 1048576: true; the input reads as it did. -/
def fnExactOuterUptoRow : OpenClaim := { program := "ytpondlabofeohaadoor", sum := "5bd1c2b39a04eda875a0bcd1cf2dfe91defbfee179c8bf7cb3698199bed4a027", func := "loop.example/s02542/laws.FnExactOuter", spec := "fnExactOuter", inPlace := ["internal/reflectlite.TypeOf"], unfollowed := true, recurses := true, named := ["loop.example/s02542/impl.errNoResult", "loop.example/s02542/impl.errTooGreat"], ifaces := true, apart := false, laid := [("loop.example/s02542/impl.errNoResult", laid_loop_example_s02542_impl_errNoResult), ("loop.example/s02542/impl.errTooGreat", laid_loop_example_s02542_impl_errTooGreat)], narrowed := true }
def FnExactOuterUptoSaid : Prop := fnExactOuterUptoRow.holds Tryd.pinned (OpenSpec.upto fnExactOuterSpec)

/-- 'laws.FnExactScan', WHERE WHAT IT READS IS OF BULK AT MOST 1048576: true; the input reads as it did. -/
def fnExactScanUptoRow : OpenClaim := { program := "ytpondlabofeohaadoor", sum := "5bd1c2b39a04eda875a0bcd1cf2dfe91defbfee179c8bf7cb3698199bed4a027", func := "loop.example/s02542/laws.FnExactScan", spec := "fnExactScan", inPlace := ["internal/reflectlite.TypeOf"], unfollowed := true, recurses := true, named := ["loop.example/s02542/impl.errNoResult", "loop.example/s02542/impl.errTooGreat", "loop.example/s02542/impl.emptyFolds"], ifaces := true, apart := false, laid := [("loop.example/s02542/impl.errNoResult", laid_loop_example_s02542_impl_errNoResult), ("loop.example/s02542/impl.errTooGreat", laid_loop_example_s02542_impl_errTooGreat), ("loop.example/s02542/impl.emptyFolds", laid_loop_example_s02542_impl_emptyFolds)], narrowed := true }
def FnExactScanUptoSaid : Prop := fnExactScanUptoRow.holds Tryd.pinned (OpenSpec.upto fnExactScanSpec)

/-- 'laws.FnExactFold', WHERE WHAT IT READS IS OF BULK AT MOST 1048576: true; the input reads as it did. -/
def fnExactFoldUptoRow : OpenClaim := { program := "ytpondlabofeohaadoor", sum := "5bd1c2b39a04eda875a0bcd1cf2dfe91defbfee179c8bf7cb3698199bed4a027", func := "loop.example/s02542/laws.FnExactFold", spec := "fnExactFold", inPlace := ["internal/reflectlite.TypeOf"], unfollowed := true, recurses := true, named := ["loop.example/s02542/impl.errNoResult", "loop.example/s02542/impl.errTooGreat", "loop.example/s02542/impl.emptyFolds"], ifaces := true, apart := false, laid := [("loop.example/s02542/impl.errNoResult", laid_loop_example_s02542_impl_errNoResult), ("loop.example/s02542/impl.errTooGreat", laid_loop_example_s02542_impl_errTooGreat), ("loop.example/s02542/impl.emptyFolds", laid_loop_example_s02542_impl_emptyFolds)], narrowed := true }
def FnExactFoldUptoSaid : Prop := fnExactFoldUptoRow.holds Tryd.pinned (OpenSpec.upto fnExactFoldSpec)

end Rows
end Go.Proofs.YtpondlabofeohaaDoor
