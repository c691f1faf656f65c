/-
  NARROWER THAN 'FOR EVERY INPUT', by the rows' own cells (each row's printed sentence says how): FnThere: ifaces, laid · FnExtended: ifaces, laid · FnDigits: ifaces, laid · FnExactInner: ifaces, laid · FnFolded: ifaces, laid.
  DERIVED. THE GIVEN ROWS OF THIS SEAT. 5 by the template 'for every input the law returns true; each argument reads behind the call as it read before'; 0 by the template 'total and deterministic' (their statements: YtkgcmpmgaghdhaaGreatDoorTotals.lean).
  GIVEN WITH THE SEED: the statements are not yours to turn. If you find one false, say at which input.
  Laid BY PROGRAM, IN A SANDBOX (cutbox-rows.mjs): the forced cells as the released guide's own fill.sh prints them over the translation d8ce7fcb4b3095d6… (all of the seat's roots in one cut). By AI agents, Wed Nov 11 2026. No macro, syntax, notation, axiom, sorry.
-/
import Derived.Test.YtkgcmpmgaghdhaaGreatDoorChecked
import GoSem.Claim
import GoSem.ClaimJoined
import GoSem.ClaimMapViews
import Derived.JoinedTies
import Derived.KernelRfl
namespace Go.Proofs.YtkgcmpmgaghdhaaGreatDoor
/- THE CELL 'sum', in the pinned program and in every row, IS THE sha256 OF THE DUMP (.gsa) THAT YtkgcmpmgaghdhaaGreatDoorProg.lean LOADS. Nothing in Lean hashes anything: it is a label: what it is worth is what the hold of that sum in a sandbox is worth. -/
noncomputable def Tryz.pinned : Pinned := { name := "ytkgcmpmgaghdhaagreatdoor", sum := "d8ce7fcb4b3095d63b38628064db0a86464d16d9c0e649a6a132b1c6ea11a5f1", checked := Tryz.checked }
namespace Rows
def none {H : Type} : Left H := { results := [], args := [] }

/- WHAT THE LISTED PACKAGE-LEVEL VARIABLES READ AS WHEN THE CALL BEGINS. Each datum BY PROGRAM (the guide's laid-datum.mjs) off the statement by which the dump's own 'gosem.cut.vars' lays the variable. In a bare row this is a premise. The card (YtkgcmpmgaghdhaaGreatDoorCards.lean) ties it to the program's text. -/
def laid_loop_example_s02542_impl_errNoResult {H : Type} : DataW H := .iface "*errors.errorString" (.ptr (.agg [.lit (.string [116, 104, 101, 32, 101, 108, 101, 109, 101, 110, 116, 115, 32, 104, 97, 118, 101, 32, 110, 111, 32, 115, 117, 99, 104, 32, 114, 101, 115, 117, 108, 116])]))
def laid_loop_example_s02542_impl_errTooGreat {H : Type} : DataW H := .iface "*errors.errorString" (.ptr (.agg [.lit (.string [116, 104, 101, 32, 114, 101, 115, 117, 108, 116, 32, 105, 115, 32, 98, 101, 121, 111, 110, 100, 32, 116, 104, 101, 32, 110, 117, 109, 98, 101, 114, 115, 32, 111, 102, 32, 97, 110, 32, 97, 114, 114, 97, 121])]))
def laid_loop_example_s02542_impl_emptyFolds {H : Type} : DataW H := .agg [.lit (.int .i64 0), .lit (.int .i64 0), .lit (.int .i64 1), .lit (.int .i64 1), .lit (.int .i64 1000000000000000), .lit (.int .i64 (-1000000000000000)), .lit (.int .i64 0), .lit (.int .i64 1), .lit (.int .i64 1), .lit (.int .i64 0), .lit (.int .i64 0), .lit (.int .i64 1), .lit (.int .i64 1), .lit (.int .i64 0), .lit (.int .i64 1), .lit (.int .i64 0)]

/-- 'laws.FnThere': WHATEVER THE INPUT: true; the input reads as it did. -/
def fnThereSpec : ChangeSpec := { name := "fnThere", vars := ["loop.example/s02542/impl.errNoResult", "loop.example/s02542/impl.errTooGreat"], fn := fun _ => fun
  | [d, g1, g2] => { results := [.lit (.bool true)], args := [d], vars := [g1, g2] }
  | _ => none }
def fnThereRow : OpenClaim := { program := "ytkgcmpmgaghdhaagreatdoor", sum := "d8ce7fcb4b3095d63b38628064db0a86464d16d9c0e649a6a132b1c6ea11a5f1", func := "loop.example/s02542/laws.FnThere", spec := "fnThere", inPlace := ["internal/reflectlite.TypeOf"], unfollowed := true, recurses := true, named := ["loop.example/s02542/impl.errNoResult", "loop.example/s02542/impl.errTooGreat"], ifaces := true, apart := false, laid := [("loop.example/s02542/impl.errNoResult", laid_loop_example_s02542_impl_errNoResult), ("loop.example/s02542/impl.errTooGreat", laid_loop_example_s02542_impl_errTooGreat)] }
def FnThereSaid : Prop := fnThereRow.holds Tryz.pinned (OpenSpec.ofChange fnThereSpec)

/-- ITS FALSE NEIGHBOUR: 'it returns false'. Refute it at one input. -/
def fnThereWrong : ChangeSpec := { name := "fnThere", vars := ["loop.example/s02542/impl.errNoResult", "loop.example/s02542/impl.errTooGreat"], fn := fun _ => fun
  | [d, g1, g2] => { results := [.lit (.bool false)], args := [d], vars := [g1, g2] }
  | _ => none }
def FnThereWrongFalsely : Prop := fnThereRow.holds Tryz.pinned (OpenSpec.ofChange fnThereWrong)

/-- 'laws.FnExtended': WHATEVER THE INPUT: true; the input reads as it did. -/
def fnExtendedSpec : ChangeSpec := { name := "fnExtended", vars := ["loop.example/s02542/impl.errNoResult", "loop.example/s02542/impl.errTooGreat"], fn := fun _ => fun
  | [d, g1, g2] => { results := [.lit (.bool true)], args := [d], vars := [g1, g2] }
  | _ => none }
def fnExtendedRow : OpenClaim := { program := "ytkgcmpmgaghdhaagreatdoor", sum := "d8ce7fcb4b3095d63b38628064db0a86464d16d9c0e649a6a132b1c6ea11a5f1", func := "loop.example/s02542/laws.FnExtended", spec := "fnExtended", inPlace := ["internal/reflectlite.TypeOf"], unfollowed := true, recurses := true, named := ["loop.example/s02542/impl.errNoResult", "loop.example/s02542/impl.errTooGreat"], ifaces := true, apart := false, laid := [("loop.example/s02542/impl.errNoResult", laid_loop_example_s02542_impl_errNoResult), ("loop.example/s02542/impl.errTooGreat", laid_loop_example_s02542_impl_errTooGreat)] }
def FnExtendedSaid : Prop := fnExtendedRow.holds Tryz.pinned (OpenSpec.ofChange fnExtendedSpec)

/-- ITS FALSE NEIGHBOUR: 'it returns false'. Refute it at one input. -/
def fnExtendedWrong : ChangeSpec := { name := "fnExtended", vars := ["loop.example/s02542/impl.errNoResult", "loop.example/s02542/impl.errTooGreat"], fn := fun _ => fun
  | [d, g1, g2] => { results := [.lit (.bool false)], args := [d], vars := [g1, g2] }
  | _ => none }
def FnExtendedWrongFalsely : Prop := fnExtendedRow.holds Tryz.pinned (OpenSpec.ofChange fnExtendedWrong)

/-- 'laws.FnDigits': WHATEVER THE INPUT: true; the input reads as it did. -/
def fnDigitsSpec : ChangeSpec := { name := "fnDigits", vars := ["loop.example/s02542/impl.errTooGreat", "loop.example/s02542/impl.errNoResult"], fn := fun _ => fun
  | [d, g1, g2] => { results := [.lit (.bool true)], args := [d], vars := [g1, g2] }
  | _ => none }
def fnDigitsRow : OpenClaim := { program := "ytkgcmpmgaghdhaagreatdoor", sum := "d8ce7fcb4b3095d63b38628064db0a86464d16d9c0e649a6a132b1c6ea11a5f1", func := "loop.example/s02542/laws.FnDigits", spec := "fnDigits", inPlace := ["internal/reflectlite.TypeOf"], unfollowed := true, recurses := true, named := ["loop.example/s02542/impl.errTooGreat", "loop.example/s02542/impl.errNoResult"], ifaces := true, apart := false, laid := [("loop.example/s02542/impl.errNoResult", laid_loop_example_s02542_impl_errNoResult), ("loop.example/s02542/impl.errTooGreat", laid_loop_example_s02542_impl_errTooGreat)] }
def FnDigitsSaid : Prop := fnDigitsRow.holds Tryz.pinned (OpenSpec.ofChange fnDigitsSpec)

/-- ITS FALSE NEIGHBOUR: 'it returns false'. Refute it at one input. -/
def fnDigitsWrong : ChangeSpec := { name := "fnDigits", vars := ["loop.example/s02542/impl.errTooGreat", "loop.example/s02542/impl.errNoResult"], fn := fun _ => fun
  | [d, g1, g2] => { results := [.lit (.bool false)], args := [d], vars := [g1, g2] }
  | _ => none }
def FnDigitsWrongFalsely : Prop := fnDigitsRow.holds Tryz.pinned (OpenSpec.ofChange fnDigitsWrong)

/-- 'laws.FnExactInner': WHATEVER THE INPUT: true; the input reads as it did. -/
def fnExactInnerSpec : ChangeSpec := { name := "fnExactInner", vars := ["loop.example/s02542/impl.errNoResult", "loop.example/s02542/impl.errTooGreat", "loop.example/s02542/impl.emptyFolds"], fn := fun _ => fun
  | [d1, d2, d3, d4, g1, g2, g3] => { results := [.lit (.bool true)], args := [d1, d2, d3, d4], vars := [g1, g2, g3] }
  | _ => none }
def fnExactInnerRow : OpenClaim := { program := "ytkgcmpmgaghdhaagreatdoor", sum := "d8ce7fcb4b3095d63b38628064db0a86464d16d9c0e649a6a132b1c6ea11a5f1", func := "loop.example/s02542/laws.FnExactInner", spec := "fnExactInner", inPlace := ["internal/reflectlite.TypeOf"], unfollowed := true, recurses := true, named := ["loop.example/s02542/impl.errNoResult", "loop.example/s02542/impl.errTooGreat", "loop.example/s02542/impl.emptyFolds"], ifaces := true, apart := false, laid := [("loop.example/s02542/impl.errNoResult", laid_loop_example_s02542_impl_errNoResult), ("loop.example/s02542/impl.errTooGreat", laid_loop_example_s02542_impl_errTooGreat), ("loop.example/s02542/impl.emptyFolds", laid_loop_example_s02542_impl_emptyFolds)] }
def FnExactInnerSaid : Prop := fnExactInnerRow.holds Tryz.pinned (OpenSpec.ofChange fnExactInnerSpec)

/-- ITS FALSE NEIGHBOUR: 'it returns false'. Refute it at one input. -/
def fnExactInnerWrong : ChangeSpec := { name := "fnExactInner", vars := ["loop.example/s02542/impl.errNoResult", "loop.example/s02542/impl.errTooGreat", "loop.example/s02542/impl.emptyFolds"], fn := fun _ => fun
  | [d1, d2, d3, d4, g1, g2, g3] => { results := [.lit (.bool false)], args := [d1, d2, d3, d4], vars := [g1, g2, g3] }
  | _ => none }
def FnExactInnerWrongFalsely : Prop := fnExactInnerRow.holds Tryz.pinned (OpenSpec.ofChange fnExactInnerWrong)

/-- 'laws.FnFolded': WHATEVER THE INPUT: true; the input reads as it did. -/
def fnFoldedSpec : ChangeSpec := { name := "fnFolded", vars := ["loop.example/s02542/impl.errNoResult", "loop.example/s02542/impl.errTooGreat", "loop.example/s02542/impl.emptyFolds"], fn := fun _ => fun
  | [d1, d2, g1, g2, g3] => { results := [.lit (.bool true)], args := [d1, d2], vars := [g1, g2, g3] }
  | _ => none }
def fnFoldedRow : OpenClaim := { program := "ytkgcmpmgaghdhaagreatdoor", sum := "d8ce7fcb4b3095d63b38628064db0a86464d16d9c0e649a6a132b1c6ea11a5f1", func := "loop.example/s02542/laws.FnFolded", spec := "fnFolded", inPlace := ["internal/reflectlite.TypeOf"], unfollowed := true, recurses := true, named := ["loop.example/s02542/impl.errNoResult", "loop.example/s02542/impl.errTooGreat", "loop.example/s02542/impl.emptyFolds"], ifaces := true, apart := false, laid := [("loop.example/s02542/impl.errNoResult", laid_loop_example_s02542_impl_errNoResult), ("loop.example/s02542/impl.errTooGreat", laid_loop_example_s02542_impl_errTooGreat), ("loop.example/s02542/impl.emptyFolds", laid_loop_example_s02542_impl_emptyFolds)] }
def FnFoldedSaid : Prop := fnFoldedRow.holds Tryz.pinned (OpenSpec.ofChange fnFoldedSpec)

/-- ITS FALSE NEIGHBOUR: 'it returns false'. Refute it at one input. -/
def fnFoldedWrong : ChangeSpec := { name := "fnFolded", vars := ["loop.example/s02542/impl.errNoResult", "loop.example/s02542/impl.errTooGreat", "loop.example/s02542/impl.emptyFolds"], fn := fun _ => fun
  | [d1, d2, g1, g2, g3] => { results := [.lit (.bool false)], args := [d1, d2], vars := [g1, g2, g3] }
  | _ => none }
def FnFoldedWrongFalsely : Prop := fnFoldedRow.holds Tryz.pinned (OpenSpec.ofChange fnFoldedWrong)

/- THE SECOND FORM. 'bulk': how many values and letters a reading holds, each counted each time it is reached (what is shared counts as often as it is met; a slice's spare places count too). A statement '..UptoSaid' is the law's where the arguments, and the package variables that the reading takes, are together of bulk at most 1048576: NARROWER than '..Said'. Prove '..Said' where nothing that the law and all that it calls make is longer than what came in: it says more and counts as full. Else prove '..UptoSaid'. A law counts once. -/
mutual
def uptoBulk {H : Type} : DataW H → Nat
  | .lit (.string bytes) => bytes.length + 1
  | .lit _ => 1
  | .nil => 1
  | .ptr d => uptoBulk d + 1
  | .slice elems spare => uptoBulkAll elems + uptoBulkAll spare + 1
  | .agg parts => uptoBulkAll parts + 1
  | .iface _ d => uptoBulk d + 1
  | .map entries => uptoBulkEntries entries + 1
  | .held _ => 1
def uptoBulkAll {H : Type} : List (DataW H) → Nat
  | [] => 0
  | d :: r => uptoBulk d + uptoBulkAll r
def uptoBulkEntries {H : Type} : List (Lit × DataW H) → Nat
  | [] => 0
  | x :: r => uptoBulkEntry x + uptoBulkEntries r
def uptoBulkEntry {H : Type} : Lit × DataW H → Nat
  | (.string bytes, d) => bytes.length + uptoBulk d + 1
  | (_, d) => uptoBulk d + 1
 end
def uptoSmall : (H : Type) → List (DataW H) → Bool := fun _ ds => decide (uptoBulkAll ds ≤ 1048576)
def OpenSpec.upto (s : _root_.Go.ChangeSpec) : _root_.Go.OpenSpec := { _root_.Go.OpenSpec.ofChange s with cond := some uptoSmall }

/-- 'laws.FnThere', WHERE WHAT IT READS IS OF BULK AT MOST 1048576: true; the input reads as it did. -/
def fnThereUptoRow : OpenClaim := { program := "ytkgcmpmgaghdhaagreatdoor", sum := "d8ce7fcb4b3095d63b38628064db0a86464d16d9c0e649a6a132b1c6ea11a5f1", func := "loop.example/s02542/laws.FnThere", spec := "fnThere", inPlace := ["internal/reflectlite.TypeOf"], unfollowed := true, recurses := true, named := ["loop.example/s02542/impl.errNoResult", "loop.example/s02542/impl.errTooGreat"], ifaces := true, apart := false, laid := [("loop.example/s02542/impl.errNoResult", laid_loop_example_s02542_impl_errNoResult), ("loop.example/s02542/impl.errTooGreat", laid_loop_example_s02542_impl_errTooGreat)], narrowed := true }
def FnThereUptoSaid : Prop := fnThereUptoRow.holds Tryz.pinned (OpenSpec.upto fnThereSpec)

/-- 'laws.FnExtended', WHERE WHAT IT READS IS OF BULK AT MOST 1048576: true; the input reads as it did. -/
def fnExtendedUptoRow : OpenClaim := { program := "ytkgcmpmgaghdhaagreatdoor", sum := "d8ce7fcb4b3095d63b38628064db0a86464d16d9c0e649a6a132b1c6ea11a5f1", func := "loop.example/s02542/laws.FnExtended", spec := "fnExtended", inPlace := ["internal/reflectlite.TypeOf"], unfollowed := true, recurses := true, named := ["loop.example/s02542/impl.errNoResult", "loop.example/s02542/impl.errTooGreat"], ifaces := true, apart := false, laid := [("loop.example/s02542/impl.errNoResult", laid_loop_example_s02542_impl_errNoResult), ("loop.example/s02542/impl.errTooGreat", laid_loop_example_s02542_impl_errTooGreat)], narrowed := true }
def FnExtendedUptoSaid : Prop := fnExtendedUptoRow.holds Tryz.pinned (OpenSpec.upto fnExtendedSpec)

/-- 'laws.FnDigits', WHERE WHAT IT READS IS OF BULK AT MOST 1048576: true; the input reads as it did. -/
def fnDigitsUptoRow : OpenClaim := { program := "ytkgcmpmgaghdhaagreatdoor", sum := "d8ce7fcb4b3095d63b38628064db0a86464d16d9c0e649a6a132b1c6ea11a5f1", func := "loop.example/s02542/laws.FnDigits", spec := "fnDigits", inPlace := ["internal/reflectlite.TypeOf"], unfollowed := true, recurses := true, named := ["loop.example/s02542/impl.errTooGreat", "loop.example/s02542/impl.errNoResult"], ifaces := true, apart := false, laid := [("loop.example/s02542/impl.errNoResult", laid_loop_example_s02542_impl_errNoResult), ("loop.example/s02542/impl.errTooGreat", laid_loop_example_s02542_impl_errTooGreat)], narrowed := true }
def FnDigitsUptoSaid : Prop := fnDigitsUptoRow.holds Tryz.pinned (OpenSpec.upto fnDigitsSpec)

/-- 'laws.FnExactInner', WHERE WHAT IT READS IS OF BULK AT MOST 1048576: true; the input reads as it did. -/
def fnExactInnerUptoRow : OpenClaim := { program := "ytkgcmpmgaghdhaagreatdoor", sum := "d8ce7fcb4b3095d63b38628064db0a86464d16d9c0e649a6a132b1c6ea11a5f1", func := "loop.example/s02542/laws.FnExactInner", spec := "fnExactInner", inPlace := ["internal/reflectlite.TypeOf"], unfollowed := true, recurses := true, named := ["loop.example/s02542/impl.errNoResult", "loop.example/s02542/impl.errTooGreat", "loop.example/s02542/impl.emptyFolds"], ifaces := true, apart := false, laid := [("loop.example/s02542/impl.errNoResult", laid_loop_example_s02542_impl_errNoResult), ("loop.example/s02542/impl.errTooGreat", laid_loop_example_s02542_impl_errTooGreat), ("loop.example/s02542/impl.emptyFolds", laid_loop_example_s02542_impl_emptyFolds)], narrowed := true }
def FnExactInnerUptoSaid : Prop := fnExactInnerUptoRow.holds Tryz.pinned (OpenSpec.upto fnExactInnerSpec)

/-- 'laws.FnFolded', WHERE WHAT IT READS IS OF BULK AT MOST 1048576: true; the input reads as it did. -/
def fnFoldedUptoRow : OpenClaim := { program := "ytkgcmpmgaghdhaagreatdoor", sum := "d8ce7fcb4b3095d63b38628064db0a86464d16d9c0e649a6a132b1c6ea11a5f1", func := "loop.example/s02542/laws.FnFolded", spec := "fnFolded", inPlace := ["internal/reflectlite.TypeOf"], unfollowed := true, recurses := true, named := ["loop.example/s02542/impl.errNoResult", "loop.example/s02542/impl.errTooGreat", "loop.example/s02542/impl.emptyFolds"], ifaces := true, apart := false, laid := [("loop.example/s02542/impl.errNoResult", laid_loop_example_s02542_impl_errNoResult), ("loop.example/s02542/impl.errTooGreat", laid_loop_example_s02542_impl_errTooGreat), ("loop.example/s02542/impl.emptyFolds", laid_loop_example_s02542_impl_emptyFolds)], narrowed := true }
def FnFoldedUptoSaid : Prop := fnFoldedUptoRow.holds Tryz.pinned (OpenSpec.upto fnFoldedSpec)

end Rows
end Go.Proofs.YtkgcmpmgaghdhaaGreatDoor
