/-
  No cell of these rows narrows 'for every input' (looked for: loops, veiled, ifaces, maps, wideKeys, modest, calm, conditions, laid).
  DERIVED. THE GIVEN ROWS OF THIS SEAT. 5 by the template 'for every input the law returns true; each argument reads behind the call as it read before'; 0 by the template 'total and deterministic' (their statements: YtnkojndinnnimaaTotals.lean).
  GIVEN WITH THE SEED: the statements are not yours to turn. If you find one false, say at which input.
  Laid BY PROGRAM, IN A SANDBOX (cutbox-rows.mjs): the forced cells as the released guide's own fill.sh prints them over the translation 403dc628c8d3c436… (all of the seat's roots in one cut). By AI agents, Wed Nov 11 2026. No macro, syntax, notation, axiom, sorry.
-/
import Derived.Test.YtnkojndinnnimaaChecked
import GoSem.Claim
import GoSem.ClaimJoined
import GoSem.ClaimMapViews
import Derived.JoinedTies
import Derived.KernelRfl
namespace Go.Proofs.Ytnkojndinnnimaa
/- THE CELL 'sum', in the pinned program and in every row, IS THE sha256 OF THE DUMP (.gsa) THAT YtnkojndinnnimaaProg.lean LOADS. Nothing in Lean hashes anything: it is a label: what it is worth is what the hold of that sum in a sandbox is worth. -/
noncomputable def Try.pinned : Pinned := { name := "ytnkojndinnnimaa", sum := "403dc628c8d3c4368830d73ce8e6f2ba0acce275b3ec3e79bb5000f5e32812f6", checked := Try.checked }
namespace Rows
def none {H : Type} : Left H := { results := [], args := [] }

/-- 'laws.FnExactGrade': WHATEVER THE INPUT: true; the input reads as it did. -/
def fnExactGradeSpec : ChangeSpec := { name := "fnExactGrade", fn := fun _ => fun
  | [d1, d2] => { results := [.lit (.bool true)], args := [d1, d2] }
  | _ => none }
def fnExactGradeRow : OpenClaim := { program := "ytnkojndinnnimaa", sum := "403dc628c8d3c4368830d73ce8e6f2ba0acce275b3ec3e79bb5000f5e32812f6", func := "loop.example/s02542/laws.FnExactGrade", spec := "fnExactGrade", unfollowed := true, recurses := true, apart := false }
def FnExactGradeSaid : Prop := fnExactGradeRow.holds Try.pinned (OpenSpec.ofChange fnExactGradeSpec)

/-- ITS FALSE NEIGHBOUR: 'it returns false'. Refute it at one input. -/
def fnExactGradeWrong : ChangeSpec := { name := "fnExactGrade", fn := fun _ => fun
  | [d1, d2] => { results := [.lit (.bool false)], args := [d1, d2] }
  | _ => none }
def FnExactGradeWrongFalsely : Prop := fnExactGradeRow.holds Try.pinned (OpenSpec.ofChange fnExactGradeWrong)

/-- 'laws.FnExactFind': WHATEVER THE INPUT: true; the input reads as it did. -/
def fnExactFindSpec : ChangeSpec := { name := "fnExactFind", fn := fun _ => fun
  | [d1, d2] => { results := [.lit (.bool true)], args := [d1, d2] }
  | _ => none }
def fnExactFindRow : OpenClaim := { program := "ytnkojndinnnimaa", sum := "403dc628c8d3c4368830d73ce8e6f2ba0acce275b3ec3e79bb5000f5e32812f6", func := "loop.example/s02542/laws.FnExactFind", spec := "fnExactFind", unfollowed := true, recurses := true, apart := false }
def FnExactFindSaid : Prop := fnExactFindRow.holds Try.pinned (OpenSpec.ofChange fnExactFindSpec)

/-- ITS FALSE NEIGHBOUR: 'it returns false'. Refute it at one input. -/
def fnExactFindWrong : ChangeSpec := { name := "fnExactFind", fn := fun _ => fun
  | [d1, d2] => { results := [.lit (.bool false)], args := [d1, d2] }
  | _ => none }
def FnExactFindWrongFalsely : Prop := fnExactFindRow.holds Try.pinned (OpenSpec.ofChange fnExactFindWrong)

/-- 'laws.FnExactMember': WHATEVER THE INPUT: true; the input reads as it did. -/
def fnExactMemberSpec : ChangeSpec := { name := "fnExactMember", fn := fun _ => fun
  | [d1, d2] => { results := [.lit (.bool true)], args := [d1, d2] }
  | _ => none }
def fnExactMemberRow : OpenClaim := { program := "ytnkojndinnnimaa", sum := "403dc628c8d3c4368830d73ce8e6f2ba0acce275b3ec3e79bb5000f5e32812f6", func := "loop.example/s02542/laws.FnExactMember", spec := "fnExactMember", unfollowed := true, recurses := true, apart := false }
def FnExactMemberSaid : Prop := fnExactMemberRow.holds Try.pinned (OpenSpec.ofChange fnExactMemberSpec)

/-- ITS FALSE NEIGHBOUR: 'it returns false'. Refute it at one input. -/
def fnExactMemberWrong : ChangeSpec := { name := "fnExactMember", fn := fun _ => fun
  | [d1, d2] => { results := [.lit (.bool false)], args := [d1, d2] }
  | _ => none }
def FnExactMemberWrongFalsely : Prop := fnExactMemberRow.holds Try.pinned (OpenSpec.ofChange fnExactMemberWrong)

/-- 'laws.FnExactReplicate': WHATEVER THE INPUT: true; the input reads as it did. -/
def fnExactReplicateSpec : ChangeSpec := { name := "fnExactReplicate", fn := fun _ => fun
  | [d1, d2, d3] => { results := [.lit (.bool true)], args := [d1, d2, d3] }
  | _ => none }
def fnExactReplicateRow : OpenClaim := { program := "ytnkojndinnnimaa", sum := "403dc628c8d3c4368830d73ce8e6f2ba0acce275b3ec3e79bb5000f5e32812f6", func := "loop.example/s02542/laws.FnExactReplicate", spec := "fnExactReplicate", unfollowed := true, recurses := true, apart := false }
def FnExactReplicateSaid : Prop := fnExactReplicateRow.holds Try.pinned (OpenSpec.ofChange fnExactReplicateSpec)

/-- ITS FALSE NEIGHBOUR: 'it returns false'. Refute it at one input. -/
def fnExactReplicateWrong : ChangeSpec := { name := "fnExactReplicate", fn := fun _ => fun
  | [d1, d2, d3] => { results := [.lit (.bool false)], args := [d1, d2, d3] }
  | _ => none }
def FnExactReplicateWrongFalsely : Prop := fnExactReplicateRow.holds Try.pinned (OpenSpec.ofChange fnExactReplicateWrong)

/-- 'laws.FnExactEncode': WHATEVER THE INPUT: true; the input reads as it did. -/
def fnExactEncodeSpec : ChangeSpec := { name := "fnExactEncode", fn := fun _ => fun
  | [d1, d2] => { results := [.lit (.bool true)], args := [d1, d2] }
  | _ => none }
def fnExactEncodeRow : OpenClaim := { program := "ytnkojndinnnimaa", sum := "403dc628c8d3c4368830d73ce8e6f2ba0acce275b3ec3e79bb5000f5e32812f6", func := "loop.example/s02542/laws.FnExactEncode", spec := "fnExactEncode", unfollowed := true, recurses := true, apart := false }
def FnExactEncodeSaid : Prop := fnExactEncodeRow.holds Try.pinned (OpenSpec.ofChange fnExactEncodeSpec)

/-- ITS FALSE NEIGHBOUR: 'it returns false'. Refute it at one input. -/
def fnExactEncodeWrong : ChangeSpec := { name := "fnExactEncode", fn := fun _ => fun
  | [d1, d2] => { results := [.lit (.bool false)], args := [d1, d2] }
  | _ => none }
def FnExactEncodeWrongFalsely : Prop := fnExactEncodeRow.holds Try.pinned (OpenSpec.ofChange fnExactEncodeWrong)

/- THE SECOND FORM. 'bulk': how many values and letters a reading holds, each counted each time it is reached (what is shared counts as often as it is met; a slice's spare places count too). A statement '..UptoSaid' is the law's where the arguments, and the package variables that the reading takes, are together of bulk at most 1048576: NARROWER than '..Said'. Prove '..Said' where nothing that the law and all that it calls make is longer than what came in: it says more and counts as full. Else prove '..UptoSaid'. A law counts once. -/
mutual
def uptoBulk {H : Type} : DataW H → Nat
  | .lit (.string bytes) => bytes.length + 1
  | .lit _ => 1
  | .nil => 1
  | .ptr d => uptoBulk d + 1
  | .slice elems spare => uptoBulkAll elems + uptoBulkAll spare + 1
  | .agg parts => uptoBulkAll parts + 1
  | .iface _ d => uptoBulk d + 1
  | .map entries => uptoBulkEntries entries + 1
  | .held _ => 1
def uptoBulkAll {H : Type} : List (DataW H) → Nat
  | [] => 0
  | d :: r => uptoBulk d + uptoBulkAll r
def uptoBulkEntries {H : Type} : List (Lit × DataW H) → Nat
  | [] => 0
  | x :: r => uptoBulkEntry x + uptoBulkEntries r
def uptoBulkEntry {H : Type} : Lit × DataW H → Nat
  | (.string bytes, d) => bytes.length + uptoBulk d + 1
  | (_, d) => uptoBulk d + 1
 end
def uptoSmall : (H : Type) → List (DataW H) → Bool := fun _ ds => decide (uptoBulkAll ds ≤ 1048576)
def OpenSpec.upto (s : _root_.Go.ChangeSpec) : _root_.Go.OpenSpec := { _root_.Go.OpenSpec.ofChange s with cond := some uptoSmall }

/-- 'laws.FnExactGrade', WHERE WHAT IT READS IS OF BULK AT MOST 1048576: true; the input reads as it did. -/
def fnExactGradeUptoRow : OpenClaim := { program := "ytnkojndinnnimaa", sum := "403dc628c8d3c4368830d73ce8e6f2ba0acce275b3ec3e79bb5000f5e32812f6", func := "loop.example/s02542/laws.FnExactGrade", spec := "fnExactGrade", unfollowed := true, recurses := true, apart := false, narrowed := true }
def FnExactGradeUptoSaid : Prop := fnExactGradeUptoRow.holds Try.pinned (OpenSpec.upto fnExactGradeSpec)

/-- 'laws.FnExactFind', WHERE WHAT IT READS IS OF BULK AT MOST 1048576: true; the input reads as it did. -/
def fnExactFindUptoRow : OpenClaim := { program := "ytnkojndinnnimaa", sum := "403dc628c8d3c4368830d73ce8e6f2ba0acce275b3ec3e79bb5000f5e32812f6", func := "loop.example/s02542/laws.FnExactFind", spec := "fnExactFind", unfollowed := true, recurses := true, apart := false, narrowed := true }
def FnExactFindUptoSaid : Prop := fnExactFindUptoRow.holds Try.pinned (OpenSpec.upto fnExactFindSpec)

/-- 'laws.FnExactMember', WHERE WHAT IT READS IS OF BULK AT MOST 1048576: true; the input reads as it did. -/
def fnExactMemberUptoRow : OpenClaim := { program := "ytnkojndinnnimaa", sum := "403dc628c8d3c4368830d73ce8e6f2ba0acce275b3ec3e79bb5000f5e32812f6", func := "loop.example/s02542/laws.FnExactMember", spec := "fnExactMember", unfollowed := true, recurses := true, apart := false, narrowed := true }
def FnExactMemberUptoSaid : Prop := fnExactMemberUptoRow.holds Try.pinned (OpenSpec.upto fnExactMemberSpec)

/-- 'laws.FnExactReplicate', WHERE WHAT IT READS IS OF BULK AT MOST 1048576: true; the input reads as it did. -/
def fnExactReplicateUptoRow : OpenClaim := { program := "ytnkojndinnnimaa", sum := "403dc628c8d3c4368830d73ce8e6f2ba0acce275b3ec3e79bb5000f5e32812f6", func := "loop.example/s02542/laws.FnExactReplicate", spec := "fnExactReplicate", unfollowed := true, recurses := true, apart := false, narrowed := true }
def FnExactReplicateUptoSaid : Prop := fnExactReplicateUptoRow.holds Try.pinned (OpenSpec.upto fnExactReplicateSpec)

/-- 'laws.FnExactEncode', WHERE WHAT IT READS IS OF BULK AT MOST 1048576: true; the input reads as it did. -/
def fnExactEncodeUptoRow : OpenClaim := { program := "ytnkojndinnnimaa", sum := "403dc628c8d3c4368830d73ce8e6f2ba0acce275b3ec3e79bb5000f5e32812f6", func := "loop.example/s02542/laws.FnExactEncode", spec := "fnExactEncode", unfollowed := true, recurses := true, apart := false, narrowed := true }
def FnExactEncodeUptoSaid : Prop := fnExactEncodeUptoRow.holds Try.pinned (OpenSpec.upto fnExactEncodeSpec)

end Rows
end Go.Proofs.Ytnkojndinnnimaa
