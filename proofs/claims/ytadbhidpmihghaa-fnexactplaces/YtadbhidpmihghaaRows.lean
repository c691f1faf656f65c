/-
  No cell of these rows narrows 'for every input' (looked for: loops, veiled, ifaces, maps, wideKeys, modest, calm, conditions, laid).
  DERIVED. THE GIVEN ROWS OF THIS SEAT. 6 by the template 'for every input the law returns true; each argument reads behind the call as it read before'; 0 by the template 'total and deterministic' (their statements: YtadbhidpmihghaaTotals.lean).
  GIVEN WITH THE SEED: the statements are not yours to turn. If you find one false, say at which input.
  Laid BY PROGRAM, IN A SANDBOX (cutbox-rows.mjs): the forced cells as the released guide's own fill.sh prints them over the translation d8fb1be17ccbd2f8… (all of the seat's roots in one cut). By AI agents, Wed Nov 11 2026. No macro, syntax, notation, axiom, sorry.
-/
import Derived.Test.YtadbhidpmihghaaChecked
import GoSem.Claim
import GoSem.ClaimJoined
import GoSem.ClaimMapViews
import Derived.JoinedTies
import Derived.KernelRfl
namespace Go.Proofs.Ytadbhidpmihghaa
/- THE CELL 'sum', in the pinned program and in every row, IS THE sha256 OF THE DUMP (.gsa) THAT YtadbhidpmihghaaProg.lean LOADS. Nothing in Lean hashes anything: it is a label: what it is worth is what the hold of that sum in a sandbox is worth. -/
noncomputable def Try.pinned : Pinned := { name := "ytadbhidpmihghaa", sum := "d8fb1be17ccbd2f8a3ff75734b9d8b5e8d298ef1428caba740b8c2cb4be0e5a0", checked := Try.checked }
namespace Rows
def none {H : Type} : Left H := { results := [], args := [] }

/-- 'laws.FnExactWholeView': WHATEVER THE INPUT: true; the input reads as it did. -/
def fnExactWholeViewSpec : ChangeSpec := { name := "fnExactWholeView", fn := fun _ => fun
  | [d] => { results := [.lit (.bool true)], args := [d] }
  | _ => none }
def fnExactWholeViewRow : OpenClaim := { program := "ytadbhidpmihghaa", sum := "d8fb1be17ccbd2f8a3ff75734b9d8b5e8d298ef1428caba740b8c2cb4be0e5a0", func := "loop.example/s02542/laws.FnExactWholeView", spec := "fnExactWholeView", apart := false }
def FnExactWholeViewSaid : Prop := fnExactWholeViewRow.holds Try.pinned (OpenSpec.ofChange fnExactWholeViewSpec)

/-- ITS FALSE NEIGHBOUR: 'it returns false'. Refute it at one input. -/
def fnExactWholeViewWrong : ChangeSpec := { name := "fnExactWholeView", fn := fun _ => fun
  | [d] => { results := [.lit (.bool false)], args := [d] }
  | _ => none }
def FnExactWholeViewWrongFalsely : Prop := fnExactWholeViewRow.holds Try.pinned (OpenSpec.ofChange fnExactWholeViewWrong)

/-- 'laws.FnExactViewOk': WHATEVER THE INPUT: true; the input reads as it did. -/
def fnExactViewOkSpec : ChangeSpec := { name := "fnExactViewOk", fn := fun _ => fun
  | [d1, d2] => { results := [.lit (.bool true)], args := [d1, d2] }
  | _ => none }
def fnExactViewOkRow : OpenClaim := { program := "ytadbhidpmihghaa", sum := "d8fb1be17ccbd2f8a3ff75734b9d8b5e8d298ef1428caba740b8c2cb4be0e5a0", func := "loop.example/s02542/laws.FnExactViewOk", spec := "fnExactViewOk", apart := false }
def FnExactViewOkSaid : Prop := fnExactViewOkRow.holds Try.pinned (OpenSpec.ofChange fnExactViewOkSpec)

/-- ITS FALSE NEIGHBOUR: 'it returns false'. Refute it at one input. -/
def fnExactViewOkWrong : ChangeSpec := { name := "fnExactViewOk", fn := fun _ => fun
  | [d1, d2] => { results := [.lit (.bool false)], args := [d1, d2] }
  | _ => none }
def FnExactViewOkWrongFalsely : Prop := fnExactViewOkRow.holds Try.pinned (OpenSpec.ofChange fnExactViewOkWrong)

/-- 'laws.FnExactLineView': WHATEVER THE INPUT: true; the input reads as it did. -/
def fnExactLineViewSpec : ChangeSpec := { name := "fnExactLineView", fn := fun _ => fun
  | [d] => { results := [.lit (.bool true)], args := [d] }
  | _ => none }
def fnExactLineViewRow : OpenClaim := { program := "ytadbhidpmihghaa", sum := "d8fb1be17ccbd2f8a3ff75734b9d8b5e8d298ef1428caba740b8c2cb4be0e5a0", func := "loop.example/s02542/laws.FnExactLineView", spec := "fnExactLineView", apart := false }
def FnExactLineViewSaid : Prop := fnExactLineViewRow.holds Try.pinned (OpenSpec.ofChange fnExactLineViewSpec)

/-- ITS FALSE NEIGHBOUR: 'it returns false'. Refute it at one input. -/
def fnExactLineViewWrong : ChangeSpec := { name := "fnExactLineView", fn := fun _ => fun
  | [d] => { results := [.lit (.bool false)], args := [d] }
  | _ => none }
def FnExactLineViewWrongFalsely : Prop := fnExactLineViewRow.holds Try.pinned (OpenSpec.ofChange fnExactLineViewWrong)

/-- 'laws.FnExactTurnView': WHATEVER THE INPUT: true; the input reads as it did. -/
def fnExactTurnViewSpec : ChangeSpec := { name := "fnExactTurnView", fn := fun _ => fun
  | [d1, d2] => { results := [.lit (.bool true)], args := [d1, d2] }
  | _ => none }
def fnExactTurnViewRow : OpenClaim := { program := "ytadbhidpmihghaa", sum := "d8fb1be17ccbd2f8a3ff75734b9d8b5e8d298ef1428caba740b8c2cb4be0e5a0", func := "loop.example/s02542/laws.FnExactTurnView", spec := "fnExactTurnView", unfollowed := true, recurses := true, apart := false }
def FnExactTurnViewSaid : Prop := fnExactTurnViewRow.holds Try.pinned (OpenSpec.ofChange fnExactTurnViewSpec)

/-- ITS FALSE NEIGHBOUR: 'it returns false'. Refute it at one input. -/
def fnExactTurnViewWrong : ChangeSpec := { name := "fnExactTurnView", fn := fun _ => fun
  | [d1, d2] => { results := [.lit (.bool false)], args := [d1, d2] }
  | _ => none }
def FnExactTurnViewWrongFalsely : Prop := fnExactTurnViewRow.holds Try.pinned (OpenSpec.ofChange fnExactTurnViewWrong)

/-- 'laws.FnExactPlaces': WHATEVER THE INPUT: true; the input reads as it did. -/
def fnExactPlacesSpec : ChangeSpec := { name := "fnExactPlaces", fn := fun _ => fun
  | [d1, d2] => { results := [.lit (.bool true)], args := [d1, d2] }
  | _ => none }
def fnExactPlacesRow : OpenClaim := { program := "ytadbhidpmihghaa", sum := "d8fb1be17ccbd2f8a3ff75734b9d8b5e8d298ef1428caba740b8c2cb4be0e5a0", func := "loop.example/s02542/laws.FnExactPlaces", spec := "fnExactPlaces", unfollowed := true, recurses := true, apart := false }
def FnExactPlacesSaid : Prop := fnExactPlacesRow.holds Try.pinned (OpenSpec.ofChange fnExactPlacesSpec)

/-- ITS FALSE NEIGHBOUR: 'it returns false'. Refute it at one input. -/
def fnExactPlacesWrong : ChangeSpec := { name := "fnExactPlaces", fn := fun _ => fun
  | [d1, d2] => { results := [.lit (.bool false)], args := [d1, d2] }
  | _ => none }
def FnExactPlacesWrongFalsely : Prop := fnExactPlacesRow.holds Try.pinned (OpenSpec.ofChange fnExactPlacesWrong)

/-- 'laws.FnExactFlipView': WHATEVER THE INPUT: true; the input reads as it did. -/
def fnExactFlipViewSpec : ChangeSpec := { name := "fnExactFlipView", fn := fun _ => fun
  | [d1, d2] => { results := [.lit (.bool true)], args := [d1, d2] }
  | _ => none }
def fnExactFlipViewRow : OpenClaim := { program := "ytadbhidpmihghaa", sum := "d8fb1be17ccbd2f8a3ff75734b9d8b5e8d298ef1428caba740b8c2cb4be0e5a0", func := "loop.example/s02542/laws.FnExactFlipView", spec := "fnExactFlipView", apart := false }
def FnExactFlipViewSaid : Prop := fnExactFlipViewRow.holds Try.pinned (OpenSpec.ofChange fnExactFlipViewSpec)

/-- ITS FALSE NEIGHBOUR: 'it returns false'. Refute it at one input. -/
def fnExactFlipViewWrong : ChangeSpec := { name := "fnExactFlipView", fn := fun _ => fun
  | [d1, d2] => { results := [.lit (.bool false)], args := [d1, d2] }
  | _ => none }
def FnExactFlipViewWrongFalsely : Prop := fnExactFlipViewRow.holds Try.pinned (OpenSpec.ofChange fnExactFlipViewWrong)

/- THE SECOND FORM. 'bulk': how many values and letters a reading holds, each counted each time it is reached (what is shared counts as often as it is met; a slice's spare places count too). A statement '..UptoSaid' is the law's where the arguments, and the package variables that the reading takes, are together of bulk at most 1048576: NARROWER than '..Said'. Prove '..Said' where nothing that the law and all that it calls make is longer than what came in: it says more and counts as full. Else prove '..UptoSaid'. A law counts once. -/
mutual
def uptoBulk {H : Type} : DataW H → Nat
  | .lit (.string bytes) => bytes.length + 1
  | .lit _ => 1
  | .nil => 1
  | .ptr d => uptoBulk d + 1
  | .slice elems spare => uptoBulkAll elems + uptoBulkAll spare + 1
  | .agg parts => uptoBulkAll parts + 1
  | .iface _ d => uptoBulk d + 1
  | .map entries => uptoBulkEntries entries + 1
  | .held _ => 1
def uptoBulkAll {H : Type} : List (DataW H) → Nat
  | [] => 0
  | d :: r => uptoBulk d + uptoBulkAll r
def uptoBulkEntries {H : Type} : List (Lit × DataW H) → Nat
  | [] => 0
  | x :: r => uptoBulkEntry x + uptoBulkEntries r
def uptoBulkEntry {H : Type} : Lit × DataW H → Nat
  | (.string bytes, d) => bytes.length + uptoBulk d + 1
  | (_, d) => uptoBulk d + 1
 end
def uptoSmall : (H : Type) → List (DataW H) → Bool := fun _ ds => decide (uptoBulkAll ds ≤ 1048576)
def OpenSpec.upto (s : _root_.Go.ChangeSpec) : _root_.Go.OpenSpec := { _root_.Go.OpenSpec.ofChange s with cond := some uptoSmall }

/-- 'laws.FnExactWholeView', WHERE WHAT IT READS IS OF BULK AT MOST 1048576: true; the input reads as it did. -/
def fnExactWholeViewUptoRow : OpenClaim := { program := "ytadbhidpmihghaa", sum := "d8fb1be17ccbd2f8a3ff75734b9d8b5e8d298ef1428caba740b8c2cb4be0e5a0", func := "loop.example/s02542/laws.FnExactWholeView", spec := "fnExactWholeView", apart := false, narrowed := true }
def FnExactWholeViewUptoSaid : Prop := fnExactWholeViewUptoRow.holds Try.pinned (OpenSpec.upto fnExactWholeViewSpec)

/-- 'laws.FnExactViewOk', WHERE WHAT IT READS IS OF BULK AT MOST 1048576: true; the input reads as it did. -/
def fnExactViewOkUptoRow : OpenClaim := { program := "ytadbhidpmihghaa", sum := "d8fb1be17ccbd2f8a3ff75734b9d8b5e8d298ef1428caba740b8c2cb4be0e5a0", func := "loop.example/s02542/laws.FnExactViewOk", spec := "fnExactViewOk", apart := false, narrowed := true }
def FnExactViewOkUptoSaid : Prop := fnExactViewOkUptoRow.holds Try.pinned (OpenSpec.upto fnExactViewOkSpec)

/-- 'laws.FnExactLineView', WHERE WHAT IT READS IS OF BULK AT MOST 1048576: true; the input reads as it did. -/
def fnExactLineViewUptoRow : OpenClaim := { program := "ytadbhidpmihghaa", sum := "d8fb1be17ccbd2f8a3ff75734b9d8b5e8d298ef1428caba740b8c2cb4be0e5a0", func := "loop.example/s02542/laws.FnExactLineView", spec := "fnExactLineView", apart := false, narrowed := true }
def FnExactLineViewUptoSaid : Prop := fnExactLineViewUptoRow.holds Try.pinned (OpenSpec.upto fnExactLineViewSpec)

/-- 'laws.FnExactTurnView', WHERE WHAT IT READS IS OF BULK AT MOST 1048576: true; the input reads as it did. -/
def fnExactTurnViewUptoRow : OpenClaim := { program := "ytadbhidpmihghaa", sum := "d8fb1be17ccbd2f8a3ff75734b9d8b5e8d298ef1428caba740b8c2cb4be0e5a0", func := "loop.example/s02542/laws.FnExactTurnView", spec := "fnExactTurnView", unfollowed := true, recurses := true, apart := false, narrowed := true }
def FnExactTurnViewUptoSaid : Prop := fnExactTurnViewUptoRow.holds Try.pinned (OpenSpec.upto fnExactTurnViewSpec)

/-- 'laws.FnExactPlaces', WHERE WHAT IT READS IS OF BULK AT MOST 1048576: true; the input reads as it did. -/
def fnExactPlacesUptoRow : OpenClaim := { program := "ytadbhidpmihghaa", sum := "d8fb1be17ccbd2f8a3ff75734b9d8b5e8d298ef1428caba740b8c2cb4be0e5a0", func := "loop.example/s02542/laws.FnExactPlaces", spec := "fnExactPlaces", unfollowed := true, recurses := true, apart := false, narrowed := true }
def FnExactPlacesUptoSaid : Prop := fnExactPlacesUptoRow.holds Try.pinned (OpenSpec.upto fnExactPlacesSpec)

/-- 'laws.FnExactFlipView', WHERE WHAT IT READS IS OF BULK AT MOST 1048576: true; the input reads as it did. -/
def fnExactFlipViewUptoRow : OpenClaim := { program := "ytadbhidpmihghaa", sum := "d8fb1be17ccbd2f8a3ff75734b9d8b5e8d298ef1428caba740b8c2cb4be0e5a0", func := "loop.example/s02542/laws.FnExactFlipView", spec := "fnExactFlipView", apart := false, narrowed := true }
def FnExactFlipViewUptoSaid : Prop := fnExactFlipViewUptoRow.holds Try.pinned (OpenSpec.upto fnExactFlipViewSpec)

end Rows
end Go.Proofs.Ytadbhidpmihghaa
