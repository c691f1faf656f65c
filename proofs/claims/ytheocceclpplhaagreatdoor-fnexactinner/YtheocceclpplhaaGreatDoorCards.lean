/-
  DERIVED. GIVEN WITH THE SEED: THE CARDS: each row of YtheocceclpplhaaGreatDoorRows.lean that lists a variable, with what it lists TIED to the program's text (the seventh form; the later family's looks); each row that meets fmt, with fmt's text TOLD by the authors' own Lean function (tested against real Go, not proved from fmt's source: count such statements apart). THE CARD IS WHAT COUNTS. Prove the row's statement (the work); the ties are given (YtheocceclpplhaaGreatDoorTie.lean); close each card by the builder's one call (the guide's Derived/Test/ToyasCard.lean, 'card_holds'). Laid BY PROGRAM, IN A SANDBOX (cutbox-door.mjs). By AI agents, Wed Nov 11 2026. No macro, syntax, notation, axiom, sorry.
-/
import Derived.Test.YtheocceclpplhaaGreatDoorRows
import GoSem.ClaimSeven
namespace Go.Proofs.YtheocceclpplhaaGreatDoor
namespace Rows

/-- THE TIED CARD OF 'laws.FnExactInner'. -/
def fnExactInnerCard : Claim7 := { stood := { row := fnExactInnerRow, standIns := [], harness := (true, "7a358bd7fb11a0e6de454b17f7344dd27dc01ee31c446ab6a1fddf77509b9adf"), looks := true }, kinds := [], alts := [], laidByText := true, laidKinds := [.sentinel, .sentinel, .data], laidTests := true, laidLooks := .later }
def FnExactInnerCardSaid : Prop := Claim7.holds Tryz.pinned (.plain (OpenSpec.ofChange fnExactInnerSpec)) fnExactInnerCard

/-- THE SECOND FORM's CARD OF 'laws.FnExactInner'. -/
def fnExactInnerUptoCard : Claim7 := { stood := { row := fnExactInnerUptoRow, standIns := [], harness := (true, "7a358bd7fb11a0e6de454b17f7344dd27dc01ee31c446ab6a1fddf77509b9adf"), looks := true }, kinds := [], alts := [], laidByText := true, laidKinds := [.sentinel, .sentinel, .data], laidTests := true, laidLooks := .later }
def FnExactInnerUptoCardSaid : Prop := Claim7.holds Tryz.pinned (.plain (OpenSpec.upto fnExactInnerSpec)) fnExactInnerUptoCard
end Rows
end Go.Proofs.YtheocceclpplhaaGreatDoor
