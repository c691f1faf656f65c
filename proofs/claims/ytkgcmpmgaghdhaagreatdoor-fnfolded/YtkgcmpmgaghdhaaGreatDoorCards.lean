/-
  DERIVED. GIVEN WITH THE SEED: THE CARDS: each row of YtkgcmpmgaghdhaaGreatDoorRows.lean that lists a variable, with what it lists TIED to the program's text (the seventh form; the later family's looks); each row that meets fmt, with fmt's text TOLD by the authors' own Lean function (tested against real Go, not proved from fmt's source: count such statements apart). THE CARD IS WHAT COUNTS. Prove the row's statement (the work); the ties are given (YtkgcmpmgaghdhaaGreatDoorTie.lean); close each card by the builder's one call (the guide's Derived/Test/ToyasCard.lean, 'card_holds'). Laid BY PROGRAM, IN A SANDBOX (cutbox-door.mjs). By AI agents, Wed Nov 11 2026. No macro, syntax, notation, axiom, sorry.
-/
import Derived.Test.YtkgcmpmgaghdhaaGreatDoorRows
import GoSem.ClaimSeven
namespace Go.Proofs.YtkgcmpmgaghdhaaGreatDoor
namespace Rows

/-- THE TIED CARD OF 'laws.FnThere'. -/
def fnThereCard : Claim7 := { stood := { row := fnThereRow, standIns := [], harness := (true, "140c1e5525868b73250d78f9527f88121e9e5b48cd8995ebd9da57e11df93545"), looks := true }, kinds := [], alts := [], laidByText := true, laidKinds := [.sentinel, .sentinel], laidTests := true, laidLooks := .later }
def FnThereCardSaid : Prop := Claim7.holds Tryz.pinned (.plain (OpenSpec.ofChange fnThereSpec)) fnThereCard

/-- THE TIED CARD OF 'laws.FnExtended'. -/
def fnExtendedCard : Claim7 := { stood := { row := fnExtendedRow, standIns := [], harness := (true, "140c1e5525868b73250d78f9527f88121e9e5b48cd8995ebd9da57e11df93545"), looks := true }, kinds := [], alts := [], laidByText := true, laidKinds := [.sentinel, .sentinel], laidTests := true, laidLooks := .later }
def FnExtendedCardSaid : Prop := Claim7.holds Tryz.pinned (.plain (OpenSpec.ofChange fnExtendedSpec)) fnExtendedCard

/-- THE TIED CARD OF 'laws.FnDigits'. -/
def fnDigitsCard : Claim7 := { stood := { row := fnDigitsRow, standIns := [], harness := (true, "140c1e5525868b73250d78f9527f88121e9e5b48cd8995ebd9da57e11df93545"), looks := true }, kinds := [], alts := [], laidByText := true, laidKinds := [.sentinel, .sentinel], laidTests := true, laidLooks := .later }
def FnDigitsCardSaid : Prop := Claim7.holds Tryz.pinned (.plain (OpenSpec.ofChange fnDigitsSpec)) fnDigitsCard

/-- THE TIED CARD OF 'laws.FnExactInner'. -/
def fnExactInnerCard : Claim7 := { stood := { row := fnExactInnerRow, standIns := [], harness := (true, "140c1e5525868b73250d78f9527f88121e9e5b48cd8995ebd9da57e11df93545"), looks := true }, kinds := [], alts := [], laidByText := true, laidKinds := [.sentinel, .sentinel, .data], laidTests := true, laidLooks := .later }
def FnExactInnerCardSaid : Prop := Claim7.holds Tryz.pinned (.plain (OpenSpec.ofChange fnExactInnerSpec)) fnExactInnerCard

/-- THE TIED CARD OF 'laws.FnFolded'. -/
def fnFoldedCard : Claim7 := { stood := { row := fnFoldedRow, standIns := [], harness := (true, "140c1e5525868b73250d78f9527f88121e9e5b48cd8995ebd9da57e11df93545"), looks := true }, kinds := [], alts := [], laidByText := true, laidKinds := [.sentinel, .sentinel, .data], laidTests := true, laidLooks := .later }
def FnFoldedCardSaid : Prop := Claim7.holds Tryz.pinned (.plain (OpenSpec.ofChange fnFoldedSpec)) fnFoldedCard

/-- THE SECOND FORM's CARD OF 'laws.FnThere'. -/
def fnThereUptoCard : Claim7 := { stood := { row := fnThereUptoRow, standIns := [], harness := (true, "140c1e5525868b73250d78f9527f88121e9e5b48cd8995ebd9da57e11df93545"), looks := true }, kinds := [], alts := [], laidByText := true, laidKinds := [.sentinel, .sentinel], laidTests := true, laidLooks := .later }
def FnThereUptoCardSaid : Prop := Claim7.holds Tryz.pinned (.plain (OpenSpec.upto fnThereSpec)) fnThereUptoCard

/-- THE SECOND FORM's CARD OF 'laws.FnExtended'. -/
def fnExtendedUptoCard : Claim7 := { stood := { row := fnExtendedUptoRow, standIns := [], harness := (true, "140c1e5525868b73250d78f9527f88121e9e5b48cd8995ebd9da57e11df93545"), looks := true }, kinds := [], alts := [], laidByText := true, laidKinds := [.sentinel, .sentinel], laidTests := true, laidLooks := .later }
def FnExtendedUptoCardSaid : Prop := Claim7.holds Tryz.pinned (.plain (OpenSpec.upto fnExtendedSpec)) fnExtendedUptoCard

/-- THE SECOND FORM's CARD OF 'laws.FnDigits'. -/
def fnDigitsUptoCard : Claim7 := { stood := { row := fnDigitsUptoRow, standIns := [], harness := (true, "140c1e5525868b73250d78f9527f88121e9e5b48cd8995ebd9da57e11df93545"), looks := true }, kinds := [], alts := [], laidByText := true, laidKinds := [.sentinel, .sentinel], laidTests := true, laidLooks := .later }
def FnDigitsUptoCardSaid : Prop := Claim7.holds Tryz.pinned (.plain (OpenSpec.upto fnDigitsSpec)) fnDigitsUptoCard

/-- THE SECOND FORM's CARD OF 'laws.FnExactInner'. -/
def fnExactInnerUptoCard : Claim7 := { stood := { row := fnExactInnerUptoRow, standIns := [], harness := (true, "140c1e5525868b73250d78f9527f88121e9e5b48cd8995ebd9da57e11df93545"), looks := true }, kinds := [], alts := [], laidByText := true, laidKinds := [.sentinel, .sentinel, .data], laidTests := true, laidLooks := .later }
def FnExactInnerUptoCardSaid : Prop := Claim7.holds Tryz.pinned (.plain (OpenSpec.upto fnExactInnerSpec)) fnExactInnerUptoCard

/-- THE SECOND FORM's CARD OF 'laws.FnFolded'. -/
def fnFoldedUptoCard : Claim7 := { stood := { row := fnFoldedUptoRow, standIns := [], harness := (true, "140c1e5525868b73250d78f9527f88121e9e5b48cd8995ebd9da57e11df93545"), looks := true }, kinds := [], alts := [], laidByText := true, laidKinds := [.sentinel, .sentinel, .data], laidTests := true, laidLooks := .later }
def FnFoldedUptoCardSaid : Prop := Claim7.holds Tryz.pinned (.plain (OpenSpec.upto fnFoldedSpec)) fnFoldedUptoCard
end Rows
end Go.Proofs.YtkgcmpmgaghdhaaGreatDoor
