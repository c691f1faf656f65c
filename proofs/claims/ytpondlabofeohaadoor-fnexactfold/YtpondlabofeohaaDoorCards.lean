/-
  DERIVED. GIVEN WITH THE SEED: THE CARDS: each row of YtpondlabofeohaaDoorRows.lean that lists a variable, with what it lists TIED to the program's text (the seventh form; the later family's looks); each row that meets fmt, with fmt's text TOLD by the authors' own Lean function (tested against real Go, not proved from fmt's source: count such statements apart). THE CARD IS WHAT COUNTS. Prove the row's statement (the work); the ties are given (YtpondlabofeohaaDoorTie.lean); close each card by the builder's one call (the guide's Derived/Test/ToyasCard.lean, 'card_holds'). Laid BY PROGRAM, IN A SANDBOX (cutbox-door.mjs). By AI agents, Wed Nov 11 2026. No macro, syntax, notation, axiom, sorry.
-/
import Derived.Test.YtpondlabofeohaaDoorRows
import GoSem.ClaimSeven
namespace Go.Proofs.YtpondlabofeohaaDoor
namespace Rows

/-- THE TIED CARD OF 'laws.FnExactScalar1'. -/
def fnExactScalar1Card : Claim7 := { stood := { row := fnExactScalar1Row, standIns := [], harness := (true, "527ef4acc133f1ba0ff52aac20c9cded4132487af887969e907182d22802720b"), looks := true }, kinds := [], alts := [], laidByText := true, laidKinds := [.sentinel, .sentinel], laidTests := true, laidLooks := .later }
def FnExactScalar1CardSaid : Prop := Claim7.holds Tryd.pinned (.plain (OpenSpec.ofChange fnExactScalar1Spec)) fnExactScalar1Card

/-- THE TIED CARD OF 'laws.FnExactScalar2'. -/
def fnExactScalar2Card : Claim7 := { stood := { row := fnExactScalar2Row, standIns := [], harness := (true, "527ef4acc133f1ba0ff52aac20c9cded4132487af887969e907182d22802720b"), looks := true }, kinds := [], alts := [], laidByText := true, laidKinds := [.sentinel, .sentinel], laidTests := true, laidLooks := .later }
def FnExactScalar2CardSaid : Prop := Claim7.holds Tryd.pinned (.plain (OpenSpec.ofChange fnExactScalar2Spec)) fnExactScalar2Card

/-- THE TIED CARD OF 'laws.FnExactOuter'. -/
def fnExactOuterCard : Claim7 := { stood := { row := fnExactOuterRow, standIns := [], harness := (true, "527ef4acc133f1ba0ff52aac20c9cded4132487af887969e907182d22802720b"), looks := true }, kinds := [], alts := [], laidByText := true, laidKinds := [.sentinel, .sentinel], laidTests := true, laidLooks := .later }
def FnExactOuterCardSaid : Prop := Claim7.holds Tryd.pinned (.plain (OpenSpec.ofChange fnExactOuterSpec)) fnExactOuterCard

/-- THE TIED CARD OF 'laws.FnExactScan'. -/
def fnExactScanCard : Claim7 := { stood := { row := fnExactScanRow, standIns := [], harness := (true, "527ef4acc133f1ba0ff52aac20c9cded4132487af887969e907182d22802720b"), looks := true }, kinds := [], alts := [], laidByText := true, laidKinds := [.sentinel, .sentinel, .data], laidTests := true, laidLooks := .later }
def FnExactScanCardSaid : Prop := Claim7.holds Tryd.pinned (.plain (OpenSpec.ofChange fnExactScanSpec)) fnExactScanCard

/-- THE TIED CARD OF 'laws.FnExactFold'. -/
def fnExactFoldCard : Claim7 := { stood := { row := fnExactFoldRow, standIns := [], harness := (true, "527ef4acc133f1ba0ff52aac20c9cded4132487af887969e907182d22802720b"), looks := true }, kinds := [], alts := [], laidByText := true, laidKinds := [.sentinel, .sentinel, .data], laidTests := true, laidLooks := .later }
def FnExactFoldCardSaid : Prop := Claim7.holds Tryd.pinned (.plain (OpenSpec.ofChange fnExactFoldSpec)) fnExactFoldCard

/-- THE SECOND FORM's CARD OF 'laws.FnExactScalar1'. -/
def fnExactScalar1UptoCard : Claim7 := { stood := { row := fnExactScalar1UptoRow, standIns := [], harness := (true, "527ef4acc133f1ba0ff52aac20c9cded4132487af887969e907182d22802720b"), looks := true }, kinds := [], alts := [], laidByText := true, laidKinds := [.sentinel, .sentinel], laidTests := true, laidLooks := .later }
def FnExactScalar1UptoCardSaid : Prop := Claim7.holds Tryd.pinned (.plain (OpenSpec.upto fnExactScalar1Spec)) fnExactScalar1UptoCard

/-- THE SECOND FORM's CARD OF 'laws.FnExactScalar2'. -/
def fnExactScalar2UptoCard : Claim7 := { stood := { row := fnExactScalar2UptoRow, standIns := [], harness := (true, "527ef4acc133f1ba0ff52aac20c9cded4132487af887969e907182d22802720b"), looks := true }, kinds := [], alts := [], laidByText := true, laidKinds := [.sentinel, .sentinel], laidTests := true, laidLooks := .later }
def FnExactScalar2UptoCardSaid : Prop := Claim7.holds Tryd.pinned (.plain (OpenSpec.upto fnExactScalar2Spec)) fnExactScalar2UptoCard

/-- THE SECOND FORM's CARD OF 'laws.FnExactOuter'. -/
def fnExactOuterUptoCard : Claim7 := { stood := { row := fnExactOuterUptoRow, standIns := [], harness := (true, "527ef4acc133f1ba0ff52aac20c9cded4132487af887969e907182d22802720b"), looks := true }, kinds := [], alts := [], laidByText := true, laidKinds := [.sentinel, .sentinel], laidTests := true, laidLooks := .later }
def FnExactOuterUptoCardSaid : Prop := Claim7.holds Tryd.pinned (.plain (OpenSpec.upto fnExactOuterSpec)) fnExactOuterUptoCard

/-- THE SECOND FORM's CARD OF 'laws.FnExactScan'. -/
def fnExactScanUptoCard : Claim7 := { stood := { row := fnExactScanUptoRow, standIns := [], harness := (true, "527ef4acc133f1ba0ff52aac20c9cded4132487af887969e907182d22802720b"), looks := true }, kinds := [], alts := [], laidByText := true, laidKinds := [.sentinel, .sentinel, .data], laidTests := true, laidLooks := .later }
def FnExactScanUptoCardSaid : Prop := Claim7.holds Tryd.pinned (.plain (OpenSpec.upto fnExactScanSpec)) fnExactScanUptoCard

/-- THE SECOND FORM's CARD OF 'laws.FnExactFold'. -/
def fnExactFoldUptoCard : Claim7 := { stood := { row := fnExactFoldUptoRow, standIns := [], harness := (true, "527ef4acc133f1ba0ff52aac20c9cded4132487af887969e907182d22802720b"), looks := true }, kinds := [], alts := [], laidByText := true, laidKinds := [.sentinel, .sentinel, .data], laidTests := true, laidLooks := .later }
def FnExactFoldUptoCardSaid : Prop := Claim7.holds Tryd.pinned (.plain (OpenSpec.upto fnExactFoldSpec)) fnExactFoldUptoCard
end Rows
end Go.Proofs.YtpondlabofeohaaDoor
