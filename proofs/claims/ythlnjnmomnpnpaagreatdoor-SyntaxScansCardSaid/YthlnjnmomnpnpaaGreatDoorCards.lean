/-
  DERIVED. GIVEN WITH THE SEED: THE CARDS: each row of YthlnjnmomnpnpaaGreatDoorRows.lean that lists a variable, with what it lists TIED to the program's text (the seventh form; the later family's looks); each row that meets fmt, with fmt's text TOLD by the authors' own Lean function (tested against real Go, not proved from fmt's source: count such statements apart). THE CARD IS WHAT COUNTS. Prove the row's statement (the work); the ties are given (YthlnjnmomnpnpaaGreatDoorTie.lean); close each card by the builder's one call (the guide's Derived/Test/ToyasCard.lean, 'card_holds'). Laid BY PROGRAM, IN A SANDBOX (cutbox-door.mjs). By AI agents, Wed Nov 11 2026. No macro, syntax, notation, axiom, sorry.
-/
import Derived.Test.YthlnjnmomnpnpaaGreatDoorRows
import GoSem.ClaimSeven
namespace Go.Proofs.YthlnjnmomnpnpaaGreatDoor
namespace Rows

/-- THE TIED CARD OF 'headstocklaw06.SyntaxTells'. -/
def syntaxTellsCard : Claim7 := { stood := { row := syntaxTellsRow, standIns := [], harness := (true, "f8083fbee138262db17391ecc93c46f0ada6cec0a15b02643ce3a561d6f7bb61"), looks := false }, kinds := [], alts := [], laidByText := true, laidKinds := [.data, .data, .data, .data], laidTests := true, laidLooks := .later }
def SyntaxTellsCardSaid : Prop := Claim7.holds Tryz.pinned (.plain (OpenSpec.ofChange syntaxTellsSpec)) syntaxTellsCard

/-- THE TIED CARD OF 'headstocklaw06.SyntaxScans'. -/
def syntaxScansCard : Claim7 := { stood := { row := syntaxScansRow, standIns := [], harness := (true, "f8083fbee138262db17391ecc93c46f0ada6cec0a15b02643ce3a561d6f7bb61"), looks := false }, kinds := [], alts := [], laidByText := true, laidKinds := [.data, .data, .data, .data, .data], laidTests := true, laidLooks := .later }
def SyntaxScansCardSaid : Prop := Claim7.holds Tryz.pinned (.plain (OpenSpec.ofChange syntaxScansSpec)) syntaxScansCard

/-- THE SECOND FORM's CARD OF 'headstocklaw06.SyntaxTells'. -/
def syntaxTellsUptoCard : Claim7 := { stood := { row := syntaxTellsUptoRow, standIns := [], harness := (true, "f8083fbee138262db17391ecc93c46f0ada6cec0a15b02643ce3a561d6f7bb61"), looks := false }, kinds := [], alts := [], laidByText := true, laidKinds := [.data, .data, .data, .data], laidTests := true, laidLooks := .later }
def SyntaxTellsUptoCardSaid : Prop := Claim7.holds Tryz.pinned (.plain (OpenSpec.upto syntaxTellsSpec)) syntaxTellsUptoCard

/-- THE SECOND FORM's CARD OF 'headstocklaw06.SyntaxScans'. -/
def syntaxScansUptoCard : Claim7 := { stood := { row := syntaxScansUptoRow, standIns := [], harness := (true, "f8083fbee138262db17391ecc93c46f0ada6cec0a15b02643ce3a561d6f7bb61"), looks := false }, kinds := [], alts := [], laidByText := true, laidKinds := [.data, .data, .data, .data, .data], laidTests := true, laidLooks := .later }
def SyntaxScansUptoCardSaid : Prop := Claim7.holds Tryz.pinned (.plain (OpenSpec.upto syntaxScansSpec)) syntaxScansUptoCard
end Rows
end Go.Proofs.YthlnjnmomnpnpaaGreatDoor
