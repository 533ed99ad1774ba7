/-
  DERIVED. GIVEN WITH THE SEED: THE CARDS: each row of YthlnjnmomnpnpaaDoorRows.lean that lists a variable, with what it lists TIED to the program's text (the seventh form; the later family's looks); each row that meets fmt, with fmt's text TOLD by the authors' own Lean function (tested against real Go, not proved from fmt's source: count such statements apart). THE CARD IS WHAT COUNTS. Prove the row's statement (the work); the ties are given (YthlnjnmomnpnpaaDoorTie.lean); close each card by the builder's one call (the guide's Derived/Test/ToyasCard.lean, 'card_holds'). Laid BY PROGRAM, IN A SANDBOX (cutbox-door.mjs). By AI agents, Wed Nov 11 2026. No macro, syntax, notation, axiom, sorry.
-/
import Derived.Test.YthlnjnmomnpnpaaDoorRows
import GoSem.ClaimSeven
namespace Go.Proofs.YthlnjnmomnpnpaaDoor
namespace Rows

/-- THE TIED CARD OF 'headstocklaw06.SyntaxUnlike'. -/
def syntaxUnlikeCard : Claim7 := { stood := { row := syntaxUnlikeRow, standIns := [], harness := (true, "bf830160cee07faa741bf82e7bc73ec508d6e0f951e33201855eb450c0891116"), looks := false }, kinds := [], alts := [], laidByText := true, laidKinds := [.data, .data, .data, .data], laidTests := true, laidLooks := .later }
def SyntaxUnlikeCardSaid : Prop := Claim7.holds Tryd.pinned (.plain (OpenSpec.ofChange syntaxUnlikeSpec)) syntaxUnlikeCard

/-- THE TIED CARD OF 'headstocklaw06.SyntaxBinds'. -/
def syntaxBindsCard : Claim7 := { stood := { row := syntaxBindsRow, standIns := [], harness := (true, "bf830160cee07faa741bf82e7bc73ec508d6e0f951e33201855eb450c0891116"), looks := false }, kinds := [], alts := [], laidByText := true, laidKinds := [.data, .data, .data, .data], laidTests := true, laidLooks := .later }
def SyntaxBindsCardSaid : Prop := Claim7.holds Tryd.pinned (.plain (OpenSpec.ofChange syntaxBindsSpec)) syntaxBindsCard

/-- THE TIED CARD OF 'headstocklaw06.SyntaxWrong'. -/
def syntaxWrongCard : Claim7 := { stood := { row := syntaxWrongRow, standIns := [], harness := (true, "bf830160cee07faa741bf82e7bc73ec508d6e0f951e33201855eb450c0891116"), looks := false }, kinds := [], alts := [], laidByText := true, laidKinds := [.data, .data, .data, .data], laidTests := true, laidLooks := .later }
def SyntaxWrongCardSaid : Prop := Claim7.holds Tryd.pinned (.plain (OpenSpec.ofChange syntaxWrongSpec)) syntaxWrongCard

/-- THE TIED CARD OF 'headstocklaw06.SyntaxSame'. -/
def syntaxSameCard : Claim7 := { stood := { row := syntaxSameRow, standIns := [], harness := (true, "bf830160cee07faa741bf82e7bc73ec508d6e0f951e33201855eb450c0891116"), looks := false }, kinds := [], alts := [], laidByText := true, laidKinds := [.data, .data, .data, .data], laidTests := true, laidLooks := .later }
def SyntaxSameCardSaid : Prop := Claim7.holds Tryd.pinned (.plain (OpenSpec.ofChange syntaxSameSpec)) syntaxSameCard

/-- THE TIED CARD OF 'headstocklaw06.SyntaxRows'. -/
def syntaxRowsCard : Claim7 := { stood := { row := syntaxRowsRow, standIns := [], harness := (true, "bf830160cee07faa741bf82e7bc73ec508d6e0f951e33201855eb450c0891116"), looks := false }, kinds := [], alts := [], laidByText := true, laidKinds := [.data, .data, .data, .data], laidTests := true, laidLooks := .later }
def SyntaxRowsCardSaid : Prop := Claim7.holds Tryd.pinned (.plain (OpenSpec.ofChange syntaxRowsSpec)) syntaxRowsCard

/-- THE SECOND FORM's CARD OF 'headstocklaw06.SyntaxUnlike'. -/
def syntaxUnlikeUptoCard : Claim7 := { stood := { row := syntaxUnlikeUptoRow, standIns := [], harness := (true, "bf830160cee07faa741bf82e7bc73ec508d6e0f951e33201855eb450c0891116"), looks := false }, kinds := [], alts := [], laidByText := true, laidKinds := [.data, .data, .data, .data], laidTests := true, laidLooks := .later }
def SyntaxUnlikeUptoCardSaid : Prop := Claim7.holds Tryd.pinned (.plain (OpenSpec.upto syntaxUnlikeSpec)) syntaxUnlikeUptoCard

/-- THE SECOND FORM's CARD OF 'headstocklaw06.SyntaxBinds'. -/
def syntaxBindsUptoCard : Claim7 := { stood := { row := syntaxBindsUptoRow, standIns := [], harness := (true, "bf830160cee07faa741bf82e7bc73ec508d6e0f951e33201855eb450c0891116"), looks := false }, kinds := [], alts := [], laidByText := true, laidKinds := [.data, .data, .data, .data], laidTests := true, laidLooks := .later }
def SyntaxBindsUptoCardSaid : Prop := Claim7.holds Tryd.pinned (.plain (OpenSpec.upto syntaxBindsSpec)) syntaxBindsUptoCard

/-- THE SECOND FORM's CARD OF 'headstocklaw06.SyntaxWrong'. -/
def syntaxWrongUptoCard : Claim7 := { stood := { row := syntaxWrongUptoRow, standIns := [], harness := (true, "bf830160cee07faa741bf82e7bc73ec508d6e0f951e33201855eb450c0891116"), looks := false }, kinds := [], alts := [], laidByText := true, laidKinds := [.data, .data, .data, .data], laidTests := true, laidLooks := .later }
def SyntaxWrongUptoCardSaid : Prop := Claim7.holds Tryd.pinned (.plain (OpenSpec.upto syntaxWrongSpec)) syntaxWrongUptoCard

/-- THE SECOND FORM's CARD OF 'headstocklaw06.SyntaxSame'. -/
def syntaxSameUptoCard : Claim7 := { stood := { row := syntaxSameUptoRow, standIns := [], harness := (true, "bf830160cee07faa741bf82e7bc73ec508d6e0f951e33201855eb450c0891116"), looks := false }, kinds := [], alts := [], laidByText := true, laidKinds := [.data, .data, .data, .data], laidTests := true, laidLooks := .later }
def SyntaxSameUptoCardSaid : Prop := Claim7.holds Tryd.pinned (.plain (OpenSpec.upto syntaxSameSpec)) syntaxSameUptoCard

/-- THE SECOND FORM's CARD OF 'headstocklaw06.SyntaxRows'. -/
def syntaxRowsUptoCard : Claim7 := { stood := { row := syntaxRowsUptoRow, standIns := [], harness := (true, "bf830160cee07faa741bf82e7bc73ec508d6e0f951e33201855eb450c0891116"), looks := false }, kinds := [], alts := [], laidByText := true, laidKinds := [.data, .data, .data, .data], laidTests := true, laidLooks := .later }
def SyntaxRowsUptoCardSaid : Prop := Claim7.holds Tryd.pinned (.plain (OpenSpec.upto syntaxRowsSpec)) syntaxRowsUptoCard
end Rows
end Go.Proofs.YthlnjnmomnpnpaaDoor
