/-
  DERIVED. GIVEN WITH THE SEED: THE CARDS: each row of YtgameoiofikhmaaDoorRows.lean that lists a variable, with what it lists TIED to the program's text (the seventh form; the later family's looks); each row that meets fmt, with fmt's text TOLD by the authors' own Lean function (tested against real Go, not proved from fmt's source: count such statements apart). THE CARD IS WHAT COUNTS. Prove the row's statement (the work); the ties are given (YtgameoiofikhmaaDoorTie.lean); close each card by the builder's one call (the guide's Derived/Test/ToyasCard.lean, 'card_holds'). Laid BY PROGRAM, IN A SANDBOX (cutbox-door.mjs). By AI agents, Wed Nov 11 2026. No macro, syntax, notation, axiom, sorry.
-/
import Derived.Test.YtgameoiofikhmaaDoorRows
import GoSem.ClaimSeven
namespace Go.Proofs.YtgameoiofikhmaaDoor
namespace Rows

/-- THE TIED CARD OF 'headstocklaw05.TokenTells'. -/
def tokenTellsCard : Claim7 := { stood := { row := tokenTellsRow, standIns := [], harness := (true, "91b6fdc8a81cddee961ee51af5afb596e9870eeaad95d18266db4ead105e2ba7"), looks := false }, kinds := [], alts := [], laidByText := true, laidKinds := [.data], laidTests := true, laidLooks := .later }
def TokenTellsCardSaid : Prop := Claim7.holds Tryd.pinned (.plain (OpenSpec.ofChange tokenTellsSpec)) tokenTellsCard

/-- THE TIED CARD OF 'headstocklaw05.TokenWords'. -/
def tokenWordsCard : Claim7 := { stood := { row := tokenWordsRow, standIns := [], harness := (true, "91b6fdc8a81cddee961ee51af5afb596e9870eeaad95d18266db4ead105e2ba7"), looks := false }, kinds := [], alts := [], laidByText := true, laidKinds := [.data], laidTests := true, laidLooks := .later }
def TokenWordsCardSaid : Prop := Claim7.holds Tryd.pinned (.plain (OpenSpec.ofChange tokenWordsSpec)) tokenWordsCard

/-- THE TIED CARD OF 'headstocklaw05.TokenJoin'. -/
def tokenJoinCard : Claim7 := { stood := { row := tokenJoinRow, standIns := [], harness := (true, "91b6fdc8a81cddee961ee51af5afb596e9870eeaad95d18266db4ead105e2ba7"), looks := false }, kinds := [], alts := [], laidByText := true, laidKinds := [.data], laidTests := true, laidLooks := .later }
def TokenJoinCardSaid : Prop := Claim7.holds Tryd.pinned (.plain (OpenSpec.ofChange tokenJoinSpec)) tokenJoinCard

/-- THE TIED CARD OF 'headstocklaw05.TokenWrong'. -/
def tokenWrongCard : Claim7 := { stood := { row := tokenWrongRow, standIns := [], harness := (true, "91b6fdc8a81cddee961ee51af5afb596e9870eeaad95d18266db4ead105e2ba7"), looks := false }, kinds := [], alts := [], laidByText := true, laidKinds := [.data], laidTests := true, laidLooks := .later }
def TokenWrongCardSaid : Prop := Claim7.holds Tryd.pinned (.plain (OpenSpec.ofChange tokenWrongSpec)) tokenWrongCard

/-- THE TIED CARD OF 'headstocklaw05.TokenNumbers'. -/
def tokenNumbersCard : Claim7 := { stood := { row := tokenNumbersRow, standIns := [], harness := (true, "91b6fdc8a81cddee961ee51af5afb596e9870eeaad95d18266db4ead105e2ba7"), looks := false }, kinds := [], alts := [], laidByText := true, laidKinds := [.data], laidTests := true, laidLooks := .later }
def TokenNumbersCardSaid : Prop := Claim7.holds Tryd.pinned (.plain (OpenSpec.ofChange tokenNumbersSpec)) tokenNumbersCard

/-- THE TIED CARD OF 'headstocklaw05.TokenShifts'. -/
def tokenShiftsCard : Claim7 := { stood := { row := tokenShiftsRow, standIns := [], harness := (true, "91b6fdc8a81cddee961ee51af5afb596e9870eeaad95d18266db4ead105e2ba7"), looks := false }, kinds := [], alts := [], laidByText := true, laidKinds := [.data], laidTests := true, laidLooks := .later }
def TokenShiftsCardSaid : Prop := Claim7.holds Tryd.pinned (.plain (OpenSpec.ofChange tokenShiftsSpec)) tokenShiftsCard

/-- THE TIED CARD OF 'headstocklaw05.TokenSigns'. -/
def tokenSignsCard : Claim7 := { stood := { row := tokenSignsRow, standIns := [], harness := (true, "91b6fdc8a81cddee961ee51af5afb596e9870eeaad95d18266db4ead105e2ba7"), looks := false }, kinds := [], alts := [], laidByText := true, laidKinds := [.data], laidTests := true, laidLooks := .later }
def TokenSignsCardSaid : Prop := Claim7.holds Tryd.pinned (.plain (OpenSpec.ofChange tokenSignsSpec)) tokenSignsCard

/-- THE SECOND FORM's CARD OF 'headstocklaw05.TokenTells'. -/
def tokenTellsUptoCard : Claim7 := { stood := { row := tokenTellsUptoRow, standIns := [], harness := (true, "91b6fdc8a81cddee961ee51af5afb596e9870eeaad95d18266db4ead105e2ba7"), looks := false }, kinds := [], alts := [], laidByText := true, laidKinds := [.data], laidTests := true, laidLooks := .later }
def TokenTellsUptoCardSaid : Prop := Claim7.holds Tryd.pinned (.plain (OpenSpec.upto tokenTellsSpec)) tokenTellsUptoCard

/-- THE SECOND FORM's CARD OF 'headstocklaw05.TokenWords'. -/
def tokenWordsUptoCard : Claim7 := { stood := { row := tokenWordsUptoRow, standIns := [], harness := (true, "91b6fdc8a81cddee961ee51af5afb596e9870eeaad95d18266db4ead105e2ba7"), looks := false }, kinds := [], alts := [], laidByText := true, laidKinds := [.data], laidTests := true, laidLooks := .later }
def TokenWordsUptoCardSaid : Prop := Claim7.holds Tryd.pinned (.plain (OpenSpec.upto tokenWordsSpec)) tokenWordsUptoCard

/-- THE SECOND FORM's CARD OF 'headstocklaw05.TokenJoin'. -/
def tokenJoinUptoCard : Claim7 := { stood := { row := tokenJoinUptoRow, standIns := [], harness := (true, "91b6fdc8a81cddee961ee51af5afb596e9870eeaad95d18266db4ead105e2ba7"), looks := false }, kinds := [], alts := [], laidByText := true, laidKinds := [.data], laidTests := true, laidLooks := .later }
def TokenJoinUptoCardSaid : Prop := Claim7.holds Tryd.pinned (.plain (OpenSpec.upto tokenJoinSpec)) tokenJoinUptoCard

/-- THE SECOND FORM's CARD OF 'headstocklaw05.TokenWrong'. -/
def tokenWrongUptoCard : Claim7 := { stood := { row := tokenWrongUptoRow, standIns := [], harness := (true, "91b6fdc8a81cddee961ee51af5afb596e9870eeaad95d18266db4ead105e2ba7"), looks := false }, kinds := [], alts := [], laidByText := true, laidKinds := [.data], laidTests := true, laidLooks := .later }
def TokenWrongUptoCardSaid : Prop := Claim7.holds Tryd.pinned (.plain (OpenSpec.upto tokenWrongSpec)) tokenWrongUptoCard

/-- THE SECOND FORM's CARD OF 'headstocklaw05.TokenNumbers'. -/
def tokenNumbersUptoCard : Claim7 := { stood := { row := tokenNumbersUptoRow, standIns := [], harness := (true, "91b6fdc8a81cddee961ee51af5afb596e9870eeaad95d18266db4ead105e2ba7"), looks := false }, kinds := [], alts := [], laidByText := true, laidKinds := [.data], laidTests := true, laidLooks := .later }
def TokenNumbersUptoCardSaid : Prop := Claim7.holds Tryd.pinned (.plain (OpenSpec.upto tokenNumbersSpec)) tokenNumbersUptoCard

/-- THE SECOND FORM's CARD OF 'headstocklaw05.TokenShifts'. -/
def tokenShiftsUptoCard : Claim7 := { stood := { row := tokenShiftsUptoRow, standIns := [], harness := (true, "91b6fdc8a81cddee961ee51af5afb596e9870eeaad95d18266db4ead105e2ba7"), looks := false }, kinds := [], alts := [], laidByText := true, laidKinds := [.data], laidTests := true, laidLooks := .later }
def TokenShiftsUptoCardSaid : Prop := Claim7.holds Tryd.pinned (.plain (OpenSpec.upto tokenShiftsSpec)) tokenShiftsUptoCard

/-- THE SECOND FORM's CARD OF 'headstocklaw05.TokenSigns'. -/
def tokenSignsUptoCard : Claim7 := { stood := { row := tokenSignsUptoRow, standIns := [], harness := (true, "91b6fdc8a81cddee961ee51af5afb596e9870eeaad95d18266db4ead105e2ba7"), looks := false }, kinds := [], alts := [], laidByText := true, laidKinds := [.data], laidTests := true, laidLooks := .later }
def TokenSignsUptoCardSaid : Prop := Claim7.holds Tryd.pinned (.plain (OpenSpec.upto tokenSignsSpec)) tokenSignsUptoCard
end Rows
end Go.Proofs.YtgameoiofikhmaaDoor
