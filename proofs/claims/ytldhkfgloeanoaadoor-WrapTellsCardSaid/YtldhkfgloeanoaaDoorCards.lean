/-
  DERIVED. GIVEN WITH THE SEED: THE CARDS: each row of YtldhkfgloeanoaaDoorRows.lean that lists a variable, with what it lists TIED to the program's text (the seventh form; the later family's looks); each row that meets fmt, with fmt's text TOLD by the authors' own Lean function (tested against real Go, not proved from fmt's source: count such statements apart). THE CARD IS WHAT COUNTS. Prove the row's statement (the work); the ties are given (YtldhkfgloeanoaaDoorTie.lean); close each card by the builder's one call (the guide's Derived/Test/ToyasCard.lean, 'card_holds'). Laid BY PROGRAM, IN A SANDBOX (cutbox-door.mjs). By AI agents, Wed Nov 11 2026. No macro, syntax, notation, axiom, sorry.
-/
import Derived.Test.YtldhkfgloeanoaaDoorRows
import GoSem.ClaimSeven
namespace Go.Proofs.YtldhkfgloeanoaaDoor
namespace Rows

/-- THE TIED CARD OF 'headstocklaw01.WrapTells'. -/
def wrapTellsCard : Claim7 := { stood := { row := wrapTellsRow, standIns := [], harness := (true, "750763cf501aa9ac5e570f6488f2694cd7e9d1abd39fe1928092fb798d48a49e"), looks := false }, kinds := [], alts := [], laidByText := true, laidKinds := [.data], laidTests := true, laidLooks := .later }
def WrapTellsCardSaid : Prop := Claim7.holds Tryd.pinned (.plain (OpenSpec.ofChange wrapTellsSpec)) wrapTellsCard

/-- THE TIED CARD OF 'headstocklaw01.WrapTwice'. -/
def wrapTwiceCard : Claim7 := { stood := { row := wrapTwiceRow, standIns := [], harness := (true, "750763cf501aa9ac5e570f6488f2694cd7e9d1abd39fe1928092fb798d48a49e"), looks := false }, kinds := [], alts := [], laidByText := true, laidKinds := [.data], laidTests := true, laidLooks := .later }
def WrapTwiceCardSaid : Prop := Claim7.holds Tryd.pinned (.plain (OpenSpec.ofChange wrapTwiceSpec)) wrapTwiceCard

/-- THE TIED CARD OF 'headstocklaw01.WrapLow'. -/
def wrapLowCard : Claim7 := { stood := { row := wrapLowRow, standIns := [], harness := (true, "750763cf501aa9ac5e570f6488f2694cd7e9d1abd39fe1928092fb798d48a49e"), looks := false }, kinds := [], alts := [], laidByText := true, laidKinds := [.data], laidTests := true, laidLooks := .later }
def WrapLowCardSaid : Prop := Claim7.holds Tryd.pinned (.plain (OpenSpec.ofChange wrapLowSpec)) wrapLowCard

/-- THE TIED CARD OF 'headstocklaw01.WrapDivides'. -/
def wrapDividesCard : Claim7 := { stood := { row := wrapDividesRow, standIns := [], harness := (true, "750763cf501aa9ac5e570f6488f2694cd7e9d1abd39fe1928092fb798d48a49e"), looks := false }, kinds := [], alts := [], laidByText := true, laidKinds := [.data], laidTests := true, laidLooks := .later }
def WrapDividesCardSaid : Prop := Claim7.holds Tryd.pinned (.plain (OpenSpec.ofChange wrapDividesSpec)) wrapDividesCard

/-- THE TIED CARD OF 'headstocklaw01.WrapHalves'. -/
def wrapHalvesCard : Claim7 := { stood := { row := wrapHalvesRow, standIns := [], harness := (true, "750763cf501aa9ac5e570f6488f2694cd7e9d1abd39fe1928092fb798d48a49e"), looks := false }, kinds := [], alts := [], laidByText := true, laidKinds := [.data], laidTests := true, laidLooks := .later }
def WrapHalvesCardSaid : Prop := Claim7.holds Tryd.pinned (.plain (OpenSpec.ofChange wrapHalvesSpec)) wrapHalvesCard

/-- THE TIED CARD OF 'headstocklaw01.WrapSigns'. -/
def wrapSignsCard : Claim7 := { stood := { row := wrapSignsRow, standIns := [], harness := (true, "750763cf501aa9ac5e570f6488f2694cd7e9d1abd39fe1928092fb798d48a49e"), looks := false }, kinds := [], alts := [], laidByText := true, laidKinds := [.data], laidTests := true, laidLooks := .later }
def WrapSignsCardSaid : Prop := Claim7.holds Tryd.pinned (.plain (OpenSpec.ofChange wrapSignsSpec)) wrapSignsCard

/-- THE TIED CARD OF 'headstocklaw01.WrapRing'. -/
def wrapRingCard : Claim7 := { stood := { row := wrapRingRow, standIns := [], harness := (true, "750763cf501aa9ac5e570f6488f2694cd7e9d1abd39fe1928092fb798d48a49e"), looks := false }, kinds := [], alts := [], laidByText := true, laidKinds := [.data], laidTests := true, laidLooks := .later }
def WrapRingCardSaid : Prop := Claim7.holds Tryd.pinned (.plain (OpenSpec.ofChange wrapRingSpec)) wrapRingCard

/-- THE TIED CARD OF 'headstocklaw01.WrapBits'. -/
def wrapBitsCard : Claim7 := { stood := { row := wrapBitsRow, standIns := [], harness := (true, "750763cf501aa9ac5e570f6488f2694cd7e9d1abd39fe1928092fb798d48a49e"), looks := false }, kinds := [], alts := [], laidByText := true, laidKinds := [.data], laidTests := true, laidLooks := .later }
def WrapBitsCardSaid : Prop := Claim7.holds Tryd.pinned (.plain (OpenSpec.ofChange wrapBitsSpec)) wrapBitsCard

/-- THE SECOND FORM's CARD OF 'headstocklaw01.WrapTells'. -/
def wrapTellsUptoCard : Claim7 := { stood := { row := wrapTellsUptoRow, standIns := [], harness := (true, "750763cf501aa9ac5e570f6488f2694cd7e9d1abd39fe1928092fb798d48a49e"), looks := false }, kinds := [], alts := [], laidByText := true, laidKinds := [.data], laidTests := true, laidLooks := .later }
def WrapTellsUptoCardSaid : Prop := Claim7.holds Tryd.pinned (.plain (OpenSpec.upto wrapTellsSpec)) wrapTellsUptoCard

/-- THE SECOND FORM's CARD OF 'headstocklaw01.WrapTwice'. -/
def wrapTwiceUptoCard : Claim7 := { stood := { row := wrapTwiceUptoRow, standIns := [], harness := (true, "750763cf501aa9ac5e570f6488f2694cd7e9d1abd39fe1928092fb798d48a49e"), looks := false }, kinds := [], alts := [], laidByText := true, laidKinds := [.data], laidTests := true, laidLooks := .later }
def WrapTwiceUptoCardSaid : Prop := Claim7.holds Tryd.pinned (.plain (OpenSpec.upto wrapTwiceSpec)) wrapTwiceUptoCard

/-- THE SECOND FORM's CARD OF 'headstocklaw01.WrapLow'. -/
def wrapLowUptoCard : Claim7 := { stood := { row := wrapLowUptoRow, standIns := [], harness := (true, "750763cf501aa9ac5e570f6488f2694cd7e9d1abd39fe1928092fb798d48a49e"), looks := false }, kinds := [], alts := [], laidByText := true, laidKinds := [.data], laidTests := true, laidLooks := .later }
def WrapLowUptoCardSaid : Prop := Claim7.holds Tryd.pinned (.plain (OpenSpec.upto wrapLowSpec)) wrapLowUptoCard

/-- THE SECOND FORM's CARD OF 'headstocklaw01.WrapDivides'. -/
def wrapDividesUptoCard : Claim7 := { stood := { row := wrapDividesUptoRow, standIns := [], harness := (true, "750763cf501aa9ac5e570f6488f2694cd7e9d1abd39fe1928092fb798d48a49e"), looks := false }, kinds := [], alts := [], laidByText := true, laidKinds := [.data], laidTests := true, laidLooks := .later }
def WrapDividesUptoCardSaid : Prop := Claim7.holds Tryd.pinned (.plain (OpenSpec.upto wrapDividesSpec)) wrapDividesUptoCard

/-- THE SECOND FORM's CARD OF 'headstocklaw01.WrapHalves'. -/
def wrapHalvesUptoCard : Claim7 := { stood := { row := wrapHalvesUptoRow, standIns := [], harness := (true, "750763cf501aa9ac5e570f6488f2694cd7e9d1abd39fe1928092fb798d48a49e"), looks := false }, kinds := [], alts := [], laidByText := true, laidKinds := [.data], laidTests := true, laidLooks := .later }
def WrapHalvesUptoCardSaid : Prop := Claim7.holds Tryd.pinned (.plain (OpenSpec.upto wrapHalvesSpec)) wrapHalvesUptoCard

/-- THE SECOND FORM's CARD OF 'headstocklaw01.WrapSigns'. -/
def wrapSignsUptoCard : Claim7 := { stood := { row := wrapSignsUptoRow, standIns := [], harness := (true, "750763cf501aa9ac5e570f6488f2694cd7e9d1abd39fe1928092fb798d48a49e"), looks := false }, kinds := [], alts := [], laidByText := true, laidKinds := [.data], laidTests := true, laidLooks := .later }
def WrapSignsUptoCardSaid : Prop := Claim7.holds Tryd.pinned (.plain (OpenSpec.upto wrapSignsSpec)) wrapSignsUptoCard

/-- THE SECOND FORM's CARD OF 'headstocklaw01.WrapRing'. -/
def wrapRingUptoCard : Claim7 := { stood := { row := wrapRingUptoRow, standIns := [], harness := (true, "750763cf501aa9ac5e570f6488f2694cd7e9d1abd39fe1928092fb798d48a49e"), looks := false }, kinds := [], alts := [], laidByText := true, laidKinds := [.data], laidTests := true, laidLooks := .later }
def WrapRingUptoCardSaid : Prop := Claim7.holds Tryd.pinned (.plain (OpenSpec.upto wrapRingSpec)) wrapRingUptoCard

/-- THE SECOND FORM's CARD OF 'headstocklaw01.WrapBits'. -/
def wrapBitsUptoCard : Claim7 := { stood := { row := wrapBitsUptoRow, standIns := [], harness := (true, "750763cf501aa9ac5e570f6488f2694cd7e9d1abd39fe1928092fb798d48a49e"), looks := false }, kinds := [], alts := [], laidByText := true, laidKinds := [.data], laidTests := true, laidLooks := .later }
def WrapBitsUptoCardSaid : Prop := Claim7.holds Tryd.pinned (.plain (OpenSpec.upto wrapBitsSpec)) wrapBitsUptoCard
end Rows
end Go.Proofs.YtldhkfgloeanoaaDoor
