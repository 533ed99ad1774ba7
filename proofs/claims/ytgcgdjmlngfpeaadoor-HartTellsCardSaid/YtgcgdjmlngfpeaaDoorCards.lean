/-
  DERIVED. GIVEN WITH THE SEED: THE CARDS: each row of YtgcgdjmlngfpeaaDoorRows.lean that lists a variable, with what it lists TIED to the program's text (the seventh form; the later family's looks); each row that meets fmt, with fmt's text TOLD by the authors' own Lean function (tested against real Go, not proved from fmt's source: count such statements apart). THE CARD IS WHAT COUNTS. Prove the row's statement (the work); the ties are given (YtgcgdjmlngfpeaaDoorTie.lean); close each card by the builder's one call (the guide's Derived/Test/ToyasCard.lean, 'card_holds'). Laid BY PROGRAM, IN A SANDBOX (cutbox-door.mjs). By AI agents, Wed Nov 11 2026. No macro, syntax, notation, axiom, sorry.
-/
import Derived.Test.YtgcgdjmlngfpeaaDoorRows
import GoSem.ClaimSeven
namespace Go.Proofs.YtgcgdjmlngfpeaaDoor
namespace Rows

/-- THE TIED CARD OF 'headstocklaw14.HartTells'. -/
def hartTellsCard : Claim7 := { stood := { row := hartTellsRow, standIns := [], harness := (true, "9c8a3b841112fe40a271dfe9c1d5a95935e865a67e9850c58d44e19eea672023"), looks := false }, kinds := [], alts := [], laidByText := true, laidKinds := [.data], laidTests := true, laidLooks := .later }
def HartTellsCardSaid : Prop := Claim7.holds Tryd.pinned (.plain (OpenSpec.ofChange hartTellsSpec)) hartTellsCard

/-- THE TIED CARD OF 'headstocklaw14.HartStays'. -/
def hartStaysCard : Claim7 := { stood := { row := hartStaysRow, standIns := [], harness := (true, "9c8a3b841112fe40a271dfe9c1d5a95935e865a67e9850c58d44e19eea672023"), looks := false }, kinds := [], alts := [], laidByText := true, laidKinds := [.data], laidTests := true, laidLooks := .later }
def HartStaysCardSaid : Prop := Claim7.holds Tryd.pinned (.plain (OpenSpec.ofChange hartStaysSpec)) hartStaysCard

/-- THE TIED CARD OF 'headstocklaw14.HartOperators'. -/
def hartOperatorsCard : Claim7 := { stood := { row := hartOperatorsRow, standIns := [], harness := (true, "9c8a3b841112fe40a271dfe9c1d5a95935e865a67e9850c58d44e19eea672023"), looks := false }, kinds := [], alts := [], laidByText := true, laidKinds := [.data], laidTests := true, laidLooks := .later }
def HartOperatorsCardSaid : Prop := Claim7.holds Tryd.pinned (.plain (OpenSpec.ofChange hartOperatorsSpec)) hartOperatorsCard

/-- THE TIED CARD OF 'headstocklaw14.HartBack'. -/
def hartBackCard : Claim7 := { stood := { row := hartBackRow, standIns := [], harness := (true, "9c8a3b841112fe40a271dfe9c1d5a95935e865a67e9850c58d44e19eea672023"), looks := false }, kinds := [], alts := [], laidByText := true, laidKinds := [.data], laidTests := true, laidLooks := .later }
def HartBackCardSaid : Prop := Claim7.holds Tryd.pinned (.plain (OpenSpec.ofChange hartBackSpec)) hartBackCard

/-- THE TIED CARD OF 'headstocklaw14.HartSwaps'. -/
def hartSwapsCard : Claim7 := { stood := { row := hartSwapsRow, standIns := [], harness := (true, "9c8a3b841112fe40a271dfe9c1d5a95935e865a67e9850c58d44e19eea672023"), looks := false }, kinds := [], alts := [], laidByText := true, laidKinds := [.data], laidTests := true, laidLooks := .later }
def HartSwapsCardSaid : Prop := Claim7.holds Tryd.pinned (.plain (OpenSpec.ofChange hartSwapsSpec)) hartSwapsCard

/-- THE TIED CARD OF 'headstocklaw14.HartBranches'. -/
def hartBranchesCard : Claim7 := { stood := { row := hartBranchesRow, standIns := [], harness := (true, "9c8a3b841112fe40a271dfe9c1d5a95935e865a67e9850c58d44e19eea672023"), looks := false }, kinds := [], alts := [], laidByText := true, laidKinds := [.data], laidTests := true, laidLooks := .later }
def HartBranchesCardSaid : Prop := Claim7.holds Tryd.pinned (.plain (OpenSpec.ofChange hartBranchesSpec)) hartBranchesCard

/-- THE TIED CARD OF 'headstocklaw14.HartLinks'. -/
def hartLinksCard : Claim7 := { stood := { row := hartLinksRow, standIns := [], harness := (true, "9c8a3b841112fe40a271dfe9c1d5a95935e865a67e9850c58d44e19eea672023"), looks := false }, kinds := [], alts := [], laidByText := true, laidKinds := [.data], laidTests := true, laidLooks := .later }
def HartLinksCardSaid : Prop := Claim7.holds Tryd.pinned (.plain (OpenSpec.ofChange hartLinksSpec)) hartLinksCard

/-- THE TIED CARD OF 'headstocklaw14.HartNumbers'. -/
def hartNumbersCard : Claim7 := { stood := { row := hartNumbersRow, standIns := [], harness := (true, "9c8a3b841112fe40a271dfe9c1d5a95935e865a67e9850c58d44e19eea672023"), looks := false }, kinds := [], alts := [], laidByText := true, laidKinds := [.data], laidTests := true, laidLooks := .later }
def HartNumbersCardSaid : Prop := Claim7.holds Tryd.pinned (.plain (OpenSpec.ofChange hartNumbersSpec)) hartNumbersCard

/-- THE TIED CARD OF 'headstocklaw14.HartAddresses'. -/
def hartAddressesCard : Claim7 := { stood := { row := hartAddressesRow, standIns := [], harness := (true, "9c8a3b841112fe40a271dfe9c1d5a95935e865a67e9850c58d44e19eea672023"), looks := false }, kinds := [], alts := [], laidByText := true, laidKinds := [.data], laidTests := true, laidLooks := .later }
def HartAddressesCardSaid : Prop := Claim7.holds Tryd.pinned (.plain (OpenSpec.ofChange hartAddressesSpec)) hartAddressesCard

/-- THE SECOND FORM's CARD OF 'headstocklaw14.HartTells'. -/
def hartTellsUptoCard : Claim7 := { stood := { row := hartTellsUptoRow, standIns := [], harness := (true, "9c8a3b841112fe40a271dfe9c1d5a95935e865a67e9850c58d44e19eea672023"), looks := false }, kinds := [], alts := [], laidByText := true, laidKinds := [.data], laidTests := true, laidLooks := .later }
def HartTellsUptoCardSaid : Prop := Claim7.holds Tryd.pinned (.plain (OpenSpec.upto hartTellsSpec)) hartTellsUptoCard

/-- THE SECOND FORM's CARD OF 'headstocklaw14.HartStays'. -/
def hartStaysUptoCard : Claim7 := { stood := { row := hartStaysUptoRow, standIns := [], harness := (true, "9c8a3b841112fe40a271dfe9c1d5a95935e865a67e9850c58d44e19eea672023"), looks := false }, kinds := [], alts := [], laidByText := true, laidKinds := [.data], laidTests := true, laidLooks := .later }
def HartStaysUptoCardSaid : Prop := Claim7.holds Tryd.pinned (.plain (OpenSpec.upto hartStaysSpec)) hartStaysUptoCard

/-- THE SECOND FORM's CARD OF 'headstocklaw14.HartOperators'. -/
def hartOperatorsUptoCard : Claim7 := { stood := { row := hartOperatorsUptoRow, standIns := [], harness := (true, "9c8a3b841112fe40a271dfe9c1d5a95935e865a67e9850c58d44e19eea672023"), looks := false }, kinds := [], alts := [], laidByText := true, laidKinds := [.data], laidTests := true, laidLooks := .later }
def HartOperatorsUptoCardSaid : Prop := Claim7.holds Tryd.pinned (.plain (OpenSpec.upto hartOperatorsSpec)) hartOperatorsUptoCard

/-- THE SECOND FORM's CARD OF 'headstocklaw14.HartBack'. -/
def hartBackUptoCard : Claim7 := { stood := { row := hartBackUptoRow, standIns := [], harness := (true, "9c8a3b841112fe40a271dfe9c1d5a95935e865a67e9850c58d44e19eea672023"), looks := false }, kinds := [], alts := [], laidByText := true, laidKinds := [.data], laidTests := true, laidLooks := .later }
def HartBackUptoCardSaid : Prop := Claim7.holds Tryd.pinned (.plain (OpenSpec.upto hartBackSpec)) hartBackUptoCard

/-- THE SECOND FORM's CARD OF 'headstocklaw14.HartSwaps'. -/
def hartSwapsUptoCard : Claim7 := { stood := { row := hartSwapsUptoRow, standIns := [], harness := (true, "9c8a3b841112fe40a271dfe9c1d5a95935e865a67e9850c58d44e19eea672023"), looks := false }, kinds := [], alts := [], laidByText := true, laidKinds := [.data], laidTests := true, laidLooks := .later }
def HartSwapsUptoCardSaid : Prop := Claim7.holds Tryd.pinned (.plain (OpenSpec.upto hartSwapsSpec)) hartSwapsUptoCard

/-- THE SECOND FORM's CARD OF 'headstocklaw14.HartBranches'. -/
def hartBranchesUptoCard : Claim7 := { stood := { row := hartBranchesUptoRow, standIns := [], harness := (true, "9c8a3b841112fe40a271dfe9c1d5a95935e865a67e9850c58d44e19eea672023"), looks := false }, kinds := [], alts := [], laidByText := true, laidKinds := [.data], laidTests := true, laidLooks := .later }
def HartBranchesUptoCardSaid : Prop := Claim7.holds Tryd.pinned (.plain (OpenSpec.upto hartBranchesSpec)) hartBranchesUptoCard

/-- THE SECOND FORM's CARD OF 'headstocklaw14.HartLinks'. -/
def hartLinksUptoCard : Claim7 := { stood := { row := hartLinksUptoRow, standIns := [], harness := (true, "9c8a3b841112fe40a271dfe9c1d5a95935e865a67e9850c58d44e19eea672023"), looks := false }, kinds := [], alts := [], laidByText := true, laidKinds := [.data], laidTests := true, laidLooks := .later }
def HartLinksUptoCardSaid : Prop := Claim7.holds Tryd.pinned (.plain (OpenSpec.upto hartLinksSpec)) hartLinksUptoCard

/-- THE SECOND FORM's CARD OF 'headstocklaw14.HartNumbers'. -/
def hartNumbersUptoCard : Claim7 := { stood := { row := hartNumbersUptoRow, standIns := [], harness := (true, "9c8a3b841112fe40a271dfe9c1d5a95935e865a67e9850c58d44e19eea672023"), looks := false }, kinds := [], alts := [], laidByText := true, laidKinds := [.data], laidTests := true, laidLooks := .later }
def HartNumbersUptoCardSaid : Prop := Claim7.holds Tryd.pinned (.plain (OpenSpec.upto hartNumbersSpec)) hartNumbersUptoCard

/-- THE SECOND FORM's CARD OF 'headstocklaw14.HartAddresses'. -/
def hartAddressesUptoCard : Claim7 := { stood := { row := hartAddressesUptoRow, standIns := [], harness := (true, "9c8a3b841112fe40a271dfe9c1d5a95935e865a67e9850c58d44e19eea672023"), looks := false }, kinds := [], alts := [], laidByText := true, laidKinds := [.data], laidTests := true, laidLooks := .later }
def HartAddressesUptoCardSaid : Prop := Claim7.holds Tryd.pinned (.plain (OpenSpec.upto hartAddressesSpec)) hartAddressesUptoCard
end Rows
end Go.Proofs.YtgcgdjmlngfpeaaDoor
