/-
  DERIVED. GIVEN WITH THE SEED: THE CARDS: each row of YtojdpeokceebhaaGreatDoorRows.lean that lists a variable, with what it lists TIED to the program's text (the seventh form; the later family's looks); each row that meets fmt, with fmt's text TOLD by the authors' own Lean function (tested against real Go, not proved from fmt's source: count such statements apart). THE CARD IS WHAT COUNTS. Prove the row's statement (the work); the ties are given (YtojdpeokceebhaaGreatDoorTie.lean); close each card by the builder's one call (the guide's Derived/Test/ToyasCard.lean, 'card_holds'). Laid BY PROGRAM, IN A SANDBOX (cutbox-door.mjs). By AI agents, Wed Nov 11 2026. No macro, syntax, notation, axiom, sorry.
-/
import Derived.Test.YtojdpeokceebhaaGreatDoorRows
import GoSem.ClaimSeven
namespace Go.Proofs.YtojdpeokceebhaaGreatDoor
namespace Rows

/-- THE TIED CARD OF 'headstocklaw04.ImageTells'. -/
def imageTellsCard : Claim7 := { stood := { row := imageTellsRow, standIns := [], harness := (true, "1875e575913c76817b95f351fea41e704a811b3b43347d11c391942b85c25f37"), looks := true }, kinds := [], alts := [], laidByText := true, laidKinds := [.data, .data, .data, .data, .sentinel, .sentinel, .listed, .data, .pinned], laidTests := true, laidLooks := .later }
def ImageTellsCardSaid : Prop := Claim7.holds Tryz.pinned (.plain (OpenSpec.ofChange imageTellsSpec)) imageTellsCard

/-- THE TIED CARD OF 'headstocklaw04.ImageBack'. -/
def imageBackCard : Claim7 := { stood := { row := imageBackRow, standIns := [], harness := (true, "1875e575913c76817b95f351fea41e704a811b3b43347d11c391942b85c25f37"), looks := true }, kinds := [], alts := [], laidByText := true, laidKinds := [.data, .data, .data, .data, .sentinel, .sentinel, .listed, .data, .pinned], laidTests := true, laidLooks := .later }
def ImageBackCardSaid : Prop := Claim7.holds Tryz.pinned (.plain (OpenSpec.ofChange imageBackSpec)) imageBackCard

/-- THE TIED CARD OF 'headstocklaw04.ImageOne'. -/
def imageOneCard : Claim7 := { stood := { row := imageOneRow, standIns := [], harness := (true, "1875e575913c76817b95f351fea41e704a811b3b43347d11c391942b85c25f37"), looks := true }, kinds := [], alts := [], laidByText := true, laidKinds := [.data, .data, .data, .data, .sentinel, .sentinel, .listed, .data, .pinned], laidTests := true, laidLooks := .later }
def ImageOneCardSaid : Prop := Claim7.holds Tryz.pinned (.plain (OpenSpec.ofChange imageOneSpec)) imageOneCard

/-- THE TIED CARD OF 'headstocklaw04.ImageForth'. -/
def imageForthCard : Claim7 := { stood := { row := imageForthRow, standIns := [], harness := (true, "1875e575913c76817b95f351fea41e704a811b3b43347d11c391942b85c25f37"), looks := true }, kinds := [], alts := [], laidByText := true, laidKinds := [.data, .data, .data, .data, .sentinel, .sentinel, .listed, .data, .pinned], laidTests := true, laidLooks := .later }
def ImageForthCardSaid : Prop := Claim7.holds Tryz.pinned (.plain (OpenSpec.ofChange imageForthSpec)) imageForthCard

/-- THE TIED CARD OF 'headstocklaw04.ImageFinds'. -/
def imageFindsCard : Claim7 := { stood := { row := imageFindsRow, standIns := [], harness := (true, "1875e575913c76817b95f351fea41e704a811b3b43347d11c391942b85c25f37"), looks := true }, kinds := [], alts := [], laidByText := true, laidKinds := [.data, .data, .data, .data, .sentinel, .sentinel, .listed, .data, .pinned], laidTests := true, laidLooks := .later }
def ImageFindsCardSaid : Prop := Claim7.holds Tryz.pinned (.plain (OpenSpec.ofChange imageFindsSpec)) imageFindsCard

/-- THE TIED CARD OF 'headstocklaw04.ImageWrong'. -/
def imageWrongCard : Claim7 := { stood := { row := imageWrongRow, standIns := [], harness := (true, "1875e575913c76817b95f351fea41e704a811b3b43347d11c391942b85c25f37"), looks := true }, kinds := [], alts := [], laidByText := true, laidKinds := [.data, .data, .data, .data, .sentinel, .sentinel, .listed, .data, .pinned], laidTests := true, laidLooks := .later }
def ImageWrongCardSaid : Prop := Claim7.holds Tryz.pinned (.plain (OpenSpec.ofChange imageWrongSpec)) imageWrongCard

/-- THE TIED CARD OF 'headstocklaw04.ImageMore'. -/
def imageMoreCard : Claim7 := { stood := { row := imageMoreRow, standIns := [], harness := (true, "1875e575913c76817b95f351fea41e704a811b3b43347d11c391942b85c25f37"), looks := true }, kinds := [], alts := [], laidByText := true, laidKinds := [.data, .data, .data, .data, .sentinel, .sentinel, .listed, .data, .pinned], laidTests := true, laidLooks := .later }
def ImageMoreCardSaid : Prop := Claim7.holds Tryz.pinned (.plain (OpenSpec.ofChange imageMoreSpec)) imageMoreCard

/-- THE SECOND FORM's CARD OF 'headstocklaw04.ImageTells'. -/
def imageTellsUptoCard : Claim7 := { stood := { row := imageTellsUptoRow, standIns := [], harness := (true, "1875e575913c76817b95f351fea41e704a811b3b43347d11c391942b85c25f37"), looks := true }, kinds := [], alts := [], laidByText := true, laidKinds := [.data, .data, .data, .data, .sentinel, .sentinel, .listed, .data, .pinned], laidTests := true, laidLooks := .later }
def ImageTellsUptoCardSaid : Prop := Claim7.holds Tryz.pinned (.plain (OpenSpec.upto imageTellsSpec)) imageTellsUptoCard

/-- THE SECOND FORM's CARD OF 'headstocklaw04.ImageBack'. -/
def imageBackUptoCard : Claim7 := { stood := { row := imageBackUptoRow, standIns := [], harness := (true, "1875e575913c76817b95f351fea41e704a811b3b43347d11c391942b85c25f37"), looks := true }, kinds := [], alts := [], laidByText := true, laidKinds := [.data, .data, .data, .data, .sentinel, .sentinel, .listed, .data, .pinned], laidTests := true, laidLooks := .later }
def ImageBackUptoCardSaid : Prop := Claim7.holds Tryz.pinned (.plain (OpenSpec.upto imageBackSpec)) imageBackUptoCard

/-- THE SECOND FORM's CARD OF 'headstocklaw04.ImageOne'. -/
def imageOneUptoCard : Claim7 := { stood := { row := imageOneUptoRow, standIns := [], harness := (true, "1875e575913c76817b95f351fea41e704a811b3b43347d11c391942b85c25f37"), looks := true }, kinds := [], alts := [], laidByText := true, laidKinds := [.data, .data, .data, .data, .sentinel, .sentinel, .listed, .data, .pinned], laidTests := true, laidLooks := .later }
def ImageOneUptoCardSaid : Prop := Claim7.holds Tryz.pinned (.plain (OpenSpec.upto imageOneSpec)) imageOneUptoCard

/-- THE SECOND FORM's CARD OF 'headstocklaw04.ImageForth'. -/
def imageForthUptoCard : Claim7 := { stood := { row := imageForthUptoRow, standIns := [], harness := (true, "1875e575913c76817b95f351fea41e704a811b3b43347d11c391942b85c25f37"), looks := true }, kinds := [], alts := [], laidByText := true, laidKinds := [.data, .data, .data, .data, .sentinel, .sentinel, .listed, .data, .pinned], laidTests := true, laidLooks := .later }
def ImageForthUptoCardSaid : Prop := Claim7.holds Tryz.pinned (.plain (OpenSpec.upto imageForthSpec)) imageForthUptoCard

/-- THE SECOND FORM's CARD OF 'headstocklaw04.ImageFinds'. -/
def imageFindsUptoCard : Claim7 := { stood := { row := imageFindsUptoRow, standIns := [], harness := (true, "1875e575913c76817b95f351fea41e704a811b3b43347d11c391942b85c25f37"), looks := true }, kinds := [], alts := [], laidByText := true, laidKinds := [.data, .data, .data, .data, .sentinel, .sentinel, .listed, .data, .pinned], laidTests := true, laidLooks := .later }
def ImageFindsUptoCardSaid : Prop := Claim7.holds Tryz.pinned (.plain (OpenSpec.upto imageFindsSpec)) imageFindsUptoCard

/-- THE SECOND FORM's CARD OF 'headstocklaw04.ImageWrong'. -/
def imageWrongUptoCard : Claim7 := { stood := { row := imageWrongUptoRow, standIns := [], harness := (true, "1875e575913c76817b95f351fea41e704a811b3b43347d11c391942b85c25f37"), looks := true }, kinds := [], alts := [], laidByText := true, laidKinds := [.data, .data, .data, .data, .sentinel, .sentinel, .listed, .data, .pinned], laidTests := true, laidLooks := .later }
def ImageWrongUptoCardSaid : Prop := Claim7.holds Tryz.pinned (.plain (OpenSpec.upto imageWrongSpec)) imageWrongUptoCard

/-- THE SECOND FORM's CARD OF 'headstocklaw04.ImageMore'. -/
def imageMoreUptoCard : Claim7 := { stood := { row := imageMoreUptoRow, standIns := [], harness := (true, "1875e575913c76817b95f351fea41e704a811b3b43347d11c391942b85c25f37"), looks := true }, kinds := [], alts := [], laidByText := true, laidKinds := [.data, .data, .data, .data, .sentinel, .sentinel, .listed, .data, .pinned], laidTests := true, laidLooks := .later }
def ImageMoreUptoCardSaid : Prop := Claim7.holds Tryz.pinned (.plain (OpenSpec.upto imageMoreSpec)) imageMoreUptoCard
end Rows
end Go.Proofs.YtojdpeokceebhaaGreatDoor
