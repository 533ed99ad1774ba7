/-
  DERIVED. GIVEN WITH THE SEED: THE CARDS: each row of YtbfmlbcjggplgaaGreatDoorRows.lean that lists a variable, with what it lists TIED to the program's text (the seventh form; the later family's looks); each row that meets fmt, with fmt's text TOLD by the authors' own Lean function (tested against real Go, not proved from fmt's source: count such statements apart). THE CARD IS WHAT COUNTS. Prove the row's statement (the work); the ties are given (YtbfmlbcjggplgaaGreatDoorTie.lean); close each card by the builder's one call (the guide's Derived/Test/ToyasCard.lean, 'card_holds'). Laid BY PROGRAM, IN A SANDBOX (cutbox-door.mjs). By AI agents, Wed Nov 11 2026. No macro, syntax, notation, axiom, sorry.
-/
import Derived.Test.YtbfmlbcjggplgaaGreatDoorRows
import GoSem.ClaimSeven
namespace Go.Proofs.YtbfmlbcjggplgaaGreatDoor
namespace Rows

/-- THE TIED CARD OF 'headstocklaw04.ImageTells'. -/
def imageTellsCard : Claim7 := { stood := { row := imageTellsRow, standIns := [], harness := (true, "96096c3c820f21712c82d2cb26e9faaa93771e5021b0fe936d620fb1a58dcf9f"), looks := true }, kinds := [], alts := [], laidByText := true, laidKinds := [.data, .data, .data, .data, .sentinel, .sentinel, .listed, .data, .pinned], laidTests := true, laidLooks := .later }
def ImageTellsCardSaid : Prop := Claim7.holds Tryz.pinned (.plain (OpenSpec.ofChange imageTellsSpec)) imageTellsCard

/-- THE TIED CARD OF 'headstocklaw04.ImageFinds'. -/
def imageFindsCard : Claim7 := { stood := { row := imageFindsRow, standIns := [], harness := (true, "96096c3c820f21712c82d2cb26e9faaa93771e5021b0fe936d620fb1a58dcf9f"), looks := true }, kinds := [], alts := [], laidByText := true, laidKinds := [.data, .data, .data, .data, .sentinel, .sentinel, .listed, .data, .pinned], laidTests := true, laidLooks := .later }
def ImageFindsCardSaid : Prop := Claim7.holds Tryz.pinned (.plain (OpenSpec.ofChange imageFindsSpec)) imageFindsCard

/-- THE SECOND FORM's CARD OF 'headstocklaw04.ImageTells'. -/
def imageTellsUptoCard : Claim7 := { stood := { row := imageTellsUptoRow, standIns := [], harness := (true, "96096c3c820f21712c82d2cb26e9faaa93771e5021b0fe936d620fb1a58dcf9f"), looks := true }, kinds := [], alts := [], laidByText := true, laidKinds := [.data, .data, .data, .data, .sentinel, .sentinel, .listed, .data, .pinned], laidTests := true, laidLooks := .later }
def ImageTellsUptoCardSaid : Prop := Claim7.holds Tryz.pinned (.plain (OpenSpec.upto imageTellsSpec)) imageTellsUptoCard

/-- THE SECOND FORM's CARD OF 'headstocklaw04.ImageFinds'. -/
def imageFindsUptoCard : Claim7 := { stood := { row := imageFindsUptoRow, standIns := [], harness := (true, "96096c3c820f21712c82d2cb26e9faaa93771e5021b0fe936d620fb1a58dcf9f"), looks := true }, kinds := [], alts := [], laidByText := true, laidKinds := [.data, .data, .data, .data, .sentinel, .sentinel, .listed, .data, .pinned], laidTests := true, laidLooks := .later }
def ImageFindsUptoCardSaid : Prop := Claim7.holds Tryz.pinned (.plain (OpenSpec.upto imageFindsSpec)) imageFindsUptoCard
end Rows
end Go.Proofs.YtbfmlbcjggplgaaGreatDoor
