/-
  No cell of these rows narrows 'for every input' (looked for: loops, veiled, ifaces, maps, wideKeys, modest, calm, conditions, laid).
  DERIVED. THE GIVEN ROWS OF THIS SEAT. 7 by the template 'for every input the law returns true; each argument reads behind the call as it read before'; 0 by the template 'total and deterministic' (their statements: YtgbcamegidloaaaTotals.lean).
  GIVEN WITH THE SEED: the statements are not yours to turn. If you find one false, say at which input.
  Laid BY PROGRAM, IN A SANDBOX (cutbox-rows.mjs): the forced cells as the released guide's own fill.sh prints them over the translation 09df03592f0911b4… (all of the seat's roots in one cut). By AI agents, Wed Nov 11 2026. No macro, syntax, notation, axiom, sorry.
-/
import Derived.Test.YtgbcamegidloaaaChecked
import GoSem.Claim
import GoSem.ClaimJoined
import GoSem.ClaimMapViews
import Derived.JoinedTies
import Derived.KernelRfl
namespace Go.Proofs.Ytgbcamegidloaaa
/- THE CELL 'sum', in the pinned program and in every row, IS THE sha256 OF THE DUMP (.gsa) THAT YtgbcamegidloaaaProg.lean LOADS. Nothing in Lean hashes anything: it is a label: what it is worth is what the hold of that sum in a sandbox is worth. -/
noncomputable def Try.pinned : Pinned := { name := "ytgbcamegidloaaa", sum := "09df03592f0911b44af7331804594fa9448165f9d383c3a5218dbd09e7f4cebb", checked := Try.checked }
namespace Rows
def none {H : Type} : Left H := { results := [], args := [] }

/-- 'headstocklaw11.StoreTells': WHATEVER THE INPUT: true; the input reads as it did. -/
def storeTellsSpec : ChangeSpec := { name := "storeTells", fn := fun _ => fun
  | [d1, d2, d3] => { results := [.lit (.bool true)], args := [d1, d2, d3] }
  | _ => none }
def storeTellsRow : OpenClaim := { program := "ytgbcamegidloaaa", sum := "09df03592f0911b44af7331804594fa9448165f9d383c3a5218dbd09e7f4cebb", func := "headstock/headstocklaw11.StoreTells", spec := "storeTells", unfollowed := true, recurses := true, apart := false }
def StoreTellsSaid : Prop := storeTellsRow.holds Try.pinned (OpenSpec.ofChange storeTellsSpec)

/-- ITS FALSE NEIGHBOUR: 'it returns false'. Refute it at one input. -/
def storeTellsWrong : ChangeSpec := { name := "storeTells", fn := fun _ => fun
  | [d1, d2, d3] => { results := [.lit (.bool false)], args := [d1, d2, d3] }
  | _ => none }
def StoreTellsWrongFalsely : Prop := storeTellsRow.holds Try.pinned (OpenSpec.ofChange storeTellsWrong)

/-- 'headstocklaw11.StoreOwn': WHATEVER THE INPUT: true; the input reads as it did. -/
def storeOwnSpec : ChangeSpec := { name := "storeOwn", fn := fun _ => fun
  | [d] => { results := [.lit (.bool true)], args := [d] }
  | _ => none }
def storeOwnRow : OpenClaim := { program := "ytgbcamegidloaaa", sum := "09df03592f0911b44af7331804594fa9448165f9d383c3a5218dbd09e7f4cebb", func := "headstock/headstocklaw11.StoreOwn", spec := "storeOwn", unfollowed := true, recurses := true, apart := false }
def StoreOwnSaid : Prop := storeOwnRow.holds Try.pinned (OpenSpec.ofChange storeOwnSpec)

/-- ITS FALSE NEIGHBOUR: 'it returns false'. Refute it at one input. -/
def storeOwnWrong : ChangeSpec := { name := "storeOwn", fn := fun _ => fun
  | [d] => { results := [.lit (.bool false)], args := [d] }
  | _ => none }
def StoreOwnWrongFalsely : Prop := storeOwnRow.holds Try.pinned (OpenSpec.ofChange storeOwnWrong)

/-- 'headstocklaw11.StoreAway': WHATEVER THE INPUT: true; the input reads as it did. -/
def storeAwaySpec : ChangeSpec := { name := "storeAway", fn := fun _ => fun
  | [d1, d2, d3, d4, d5, d6] => { results := [.lit (.bool true)], args := [d1, d2, d3, d4, d5, d6] }
  | _ => none }
def storeAwayRow : OpenClaim := { program := "ytgbcamegidloaaa", sum := "09df03592f0911b44af7331804594fa9448165f9d383c3a5218dbd09e7f4cebb", func := "headstock/headstocklaw11.StoreAway", spec := "storeAway", unfollowed := true, recurses := true, apart := false }
def StoreAwaySaid : Prop := storeAwayRow.holds Try.pinned (OpenSpec.ofChange storeAwaySpec)

/-- ITS FALSE NEIGHBOUR: 'it returns false'. Refute it at one input. -/
def storeAwayWrong : ChangeSpec := { name := "storeAway", fn := fun _ => fun
  | [d1, d2, d3, d4, d5, d6] => { results := [.lit (.bool false)], args := [d1, d2, d3, d4, d5, d6] }
  | _ => none }
def StoreAwayWrongFalsely : Prop := storeAwayRow.holds Try.pinned (OpenSpec.ofChange storeAwayWrong)

/-- 'headstocklaw11.StoreTurns': WHATEVER THE INPUT: true; the input reads as it did. -/
def storeTurnsSpec : ChangeSpec := { name := "storeTurns", fn := fun _ => fun
  | [d1, d2, d3, d4, d5] => { results := [.lit (.bool true)], args := [d1, d2, d3, d4, d5] }
  | _ => none }
def storeTurnsRow : OpenClaim := { program := "ytgbcamegidloaaa", sum := "09df03592f0911b44af7331804594fa9448165f9d383c3a5218dbd09e7f4cebb", func := "headstock/headstocklaw11.StoreTurns", spec := "storeTurns", unfollowed := true, recurses := true, apart := false }
def StoreTurnsSaid : Prop := storeTurnsRow.holds Try.pinned (OpenSpec.ofChange storeTurnsSpec)

/-- ITS FALSE NEIGHBOUR: 'it returns false'. Refute it at one input. -/
def storeTurnsWrong : ChangeSpec := { name := "storeTurns", fn := fun _ => fun
  | [d1, d2, d3, d4, d5] => { results := [.lit (.bool false)], args := [d1, d2, d3, d4, d5] }
  | _ => none }
def StoreTurnsWrongFalsely : Prop := storeTurnsRow.holds Try.pinned (OpenSpec.ofChange storeTurnsWrong)

/-- 'headstocklaw11.StoreReserves': WHATEVER THE INPUT: true; the input reads as it did. -/
def storeReservesSpec : ChangeSpec := { name := "storeReserves", fn := fun _ => fun
  | [d1, d2, d3, d4] => { results := [.lit (.bool true)], args := [d1, d2, d3, d4] }
  | _ => none }
def storeReservesRow : OpenClaim := { program := "ytgbcamegidloaaa", sum := "09df03592f0911b44af7331804594fa9448165f9d383c3a5218dbd09e7f4cebb", func := "headstock/headstocklaw11.StoreReserves", spec := "storeReserves", unfollowed := true, recurses := true, apart := false }
def StoreReservesSaid : Prop := storeReservesRow.holds Try.pinned (OpenSpec.ofChange storeReservesSpec)

/-- ITS FALSE NEIGHBOUR: 'it returns false'. Refute it at one input. -/
def storeReservesWrong : ChangeSpec := { name := "storeReserves", fn := fun _ => fun
  | [d1, d2, d3, d4] => { results := [.lit (.bool false)], args := [d1, d2, d3, d4] }
  | _ => none }
def StoreReservesWrongFalsely : Prop := storeReservesRow.holds Try.pinned (OpenSpec.ofChange storeReservesWrong)

/-- 'headstocklaw11.StoreBusy': WHATEVER THE INPUT: true; the input reads as it did. -/
def storeBusySpec : ChangeSpec := { name := "storeBusy", fn := fun _ => fun
  | [d1, d2, d3, d4, d5, d6] => { results := [.lit (.bool true)], args := [d1, d2, d3, d4, d5, d6] }
  | _ => none }
def storeBusyRow : OpenClaim := { program := "ytgbcamegidloaaa", sum := "09df03592f0911b44af7331804594fa9448165f9d383c3a5218dbd09e7f4cebb", func := "headstock/headstocklaw11.StoreBusy", spec := "storeBusy", unfollowed := true, recurses := true, apart := false }
def StoreBusySaid : Prop := storeBusyRow.holds Try.pinned (OpenSpec.ofChange storeBusySpec)

/-- ITS FALSE NEIGHBOUR: 'it returns false'. Refute it at one input. -/
def storeBusyWrong : ChangeSpec := { name := "storeBusy", fn := fun _ => fun
  | [d1, d2, d3, d4, d5, d6] => { results := [.lit (.bool false)], args := [d1, d2, d3, d4, d5, d6] }
  | _ => none }
def StoreBusyWrongFalsely : Prop := storeBusyRow.holds Try.pinned (OpenSpec.ofChange storeBusyWrong)

/-- 'headstocklaw11.StoreSums': WHATEVER THE INPUT: true; the input reads as it did. -/
def storeSumsSpec : ChangeSpec := { name := "storeSums", fn := fun _ => fun
  | [d] => { results := [.lit (.bool true)], args := [d] }
  | _ => none }
def storeSumsRow : OpenClaim := { program := "ytgbcamegidloaaa", sum := "09df03592f0911b44af7331804594fa9448165f9d383c3a5218dbd09e7f4cebb", func := "headstock/headstocklaw11.StoreSums", spec := "storeSums", unfollowed := true, recurses := true, apart := false }
def StoreSumsSaid : Prop := storeSumsRow.holds Try.pinned (OpenSpec.ofChange storeSumsSpec)

/-- ITS FALSE NEIGHBOUR: 'it returns false'. Refute it at one input. -/
def storeSumsWrong : ChangeSpec := { name := "storeSums", fn := fun _ => fun
  | [d] => { results := [.lit (.bool false)], args := [d] }
  | _ => none }
def StoreSumsWrongFalsely : Prop := storeSumsRow.holds Try.pinned (OpenSpec.ofChange storeSumsWrong)

/- THE SECOND FORM. 'bulk': how many values and letters a reading holds, each counted each time it is reached (what is shared counts as often as it is met; a slice's spare places count too). A statement '..UptoSaid' is the law's where the arguments, and the package variables that the reading takes, are together of bulk at most 1048576: NARROWER than '..Said'. Prove '..Said' where nothing that the law and all that it calls make is longer than what came in: it says more and counts as full. Else prove '..UptoSaid'. A law counts once. -/
mutual
def uptoBulk {H : Type} : DataW H → Nat
  | .lit (.string bytes) => bytes.length + 1
  | .lit _ => 1
  | .nil => 1
  | .ptr d => uptoBulk d + 1
  | .slice elems spare => uptoBulkAll elems + uptoBulkAll spare + 1
  | .agg parts => uptoBulkAll parts + 1
  | .iface _ d => uptoBulk d + 1
  | .map entries => uptoBulkEntries entries + 1
  | .held _ => 1
def uptoBulkAll {H : Type} : List (DataW H) → Nat
  | [] => 0
  | d :: r => uptoBulk d + uptoBulkAll r
def uptoBulkEntries {H : Type} : List (Lit × DataW H) → Nat
  | [] => 0
  | x :: r => uptoBulkEntry x + uptoBulkEntries r
def uptoBulkEntry {H : Type} : Lit × DataW H → Nat
  | (.string bytes, d) => bytes.length + uptoBulk d + 1
  | (_, d) => uptoBulk d + 1
 end
def uptoSmall : (H : Type) → List (DataW H) → Bool := fun _ ds => decide (uptoBulkAll ds ≤ 1048576)
def OpenSpec.upto (s : _root_.Go.ChangeSpec) : _root_.Go.OpenSpec := { _root_.Go.OpenSpec.ofChange s with cond := some uptoSmall }

/-- 'headstocklaw11.StoreTells', WHERE WHAT IT READS IS OF BULK AT MOST 1048576: true; the input reads as it did. -/
def storeTellsUptoRow : OpenClaim := { program := "ytgbcamegidloaaa", sum := "09df03592f0911b44af7331804594fa9448165f9d383c3a5218dbd09e7f4cebb", func := "headstock/headstocklaw11.StoreTells", spec := "storeTells", unfollowed := true, recurses := true, apart := false, narrowed := true }
def StoreTellsUptoSaid : Prop := storeTellsUptoRow.holds Try.pinned (OpenSpec.upto storeTellsSpec)

/-- 'headstocklaw11.StoreOwn', WHERE WHAT IT READS IS OF BULK AT MOST 1048576: true; the input reads as it did. -/
def storeOwnUptoRow : OpenClaim := { program := "ytgbcamegidloaaa", sum := "09df03592f0911b44af7331804594fa9448165f9d383c3a5218dbd09e7f4cebb", func := "headstock/headstocklaw11.StoreOwn", spec := "storeOwn", unfollowed := true, recurses := true, apart := false, narrowed := true }
def StoreOwnUptoSaid : Prop := storeOwnUptoRow.holds Try.pinned (OpenSpec.upto storeOwnSpec)

/-- 'headstocklaw11.StoreAway', WHERE WHAT IT READS IS OF BULK AT MOST 1048576: true; the input reads as it did. -/
def storeAwayUptoRow : OpenClaim := { program := "ytgbcamegidloaaa", sum := "09df03592f0911b44af7331804594fa9448165f9d383c3a5218dbd09e7f4cebb", func := "headstock/headstocklaw11.StoreAway", spec := "storeAway", unfollowed := true, recurses := true, apart := false, narrowed := true }
def StoreAwayUptoSaid : Prop := storeAwayUptoRow.holds Try.pinned (OpenSpec.upto storeAwaySpec)

/-- 'headstocklaw11.StoreTurns', WHERE WHAT IT READS IS OF BULK AT MOST 1048576: true; the input reads as it did. -/
def storeTurnsUptoRow : OpenClaim := { program := "ytgbcamegidloaaa", sum := "09df03592f0911b44af7331804594fa9448165f9d383c3a5218dbd09e7f4cebb", func := "headstock/headstocklaw11.StoreTurns", spec := "storeTurns", unfollowed := true, recurses := true, apart := false, narrowed := true }
def StoreTurnsUptoSaid : Prop := storeTurnsUptoRow.holds Try.pinned (OpenSpec.upto storeTurnsSpec)

/-- 'headstocklaw11.StoreReserves', WHERE WHAT IT READS IS OF BULK AT MOST 1048576: true; the input reads as it did. -/
def storeReservesUptoRow : OpenClaim := { program := "ytgbcamegidloaaa", sum := "09df03592f0911b44af7331804594fa9448165f9d383c3a5218dbd09e7f4cebb", func := "headstock/headstocklaw11.StoreReserves", spec := "storeReserves", unfollowed := true, recurses := true, apart := false, narrowed := true }
def StoreReservesUptoSaid : Prop := storeReservesUptoRow.holds Try.pinned (OpenSpec.upto storeReservesSpec)

/-- 'headstocklaw11.StoreBusy', WHERE WHAT IT READS IS OF BULK AT MOST 1048576: true; the input reads as it did. -/
def storeBusyUptoRow : OpenClaim := { program := "ytgbcamegidloaaa", sum := "09df03592f0911b44af7331804594fa9448165f9d383c3a5218dbd09e7f4cebb", func := "headstock/headstocklaw11.StoreBusy", spec := "storeBusy", unfollowed := true, recurses := true, apart := false, narrowed := true }
def StoreBusyUptoSaid : Prop := storeBusyUptoRow.holds Try.pinned (OpenSpec.upto storeBusySpec)

/-- 'headstocklaw11.StoreSums', WHERE WHAT IT READS IS OF BULK AT MOST 1048576: true; the input reads as it did. -/
def storeSumsUptoRow : OpenClaim := { program := "ytgbcamegidloaaa", sum := "09df03592f0911b44af7331804594fa9448165f9d383c3a5218dbd09e7f4cebb", func := "headstock/headstocklaw11.StoreSums", spec := "storeSums", unfollowed := true, recurses := true, apart := false, narrowed := true }
def StoreSumsUptoSaid : Prop := storeSumsUptoRow.holds Try.pinned (OpenSpec.upto storeSumsSpec)

end Rows
end Go.Proofs.Ytgbcamegidloaaa
