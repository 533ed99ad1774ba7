/-
  No cell of these rows narrows 'for every input' (looked for: loops, veiled, ifaces, maps, wideKeys, modest, calm, conditions, laid).
  DERIVED. THE GIVEN ROWS OF THIS SEAT. 7 by the template 'for every input the law returns true; each argument reads behind the call as it read before'; 0 by the template 'total and deterministic' (their statements: YtbhpnoodpicdkaaTotals.lean).
  GIVEN WITH THE SEED: the statements are not yours to turn. If you find one false, say at which input.
  Laid BY PROGRAM, IN A SANDBOX (cutbox-rows.mjs): the forced cells as the released guide's own fill.sh prints them over the translation 07a4955ea9701bbf… (all of the seat's roots in one cut). By AI agents, Wed Nov 11 2026. No macro, syntax, notation, axiom, sorry.
-/
import Derived.Test.YtbhpnoodpicdkaaChecked
import GoSem.Claim
import GoSem.ClaimJoined
import GoSem.ClaimMapViews
import Derived.JoinedTies
import Derived.KernelRfl
namespace Go.Proofs.Ytbhpnoodpicdkaa
/- THE CELL 'sum', in the pinned program and in every row, IS THE sha256 OF THE DUMP (.gsa) THAT YtbhpnoodpicdkaaProg.lean LOADS. Nothing in Lean hashes anything: it is a label: what it is worth is what the hold of that sum in a sandbox is worth. -/
noncomputable def Try.pinned : Pinned := { name := "ytbhpnoodpicdkaa", sum := "07a4955ea9701bbf94a2d3738c4b8d6b687bb810d9f9ff9f385d371345b24e7c", checked := Try.checked }
namespace Rows
def none {H : Type} : Left H := { results := [], args := [] }

/-- 'headstocklaw10.DeviceKeeps': WHATEVER THE INPUT: true; the input reads as it did. -/
def deviceKeepsSpec : ChangeSpec := { name := "deviceKeeps", fn := fun _ => fun
  | [d1, d2, d3, d4] => { results := [.lit (.bool true)], args := [d1, d2, d3, d4] }
  | _ => none }
def deviceKeepsRow : OpenClaim := { program := "ytbhpnoodpicdkaa", sum := "07a4955ea9701bbf94a2d3738c4b8d6b687bb810d9f9ff9f385d371345b24e7c", func := "headstock/headstocklaw10.DeviceKeeps", spec := "deviceKeeps", unfollowed := true, recurses := true, apart := false }
def DeviceKeepsSaid : Prop := deviceKeepsRow.holds Try.pinned (OpenSpec.ofChange deviceKeepsSpec)

/-- ITS FALSE NEIGHBOUR: 'it returns false'. Refute it at one input. -/
def deviceKeepsWrong : ChangeSpec := { name := "deviceKeeps", fn := fun _ => fun
  | [d1, d2, d3, d4] => { results := [.lit (.bool false)], args := [d1, d2, d3, d4] }
  | _ => none }
def DeviceKeepsWrongFalsely : Prop := deviceKeepsRow.holds Try.pinned (OpenSpec.ofChange deviceKeepsWrong)

/-- 'headstocklaw10.DeviceOrder': WHATEVER THE INPUT: true; the input reads as it did. -/
def deviceOrderSpec : ChangeSpec := { name := "deviceOrder", fn := fun _ => fun
  | [d1, d2] => { results := [.lit (.bool true)], args := [d1, d2] }
  | _ => none }
def deviceOrderRow : OpenClaim := { program := "ytbhpnoodpicdkaa", sum := "07a4955ea9701bbf94a2d3738c4b8d6b687bb810d9f9ff9f385d371345b24e7c", func := "headstock/headstocklaw10.DeviceOrder", spec := "deviceOrder", unfollowed := true, recurses := true, apart := false }
def DeviceOrderSaid : Prop := deviceOrderRow.holds Try.pinned (OpenSpec.ofChange deviceOrderSpec)

/-- ITS FALSE NEIGHBOUR: 'it returns false'. Refute it at one input. -/
def deviceOrderWrong : ChangeSpec := { name := "deviceOrder", fn := fun _ => fun
  | [d1, d2] => { results := [.lit (.bool false)], args := [d1, d2] }
  | _ => none }
def DeviceOrderWrongFalsely : Prop := deviceOrderRow.holds Try.pinned (OpenSpec.ofChange deviceOrderWrong)

/-- 'headstocklaw10.DeviceLooks': WHATEVER THE INPUT: true; the input reads as it did. -/
def deviceLooksSpec : ChangeSpec := { name := "deviceLooks", fn := fun _ => fun
  | [d1, d2, d3] => { results := [.lit (.bool true)], args := [d1, d2, d3] }
  | _ => none }
def deviceLooksRow : OpenClaim := { program := "ytbhpnoodpicdkaa", sum := "07a4955ea9701bbf94a2d3738c4b8d6b687bb810d9f9ff9f385d371345b24e7c", func := "headstock/headstocklaw10.DeviceLooks", spec := "deviceLooks", unfollowed := true, recurses := true, apart := false }
def DeviceLooksSaid : Prop := deviceLooksRow.holds Try.pinned (OpenSpec.ofChange deviceLooksSpec)

/-- ITS FALSE NEIGHBOUR: 'it returns false'. Refute it at one input. -/
def deviceLooksWrong : ChangeSpec := { name := "deviceLooks", fn := fun _ => fun
  | [d1, d2, d3] => { results := [.lit (.bool false)], args := [d1, d2, d3] }
  | _ => none }
def DeviceLooksWrongFalsely : Prop := deviceLooksRow.holds Try.pinned (OpenSpec.ofChange deviceLooksWrong)

/-- 'headstocklaw10.DeviceTimes': WHATEVER THE INPUT: true; the input reads as it did. -/
def deviceTimesSpec : ChangeSpec := { name := "deviceTimes", fn := fun _ => fun
  | [d1, d2, d3] => { results := [.lit (.bool true)], args := [d1, d2, d3] }
  | _ => none }
def deviceTimesRow : OpenClaim := { program := "ytbhpnoodpicdkaa", sum := "07a4955ea9701bbf94a2d3738c4b8d6b687bb810d9f9ff9f385d371345b24e7c", func := "headstock/headstocklaw10.DeviceTimes", spec := "deviceTimes", unfollowed := true, recurses := true, apart := false }
def DeviceTimesSaid : Prop := deviceTimesRow.holds Try.pinned (OpenSpec.ofChange deviceTimesSpec)

/-- ITS FALSE NEIGHBOUR: 'it returns false'. Refute it at one input. -/
def deviceTimesWrong : ChangeSpec := { name := "deviceTimes", fn := fun _ => fun
  | [d1, d2, d3] => { results := [.lit (.bool false)], args := [d1, d2, d3] }
  | _ => none }
def DeviceTimesWrongFalsely : Prop := deviceTimesRow.holds Try.pinned (OpenSpec.ofChange deviceTimesWrong)

/-- 'headstocklaw10.DeviceChanges': WHATEVER THE INPUT: true; the input reads as it did. -/
def deviceChangesSpec : ChangeSpec := { name := "deviceChanges", fn := fun _ => fun
  | [d1, d2] => { results := [.lit (.bool true)], args := [d1, d2] }
  | _ => none }
def deviceChangesRow : OpenClaim := { program := "ytbhpnoodpicdkaa", sum := "07a4955ea9701bbf94a2d3738c4b8d6b687bb810d9f9ff9f385d371345b24e7c", func := "headstock/headstocklaw10.DeviceChanges", spec := "deviceChanges", unfollowed := true, recurses := true, apart := false }
def DeviceChangesSaid : Prop := deviceChangesRow.holds Try.pinned (OpenSpec.ofChange deviceChangesSpec)

/-- ITS FALSE NEIGHBOUR: 'it returns false'. Refute it at one input. -/
def deviceChangesWrong : ChangeSpec := { name := "deviceChanges", fn := fun _ => fun
  | [d1, d2] => { results := [.lit (.bool false)], args := [d1, d2] }
  | _ => none }
def DeviceChangesWrongFalsely : Prop := deviceChangesRow.holds Try.pinned (OpenSpec.ofChange deviceChangesWrong)

/-- 'headstocklaw10.DeviceCounts': WHATEVER THE INPUT: true; the input reads as it did. -/
def deviceCountsSpec : ChangeSpec := { name := "deviceCounts", fn := fun _ => fun
  | [d] => { results := [.lit (.bool true)], args := [d] }
  | _ => none }
def deviceCountsRow : OpenClaim := { program := "ytbhpnoodpicdkaa", sum := "07a4955ea9701bbf94a2d3738c4b8d6b687bb810d9f9ff9f385d371345b24e7c", func := "headstock/headstocklaw10.DeviceCounts", spec := "deviceCounts", unfollowed := true, recurses := true, apart := false }
def DeviceCountsSaid : Prop := deviceCountsRow.holds Try.pinned (OpenSpec.ofChange deviceCountsSpec)

/-- ITS FALSE NEIGHBOUR: 'it returns false'. Refute it at one input. -/
def deviceCountsWrong : ChangeSpec := { name := "deviceCounts", fn := fun _ => fun
  | [d] => { results := [.lit (.bool false)], args := [d] }
  | _ => none }
def DeviceCountsWrongFalsely : Prop := deviceCountsRow.holds Try.pinned (OpenSpec.ofChange deviceCountsWrong)

/-- 'headstocklaw10.DeviceAlike': WHATEVER THE INPUT: true; the input reads as it did. -/
def deviceAlikeSpec : ChangeSpec := { name := "deviceAlike", fn := fun _ => fun
  | [d1, d2, d3] => { results := [.lit (.bool true)], args := [d1, d2, d3] }
  | _ => none }
def deviceAlikeRow : OpenClaim := { program := "ytbhpnoodpicdkaa", sum := "07a4955ea9701bbf94a2d3738c4b8d6b687bb810d9f9ff9f385d371345b24e7c", func := "headstock/headstocklaw10.DeviceAlike", spec := "deviceAlike", unfollowed := true, recurses := true, apart := false }
def DeviceAlikeSaid : Prop := deviceAlikeRow.holds Try.pinned (OpenSpec.ofChange deviceAlikeSpec)

/-- ITS FALSE NEIGHBOUR: 'it returns false'. Refute it at one input. -/
def deviceAlikeWrong : ChangeSpec := { name := "deviceAlike", fn := fun _ => fun
  | [d1, d2, d3] => { results := [.lit (.bool false)], args := [d1, d2, d3] }
  | _ => none }
def DeviceAlikeWrongFalsely : Prop := deviceAlikeRow.holds Try.pinned (OpenSpec.ofChange deviceAlikeWrong)

/- THE SECOND FORM. 'bulk': how many values and letters a reading holds, each counted each time it is reached (what is shared counts as often as it is met; a slice's spare places count too). A statement '..UptoSaid' is the law's where the arguments, and the package variables that the reading takes, are together of bulk at most 1048576: NARROWER than '..Said'. Prove '..Said' where nothing that the law and all that it calls make is longer than what came in: it says more and counts as full. Else prove '..UptoSaid'. A law counts once. -/
mutual
def uptoBulk {H : Type} : DataW H → Nat
  | .lit (.string bytes) => bytes.length + 1
  | .lit _ => 1
  | .nil => 1
  | .ptr d => uptoBulk d + 1
  | .slice elems spare => uptoBulkAll elems + uptoBulkAll spare + 1
  | .agg parts => uptoBulkAll parts + 1
  | .iface _ d => uptoBulk d + 1
  | .map entries => uptoBulkEntries entries + 1
  | .held _ => 1
def uptoBulkAll {H : Type} : List (DataW H) → Nat
  | [] => 0
  | d :: r => uptoBulk d + uptoBulkAll r
def uptoBulkEntries {H : Type} : List (Lit × DataW H) → Nat
  | [] => 0
  | x :: r => uptoBulkEntry x + uptoBulkEntries r
def uptoBulkEntry {H : Type} : Lit × DataW H → Nat
  | (.string bytes, d) => bytes.length + uptoBulk d + 1
  | (_, d) => uptoBulk d + 1
 end
def uptoSmall : (H : Type) → List (DataW H) → Bool := fun _ ds => decide (uptoBulkAll ds ≤ 1048576)
def OpenSpec.upto (s : _root_.Go.ChangeSpec) : _root_.Go.OpenSpec := { _root_.Go.OpenSpec.ofChange s with cond := some uptoSmall }

/-- 'headstocklaw10.DeviceKeeps', WHERE WHAT IT READS IS OF BULK AT MOST 1048576: true; the input reads as it did. -/
def deviceKeepsUptoRow : OpenClaim := { program := "ytbhpnoodpicdkaa", sum := "07a4955ea9701bbf94a2d3738c4b8d6b687bb810d9f9ff9f385d371345b24e7c", func := "headstock/headstocklaw10.DeviceKeeps", spec := "deviceKeeps", unfollowed := true, recurses := true, apart := false, narrowed := true }
def DeviceKeepsUptoSaid : Prop := deviceKeepsUptoRow.holds Try.pinned (OpenSpec.upto deviceKeepsSpec)

/-- 'headstocklaw10.DeviceOrder', WHERE WHAT IT READS IS OF BULK AT MOST 1048576: true; the input reads as it did. -/
def deviceOrderUptoRow : OpenClaim := { program := "ytbhpnoodpicdkaa", sum := "07a4955ea9701bbf94a2d3738c4b8d6b687bb810d9f9ff9f385d371345b24e7c", func := "headstock/headstocklaw10.DeviceOrder", spec := "deviceOrder", unfollowed := true, recurses := true, apart := false, narrowed := true }
def DeviceOrderUptoSaid : Prop := deviceOrderUptoRow.holds Try.pinned (OpenSpec.upto deviceOrderSpec)

/-- 'headstocklaw10.DeviceLooks', WHERE WHAT IT READS IS OF BULK AT MOST 1048576: true; the input reads as it did. -/
def deviceLooksUptoRow : OpenClaim := { program := "ytbhpnoodpicdkaa", sum := "07a4955ea9701bbf94a2d3738c4b8d6b687bb810d9f9ff9f385d371345b24e7c", func := "headstock/headstocklaw10.DeviceLooks", spec := "deviceLooks", unfollowed := true, recurses := true, apart := false, narrowed := true }
def DeviceLooksUptoSaid : Prop := deviceLooksUptoRow.holds Try.pinned (OpenSpec.upto deviceLooksSpec)

/-- 'headstocklaw10.DeviceTimes', WHERE WHAT IT READS IS OF BULK AT MOST 1048576: true; the input reads as it did. -/
def deviceTimesUptoRow : OpenClaim := { program := "ytbhpnoodpicdkaa", sum := "07a4955ea9701bbf94a2d3738c4b8d6b687bb810d9f9ff9f385d371345b24e7c", func := "headstock/headstocklaw10.DeviceTimes", spec := "deviceTimes", unfollowed := true, recurses := true, apart := false, narrowed := true }
def DeviceTimesUptoSaid : Prop := deviceTimesUptoRow.holds Try.pinned (OpenSpec.upto deviceTimesSpec)

/-- 'headstocklaw10.DeviceChanges', WHERE WHAT IT READS IS OF BULK AT MOST 1048576: true; the input reads as it did. -/
def deviceChangesUptoRow : OpenClaim := { program := "ytbhpnoodpicdkaa", sum := "07a4955ea9701bbf94a2d3738c4b8d6b687bb810d9f9ff9f385d371345b24e7c", func := "headstock/headstocklaw10.DeviceChanges", spec := "deviceChanges", unfollowed := true, recurses := true, apart := false, narrowed := true }
def DeviceChangesUptoSaid : Prop := deviceChangesUptoRow.holds Try.pinned (OpenSpec.upto deviceChangesSpec)

/-- 'headstocklaw10.DeviceCounts', WHERE WHAT IT READS IS OF BULK AT MOST 1048576: true; the input reads as it did. -/
def deviceCountsUptoRow : OpenClaim := { program := "ytbhpnoodpicdkaa", sum := "07a4955ea9701bbf94a2d3738c4b8d6b687bb810d9f9ff9f385d371345b24e7c", func := "headstock/headstocklaw10.DeviceCounts", spec := "deviceCounts", unfollowed := true, recurses := true, apart := false, narrowed := true }
def DeviceCountsUptoSaid : Prop := deviceCountsUptoRow.holds Try.pinned (OpenSpec.upto deviceCountsSpec)

/-- 'headstocklaw10.DeviceAlike', WHERE WHAT IT READS IS OF BULK AT MOST 1048576: true; the input reads as it did. -/
def deviceAlikeUptoRow : OpenClaim := { program := "ytbhpnoodpicdkaa", sum := "07a4955ea9701bbf94a2d3738c4b8d6b687bb810d9f9ff9f385d371345b24e7c", func := "headstock/headstocklaw10.DeviceAlike", spec := "deviceAlike", unfollowed := true, recurses := true, apart := false, narrowed := true }
def DeviceAlikeUptoSaid : Prop := deviceAlikeUptoRow.holds Try.pinned (OpenSpec.upto deviceAlikeSpec)

end Rows
end Go.Proofs.Ytbhpnoodpicdkaa
