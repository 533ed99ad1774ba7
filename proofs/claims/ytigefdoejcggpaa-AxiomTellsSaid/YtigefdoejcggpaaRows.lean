/-
  No cell of these rows narrows 'for every input' (looked for: loops, veiled, ifaces, maps, wideKeys, modest, calm, conditions, laid).
  DERIVED. THE GIVEN ROWS OF THIS SEAT. 8 by the template 'for every input the law returns true; each argument reads behind the call as it read before'; 0 by the template 'total and deterministic' (their statements: YtigefdoejcggpaaTotals.lean).
  GIVEN WITH THE SEED: the statements are not yours to turn. If you find one false, say at which input.
  Laid BY PROGRAM, IN A SANDBOX (cutbox-rows.mjs): the forced cells as the released guide's own fill.sh prints them over the translation 14ddc7935f4c2e32… (all of the seat's roots in one cut). By AI agents, Wed Nov 11 2026. No macro, syntax, notation, axiom, sorry.
-/
import Derived.Test.YtigefdoejcggpaaChecked
import GoSem.Claim
import GoSem.ClaimJoined
import GoSem.ClaimMapViews
import Derived.JoinedTies
import Derived.KernelRfl
namespace Go.Proofs.Ytigefdoejcggpaa
/- THE CELL 'sum', in the pinned program and in every row, IS THE sha256 OF THE DUMP (.gsa) THAT YtigefdoejcggpaaProg.lean LOADS. Nothing in Lean hashes anything: it is a label: what it is worth is what the hold of that sum in a sandbox is worth. -/
noncomputable def Try.pinned : Pinned := { name := "ytigefdoejcggpaa", sum := "14ddc7935f4c2e32f745b1d169a94548e53f5d16771aab1170388d30593c0648", checked := Try.checked }
namespace Rows
def none {H : Type} : Left H := { results := [], args := [] }

/-- 'headstocklaw12.AxiomTells': WHATEVER THE INPUT: true; the input reads as it did. -/
def axiomTellsSpec : ChangeSpec := { name := "axiomTells", fn := fun _ => fun
  | [d1, d2, d3, d4, d5, d6, d7] => { results := [.lit (.bool true)], args := [d1, d2, d3, d4, d5, d6, d7] }
  | _ => none }
def axiomTellsRow : OpenClaim := { program := "ytigefdoejcggpaa", sum := "14ddc7935f4c2e32f745b1d169a94548e53f5d16771aab1170388d30593c0648", func := "headstock/headstocklaw12.AxiomTells", spec := "axiomTells", unfollowed := true, recurses := true, plainKeys := false, apart := false }
def AxiomTellsSaid : Prop := axiomTellsRow.holds Try.pinned (OpenSpec.ofChange axiomTellsSpec)

/-- ITS FALSE NEIGHBOUR: 'it returns false'. Refute it at one input. -/
def axiomTellsWrong : ChangeSpec := { name := "axiomTells", fn := fun _ => fun
  | [d1, d2, d3, d4, d5, d6, d7] => { results := [.lit (.bool false)], args := [d1, d2, d3, d4, d5, d6, d7] }
  | _ => none }
def AxiomTellsWrongFalsely : Prop := axiomTellsRow.holds Try.pinned (OpenSpec.ofChange axiomTellsWrong)

/-- 'headstocklaw12.AxiomMakes': WHATEVER THE INPUT: true; the input reads as it did. -/
def axiomMakesSpec : ChangeSpec := { name := "axiomMakes", fn := fun _ => fun
  | [d1, d2] => { results := [.lit (.bool true)], args := [d1, d2] }
  | _ => none }
def axiomMakesRow : OpenClaim := { program := "ytigefdoejcggpaa", sum := "14ddc7935f4c2e32f745b1d169a94548e53f5d16771aab1170388d30593c0648", func := "headstock/headstocklaw12.AxiomMakes", spec := "axiomMakes", unfollowed := true, recurses := true, plainKeys := false, apart := false }
def AxiomMakesSaid : Prop := axiomMakesRow.holds Try.pinned (OpenSpec.ofChange axiomMakesSpec)

/-- ITS FALSE NEIGHBOUR: 'it returns false'. Refute it at one input. -/
def axiomMakesWrong : ChangeSpec := { name := "axiomMakes", fn := fun _ => fun
  | [d1, d2] => { results := [.lit (.bool false)], args := [d1, d2] }
  | _ => none }
def AxiomMakesWrongFalsely : Prop := axiomMakesRow.holds Try.pinned (OpenSpec.ofChange axiomMakesWrong)

/-- 'headstocklaw12.AxiomPlays': WHATEVER THE INPUT: true; the input reads as it did. -/
def axiomPlaysSpec : ChangeSpec := { name := "axiomPlays", fn := fun _ => fun
  | [d] => { results := [.lit (.bool true)], args := [d] }
  | _ => none }
def axiomPlaysRow : OpenClaim := { program := "ytigefdoejcggpaa", sum := "14ddc7935f4c2e32f745b1d169a94548e53f5d16771aab1170388d30593c0648", func := "headstock/headstocklaw12.AxiomPlays", spec := "axiomPlays", unfollowed := true, recurses := true, plainKeys := false, apart := false }
def AxiomPlaysSaid : Prop := axiomPlaysRow.holds Try.pinned (OpenSpec.ofChange axiomPlaysSpec)

/-- ITS FALSE NEIGHBOUR: 'it returns false'. Refute it at one input. -/
def axiomPlaysWrong : ChangeSpec := { name := "axiomPlays", fn := fun _ => fun
  | [d] => { results := [.lit (.bool false)], args := [d] }
  | _ => none }
def AxiomPlaysWrongFalsely : Prop := axiomPlaysRow.holds Try.pinned (OpenSpec.ofChange axiomPlaysWrong)

/-- 'headstocklaw12.AxiomFences': WHATEVER THE INPUT: true; the input reads as it did. -/
def axiomFencesSpec : ChangeSpec := { name := "axiomFences", fn := fun _ => fun
  | [d1, d2, d3] => { results := [.lit (.bool true)], args := [d1, d2, d3] }
  | _ => none }
def axiomFencesRow : OpenClaim := { program := "ytigefdoejcggpaa", sum := "14ddc7935f4c2e32f745b1d169a94548e53f5d16771aab1170388d30593c0648", func := "headstock/headstocklaw12.AxiomFences", spec := "axiomFences", unfollowed := true, recurses := true, plainKeys := false, apart := false }
def AxiomFencesSaid : Prop := axiomFencesRow.holds Try.pinned (OpenSpec.ofChange axiomFencesSpec)

/-- ITS FALSE NEIGHBOUR: 'it returns false'. Refute it at one input. -/
def axiomFencesWrong : ChangeSpec := { name := "axiomFences", fn := fun _ => fun
  | [d1, d2, d3] => { results := [.lit (.bool false)], args := [d1, d2, d3] }
  | _ => none }
def AxiomFencesWrongFalsely : Prop := axiomFencesRow.holds Try.pinned (OpenSpec.ofChange axiomFencesWrong)

/-- 'headstocklaw12.AxiomAlone': WHATEVER THE INPUT: true; the input reads as it did. -/
def axiomAloneSpec : ChangeSpec := { name := "axiomAlone", fn := fun _ => fun
  | [d1, d2] => { results := [.lit (.bool true)], args := [d1, d2] }
  | _ => none }
def axiomAloneRow : OpenClaim := { program := "ytigefdoejcggpaa", sum := "14ddc7935f4c2e32f745b1d169a94548e53f5d16771aab1170388d30593c0648", func := "headstock/headstocklaw12.AxiomAlone", spec := "axiomAlone", unfollowed := true, recurses := true, plainKeys := false, apart := false }
def AxiomAloneSaid : Prop := axiomAloneRow.holds Try.pinned (OpenSpec.ofChange axiomAloneSpec)

/-- ITS FALSE NEIGHBOUR: 'it returns false'. Refute it at one input. -/
def axiomAloneWrong : ChangeSpec := { name := "axiomAlone", fn := fun _ => fun
  | [d1, d2] => { results := [.lit (.bool false)], args := [d1, d2] }
  | _ => none }
def AxiomAloneWrongFalsely : Prop := axiomAloneRow.holds Try.pinned (OpenSpec.ofChange axiomAloneWrong)

/-- 'headstocklaw12.AxiomTurned': WHATEVER THE INPUT: true; the input reads as it did. -/
def axiomTurnedSpec : ChangeSpec := { name := "axiomTurned", fn := fun _ => fun
  | [d1, d2, d3] => { results := [.lit (.bool true)], args := [d1, d2, d3] }
  | _ => none }
def axiomTurnedRow : OpenClaim := { program := "ytigefdoejcggpaa", sum := "14ddc7935f4c2e32f745b1d169a94548e53f5d16771aab1170388d30593c0648", func := "headstock/headstocklaw12.AxiomTurned", spec := "axiomTurned", unfollowed := true, recurses := true, plainKeys := false, apart := false }
def AxiomTurnedSaid : Prop := axiomTurnedRow.holds Try.pinned (OpenSpec.ofChange axiomTurnedSpec)

/-- ITS FALSE NEIGHBOUR: 'it returns false'. Refute it at one input. -/
def axiomTurnedWrong : ChangeSpec := { name := "axiomTurned", fn := fun _ => fun
  | [d1, d2, d3] => { results := [.lit (.bool false)], args := [d1, d2, d3] }
  | _ => none }
def AxiomTurnedWrongFalsely : Prop := axiomTurnedRow.holds Try.pinned (OpenSpec.ofChange axiomTurnedWrong)

/-- 'headstocklaw12.AxiomLess': WHATEVER THE INPUT: true; the input reads as it did. -/
def axiomLessSpec : ChangeSpec := { name := "axiomLess", fn := fun _ => fun
  | [d1, d2] => { results := [.lit (.bool true)], args := [d1, d2] }
  | _ => none }
def axiomLessRow : OpenClaim := { program := "ytigefdoejcggpaa", sum := "14ddc7935f4c2e32f745b1d169a94548e53f5d16771aab1170388d30593c0648", func := "headstock/headstocklaw12.AxiomLess", spec := "axiomLess", unfollowed := true, recurses := true, plainKeys := false, apart := false }
def AxiomLessSaid : Prop := axiomLessRow.holds Try.pinned (OpenSpec.ofChange axiomLessSpec)

/-- ITS FALSE NEIGHBOUR: 'it returns false'. Refute it at one input. -/
def axiomLessWrong : ChangeSpec := { name := "axiomLess", fn := fun _ => fun
  | [d1, d2] => { results := [.lit (.bool false)], args := [d1, d2] }
  | _ => none }
def AxiomLessWrongFalsely : Prop := axiomLessRow.holds Try.pinned (OpenSpec.ofChange axiomLessWrong)

/-- 'headstocklaw12.AxiomReads': WHATEVER THE INPUT: true; the input reads as it did. -/
def axiomReadsSpec : ChangeSpec := { name := "axiomReads", fn := fun _ => fun
  | [d1, d2, d3, d4] => { results := [.lit (.bool true)], args := [d1, d2, d3, d4] }
  | _ => none }
def axiomReadsRow : OpenClaim := { program := "ytigefdoejcggpaa", sum := "14ddc7935f4c2e32f745b1d169a94548e53f5d16771aab1170388d30593c0648", func := "headstock/headstocklaw12.AxiomReads", spec := "axiomReads", unfollowed := true, recurses := true, plainKeys := false, apart := false }
def AxiomReadsSaid : Prop := axiomReadsRow.holds Try.pinned (OpenSpec.ofChange axiomReadsSpec)

/-- ITS FALSE NEIGHBOUR: 'it returns false'. Refute it at one input. -/
def axiomReadsWrong : ChangeSpec := { name := "axiomReads", fn := fun _ => fun
  | [d1, d2, d3, d4] => { results := [.lit (.bool false)], args := [d1, d2, d3, d4] }
  | _ => none }
def AxiomReadsWrongFalsely : Prop := axiomReadsRow.holds Try.pinned (OpenSpec.ofChange axiomReadsWrong)

/- THE SECOND FORM. 'bulk': how many values and letters a reading holds, each counted each time it is reached (what is shared counts as often as it is met; a slice's spare places count too). A statement '..UptoSaid' is the law's where the arguments, and the package variables that the reading takes, are together of bulk at most 1048576: NARROWER than '..Said'. Prove '..Said' where nothing that the law and all that it calls make is longer than what came in: it says more and counts as full. Else prove '..UptoSaid'. A law counts once. -/
mutual
def uptoBulk {H : Type} : DataW H → Nat
  | .lit (.string bytes) => bytes.length + 1
  | .lit _ => 1
  | .nil => 1
  | .ptr d => uptoBulk d + 1
  | .slice elems spare => uptoBulkAll elems + uptoBulkAll spare + 1
  | .agg parts => uptoBulkAll parts + 1
  | .iface _ d => uptoBulk d + 1
  | .map entries => uptoBulkEntries entries + 1
  | .held _ => 1
def uptoBulkAll {H : Type} : List (DataW H) → Nat
  | [] => 0
  | d :: r => uptoBulk d + uptoBulkAll r
def uptoBulkEntries {H : Type} : List (Lit × DataW H) → Nat
  | [] => 0
  | x :: r => uptoBulkEntry x + uptoBulkEntries r
def uptoBulkEntry {H : Type} : Lit × DataW H → Nat
  | (.string bytes, d) => bytes.length + uptoBulk d + 1
  | (_, d) => uptoBulk d + 1
 end
def uptoSmall : (H : Type) → List (DataW H) → Bool := fun _ ds => decide (uptoBulkAll ds ≤ 1048576)
def OpenSpec.upto (s : _root_.Go.ChangeSpec) : _root_.Go.OpenSpec := { _root_.Go.OpenSpec.ofChange s with cond := some uptoSmall }

/-- 'headstocklaw12.AxiomTells', WHERE WHAT IT READS IS OF BULK AT MOST 1048576: true; the input reads as it did. -/
def axiomTellsUptoRow : OpenClaim := { program := "ytigefdoejcggpaa", sum := "14ddc7935f4c2e32f745b1d169a94548e53f5d16771aab1170388d30593c0648", func := "headstock/headstocklaw12.AxiomTells", spec := "axiomTells", unfollowed := true, recurses := true, plainKeys := false, apart := false, narrowed := true }
def AxiomTellsUptoSaid : Prop := axiomTellsUptoRow.holds Try.pinned (OpenSpec.upto axiomTellsSpec)

/-- 'headstocklaw12.AxiomMakes', WHERE WHAT IT READS IS OF BULK AT MOST 1048576: true; the input reads as it did. -/
def axiomMakesUptoRow : OpenClaim := { program := "ytigefdoejcggpaa", sum := "14ddc7935f4c2e32f745b1d169a94548e53f5d16771aab1170388d30593c0648", func := "headstock/headstocklaw12.AxiomMakes", spec := "axiomMakes", unfollowed := true, recurses := true, plainKeys := false, apart := false, narrowed := true }
def AxiomMakesUptoSaid : Prop := axiomMakesUptoRow.holds Try.pinned (OpenSpec.upto axiomMakesSpec)

/-- 'headstocklaw12.AxiomPlays', WHERE WHAT IT READS IS OF BULK AT MOST 1048576: true; the input reads as it did. -/
def axiomPlaysUptoRow : OpenClaim := { program := "ytigefdoejcggpaa", sum := "14ddc7935f4c2e32f745b1d169a94548e53f5d16771aab1170388d30593c0648", func := "headstock/headstocklaw12.AxiomPlays", spec := "axiomPlays", unfollowed := true, recurses := true, plainKeys := false, apart := false, narrowed := true }
def AxiomPlaysUptoSaid : Prop := axiomPlaysUptoRow.holds Try.pinned (OpenSpec.upto axiomPlaysSpec)

/-- 'headstocklaw12.AxiomFences', WHERE WHAT IT READS IS OF BULK AT MOST 1048576: true; the input reads as it did. -/
def axiomFencesUptoRow : OpenClaim := { program := "ytigefdoejcggpaa", sum := "14ddc7935f4c2e32f745b1d169a94548e53f5d16771aab1170388d30593c0648", func := "headstock/headstocklaw12.AxiomFences", spec := "axiomFences", unfollowed := true, recurses := true, plainKeys := false, apart := false, narrowed := true }
def AxiomFencesUptoSaid : Prop := axiomFencesUptoRow.holds Try.pinned (OpenSpec.upto axiomFencesSpec)

/-- 'headstocklaw12.AxiomAlone', WHERE WHAT IT READS IS OF BULK AT MOST 1048576: true; the input reads as it did. -/
def axiomAloneUptoRow : OpenClaim := { program := "ytigefdoejcggpaa", sum := "14ddc7935f4c2e32f745b1d169a94548e53f5d16771aab1170388d30593c0648", func := "headstock/headstocklaw12.AxiomAlone", spec := "axiomAlone", unfollowed := true, recurses := true, plainKeys := false, apart := false, narrowed := true }
def AxiomAloneUptoSaid : Prop := axiomAloneUptoRow.holds Try.pinned (OpenSpec.upto axiomAloneSpec)

/-- 'headstocklaw12.AxiomTurned', WHERE WHAT IT READS IS OF BULK AT MOST 1048576: true; the input reads as it did. -/
def axiomTurnedUptoRow : OpenClaim := { program := "ytigefdoejcggpaa", sum := "14ddc7935f4c2e32f745b1d169a94548e53f5d16771aab1170388d30593c0648", func := "headstock/headstocklaw12.AxiomTurned", spec := "axiomTurned", unfollowed := true, recurses := true, plainKeys := false, apart := false, narrowed := true }
def AxiomTurnedUptoSaid : Prop := axiomTurnedUptoRow.holds Try.pinned (OpenSpec.upto axiomTurnedSpec)

/-- 'headstocklaw12.AxiomLess', WHERE WHAT IT READS IS OF BULK AT MOST 1048576: true; the input reads as it did. -/
def axiomLessUptoRow : OpenClaim := { program := "ytigefdoejcggpaa", sum := "14ddc7935f4c2e32f745b1d169a94548e53f5d16771aab1170388d30593c0648", func := "headstock/headstocklaw12.AxiomLess", spec := "axiomLess", unfollowed := true, recurses := true, plainKeys := false, apart := false, narrowed := true }
def AxiomLessUptoSaid : Prop := axiomLessUptoRow.holds Try.pinned (OpenSpec.upto axiomLessSpec)

/-- 'headstocklaw12.AxiomReads', WHERE WHAT IT READS IS OF BULK AT MOST 1048576: true; the input reads as it did. -/
def axiomReadsUptoRow : OpenClaim := { program := "ytigefdoejcggpaa", sum := "14ddc7935f4c2e32f745b1d169a94548e53f5d16771aab1170388d30593c0648", func := "headstock/headstocklaw12.AxiomReads", spec := "axiomReads", unfollowed := true, recurses := true, plainKeys := false, apart := false, narrowed := true }
def AxiomReadsUptoSaid : Prop := axiomReadsUptoRow.holds Try.pinned (OpenSpec.upto axiomReadsSpec)

end Rows
end Go.Proofs.Ytigefdoejcggpaa
