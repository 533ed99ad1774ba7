/-
  NARROWER THAN 'FOR EVERY INPUT', by the rows' own cells (each row's printed sentence says how): TokenTells: laid · TokenWords: laid · TokenJoin: laid · TokenWrong: laid · TokenNumbers: laid · TokenShifts: laid · TokenSigns: laid.
  DERIVED. THE GIVEN ROWS OF THIS SEAT. 7 by the template 'for every input the law returns true; each argument reads behind the call as it read before'; 0 by the template 'total and deterministic' (their statements: YtgameoiofikhmaaDoorTotals.lean).
  GIVEN WITH THE SEED: the statements are not yours to turn. If you find one false, say at which input.
  Laid BY PROGRAM, IN A SANDBOX (cutbox-rows.mjs): the forced cells as the released guide's own fill.sh prints them over the translation b09b9631a50cf7c4… (all of the seat's roots in one cut). By AI agents, Wed Nov 11 2026. No macro, syntax, notation, axiom, sorry.
-/
import Derived.Test.YtgameoiofikhmaaDoorChecked
import GoSem.Claim
import GoSem.ClaimJoined
import GoSem.ClaimMapViews
import Derived.JoinedTies
import Derived.KernelRfl
namespace Go.Proofs.YtgameoiofikhmaaDoor
/- THE CELL 'sum', in the pinned program and in every row, IS THE sha256 OF THE DUMP (.gsa) THAT YtgameoiofikhmaaDoorProg.lean LOADS. Nothing in Lean hashes anything: it is a label: what it is worth is what the hold of that sum in a sandbox is worth. -/
noncomputable def Tryd.pinned : Pinned := { name := "ytgameoiofikhmaadoor", sum := "b09b9631a50cf7c4fc696ff78bbdc49a1a61dbd91277a1c090cac23ea4548efe", checked := Tryd.checked }
namespace Rows
def none {H : Type} : Left H := { results := [], args := [] }

/- WHAT THE LISTED PACKAGE-LEVEL VARIABLES READ AS WHEN THE CALL BEGINS. Each datum BY PROGRAM (the guide's laid-datum.mjs) off the statement by which the dump's own 'gosem.cut.vars' lays the variable. In a bare row this is a premise. The card (YtgameoiofikhmaaDoorCards.lean) ties it to the program's text. -/
def laid_headstock_token_signs {H : Type} : DataW H := .agg [.lit (.string [61, 61]), .lit (.string [33, 61]), .lit (.string [60, 60]), .lit (.string [62, 62]), .lit (.string [60, 46]), .lit (.string [43]), .lit (.string [45]), .lit (.string [42]), .lit (.string [47]), .lit (.string [37]), .lit (.string [38]), .lit (.string [124]), .lit (.string [94]), .lit (.string [60]), .lit (.string [61]), .lit (.string [33]), .lit (.string [126]), .lit (.string [40]), .lit (.string [41]), .lit (.string [123]), .lit (.string [125]), .lit (.string [91]), .lit (.string [93]), .lit (.string [59]), .lit (.string [46])]

/-- 'headstocklaw05.TokenTells': WHATEVER THE INPUT: true; the input reads as it did. -/
def tokenTellsSpec : ChangeSpec := { name := "tokenTells", fn := fun _ => fun
  | [d1, d2, d3, d4, d5] => { results := [.lit (.bool true)], args := [d1, d2, d3, d4, d5] }
  | _ => none }
def tokenTellsRow : OpenClaim := { program := "ytgameoiofikhmaadoor", sum := "b09b9631a50cf7c4fc696ff78bbdc49a1a61dbd91277a1c090cac23ea4548efe", func := "headstock/headstocklaw05.TokenTells", spec := "tokenTells", inPlace := ["internal/bytealg.IndexByteString", "internal/bytealg.CountString", "internal/bytealg.IndexString"], recurses := true, named := ["headstock/token.signs", "internal/bytealg.MaxLen"], apart := false, laid := [("headstock/token.signs", laid_headstock_token_signs)] }
def TokenTellsSaid : Prop := tokenTellsRow.holds Tryd.pinned (OpenSpec.ofChange tokenTellsSpec)

/-- ITS FALSE NEIGHBOUR: 'it returns false'. Refute it at one input. -/
def tokenTellsWrong : ChangeSpec := { name := "tokenTells", fn := fun _ => fun
  | [d1, d2, d3, d4, d5] => { results := [.lit (.bool false)], args := [d1, d2, d3, d4, d5] }
  | _ => none }
def TokenTellsWrongFalsely : Prop := tokenTellsRow.holds Tryd.pinned (OpenSpec.ofChange tokenTellsWrong)

/-- 'headstocklaw05.TokenWords': WHATEVER THE INPUT: true; the input reads as it did. -/
def tokenWordsSpec : ChangeSpec := { name := "tokenWords", fn := fun _ => fun
  | [d1, d2] => { results := [.lit (.bool true)], args := [d1, d2] }
  | _ => none }
def tokenWordsRow : OpenClaim := { program := "ytgameoiofikhmaadoor", sum := "b09b9631a50cf7c4fc696ff78bbdc49a1a61dbd91277a1c090cac23ea4548efe", func := "headstock/headstocklaw05.TokenWords", spec := "tokenWords", inPlace := ["internal/bytealg.IndexByteString", "internal/bytealg.CountString", "internal/bytealg.IndexString"], recurses := true, named := ["headstock/token.signs", "internal/bytealg.MaxLen"], apart := false, laid := [("headstock/token.signs", laid_headstock_token_signs)] }
def TokenWordsSaid : Prop := tokenWordsRow.holds Tryd.pinned (OpenSpec.ofChange tokenWordsSpec)

/-- ITS FALSE NEIGHBOUR: 'it returns false'. Refute it at one input. -/
def tokenWordsWrong : ChangeSpec := { name := "tokenWords", fn := fun _ => fun
  | [d1, d2] => { results := [.lit (.bool false)], args := [d1, d2] }
  | _ => none }
def TokenWordsWrongFalsely : Prop := tokenWordsRow.holds Tryd.pinned (OpenSpec.ofChange tokenWordsWrong)

/-- 'headstocklaw05.TokenJoin': WHATEVER THE INPUT: true; the input reads as it did. -/
def tokenJoinSpec : ChangeSpec := { name := "tokenJoin", fn := fun _ => fun
  | [d1, d2, d3] => { results := [.lit (.bool true)], args := [d1, d2, d3] }
  | _ => none }
def tokenJoinRow : OpenClaim := { program := "ytgameoiofikhmaadoor", sum := "b09b9631a50cf7c4fc696ff78bbdc49a1a61dbd91277a1c090cac23ea4548efe", func := "headstock/headstocklaw05.TokenJoin", spec := "tokenJoin", inPlace := ["internal/bytealg.IndexByteString", "internal/bytealg.CountString", "internal/bytealg.IndexString"], recurses := true, named := ["headstock/token.signs", "internal/bytealg.MaxLen"], apart := false, laid := [("headstock/token.signs", laid_headstock_token_signs)] }
def TokenJoinSaid : Prop := tokenJoinRow.holds Tryd.pinned (OpenSpec.ofChange tokenJoinSpec)

/-- ITS FALSE NEIGHBOUR: 'it returns false'. Refute it at one input. -/
def tokenJoinWrong : ChangeSpec := { name := "tokenJoin", fn := fun _ => fun
  | [d1, d2, d3] => { results := [.lit (.bool false)], args := [d1, d2, d3] }
  | _ => none }
def TokenJoinWrongFalsely : Prop := tokenJoinRow.holds Tryd.pinned (OpenSpec.ofChange tokenJoinWrong)

/-- 'headstocklaw05.TokenWrong': WHATEVER THE INPUT: true; the input reads as it did. -/
def tokenWrongSpec : ChangeSpec := { name := "tokenWrong", fn := fun _ => fun
  | [d1, d2, d3] => { results := [.lit (.bool true)], args := [d1, d2, d3] }
  | _ => none }
def tokenWrongRow : OpenClaim := { program := "ytgameoiofikhmaadoor", sum := "b09b9631a50cf7c4fc696ff78bbdc49a1a61dbd91277a1c090cac23ea4548efe", func := "headstock/headstocklaw05.TokenWrong", spec := "tokenWrong", inPlace := ["internal/bytealg.IndexByteString", "internal/bytealg.CountString", "internal/bytealg.IndexString"], recurses := true, named := ["headstock/token.signs", "internal/bytealg.MaxLen"], apart := false, laid := [("headstock/token.signs", laid_headstock_token_signs)] }
def TokenWrongSaid : Prop := tokenWrongRow.holds Tryd.pinned (OpenSpec.ofChange tokenWrongSpec)

/-- ITS FALSE NEIGHBOUR: 'it returns false'. Refute it at one input. -/
def tokenWrongWrong : ChangeSpec := { name := "tokenWrong", fn := fun _ => fun
  | [d1, d2, d3] => { results := [.lit (.bool false)], args := [d1, d2, d3] }
  | _ => none }
def TokenWrongWrongFalsely : Prop := tokenWrongRow.holds Tryd.pinned (OpenSpec.ofChange tokenWrongWrong)

/-- 'headstocklaw05.TokenNumbers': WHATEVER THE INPUT: true; the input reads as it did. -/
def tokenNumbersSpec : ChangeSpec := { name := "tokenNumbers", fn := fun _ => fun
  | [d1, d2] => { results := [.lit (.bool true)], args := [d1, d2] }
  | _ => none }
def tokenNumbersRow : OpenClaim := { program := "ytgameoiofikhmaadoor", sum := "b09b9631a50cf7c4fc696ff78bbdc49a1a61dbd91277a1c090cac23ea4548efe", func := "headstock/headstocklaw05.TokenNumbers", spec := "tokenNumbers", inPlace := ["internal/bytealg.IndexByteString", "internal/bytealg.CountString", "internal/bytealg.IndexString"], recurses := true, named := ["headstock/token.signs", "internal/bytealg.MaxLen"], apart := false, laid := [("headstock/token.signs", laid_headstock_token_signs)] }
def TokenNumbersSaid : Prop := tokenNumbersRow.holds Tryd.pinned (OpenSpec.ofChange tokenNumbersSpec)

/-- ITS FALSE NEIGHBOUR: 'it returns false'. Refute it at one input. -/
def tokenNumbersWrong : ChangeSpec := { name := "tokenNumbers", fn := fun _ => fun
  | [d1, d2] => { results := [.lit (.bool false)], args := [d1, d2] }
  | _ => none }
def TokenNumbersWrongFalsely : Prop := tokenNumbersRow.holds Tryd.pinned (OpenSpec.ofChange tokenNumbersWrong)

/-- 'headstocklaw05.TokenShifts': WHATEVER THE INPUT: true; the input reads as it did. -/
def tokenShiftsSpec : ChangeSpec := { name := "tokenShifts", fn := fun _ => fun
  | [d1, d2, d3] => { results := [.lit (.bool true)], args := [d1, d2, d3] }
  | _ => none }
def tokenShiftsRow : OpenClaim := { program := "ytgameoiofikhmaadoor", sum := "b09b9631a50cf7c4fc696ff78bbdc49a1a61dbd91277a1c090cac23ea4548efe", func := "headstock/headstocklaw05.TokenShifts", spec := "tokenShifts", inPlace := ["internal/bytealg.IndexByteString", "internal/bytealg.CountString", "internal/bytealg.IndexString"], recurses := true, named := ["headstock/token.signs", "internal/bytealg.MaxLen"], apart := false, laid := [("headstock/token.signs", laid_headstock_token_signs)] }
def TokenShiftsSaid : Prop := tokenShiftsRow.holds Tryd.pinned (OpenSpec.ofChange tokenShiftsSpec)

/-- ITS FALSE NEIGHBOUR: 'it returns false'. Refute it at one input. -/
def tokenShiftsWrong : ChangeSpec := { name := "tokenShifts", fn := fun _ => fun
  | [d1, d2, d3] => { results := [.lit (.bool false)], args := [d1, d2, d3] }
  | _ => none }
def TokenShiftsWrongFalsely : Prop := tokenShiftsRow.holds Tryd.pinned (OpenSpec.ofChange tokenShiftsWrong)

/-- 'headstocklaw05.TokenSigns': WHATEVER THE INPUT: true; the input reads as it did. -/
def tokenSignsSpec : ChangeSpec := { name := "tokenSigns", fn := fun _ => fun
  | [d1, d2] => { results := [.lit (.bool true)], args := [d1, d2] }
  | _ => none }
def tokenSignsRow : OpenClaim := { program := "ytgameoiofikhmaadoor", sum := "b09b9631a50cf7c4fc696ff78bbdc49a1a61dbd91277a1c090cac23ea4548efe", func := "headstock/headstocklaw05.TokenSigns", spec := "tokenSigns", inPlace := ["internal/bytealg.IndexByteString", "internal/bytealg.CountString", "internal/bytealg.IndexString"], recurses := true, named := ["headstock/token.signs", "internal/bytealg.MaxLen"], apart := false, laid := [("headstock/token.signs", laid_headstock_token_signs)] }
def TokenSignsSaid : Prop := tokenSignsRow.holds Tryd.pinned (OpenSpec.ofChange tokenSignsSpec)

/-- ITS FALSE NEIGHBOUR: 'it returns false'. Refute it at one input. -/
def tokenSignsWrong : ChangeSpec := { name := "tokenSigns", fn := fun _ => fun
  | [d1, d2] => { results := [.lit (.bool false)], args := [d1, d2] }
  | _ => none }
def TokenSignsWrongFalsely : Prop := tokenSignsRow.holds Tryd.pinned (OpenSpec.ofChange tokenSignsWrong)

/- THE SECOND FORM. 'bulk': how many values and letters a reading holds, each counted each time it is reached (what is shared counts as often as it is met; a slice's spare places count too). A statement '..UptoSaid' is the law's where the arguments, and the package variables that the reading takes, are together of bulk at most 1048576: NARROWER than '..Said'. Prove '..Said' where nothing that the law and all that it calls make is longer than what came in: it says more and counts as full. Else prove '..UptoSaid'. A law counts once. -/
mutual
def uptoBulk {H : Type} : DataW H → Nat
  | .lit (.string bytes) => bytes.length + 1
  | .lit _ => 1
  | .nil => 1
  | .ptr d => uptoBulk d + 1
  | .slice elems spare => uptoBulkAll elems + uptoBulkAll spare + 1
  | .agg parts => uptoBulkAll parts + 1
  | .iface _ d => uptoBulk d + 1
  | .map entries => uptoBulkEntries entries + 1
  | .held _ => 1
def uptoBulkAll {H : Type} : List (DataW H) → Nat
  | [] => 0
  | d :: r => uptoBulk d + uptoBulkAll r
def uptoBulkEntries {H : Type} : List (Lit × DataW H) → Nat
  | [] => 0
  | x :: r => uptoBulkEntry x + uptoBulkEntries r
def uptoBulkEntry {H : Type} : Lit × DataW H → Nat
  | (.string bytes, d) => bytes.length + uptoBulk d + 1
  | (_, d) => uptoBulk d + 1
 end
def uptoSmall : (H : Type) → List (DataW H) → Bool := fun _ ds => decide (uptoBulkAll ds ≤ 1048576)
def OpenSpec.upto (s : _root_.Go.ChangeSpec) : _root_.Go.OpenSpec := { _root_.Go.OpenSpec.ofChange s with cond := some uptoSmall }

/-- 'headstocklaw05.TokenTells', WHERE WHAT IT READS IS OF BULK AT MOST 1048576: true; the input reads as it did. -/
def tokenTellsUptoRow : OpenClaim := { program := "ytgameoiofikhmaadoor", sum := "b09b9631a50cf7c4fc696ff78bbdc49a1a61dbd91277a1c090cac23ea4548efe", func := "headstock/headstocklaw05.TokenTells", spec := "tokenTells", inPlace := ["internal/bytealg.IndexByteString", "internal/bytealg.CountString", "internal/bytealg.IndexString"], recurses := true, named := ["headstock/token.signs", "internal/bytealg.MaxLen"], apart := false, laid := [("headstock/token.signs", laid_headstock_token_signs)], narrowed := true }
def TokenTellsUptoSaid : Prop := tokenTellsUptoRow.holds Tryd.pinned (OpenSpec.upto tokenTellsSpec)

/-- 'headstocklaw05.TokenWords', WHERE WHAT IT READS IS OF BULK AT MOST 1048576: true; the input reads as it did. -/
def tokenWordsUptoRow : OpenClaim := { program := "ytgameoiofikhmaadoor", sum := "b09b9631a50cf7c4fc696ff78bbdc49a1a61dbd91277a1c090cac23ea4548efe", func := "headstock/headstocklaw05.TokenWords", spec := "tokenWords", inPlace := ["internal/bytealg.IndexByteString", "internal/bytealg.CountString", "internal/bytealg.IndexString"], recurses := true, named := ["headstock/token.signs", "internal/bytealg.MaxLen"], apart := false, laid := [("headstock/token.signs", laid_headstock_token_signs)], narrowed := true }
def TokenWordsUptoSaid : Prop := tokenWordsUptoRow.holds Tryd.pinned (OpenSpec.upto tokenWordsSpec)

/-- 'headstocklaw05.TokenJoin', WHERE WHAT IT READS IS OF BULK AT MOST 1048576: true; the input reads as it did. -/
def tokenJoinUptoRow : OpenClaim := { program := "ytgameoiofikhmaadoor", sum := "b09b9631a50cf7c4fc696ff78bbdc49a1a61dbd91277a1c090cac23ea4548efe", func := "headstock/headstocklaw05.TokenJoin", spec := "tokenJoin", inPlace := ["internal/bytealg.IndexByteString", "internal/bytealg.CountString", "internal/bytealg.IndexString"], recurses := true, named := ["headstock/token.signs", "internal/bytealg.MaxLen"], apart := false, laid := [("headstock/token.signs", laid_headstock_token_signs)], narrowed := true }
def TokenJoinUptoSaid : Prop := tokenJoinUptoRow.holds Tryd.pinned (OpenSpec.upto tokenJoinSpec)

/-- 'headstocklaw05.TokenWrong', WHERE WHAT IT READS IS OF BULK AT MOST 1048576: true; the input reads as it did. -/
def tokenWrongUptoRow : OpenClaim := { program := "ytgameoiofikhmaadoor", sum := "b09b9631a50cf7c4fc696ff78bbdc49a1a61dbd91277a1c090cac23ea4548efe", func := "headstock/headstocklaw05.TokenWrong", spec := "tokenWrong", inPlace := ["internal/bytealg.IndexByteString", "internal/bytealg.CountString", "internal/bytealg.IndexString"], recurses := true, named := ["headstock/token.signs", "internal/bytealg.MaxLen"], apart := false, laid := [("headstock/token.signs", laid_headstock_token_signs)], narrowed := true }
def TokenWrongUptoSaid : Prop := tokenWrongUptoRow.holds Tryd.pinned (OpenSpec.upto tokenWrongSpec)

/-- 'headstocklaw05.TokenNumbers', WHERE WHAT IT READS IS OF BULK AT MOST 1048576: true; the input reads as it did. -/
def tokenNumbersUptoRow : OpenClaim := { program := "ytgameoiofikhmaadoor", sum := "b09b9631a50cf7c4fc696ff78bbdc49a1a61dbd91277a1c090cac23ea4548efe", func := "headstock/headstocklaw05.TokenNumbers", spec := "tokenNumbers", inPlace := ["internal/bytealg.IndexByteString", "internal/bytealg.CountString", "internal/bytealg.IndexString"], recurses := true, named := ["headstock/token.signs", "internal/bytealg.MaxLen"], apart := false, laid := [("headstock/token.signs", laid_headstock_token_signs)], narrowed := true }
def TokenNumbersUptoSaid : Prop := tokenNumbersUptoRow.holds Tryd.pinned (OpenSpec.upto tokenNumbersSpec)

/-- 'headstocklaw05.TokenShifts', WHERE WHAT IT READS IS OF BULK AT MOST 1048576: true; the input reads as it did. -/
def tokenShiftsUptoRow : OpenClaim := { program := "ytgameoiofikhmaadoor", sum := "b09b9631a50cf7c4fc696ff78bbdc49a1a61dbd91277a1c090cac23ea4548efe", func := "headstock/headstocklaw05.TokenShifts", spec := "tokenShifts", inPlace := ["internal/bytealg.IndexByteString", "internal/bytealg.CountString", "internal/bytealg.IndexString"], recurses := true, named := ["headstock/token.signs", "internal/bytealg.MaxLen"], apart := false, laid := [("headstock/token.signs", laid_headstock_token_signs)], narrowed := true }
def TokenShiftsUptoSaid : Prop := tokenShiftsUptoRow.holds Tryd.pinned (OpenSpec.upto tokenShiftsSpec)

/-- 'headstocklaw05.TokenSigns', WHERE WHAT IT READS IS OF BULK AT MOST 1048576: true; the input reads as it did. -/
def tokenSignsUptoRow : OpenClaim := { program := "ytgameoiofikhmaadoor", sum := "b09b9631a50cf7c4fc696ff78bbdc49a1a61dbd91277a1c090cac23ea4548efe", func := "headstock/headstocklaw05.TokenSigns", spec := "tokenSigns", inPlace := ["internal/bytealg.IndexByteString", "internal/bytealg.CountString", "internal/bytealg.IndexString"], recurses := true, named := ["headstock/token.signs", "internal/bytealg.MaxLen"], apart := false, laid := [("headstock/token.signs", laid_headstock_token_signs)], narrowed := true }
def TokenSignsUptoSaid : Prop := tokenSignsUptoRow.holds Tryd.pinned (OpenSpec.upto tokenSignsSpec)

end Rows
end Go.Proofs.YtgameoiofikhmaaDoor
