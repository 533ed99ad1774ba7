/-
  NARROWER THAN 'FOR EVERY INPUT', by the rows' own cells (each row's printed sentence says how): HartTells: laid · HartStays: laid · HartOperators: laid · HartBack: laid · HartSwaps: laid · HartBranches: laid · HartLinks: laid · HartNumbers: laid · HartAddresses: laid.
  DERIVED. THE GIVEN ROWS OF THIS SEAT. 9 by the template 'for every input the law returns true; each argument reads behind the call as it read before'; 0 by the template 'total and deterministic' (their statements: YtgcgdjmlngfpeaaDoorTotals.lean).
  GIVEN WITH THE SEED: the statements are not yours to turn. If you find one false, say at which input.
  Laid BY PROGRAM, IN A SANDBOX (cutbox-rows.mjs): the forced cells as the released guide's own fill.sh prints them over the translation f45fded542c9d3de… (all of the seat's roots in one cut). By AI agents, Wed Nov 11 2026. No macro, syntax, notation, axiom, sorry.
-/
import Derived.Test.YtgcgdjmlngfpeaaDoorChecked
import GoSem.Claim
import GoSem.ClaimJoined
import GoSem.ClaimMapViews
import Derived.JoinedTies
import Derived.KernelRfl
namespace Go.Proofs.YtgcgdjmlngfpeaaDoor
/- THE CELL 'sum', in the pinned program and in every row, IS THE sha256 OF THE DUMP (.gsa) THAT YtgcgdjmlngfpeaaDoorProg.lean LOADS. Nothing in Lean hashes anything: it is a label: what it is worth is what the hold of that sum in a sandbox is worth. -/
noncomputable def Tryd.pinned : Pinned := { name := "ytgcgdjmlngfpeaadoor", sum := "f45fded542c9d3dea2a3b2def8305d86bfa0f64d065ab70f53e631892a197a6d", checked := Tryd.checked }
namespace Rows
def none {H : Type} : Left H := { results := [], args := [] }

/- WHAT THE LISTED PACKAGE-LEVEL VARIABLES READ AS WHEN THE CALL BEGINS. Each datum BY PROGRAM (the guide's laid-datum.mjs) off the statement by which the dump's own 'gosem.cut.vars' lays the variable. In a bare row this is a premise. The card (YtgcgdjmlngfpeaaDoorCards.lean) ties it to the program's text. -/
def laid_headstock_hart_operators {H : Type} : DataW H := .agg [.lit (.int .i64 0), .lit (.int .i64 0), .lit (.int .i64 0), .lit (.int .i64 0), .lit (.int .i64 0), .lit (.int .i64 13), .lit (.int .i64 14), .lit (.int .i64 11), .lit (.int .i64 11), .lit (.int .i64 12), .lit (.int .i64 12), .lit (.int .i64 0), .lit (.int .i64 0), .lit (.int .i64 1), .lit (.int .i64 11), .lit (.int .i64 12), .lit (.int .i64 8), .lit (.int .i64 7), .lit (.int .i64 6), .lit (.int .i64 9), .lit (.int .i64 0), .lit (.int .i64 10), .lit (.int .i64 1), .lit (.int .i64 2), .lit (.int .i64 9), .lit (.int .i64 11), .lit (.int .i64 12), .lit (.int .i64 8), .lit (.int .i64 0), .lit (.int .i64 10), .lit (.int .i64 7), .lit (.int .i64 6), .lit (.int .i64 3), .lit (.int .i64 0), .lit (.int .i64 0), .lit (.int .i64 4), .lit (.int .i64 0), .lit (.int .i64 5), .lit (.int .i64 0), .lit (.int .i64 0), .lit (.int .i64 0), .lit (.int .i64 0), .lit (.int .i64 0), .lit (.int .i64 0), .lit (.int .i64 0), .lit (.int .i64 0), .lit (.int .i64 0), .lit (.int .i64 0), .lit (.int .i64 0), .lit (.int .i64 0)]

/-- 'headstocklaw14.HartTells': WHATEVER THE INPUT: true; the input reads as it did. -/
def hartTellsSpec : ChangeSpec := { name := "hartTells", fn := fun _ => fun
  | [d1, d2, d3, d4, d5] => { results := [.lit (.bool true)], args := [d1, d2, d3, d4, d5] }
  | _ => none }
def hartTellsRow : OpenClaim := { program := "ytgcgdjmlngfpeaadoor", sum := "f45fded542c9d3dea2a3b2def8305d86bfa0f64d065ab70f53e631892a197a6d", func := "headstock/headstocklaw14.HartTells", spec := "hartTells", named := ["headstock/hart.operators"], apart := false, laid := [("headstock/hart.operators", laid_headstock_hart_operators)] }
def HartTellsSaid : Prop := hartTellsRow.holds Tryd.pinned (OpenSpec.ofChange hartTellsSpec)

/-- ITS FALSE NEIGHBOUR: 'it returns false'. Refute it at one input. -/
def hartTellsWrong : ChangeSpec := { name := "hartTells", fn := fun _ => fun
  | [d1, d2, d3, d4, d5] => { results := [.lit (.bool false)], args := [d1, d2, d3, d4, d5] }
  | _ => none }
def HartTellsWrongFalsely : Prop := hartTellsRow.holds Tryd.pinned (OpenSpec.ofChange hartTellsWrong)

/-- 'headstocklaw14.HartStays': WHATEVER THE INPUT: true; the input reads as it did. -/
def hartStaysSpec : ChangeSpec := { name := "hartStays", fn := fun _ => fun
  | [d1, d2, d3] => { results := [.lit (.bool true)], args := [d1, d2, d3] }
  | _ => none }
def hartStaysRow : OpenClaim := { program := "ytgcgdjmlngfpeaadoor", sum := "f45fded542c9d3dea2a3b2def8305d86bfa0f64d065ab70f53e631892a197a6d", func := "headstock/headstocklaw14.HartStays", spec := "hartStays", named := ["headstock/hart.operators"], apart := false, laid := [("headstock/hart.operators", laid_headstock_hart_operators)] }
def HartStaysSaid : Prop := hartStaysRow.holds Tryd.pinned (OpenSpec.ofChange hartStaysSpec)

/-- ITS FALSE NEIGHBOUR: 'it returns false'. Refute it at one input. -/
def hartStaysWrong : ChangeSpec := { name := "hartStays", fn := fun _ => fun
  | [d1, d2, d3] => { results := [.lit (.bool false)], args := [d1, d2, d3] }
  | _ => none }
def HartStaysWrongFalsely : Prop := hartStaysRow.holds Tryd.pinned (OpenSpec.ofChange hartStaysWrong)

/-- 'headstocklaw14.HartOperators': WHATEVER THE INPUT: true; the input reads as it did. -/
def hartOperatorsSpec : ChangeSpec := { name := "hartOperators", fn := fun _ => fun
  | [d1, d2, d3, d4] => { results := [.lit (.bool true)], args := [d1, d2, d3, d4] }
  | _ => none }
def hartOperatorsRow : OpenClaim := { program := "ytgcgdjmlngfpeaadoor", sum := "f45fded542c9d3dea2a3b2def8305d86bfa0f64d065ab70f53e631892a197a6d", func := "headstock/headstocklaw14.HartOperators", spec := "hartOperators", named := ["headstock/hart.operators"], apart := false, laid := [("headstock/hart.operators", laid_headstock_hart_operators)] }
def HartOperatorsSaid : Prop := hartOperatorsRow.holds Tryd.pinned (OpenSpec.ofChange hartOperatorsSpec)

/-- ITS FALSE NEIGHBOUR: 'it returns false'. Refute it at one input. -/
def hartOperatorsWrong : ChangeSpec := { name := "hartOperators", fn := fun _ => fun
  | [d1, d2, d3, d4] => { results := [.lit (.bool false)], args := [d1, d2, d3, d4] }
  | _ => none }
def HartOperatorsWrongFalsely : Prop := hartOperatorsRow.holds Tryd.pinned (OpenSpec.ofChange hartOperatorsWrong)

/-- 'headstocklaw14.HartBack': WHATEVER THE INPUT: true; the input reads as it did. -/
def hartBackSpec : ChangeSpec := { name := "hartBack", fn := fun _ => fun
  | [d1, d2, d3] => { results := [.lit (.bool true)], args := [d1, d2, d3] }
  | _ => none }
def hartBackRow : OpenClaim := { program := "ytgcgdjmlngfpeaadoor", sum := "f45fded542c9d3dea2a3b2def8305d86bfa0f64d065ab70f53e631892a197a6d", func := "headstock/headstocklaw14.HartBack", spec := "hartBack", named := ["headstock/hart.operators"], apart := false, laid := [("headstock/hart.operators", laid_headstock_hart_operators)] }
def HartBackSaid : Prop := hartBackRow.holds Tryd.pinned (OpenSpec.ofChange hartBackSpec)

/-- ITS FALSE NEIGHBOUR: 'it returns false'. Refute it at one input. -/
def hartBackWrong : ChangeSpec := { name := "hartBack", fn := fun _ => fun
  | [d1, d2, d3] => { results := [.lit (.bool false)], args := [d1, d2, d3] }
  | _ => none }
def HartBackWrongFalsely : Prop := hartBackRow.holds Tryd.pinned (OpenSpec.ofChange hartBackWrong)

/-- 'headstocklaw14.HartSwaps': WHATEVER THE INPUT: true; the input reads as it did. -/
def hartSwapsSpec : ChangeSpec := { name := "hartSwaps", fn := fun _ => fun
  | [d1, d2, d3] => { results := [.lit (.bool true)], args := [d1, d2, d3] }
  | _ => none }
def hartSwapsRow : OpenClaim := { program := "ytgcgdjmlngfpeaadoor", sum := "f45fded542c9d3dea2a3b2def8305d86bfa0f64d065ab70f53e631892a197a6d", func := "headstock/headstocklaw14.HartSwaps", spec := "hartSwaps", named := ["headstock/hart.operators"], apart := false, laid := [("headstock/hart.operators", laid_headstock_hart_operators)] }
def HartSwapsSaid : Prop := hartSwapsRow.holds Tryd.pinned (OpenSpec.ofChange hartSwapsSpec)

/-- ITS FALSE NEIGHBOUR: 'it returns false'. Refute it at one input. -/
def hartSwapsWrong : ChangeSpec := { name := "hartSwaps", fn := fun _ => fun
  | [d1, d2, d3] => { results := [.lit (.bool false)], args := [d1, d2, d3] }
  | _ => none }
def HartSwapsWrongFalsely : Prop := hartSwapsRow.holds Tryd.pinned (OpenSpec.ofChange hartSwapsWrong)

/-- 'headstocklaw14.HartBranches': WHATEVER THE INPUT: true; the input reads as it did. -/
def hartBranchesSpec : ChangeSpec := { name := "hartBranches", fn := fun _ => fun
  | [d1, d2, d3, d4, d5] => { results := [.lit (.bool true)], args := [d1, d2, d3, d4, d5] }
  | _ => none }
def hartBranchesRow : OpenClaim := { program := "ytgcgdjmlngfpeaadoor", sum := "f45fded542c9d3dea2a3b2def8305d86bfa0f64d065ab70f53e631892a197a6d", func := "headstock/headstocklaw14.HartBranches", spec := "hartBranches", named := ["headstock/hart.operators"], apart := false, laid := [("headstock/hart.operators", laid_headstock_hart_operators)] }
def HartBranchesSaid : Prop := hartBranchesRow.holds Tryd.pinned (OpenSpec.ofChange hartBranchesSpec)

/-- ITS FALSE NEIGHBOUR: 'it returns false'. Refute it at one input. -/
def hartBranchesWrong : ChangeSpec := { name := "hartBranches", fn := fun _ => fun
  | [d1, d2, d3, d4, d5] => { results := [.lit (.bool false)], args := [d1, d2, d3, d4, d5] }
  | _ => none }
def HartBranchesWrongFalsely : Prop := hartBranchesRow.holds Tryd.pinned (OpenSpec.ofChange hartBranchesWrong)

/-- 'headstocklaw14.HartLinks': WHATEVER THE INPUT: true; the input reads as it did. -/
def hartLinksSpec : ChangeSpec := { name := "hartLinks", fn := fun _ => fun
  | [d1, d2, d3] => { results := [.lit (.bool true)], args := [d1, d2, d3] }
  | _ => none }
def hartLinksRow : OpenClaim := { program := "ytgcgdjmlngfpeaadoor", sum := "f45fded542c9d3dea2a3b2def8305d86bfa0f64d065ab70f53e631892a197a6d", func := "headstock/headstocklaw14.HartLinks", spec := "hartLinks", named := ["headstock/hart.operators"], apart := false, laid := [("headstock/hart.operators", laid_headstock_hart_operators)] }
def HartLinksSaid : Prop := hartLinksRow.holds Tryd.pinned (OpenSpec.ofChange hartLinksSpec)

/-- ITS FALSE NEIGHBOUR: 'it returns false'. Refute it at one input. -/
def hartLinksWrong : ChangeSpec := { name := "hartLinks", fn := fun _ => fun
  | [d1, d2, d3] => { results := [.lit (.bool false)], args := [d1, d2, d3] }
  | _ => none }
def HartLinksWrongFalsely : Prop := hartLinksRow.holds Tryd.pinned (OpenSpec.ofChange hartLinksWrong)

/-- 'headstocklaw14.HartNumbers': WHATEVER THE INPUT: true; the input reads as it did. -/
def hartNumbersSpec : ChangeSpec := { name := "hartNumbers", fn := fun _ => fun
  | [d1, d2, d3] => { results := [.lit (.bool true)], args := [d1, d2, d3] }
  | _ => none }
def hartNumbersRow : OpenClaim := { program := "ytgcgdjmlngfpeaadoor", sum := "f45fded542c9d3dea2a3b2def8305d86bfa0f64d065ab70f53e631892a197a6d", func := "headstock/headstocklaw14.HartNumbers", spec := "hartNumbers", named := ["headstock/hart.operators"], apart := false, laid := [("headstock/hart.operators", laid_headstock_hart_operators)] }
def HartNumbersSaid : Prop := hartNumbersRow.holds Tryd.pinned (OpenSpec.ofChange hartNumbersSpec)

/-- ITS FALSE NEIGHBOUR: 'it returns false'. Refute it at one input. -/
def hartNumbersWrong : ChangeSpec := { name := "hartNumbers", fn := fun _ => fun
  | [d1, d2, d3] => { results := [.lit (.bool false)], args := [d1, d2, d3] }
  | _ => none }
def HartNumbersWrongFalsely : Prop := hartNumbersRow.holds Tryd.pinned (OpenSpec.ofChange hartNumbersWrong)

/-- 'headstocklaw14.HartAddresses': WHATEVER THE INPUT: true; the input reads as it did. -/
def hartAddressesSpec : ChangeSpec := { name := "hartAddresses", fn := fun _ => fun
  | [d1, d2, d3, d4] => { results := [.lit (.bool true)], args := [d1, d2, d3, d4] }
  | _ => none }
def hartAddressesRow : OpenClaim := { program := "ytgcgdjmlngfpeaadoor", sum := "f45fded542c9d3dea2a3b2def8305d86bfa0f64d065ab70f53e631892a197a6d", func := "headstock/headstocklaw14.HartAddresses", spec := "hartAddresses", named := ["headstock/hart.operators"], apart := false, laid := [("headstock/hart.operators", laid_headstock_hart_operators)] }
def HartAddressesSaid : Prop := hartAddressesRow.holds Tryd.pinned (OpenSpec.ofChange hartAddressesSpec)

/-- ITS FALSE NEIGHBOUR: 'it returns false'. Refute it at one input. -/
def hartAddressesWrong : ChangeSpec := { name := "hartAddresses", fn := fun _ => fun
  | [d1, d2, d3, d4] => { results := [.lit (.bool false)], args := [d1, d2, d3, d4] }
  | _ => none }
def HartAddressesWrongFalsely : Prop := hartAddressesRow.holds Tryd.pinned (OpenSpec.ofChange hartAddressesWrong)

/- THE SECOND FORM. 'bulk': how many values and letters a reading holds, each counted each time it is reached (what is shared counts as often as it is met; a slice's spare places count too). A statement '..UptoSaid' is the law's where the arguments, and the package variables that the reading takes, are together of bulk at most 1048576: NARROWER than '..Said'. Prove '..Said' where nothing that the law and all that it calls make is longer than what came in: it says more and counts as full. Else prove '..UptoSaid'. A law counts once. -/
mutual
def uptoBulk {H : Type} : DataW H → Nat
  | .lit (.string bytes) => bytes.length + 1
  | .lit _ => 1
  | .nil => 1
  | .ptr d => uptoBulk d + 1
  | .slice elems spare => uptoBulkAll elems + uptoBulkAll spare + 1
  | .agg parts => uptoBulkAll parts + 1
  | .iface _ d => uptoBulk d + 1
  | .map entries => uptoBulkEntries entries + 1
  | .held _ => 1
def uptoBulkAll {H : Type} : List (DataW H) → Nat
  | [] => 0
  | d :: r => uptoBulk d + uptoBulkAll r
def uptoBulkEntries {H : Type} : List (Lit × DataW H) → Nat
  | [] => 0
  | x :: r => uptoBulkEntry x + uptoBulkEntries r
def uptoBulkEntry {H : Type} : Lit × DataW H → Nat
  | (.string bytes, d) => bytes.length + uptoBulk d + 1
  | (_, d) => uptoBulk d + 1
 end
def uptoSmall : (H : Type) → List (DataW H) → Bool := fun _ ds => decide (uptoBulkAll ds ≤ 1048576)
def OpenSpec.upto (s : _root_.Go.ChangeSpec) : _root_.Go.OpenSpec := { _root_.Go.OpenSpec.ofChange s with cond := some uptoSmall }

/-- 'headstocklaw14.HartTells', WHERE WHAT IT READS IS OF BULK AT MOST 1048576: true; the input reads as it did. -/
def hartTellsUptoRow : OpenClaim := { program := "ytgcgdjmlngfpeaadoor", sum := "f45fded542c9d3dea2a3b2def8305d86bfa0f64d065ab70f53e631892a197a6d", func := "headstock/headstocklaw14.HartTells", spec := "hartTells", named := ["headstock/hart.operators"], apart := false, laid := [("headstock/hart.operators", laid_headstock_hart_operators)], narrowed := true }
def HartTellsUptoSaid : Prop := hartTellsUptoRow.holds Tryd.pinned (OpenSpec.upto hartTellsSpec)

/-- 'headstocklaw14.HartStays', WHERE WHAT IT READS IS OF BULK AT MOST 1048576: true; the input reads as it did. -/
def hartStaysUptoRow : OpenClaim := { program := "ytgcgdjmlngfpeaadoor", sum := "f45fded542c9d3dea2a3b2def8305d86bfa0f64d065ab70f53e631892a197a6d", func := "headstock/headstocklaw14.HartStays", spec := "hartStays", named := ["headstock/hart.operators"], apart := false, laid := [("headstock/hart.operators", laid_headstock_hart_operators)], narrowed := true }
def HartStaysUptoSaid : Prop := hartStaysUptoRow.holds Tryd.pinned (OpenSpec.upto hartStaysSpec)

/-- 'headstocklaw14.HartOperators', WHERE WHAT IT READS IS OF BULK AT MOST 1048576: true; the input reads as it did. -/
def hartOperatorsUptoRow : OpenClaim := { program := "ytgcgdjmlngfpeaadoor", sum := "f45fded542c9d3dea2a3b2def8305d86bfa0f64d065ab70f53e631892a197a6d", func := "headstock/headstocklaw14.HartOperators", spec := "hartOperators", named := ["headstock/hart.operators"], apart := false, laid := [("headstock/hart.operators", laid_headstock_hart_operators)], narrowed := true }
def HartOperatorsUptoSaid : Prop := hartOperatorsUptoRow.holds Tryd.pinned (OpenSpec.upto hartOperatorsSpec)

/-- 'headstocklaw14.HartBack', WHERE WHAT IT READS IS OF BULK AT MOST 1048576: true; the input reads as it did. -/
def hartBackUptoRow : OpenClaim := { program := "ytgcgdjmlngfpeaadoor", sum := "f45fded542c9d3dea2a3b2def8305d86bfa0f64d065ab70f53e631892a197a6d", func := "headstock/headstocklaw14.HartBack", spec := "hartBack", named := ["headstock/hart.operators"], apart := false, laid := [("headstock/hart.operators", laid_headstock_hart_operators)], narrowed := true }
def HartBackUptoSaid : Prop := hartBackUptoRow.holds Tryd.pinned (OpenSpec.upto hartBackSpec)

/-- 'headstocklaw14.HartSwaps', WHERE WHAT IT READS IS OF BULK AT MOST 1048576: true; the input reads as it did. -/
def hartSwapsUptoRow : OpenClaim := { program := "ytgcgdjmlngfpeaadoor", sum := "f45fded542c9d3dea2a3b2def8305d86bfa0f64d065ab70f53e631892a197a6d", func := "headstock/headstocklaw14.HartSwaps", spec := "hartSwaps", named := ["headstock/hart.operators"], apart := false, laid := [("headstock/hart.operators", laid_headstock_hart_operators)], narrowed := true }
def HartSwapsUptoSaid : Prop := hartSwapsUptoRow.holds Tryd.pinned (OpenSpec.upto hartSwapsSpec)

/-- 'headstocklaw14.HartBranches', WHERE WHAT IT READS IS OF BULK AT MOST 1048576: true; the input reads as it did. -/
def hartBranchesUptoRow : OpenClaim := { program := "ytgcgdjmlngfpeaadoor", sum := "f45fded542c9d3dea2a3b2def8305d86bfa0f64d065ab70f53e631892a197a6d", func := "headstock/headstocklaw14.HartBranches", spec := "hartBranches", named := ["headstock/hart.operators"], apart := false, laid := [("headstock/hart.operators", laid_headstock_hart_operators)], narrowed := true }
def HartBranchesUptoSaid : Prop := hartBranchesUptoRow.holds Tryd.pinned (OpenSpec.upto hartBranchesSpec)

/-- 'headstocklaw14.HartLinks', WHERE WHAT IT READS IS OF BULK AT MOST 1048576: true; the input reads as it did. -/
def hartLinksUptoRow : OpenClaim := { program := "ytgcgdjmlngfpeaadoor", sum := "f45fded542c9d3dea2a3b2def8305d86bfa0f64d065ab70f53e631892a197a6d", func := "headstock/headstocklaw14.HartLinks", spec := "hartLinks", named := ["headstock/hart.operators"], apart := false, laid := [("headstock/hart.operators", laid_headstock_hart_operators)], narrowed := true }
def HartLinksUptoSaid : Prop := hartLinksUptoRow.holds Tryd.pinned (OpenSpec.upto hartLinksSpec)

/-- 'headstocklaw14.HartNumbers', WHERE WHAT IT READS IS OF BULK AT MOST 1048576: true; the input reads as it did. -/
def hartNumbersUptoRow : OpenClaim := { program := "ytgcgdjmlngfpeaadoor", sum := "f45fded542c9d3dea2a3b2def8305d86bfa0f64d065ab70f53e631892a197a6d", func := "headstock/headstocklaw14.HartNumbers", spec := "hartNumbers", named := ["headstock/hart.operators"], apart := false, laid := [("headstock/hart.operators", laid_headstock_hart_operators)], narrowed := true }
def HartNumbersUptoSaid : Prop := hartNumbersUptoRow.holds Tryd.pinned (OpenSpec.upto hartNumbersSpec)

/-- 'headstocklaw14.HartAddresses', WHERE WHAT IT READS IS OF BULK AT MOST 1048576: true; the input reads as it did. -/
def hartAddressesUptoRow : OpenClaim := { program := "ytgcgdjmlngfpeaadoor", sum := "f45fded542c9d3dea2a3b2def8305d86bfa0f64d065ab70f53e631892a197a6d", func := "headstock/headstocklaw14.HartAddresses", spec := "hartAddresses", named := ["headstock/hart.operators"], apart := false, laid := [("headstock/hart.operators", laid_headstock_hart_operators)], narrowed := true }
def HartAddressesUptoSaid : Prop := hartAddressesUptoRow.holds Tryd.pinned (OpenSpec.upto hartAddressesSpec)

end Rows
end Go.Proofs.YtgcgdjmlngfpeaaDoor
