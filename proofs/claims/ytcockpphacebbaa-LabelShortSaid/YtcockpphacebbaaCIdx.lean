/- What RowOf of the document's own answer answers: the table's row; it lays new memory and leaves all that was there as it was. -/
import Derived.Test.YtcockpphacebbaaProg
import Derived.Test.YtcockpphacebbaaCTab
import Derived.Test.YtcockpphacebbaaCOps
import Derived.WalkKit
import Derived.WalkSpells
import Derived.Lib.Hide
import Derived.Deep.MidRow
import Derived.Deep.Cut
namespace Go.Proofs.Ytcockpphacebbaa
open Go.RowKit Rv
theorem row_index (b k : Nat) (h : k < 49) (w : World) : (Instr.indexAt 105 (.slice (some ⟨b, 0, none⟩) 49 49) (.int .i64 (k : Int))).run Try.prog w = .ok (.pointer (some ⟨b, k * 5, none⟩)) w := by
  have hk : k = 0 ∨ k = 1 ∨ k = 2 ∨ k = 3 ∨ k = 4 ∨ k = 5 ∨ k = 6 ∨ k = 7 ∨ k = 8 ∨ k = 9 ∨ k = 10 ∨ k = 11 ∨ k = 12 ∨ k = 13 ∨ k = 14 ∨ k = 15 ∨ k = 16 ∨ k = 17 ∨ k = 18 ∨ k = 19 ∨ k = 20 ∨ k = 21 ∨ k = 22 ∨ k = 23 ∨ k = 24 ∨ k = 25 ∨ k = 26 ∨ k = 27 ∨ k = 28 ∨ k = 29 ∨ k = 30 ∨ k = 31 ∨ k = 32 ∨ k = 33 ∨ k = 34 ∨ k = 35 ∨ k = 36 ∨ k = 37 ∨ k = 38 ∨ k = 39 ∨ k = 40 ∨ k = 41 ∨ k = 42 ∨ k = 43 ∨ k = 44 ∨ k = 45 ∨ k = 46 ∨ k = 47 ∨ k = 48 := by omega
  rcases hk with rfl | rfl | rfl | rfl | rfl | rfl | rfl | rfl | rfl | rfl | rfl | rfl | rfl | rfl | rfl | rfl | rfl | rfl | rfl | rfl | rfl | rfl | rfl | rfl | rfl | rfl | rfl | rfl | rfl | rfl | rfl | rfl | rfl | rfl | rfl | rfl | rfl | rfl | rfl | rfl | rfl | rfl | rfl | rfl | rfl | rfl | rfl | rfl | rfl
  all_goals (show _ = _; kernel_rfl)
theorem exec_index {o : Oper} {ρ : Operand → Value} {x y : Operand} (ho : o.op = .indexAddr 105 x y) (b k : Nat) (h : k < 49) (hx : ρ x = .slice (some ⟨b, 0, none⟩) 49 49) (hy : ρ y = .int .i64 (k : Int)) (w : World) :
    (execOp ρ o).run Try.prog w = .ok (.value (.pointer (some ⟨b, k * 5, none⟩))) w := by
  unfold execOp
  simp only [ho, hx, hy, Sem.run_bind, Sem.run_pure, Result.andThen_ok, row_index b k h w]
abbrev rowZero : Array Value := #[.string ⟨#[]⟩, .int .u8 0, .int .i64 0, .int .i64 0, .int .i64 0]
theorem row_size : (Try.prog.info? 90).map (·.size) = some 5 := by kernel_rfl
end Go.Proofs.Ytcockpphacebbaa
