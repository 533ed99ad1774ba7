/- What has, number and register of the document's own answer answer. -/
import Derived.Test.YtjjbfeoidceiiaaCFitAny
import Derived.Handy
namespace Go.Proofs.Ytjjbfeoidceiiaa
open Go.RowKit Rv
set_option linter.unusedVariables false
def formOk (f : Int) : Prop := f = 82 ∨ f = 73 ∨ f = 67 ∨ f = 72 ∨ f = 83 ∨ f = 66 ∨ f = 85 ∨ f = 74 ∨ f = 70 ∨ f = 90 ∨ f = 76 ∨ f = 65
set_option maxHeartbeats 4000000 in
theorem has_D (f : Int) (hf : formOk f) (w : World) : Calls Try.prog 73 #[.int .u8 f, .int .u8 68] w fun e w' => e = .returned (.bool (hasD f)) ∧ w = w' := by
  rcases hf with rfl | rfl | rfl | rfl | rfl | rfl | rfl | rfl | rfl | rfl | rfl | rfl
  all_goals
    go_enter Try.func73, Try.ntmps73
    go_wp2
    go_rounds 6
    go_ret
    exact ⟨rfl, rfl⟩
set_option maxHeartbeats 4000000 in
theorem has_A (f : Int) (hf : formOk f) (w : World) : Calls Try.prog 73 #[.int .u8 f, .int .u8 65] w fun e w' => e = .returned (.bool (hasA f)) ∧ w = w' := by
  rcases hf with rfl | rfl | rfl | rfl | rfl | rfl | rfl | rfl | rfl | rfl | rfl | rfl
  all_goals
    go_enter Try.func73, Try.ntmps73
    go_wp2
    go_rounds 6
    go_ret
    exact ⟨rfl, rfl⟩
set_option maxHeartbeats 4000000 in
theorem has_B (f : Int) (hf : formOk f) (w : World) : Calls Try.prog 73 #[.int .u8 f, .int .u8 66] w fun e w' => e = .returned (.bool (hasB f)) ∧ w = w' := by
  rcases hf with rfl | rfl | rfl | rfl | rfl | rfl | rfl | rfl | rfl | rfl | rfl | rfl
  all_goals
    go_enter Try.func73, Try.ntmps73
    go_wp2
    go_rounds 6
    go_ret
    exact ⟨rfl, rfl⟩
theorem ret_bool {a b : Bool} (h : a = b) : Ending.returned (.bool a) = .returned (.bool b) := by rw [h]
theorem register_any (n : Int) (b : Bool) (w : World) : Calls Try.prog 72 #[.int .i64 n, .bool b] w fun e w' => e = .returned (.bool (reg n b)) ∧ w = w' := by
  have hk : n < 0 ∨ n = 0 ∨ (0 < n ∧ n < 32) ∨ 32 ≤ n := by omega
  rcases hk with h | rfl | ⟨h, h'⟩ | h
  all_goals
    cases b
    all_goals
      go_enter Try.func72, Try.ntmps72
      go_wp2
      go_ret
      exact ⟨ret_bool (by rw [Bool.eq_iff_iff]; simp [reg]; try omega), rfl⟩
end Go.Proofs.Ytjjbfeoidceiiaa
