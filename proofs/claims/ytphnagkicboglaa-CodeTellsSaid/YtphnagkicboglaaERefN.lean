/- What bits and signed answer, as quiet calls. -/
import Derived.Test.YtphnagkicboglaaENum
namespace Go.Proofs.Ytphnagkicboglaa
open Go.RowKit Rv
set_option linter.unusedVariables false
def Drew (w w' : World) : Prop := ∃ q, w' = w.drewN q
theorem signedN {n m h r : Int} (hm : m = 12 ∧ h = 2048 ∨ m = 13 ∧ h = 4096 ∨ m = 21 ∧ h = 1048576) (n0 : 0 ≤ n) (n1 : n < 4294967296) (hr : sgn n h = r) (w : World) : Calls Try.prog 44 #[.int .i64 n, .int .i64 m] w fun e w' => e = .returned (.int .i64 r) ∧ w = w' := by
  subst hr
  rcases hm with ⟨rfl, rfl⟩ | ⟨rfl, rfl⟩ | ⟨rfl, rfl⟩
  all_goals
    unfold sgn
    split
    all_goals
      go_enter Try.func44, Try.ntmps44
      go_wp2
      go_ret
      exact ⟨rfl, rfl⟩
theorem bitsN_7_5 {n r : Int} (h1 : 0 ≤ n) (h2 : n < 4294967296) (hr : n / 128 % 32 = r) (w : World) : Calls Try.prog 32 #[.int .i64 n, .int .i64 7, .int .i64 5] w fun e w' => e = .returned (.int .i64 r) ∧ Drew w w' := by
  subst hr
  have ht : n % 4294967296 = n := by omega
  go_enter Try.func32, Try.ntmps32
  go_wp2
  go_quiet (fail)
  go_wp2
  go_ret
  exact ⟨ret_int (by omega), _, rfl⟩
theorem bitsN_15_5 {n r : Int} (h1 : 0 ≤ n) (h2 : n < 4294967296) (hr : n / 32768 % 32 = r) (w : World) : Calls Try.prog 32 #[.int .i64 n, .int .i64 15, .int .i64 5] w fun e w' => e = .returned (.int .i64 r) ∧ Drew w w' := by
  subst hr
  have ht : n % 4294967296 = n := by omega
  go_enter Try.func32, Try.ntmps32
  go_wp2
  go_quiet (fail)
  go_wp2
  go_ret
  exact ⟨ret_int (by omega), _, rfl⟩
theorem bitsN_20_5 {n r : Int} (h1 : 0 ≤ n) (h2 : n < 4294967296) (hr : n / 1048576 % 32 = r) (w : World) : Calls Try.prog 32 #[.int .i64 n, .int .i64 20, .int .i64 5] w fun e w' => e = .returned (.int .i64 r) ∧ Drew w w' := by
  subst hr
  have ht : n % 4294967296 = n := by omega
  go_enter Try.func32, Try.ntmps32
  go_wp2
  go_quiet (fail)
  go_wp2
  go_ret
  exact ⟨ret_int (by omega), _, rfl⟩
theorem bitsN_20_12 {n r : Int} (h1 : 0 ≤ n) (h2 : n < 4294967296) (hr : n / 1048576 % 4096 = r) (w : World) : Calls Try.prog 32 #[.int .i64 n, .int .i64 20, .int .i64 12] w fun e w' => e = .returned (.int .i64 r) ∧ Drew w w' := by
  subst hr
  have ht : n % 4294967296 = n := by omega
  go_enter Try.func32, Try.ntmps32
  go_wp2
  go_quiet (fail)
  go_wp2
  go_ret
  exact ⟨ret_int (by omega), _, rfl⟩
theorem bitsN_25_7 {n r : Int} (h1 : 0 ≤ n) (h2 : n < 4294967296) (hr : n / 33554432 % 128 = r) (w : World) : Calls Try.prog 32 #[.int .i64 n, .int .i64 25, .int .i64 7] w fun e w' => e = .returned (.int .i64 r) ∧ Drew w w' := by
  subst hr
  have ht : n % 4294967296 = n := by omega
  go_enter Try.func32, Try.ntmps32
  go_wp2
  go_quiet (fail)
  go_wp2
  go_ret
  exact ⟨ret_int (by omega), _, rfl⟩
theorem bitsN_8_4 {n r : Int} (h1 : 0 ≤ n) (h2 : n < 4294967296) (hr : n / 256 % 16 = r) (w : World) : Calls Try.prog 32 #[.int .i64 n, .int .i64 8, .int .i64 4] w fun e w' => e = .returned (.int .i64 r) ∧ Drew w w' := by
  subst hr
  have ht : n % 4294967296 = n := by omega
  go_enter Try.func32, Try.ntmps32
  go_wp2
  go_quiet (fail)
  go_wp2
  go_ret
  exact ⟨ret_int (by omega), _, rfl⟩
theorem bitsN_25_6 {n r : Int} (h1 : 0 ≤ n) (h2 : n < 4294967296) (hr : n / 33554432 % 64 = r) (w : World) : Calls Try.prog 32 #[.int .i64 n, .int .i64 25, .int .i64 6] w fun e w' => e = .returned (.int .i64 r) ∧ Drew w w' := by
  subst hr
  have ht : n % 4294967296 = n := by omega
  go_enter Try.func32, Try.ntmps32
  go_wp2
  go_quiet (fail)
  go_wp2
  go_ret
  exact ⟨ret_int (by omega), _, rfl⟩
theorem bitsN_7_1 {n r : Int} (h1 : 0 ≤ n) (h2 : n < 4294967296) (hr : n / 128 % 2 = r) (w : World) : Calls Try.prog 32 #[.int .i64 n, .int .i64 7, .int .i64 1] w fun e w' => e = .returned (.int .i64 r) ∧ Drew w w' := by
  subst hr
  have ht : n % 4294967296 = n := by omega
  go_enter Try.func32, Try.ntmps32
  go_wp2
  go_quiet (fail)
  go_wp2
  go_ret
  exact ⟨ret_int (by omega), _, rfl⟩
theorem bitsN_31_1 {n r : Int} (h1 : 0 ≤ n) (h2 : n < 4294967296) (hr : n / 2147483648 % 2 = r) (w : World) : Calls Try.prog 32 #[.int .i64 n, .int .i64 31, .int .i64 1] w fun e w' => e = .returned (.int .i64 r) ∧ Drew w w' := by
  subst hr
  have ht : n % 4294967296 = n := by omega
  go_enter Try.func32, Try.ntmps32
  go_wp2
  go_quiet (fail)
  go_wp2
  go_ret
  exact ⟨ret_int (by omega), _, rfl⟩
theorem bitsN_12_20 {n r : Int} (h1 : 0 ≤ n) (h2 : n < 4294967296) (hr : n / 4096 % 1048576 = r) (w : World) : Calls Try.prog 32 #[.int .i64 n, .int .i64 12, .int .i64 20] w fun e w' => e = .returned (.int .i64 r) ∧ Drew w w' := by
  subst hr
  have ht : n % 4294967296 = n := by omega
  go_enter Try.func32, Try.ntmps32
  go_wp2
  go_quiet (fail)
  go_wp2
  go_ret
  exact ⟨ret_int (by omega), _, rfl⟩
theorem bitsN_21_10 {n r : Int} (h1 : 0 ≤ n) (h2 : n < 4294967296) (hr : n / 2097152 % 1024 = r) (w : World) : Calls Try.prog 32 #[.int .i64 n, .int .i64 21, .int .i64 10] w fun e w' => e = .returned (.int .i64 r) ∧ Drew w w' := by
  subst hr
  have ht : n % 4294967296 = n := by omega
  go_enter Try.func32, Try.ntmps32
  go_wp2
  go_quiet (fail)
  go_wp2
  go_ret
  exact ⟨ret_int (by omega), _, rfl⟩
theorem bitsN_20_1 {n r : Int} (h1 : 0 ≤ n) (h2 : n < 4294967296) (hr : n / 1048576 % 2 = r) (w : World) : Calls Try.prog 32 #[.int .i64 n, .int .i64 20, .int .i64 1] w fun e w' => e = .returned (.int .i64 r) ∧ Drew w w' := by
  subst hr
  have ht : n % 4294967296 = n := by omega
  go_enter Try.func32, Try.ntmps32
  go_wp2
  go_quiet (fail)
  go_wp2
  go_ret
  exact ⟨ret_int (by omega), _, rfl⟩
theorem bitsN_12_8 {n r : Int} (h1 : 0 ≤ n) (h2 : n < 4294967296) (hr : n / 4096 % 256 = r) (w : World) : Calls Try.prog 32 #[.int .i64 n, .int .i64 12, .int .i64 8] w fun e w' => e = .returned (.int .i64 r) ∧ Drew w w' := by
  subst hr
  have ht : n % 4294967296 = n := by omega
  go_enter Try.func32, Try.ntmps32
  go_wp2
  go_quiet (fail)
  go_wp2
  go_ret
  exact ⟨ret_int (by omega), _, rfl⟩
theorem bitsN_20_8 {n r : Int} (h1 : 0 ≤ n) (h2 : n < 4294967296) (hr : n / 1048576 % 256 = r) (w : World) : Calls Try.prog 32 #[.int .i64 n, .int .i64 20, .int .i64 8] w fun e w' => e = .returned (.int .i64 r) ∧ Drew w w' := by
  subst hr
  have ht : n % 4294967296 = n := by omega
  go_enter Try.func32, Try.ntmps32
  go_wp2
  go_quiet (fail)
  go_wp2
  go_ret
  exact ⟨ret_int (by omega), _, rfl⟩
theorem bitsN_25_2 {n r : Int} (h1 : 0 ≤ n) (h2 : n < 4294967296) (hr : n / 33554432 % 4 = r) (w : World) : Calls Try.prog 32 #[.int .i64 n, .int .i64 25, .int .i64 2] w fun e w' => e = .returned (.int .i64 r) ∧ Drew w w' := by
  subst hr
  have ht : n % 4294967296 = n := by omega
  go_enter Try.func32, Try.ntmps32
  go_wp2
  go_quiet (fail)
  go_wp2
  go_ret
  exact ⟨ret_int (by omega), _, rfl⟩
end Go.Proofs.Ytphnagkicboglaa
