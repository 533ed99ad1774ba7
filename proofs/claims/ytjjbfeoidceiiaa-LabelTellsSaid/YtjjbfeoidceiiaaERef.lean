/- What bits and signed of the document's own answer answer. -/
import Derived.Test.YtjjbfeoidceiiaaDDec
namespace Go.Proofs.Ytjjbfeoidceiiaa
open Go.RowKit Rv
set_option linter.unusedVariables false
theorem tmod_small {n : Int} (h1 : -4294967296 < n) (h2 : n < 4294967296) : n.tmod 4294967296 = n := by
  have := Int.mul_tdiv_add_tmod n 4294967296
  rcases Int.le_total 0 n with h | h
  · rw [Int.tmod_eq_emod_of_nonneg h]
    omega
  · obtain ⟨k, rfl⟩ : ∃ k, n = -k := ⟨-n, by omega⟩
    rw [Int.neg_tmod, Int.tmod_eq_emod_of_nonneg (by omega)]
    omega
theorem bits_0_12 {n r : Int} (h1 : -4294967296 < n) (h2 : n < 4294967296) (hr : n / 1 % 4096 = r) (w : World) : Calls Try.prog 70 #[.int .i64 n, .int .i64 0, .int .i64 12] w fun e w' => e = .returned (.int .i64 r) ∧ Both w w' := by
  subst hr
  by_cases h0 : n < 0
  · have ht := tmod_small h1 h2
    have hn : n / 1 % 4096 = (n + 4294967296) / 1 % 4096 := by omega
    have HN := Lib.hid hn
    clear hn
    go_enter Try.func70, Try.ntmps70
    go_wp2
    go_quiet (fail)
    go_wp2
    go_ret
    exact ⟨ret_int (by have := HN.out; omega), (Both.refl w).drewN _⟩
  · have ht : n % 4294967296 = n := by omega
    go_enter Try.func70, Try.ntmps70
    go_wp2
    go_quiet (fail)
    go_wp2
    go_ret
    exact ⟨ret_int (by omega), (Both.refl w).drewN _⟩
theorem bits_0_5 {n r : Int} (h1 : -4294967296 < n) (h2 : n < 4294967296) (hr : n / 1 % 32 = r) (w : World) : Calls Try.prog 70 #[.int .i64 n, .int .i64 0, .int .i64 5] w fun e w' => e = .returned (.int .i64 r) ∧ Both w w' := by
  subst hr
  by_cases h0 : n < 0
  · have ht := tmod_small h1 h2
    have hn : n / 1 % 32 = (n + 4294967296) / 1 % 32 := by omega
    have HN := Lib.hid hn
    clear hn
    go_enter Try.func70, Try.ntmps70
    go_wp2
    go_quiet (fail)
    go_wp2
    go_ret
    exact ⟨ret_int (by have := HN.out; omega), (Both.refl w).drewN _⟩
  · have ht : n % 4294967296 = n := by omega
    go_enter Try.func70, Try.ntmps70
    go_wp2
    go_quiet (fail)
    go_wp2
    go_ret
    exact ⟨ret_int (by omega), (Both.refl w).drewN _⟩
theorem bits_5_7 {n r : Int} (h1 : -4294967296 < n) (h2 : n < 4294967296) (hr : n / 32 % 128 = r) (w : World) : Calls Try.prog 70 #[.int .i64 n, .int .i64 5, .int .i64 7] w fun e w' => e = .returned (.int .i64 r) ∧ Both w w' := by
  subst hr
  by_cases h0 : n < 0
  · have ht := tmod_small h1 h2
    have hn : n / 32 % 128 = (n + 4294967296) / 32 % 128 := by omega
    have HN := Lib.hid hn
    clear hn
    go_enter Try.func70, Try.ntmps70
    go_wp2
    go_quiet (fail)
    go_wp2
    go_ret
    exact ⟨ret_int (by have := HN.out; omega), (Both.refl w).drewN _⟩
  · have ht : n % 4294967296 = n := by omega
    go_enter Try.func70, Try.ntmps70
    go_wp2
    go_quiet (fail)
    go_wp2
    go_ret
    exact ⟨ret_int (by omega), (Both.refl w).drewN _⟩
theorem bits_11_1 {n r : Int} (h1 : -4294967296 < n) (h2 : n < 4294967296) (hr : n / 2048 % 2 = r) (w : World) : Calls Try.prog 70 #[.int .i64 n, .int .i64 11, .int .i64 1] w fun e w' => e = .returned (.int .i64 r) ∧ Both w w' := by
  subst hr
  by_cases h0 : n < 0
  · have ht := tmod_small h1 h2
    have hn : n / 2048 % 2 = (n + 4294967296) / 2048 % 2 := by omega
    have HN := Lib.hid hn
    clear hn
    go_enter Try.func70, Try.ntmps70
    go_wp2
    go_quiet (fail)
    go_wp2
    go_ret
    exact ⟨ret_int (by have := HN.out; omega), (Both.refl w).drewN _⟩
  · have ht : n % 4294967296 = n := by omega
    go_enter Try.func70, Try.ntmps70
    go_wp2
    go_quiet (fail)
    go_wp2
    go_ret
    exact ⟨ret_int (by omega), (Both.refl w).drewN _⟩
theorem bits_1_4 {n r : Int} (h1 : -4294967296 < n) (h2 : n < 4294967296) (hr : n / 2 % 16 = r) (w : World) : Calls Try.prog 70 #[.int .i64 n, .int .i64 1, .int .i64 4] w fun e w' => e = .returned (.int .i64 r) ∧ Both w w' := by
  subst hr
  by_cases h0 : n < 0
  · have ht := tmod_small h1 h2
    have hn : n / 2 % 16 = (n + 4294967296) / 2 % 16 := by omega
    have HN := Lib.hid hn
    clear hn
    go_enter Try.func70, Try.ntmps70
    go_wp2
    go_quiet (fail)
    go_wp2
    go_ret
    exact ⟨ret_int (by have := HN.out; omega), (Both.refl w).drewN _⟩
  · have ht : n % 4294967296 = n := by omega
    go_enter Try.func70, Try.ntmps70
    go_wp2
    go_quiet (fail)
    go_wp2
    go_ret
    exact ⟨ret_int (by omega), (Both.refl w).drewN _⟩
theorem bits_5_6 {n r : Int} (h1 : -4294967296 < n) (h2 : n < 4294967296) (hr : n / 32 % 64 = r) (w : World) : Calls Try.prog 70 #[.int .i64 n, .int .i64 5, .int .i64 6] w fun e w' => e = .returned (.int .i64 r) ∧ Both w w' := by
  subst hr
  by_cases h0 : n < 0
  · have ht := tmod_small h1 h2
    have hn : n / 32 % 64 = (n + 4294967296) / 32 % 64 := by omega
    have HN := Lib.hid hn
    clear hn
    go_enter Try.func70, Try.ntmps70
    go_wp2
    go_quiet (fail)
    go_wp2
    go_ret
    exact ⟨ret_int (by have := HN.out; omega), (Both.refl w).drewN _⟩
  · have ht : n % 4294967296 = n := by omega
    go_enter Try.func70, Try.ntmps70
    go_wp2
    go_quiet (fail)
    go_wp2
    go_ret
    exact ⟨ret_int (by omega), (Both.refl w).drewN _⟩
theorem bits_12_1 {n r : Int} (h1 : -4294967296 < n) (h2 : n < 4294967296) (hr : n / 4096 % 2 = r) (w : World) : Calls Try.prog 70 #[.int .i64 n, .int .i64 12, .int .i64 1] w fun e w' => e = .returned (.int .i64 r) ∧ Both w w' := by
  subst hr
  by_cases h0 : n < 0
  · have ht := tmod_small h1 h2
    have hn : n / 4096 % 2 = (n + 4294967296) / 4096 % 2 := by omega
    have HN := Lib.hid hn
    clear hn
    go_enter Try.func70, Try.ntmps70
    go_wp2
    go_quiet (fail)
    go_wp2
    go_ret
    exact ⟨ret_int (by have := HN.out; omega), (Both.refl w).drewN _⟩
  · have ht : n % 4294967296 = n := by omega
    go_enter Try.func70, Try.ntmps70
    go_wp2
    go_quiet (fail)
    go_wp2
    go_ret
    exact ⟨ret_int (by omega), (Both.refl w).drewN _⟩
theorem bits_12_8 {n r : Int} (h1 : -4294967296 < n) (h2 : n < 4294967296) (hr : n / 4096 % 256 = r) (w : World) : Calls Try.prog 70 #[.int .i64 n, .int .i64 12, .int .i64 8] w fun e w' => e = .returned (.int .i64 r) ∧ Both w w' := by
  subst hr
  by_cases h0 : n < 0
  · have ht := tmod_small h1 h2
    have hn : n / 4096 % 256 = (n + 4294967296) / 4096 % 256 := by omega
    have HN := Lib.hid hn
    clear hn
    go_enter Try.func70, Try.ntmps70
    go_wp2
    go_quiet (fail)
    go_wp2
    go_ret
    exact ⟨ret_int (by have := HN.out; omega), (Both.refl w).drewN _⟩
  · have ht : n % 4294967296 = n := by omega
    go_enter Try.func70, Try.ntmps70
    go_wp2
    go_quiet (fail)
    go_wp2
    go_ret
    exact ⟨ret_int (by omega), (Both.refl w).drewN _⟩
theorem bits_1_10 {n r : Int} (h1 : -4294967296 < n) (h2 : n < 4294967296) (hr : n / 2 % 1024 = r) (w : World) : Calls Try.prog 70 #[.int .i64 n, .int .i64 1, .int .i64 10] w fun e w' => e = .returned (.int .i64 r) ∧ Both w w' := by
  subst hr
  by_cases h0 : n < 0
  · have ht := tmod_small h1 h2
    have hn : n / 2 % 1024 = (n + 4294967296) / 2 % 1024 := by omega
    have HN := Lib.hid hn
    clear hn
    go_enter Try.func70, Try.ntmps70
    go_wp2
    go_quiet (fail)
    go_wp2
    go_ret
    exact ⟨ret_int (by have := HN.out; omega), (Both.refl w).drewN _⟩
  · have ht : n % 4294967296 = n := by omega
    go_enter Try.func70, Try.ntmps70
    go_wp2
    go_quiet (fail)
    go_wp2
    go_ret
    exact ⟨ret_int (by omega), (Both.refl w).drewN _⟩
theorem bits_20_1 {n r : Int} (h1 : -4294967296 < n) (h2 : n < 4294967296) (hr : n / 1048576 % 2 = r) (w : World) : Calls Try.prog 70 #[.int .i64 n, .int .i64 20, .int .i64 1] w fun e w' => e = .returned (.int .i64 r) ∧ Both w w' := by
  subst hr
  by_cases h0 : n < 0
  · have ht := tmod_small h1 h2
    have hn : n / 1048576 % 2 = (n + 4294967296) / 1048576 % 2 := by omega
    have HN := Lib.hid hn
    clear hn
    go_enter Try.func70, Try.ntmps70
    go_wp2
    go_quiet (fail)
    go_wp2
    go_ret
    exact ⟨ret_int (by have := HN.out; omega), (Both.refl w).drewN _⟩
  · have ht : n % 4294967296 = n := by omega
    go_enter Try.func70, Try.ntmps70
    go_wp2
    go_quiet (fail)
    go_wp2
    go_ret
    exact ⟨ret_int (by omega), (Both.refl w).drewN _⟩
theorem bits_7_5 {n r : Int} (h1 : -4294967296 < n) (h2 : n < 4294967296) (hr : n / 128 % 32 = r) (w : World) : Calls Try.prog 70 #[.int .i64 n, .int .i64 7, .int .i64 5] w fun e w' => e = .returned (.int .i64 r) ∧ Both w w' := by
  subst hr
  by_cases h0 : n < 0
  · have ht := tmod_small h1 h2
    have hn : n / 128 % 32 = (n + 4294967296) / 128 % 32 := by omega
    have HN := Lib.hid hn
    clear hn
    go_enter Try.func70, Try.ntmps70
    go_wp2
    go_quiet (fail)
    go_wp2
    go_ret
    exact ⟨ret_int (by have := HN.out; omega), (Both.refl w).drewN _⟩
  · have ht : n % 4294967296 = n := by omega
    go_enter Try.func70, Try.ntmps70
    go_wp2
    go_quiet (fail)
    go_wp2
    go_ret
    exact ⟨ret_int (by omega), (Both.refl w).drewN _⟩
theorem bits_15_5 {n r : Int} (h1 : -4294967296 < n) (h2 : n < 4294967296) (hr : n / 32768 % 32 = r) (w : World) : Calls Try.prog 70 #[.int .i64 n, .int .i64 15, .int .i64 5] w fun e w' => e = .returned (.int .i64 r) ∧ Both w w' := by
  subst hr
  by_cases h0 : n < 0
  · have ht := tmod_small h1 h2
    have hn : n / 32768 % 32 = (n + 4294967296) / 32768 % 32 := by omega
    have HN := Lib.hid hn
    clear hn
    go_enter Try.func70, Try.ntmps70
    go_wp2
    go_quiet (fail)
    go_wp2
    go_ret
    exact ⟨ret_int (by have := HN.out; omega), (Both.refl w).drewN _⟩
  · have ht : n % 4294967296 = n := by omega
    go_enter Try.func70, Try.ntmps70
    go_wp2
    go_quiet (fail)
    go_wp2
    go_ret
    exact ⟨ret_int (by omega), (Both.refl w).drewN _⟩
theorem bits_20_5 {n r : Int} (h1 : -4294967296 < n) (h2 : n < 4294967296) (hr : n / 1048576 % 32 = r) (w : World) : Calls Try.prog 70 #[.int .i64 n, .int .i64 20, .int .i64 5] w fun e w' => e = .returned (.int .i64 r) ∧ Both w w' := by
  subst hr
  by_cases h0 : n < 0
  · have ht := tmod_small h1 h2
    have hn : n / 1048576 % 32 = (n + 4294967296) / 1048576 % 32 := by omega
    have HN := Lib.hid hn
    clear hn
    go_enter Try.func70, Try.ntmps70
    go_wp2
    go_quiet (fail)
    go_wp2
    go_ret
    exact ⟨ret_int (by have := HN.out; omega), (Both.refl w).drewN _⟩
  · have ht : n % 4294967296 = n := by omega
    go_enter Try.func70, Try.ntmps70
    go_wp2
    go_quiet (fail)
    go_wp2
    go_ret
    exact ⟨ret_int (by omega), (Both.refl w).drewN _⟩
theorem bits_20_12 {n r : Int} (h1 : -4294967296 < n) (h2 : n < 4294967296) (hr : n / 1048576 % 4096 = r) (w : World) : Calls Try.prog 70 #[.int .i64 n, .int .i64 20, .int .i64 12] w fun e w' => e = .returned (.int .i64 r) ∧ Both w w' := by
  subst hr
  by_cases h0 : n < 0
  · have ht := tmod_small h1 h2
    have hn : n / 1048576 % 4096 = (n + 4294967296) / 1048576 % 4096 := by omega
    have HN := Lib.hid hn
    clear hn
    go_enter Try.func70, Try.ntmps70
    go_wp2
    go_quiet (fail)
    go_wp2
    go_ret
    exact ⟨ret_int (by have := HN.out; omega), (Both.refl w).drewN _⟩
  · have ht : n % 4294967296 = n := by omega
    go_enter Try.func70, Try.ntmps70
    go_wp2
    go_quiet (fail)
    go_wp2
    go_ret
    exact ⟨ret_int (by omega), (Both.refl w).drewN _⟩
theorem bits_25_7 {n r : Int} (h1 : -4294967296 < n) (h2 : n < 4294967296) (hr : n / 33554432 % 128 = r) (w : World) : Calls Try.prog 70 #[.int .i64 n, .int .i64 25, .int .i64 7] w fun e w' => e = .returned (.int .i64 r) ∧ Both w w' := by
  subst hr
  by_cases h0 : n < 0
  · have ht := tmod_small h1 h2
    have hn : n / 33554432 % 128 = (n + 4294967296) / 33554432 % 128 := by omega
    have HN := Lib.hid hn
    clear hn
    go_enter Try.func70, Try.ntmps70
    go_wp2
    go_quiet (fail)
    go_wp2
    go_ret
    exact ⟨ret_int (by have := HN.out; omega), (Both.refl w).drewN _⟩
  · have ht : n % 4294967296 = n := by omega
    go_enter Try.func70, Try.ntmps70
    go_wp2
    go_quiet (fail)
    go_wp2
    go_ret
    exact ⟨ret_int (by omega), (Both.refl w).drewN _⟩
theorem bits_8_4 {n r : Int} (h1 : -4294967296 < n) (h2 : n < 4294967296) (hr : n / 256 % 16 = r) (w : World) : Calls Try.prog 70 #[.int .i64 n, .int .i64 8, .int .i64 4] w fun e w' => e = .returned (.int .i64 r) ∧ Both w w' := by
  subst hr
  by_cases h0 : n < 0
  · have ht := tmod_small h1 h2
    have hn : n / 256 % 16 = (n + 4294967296) / 256 % 16 := by omega
    have HN := Lib.hid hn
    clear hn
    go_enter Try.func70, Try.ntmps70
    go_wp2
    go_quiet (fail)
    go_wp2
    go_ret
    exact ⟨ret_int (by have := HN.out; omega), (Both.refl w).drewN _⟩
  · have ht : n % 4294967296 = n := by omega
    go_enter Try.func70, Try.ntmps70
    go_wp2
    go_quiet (fail)
    go_wp2
    go_ret
    exact ⟨ret_int (by omega), (Both.refl w).drewN _⟩
theorem bits_25_6 {n r : Int} (h1 : -4294967296 < n) (h2 : n < 4294967296) (hr : n / 33554432 % 64 = r) (w : World) : Calls Try.prog 70 #[.int .i64 n, .int .i64 25, .int .i64 6] w fun e w' => e = .returned (.int .i64 r) ∧ Both w w' := by
  subst hr
  by_cases h0 : n < 0
  · have ht := tmod_small h1 h2
    have hn : n / 33554432 % 64 = (n + 4294967296) / 33554432 % 64 := by omega
    have HN := Lib.hid hn
    clear hn
    go_enter Try.func70, Try.ntmps70
    go_wp2
    go_quiet (fail)
    go_wp2
    go_ret
    exact ⟨ret_int (by have := HN.out; omega), (Both.refl w).drewN _⟩
  · have ht : n % 4294967296 = n := by omega
    go_enter Try.func70, Try.ntmps70
    go_wp2
    go_quiet (fail)
    go_wp2
    go_ret
    exact ⟨ret_int (by omega), (Both.refl w).drewN _⟩
theorem bits_7_1 {n r : Int} (h1 : -4294967296 < n) (h2 : n < 4294967296) (hr : n / 128 % 2 = r) (w : World) : Calls Try.prog 70 #[.int .i64 n, .int .i64 7, .int .i64 1] w fun e w' => e = .returned (.int .i64 r) ∧ Both w w' := by
  subst hr
  by_cases h0 : n < 0
  · have ht := tmod_small h1 h2
    have hn : n / 128 % 2 = (n + 4294967296) / 128 % 2 := by omega
    have HN := Lib.hid hn
    clear hn
    go_enter Try.func70, Try.ntmps70
    go_wp2
    go_quiet (fail)
    go_wp2
    go_ret
    exact ⟨ret_int (by have := HN.out; omega), (Both.refl w).drewN _⟩
  · have ht : n % 4294967296 = n := by omega
    go_enter Try.func70, Try.ntmps70
    go_wp2
    go_quiet (fail)
    go_wp2
    go_ret
    exact ⟨ret_int (by omega), (Both.refl w).drewN _⟩
theorem bits_31_1 {n r : Int} (h1 : -4294967296 < n) (h2 : n < 4294967296) (hr : n / 2147483648 % 2 = r) (w : World) : Calls Try.prog 70 #[.int .i64 n, .int .i64 31, .int .i64 1] w fun e w' => e = .returned (.int .i64 r) ∧ Both w w' := by
  subst hr
  by_cases h0 : n < 0
  · have ht := tmod_small h1 h2
    have hn : n / 2147483648 % 2 = (n + 4294967296) / 2147483648 % 2 := by omega
    have HN := Lib.hid hn
    clear hn
    go_enter Try.func70, Try.ntmps70
    go_wp2
    go_quiet (fail)
    go_wp2
    go_ret
    exact ⟨ret_int (by have := HN.out; omega), (Both.refl w).drewN _⟩
  · have ht : n % 4294967296 = n := by omega
    go_enter Try.func70, Try.ntmps70
    go_wp2
    go_quiet (fail)
    go_wp2
    go_ret
    exact ⟨ret_int (by omega), (Both.refl w).drewN _⟩
theorem bits_12_20 {n r : Int} (h1 : -4294967296 < n) (h2 : n < 4294967296) (hr : n / 4096 % 1048576 = r) (w : World) : Calls Try.prog 70 #[.int .i64 n, .int .i64 12, .int .i64 20] w fun e w' => e = .returned (.int .i64 r) ∧ Both w w' := by
  subst hr
  by_cases h0 : n < 0
  · have ht := tmod_small h1 h2
    have hn : n / 4096 % 1048576 = (n + 4294967296) / 4096 % 1048576 := by omega
    have HN := Lib.hid hn
    clear hn
    go_enter Try.func70, Try.ntmps70
    go_wp2
    go_quiet (fail)
    go_wp2
    go_ret
    exact ⟨ret_int (by have := HN.out; omega), (Both.refl w).drewN _⟩
  · have ht : n % 4294967296 = n := by omega
    go_enter Try.func70, Try.ntmps70
    go_wp2
    go_quiet (fail)
    go_wp2
    go_ret
    exact ⟨ret_int (by omega), (Both.refl w).drewN _⟩
theorem bits_21_10 {n r : Int} (h1 : -4294967296 < n) (h2 : n < 4294967296) (hr : n / 2097152 % 1024 = r) (w : World) : Calls Try.prog 70 #[.int .i64 n, .int .i64 21, .int .i64 10] w fun e w' => e = .returned (.int .i64 r) ∧ Both w w' := by
  subst hr
  by_cases h0 : n < 0
  · have ht := tmod_small h1 h2
    have hn : n / 2097152 % 1024 = (n + 4294967296) / 2097152 % 1024 := by omega
    have HN := Lib.hid hn
    clear hn
    go_enter Try.func70, Try.ntmps70
    go_wp2
    go_quiet (fail)
    go_wp2
    go_ret
    exact ⟨ret_int (by have := HN.out; omega), (Both.refl w).drewN _⟩
  · have ht : n % 4294967296 = n := by omega
    go_enter Try.func70, Try.ntmps70
    go_wp2
    go_quiet (fail)
    go_wp2
    go_ret
    exact ⟨ret_int (by omega), (Both.refl w).drewN _⟩
theorem bits_20_8 {n r : Int} (h1 : -4294967296 < n) (h2 : n < 4294967296) (hr : n / 1048576 % 256 = r) (w : World) : Calls Try.prog 70 #[.int .i64 n, .int .i64 20, .int .i64 8] w fun e w' => e = .returned (.int .i64 r) ∧ Both w w' := by
  subst hr
  by_cases h0 : n < 0
  · have ht := tmod_small h1 h2
    have hn : n / 1048576 % 256 = (n + 4294967296) / 1048576 % 256 := by omega
    have HN := Lib.hid hn
    clear hn
    go_enter Try.func70, Try.ntmps70
    go_wp2
    go_quiet (fail)
    go_wp2
    go_ret
    exact ⟨ret_int (by have := HN.out; omega), (Both.refl w).drewN _⟩
  · have ht : n % 4294967296 = n := by omega
    go_enter Try.func70, Try.ntmps70
    go_wp2
    go_quiet (fail)
    go_wp2
    go_ret
    exact ⟨ret_int (by omega), (Both.refl w).drewN _⟩
theorem bits_25_2 {n r : Int} (h1 : -4294967296 < n) (h2 : n < 4294967296) (hr : n / 33554432 % 4 = r) (w : World) : Calls Try.prog 70 #[.int .i64 n, .int .i64 25, .int .i64 2] w fun e w' => e = .returned (.int .i64 r) ∧ Both w w' := by
  subst hr
  by_cases h0 : n < 0
  · have ht := tmod_small h1 h2
    have hn : n / 33554432 % 4 = (n + 4294967296) / 33554432 % 4 := by omega
    have HN := Lib.hid hn
    clear hn
    go_enter Try.func70, Try.ntmps70
    go_wp2
    go_quiet (fail)
    go_wp2
    go_ret
    exact ⟨ret_int (by have := HN.out; omega), (Both.refl w).drewN _⟩
  · have ht : n % 4294967296 = n := by omega
    go_enter Try.func70, Try.ntmps70
    go_wp2
    go_quiet (fail)
    go_wp2
    go_ret
    exact ⟨ret_int (by omega), (Both.refl w).drewN _⟩
end Go.Proofs.Ytjjbfeoidceiiaa
