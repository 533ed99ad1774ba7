/- What each function of the document's own answer for layer 1 answers: the same plain functions as package wrap's. -/
import Derived.Test.YtgcgdjmlngfpeaaDoorAwake
import Derived.Test.YtgcgdjmlngfpeaaDoorLemmas
namespace Go.Proofs.YtgcgdjmlngfpeaaDoor
open Go.RowKit Plain
set_option linter.unusedVariables false

theorem rword_any (n : Int) (w : World) : Calls Tryd.prog 68 #[.int .i64 n] w fun e w' => e = .returned (.int .i64 (n % 4294967296)) ∧ w = w' := by
  obtain ⟨t, ht⟩ : ∃ t, n.tmod 4294967296 = t := ⟨_, rfl⟩
  have e := Int.mul_tdiv_add_tmod n 4294967296
  have r := rem_abs (x := n) (y := 4294967296) (by decide)
  rw [ht] at e r
  generalize n.tdiv 4294967296 = q at e
  have hb : -4294967296 < t ∧ t < 4294967296 := by omega
  have hc : n % 4294967296 = if t < 0 then t + 4294967296 else t := by split <;> omega
  clear e r
  obtain ⟨b1, b2⟩ := hb
  by_cases h : t < 0
  · rw [if_pos h] at hc
    have HC := Lib.hid hc.symm
    clear hc
    go_enter Tryd.func68, Tryd.ntmps68
    go_wp2
    go_ret
    exact ⟨ret_int1 HC.out, rfl⟩
  · rw [if_neg h] at hc
    have HC := Lib.hid hc.symm
    clear hc
    go_enter Tryd.func68, Tryd.ntmps68
    go_wp2
    go_ret
    exact ⟨ret_int1 HC.out, rfl⟩
theorem rwrap_any (n : Int) (w : World) : Calls Tryd.prog 41 #[.int .i64 n] w fun e w' => e = .returned (.int .i64 (wrap32 n)) ∧ w = w' := by
  obtain ⟨t, ht⟩ : ∃ t, n % 4294967296 = t := ⟨_, rfl⟩
  have hb : 0 ≤ t ∧ t < 4294967296 := by omega
  have hc : wrap32 n = if 2147483648 ≤ t then t - 4294967296 else t := by unfold wrap32; split <;> omega
  obtain ⟨b1, b2⟩ := hb
  have hw : ∀ W, Calls Tryd.prog 68 #[.int .i64 n] W fun e w' => e = .returned (.int .i64 t) ∧ W = w' := by
    intro W
    rw [← ht]
    exact rword_any n W
  have HW := Lib.hid hw
  clear hw ht
  by_cases h : 2147483648 ≤ t
  · rw [if_pos h] at hc
    have HC := Lib.hid hc.symm
    clear hc
    go_enter Tryd.func41, Tryd.ntmps41
    go_wp2_with (go_at_call 68; refine (HW.out _).mono ?_; rintro e w' ⟨rfl, rfl⟩)
    go_ret
    exact ⟨ret_int1 HC.out, rfl⟩
  · rw [if_neg h] at hc
    have HC := Lib.hid hc.symm
    clear hc
    go_enter Tryd.func41, Tryd.ntmps41
    go_wp2_with (go_at_call 68; refine (HW.out _).mono ?_; rintro e w' ⟨rfl, rfl⟩)
    go_ret
    exact ⟨ret_int1 HC.out, rfl⟩
theorem bit_t (w : World) : Calls Tryd.prog 77 #[.bool true] w fun e w' => e = .returned (.int .i64 1) ∧ w = w' := by
  go_enter Tryd.func77, Tryd.ntmps77
  go_wp2
  go_ret
  exact ⟨rfl, rfl⟩
theorem bit_f (w : World) : Calls Tryd.prog 77 #[.bool false] w fun e w' => e = .returned (.int .i64 0) ∧ w = w' := by
  go_enter Tryd.func77, Tryd.ntmps77
  go_wp2
  go_ret
  exact ⟨rfl, rfl⟩
/-! PLAIN: of two numbers of 32 bits, operator by operator -/
theorem plain_add (x y : Int) (x1 : -2147483648 ≤ x) (x2 : x ≤ 2147483647) (y1 : -2147483648 ≤ y) (y2 : y ≤ 2147483647) (w : World) : Calls Tryd.prog 69 #[.int .i64 1, .int .i64 x, .int .i64 y] w fun e w' => e = .returned (.tuple #[.int .i64 (x + y), .bool true]) ∧ w = w' := by
  go_enter Tryd.func69, Tryd.ntmps69
  go_wp2_with (first | (go_at_call 77; ((with_reducible refine (bit_t _).mono ?_); rintro e w' ⟨rfl, rfl⟩)) | (go_at_call 77; ((with_reducible refine (bit_f _).mono ?_); rintro e w' ⟨rfl, rfl⟩)) | (go_at_call 68; refine (rword_any _ _).mono ?_; rintro e w' ⟨rfl, rfl⟩))
  go_ret2
  exact ⟨ret_pair rfl rfl, rfl⟩
theorem plain_sub (x y : Int) (x1 : -2147483648 ≤ x) (x2 : x ≤ 2147483647) (y1 : -2147483648 ≤ y) (y2 : y ≤ 2147483647) (w : World) : Calls Tryd.prog 69 #[.int .i64 2, .int .i64 x, .int .i64 y] w fun e w' => e = .returned (.tuple #[.int .i64 (x - y), .bool true]) ∧ w = w' := by
  go_enter Tryd.func69, Tryd.ntmps69
  go_wp2_with (first | (go_at_call 77; ((with_reducible refine (bit_t _).mono ?_); rintro e w' ⟨rfl, rfl⟩)) | (go_at_call 77; ((with_reducible refine (bit_f _).mono ?_); rintro e w' ⟨rfl, rfl⟩)) | (go_at_call 68; refine (rword_any _ _).mono ?_; rintro e w' ⟨rfl, rfl⟩))
  go_ret2
  exact ⟨ret_pair rfl rfl, rfl⟩
theorem plain_mul (x y : Int) (x1 : -2147483648 ≤ x) (x2 : x ≤ 2147483647) (y1 : -2147483648 ≤ y) (y2 : y ≤ 2147483647) (w : World) : Calls Tryd.prog 69 #[.int .i64 3, .int .i64 x, .int .i64 y] w fun e w' => e = .returned (.tuple #[.int .i64 (x * y), .bool true]) ∧ w = w' := by
  obtain ⟨m1, m2⟩ := mul_bd (x := x) (y := y) ⟨x1, by omega⟩ ⟨y1, by omega⟩
  go_enter Tryd.func69, Tryd.ntmps69
  go_wp2_with (first | (go_at_call 77; ((with_reducible refine (bit_t _).mono ?_); rintro e w' ⟨rfl, rfl⟩)) | (go_at_call 77; ((with_reducible refine (bit_f _).mono ?_); rintro e w' ⟨rfl, rfl⟩)) | (go_at_call 68; refine (rword_any _ _).mono ?_; rintro e w' ⟨rfl, rfl⟩))
  go_ret2
  exact ⟨ret_pair rfl rfl, rfl⟩
theorem plain_div (x y : Int) (x1 : -2147483648 ≤ x) (x2 : x ≤ 2147483647) (y1 : -2147483648 ≤ y) (y2 : y ≤ 2147483647) (w : World) : Calls Tryd.prog 69 #[.int .i64 4, .int .i64 x, .int .i64 y] w fun e w' => e = .returned (.tuple #[.int .i64 (quot x y), .bool true]) ∧ w = w' := by
  by_cases hc : y = 0
  · have ht := Lib.hid (show (-1 : Int) = quot x y from (if_pos hc).symm)
    have hb : (y == 0) = true := beq_iff_eq.2 hc
    clear hc
    go_enter Tryd.func69, Tryd.ntmps69
    go_wp2_with (first | (go_at_call 77; ((with_reducible refine (bit_t _).mono ?_); rintro e w' ⟨rfl, rfl⟩)) | (go_at_call 77; ((with_reducible refine (bit_f _).mono ?_); rintro e w' ⟨rfl, rfl⟩)) | (go_at_call 68; refine (rword_any _ _).mono ?_; rintro e w' ⟨rfl, rfl⟩))
    go_ret2
    exact ⟨ret_pair ht.out rfl, rfl⟩
  · have ht := Lib.hid (show wrap64 (x.tdiv y) = quot x y by rw [quot, if_neg hc]; exact w64_in _ (by have := tdiv_bd x y ⟨x1, x2⟩; omega))
    have hb : (y == 0) = false := beq_eq_false_iff_ne.2 hc
    go_enter Tryd.func69, Tryd.ntmps69
    go_wp2_with (first | (go_at_call 77; ((with_reducible refine (bit_t _).mono ?_); rintro e w' ⟨rfl, rfl⟩)) | (go_at_call 77; ((with_reducible refine (bit_f _).mono ?_); rintro e w' ⟨rfl, rfl⟩)) | (go_at_call 68; refine (rword_any _ _).mono ?_; rintro e w' ⟨rfl, rfl⟩))
    go_ret2
    exact ⟨ret_pair ht.out rfl, rfl⟩
theorem plain_rem (x y : Int) (x1 : -2147483648 ≤ x) (x2 : x ≤ 2147483647) (y1 : -2147483648 ≤ y) (y2 : y ≤ 2147483647) (w : World) : Calls Tryd.prog 69 #[.int .i64 5, .int .i64 x, .int .i64 y] w fun e w' => e = .returned (.tuple #[.int .i64 (rem x y), .bool true]) ∧ w = w' := by
  by_cases hc : y = 0
  · have ht := Lib.hid (show x = rem x y from (if_pos hc).symm)
    have hb : (y == 0) = true := beq_iff_eq.2 hc
    clear hc
    go_enter Tryd.func69, Tryd.ntmps69
    go_wp2_with (first | (go_at_call 77; ((with_reducible refine (bit_t _).mono ?_); rintro e w' ⟨rfl, rfl⟩)) | (go_at_call 77; ((with_reducible refine (bit_f _).mono ?_); rintro e w' ⟨rfl, rfl⟩)) | (go_at_call 68; refine (rword_any _ _).mono ?_; rintro e w' ⟨rfl, rfl⟩))
    go_ret2
    exact ⟨ret_pair ht.out rfl, rfl⟩
  · have ht := Lib.hid (show x.tmod y = rem x y from (if_neg hc).symm)
    have hb : (y == 0) = false := beq_eq_false_iff_ne.2 hc
    go_enter Tryd.func69, Tryd.ntmps69
    go_wp2_with (first | (go_at_call 77; ((with_reducible refine (bit_t _).mono ?_); rintro e w' ⟨rfl, rfl⟩)) | (go_at_call 77; ((with_reducible refine (bit_f _).mono ?_); rintro e w' ⟨rfl, rfl⟩)) | (go_at_call 68; refine (rword_any _ _).mono ?_; rintro e w' ⟨rfl, rfl⟩))
    go_ret2
    exact ⟨ret_pair ht.out rfl, rfl⟩
theorem plain_and (x y : Int) (x1 : -2147483648 ≤ x) (x2 : x ≤ 2147483647) (y1 : -2147483648 ≤ y) (y2 : y ≤ 2147483647) (w : World) : Calls Tryd.prog 69 #[.int .i64 6, .int .i64 x, .int .i64 y] w fun e w' => e = .returned (.tuple #[.int .i64 (bits .and .i64 x y), .bool true]) ∧ w = w' := by
  go_enter Tryd.func69, Tryd.ntmps69
  go_wp2_with (first | (go_at_call 77; ((with_reducible refine (bit_t _).mono ?_); rintro e w' ⟨rfl, rfl⟩)) | (go_at_call 77; ((with_reducible refine (bit_f _).mono ?_); rintro e w' ⟨rfl, rfl⟩)) | (go_at_call 68; refine (rword_any _ _).mono ?_; rintro e w' ⟨rfl, rfl⟩))
  go_ret2
  exact ⟨ret_pair rfl rfl, rfl⟩
theorem plain_or (x y : Int) (x1 : -2147483648 ≤ x) (x2 : x ≤ 2147483647) (y1 : -2147483648 ≤ y) (y2 : y ≤ 2147483647) (w : World) : Calls Tryd.prog 69 #[.int .i64 7, .int .i64 x, .int .i64 y] w fun e w' => e = .returned (.tuple #[.int .i64 (bits .or .i64 x y), .bool true]) ∧ w = w' := by
  go_enter Tryd.func69, Tryd.ntmps69
  go_wp2_with (first | (go_at_call 77; ((with_reducible refine (bit_t _).mono ?_); rintro e w' ⟨rfl, rfl⟩)) | (go_at_call 77; ((with_reducible refine (bit_f _).mono ?_); rintro e w' ⟨rfl, rfl⟩)) | (go_at_call 68; refine (rword_any _ _).mono ?_; rintro e w' ⟨rfl, rfl⟩))
  go_ret2
  exact ⟨ret_pair rfl rfl, rfl⟩
theorem plain_xor (x y : Int) (x1 : -2147483648 ≤ x) (x2 : x ≤ 2147483647) (y1 : -2147483648 ≤ y) (y2 : y ≤ 2147483647) (w : World) : Calls Tryd.prog 69 #[.int .i64 8, .int .i64 x, .int .i64 y] w fun e w' => e = .returned (.tuple #[.int .i64 (bits .xor .i64 x y), .bool true]) ∧ w = w' := by
  go_enter Tryd.func69, Tryd.ntmps69
  go_wp2_with (first | (go_at_call 77; ((with_reducible refine (bit_t _).mono ?_); rintro e w' ⟨rfl, rfl⟩)) | (go_at_call 77; ((with_reducible refine (bit_f _).mono ?_); rintro e w' ⟨rfl, rfl⟩)) | (go_at_call 68; refine (rword_any _ _).mono ?_; rintro e w' ⟨rfl, rfl⟩))
  go_ret2
  exact ⟨ret_pair rfl rfl, rfl⟩
theorem plain_shl (x y : Int) (x1 : -2147483648 ≤ x) (x2 : x ≤ 2147483647) (y1 : -2147483648 ≤ y) (y2 : y ≤ 2147483647) (w : World) : Calls Tryd.prog 69 #[.int .i64 9, .int .i64 x, .int .i64 y] w fun e w' => e = .returned (.tuple #[.int .i64 (wrap64 (x * 2 ^ (y % 32).toNat)), .bool true]) ∧ w = w' := by
  have hm := and31 y
  go_enter Tryd.func69, Tryd.ntmps69
  go_wp2_with (first | (go_at_call 77; ((with_reducible refine (bit_t _).mono ?_); rintro e w' ⟨rfl, rfl⟩)) | (go_at_call 77; ((with_reducible refine (bit_f _).mono ?_); rintro e w' ⟨rfl, rfl⟩)) | (go_at_call 68; refine (rword_any _ _).mono ?_; rintro e w' ⟨rfl, rfl⟩))
  go_ret2
  exact ⟨ret_pair rfl rfl, rfl⟩
theorem plain_shr (x y : Int) (x1 : -2147483648 ≤ x) (x2 : x ≤ 2147483647) (y1 : -2147483648 ≤ y) (y2 : y ≤ 2147483647) (w : World) : Calls Tryd.prog 69 #[.int .i64 10, .int .i64 x, .int .i64 y] w fun e w' => e = .returned (.tuple #[.int .i64 (x / 2 ^ (y % 32).toNat), .bool true]) ∧ w = w' := by
  have hm := and31 y
  go_enter Tryd.func69, Tryd.ntmps69
  go_wp2_with (first | (go_at_call 77; ((with_reducible refine (bit_t _).mono ?_); rintro e w' ⟨rfl, rfl⟩)) | (go_at_call 77; ((with_reducible refine (bit_f _).mono ?_); rintro e w' ⟨rfl, rfl⟩)) | (go_at_call 68; refine (rword_any _ _).mono ?_; rintro e w' ⟨rfl, rfl⟩))
  go_ret2
  exact ⟨ret_pair rfl rfl, rfl⟩
theorem plain_lt (x y : Int) (x1 : -2147483648 ≤ x) (x2 : x ≤ 2147483647) (y1 : -2147483648 ≤ y) (y2 : y ≤ 2147483647) (w : World) : Calls Tryd.prog 69 #[.int .i64 11, .int .i64 x, .int .i64 y] w fun e w' => e = .returned (.tuple #[.int .i64 (tr (x < y)), .bool true]) ∧ w = w' := by
  by_cases hc : x < y
  · have ht := Lib.hid (show (1 : Int) = tr (x < y) by rw [tr, if_pos hc])
    have hb : decide (x < y) = true := decide_eq_true hc
    clear hc
    go_enter Tryd.func69, Tryd.ntmps69
    go_wp2_with (first | (go_at_call 77; ((with_reducible refine (bit_t _).mono ?_); rintro e w' ⟨rfl, rfl⟩)) | (go_at_call 77; ((with_reducible refine (bit_f _).mono ?_); rintro e w' ⟨rfl, rfl⟩)) | (go_at_call 68; refine (rword_any _ _).mono ?_; rintro e w' ⟨rfl, rfl⟩))
    go_ret2
    exact ⟨ret_pair ht.out rfl, rfl⟩
  · have ht := Lib.hid (show (0 : Int) = tr (x < y) by rw [tr, if_neg hc])
    have hb : decide (x < y) = false := decide_eq_false hc
    clear hc
    go_enter Tryd.func69, Tryd.ntmps69
    go_wp2_with (first | (go_at_call 77; ((with_reducible refine (bit_t _).mono ?_); rintro e w' ⟨rfl, rfl⟩)) | (go_at_call 77; ((with_reducible refine (bit_f _).mono ?_); rintro e w' ⟨rfl, rfl⟩)) | (go_at_call 68; refine (rword_any _ _).mono ?_; rintro e w' ⟨rfl, rfl⟩))
    go_ret2
    exact ⟨ret_pair ht.out rfl, rfl⟩
theorem plain_less (x y : Int) (x1 : -2147483648 ≤ x) (x2 : x ≤ 2147483647) (y1 : -2147483648 ≤ y) (y2 : y ≤ 2147483647) (w : World) : Calls Tryd.prog 69 #[.int .i64 12, .int .i64 x, .int .i64 y] w fun e w' => e = .returned (.tuple #[.int .i64 (tr (x % 4294967296 < y % 4294967296)), .bool true]) ∧ w = w' := by
  by_cases hc : x % 4294967296 < y % 4294967296
  · have ht := Lib.hid (show (1 : Int) = tr (x % 4294967296 < y % 4294967296) by rw [tr, if_pos hc])
    have hb : decide (x % 4294967296 < y % 4294967296) = true := decide_eq_true hc
    clear hc
    go_enter Tryd.func69, Tryd.ntmps69
    go_wp2_with (first | (go_at_call 77; ((with_reducible refine (bit_t _).mono ?_); rintro e w' ⟨rfl, rfl⟩)) | (go_at_call 77; ((with_reducible refine (bit_f _).mono ?_); rintro e w' ⟨rfl, rfl⟩)) | (go_at_call 68; refine (rword_any _ _).mono ?_; rintro e w' ⟨rfl, rfl⟩))
    go_ret2
    exact ⟨ret_pair ht.out rfl, rfl⟩
  · have ht := Lib.hid (show (0 : Int) = tr (x % 4294967296 < y % 4294967296) by rw [tr, if_neg hc])
    have hb : decide (x % 4294967296 < y % 4294967296) = false := decide_eq_false hc
    clear hc
    go_enter Tryd.func69, Tryd.ntmps69
    go_wp2_with (first | (go_at_call 77; ((with_reducible refine (bit_t _).mono ?_); rintro e w' ⟨rfl, rfl⟩)) | (go_at_call 77; ((with_reducible refine (bit_f _).mono ?_); rintro e w' ⟨rfl, rfl⟩)) | (go_at_call 68; refine (rword_any _ _).mono ?_; rintro e w' ⟨rfl, rfl⟩))
    go_ret2
    exact ⟨ret_pair ht.out rfl, rfl⟩
theorem plain_eq (x y : Int) (x1 : -2147483648 ≤ x) (x2 : x ≤ 2147483647) (y1 : -2147483648 ≤ y) (y2 : y ≤ 2147483647) (w : World) : Calls Tryd.prog 69 #[.int .i64 13, .int .i64 x, .int .i64 y] w fun e w' => e = .returned (.tuple #[.int .i64 (tr (x = y)), .bool true]) ∧ w = w' := by
  by_cases hc : x = y
  · have ht := Lib.hid (show (1 : Int) = tr (x = y) by rw [tr, if_pos hc])
    have hb : (x == y) = true := beq_iff_eq.2 hc
    clear hc
    go_enter Tryd.func69, Tryd.ntmps69
    go_wp2_with (first | (go_at_call 77; ((with_reducible refine (bit_t _).mono ?_); rintro e w' ⟨rfl, rfl⟩)) | (go_at_call 77; ((with_reducible refine (bit_f _).mono ?_); rintro e w' ⟨rfl, rfl⟩)) | (go_at_call 68; refine (rword_any _ _).mono ?_; rintro e w' ⟨rfl, rfl⟩))
    go_ret2
    exact ⟨ret_pair ht.out rfl, rfl⟩
  · have ht := Lib.hid (show (0 : Int) = tr (x = y) by rw [tr, if_neg hc])
    have hb : (x == y) = false := beq_eq_false_iff_ne.2 hc
    clear hc
    go_enter Tryd.func69, Tryd.ntmps69
    go_wp2_with (first | (go_at_call 77; ((with_reducible refine (bit_t _).mono ?_); rintro e w' ⟨rfl, rfl⟩)) | (go_at_call 77; ((with_reducible refine (bit_f _).mono ?_); rintro e w' ⟨rfl, rfl⟩)) | (go_at_call 68; refine (rword_any _ _).mono ?_; rintro e w' ⟨rfl, rfl⟩))
    go_ret2
    exact ⟨ret_pair ht.out rfl, rfl⟩
theorem plain_ne (x y : Int) (x1 : -2147483648 ≤ x) (x2 : x ≤ 2147483647) (y1 : -2147483648 ≤ y) (y2 : y ≤ 2147483647) (w : World) : Calls Tryd.prog 69 #[.int .i64 14, .int .i64 x, .int .i64 y] w fun e w' => e = .returned (.tuple #[.int .i64 (tr (x ≠ y)), .bool true]) ∧ w = w' := by
  by_cases hc : x ≠ y
  · have ht := Lib.hid (show (1 : Int) = tr (x ≠ y) by rw [tr, if_pos hc])
    have hb : (x != y) = true := bne_iff_ne.2 hc
    clear hc
    go_enter Tryd.func69, Tryd.ntmps69
    go_wp2_with (first | (go_at_call 77; ((with_reducible refine (bit_t _).mono ?_); rintro e w' ⟨rfl, rfl⟩)) | (go_at_call 77; ((with_reducible refine (bit_f _).mono ?_); rintro e w' ⟨rfl, rfl⟩)) | (go_at_call 68; refine (rword_any _ _).mono ?_; rintro e w' ⟨rfl, rfl⟩))
    go_ret2
    exact ⟨ret_pair ht.out rfl, rfl⟩
  · have ht := Lib.hid (show (0 : Int) = tr (x ≠ y) by rw [tr, if_neg hc])
    have hb : (x != y) = false := by rw [bne_eq_false_iff_eq]; exact Decidable.not_not.1 hc
    clear hc
    go_enter Tryd.func69, Tryd.ntmps69
    go_wp2_with (first | (go_at_call 77; ((with_reducible refine (bit_t _).mono ?_); rintro e w' ⟨rfl, rfl⟩)) | (go_at_call 77; ((with_reducible refine (bit_f _).mono ?_); rintro e w' ⟨rfl, rfl⟩)) | (go_at_call 68; refine (rword_any _ _).mono ?_; rintro e w' ⟨rfl, rfl⟩))
    go_ret2
    exact ⟨ret_pair ht.out rfl, rfl⟩
end Go.Proofs.YtgcgdjmlngfpeaaDoor
