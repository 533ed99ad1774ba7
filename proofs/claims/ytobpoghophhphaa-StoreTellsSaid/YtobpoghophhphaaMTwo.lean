/- What operators of two leave: package wrap's, and the document's own. -/
import Derived.Test.YtobpoghophhphaaProg
import Derived.Test.YtobpoghophhphaaPlain
import Derived.Test.YtobpoghophhphaaLemmas
import Derived.Test.YtobpoghophhphaaCBoth
import Derived.WalkKit
import Derived.WalkSpells
import Derived.Lib.Hide
namespace Go.Proofs.Ytobpoghophhphaa
open Go.RowKit Plain
set_option linter.unusedVariables false
theorem ret_int {k : IntKind} {a b : Int} (h : a = b) : Ending.returned (.int k a) = .returned (.int k b) := by rw [h]
theorem ret_pair {k : IntKind} {a b : Int} {p q : Bool} (h : a = b) (h' : p = q) : Ending.returned (.tuple #[.int k a, .bool p]) = .returned (.tuple #[.int k b, .bool q]) := by rw [h, h']

theorem wrap_any (n : Int) (w : World) : Calls Try.prog 33 #[.int .i64 n] w fun e w' => e = .returned (.int .i64 (wrap32 n)) ∧ w = w' := by
  have h1 := w32_lo n
  have h2 := w32_hi n
  go_enter Try.func33, Try.ntmps33
  go_wp2
  go_ret
  exact ⟨rfl, rfl⟩
theorem word_any (n : Int) (w : World) : Calls Try.prog 55 #[.int .i64 n] w fun e w' => e = .returned (.int .i64 (n % 4294967296)) ∧ w = w' := by
  go_enter Try.func55, Try.ntmps55
  go_wp2
  go_ret
  exact ⟨rfl, rfl⟩
theorem truth_t (w : World) : Calls Try.prog 54 #[.bool true] w fun e w' => e = .returned (.int .i64 1) ∧ w = w' := by
  go_enter Try.func54, Try.ntmps54
  go_wp2
  go_ret
  exact ⟨rfl, rfl⟩
theorem truth_f (w : World) : Calls Try.prog 54 #[.bool false] w fun e w' => e = .returned (.int .i64 0) ∧ w = w' := by
  go_enter Try.func54, Try.ntmps54
  go_wp2
  go_ret
  exact ⟨rfl, rfl⟩
theorem moves_any (n : Int) (w : World) : Calls Try.prog 56 #[.int .i64 n] w fun e w' => e = .returned (.int .i64 (n % 32)) ∧ w = w' := by
  have h := and31 n
  go_enter Try.func56, Try.ntmps56
  go_wp2
  go_ret
  exact ⟨rfl, rfl⟩
def quot (a b : Int) : Int := if b = 0 then -1 else a.tdiv b
def rem (a b : Int) : Int := if b = 0 then a else a.tmod b
theorem quotient_any (a b : Int) (ha : -2147483648 ≤ a ∧ a ≤ 2147483647) (w : World) : Calls Try.prog 57 #[.int .i64 a, .int .i64 b] w fun e w' => e = .returned (.int .i64 (quot a b)) ∧ w = w' := by
  by_cases hb : b = 0
  · subst hb
    go_enter Try.func57, Try.ntmps57
    go_wp2
    go_ret
    exact ⟨rfl, rfl⟩
  · have h0 : (b == 0) = false := beq_eq_false_iff_ne.2 hb
    have hq : quot a b = a.tdiv b := if_neg hb
    have hw : wrap64 (a.tdiv b) = a.tdiv b := w64_in _ (by have := tdiv_bd a b ha; omega)
    have HQ := Lib.hid (hw.trans hq.symm)
    clear hq ha hw
    go_enter Try.func57, Try.ntmps57
    go_wp2
    go_ret
    exact ⟨ret_int HQ.out, rfl⟩
theorem rest_any (a b : Int) (w : World) : Calls Try.prog 58 #[.int .i64 a, .int .i64 b] w fun e w' => e = .returned (.int .i64 (rem a b)) ∧ w = w' := by
  by_cases hb : b = 0
  · subst hb
    go_enter Try.func58, Try.ntmps58
    go_wp2
    go_ret
    exact ⟨rfl, rfl⟩
  · have h0 : (b == 0) = false := beq_eq_false_iff_ne.2 hb
    have hq : rem a b = a.tmod b := if_neg hb
    have HQ := Lib.hid hq
    clear hq
    go_enter Try.func58, Try.ntmps58
    go_wp2
    go_ret
    rw [HQ.out]
    exact ⟨rfl, rfl⟩
/-! TWO, operator by operator. -/
theorem two_add (a b : Int) (w : World) : Calls Try.prog 52 #[.int .i64 1, .int .i64 a, .int .i64 b] w fun e w' => e = .returned (.tuple #[.int .i64 (two 1 a b), .bool true]) ∧ w = w' := by
  have h1 := w32_lo a
  have h2 := w32_hi a
  have h3 := w32_lo b
  have h4 := w32_hi b
  go_enter Try.func52, Try.ntmps52
  go_wp2_with (first | (go_at_call 33; refine (wrap_any _ _).mono ?_; rintro e w' ⟨rfl, rfl⟩) | (go_at_call 55; refine (word_any _ _).mono ?_; rintro e w' ⟨rfl, rfl⟩) | (go_at_call 56; refine (moves_any _ _).mono ?_; rintro e w' ⟨rfl, rfl⟩) | (go_at_call 57; refine (quotient_any _ _ ⟨w32_lo _, w32_hi _⟩ _).mono ?_; rintro e w' ⟨rfl, rfl⟩) | (go_at_call 54; ((with_reducible refine (truth_t _).mono ?_); rintro e w' ⟨rfl, rfl⟩)) | (go_at_call 54; ((with_reducible refine (truth_f _).mono ?_); rintro e w' ⟨rfl, rfl⟩)) | (go_at_call 58; refine (rest_any _ _ _).mono ?_; rintro e w' ⟨rfl, rfl⟩))
  go_ret2
  exact ⟨ret_pair (two_1 a b) rfl, rfl⟩
theorem two_sub (a b : Int) (w : World) : Calls Try.prog 52 #[.int .i64 2, .int .i64 a, .int .i64 b] w fun e w' => e = .returned (.tuple #[.int .i64 (two 2 a b), .bool true]) ∧ w = w' := by
  have h1 := w32_lo a
  have h2 := w32_hi a
  have h3 := w32_lo b
  have h4 := w32_hi b
  go_enter Try.func52, Try.ntmps52
  go_wp2_with (first | (go_at_call 33; refine (wrap_any _ _).mono ?_; rintro e w' ⟨rfl, rfl⟩) | (go_at_call 55; refine (word_any _ _).mono ?_; rintro e w' ⟨rfl, rfl⟩) | (go_at_call 56; refine (moves_any _ _).mono ?_; rintro e w' ⟨rfl, rfl⟩) | (go_at_call 57; refine (quotient_any _ _ ⟨w32_lo _, w32_hi _⟩ _).mono ?_; rintro e w' ⟨rfl, rfl⟩) | (go_at_call 54; ((with_reducible refine (truth_t _).mono ?_); rintro e w' ⟨rfl, rfl⟩)) | (go_at_call 54; ((with_reducible refine (truth_f _).mono ?_); rintro e w' ⟨rfl, rfl⟩)) | (go_at_call 58; refine (rest_any _ _ _).mono ?_; rintro e w' ⟨rfl, rfl⟩))
  go_ret2
  exact ⟨ret_pair (two_2 a b) rfl, rfl⟩
theorem two_mul (a b : Int) (w : World) : Calls Try.prog 52 #[.int .i64 3, .int .i64 a, .int .i64 b] w fun e w' => e = .returned (.tuple #[.int .i64 (two 3 a b), .bool true]) ∧ w = w' := by
  have h1 := w32_lo a
  have h2 := w32_hi a
  have h3 := w32_lo b
  have h4 := w32_hi b
  go_enter Try.func52, Try.ntmps52
  go_wp2_with (first | (go_at_call 33; refine (wrap_any _ _).mono ?_; rintro e w' ⟨rfl, rfl⟩) | (go_at_call 55; refine (word_any _ _).mono ?_; rintro e w' ⟨rfl, rfl⟩) | (go_at_call 56; refine (moves_any _ _).mono ?_; rintro e w' ⟨rfl, rfl⟩) | (go_at_call 57; refine (quotient_any _ _ ⟨w32_lo _, w32_hi _⟩ _).mono ?_; rintro e w' ⟨rfl, rfl⟩) | (go_at_call 54; ((with_reducible refine (truth_t _).mono ?_); rintro e w' ⟨rfl, rfl⟩)) | (go_at_call 54; ((with_reducible refine (truth_f _).mono ?_); rintro e w' ⟨rfl, rfl⟩)) | (go_at_call 58; refine (rest_any _ _ _).mono ?_; rintro e w' ⟨rfl, rfl⟩))
  go_ret2
  exact ⟨ret_pair (two_3 a b) rfl, rfl⟩
theorem two_div (a b : Int) (w : World) : Calls Try.prog 52 #[.int .i64 4, .int .i64 a, .int .i64 b] w fun e w' => e = .returned (.tuple #[.int .i64 (two 4 a b), .bool true]) ∧ w = w' := by
  have h1 := w32_lo a
  have h2 := w32_hi a
  have h3 := w32_lo b
  have h4 := w32_hi b
  go_enter Try.func52, Try.ntmps52
  go_wp2_with (first | (go_at_call 33; refine (wrap_any _ _).mono ?_; rintro e w' ⟨rfl, rfl⟩) | (go_at_call 55; refine (word_any _ _).mono ?_; rintro e w' ⟨rfl, rfl⟩) | (go_at_call 56; refine (moves_any _ _).mono ?_; rintro e w' ⟨rfl, rfl⟩) | (go_at_call 57; refine (quotient_any _ _ ⟨w32_lo _, w32_hi _⟩ _).mono ?_; rintro e w' ⟨rfl, rfl⟩) | (go_at_call 54; ((with_reducible refine (truth_t _).mono ?_); rintro e w' ⟨rfl, rfl⟩)) | (go_at_call 54; ((with_reducible refine (truth_f _).mono ?_); rintro e w' ⟨rfl, rfl⟩)) | (go_at_call 58; refine (rest_any _ _ _).mono ?_; rintro e w' ⟨rfl, rfl⟩))
  go_ret2
  exact ⟨ret_pair (two_4 a b) rfl, rfl⟩
theorem two_rem (a b : Int) (w : World) : Calls Try.prog 52 #[.int .i64 5, .int .i64 a, .int .i64 b] w fun e w' => e = .returned (.tuple #[.int .i64 (two 5 a b), .bool true]) ∧ w = w' := by
  have h1 := w32_lo a
  have h2 := w32_hi a
  have h3 := w32_lo b
  have h4 := w32_hi b
  go_enter Try.func52, Try.ntmps52
  go_wp2_with (first | (go_at_call 33; refine (wrap_any _ _).mono ?_; rintro e w' ⟨rfl, rfl⟩) | (go_at_call 55; refine (word_any _ _).mono ?_; rintro e w' ⟨rfl, rfl⟩) | (go_at_call 56; refine (moves_any _ _).mono ?_; rintro e w' ⟨rfl, rfl⟩) | (go_at_call 57; refine (quotient_any _ _ ⟨w32_lo _, w32_hi _⟩ _).mono ?_; rintro e w' ⟨rfl, rfl⟩) | (go_at_call 54; ((with_reducible refine (truth_t _).mono ?_); rintro e w' ⟨rfl, rfl⟩)) | (go_at_call 54; ((with_reducible refine (truth_f _).mono ?_); rintro e w' ⟨rfl, rfl⟩)) | (go_at_call 58; refine (rest_any _ _ _).mono ?_; rintro e w' ⟨rfl, rfl⟩))
  go_ret2
  exact ⟨ret_pair (two_5 a b) rfl, rfl⟩
theorem two_and (a b : Int) (w : World) : Calls Try.prog 52 #[.int .i64 6, .int .i64 a, .int .i64 b] w fun e w' => e = .returned (.tuple #[.int .i64 (two 6 a b), .bool true]) ∧ w = w' := by
  have h1 := w32_lo a
  have h2 := w32_hi a
  have h3 := w32_lo b
  have h4 := w32_hi b
  go_enter Try.func52, Try.ntmps52
  go_wp2_with (first | (go_at_call 33; refine (wrap_any _ _).mono ?_; rintro e w' ⟨rfl, rfl⟩) | (go_at_call 55; refine (word_any _ _).mono ?_; rintro e w' ⟨rfl, rfl⟩) | (go_at_call 56; refine (moves_any _ _).mono ?_; rintro e w' ⟨rfl, rfl⟩) | (go_at_call 57; refine (quotient_any _ _ ⟨w32_lo _, w32_hi _⟩ _).mono ?_; rintro e w' ⟨rfl, rfl⟩) | (go_at_call 54; ((with_reducible refine (truth_t _).mono ?_); rintro e w' ⟨rfl, rfl⟩)) | (go_at_call 54; ((with_reducible refine (truth_f _).mono ?_); rintro e w' ⟨rfl, rfl⟩)) | (go_at_call 58; refine (rest_any _ _ _).mono ?_; rintro e w' ⟨rfl, rfl⟩))
  go_ret2
  exact ⟨ret_pair (two_6 a b) rfl, rfl⟩
theorem two_or (a b : Int) (w : World) : Calls Try.prog 52 #[.int .i64 7, .int .i64 a, .int .i64 b] w fun e w' => e = .returned (.tuple #[.int .i64 (two 7 a b), .bool true]) ∧ w = w' := by
  have h1 := w32_lo a
  have h2 := w32_hi a
  have h3 := w32_lo b
  have h4 := w32_hi b
  go_enter Try.func52, Try.ntmps52
  go_wp2_with (first | (go_at_call 33; refine (wrap_any _ _).mono ?_; rintro e w' ⟨rfl, rfl⟩) | (go_at_call 55; refine (word_any _ _).mono ?_; rintro e w' ⟨rfl, rfl⟩) | (go_at_call 56; refine (moves_any _ _).mono ?_; rintro e w' ⟨rfl, rfl⟩) | (go_at_call 57; refine (quotient_any _ _ ⟨w32_lo _, w32_hi _⟩ _).mono ?_; rintro e w' ⟨rfl, rfl⟩) | (go_at_call 54; ((with_reducible refine (truth_t _).mono ?_); rintro e w' ⟨rfl, rfl⟩)) | (go_at_call 54; ((with_reducible refine (truth_f _).mono ?_); rintro e w' ⟨rfl, rfl⟩)) | (go_at_call 58; refine (rest_any _ _ _).mono ?_; rintro e w' ⟨rfl, rfl⟩))
  go_ret2
  exact ⟨ret_pair (two_7 a b) rfl, rfl⟩
theorem two_xor (a b : Int) (w : World) : Calls Try.prog 52 #[.int .i64 8, .int .i64 a, .int .i64 b] w fun e w' => e = .returned (.tuple #[.int .i64 (two 8 a b), .bool true]) ∧ w = w' := by
  have h1 := w32_lo a
  have h2 := w32_hi a
  have h3 := w32_lo b
  have h4 := w32_hi b
  go_enter Try.func52, Try.ntmps52
  go_wp2_with (first | (go_at_call 33; refine (wrap_any _ _).mono ?_; rintro e w' ⟨rfl, rfl⟩) | (go_at_call 55; refine (word_any _ _).mono ?_; rintro e w' ⟨rfl, rfl⟩) | (go_at_call 56; refine (moves_any _ _).mono ?_; rintro e w' ⟨rfl, rfl⟩) | (go_at_call 57; refine (quotient_any _ _ ⟨w32_lo _, w32_hi _⟩ _).mono ?_; rintro e w' ⟨rfl, rfl⟩) | (go_at_call 54; ((with_reducible refine (truth_t _).mono ?_); rintro e w' ⟨rfl, rfl⟩)) | (go_at_call 54; ((with_reducible refine (truth_f _).mono ?_); rintro e w' ⟨rfl, rfl⟩)) | (go_at_call 58; refine (rest_any _ _ _).mono ?_; rintro e w' ⟨rfl, rfl⟩))
  go_ret2
  exact ⟨ret_pair (two_8 a b) rfl, rfl⟩
theorem two_shl (a b : Int) (w : World) : Calls Try.prog 52 #[.int .i64 9, .int .i64 a, .int .i64 b] w fun e w' => e = .returned (.tuple #[.int .i64 (two 9 a b), .bool true]) ∧ w = w' := by
  have h1 := w32_lo a
  have h2 := w32_hi a
  have h3 := w32_lo b
  have h4 := w32_hi b
  go_enter Try.func52, Try.ntmps52
  go_wp2_with (first | (go_at_call 33; refine (wrap_any _ _).mono ?_; rintro e w' ⟨rfl, rfl⟩) | (go_at_call 55; refine (word_any _ _).mono ?_; rintro e w' ⟨rfl, rfl⟩) | (go_at_call 56; refine (moves_any _ _).mono ?_; rintro e w' ⟨rfl, rfl⟩) | (go_at_call 57; refine (quotient_any _ _ ⟨w32_lo _, w32_hi _⟩ _).mono ?_; rintro e w' ⟨rfl, rfl⟩) | (go_at_call 54; ((with_reducible refine (truth_t _).mono ?_); rintro e w' ⟨rfl, rfl⟩)) | (go_at_call 54; ((with_reducible refine (truth_f _).mono ?_); rintro e w' ⟨rfl, rfl⟩)) | (go_at_call 58; refine (rest_any _ _ _).mono ?_; rintro e w' ⟨rfl, rfl⟩))
  go_ret2
  exact ⟨ret_pair (two_9 a b) rfl, rfl⟩
theorem two_shr (a b : Int) (w : World) : Calls Try.prog 52 #[.int .i64 10, .int .i64 a, .int .i64 b] w fun e w' => e = .returned (.tuple #[.int .i64 (two 10 a b), .bool true]) ∧ w = w' := by
  have h1 := w32_lo a
  have h2 := w32_hi a
  have h3 := w32_lo b
  have h4 := w32_hi b
  go_enter Try.func52, Try.ntmps52
  go_wp2_with (first | (go_at_call 33; refine (wrap_any _ _).mono ?_; rintro e w' ⟨rfl, rfl⟩) | (go_at_call 55; refine (word_any _ _).mono ?_; rintro e w' ⟨rfl, rfl⟩) | (go_at_call 56; refine (moves_any _ _).mono ?_; rintro e w' ⟨rfl, rfl⟩) | (go_at_call 57; refine (quotient_any _ _ ⟨w32_lo _, w32_hi _⟩ _).mono ?_; rintro e w' ⟨rfl, rfl⟩) | (go_at_call 54; ((with_reducible refine (truth_t _).mono ?_); rintro e w' ⟨rfl, rfl⟩)) | (go_at_call 54; ((with_reducible refine (truth_f _).mono ?_); rintro e w' ⟨rfl, rfl⟩)) | (go_at_call 58; refine (rest_any _ _ _).mono ?_; rintro e w' ⟨rfl, rfl⟩))
  go_ret2
  exact ⟨ret_pair (two_10 a b) rfl, rfl⟩
theorem two_lt (a b : Int) (w : World) : Calls Try.prog 52 #[.int .i64 11, .int .i64 a, .int .i64 b] w fun e w' => e = .returned (.tuple #[.int .i64 (two 11 a b), .bool true]) ∧ w = w' := by
  have h1 := w32_lo a
  have h2 := w32_hi a
  have h3 := w32_lo b
  have h4 := w32_hi b
  by_cases hc : wrap32 a < wrap32 b
  · have ht := Lib.hid (two_11y hc)
    go_enter Try.func52, Try.ntmps52
    go_wp2_with (first | (go_at_call 33; refine (wrap_any _ _).mono ?_; rintro e w' ⟨rfl, rfl⟩) | (go_at_call 55; refine (word_any _ _).mono ?_; rintro e w' ⟨rfl, rfl⟩) | (go_at_call 56; refine (moves_any _ _).mono ?_; rintro e w' ⟨rfl, rfl⟩) | (go_at_call 57; refine (quotient_any _ _ ⟨w32_lo _, w32_hi _⟩ _).mono ?_; rintro e w' ⟨rfl, rfl⟩) | (go_at_call 54; ((with_reducible refine (truth_t _).mono ?_); rintro e w' ⟨rfl, rfl⟩)) | (go_at_call 54; ((with_reducible refine (truth_f _).mono ?_); rintro e w' ⟨rfl, rfl⟩)) | (go_at_call 58; refine (rest_any _ _ _).mono ?_; rintro e w' ⟨rfl, rfl⟩))
    go_ret2
    exact ⟨ret_pair ht.out rfl, rfl⟩
  · have ht := Lib.hid (two_11n hc)
    have hb : decide (wrap32 a < wrap32 b) = false := decide_eq_false hc
    clear hc
    go_enter Try.func52, Try.ntmps52
    go_wp2_with (first | (go_at_call 33; refine (wrap_any _ _).mono ?_; rintro e w' ⟨rfl, rfl⟩) | (go_at_call 55; refine (word_any _ _).mono ?_; rintro e w' ⟨rfl, rfl⟩) | (go_at_call 56; refine (moves_any _ _).mono ?_; rintro e w' ⟨rfl, rfl⟩) | (go_at_call 57; refine (quotient_any _ _ ⟨w32_lo _, w32_hi _⟩ _).mono ?_; rintro e w' ⟨rfl, rfl⟩) | (go_at_call 54; ((with_reducible refine (truth_t _).mono ?_); rintro e w' ⟨rfl, rfl⟩)) | (go_at_call 54; ((with_reducible refine (truth_f _).mono ?_); rintro e w' ⟨rfl, rfl⟩)) | (go_at_call 58; refine (rest_any _ _ _).mono ?_; rintro e w' ⟨rfl, rfl⟩))
    go_ret2
    exact ⟨ret_pair ht.out rfl, rfl⟩
theorem two_less (a b : Int) (w : World) : Calls Try.prog 52 #[.int .i64 12, .int .i64 a, .int .i64 b] w fun e w' => e = .returned (.tuple #[.int .i64 (two 12 a b), .bool true]) ∧ w = w' := by
  have h1 := w32_lo a
  have h2 := w32_hi a
  have h3 := w32_lo b
  have h4 := w32_hi b
  by_cases hc : wrap32 a % 4294967296 < wrap32 b % 4294967296
  · have ht := Lib.hid (two_12y hc)
    go_enter Try.func52, Try.ntmps52
    go_wp2_with (first | (go_at_call 33; refine (wrap_any _ _).mono ?_; rintro e w' ⟨rfl, rfl⟩) | (go_at_call 55; refine (word_any _ _).mono ?_; rintro e w' ⟨rfl, rfl⟩) | (go_at_call 56; refine (moves_any _ _).mono ?_; rintro e w' ⟨rfl, rfl⟩) | (go_at_call 57; refine (quotient_any _ _ ⟨w32_lo _, w32_hi _⟩ _).mono ?_; rintro e w' ⟨rfl, rfl⟩) | (go_at_call 54; ((with_reducible refine (truth_t _).mono ?_); rintro e w' ⟨rfl, rfl⟩)) | (go_at_call 54; ((with_reducible refine (truth_f _).mono ?_); rintro e w' ⟨rfl, rfl⟩)) | (go_at_call 58; refine (rest_any _ _ _).mono ?_; rintro e w' ⟨rfl, rfl⟩))
    go_ret2
    exact ⟨ret_pair ht.out rfl, rfl⟩
  · have ht := Lib.hid (two_12n hc)
    have hb : decide (wrap32 a % 4294967296 < wrap32 b % 4294967296) = false := decide_eq_false hc
    clear hc
    go_enter Try.func52, Try.ntmps52
    go_wp2_with (first | (go_at_call 33; refine (wrap_any _ _).mono ?_; rintro e w' ⟨rfl, rfl⟩) | (go_at_call 55; refine (word_any _ _).mono ?_; rintro e w' ⟨rfl, rfl⟩) | (go_at_call 56; refine (moves_any _ _).mono ?_; rintro e w' ⟨rfl, rfl⟩) | (go_at_call 57; refine (quotient_any _ _ ⟨w32_lo _, w32_hi _⟩ _).mono ?_; rintro e w' ⟨rfl, rfl⟩) | (go_at_call 54; ((with_reducible refine (truth_t _).mono ?_); rintro e w' ⟨rfl, rfl⟩)) | (go_at_call 54; ((with_reducible refine (truth_f _).mono ?_); rintro e w' ⟨rfl, rfl⟩)) | (go_at_call 58; refine (rest_any _ _ _).mono ?_; rintro e w' ⟨rfl, rfl⟩))
    go_ret2
    exact ⟨ret_pair ht.out rfl, rfl⟩
theorem two_eq (a b : Int) (w : World) : Calls Try.prog 52 #[.int .i64 13, .int .i64 a, .int .i64 b] w fun e w' => e = .returned (.tuple #[.int .i64 (two 13 a b), .bool true]) ∧ w = w' := by
  have h1 := w32_lo a
  have h2 := w32_hi a
  have h3 := w32_lo b
  have h4 := w32_hi b
  by_cases hc : wrap32 a = wrap32 b
  · have ht := Lib.hid (two_13y hc)
    have hb : (wrap32 a == wrap32 b) = true := beq_iff_eq.2 hc
    clear hc
    go_enter Try.func52, Try.ntmps52
    go_wp2_with (first | (go_at_call 33; refine (wrap_any _ _).mono ?_; rintro e w' ⟨rfl, rfl⟩) | (go_at_call 55; refine (word_any _ _).mono ?_; rintro e w' ⟨rfl, rfl⟩) | (go_at_call 56; refine (moves_any _ _).mono ?_; rintro e w' ⟨rfl, rfl⟩) | (go_at_call 57; refine (quotient_any _ _ ⟨w32_lo _, w32_hi _⟩ _).mono ?_; rintro e w' ⟨rfl, rfl⟩) | (go_at_call 54; ((with_reducible refine (truth_t _).mono ?_); rintro e w' ⟨rfl, rfl⟩)) | (go_at_call 54; ((with_reducible refine (truth_f _).mono ?_); rintro e w' ⟨rfl, rfl⟩)) | (go_at_call 58; refine (rest_any _ _ _).mono ?_; rintro e w' ⟨rfl, rfl⟩))
    go_ret2
    exact ⟨ret_pair ht.out rfl, rfl⟩
  · have ht := Lib.hid (two_13n hc)
    have hb : (wrap32 a == wrap32 b) = false := beq_eq_false_iff_ne.2 hc
    clear hc
    go_enter Try.func52, Try.ntmps52
    go_wp2_with (first | (go_at_call 33; refine (wrap_any _ _).mono ?_; rintro e w' ⟨rfl, rfl⟩) | (go_at_call 55; refine (word_any _ _).mono ?_; rintro e w' ⟨rfl, rfl⟩) | (go_at_call 56; refine (moves_any _ _).mono ?_; rintro e w' ⟨rfl, rfl⟩) | (go_at_call 57; refine (quotient_any _ _ ⟨w32_lo _, w32_hi _⟩ _).mono ?_; rintro e w' ⟨rfl, rfl⟩) | (go_at_call 54; ((with_reducible refine (truth_t _).mono ?_); rintro e w' ⟨rfl, rfl⟩)) | (go_at_call 54; ((with_reducible refine (truth_f _).mono ?_); rintro e w' ⟨rfl, rfl⟩)) | (go_at_call 58; refine (rest_any _ _ _).mono ?_; rintro e w' ⟨rfl, rfl⟩))
    go_ret2
    exact ⟨ret_pair ht.out rfl, rfl⟩
theorem two_ne (a b : Int) (w : World) : Calls Try.prog 52 #[.int .i64 14, .int .i64 a, .int .i64 b] w fun e w' => e = .returned (.tuple #[.int .i64 (two 14 a b), .bool true]) ∧ w = w' := by
  have h1 := w32_lo a
  have h2 := w32_hi a
  have h3 := w32_lo b
  have h4 := w32_hi b
  by_cases hc : wrap32 a ≠ wrap32 b
  · have ht := Lib.hid (two_14y hc)
    have hb : (wrap32 a != wrap32 b) = true := bne_iff_ne.2 hc
    clear hc
    go_enter Try.func52, Try.ntmps52
    go_wp2_with (first | (go_at_call 33; refine (wrap_any _ _).mono ?_; rintro e w' ⟨rfl, rfl⟩) | (go_at_call 55; refine (word_any _ _).mono ?_; rintro e w' ⟨rfl, rfl⟩) | (go_at_call 56; refine (moves_any _ _).mono ?_; rintro e w' ⟨rfl, rfl⟩) | (go_at_call 57; refine (quotient_any _ _ ⟨w32_lo _, w32_hi _⟩ _).mono ?_; rintro e w' ⟨rfl, rfl⟩) | (go_at_call 54; ((with_reducible refine (truth_t _).mono ?_); rintro e w' ⟨rfl, rfl⟩)) | (go_at_call 54; ((with_reducible refine (truth_f _).mono ?_); rintro e w' ⟨rfl, rfl⟩)) | (go_at_call 58; refine (rest_any _ _ _).mono ?_; rintro e w' ⟨rfl, rfl⟩))
    go_ret2
    exact ⟨ret_pair ht.out rfl, rfl⟩
  · have ht := Lib.hid (two_14n hc)
    have hb : (wrap32 a != wrap32 b) = false := by rw [bne_eq_false_iff_eq]; exact Decidable.not_not.1 hc
    clear hc
    go_enter Try.func52, Try.ntmps52
    go_wp2_with (first | (go_at_call 33; refine (wrap_any _ _).mono ?_; rintro e w' ⟨rfl, rfl⟩) | (go_at_call 55; refine (word_any _ _).mono ?_; rintro e w' ⟨rfl, rfl⟩) | (go_at_call 56; refine (moves_any _ _).mono ?_; rintro e w' ⟨rfl, rfl⟩) | (go_at_call 57; refine (quotient_any _ _ ⟨w32_lo _, w32_hi _⟩ _).mono ?_; rintro e w' ⟨rfl, rfl⟩) | (go_at_call 54; ((with_reducible refine (truth_t _).mono ?_); rintro e w' ⟨rfl, rfl⟩)) | (go_at_call 54; ((with_reducible refine (truth_f _).mono ?_); rintro e w' ⟨rfl, rfl⟩)) | (go_at_call 58; refine (rest_any _ _ _).mono ?_; rintro e w' ⟨rfl, rfl⟩))
    go_ret2
    exact ⟨ret_pair ht.out rfl, rfl⟩
theorem two_none (op a b : Int) (h : op < 1 ∨ 14 < op) (w : World) : Calls Try.prog 52 #[.int .i64 op, .int .i64 a, .int .i64 b] w fun e w' => e = .returned (.tuple #[.int .i64 0, .bool false]) ∧ w = w' := by
  rcases h with h | h
  all_goals
    go_enter Try.func52, Try.ntmps52
    go_wp2_with (first | (go_at_call 33; refine (wrap_any _ _).mono ?_; rintro e w' ⟨rfl, rfl⟩))
    go_ret2
    exact ⟨rfl, rfl⟩
theorem two_yes (op a b : Int) (h : 1 ≤ op ∧ op ≤ 14) (w : World) : Calls Try.prog 52 #[.int .i64 op, .int .i64 a, .int .i64 b] w fun e w' => e = .returned (.tuple #[.int .i64 (two op a b), .bool true]) ∧ w = w' := by
  have hk : op = 1 ∨ op = 2 ∨ op = 3 ∨ op = 4 ∨ op = 5 ∨ op = 6 ∨ op = 7 ∨ op = 8 ∨ op = 9 ∨ op = 10 ∨ op = 11 ∨ op = 12 ∨ op = 13 ∨ op = 14 := by omega
  rcases hk with rfl | rfl | rfl | rfl | rfl | rfl | rfl | rfl | rfl | rfl | rfl | rfl | rfl | rfl
  · exact two_add a b w
  · exact two_sub a b w
  · exact two_mul a b w
  · exact two_div a b w
  · exact two_rem a b w
  · exact two_and a b w
  · exact two_or a b w
  · exact two_xor a b w
  · exact two_shl a b w
  · exact two_shr a b w
  · exact two_lt a b w
  · exact two_less a b w
  · exact two_eq a b w
  · exact two_ne a b w
theorem two_any (op a b : Int) (w : World) : Calls Try.prog 52 #[.int .i64 op, .int .i64 a, .int .i64 b] w fun e w' => e = .returned (.tuple #[.int .i64 (two op a b), .bool (isTwo op)]) ∧ w = w' := by
  by_cases h : 1 ≤ op ∧ op ≤ 14
  · have e : isTwo op = true := decide_eq_true h
    rw [e]
    exact two_yes op a b h w
  · have e : isTwo op = false := decide_eq_false h
    have e0 : two op a b = 0 := two_out op a b (by omega)
    rw [e, e0]
    exact two_none op a b (by omega) w
theorem two_lit {op a b r : Int} (h : 1 ≤ op ∧ op ≤ 14) (e : two op a b = r) (w : World) : Calls Try.prog 52 #[.int .i64 op, .int .i64 a, .int .i64 b] w fun e w' => e = .returned (.tuple #[.int .i64 r, .bool true]) ∧ w = w' := by
  subst e
  exact two_yes op a b h w

/-! ONE -/
theorem rword_any (n : Int) (w : World) : Calls Try.prog 50 #[.int .i64 n] w fun e w' => e = .returned (.int .i64 (n % 4294967296)) ∧ w = w' := by
  obtain ⟨t, ht⟩ : ∃ t, n.tmod 4294967296 = t := ⟨_, rfl⟩
  have e := Int.mul_tdiv_add_tmod n 4294967296
  have r := rem_abs (x := n) (y := 4294967296) (by decide)
  rw [ht] at e r
  generalize n.tdiv 4294967296 = q at e
  have hb : -4294967296 < t ∧ t < 4294967296 := by omega
  have hc : n % 4294967296 = if t < 0 then t + 4294967296 else t := by split <;> omega
  clear e r
  obtain ⟨b1, b2⟩ := hb
  by_cases h : t < 0
  · rw [if_pos h] at hc
    have HC := Lib.hid hc.symm
    clear hc
    go_enter Try.func50, Try.ntmps50
    go_wp2
    go_ret
    exact ⟨ret_int HC.out, rfl⟩
  · rw [if_neg h] at hc
    have HC := Lib.hid hc.symm
    clear hc
    go_enter Try.func50, Try.ntmps50
    go_wp2
    go_ret
    exact ⟨ret_int HC.out, rfl⟩
theorem rwrap_any (n : Int) (w : World) : Calls Try.prog 35 #[.int .i64 n] w fun e w' => e = .returned (.int .i64 (wrap32 n)) ∧ w = w' := by
  obtain ⟨t, ht⟩ : ∃ t, n % 4294967296 = t := ⟨_, rfl⟩
  have hb : 0 ≤ t ∧ t < 4294967296 := by omega
  have hc : wrap32 n = if 2147483648 ≤ t then t - 4294967296 else t := by unfold wrap32; split <;> omega
  obtain ⟨b1, b2⟩ := hb
  have hw : ∀ W, Calls Try.prog 50 #[.int .i64 n] W fun e w' => e = .returned (.int .i64 t) ∧ W = w' := by
    intro W
    rw [← ht]
    exact rword_any n W
  have HW := Lib.hid hw
  clear hw ht
  by_cases h : 2147483648 ≤ t
  · rw [if_pos h] at hc
    have HC := Lib.hid hc.symm
    clear hc
    go_enter Try.func35, Try.ntmps35
    go_wp2_with (go_at_call 50; refine (HW.out _).mono ?_; rintro e w' ⟨rfl, rfl⟩)
    go_ret
    exact ⟨ret_int HC.out, rfl⟩
  · rw [if_neg h] at hc
    have HC := Lib.hid hc.symm
    clear hc
    go_enter Try.func35, Try.ntmps35
    go_wp2_with (go_at_call 50; refine (HW.out _).mono ?_; rintro e w' ⟨rfl, rfl⟩)
    go_ret
    exact ⟨ret_int HC.out, rfl⟩
theorem bit_t (w : World) : Calls Try.prog 59 #[.bool true] w fun e w' => e = .returned (.int .i64 1) ∧ w = w' := by
  go_enter Try.func59, Try.ntmps59
  go_wp2
  go_ret
  exact ⟨rfl, rfl⟩
theorem bit_f (w : World) : Calls Try.prog 59 #[.bool false] w fun e w' => e = .returned (.int .i64 0) ∧ w = w' := by
  go_enter Try.func59, Try.ntmps59
  go_wp2
  go_ret
  exact ⟨rfl, rfl⟩
/-! PLAIN: of two numbers of 32 bits, operator by operator -/
theorem plain_add (x y : Int) (x1 : -2147483648 ≤ x) (x2 : x ≤ 2147483647) (y1 : -2147483648 ≤ y) (y2 : y ≤ 2147483647) (w : World) : Calls Try.prog 53 #[.int .i64 1, .int .i64 x, .int .i64 y] w fun e w' => e = .returned (.tuple #[.int .i64 (x + y), .bool true]) ∧ w = w' := by
  go_enter Try.func53, Try.ntmps53
  go_wp2_with (first | (go_at_call 59; ((with_reducible refine (bit_t _).mono ?_); rintro e w' ⟨rfl, rfl⟩)) | (go_at_call 59; ((with_reducible refine (bit_f _).mono ?_); rintro e w' ⟨rfl, rfl⟩)) | (go_at_call 50; refine (rword_any _ _).mono ?_; rintro e w' ⟨rfl, rfl⟩))
  go_ret2
  exact ⟨ret_pair rfl rfl, rfl⟩
theorem plain_sub (x y : Int) (x1 : -2147483648 ≤ x) (x2 : x ≤ 2147483647) (y1 : -2147483648 ≤ y) (y2 : y ≤ 2147483647) (w : World) : Calls Try.prog 53 #[.int .i64 2, .int .i64 x, .int .i64 y] w fun e w' => e = .returned (.tuple #[.int .i64 (x - y), .bool true]) ∧ w = w' := by
  go_enter Try.func53, Try.ntmps53
  go_wp2_with (first | (go_at_call 59; ((with_reducible refine (bit_t _).mono ?_); rintro e w' ⟨rfl, rfl⟩)) | (go_at_call 59; ((with_reducible refine (bit_f _).mono ?_); rintro e w' ⟨rfl, rfl⟩)) | (go_at_call 50; refine (rword_any _ _).mono ?_; rintro e w' ⟨rfl, rfl⟩))
  go_ret2
  exact ⟨ret_pair rfl rfl, rfl⟩
theorem plain_mul (x y : Int) (x1 : -2147483648 ≤ x) (x2 : x ≤ 2147483647) (y1 : -2147483648 ≤ y) (y2 : y ≤ 2147483647) (w : World) : Calls Try.prog 53 #[.int .i64 3, .int .i64 x, .int .i64 y] w fun e w' => e = .returned (.tuple #[.int .i64 (x * y), .bool true]) ∧ w = w' := by
  obtain ⟨m1, m2⟩ := mul_bd (x := x) (y := y) ⟨x1, by omega⟩ ⟨y1, by omega⟩
  go_enter Try.func53, Try.ntmps53
  go_wp2_with (first | (go_at_call 59; ((with_reducible refine (bit_t _).mono ?_); rintro e w' ⟨rfl, rfl⟩)) | (go_at_call 59; ((with_reducible refine (bit_f _).mono ?_); rintro e w' ⟨rfl, rfl⟩)) | (go_at_call 50; refine (rword_any _ _).mono ?_; rintro e w' ⟨rfl, rfl⟩))
  go_ret2
  exact ⟨ret_pair rfl rfl, rfl⟩
theorem plain_div (x y : Int) (x1 : -2147483648 ≤ x) (x2 : x ≤ 2147483647) (y1 : -2147483648 ≤ y) (y2 : y ≤ 2147483647) (w : World) : Calls Try.prog 53 #[.int .i64 4, .int .i64 x, .int .i64 y] w fun e w' => e = .returned (.tuple #[.int .i64 (quot x y), .bool true]) ∧ w = w' := by
  by_cases hc : y = 0
  · have ht := Lib.hid (show (-1 : Int) = quot x y from (if_pos hc).symm)
    have hb : (y == 0) = true := beq_iff_eq.2 hc
    clear hc
    go_enter Try.func53, Try.ntmps53
    go_wp2_with (first | (go_at_call 59; ((with_reducible refine (bit_t _).mono ?_); rintro e w' ⟨rfl, rfl⟩)) | (go_at_call 59; ((with_reducible refine (bit_f _).mono ?_); rintro e w' ⟨rfl, rfl⟩)) | (go_at_call 50; refine (rword_any _ _).mono ?_; rintro e w' ⟨rfl, rfl⟩))
    go_ret2
    exact ⟨ret_pair ht.out rfl, rfl⟩
  · have ht := Lib.hid (show wrap64 (x.tdiv y) = quot x y by rw [quot, if_neg hc]; exact w64_in _ (by have := tdiv_bd x y ⟨x1, x2⟩; omega))
    have hb : (y == 0) = false := beq_eq_false_iff_ne.2 hc
    go_enter Try.func53, Try.ntmps53
    go_wp2_with (first | (go_at_call 59; ((with_reducible refine (bit_t _).mono ?_); rintro e w' ⟨rfl, rfl⟩)) | (go_at_call 59; ((with_reducible refine (bit_f _).mono ?_); rintro e w' ⟨rfl, rfl⟩)) | (go_at_call 50; refine (rword_any _ _).mono ?_; rintro e w' ⟨rfl, rfl⟩))
    go_ret2
    exact ⟨ret_pair ht.out rfl, rfl⟩
theorem plain_rem (x y : Int) (x1 : -2147483648 ≤ x) (x2 : x ≤ 2147483647) (y1 : -2147483648 ≤ y) (y2 : y ≤ 2147483647) (w : World) : Calls Try.prog 53 #[.int .i64 5, .int .i64 x, .int .i64 y] w fun e w' => e = .returned (.tuple #[.int .i64 (rem x y), .bool true]) ∧ w = w' := by
  by_cases hc : y = 0
  · have ht := Lib.hid (show x = rem x y from (if_pos hc).symm)
    have hb : (y == 0) = true := beq_iff_eq.2 hc
    clear hc
    go_enter Try.func53, Try.ntmps53
    go_wp2_with (first | (go_at_call 59; ((with_reducible refine (bit_t _).mono ?_); rintro e w' ⟨rfl, rfl⟩)) | (go_at_call 59; ((with_reducible refine (bit_f _).mono ?_); rintro e w' ⟨rfl, rfl⟩)) | (go_at_call 50; refine (rword_any _ _).mono ?_; rintro e w' ⟨rfl, rfl⟩))
    go_ret2
    exact ⟨ret_pair ht.out rfl, rfl⟩
  · have ht := Lib.hid (show x.tmod y = rem x y from (if_neg hc).symm)
    have hb : (y == 0) = false := beq_eq_false_iff_ne.2 hc
    go_enter Try.func53, Try.ntmps53
    go_wp2_with (first | (go_at_call 59; ((with_reducible refine (bit_t _).mono ?_); rintro e w' ⟨rfl, rfl⟩)) | (go_at_call 59; ((with_reducible refine (bit_f _).mono ?_); rintro e w' ⟨rfl, rfl⟩)) | (go_at_call 50; refine (rword_any _ _).mono ?_; rintro e w' ⟨rfl, rfl⟩))
    go_ret2
    exact ⟨ret_pair ht.out rfl, rfl⟩
theorem plain_and (x y : Int) (x1 : -2147483648 ≤ x) (x2 : x ≤ 2147483647) (y1 : -2147483648 ≤ y) (y2 : y ≤ 2147483647) (w : World) : Calls Try.prog 53 #[.int .i64 6, .int .i64 x, .int .i64 y] w fun e w' => e = .returned (.tuple #[.int .i64 (bits .and .i64 x y), .bool true]) ∧ w = w' := by
  go_enter Try.func53, Try.ntmps53
  go_wp2_with (first | (go_at_call 59; ((with_reducible refine (bit_t _).mono ?_); rintro e w' ⟨rfl, rfl⟩)) | (go_at_call 59; ((with_reducible refine (bit_f _).mono ?_); rintro e w' ⟨rfl, rfl⟩)) | (go_at_call 50; refine (rword_any _ _).mono ?_; rintro e w' ⟨rfl, rfl⟩))
  go_ret2
  exact ⟨ret_pair rfl rfl, rfl⟩
theorem plain_or (x y : Int) (x1 : -2147483648 ≤ x) (x2 : x ≤ 2147483647) (y1 : -2147483648 ≤ y) (y2 : y ≤ 2147483647) (w : World) : Calls Try.prog 53 #[.int .i64 7, .int .i64 x, .int .i64 y] w fun e w' => e = .returned (.tuple #[.int .i64 (bits .or .i64 x y), .bool true]) ∧ w = w' := by
  go_enter Try.func53, Try.ntmps53
  go_wp2_with (first | (go_at_call 59; ((with_reducible refine (bit_t _).mono ?_); rintro e w' ⟨rfl, rfl⟩)) | (go_at_call 59; ((with_reducible refine (bit_f _).mono ?_); rintro e w' ⟨rfl, rfl⟩)) | (go_at_call 50; refine (rword_any _ _).mono ?_; rintro e w' ⟨rfl, rfl⟩))
  go_ret2
  exact ⟨ret_pair rfl rfl, rfl⟩
theorem plain_xor (x y : Int) (x1 : -2147483648 ≤ x) (x2 : x ≤ 2147483647) (y1 : -2147483648 ≤ y) (y2 : y ≤ 2147483647) (w : World) : Calls Try.prog 53 #[.int .i64 8, .int .i64 x, .int .i64 y] w fun e w' => e = .returned (.tuple #[.int .i64 (bits .xor .i64 x y), .bool true]) ∧ w = w' := by
  go_enter Try.func53, Try.ntmps53
  go_wp2_with (first | (go_at_call 59; ((with_reducible refine (bit_t _).mono ?_); rintro e w' ⟨rfl, rfl⟩)) | (go_at_call 59; ((with_reducible refine (bit_f _).mono ?_); rintro e w' ⟨rfl, rfl⟩)) | (go_at_call 50; refine (rword_any _ _).mono ?_; rintro e w' ⟨rfl, rfl⟩))
  go_ret2
  exact ⟨ret_pair rfl rfl, rfl⟩
theorem plain_shl (x y : Int) (x1 : -2147483648 ≤ x) (x2 : x ≤ 2147483647) (y1 : -2147483648 ≤ y) (y2 : y ≤ 2147483647) (w : World) : Calls Try.prog 53 #[.int .i64 9, .int .i64 x, .int .i64 y] w fun e w' => e = .returned (.tuple #[.int .i64 (wrap64 (x * 2 ^ (y % 32).toNat)), .bool true]) ∧ w = w' := by
  have hm := and31 y
  go_enter Try.func53, Try.ntmps53
  go_wp2_with (first | (go_at_call 59; ((with_reducible refine (bit_t _).mono ?_); rintro e w' ⟨rfl, rfl⟩)) | (go_at_call 59; ((with_reducible refine (bit_f _).mono ?_); rintro e w' ⟨rfl, rfl⟩)) | (go_at_call 50; refine (rword_any _ _).mono ?_; rintro e w' ⟨rfl, rfl⟩))
  go_ret2
  exact ⟨ret_pair rfl rfl, rfl⟩
theorem plain_shr (x y : Int) (x1 : -2147483648 ≤ x) (x2 : x ≤ 2147483647) (y1 : -2147483648 ≤ y) (y2 : y ≤ 2147483647) (w : World) : Calls Try.prog 53 #[.int .i64 10, .int .i64 x, .int .i64 y] w fun e w' => e = .returned (.tuple #[.int .i64 (x / 2 ^ (y % 32).toNat), .bool true]) ∧ w = w' := by
  have hm := and31 y
  go_enter Try.func53, Try.ntmps53
  go_wp2_with (first | (go_at_call 59; ((with_reducible refine (bit_t _).mono ?_); rintro e w' ⟨rfl, rfl⟩)) | (go_at_call 59; ((with_reducible refine (bit_f _).mono ?_); rintro e w' ⟨rfl, rfl⟩)) | (go_at_call 50; refine (rword_any _ _).mono ?_; rintro e w' ⟨rfl, rfl⟩))
  go_ret2
  exact ⟨ret_pair rfl rfl, rfl⟩
theorem plain_lt (x y : Int) (x1 : -2147483648 ≤ x) (x2 : x ≤ 2147483647) (y1 : -2147483648 ≤ y) (y2 : y ≤ 2147483647) (w : World) : Calls Try.prog 53 #[.int .i64 11, .int .i64 x, .int .i64 y] w fun e w' => e = .returned (.tuple #[.int .i64 (tr (x < y)), .bool true]) ∧ w = w' := by
  by_cases hc : x < y
  · have ht := Lib.hid (show (1 : Int) = tr (x < y) by rw [tr, if_pos hc])
    have hb : decide (x < y) = true := decide_eq_true hc
    clear hc
    go_enter Try.func53, Try.ntmps53
    go_wp2_with (first | (go_at_call 59; ((with_reducible refine (bit_t _).mono ?_); rintro e w' ⟨rfl, rfl⟩)) | (go_at_call 59; ((with_reducible refine (bit_f _).mono ?_); rintro e w' ⟨rfl, rfl⟩)) | (go_at_call 50; refine (rword_any _ _).mono ?_; rintro e w' ⟨rfl, rfl⟩))
    go_ret2
    exact ⟨ret_pair ht.out rfl, rfl⟩
  · have ht := Lib.hid (show (0 : Int) = tr (x < y) by rw [tr, if_neg hc])
    have hb : decide (x < y) = false := decide_eq_false hc
    clear hc
    go_enter Try.func53, Try.ntmps53
    go_wp2_with (first | (go_at_call 59; ((with_reducible refine (bit_t _).mono ?_); rintro e w' ⟨rfl, rfl⟩)) | (go_at_call 59; ((with_reducible refine (bit_f _).mono ?_); rintro e w' ⟨rfl, rfl⟩)) | (go_at_call 50; refine (rword_any _ _).mono ?_; rintro e w' ⟨rfl, rfl⟩))
    go_ret2
    exact ⟨ret_pair ht.out rfl, rfl⟩
theorem plain_less (x y : Int) (x1 : -2147483648 ≤ x) (x2 : x ≤ 2147483647) (y1 : -2147483648 ≤ y) (y2 : y ≤ 2147483647) (w : World) : Calls Try.prog 53 #[.int .i64 12, .int .i64 x, .int .i64 y] w fun e w' => e = .returned (.tuple #[.int .i64 (tr (x % 4294967296 < y % 4294967296)), .bool true]) ∧ w = w' := by
  by_cases hc : x % 4294967296 < y % 4294967296
  · have ht := Lib.hid (show (1 : Int) = tr (x % 4294967296 < y % 4294967296) by rw [tr, if_pos hc])
    have hb : decide (x % 4294967296 < y % 4294967296) = true := decide_eq_true hc
    clear hc
    go_enter Try.func53, Try.ntmps53
    go_wp2_with (first | (go_at_call 59; ((with_reducible refine (bit_t _).mono ?_); rintro e w' ⟨rfl, rfl⟩)) | (go_at_call 59; ((with_reducible refine (bit_f _).mono ?_); rintro e w' ⟨rfl, rfl⟩)) | (go_at_call 50; refine (rword_any _ _).mono ?_; rintro e w' ⟨rfl, rfl⟩))
    go_ret2
    exact ⟨ret_pair ht.out rfl, rfl⟩
  · have ht := Lib.hid (show (0 : Int) = tr (x % 4294967296 < y % 4294967296) by rw [tr, if_neg hc])
    have hb : decide (x % 4294967296 < y % 4294967296) = false := decide_eq_false hc
    clear hc
    go_enter Try.func53, Try.ntmps53
    go_wp2_with (first | (go_at_call 59; ((with_reducible refine (bit_t _).mono ?_); rintro e w' ⟨rfl, rfl⟩)) | (go_at_call 59; ((with_reducible refine (bit_f _).mono ?_); rintro e w' ⟨rfl, rfl⟩)) | (go_at_call 50; refine (rword_any _ _).mono ?_; rintro e w' ⟨rfl, rfl⟩))
    go_ret2
    exact ⟨ret_pair ht.out rfl, rfl⟩
theorem plain_eq (x y : Int) (x1 : -2147483648 ≤ x) (x2 : x ≤ 2147483647) (y1 : -2147483648 ≤ y) (y2 : y ≤ 2147483647) (w : World) : Calls Try.prog 53 #[.int .i64 13, .int .i64 x, .int .i64 y] w fun e w' => e = .returned (.tuple #[.int .i64 (tr (x = y)), .bool true]) ∧ w = w' := by
  by_cases hc : x = y
  · have ht := Lib.hid (show (1 : Int) = tr (x = y) by rw [tr, if_pos hc])
    have hb : (x == y) = true := beq_iff_eq.2 hc
    clear hc
    go_enter Try.func53, Try.ntmps53
    go_wp2_with (first | (go_at_call 59; ((with_reducible refine (bit_t _).mono ?_); rintro e w' ⟨rfl, rfl⟩)) | (go_at_call 59; ((with_reducible refine (bit_f _).mono ?_); rintro e w' ⟨rfl, rfl⟩)) | (go_at_call 50; refine (rword_any _ _).mono ?_; rintro e w' ⟨rfl, rfl⟩))
    go_ret2
    exact ⟨ret_pair ht.out rfl, rfl⟩
  · have ht := Lib.hid (show (0 : Int) = tr (x = y) by rw [tr, if_neg hc])
    have hb : (x == y) = false := beq_eq_false_iff_ne.2 hc
    clear hc
    go_enter Try.func53, Try.ntmps53
    go_wp2_with (first | (go_at_call 59; ((with_reducible refine (bit_t _).mono ?_); rintro e w' ⟨rfl, rfl⟩)) | (go_at_call 59; ((with_reducible refine (bit_f _).mono ?_); rintro e w' ⟨rfl, rfl⟩)) | (go_at_call 50; refine (rword_any _ _).mono ?_; rintro e w' ⟨rfl, rfl⟩))
    go_ret2
    exact ⟨ret_pair ht.out rfl, rfl⟩
theorem plain_ne (x y : Int) (x1 : -2147483648 ≤ x) (x2 : x ≤ 2147483647) (y1 : -2147483648 ≤ y) (y2 : y ≤ 2147483647) (w : World) : Calls Try.prog 53 #[.int .i64 14, .int .i64 x, .int .i64 y] w fun e w' => e = .returned (.tuple #[.int .i64 (tr (x ≠ y)), .bool true]) ∧ w = w' := by
  by_cases hc : x ≠ y
  · have ht := Lib.hid (show (1 : Int) = tr (x ≠ y) by rw [tr, if_pos hc])
    have hb : (x != y) = true := bne_iff_ne.2 hc
    clear hc
    go_enter Try.func53, Try.ntmps53
    go_wp2_with (first | (go_at_call 59; ((with_reducible refine (bit_t _).mono ?_); rintro e w' ⟨rfl, rfl⟩)) | (go_at_call 59; ((with_reducible refine (bit_f _).mono ?_); rintro e w' ⟨rfl, rfl⟩)) | (go_at_call 50; refine (rword_any _ _).mono ?_; rintro e w' ⟨rfl, rfl⟩))
    go_ret2
    exact ⟨ret_pair ht.out rfl, rfl⟩
  · have ht := Lib.hid (show (0 : Int) = tr (x ≠ y) by rw [tr, if_neg hc])
    have hb : (x != y) = false := by rw [bne_eq_false_iff_eq]; exact Decidable.not_not.1 hc
    clear hc
    go_enter Try.func53, Try.ntmps53
    go_wp2_with (first | (go_at_call 59; ((with_reducible refine (bit_t _).mono ?_); rintro e w' ⟨rfl, rfl⟩)) | (go_at_call 59; ((with_reducible refine (bit_f _).mono ?_); rintro e w' ⟨rfl, rfl⟩)) | (go_at_call 50; refine (rword_any _ _).mono ?_; rintro e w' ⟨rfl, rfl⟩))
    go_ret2
    exact ⟨ret_pair ht.out rfl, rfl⟩
def pl (op x y : Int) : Int :=
  if op = 1 then x + y else if op = 2 then x - y else if op = 3 then x * y else if op = 4 then quot x y else if op = 5 then rem x y else
  if op = 6 then bits .and .i64 x y else if op = 7 then bits .or .i64 x y else if op = 8 then bits .xor .i64 x y else
  if op = 9 then wrap64 (x * 2 ^ (y % 32).toNat) else if op = 10 then x / 2 ^ (y % 32).toNat else if op = 11 then tr (x < y) else
  if op = 12 then tr (x % 4294967296 < y % 4294967296) else if op = 13 then tr (x = y) else if op = 14 then tr (x ≠ y) else 0
theorem pl_out (op x y : Int) (h : op < 1 ∨ 14 < op) : pl op x y = 0 := by
  unfold pl
  repeat rw [if_neg (by omega)]
theorem plain_none (op x y : Int) (h : op < 1 ∨ 14 < op) (w : World) : Calls Try.prog 53 #[.int .i64 op, .int .i64 x, .int .i64 y] w fun e w' => e = .returned (.tuple #[.int .i64 0, .bool false]) ∧ w = w' := by
  rcases h with h | h
  all_goals
    go_enter Try.func53, Try.ntmps53
    go_wp2
    go_ret2
    exact ⟨rfl, rfl⟩
theorem plain_any (op x y : Int) (x1 : -2147483648 ≤ x) (x2 : x ≤ 2147483647) (y1 : -2147483648 ≤ y) (y2 : y ≤ 2147483647) (w : World) : Calls Try.prog 53 #[.int .i64 op, .int .i64 x, .int .i64 y] w fun e w' => e = .returned (.tuple #[.int .i64 (pl op x y), .bool (isTwo op)]) ∧ w = w' := by
  by_cases h : 1 ≤ op ∧ op ≤ 14
  · have hk : op = 1 ∨ op = 2 ∨ op = 3 ∨ op = 4 ∨ op = 5 ∨ op = 6 ∨ op = 7 ∨ op = 8 ∨ op = 9 ∨ op = 10 ∨ op = 11 ∨ op = 12 ∨ op = 13 ∨ op = 14 := by omega
    rcases hk with rfl | rfl | rfl | rfl | rfl | rfl | rfl | rfl | rfl | rfl | rfl | rfl | rfl | rfl
    · exact plain_add x y x1 x2 y1 y2 w
    · exact plain_sub x y x1 x2 y1 y2 w
    · exact plain_mul x y x1 x2 y1 y2 w
    · exact plain_div x y x1 x2 y1 y2 w
    · exact plain_rem x y x1 x2 y1 y2 w
    · exact plain_and x y x1 x2 y1 y2 w
    · exact plain_or x y x1 x2 y1 y2 w
    · exact plain_xor x y x1 x2 y1 y2 w
    · exact plain_shl x y x1 x2 y1 y2 w
    · exact plain_shr x y x1 x2 y1 y2 w
    · exact plain_lt x y x1 x2 y1 y2 w
    · exact plain_less x y x1 x2 y1 y2 w
    · exact plain_eq x y x1 x2 y1 y2 w
    · exact plain_ne x y x1 x2 y1 y2 w
  · have e : isTwo op = false := decide_eq_false h
    have e0 : pl op x y = 0 := pl_out op x y (by omega)
    rw [e, e0]
    exact plain_none op x y (by omega) w
theorem pl_two (op a b : Int) : wrap32 (pl op (wrap32 a) (wrap32 b)) = two op a b := by
  by_cases h : 1 ≤ op ∧ op ≤ 14
  · have hk : op = 1 ∨ op = 2 ∨ op = 3 ∨ op = 4 ∨ op = 5 ∨ op = 6 ∨ op = 7 ∨ op = 8 ∨ op = 9 ∨ op = 10 ∨ op = 11 ∨ op = 12 ∨ op = 13 ∨ op = 14 := by omega
    rcases hk with rfl | rfl | rfl | rfl | rfl | rfl | rfl | rfl | rfl | rfl | rfl | rfl | rfl | rfl
    · exact two_1 a b
    · exact two_2 a b
    · show wrap32 (wrap32 a * wrap32 b) = _
      exact (w32_w64 _).symm.trans (two_3 a b)
    · exact two_4 a b
    · exact two_5 a b
    · exact two_6 a b
    · exact two_7 a b
    · exact two_8 a b
    · exact two_9 a b
    · exact two_10 a b
    · exact w32_tr _
    · show wrap32 (tr (wrap32 a % 4294967296 < wrap32 b % 4294967296)) = tr (a % 4294967296 < b % 4294967296)
      rw [w32_tr]
      simp only [wd_w32]
    · exact w32_tr _
    · exact w32_tr _
  · rw [pl_out op _ _ (by omega), two_out op _ _ (by omega)]
    exact w32_0
theorem rtwo_any (op a b : Int) (w : World) : Calls Try.prog 46 #[.int .i64 op, .int .i64 a, .int .i64 b] w fun e w' => e = .returned (.tuple #[.int .i64 (two op a b), .bool (isTwo op)]) ∧ w = w' := by
  have h := Lib.hid (pl_two op a b)
  have h1 := w32_lo a
  have h2 := w32_hi a
  have h3 := w32_lo b
  have h4 := w32_hi b
  go_enter Try.func46, Try.ntmps46
  go_wp2_with (first | (go_at_call 35; refine (rwrap_any _ _).mono ?_; rintro e w' ⟨rfl, rfl⟩) | (go_at_call 53; refine (plain_any _ _ _ h1 h2 h3 h4 _).mono ?_; rintro e w' ⟨rfl, rfl⟩))
  go_ret2
  exact ⟨ret_pair h.out rfl, rfl⟩
set_option maxHeartbeats 4000000 in
theorem rlevel_any (op : Int) (w : World) : Calls Try.prog 45 #[.int .i64 op] w fun e w' => e = .returned (.int .i64 (level op)) ∧ Both w w' := by
  have hk : op = 1 ∨ op = 2 ∨ op = 3 ∨ op = 4 ∨ op = 5 ∨ op = 6 ∨ op = 7 ∨ op = 8 ∨ op = 9 ∨ op = 10 ∨ op = 11 ∨ op = 12 ∨ op = 13 ∨ op = 14 ∨ op < 1 ∨ 14 < op := by omega
  rcases hk with rfl | rfl | rfl | rfl | rfl | rfl | rfl | rfl | rfl | rfl | rfl | rfl | rfl | rfl | h | h
  iterate 14
    · go_enter Try.func45, Try.ntmps45
      go_wp2
      go_ret
      exact ⟨rfl, (Both.refl _).alloc _ _⟩
  all_goals
    have HL := Lib.hid (level_out op (by omega)).symm
    go_enter Try.func45, Try.ntmps45
    go_wp2
    go_ret
    exact ⟨ret_int HL.out, Both.refl _⟩
theorem two_val {op a b v : Int} {q : Bool} (h : two op a b = v) (h' : isTwo op = q) (w : World) : Calls Try.prog 52 #[.int .i64 op, .int .i64 a, .int .i64 b] w fun e w' => e = .returned (.tuple #[.int .i64 v, .bool q]) ∧ w = w' := by
  subst h h'
  exact two_any op a b w
theorem rtwo_val {op a b v : Int} {q : Bool} (h : two op a b = v) (h' : isTwo op = q) (w : World) : Calls Try.prog 46 #[.int .i64 op, .int .i64 a, .int .i64 b] w fun e w' => e = .returned (.tuple #[.int .i64 v, .bool q]) ∧ w = w' := by
  subst h h'
  exact rtwo_any op a b w
end Go.Proofs.Ytobpoghophhphaa
