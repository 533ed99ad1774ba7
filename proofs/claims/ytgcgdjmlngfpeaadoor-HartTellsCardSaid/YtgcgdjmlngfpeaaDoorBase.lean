/- What each function of package wrap answers, and awake: every call returns, leaves memory as it was, and answers as the plain functions of the Plain text say. For Sign it is taken that the table of texts holds what its initialiser lays. -/
import Derived.Test.YtgcgdjmlngfpeaaDoorProg
import Derived.Test.YtgcgdjmlngfpeaaDoorPlain
import Derived.WalkKit
import Derived.WalkSpells
import Derived.Lib.Hide
namespace Go.Proofs.YtgcgdjmlngfpeaaDoor
open Go.RowKit Plain

theorem ret_int1 {k : IntKind} {a b : Int} (h : a = b) : Ending.returned (.int k a) = .returned (.int k b) := by rw [h]
theorem ret_pair {k : IntKind} {a b : Int} {p q : Bool} (h : a = b) (h' : p = q) : Ending.returned (.tuple #[.int k a, .bool p]) = .returned (.tuple #[.int k b, .bool q]) := by rw [h, h']

theorem wrap_any (n : Int) (w : World) : Calls Tryd.prog 27 #[.int .i64 n] w fun e w' => e = .returned (.int .i64 (wrap32 n)) ∧ w = w' := by
  have h1 := w32_lo n
  have h2 := w32_hi n
  go_enter Tryd.func27, Tryd.ntmps27
  go_wp2
  go_ret
  exact ⟨rfl, rfl⟩
theorem word_any (n : Int) (w : World) : Calls Tryd.prog 48 #[.int .i64 n] w fun e w' => e = .returned (.int .i64 (n % 4294967296)) ∧ w = w' := by
  go_enter Tryd.func48, Tryd.ntmps48
  go_wp2
  go_ret
  exact ⟨rfl, rfl⟩
theorem truth_t (w : World) : Calls Tryd.prog 47 #[.bool true] w fun e w' => e = .returned (.int .i64 1) ∧ w = w' := by
  go_enter Tryd.func47, Tryd.ntmps47
  go_wp2
  go_ret
  exact ⟨rfl, rfl⟩
theorem truth_f (w : World) : Calls Tryd.prog 47 #[.bool false] w fun e w' => e = .returned (.int .i64 0) ∧ w = w' := by
  go_enter Tryd.func47, Tryd.ntmps47
  go_wp2
  go_ret
  exact ⟨rfl, rfl⟩
theorem moves_any (n : Int) (w : World) : Calls Tryd.prog 49 #[.int .i64 n] w fun e w' => e = .returned (.int .i64 (n % 32)) ∧ w = w' := by
  have h := and31 n
  go_enter Tryd.func49, Tryd.ntmps49
  go_wp2
  go_ret
  exact ⟨rfl, rfl⟩
def quot (a b : Int) : Int := if b = 0 then -1 else a.tdiv b
def rem (a b : Int) : Int := if b = 0 then a else a.tmod b
theorem quotient_any (a b : Int) (ha : -2147483648 ≤ a ∧ a ≤ 2147483647) (w : World) : Calls Tryd.prog 50 #[.int .i64 a, .int .i64 b] w fun e w' => e = .returned (.int .i64 (quot a b)) ∧ w = w' := by
  by_cases hb : b = 0
  · subst hb
    go_enter Tryd.func50, Tryd.ntmps50
    go_wp2
    go_ret
    exact ⟨rfl, rfl⟩
  · have h0 : (b == 0) = false := beq_eq_false_iff_ne.2 hb
    have hq : quot a b = a.tdiv b := if_neg hb
    have hw : wrap64 (a.tdiv b) = a.tdiv b := w64_in _ (by have := tdiv_bd a b ha; omega)
    have HQ := Lib.hid (hw.trans hq.symm)
    clear hq ha hw
    go_enter Tryd.func50, Tryd.ntmps50
    go_wp2
    go_ret
    exact ⟨ret_int1 HQ.out, rfl⟩
theorem rest_any (a b : Int) (w : World) : Calls Tryd.prog 51 #[.int .i64 a, .int .i64 b] w fun e w' => e = .returned (.int .i64 (rem a b)) ∧ w = w' := by
  by_cases hb : b = 0
  · subst hb
    go_enter Tryd.func51, Tryd.ntmps51
    go_wp2
    go_ret
    exact ⟨rfl, rfl⟩
  · have h0 : (b == 0) = false := beq_eq_false_iff_ne.2 hb
    have hq : rem a b = a.tmod b := if_neg hb
    have HQ := Lib.hid hq
    clear hq
    go_enter Tryd.func51, Tryd.ntmps51
    go_wp2
    go_ret
    rw [HQ.out]
    exact ⟨rfl, rfl⟩
/-! TWO, operator by operator. -/
theorem two_add (a b : Int) (w : World) : Calls Tryd.prog 25 #[.int .i64 1, .int .i64 a, .int .i64 b] w fun e w' => e = .returned (.tuple #[.int .i64 (two 1 a b), .bool true]) ∧ w = w' := by
  have h1 := w32_lo a
  have h2 := w32_hi a
  have h3 := w32_lo b
  have h4 := w32_hi b
  go_enter Tryd.func25, Tryd.ntmps25
  go_wp2_with (first | (go_at_call 27; refine (wrap_any _ _).mono ?_; rintro e w' ⟨rfl, rfl⟩) | (go_at_call 48; refine (word_any _ _).mono ?_; rintro e w' ⟨rfl, rfl⟩) | (go_at_call 49; refine (moves_any _ _).mono ?_; rintro e w' ⟨rfl, rfl⟩) | (go_at_call 50; refine (quotient_any _ _ ⟨w32_lo _, w32_hi _⟩ _).mono ?_; rintro e w' ⟨rfl, rfl⟩) | (go_at_call 47; ((with_reducible refine (truth_t _).mono ?_); rintro e w' ⟨rfl, rfl⟩)) | (go_at_call 47; ((with_reducible refine (truth_f _).mono ?_); rintro e w' ⟨rfl, rfl⟩)) | (go_at_call 51; refine (rest_any _ _ _).mono ?_; rintro e w' ⟨rfl, rfl⟩))
  go_ret2
  exact ⟨ret_pair (two_1 a b) rfl, rfl⟩
theorem two_sub (a b : Int) (w : World) : Calls Tryd.prog 25 #[.int .i64 2, .int .i64 a, .int .i64 b] w fun e w' => e = .returned (.tuple #[.int .i64 (two 2 a b), .bool true]) ∧ w = w' := by
  have h1 := w32_lo a
  have h2 := w32_hi a
  have h3 := w32_lo b
  have h4 := w32_hi b
  go_enter Tryd.func25, Tryd.ntmps25
  go_wp2_with (first | (go_at_call 27; refine (wrap_any _ _).mono ?_; rintro e w' ⟨rfl, rfl⟩) | (go_at_call 48; refine (word_any _ _).mono ?_; rintro e w' ⟨rfl, rfl⟩) | (go_at_call 49; refine (moves_any _ _).mono ?_; rintro e w' ⟨rfl, rfl⟩) | (go_at_call 50; refine (quotient_any _ _ ⟨w32_lo _, w32_hi _⟩ _).mono ?_; rintro e w' ⟨rfl, rfl⟩) | (go_at_call 47; ((with_reducible refine (truth_t _).mono ?_); rintro e w' ⟨rfl, rfl⟩)) | (go_at_call 47; ((with_reducible refine (truth_f _).mono ?_); rintro e w' ⟨rfl, rfl⟩)) | (go_at_call 51; refine (rest_any _ _ _).mono ?_; rintro e w' ⟨rfl, rfl⟩))
  go_ret2
  exact ⟨ret_pair (two_2 a b) rfl, rfl⟩
theorem two_mul (a b : Int) (w : World) : Calls Tryd.prog 25 #[.int .i64 3, .int .i64 a, .int .i64 b] w fun e w' => e = .returned (.tuple #[.int .i64 (two 3 a b), .bool true]) ∧ w = w' := by
  have h1 := w32_lo a
  have h2 := w32_hi a
  have h3 := w32_lo b
  have h4 := w32_hi b
  go_enter Tryd.func25, Tryd.ntmps25
  go_wp2_with (first | (go_at_call 27; refine (wrap_any _ _).mono ?_; rintro e w' ⟨rfl, rfl⟩) | (go_at_call 48; refine (word_any _ _).mono ?_; rintro e w' ⟨rfl, rfl⟩) | (go_at_call 49; refine (moves_any _ _).mono ?_; rintro e w' ⟨rfl, rfl⟩) | (go_at_call 50; refine (quotient_any _ _ ⟨w32_lo _, w32_hi _⟩ _).mono ?_; rintro e w' ⟨rfl, rfl⟩) | (go_at_call 47; ((with_reducible refine (truth_t _).mono ?_); rintro e w' ⟨rfl, rfl⟩)) | (go_at_call 47; ((with_reducible refine (truth_f _).mono ?_); rintro e w' ⟨rfl, rfl⟩)) | (go_at_call 51; refine (rest_any _ _ _).mono ?_; rintro e w' ⟨rfl, rfl⟩))
  go_ret2
  exact ⟨ret_pair (two_3 a b) rfl, rfl⟩
theorem two_div (a b : Int) (w : World) : Calls Tryd.prog 25 #[.int .i64 4, .int .i64 a, .int .i64 b] w fun e w' => e = .returned (.tuple #[.int .i64 (two 4 a b), .bool true]) ∧ w = w' := by
  have h1 := w32_lo a
  have h2 := w32_hi a
  have h3 := w32_lo b
  have h4 := w32_hi b
  go_enter Tryd.func25, Tryd.ntmps25
  go_wp2_with (first | (go_at_call 27; refine (wrap_any _ _).mono ?_; rintro e w' ⟨rfl, rfl⟩) | (go_at_call 48; refine (word_any _ _).mono ?_; rintro e w' ⟨rfl, rfl⟩) | (go_at_call 49; refine (moves_any _ _).mono ?_; rintro e w' ⟨rfl, rfl⟩) | (go_at_call 50; refine (quotient_any _ _ ⟨w32_lo _, w32_hi _⟩ _).mono ?_; rintro e w' ⟨rfl, rfl⟩) | (go_at_call 47; ((with_reducible refine (truth_t _).mono ?_); rintro e w' ⟨rfl, rfl⟩)) | (go_at_call 47; ((with_reducible refine (truth_f _).mono ?_); rintro e w' ⟨rfl, rfl⟩)) | (go_at_call 51; refine (rest_any _ _ _).mono ?_; rintro e w' ⟨rfl, rfl⟩))
  go_ret2
  exact ⟨ret_pair (two_4 a b) rfl, rfl⟩
theorem two_rem (a b : Int) (w : World) : Calls Tryd.prog 25 #[.int .i64 5, .int .i64 a, .int .i64 b] w fun e w' => e = .returned (.tuple #[.int .i64 (two 5 a b), .bool true]) ∧ w = w' := by
  have h1 := w32_lo a
  have h2 := w32_hi a
  have h3 := w32_lo b
  have h4 := w32_hi b
  go_enter Tryd.func25, Tryd.ntmps25
  go_wp2_with (first | (go_at_call 27; refine (wrap_any _ _).mono ?_; rintro e w' ⟨rfl, rfl⟩) | (go_at_call 48; refine (word_any _ _).mono ?_; rintro e w' ⟨rfl, rfl⟩) | (go_at_call 49; refine (moves_any _ _).mono ?_; rintro e w' ⟨rfl, rfl⟩) | (go_at_call 50; refine (quotient_any _ _ ⟨w32_lo _, w32_hi _⟩ _).mono ?_; rintro e w' ⟨rfl, rfl⟩) | (go_at_call 47; ((with_reducible refine (truth_t _).mono ?_); rintro e w' ⟨rfl, rfl⟩)) | (go_at_call 47; ((with_reducible refine (truth_f _).mono ?_); rintro e w' ⟨rfl, rfl⟩)) | (go_at_call 51; refine (rest_any _ _ _).mono ?_; rintro e w' ⟨rfl, rfl⟩))
  go_ret2
  exact ⟨ret_pair (two_5 a b) rfl, rfl⟩
theorem two_and (a b : Int) (w : World) : Calls Tryd.prog 25 #[.int .i64 6, .int .i64 a, .int .i64 b] w fun e w' => e = .returned (.tuple #[.int .i64 (two 6 a b), .bool true]) ∧ w = w' := by
  have h1 := w32_lo a
  have h2 := w32_hi a
  have h3 := w32_lo b
  have h4 := w32_hi b
  go_enter Tryd.func25, Tryd.ntmps25
  go_wp2_with (first | (go_at_call 27; refine (wrap_any _ _).mono ?_; rintro e w' ⟨rfl, rfl⟩) | (go_at_call 48; refine (word_any _ _).mono ?_; rintro e w' ⟨rfl, rfl⟩) | (go_at_call 49; refine (moves_any _ _).mono ?_; rintro e w' ⟨rfl, rfl⟩) | (go_at_call 50; refine (quotient_any _ _ ⟨w32_lo _, w32_hi _⟩ _).mono ?_; rintro e w' ⟨rfl, rfl⟩) | (go_at_call 47; ((with_reducible refine (truth_t _).mono ?_); rintro e w' ⟨rfl, rfl⟩)) | (go_at_call 47; ((with_reducible refine (truth_f _).mono ?_); rintro e w' ⟨rfl, rfl⟩)) | (go_at_call 51; refine (rest_any _ _ _).mono ?_; rintro e w' ⟨rfl, rfl⟩))
  go_ret2
  exact ⟨ret_pair (two_6 a b) rfl, rfl⟩
theorem two_or (a b : Int) (w : World) : Calls Tryd.prog 25 #[.int .i64 7, .int .i64 a, .int .i64 b] w fun e w' => e = .returned (.tuple #[.int .i64 (two 7 a b), .bool true]) ∧ w = w' := by
  have h1 := w32_lo a
  have h2 := w32_hi a
  have h3 := w32_lo b
  have h4 := w32_hi b
  go_enter Tryd.func25, Tryd.ntmps25
  go_wp2_with (first | (go_at_call 27; refine (wrap_any _ _).mono ?_; rintro e w' ⟨rfl, rfl⟩) | (go_at_call 48; refine (word_any _ _).mono ?_; rintro e w' ⟨rfl, rfl⟩) | (go_at_call 49; refine (moves_any _ _).mono ?_; rintro e w' ⟨rfl, rfl⟩) | (go_at_call 50; refine (quotient_any _ _ ⟨w32_lo _, w32_hi _⟩ _).mono ?_; rintro e w' ⟨rfl, rfl⟩) | (go_at_call 47; ((with_reducible refine (truth_t _).mono ?_); rintro e w' ⟨rfl, rfl⟩)) | (go_at_call 47; ((with_reducible refine (truth_f _).mono ?_); rintro e w' ⟨rfl, rfl⟩)) | (go_at_call 51; refine (rest_any _ _ _).mono ?_; rintro e w' ⟨rfl, rfl⟩))
  go_ret2
  exact ⟨ret_pair (two_7 a b) rfl, rfl⟩
theorem two_xor (a b : Int) (w : World) : Calls Tryd.prog 25 #[.int .i64 8, .int .i64 a, .int .i64 b] w fun e w' => e = .returned (.tuple #[.int .i64 (two 8 a b), .bool true]) ∧ w = w' := by
  have h1 := w32_lo a
  have h2 := w32_hi a
  have h3 := w32_lo b
  have h4 := w32_hi b
  go_enter Tryd.func25, Tryd.ntmps25
  go_wp2_with (first | (go_at_call 27; refine (wrap_any _ _).mono ?_; rintro e w' ⟨rfl, rfl⟩) | (go_at_call 48; refine (word_any _ _).mono ?_; rintro e w' ⟨rfl, rfl⟩) | (go_at_call 49; refine (moves_any _ _).mono ?_; rintro e w' ⟨rfl, rfl⟩) | (go_at_call 50; refine (quotient_any _ _ ⟨w32_lo _, w32_hi _⟩ _).mono ?_; rintro e w' ⟨rfl, rfl⟩) | (go_at_call 47; ((with_reducible refine (truth_t _).mono ?_); rintro e w' ⟨rfl, rfl⟩)) | (go_at_call 47; ((with_reducible refine (truth_f _).mono ?_); rintro e w' ⟨rfl, rfl⟩)) | (go_at_call 51; refine (rest_any _ _ _).mono ?_; rintro e w' ⟨rfl, rfl⟩))
  go_ret2
  exact ⟨ret_pair (two_8 a b) rfl, rfl⟩
theorem two_shl (a b : Int) (w : World) : Calls Tryd.prog 25 #[.int .i64 9, .int .i64 a, .int .i64 b] w fun e w' => e = .returned (.tuple #[.int .i64 (two 9 a b), .bool true]) ∧ w = w' := by
  have h1 := w32_lo a
  have h2 := w32_hi a
  have h3 := w32_lo b
  have h4 := w32_hi b
  go_enter Tryd.func25, Tryd.ntmps25
  go_wp2_with (first | (go_at_call 27; refine (wrap_any _ _).mono ?_; rintro e w' ⟨rfl, rfl⟩) | (go_at_call 48; refine (word_any _ _).mono ?_; rintro e w' ⟨rfl, rfl⟩) | (go_at_call 49; refine (moves_any _ _).mono ?_; rintro e w' ⟨rfl, rfl⟩) | (go_at_call 50; refine (quotient_any _ _ ⟨w32_lo _, w32_hi _⟩ _).mono ?_; rintro e w' ⟨rfl, rfl⟩) | (go_at_call 47; ((with_reducible refine (truth_t _).mono ?_); rintro e w' ⟨rfl, rfl⟩)) | (go_at_call 47; ((with_reducible refine (truth_f _).mono ?_); rintro e w' ⟨rfl, rfl⟩)) | (go_at_call 51; refine (rest_any _ _ _).mono ?_; rintro e w' ⟨rfl, rfl⟩))
  go_ret2
  exact ⟨ret_pair (two_9 a b) rfl, rfl⟩
theorem two_shr (a b : Int) (w : World) : Calls Tryd.prog 25 #[.int .i64 10, .int .i64 a, .int .i64 b] w fun e w' => e = .returned (.tuple #[.int .i64 (two 10 a b), .bool true]) ∧ w = w' := by
  have h1 := w32_lo a
  have h2 := w32_hi a
  have h3 := w32_lo b
  have h4 := w32_hi b
  go_enter Tryd.func25, Tryd.ntmps25
  go_wp2_with (first | (go_at_call 27; refine (wrap_any _ _).mono ?_; rintro e w' ⟨rfl, rfl⟩) | (go_at_call 48; refine (word_any _ _).mono ?_; rintro e w' ⟨rfl, rfl⟩) | (go_at_call 49; refine (moves_any _ _).mono ?_; rintro e w' ⟨rfl, rfl⟩) | (go_at_call 50; refine (quotient_any _ _ ⟨w32_lo _, w32_hi _⟩ _).mono ?_; rintro e w' ⟨rfl, rfl⟩) | (go_at_call 47; ((with_reducible refine (truth_t _).mono ?_); rintro e w' ⟨rfl, rfl⟩)) | (go_at_call 47; ((with_reducible refine (truth_f _).mono ?_); rintro e w' ⟨rfl, rfl⟩)) | (go_at_call 51; refine (rest_any _ _ _).mono ?_; rintro e w' ⟨rfl, rfl⟩))
  go_ret2
  exact ⟨ret_pair (two_10 a b) rfl, rfl⟩
theorem two_lt (a b : Int) (w : World) : Calls Tryd.prog 25 #[.int .i64 11, .int .i64 a, .int .i64 b] w fun e w' => e = .returned (.tuple #[.int .i64 (two 11 a b), .bool true]) ∧ w = w' := by
  have h1 := w32_lo a
  have h2 := w32_hi a
  have h3 := w32_lo b
  have h4 := w32_hi b
  by_cases hc : wrap32 a < wrap32 b
  · have ht := Lib.hid (two_11y hc)
    go_enter Tryd.func25, Tryd.ntmps25
    go_wp2_with (first | (go_at_call 27; refine (wrap_any _ _).mono ?_; rintro e w' ⟨rfl, rfl⟩) | (go_at_call 48; refine (word_any _ _).mono ?_; rintro e w' ⟨rfl, rfl⟩) | (go_at_call 49; refine (moves_any _ _).mono ?_; rintro e w' ⟨rfl, rfl⟩) | (go_at_call 50; refine (quotient_any _ _ ⟨w32_lo _, w32_hi _⟩ _).mono ?_; rintro e w' ⟨rfl, rfl⟩) | (go_at_call 47; ((with_reducible refine (truth_t _).mono ?_); rintro e w' ⟨rfl, rfl⟩)) | (go_at_call 47; ((with_reducible refine (truth_f _).mono ?_); rintro e w' ⟨rfl, rfl⟩)) | (go_at_call 51; refine (rest_any _ _ _).mono ?_; rintro e w' ⟨rfl, rfl⟩))
    go_ret2
    exact ⟨ret_pair ht.out rfl, rfl⟩
  · have ht := Lib.hid (two_11n hc)
    have hb : decide (wrap32 a < wrap32 b) = false := decide_eq_false hc
    clear hc
    go_enter Tryd.func25, Tryd.ntmps25
    go_wp2_with (first | (go_at_call 27; refine (wrap_any _ _).mono ?_; rintro e w' ⟨rfl, rfl⟩) | (go_at_call 48; refine (word_any _ _).mono ?_; rintro e w' ⟨rfl, rfl⟩) | (go_at_call 49; refine (moves_any _ _).mono ?_; rintro e w' ⟨rfl, rfl⟩) | (go_at_call 50; refine (quotient_any _ _ ⟨w32_lo _, w32_hi _⟩ _).mono ?_; rintro e w' ⟨rfl, rfl⟩) | (go_at_call 47; ((with_reducible refine (truth_t _).mono ?_); rintro e w' ⟨rfl, rfl⟩)) | (go_at_call 47; ((with_reducible refine (truth_f _).mono ?_); rintro e w' ⟨rfl, rfl⟩)) | (go_at_call 51; refine (rest_any _ _ _).mono ?_; rintro e w' ⟨rfl, rfl⟩))
    go_ret2
    exact ⟨ret_pair ht.out rfl, rfl⟩
theorem two_less (a b : Int) (w : World) : Calls Tryd.prog 25 #[.int .i64 12, .int .i64 a, .int .i64 b] w fun e w' => e = .returned (.tuple #[.int .i64 (two 12 a b), .bool true]) ∧ w = w' := by
  have h1 := w32_lo a
  have h2 := w32_hi a
  have h3 := w32_lo b
  have h4 := w32_hi b
  by_cases hc : wrap32 a % 4294967296 < wrap32 b % 4294967296
  · have ht := Lib.hid (two_12y hc)
    go_enter Tryd.func25, Tryd.ntmps25
    go_wp2_with (first | (go_at_call 27; refine (wrap_any _ _).mono ?_; rintro e w' ⟨rfl, rfl⟩) | (go_at_call 48; refine (word_any _ _).mono ?_; rintro e w' ⟨rfl, rfl⟩) | (go_at_call 49; refine (moves_any _ _).mono ?_; rintro e w' ⟨rfl, rfl⟩) | (go_at_call 50; refine (quotient_any _ _ ⟨w32_lo _, w32_hi _⟩ _).mono ?_; rintro e w' ⟨rfl, rfl⟩) | (go_at_call 47; ((with_reducible refine (truth_t _).mono ?_); rintro e w' ⟨rfl, rfl⟩)) | (go_at_call 47; ((with_reducible refine (truth_f _).mono ?_); rintro e w' ⟨rfl, rfl⟩)) | (go_at_call 51; refine (rest_any _ _ _).mono ?_; rintro e w' ⟨rfl, rfl⟩))
    go_ret2
    exact ⟨ret_pair ht.out rfl, rfl⟩
  · have ht := Lib.hid (two_12n hc)
    have hb : decide (wrap32 a % 4294967296 < wrap32 b % 4294967296) = false := decide_eq_false hc
    clear hc
    go_enter Tryd.func25, Tryd.ntmps25
    go_wp2_with (first | (go_at_call 27; refine (wrap_any _ _).mono ?_; rintro e w' ⟨rfl, rfl⟩) | (go_at_call 48; refine (word_any _ _).mono ?_; rintro e w' ⟨rfl, rfl⟩) | (go_at_call 49; refine (moves_any _ _).mono ?_; rintro e w' ⟨rfl, rfl⟩) | (go_at_call 50; refine (quotient_any _ _ ⟨w32_lo _, w32_hi _⟩ _).mono ?_; rintro e w' ⟨rfl, rfl⟩) | (go_at_call 47; ((with_reducible refine (truth_t _).mono ?_); rintro e w' ⟨rfl, rfl⟩)) | (go_at_call 47; ((with_reducible refine (truth_f _).mono ?_); rintro e w' ⟨rfl, rfl⟩)) | (go_at_call 51; refine (rest_any _ _ _).mono ?_; rintro e w' ⟨rfl, rfl⟩))
    go_ret2
    exact ⟨ret_pair ht.out rfl, rfl⟩
theorem two_eq (a b : Int) (w : World) : Calls Tryd.prog 25 #[.int .i64 13, .int .i64 a, .int .i64 b] w fun e w' => e = .returned (.tuple #[.int .i64 (two 13 a b), .bool true]) ∧ w = w' := by
  have h1 := w32_lo a
  have h2 := w32_hi a
  have h3 := w32_lo b
  have h4 := w32_hi b
  by_cases hc : wrap32 a = wrap32 b
  · have ht := Lib.hid (two_13y hc)
    have hb : (wrap32 a == wrap32 b) = true := beq_iff_eq.2 hc
    clear hc
    go_enter Tryd.func25, Tryd.ntmps25
    go_wp2_with (first | (go_at_call 27; refine (wrap_any _ _).mono ?_; rintro e w' ⟨rfl, rfl⟩) | (go_at_call 48; refine (word_any _ _).mono ?_; rintro e w' ⟨rfl, rfl⟩) | (go_at_call 49; refine (moves_any _ _).mono ?_; rintro e w' ⟨rfl, rfl⟩) | (go_at_call 50; refine (quotient_any _ _ ⟨w32_lo _, w32_hi _⟩ _).mono ?_; rintro e w' ⟨rfl, rfl⟩) | (go_at_call 47; ((with_reducible refine (truth_t _).mono ?_); rintro e w' ⟨rfl, rfl⟩)) | (go_at_call 47; ((with_reducible refine (truth_f _).mono ?_); rintro e w' ⟨rfl, rfl⟩)) | (go_at_call 51; refine (rest_any _ _ _).mono ?_; rintro e w' ⟨rfl, rfl⟩))
    go_ret2
    exact ⟨ret_pair ht.out rfl, rfl⟩
  · have ht := Lib.hid (two_13n hc)
    have hb : (wrap32 a == wrap32 b) = false := beq_eq_false_iff_ne.2 hc
    clear hc
    go_enter Tryd.func25, Tryd.ntmps25
    go_wp2_with (first | (go_at_call 27; refine (wrap_any _ _).mono ?_; rintro e w' ⟨rfl, rfl⟩) | (go_at_call 48; refine (word_any _ _).mono ?_; rintro e w' ⟨rfl, rfl⟩) | (go_at_call 49; refine (moves_any _ _).mono ?_; rintro e w' ⟨rfl, rfl⟩) | (go_at_call 50; refine (quotient_any _ _ ⟨w32_lo _, w32_hi _⟩ _).mono ?_; rintro e w' ⟨rfl, rfl⟩) | (go_at_call 47; ((with_reducible refine (truth_t _).mono ?_); rintro e w' ⟨rfl, rfl⟩)) | (go_at_call 47; ((with_reducible refine (truth_f _).mono ?_); rintro e w' ⟨rfl, rfl⟩)) | (go_at_call 51; refine (rest_any _ _ _).mono ?_; rintro e w' ⟨rfl, rfl⟩))
    go_ret2
    exact ⟨ret_pair ht.out rfl, rfl⟩
theorem two_ne (a b : Int) (w : World) : Calls Tryd.prog 25 #[.int .i64 14, .int .i64 a, .int .i64 b] w fun e w' => e = .returned (.tuple #[.int .i64 (two 14 a b), .bool true]) ∧ w = w' := by
  have h1 := w32_lo a
  have h2 := w32_hi a
  have h3 := w32_lo b
  have h4 := w32_hi b
  by_cases hc : wrap32 a ≠ wrap32 b
  · have ht := Lib.hid (two_14y hc)
    have hb : (wrap32 a != wrap32 b) = true := bne_iff_ne.2 hc
    clear hc
    go_enter Tryd.func25, Tryd.ntmps25
    go_wp2_with (first | (go_at_call 27; refine (wrap_any _ _).mono ?_; rintro e w' ⟨rfl, rfl⟩) | (go_at_call 48; refine (word_any _ _).mono ?_; rintro e w' ⟨rfl, rfl⟩) | (go_at_call 49; refine (moves_any _ _).mono ?_; rintro e w' ⟨rfl, rfl⟩) | (go_at_call 50; refine (quotient_any _ _ ⟨w32_lo _, w32_hi _⟩ _).mono ?_; rintro e w' ⟨rfl, rfl⟩) | (go_at_call 47; ((with_reducible refine (truth_t _).mono ?_); rintro e w' ⟨rfl, rfl⟩)) | (go_at_call 47; ((with_reducible refine (truth_f _).mono ?_); rintro e w' ⟨rfl, rfl⟩)) | (go_at_call 51; refine (rest_any _ _ _).mono ?_; rintro e w' ⟨rfl, rfl⟩))
    go_ret2
    exact ⟨ret_pair ht.out rfl, rfl⟩
  · have ht := Lib.hid (two_14n hc)
    have hb : (wrap32 a != wrap32 b) = false := by rw [bne_eq_false_iff_eq]; exact Decidable.not_not.1 hc
    clear hc
    go_enter Tryd.func25, Tryd.ntmps25
    go_wp2_with (first | (go_at_call 27; refine (wrap_any _ _).mono ?_; rintro e w' ⟨rfl, rfl⟩) | (go_at_call 48; refine (word_any _ _).mono ?_; rintro e w' ⟨rfl, rfl⟩) | (go_at_call 49; refine (moves_any _ _).mono ?_; rintro e w' ⟨rfl, rfl⟩) | (go_at_call 50; refine (quotient_any _ _ ⟨w32_lo _, w32_hi _⟩ _).mono ?_; rintro e w' ⟨rfl, rfl⟩) | (go_at_call 47; ((with_reducible refine (truth_t _).mono ?_); rintro e w' ⟨rfl, rfl⟩)) | (go_at_call 47; ((with_reducible refine (truth_f _).mono ?_); rintro e w' ⟨rfl, rfl⟩)) | (go_at_call 51; refine (rest_any _ _ _).mono ?_; rintro e w' ⟨rfl, rfl⟩))
    go_ret2
    exact ⟨ret_pair ht.out rfl, rfl⟩
theorem two_none (op a b : Int) (h : op < 1 ∨ 14 < op) (w : World) : Calls Tryd.prog 25 #[.int .i64 op, .int .i64 a, .int .i64 b] w fun e w' => e = .returned (.tuple #[.int .i64 0, .bool false]) ∧ w = w' := by
  rcases h with h | h
  all_goals
    go_enter Tryd.func25, Tryd.ntmps25
    go_wp2_with (first | (go_at_call 27; refine (wrap_any _ _).mono ?_; rintro e w' ⟨rfl, rfl⟩))
    go_ret2
    exact ⟨rfl, rfl⟩
theorem two_yes (op a b : Int) (h : 1 ≤ op ∧ op ≤ 14) (w : World) : Calls Tryd.prog 25 #[.int .i64 op, .int .i64 a, .int .i64 b] w fun e w' => e = .returned (.tuple #[.int .i64 (two op a b), .bool true]) ∧ w = w' := by
  have hk : op = 1 ∨ op = 2 ∨ op = 3 ∨ op = 4 ∨ op = 5 ∨ op = 6 ∨ op = 7 ∨ op = 8 ∨ op = 9 ∨ op = 10 ∨ op = 11 ∨ op = 12 ∨ op = 13 ∨ op = 14 := by omega
  rcases hk with rfl | rfl | rfl | rfl | rfl | rfl | rfl | rfl | rfl | rfl | rfl | rfl | rfl | rfl
  · exact two_add a b w
  · exact two_sub a b w
  · exact two_mul a b w
  · exact two_div a b w
  · exact two_rem a b w
  · exact two_and a b w
  · exact two_or a b w
  · exact two_xor a b w
  · exact two_shl a b w
  · exact two_shr a b w
  · exact two_lt a b w
  · exact two_less a b w
  · exact two_eq a b w
  · exact two_ne a b w
theorem two_any (op a b : Int) (w : World) : Calls Tryd.prog 25 #[.int .i64 op, .int .i64 a, .int .i64 b] w fun e w' => e = .returned (.tuple #[.int .i64 (two op a b), .bool (isTwo op)]) ∧ w = w' := by
  by_cases h : 1 ≤ op ∧ op ≤ 14
  · have e : isTwo op = true := decide_eq_true h
    rw [e]
    exact two_yes op a b h w
  · have e : isTwo op = false := decide_eq_false h
    have e0 : two op a b = 0 := two_out op a b (by omega)
    rw [e, e0]
    exact two_none op a b (by omega) w
theorem two_lit {op a b r : Int} (h : 1 ≤ op ∧ op ≤ 14) (e : two op a b = r) (w : World) : Calls Tryd.prog 25 #[.int .i64 op, .int .i64 a, .int .i64 b] w fun e w' => e = .returned (.tuple #[.int .i64 r, .bool true]) ∧ w = w' := by
  subst e
  exact two_yes op a b h w

/-! ONE -/
theorem one_neg (a : Int) (w : World) : Calls Tryd.prog 26 #[.int .i64 15, .int .i64 a] w fun e w' => e = .returned (.tuple #[.int .i64 (one 15 a), .bool true]) ∧ w = w' := by
  have h1 := w32_lo a
  have h2 := w32_hi a
  go_enter Tryd.func26, Tryd.ntmps26
  go_wp2_with (first | (go_at_call 27; refine (wrap_any _ _).mono ?_; rintro e w' ⟨rfl, rfl⟩))
  go_ret2
  exact ⟨ret_pair rfl rfl, rfl⟩
theorem one_not (a : Int) (w : World) : Calls Tryd.prog 26 #[.int .i64 16, .int .i64 a] w fun e w' => e = .returned (.tuple #[.int .i64 (one 16 a), .bool true]) ∧ w = w' := by
  have h1 := w32_lo a
  have h2 := w32_hi a
  by_cases hc : wrap32 a = 0
  · have ht := Lib.hid (one_16y hc)
    have hb : (wrap32 a == 0) = true := beq_iff_eq.2 hc
    clear hc
    go_enter Tryd.func26, Tryd.ntmps26
    go_wp2_with (first | (go_at_call 27; refine (wrap_any _ _).mono ?_; rintro e w' ⟨rfl, rfl⟩) | (go_at_call 47; ((with_reducible refine (truth_t _).mono ?_); rintro e w' ⟨rfl, rfl⟩)) | (go_at_call 47; ((with_reducible refine (truth_f _).mono ?_); rintro e w' ⟨rfl, rfl⟩)))
    go_ret2
    exact ⟨ret_pair ht.out rfl, rfl⟩
  · have ht := Lib.hid (one_16n hc)
    have hb : (wrap32 a == 0) = false := beq_eq_false_iff_ne.2 hc
    clear hc
    go_enter Tryd.func26, Tryd.ntmps26
    go_wp2_with (first | (go_at_call 27; refine (wrap_any _ _).mono ?_; rintro e w' ⟨rfl, rfl⟩) | (go_at_call 47; ((with_reducible refine (truth_t _).mono ?_); rintro e w' ⟨rfl, rfl⟩)) | (go_at_call 47; ((with_reducible refine (truth_f _).mono ?_); rintro e w' ⟨rfl, rfl⟩)))
    go_ret2
    exact ⟨ret_pair ht.out rfl, rfl⟩
theorem one_inv (a : Int) (w : World) : Calls Tryd.prog 26 #[.int .i64 17, .int .i64 a] w fun e w' => e = .returned (.tuple #[.int .i64 (one 17 a), .bool true]) ∧ w = w' := by
  have h1 := w32_lo a
  have h2 := w32_hi a
  go_enter Tryd.func26, Tryd.ntmps26
  go_wp2_with (first | (go_at_call 27; refine (wrap_any _ _).mono ?_; rintro e w' ⟨rfl, rfl⟩))
  go_ret2
  exact ⟨ret_pair (one_17 a) rfl, rfl⟩
theorem one_none (op a : Int) (h : op < 15 ∨ 17 < op) (w : World) : Calls Tryd.prog 26 #[.int .i64 op, .int .i64 a] w fun e w' => e = .returned (.tuple #[.int .i64 0, .bool false]) ∧ w = w' := by
  rcases h with h | h
  all_goals
    go_enter Tryd.func26, Tryd.ntmps26
    go_wp2_with (first | (go_at_call 27; refine (wrap_any _ _).mono ?_; rintro e w' ⟨rfl, rfl⟩))
    go_ret2
    exact ⟨rfl, rfl⟩
theorem one_yes (op a : Int) (h : 15 ≤ op ∧ op ≤ 17) (w : World) : Calls Tryd.prog 26 #[.int .i64 op, .int .i64 a] w fun e w' => e = .returned (.tuple #[.int .i64 (one op a), .bool true]) ∧ w = w' := by
  have hk : op = 15 ∨ op = 16 ∨ op = 17 := by omega
  rcases hk with rfl | rfl | rfl
  · exact one_neg a w
  · exact one_not a w
  · exact one_inv a w
theorem one_any (op a : Int) (w : World) : Calls Tryd.prog 26 #[.int .i64 op, .int .i64 a] w fun e w' => e = .returned (.tuple #[.int .i64 (one op a), .bool (isOne op)]) ∧ w = w' := by
  by_cases h : 15 ≤ op ∧ op ≤ 17
  · have e : isOne op = true := decide_eq_true h
    rw [e]
    exact one_yes op a h w
  · have e : isOne op = false := decide_eq_false h
    have e0 : one op a = 0 := one_out op a (by omega)
    rw [e, e0]
    exact one_none op a (by omega) w
theorem one_lit {op a r : Int} (h : 15 ≤ op ∧ op ≤ 17) (e : one op a = r) (w : World) : Calls Tryd.prog 26 #[.int .i64 op, .int .i64 a] w fun e w' => e = .returned (.tuple #[.int .i64 r, .bool true]) ∧ w = w' := by
  subst e
  exact one_yes op a h w

/-! HIGH -/
theorem high_t (a b : Int) (w : World) : Calls Tryd.prog 63 #[.int .i64 a, .int .i64 b, .bool true] w fun e w' => e = .returned (.int .i64 (high a b true)) ∧ w = w' := by
  have h1 := w32_lo a
  have h2 := w32_hi a
  have h3 := w32_lo b
  have h4 := w32_hi b
  have h5 := (mul_bd (x := wrap32 a) (y := wrap32 b) ⟨h1, by omega⟩ ⟨h3, by omega⟩)
  obtain ⟨h6, h7⟩ := h5
  go_enter Tryd.func63, Tryd.ntmps63
  go_wp2_with (first | (go_at_call 27; refine (wrap_any _ _).mono ?_; rintro e w' ⟨rfl, rfl⟩))
  go_ret
  exact ⟨ret_int1 rfl, rfl⟩
theorem high_f (a b : Int) (w : World) : Calls Tryd.prog 63 #[.int .i64 a, .int .i64 b, .bool false] w fun e w' => e = .returned (.int .i64 (high a b false)) ∧ w = w' := by
  have h1 : 0 ≤ a % 4294967296 := by omega
  have h2 : a % 4294967296 ≤ 4294967295 := by omega
  have h3 : 0 ≤ b % 4294967296 := by omega
  have h4 : b % 4294967296 ≤ 4294967295 := by omega
  have h5 := (mul_bdu (x := a % 4294967296) (y := b % 4294967296) ⟨h1, h2⟩ ⟨h3, h4⟩)
  obtain ⟨h6, h7⟩ := h5
  go_enter Tryd.func63, Tryd.ntmps63
  go_wp2_with (first | (go_at_call 27; refine (wrap_any _ _).mono ?_; rintro e w' ⟨rfl, rfl⟩) | (go_at_call 48; refine (word_any _ _).mono ?_; rintro e w' ⟨rfl, rfl⟩))
  go_ret
  exact ⟨ret_int1 rfl, rfl⟩
theorem high_any (a b : Int) (signs : Bool) (w : World) : Calls Tryd.prog 63 #[.int .i64 a, .int .i64 b, .bool signs] w fun e w' => e = .returned (.int .i64 (high a b signs)) ∧ w = w' := by
  cases signs
  · exact high_f a b w
  · exact high_t a b w
theorem high_lit {a b r : Int} {signs : Bool} (e : high a b signs = r) (w : World) : Calls Tryd.prog 63 #[.int .i64 a, .int .i64 b, .bool signs] w fun e w' => e = .returned (.int .i64 r) ∧ w = w' := by
  subst e
  exact high_any a b signs w

/-! LEVEL -/
/-! PICK -/
/-! SIGN: over a world that holds the table -/
def Texts (w : World) : Prop := ∀ k : Nat, k < 18 → w.cell? ⟨0, k, none⟩ = some (.string ⟨(text k).toArray⟩)
end Go.Proofs.YtgcgdjmlngfpeaaDoor
