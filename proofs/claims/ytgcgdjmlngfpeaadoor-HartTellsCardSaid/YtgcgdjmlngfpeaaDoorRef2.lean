/- What the document's own Two, One, High, Sign and Level answer: the same plain functions as package wrap's; Sign and Level lay new memory and leave all that was there as it was. -/
import Derived.Test.YtgcgdjmlngfpeaaDoorRef
namespace Go.Proofs.YtgcgdjmlngfpeaaDoor
open Go.RowKit Plain
set_option linter.unusedVariables false
def pl (op x y : Int) : Int :=
  if op = 1 then x + y else if op = 2 then x - y else if op = 3 then x * y else if op = 4 then quot x y else if op = 5 then rem x y else
  if op = 6 then bits .and .i64 x y else if op = 7 then bits .or .i64 x y else if op = 8 then bits .xor .i64 x y else
  if op = 9 then wrap64 (x * 2 ^ (y % 32).toNat) else if op = 10 then x / 2 ^ (y % 32).toNat else if op = 11 then tr (x < y) else
  if op = 12 then tr (x % 4294967296 < y % 4294967296) else if op = 13 then tr (x = y) else if op = 14 then tr (x ≠ y) else 0
theorem pl_out (op x y : Int) (h : op < 1 ∨ 14 < op) : pl op x y = 0 := by
  unfold pl
  repeat rw [if_neg (by omega)]
theorem plain_none (op x y : Int) (h : op < 1 ∨ 14 < op) (w : World) : Calls Tryd.prog 69 #[.int .i64 op, .int .i64 x, .int .i64 y] w fun e w' => e = .returned (.tuple #[.int .i64 0, .bool false]) ∧ w = w' := by
  rcases h with h | h
  all_goals
    go_enter Tryd.func69, Tryd.ntmps69
    go_wp2
    go_ret2
    exact ⟨rfl, rfl⟩
theorem plain_any (op x y : Int) (x1 : -2147483648 ≤ x) (x2 : x ≤ 2147483647) (y1 : -2147483648 ≤ y) (y2 : y ≤ 2147483647) (w : World) : Calls Tryd.prog 69 #[.int .i64 op, .int .i64 x, .int .i64 y] w fun e w' => e = .returned (.tuple #[.int .i64 (pl op x y), .bool (isTwo op)]) ∧ w = w' := by
  by_cases h : 1 ≤ op ∧ op ≤ 14
  · have hk : op = 1 ∨ op = 2 ∨ op = 3 ∨ op = 4 ∨ op = 5 ∨ op = 6 ∨ op = 7 ∨ op = 8 ∨ op = 9 ∨ op = 10 ∨ op = 11 ∨ op = 12 ∨ op = 13 ∨ op = 14 := by omega
    rcases hk with rfl | rfl | rfl | rfl | rfl | rfl | rfl | rfl | rfl | rfl | rfl | rfl | rfl | rfl
    · exact plain_add x y x1 x2 y1 y2 w
    · exact plain_sub x y x1 x2 y1 y2 w
    · exact plain_mul x y x1 x2 y1 y2 w
    · exact plain_div x y x1 x2 y1 y2 w
    · exact plain_rem x y x1 x2 y1 y2 w
    · exact plain_and x y x1 x2 y1 y2 w
    · exact plain_or x y x1 x2 y1 y2 w
    · exact plain_xor x y x1 x2 y1 y2 w
    · exact plain_shl x y x1 x2 y1 y2 w
    · exact plain_shr x y x1 x2 y1 y2 w
    · exact plain_lt x y x1 x2 y1 y2 w
    · exact plain_less x y x1 x2 y1 y2 w
    · exact plain_eq x y x1 x2 y1 y2 w
    · exact plain_ne x y x1 x2 y1 y2 w
  · have e : isTwo op = false := decide_eq_false h
    have e0 : pl op x y = 0 := pl_out op x y (by omega)
    rw [e, e0]
    exact plain_none op x y (by omega) w
theorem pl_two (op a b : Int) : wrap32 (pl op (wrap32 a) (wrap32 b)) = two op a b := by
  by_cases h : 1 ≤ op ∧ op ≤ 14
  · have hk : op = 1 ∨ op = 2 ∨ op = 3 ∨ op = 4 ∨ op = 5 ∨ op = 6 ∨ op = 7 ∨ op = 8 ∨ op = 9 ∨ op = 10 ∨ op = 11 ∨ op = 12 ∨ op = 13 ∨ op = 14 := by omega
    rcases hk with rfl | rfl | rfl | rfl | rfl | rfl | rfl | rfl | rfl | rfl | rfl | rfl | rfl | rfl
    · exact two_1 a b
    · exact two_2 a b
    · show wrap32 (wrap32 a * wrap32 b) = _
      exact (w32_w64 _).symm.trans (two_3 a b)
    · exact two_4 a b
    · exact two_5 a b
    · exact two_6 a b
    · exact two_7 a b
    · exact two_8 a b
    · exact two_9 a b
    · exact two_10 a b
    · exact w32_tr _
    · show wrap32 (tr (wrap32 a % 4294967296 < wrap32 b % 4294967296)) = tr (a % 4294967296 < b % 4294967296)
      rw [w32_tr]
      simp only [wd_w32]
    · exact w32_tr _
    · exact w32_tr _
  · rw [pl_out op _ _ (by omega), two_out op _ _ (by omega)]
    exact w32_0
theorem rtwo_any (op a b : Int) (w : World) : Calls Tryd.prog 42 #[.int .i64 op, .int .i64 a, .int .i64 b] w fun e w' => e = .returned (.tuple #[.int .i64 (two op a b), .bool (isTwo op)]) ∧ w = w' := by
  have h := Lib.hid (pl_two op a b)
  have h1 := w32_lo a
  have h2 := w32_hi a
  have h3 := w32_lo b
  have h4 := w32_hi b
  go_enter Tryd.func42, Tryd.ntmps42
  go_wp2_with (first | (go_at_call 41; refine (rwrap_any _ _).mono ?_; rintro e w' ⟨rfl, rfl⟩) | (go_at_call 69; refine (plain_any _ _ _ h1 h2 h3 h4 _).mono ?_; rintro e w' ⟨rfl, rfl⟩))
  go_ret2
  exact ⟨ret_pair h.out rfl, rfl⟩
theorem rone_any (op a : Int) (w : World) : Calls Tryd.prog 71 #[.int .i64 op, .int .i64 a] w fun e w' => e = .returned (.tuple #[.int .i64 (one op a), .bool (isOne op)]) ∧ w = w' := by
  have h1 := w32_lo a
  have h2 := w32_hi a
  have hk : op = 15 ∨ op = 16 ∨ op = 17 ∨ op < 15 ∨ 17 < op := by omega
  rcases hk with rfl | rfl | rfl | h | h
  · go_enter Tryd.func71, Tryd.ntmps71
    go_wp2_with (first | (go_at_call 41; refine (rwrap_any _ _).mono ?_; rintro e w' ⟨rfl, rfl⟩))
    go_ret2
    exact ⟨ret_pair rfl rfl, rfl⟩
  · by_cases hc : wrap32 a = 0
    · have ht := Lib.hid (one_16y hc)
      have hb : (wrap32 a == 0) = true := beq_iff_eq.2 hc
      clear hc
      go_enter Tryd.func71, Tryd.ntmps71
      go_wp2_with (first | (go_at_call 41; refine (rwrap_any _ _).mono ?_; rintro e w' ⟨rfl, rfl⟩) | (go_at_call 77; ((with_reducible refine (bit_t _).mono ?_); rintro e w' ⟨rfl, rfl⟩)) | (go_at_call 77; ((with_reducible refine (bit_f _).mono ?_); rintro e w' ⟨rfl, rfl⟩)))
      go_ret2
      exact ⟨ret_pair ht.out rfl, rfl⟩
    · have ht := Lib.hid (one_16n hc)
      have hb : (wrap32 a == 0) = false := beq_eq_false_iff_ne.2 hc
      clear hc
      go_enter Tryd.func71, Tryd.ntmps71
      go_wp2_with (first | (go_at_call 41; refine (rwrap_any _ _).mono ?_; rintro e w' ⟨rfl, rfl⟩) | (go_at_call 77; ((with_reducible refine (bit_t _).mono ?_); rintro e w' ⟨rfl, rfl⟩)) | (go_at_call 77; ((with_reducible refine (bit_f _).mono ?_); rintro e w' ⟨rfl, rfl⟩)))
      go_ret2
      exact ⟨ret_pair ht.out rfl, rfl⟩
  · have ht := Lib.hid (show wrap32 (-wrap32 a - 1) = one 17 a from w32_in _ (by omega))
    go_enter Tryd.func71, Tryd.ntmps71
    go_wp2_with (first | (go_at_call 41; refine (rwrap_any _ _).mono ?_; rintro e w' ⟨rfl, rfl⟩))
    go_ret2
    exact ⟨ret_pair ht.out rfl, rfl⟩
  all_goals
    have e : isOne op = false := decide_eq_false (by omega)
    have e0 : one op a = 0 := one_out op a (by omega)
    rw [e, e0]
    clear e e0
    go_enter Tryd.func71, Tryd.ntmps71
    go_wp2_with (first | (go_at_call 41; refine (rwrap_any _ _).mono ?_; rintro e w' ⟨rfl, rfl⟩))
    go_ret2
    exact ⟨rfl, rfl⟩

/-! HIGH, by halves of sixteen bits -/
theorem half_mul (x y : Int) (hx : 0 ≤ x ∧ x < 65536) (hy : 0 ≤ y ∧ y < 65536) : 0 ≤ x * y ∧ x * y ≤ 4294836225 :=
  ⟨Int.mul_nonneg hx.1 hy.1, by have : x * y ≤ 65535 * 65535 := Int.mul_le_mul (by omega) (by omega) hy.1 (by omega); omega⟩
theorem halves4 (x y : Int) : x * y / 4294967296 = x / 65536 * (y / 65536) + (x / 65536 * (y % 65536) + x % 65536 * (y / 65536) + x % 65536 * (y % 65536) / 65536) / 65536 := by
  have ex : x = 65536 * (x / 65536) + x % 65536 := by omega
  have ey : y = 65536 * (y / 65536) + y % 65536 := by omega
  have e : x * y = 4294967296 * (x / 65536 * (y / 65536)) + 65536 * (x / 65536 * (y % 65536)) + 65536 * (x % 65536 * (y / 65536)) + x % 65536 * (y % 65536) := by
    generalize x / 65536 = p at ex ⊢
    generalize x % 65536 = q at ex ⊢
    generalize y / 65536 = r at ey ⊢
    generalize y % 65536 = s at ey ⊢
    subst ex
    subst ey
    have e1 : 65536 * p * (65536 * r) = 4294967296 * (p * r) := by
      rw [Int.mul_assoc, Int.mul_left_comm p, ← Int.mul_assoc]; rfl
    have e2 : 65536 * p * s = 65536 * (p * s) := Int.mul_assoc _ _ _
    have e3 : q * (65536 * r) = 65536 * (q * r) := Int.mul_left_comm _ _ _
    rw [Int.add_mul, Int.mul_add, Int.mul_add, e1, e2, e3]
    omega
  generalize x / 65536 * (y / 65536) = a at e ⊢
  generalize x / 65536 * (y % 65536) = b at e ⊢
  generalize x % 65536 * (y / 65536) = c at e ⊢
  generalize x % 65536 * (y % 65536) = d at e ⊢
  generalize x * y = p at e ⊢
  omega
/-- with signs: what the two's complement takes off -/
theorem high_signs (a b x y sx sy : Int) (hx : wrap32 a = x - sx * 4294967296) (hy : wrap32 b = y - sy * 4294967296) : high a b true = wrap32 (x * y / 4294967296 - sx * y - sy * x) := by
  show wrap32 (wrap32 a * wrap32 b / 4294967296) = _
  rw [hx, hy]
  have e : (x - sx * 4294967296) * (y - sy * 4294967296) = x * y + (sx * sy * 4294967296 - sx * y - sy * x) * 4294967296 := by
    rw [Int.sub_mul, Int.mul_sub, Int.mul_sub, Int.sub_mul, Int.sub_mul]
    have e1 : x * (sy * 4294967296) = sy * x * 4294967296 := by rw [Int.mul_left_comm, ← Int.mul_assoc]
    have e2 : sx * 4294967296 * y = sx * y * 4294967296 := by rw [Int.mul_assoc, Int.mul_comm 4294967296 y, ← Int.mul_assoc]
    have e3 : sx * 4294967296 * (sy * 4294967296) = sx * sy * 4294967296 * 4294967296 := by
      rw [Int.mul_assoc sx 4294967296, Int.mul_left_comm 4294967296 sy, ← Int.mul_assoc, ← Int.mul_assoc]
    rw [e1, e2, e3]
    omega
  rw [e, Int.add_mul_ediv_right _ _ (by decide)]
  exact w32_eq (sx * sy) (by omega)
end Go.Proofs.YtgcgdjmlngfpeaaDoor
