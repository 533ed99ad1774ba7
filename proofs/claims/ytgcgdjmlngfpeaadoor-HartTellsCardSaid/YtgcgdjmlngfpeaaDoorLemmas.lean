/- Plain laws of 32 bits, with no Go program in sight: what the laws of package wrap say of its plain functions. -/
import Derived.Test.YtgcgdjmlngfpeaaDoorPlain
namespace Go.Proofs.YtgcgdjmlngfpeaaDoor.Plain
open Go.RowKit (wrap32 wrap64)

theorem ofInt_wd (n : Int) : BitVec.ofInt 32 (n % 4294967296) = BitVec.ofInt 32 n := by
  rw [← ofInt_cut, w32_wd, ofInt_cut]
theorem wd31 (n : Int) : n % 4294967296 % 32 = n % 32 := by omega
theorem two_low (op a b : Int) : two op (a % 4294967296) (wrap32 b) = two op a b := by
  unfold two
  simp only [w32_wd, w32_w32, ofInt_wd, ofInt_cut, wd_w32, wd_wd, mod32]
theorem w32_toInt32 (v : BitVec 32) : wrap32 v.toInt = v.toInt := by
  rw [← toInt_ofInt, ofInt_toInt]
theorem tr_bd (p : Prop) [Decidable p] : 0 ≤ tr p ∧ tr p ≤ 1 := by
  unfold tr
  split <;> omega
theorem w32_tr (p : Prop) [Decidable p] : wrap32 (tr p) = tr p := w32_in _ (by have := tr_bd p; omega)
theorem w32_tm (a y : Int) : wrap32 ((wrap32 a).tmod y) = (wrap32 a).tmod y := w32_in _ (tmod_bd _ _ ⟨w32_lo _, w32_hi _⟩)
theorem w32_sh (a : Int) (k : Nat) : wrap32 (wrap32 a / 2 ^ k) = wrap32 a / 2 ^ k := w32_in _ (shr_bd _ _ ⟨w32_lo _, w32_hi _⟩)
theorem cut_ite {c : Prop} [Decidable c] {x y : Int} (hx : wrap32 x = x) (hy : wrap32 y = y) : wrap32 (if c then x else y) = if c then x else y := by
  split
  · exact hx
  · exact hy
theorem two_cut (op a b : Int) : wrap32 (two op a b) = two op a b := by
  unfold two
  repeat' (with_reducible refine cut_ite ?_ ?_)
  all_goals first | exact w32_w32 _ | exact w32_m1 | exact w32_toInt32 _ | exact w32_0 | exact w32_1 | exact w32_tm _ _ | exact w32_sh _ _ | apply w32_tr
theorem one_low (op a : Int) : one op (a % 4294967296) = one op a := by
  unfold one
  simp only [w32_wd]
theorem one_cut (op a : Int) : wrap32 (one op a) = one op a := by
  unfold one
  repeat' split
  · exact w32_w32 _
  · exact w32_in _ (by have := tr_bd (wrap32 a = 0); omega)
  · exact w32_in _ (by have := w32_lo a; have := w32_hi a; omega)
  · exact w32_0
theorem high_low (a b : Int) : high (a % 4294967296) (b % 4294967296) true = high a b true := by
  show wrap32 (wrap32 (a % 4294967296) * wrap32 (b % 4294967296) / 4294967296) = wrap32 (wrap32 a * wrap32 b / 4294967296)
  rw [w32_wd, w32_wd]
theorem high_cut (a b : Int) : high (wrap32 a) (wrap32 b) false = high a b false := by
  show wrap32 (wrap32 a % 4294967296 * (wrap32 b % 4294967296) / 4294967296) = wrap32 (a % 4294967296 * (b % 4294967296) / 4294967296)
  rw [wd_w32, wd_w32]

/-! quotient and rest -/
theorem div_zero {a b : Int} (h : wrap32 b = 0) : two 4 a b = -1 := by
  show (if wrap32 b = 0 then -1 else _) = _
  rw [if_pos h]
theorem rem_zero {a b : Int} (h : wrap32 b = 0) : two 5 a b = wrap32 a := by
  show (if wrap32 b = 0 then wrap32 a else _) = _
  rw [if_pos h]
theorem div_else {a b : Int} (h : wrap32 b ≠ 0) : two 4 a b = wrap32 ((wrap32 a).tdiv (wrap32 b)) := by
  show (if wrap32 b = 0 then -1 else _) = _
  rw [if_neg h]
theorem rem_else {a b : Int} (h : wrap32 b ≠ 0) : two 5 a b = (wrap32 a).tmod (wrap32 b) := by
  show (if wrap32 b = 0 then wrap32 a else _) = _
  rw [if_neg h]
theorem div_back {a b : Int} (h : wrap32 b ≠ 0) : two 1 (two 3 (two 4 a b) b) (two 5 a b) = wrap32 a := by
  rw [div_else h, rem_else h]
  show wrap32 (wrap32 (wrap32 (wrap32 (wrap32 ((wrap32 a).tdiv (wrap32 b))) * wrap32 b)) + wrap32 ((wrap32 a).tmod (wrap32 b))) = wrap32 a
  rw [w32_w32, w32_w32, w32_mul_l, w32_add_l, w32_add_r, Int.mul_comm, Int.mul_tdiv_add_tmod, w32_w32]
theorem div_back0 {a b : Int} (h : wrap32 b = 0) : two 1 (two 3 (two 4 a b) b) (two 5 a b) = wrap32 a := by
  rw [div_zero h, rem_zero h]
  show wrap32 (wrap32 (wrap32 (wrap32 (-1) * wrap32 b)) + wrap32 (wrap32 a)) = wrap32 a
  rw [h, Int.mul_zero, w32_0, w32_0, Int.zero_add, w32_w32, w32_w32]
theorem rem_abs {x y : Int} (hy : y ≠ 0) : (x.tmod y).natAbs < y.natAbs := by
  have h : (x.tmod y).natAbs = x.natAbs % y.natAbs := Int.natAbs_tmod x y
  have := Nat.mod_lt x.natAbs (show 0 < y.natAbs by omega)
  omega
theorem rem_sign {x y : Int} : (0 ≤ x → 0 ≤ x.tmod y) ∧ (x ≤ 0 → x.tmod y ≤ 0) := by
  constructor
  · exact Int.tmod_nonneg y
  · intro h
    have h1 := Int.tmod_nonneg (a := -x) y (by omega)
    rw [Int.neg_tmod] at h1
    omega

/-! halves -/
theorem halves (a b : Int) : high a b true * 4294967296 + two 3 a b % 4294967296 = wrap32 a * wrap32 b := by
  have h := mul_bd (x := wrap32 a) (y := wrap32 b) ⟨w32_lo a, by have := w32_hi a; omega⟩ ⟨w32_lo b, by have := w32_hi b; omega⟩
  show wrap32 (wrap32 a * wrap32 b / 4294967296) * 4294967296 + wrap32 (wrap32 a * wrap32 b) % 4294967296 = wrap32 a * wrap32 b
  generalize wrap32 a * wrap32 b = p at h
  rw [wd_w32, w32_in _ (by omega)]
  omega
theorem high_bd (a b : Int) : -2147483648 ≤ high a b true ∧ high a b true ≤ 2147483647 := by
  show -2147483648 ≤ wrap32 _ ∧ wrap32 _ ≤ 2147483647
  exact ⟨w32_lo _, w32_hi _⟩
theorem top_half (a b : Int) : high a b false % 4294967296 = (a % 4294967296 / 65536 * (b % 4294967296) + a % 4294967296 % 65536 * (b % 4294967296) / 65536) / 65536 := by
  show wrap32 (a % 4294967296 * (b % 4294967296) / 4294967296) % 4294967296 = _
  have hx : 0 ≤ a % 4294967296 ∧ a % 4294967296 ≤ 4294967295 := by omega
  have hy : 0 ≤ b % 4294967296 ∧ b % 4294967296 ≤ 4294967295 := by omega
  generalize a % 4294967296 = x at hx
  generalize b % 4294967296 = y at hy
  have h := mul_bdu hx hy
  have e : x * y = 65536 * (x / 65536 * y) + x % 65536 * y := by
    rw [← Int.mul_assoc, ← Int.add_mul, Int.mul_ediv_add_emod]
  rw [wd_w32]
  generalize x / 65536 * y = u at e
  generalize x % 65536 * y = v at e
  generalize x * y = p at e h
  omega
theorem and65535 (x : Int) : bits .and .i64 x 65535 = x % 65536 := by
  show IntKind.i64.wrap ((BitVec.ofInt 64 x &&& BitVec.ofInt 64 65535).toNat : Int) = _
  rw [BitVec.toNat_and, show (BitVec.ofInt 64 65535).toNat = 65535 from rfl, Nat.and_two_pow_sub_one_eq_mod _ 16, BitVec.toNat_ofInt, IntKind.wrap_i64]
  omega

/-! a ring -/
theorem ring_dist (a b c : Int) : two 3 a (two 1 b c) = two 1 (two 3 a b) (two 3 a c) := by
  show wrap32 (wrap32 a * wrap32 (wrap32 (wrap32 b + wrap32 c))) = wrap32 (wrap32 (wrap32 (wrap32 a * wrap32 b)) + wrap32 (wrap32 (wrap32 a * wrap32 c)))
  rw [w32_w32, w32_mul_r, w32_w32, w32_w32, w32_add_l, w32_add_r, Int.mul_add]
theorem ring_comm (a b : Int) : two 3 a b = two 3 b a := by
  show wrap32 (wrap32 a * wrap32 b) = wrap32 (wrap32 b * wrap32 a)
  rw [Int.mul_comm]
theorem ring_sub (a b : Int) : two 2 a b = two 1 a (one 15 b) := by
  show wrap32 (wrap32 a - wrap32 b) = wrap32 (wrap32 a + wrap32 (wrap32 (-wrap32 b)))
  rw [w32_w32, w32_add_r, Int.sub_eq_add_neg]
theorem ring_back (a b : Int) : two 1 (two 2 a b) b = wrap32 a := by
  show wrap32 (wrap32 (wrap32 (wrap32 a - wrap32 b)) + wrap32 b) = wrap32 a
  rw [w32_w32, w32_add_l, Int.sub_add_cancel, w32_w32]

/-! bits -/
theorem xor_back (a b : Int) : two 8 (two 8 a b) b = wrap32 a := by
  show (BitVec.ofInt 32 (BitVec.ofInt 32 a ^^^ BitVec.ofInt 32 b).toInt ^^^ BitVec.ofInt 32 b).toInt = wrap32 a
  rw [ofInt_toInt, BitVec.xor_assoc, BitVec.xor_self, BitVec.xor_zero, toInt_ofInt]
theorem inv_eq (a : Int) : one 17 a = (~~~ BitVec.ofInt 32 a).toInt := not_cut a
theorem de_morgan (a b : Int) : two 7 (one 17 a) (one 17 b) = one 17 (two 6 a b) := by
  rw [inv_eq, inv_eq, inv_eq]
  show (BitVec.ofInt 32 (~~~ BitVec.ofInt 32 a).toInt ||| BitVec.ofInt 32 (~~~ BitVec.ofInt 32 b).toInt).toInt = (~~~ BitVec.ofInt 32 (BitVec.ofInt 32 a &&& BitVec.ofInt 32 b).toInt).toInt
  rw [ofInt_toInt, ofInt_toInt, ofInt_toInt, BitVec.not_and]
theorem shl_mul (a k : Int) (h : 0 ≤ k ∧ k < 32) : two 9 a k = two 3 a (2 ^ k.toNat) := by
  show wrap32 (wrap32 a * 2 ^ (k % 32).toNat) = wrap32 (wrap32 a * wrap32 (2 ^ k.toNat))
  rw [w32_mul_r, Int.emod_eq_of_lt h.1 h.2]
theorem pow_bd (k : Int) (h : 0 ≤ k ∧ k < 32) : 1 ≤ (2 : Int) ^ k.toNat ∧ (2 : Int) ^ k.toNat ≤ 2147483648 := by
  obtain ⟨n, rfl⟩ := Int.eq_ofNat_of_zero_le h.1
  have hn : n < 32 := by omega
  rw [Int.toNat_natCast]
  have h1 : (2 : Nat) ^ n ≤ 2 ^ 31 := Nat.pow_le_pow_right (by decide) (by omega)
  have h2 : 0 < (2 : Nat) ^ n := Nat.two_pow_pos n
  have h3 : ((2 ^ n : Nat) : Int) = 2 ^ n := by push_cast; rfl
  constructor <;> omega
theorem shr_eq (a k : Int) (h : 0 ≤ k ∧ k < 32) : two 10 a k = wrap32 a / 2 ^ k.toNat := by
  show wrap32 a / 2 ^ (k % 32).toNat = _
  rw [Int.emod_eq_of_lt h.1 h.2]
theorem shr_lo (n p : Int) (h : 1 ≤ p) : n / p * p ≤ n ∧ n < (n / p + 1) * p := by
  have h1 := Int.ediv_mul_add_emod n p
  have h2 := Int.emod_nonneg n (show p ≠ 0 by omega)
  have h3 := Int.emod_lt_of_pos n (show 0 < p by omega)
  rw [Int.add_mul]
  omega

/-! signs -/
theorem text_inj (i j : Nat) (hi : i < 14) (hj : j < 14) : text (1 + (i : Int)) = text (1 + (j : Int)) → i = j := by
  have h : ∀ i : Fin 14, ∀ j : Fin 14, text (1 + ((i : Nat) : Int)) = text (1 + ((j : Nat) : Int)) → i = j := by decide +kernel
  intro e
  have := h ⟨i, hi⟩ ⟨j, hj⟩ e
  exact congrArg Fin.val this
theorem level_bd (i : Nat) (hi : i < 14) : 1 ≤ level (1 + (i : Int)) ∧ level (1 + (i : Int)) ≤ 8 := by
  have h : ∀ i : Fin 14, 1 ≤ level (1 + ((i : Nat) : Int)) ∧ level (1 + ((i : Nat) : Int)) ≤ 8 := by decide +kernel
  exact h ⟨i, hi⟩
end Go.Proofs.YtgcgdjmlngfpeaaDoor.Plain
