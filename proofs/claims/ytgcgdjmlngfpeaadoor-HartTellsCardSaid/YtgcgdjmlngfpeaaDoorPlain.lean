/- Plain arithmetic of 32 and 64 bits, with no Go program in sight: what is cut is cut again the same, products and quotients stay in their bounds, operators on bits are those of bit vectors. No conditions beyond each lemma's own. -/
import Derived.WalkKit
namespace Go.Proofs.YtgcgdjmlngfpeaaDoor.Plain
open Go.RowKit (wrap32 wrap64)

theorem w32_lo (n : Int) : -2147483648 ≤ wrap32 n := by unfold wrap32; omega
theorem w32_hi (n : Int) : wrap32 n ≤ 2147483647 := by unfold wrap32; omega
theorem w32_wd (n : Int) : wrap32 (n % 4294967296) = wrap32 n := by unfold wrap32; omega
theorem w32_w32 (n : Int) : wrap32 (wrap32 n) = wrap32 n := by unfold wrap32; omega
theorem w32_w64 (n : Int) : wrap32 (wrap64 n) = wrap32 n := by unfold wrap32 wrap64; omega
theorem w64_w32 (n : Int) : wrap64 (wrap32 n) = wrap32 n := by unfold wrap32 wrap64; omega
theorem wd_w32 (n : Int) : wrap32 n % 4294967296 = n % 4294967296 := by unfold wrap32; omega
theorem wd_wd (n : Int) : n % 4294967296 % 4294967296 = n % 4294967296 := by omega
theorem wd_w64 (n : Int) : wrap64 n % 4294967296 = n % 4294967296 := by unfold wrap64; omega
theorem w32_in (n : Int) (h : -2147483648 ≤ n ∧ n ≤ 2147483647) : wrap32 n = n := by unfold wrap32; omega
theorem w64_in (n : Int) (h : -9223372036854775808 ≤ n ∧ n ≤ 9223372036854775807) : wrap64 n = n := by unfold wrap64; omega
/-- two numbers are cut alike where they differ by a multiple of 2^32 -/
theorem w32_eq {a b : Int} (k : Int) (h : a = b + k * 4294967296) : wrap32 a = wrap32 b := by subst h; unfold wrap32; omega
theorem w32_ex (n : Int) : ∃ k, n = wrap32 n + k * 4294967296 := ⟨(n + 2147483648) / 4294967296, by unfold wrap32; omega⟩
theorem w64_ex (n : Int) : ∃ k, n = wrap64 n + k * 4294967296 := ⟨((n + 9223372036854775808) / 18446744073709551616) * 4294967296, by unfold wrap64; omega⟩
theorem w32_mul_l (a b : Int) : wrap32 (wrap32 a * b) = wrap32 (a * b) := by
  obtain ⟨k, hk⟩ := w32_ex a
  refine (w32_eq (k * b) ?_).symm
  have e : a * b = (wrap32 a + k * 4294967296) * b := congrArg (· * b) hk
  rw [e, Int.add_mul, Int.mul_assoc k 4294967296 b, Int.mul_comm 4294967296 b, ← Int.mul_assoc]
theorem w32_mul_r (a b : Int) : wrap32 (a * wrap32 b) = wrap32 (a * b) := by
  rw [Int.mul_comm, w32_mul_l, Int.mul_comm]
theorem w32_add_l (a b : Int) : wrap32 (wrap32 a + b) = wrap32 (a + b) := by unfold wrap32; omega
theorem w32_add_r (a b : Int) : wrap32 (a + wrap32 b) = wrap32 (a + b) := by unfold wrap32; omega
theorem w32_sub_l (a b : Int) : wrap32 (wrap32 a - b) = wrap32 (a - b) := by unfold wrap32; omega
theorem w32_sub_r (a b : Int) : wrap32 (a - wrap32 b) = wrap32 (a - b) := by unfold wrap32; omega
theorem w32_neg (a : Int) : wrap32 (-wrap32 a) = wrap32 (-a) := by unfold wrap32; omega

/-! products of two numbers of 32 bits -/
theorem mul_bd {x y : Int} (hx : -2147483648 ≤ x ∧ x ≤ 2147483648) (hy : -2147483648 ≤ y ∧ y ≤ 2147483648) : -4611686018427387904 ≤ x * y ∧ x * y ≤ 4611686018427387904 := by
  have h1 : 0 ≤ (2147483648 - x) * (2147483648 + y) := Int.mul_nonneg (by omega) (by omega)
  have h2 : 0 ≤ (2147483648 + x) * (2147483648 - y) := Int.mul_nonneg (by omega) (by omega)
  have h3 : 0 ≤ (2147483648 - x) * (2147483648 - y) := Int.mul_nonneg (by omega) (by omega)
  have h4 : 0 ≤ (2147483648 + x) * (2147483648 + y) := Int.mul_nonneg (by omega) (by omega)
  rw [Int.sub_mul, Int.mul_add, Int.mul_add] at h1
  rw [Int.add_mul, Int.mul_sub, Int.mul_sub] at h2
  rw [Int.sub_mul, Int.mul_sub, Int.mul_sub] at h3
  rw [Int.add_mul, Int.mul_add, Int.mul_add] at h4
  constructor <;> omega
theorem mul_bdu {x y : Int} (hx : 0 ≤ x ∧ x ≤ 4294967295) (hy : 0 ≤ y ∧ y ≤ 4294967295) : 0 ≤ x * y ∧ x * y ≤ 18446744065119617025 := by
  have h0 : 0 ≤ x * y := Int.mul_nonneg hx.1 hy.1
  have h1 : 0 ≤ (4294967295 - x) * (4294967295 + y) := Int.mul_nonneg (by omega) (by omega)
  have h2 : 0 ≤ (4294967295 + x) * (4294967295 - y) := Int.mul_nonneg (by omega) (by omega)
  rw [Int.sub_mul, Int.mul_add, Int.mul_add] at h1
  rw [Int.add_mul, Int.mul_sub, Int.mul_sub] at h2
  constructor <;> omega

/-! quotients -/
theorem tdiv_bd (x y : Int) (hx : -2147483648 ≤ x ∧ x ≤ 2147483647) : -2147483648 ≤ x.tdiv y ∧ x.tdiv y ≤ 2147483648 := by
  have h : (x.tdiv y).natAbs = x.natAbs / y.natAbs := Int.natAbs_tdiv x y
  have h2 : x.natAbs / y.natAbs ≤ x.natAbs := Nat.div_le_self _ _
  generalize x.natAbs / y.natAbs = q at h h2
  generalize x.tdiv y = r at h ⊢
  omega

/-! what operators make, as the document says it -/
def tr (p : Prop) [Decidable p] : Int := if p then 1 else 0
def isTwo (op : Int) : Bool := decide (1 ≤ op ∧ op ≤ 14)
def two (op a b : Int) : Int :=
  if op = 1 then wrap32 (wrap32 a + wrap32 b) else
  if op = 2 then wrap32 (wrap32 a - wrap32 b) else
  if op = 3 then wrap32 (wrap32 a * wrap32 b) else
  if op = 4 then (if wrap32 b = 0 then -1 else wrap32 ((wrap32 a).tdiv (wrap32 b))) else
  if op = 5 then (if wrap32 b = 0 then wrap32 a else (wrap32 a).tmod (wrap32 b)) else
  if op = 6 then (BitVec.ofInt 32 a &&& BitVec.ofInt 32 b).toInt else
  if op = 7 then (BitVec.ofInt 32 a ||| BitVec.ofInt 32 b).toInt else
  if op = 8 then (BitVec.ofInt 32 a ^^^ BitVec.ofInt 32 b).toInt else
  if op = 9 then wrap32 (wrap32 a * 2 ^ (b % 32).toNat) else
  if op = 10 then wrap32 a / 2 ^ (b % 32).toNat else
  if op = 11 then tr (wrap32 a < wrap32 b) else
  if op = 12 then tr (a % 4294967296 < b % 4294967296) else
  if op = 13 then tr (wrap32 a = wrap32 b) else
  if op = 14 then tr (wrap32 a ≠ wrap32 b) else 0
def isOne (op : Int) : Bool := decide (15 ≤ op ∧ op ≤ 17)
def one (op a : Int) : Int :=
  if op = 15 then wrap32 (-wrap32 a) else
  if op = 16 then tr (wrap32 a = 0) else
  if op = 17 then -wrap32 a - 1 else 0
def high (a b : Int) (signs : Bool) : Int :=
  if signs then wrap32 (wrap32 a * wrap32 b / 4294967296) else wrap32 (a % 4294967296 * (b % 4294967296) / 4294967296)
def level (op : Int) : Int :=
  if op = 1 then 7 else if op = 2 then 7 else if op = 3 then 8 else if op = 4 then 8 else if op = 5 then 8 else
  if op = 6 then 3 else if op = 7 then 1 else if op = 8 then 2 else if op = 9 then 6 else if op = 10 then 6 else
  if op = 11 then 5 else if op = 12 then 5 else if op = 13 then 4 else if op = 14 then 4 else 0
def text (op : Int) : List UInt8 :=
  if op = 1 then [43] else if op = 2 then [45] else if op = 3 then [42] else if op = 4 then [47] else if op = 5 then [37] else
  if op = 6 then [38] else if op = 7 then [124] else if op = 8 then [94] else if op = 9 then [60, 60] else if op = 10 then [62, 62] else
  if op = 11 then [60] else if op = 12 then [60, 46] else if op = 13 then [61, 61] else if op = 14 then [33, 61] else
  if op = 15 then [45] else if op = 16 then [33] else if op = 17 then [126] else []
def isSign (op : Int) : Bool := decide (1 ≤ op ∧ op ≤ 17)

/-! bits -/
theorem wrap_toNat (v : BitVec 64) : IntKind.i64.wrap (v.toNat : Int) = v.toInt := by
  rw [IntKind.wrap_i64, BitVec.toInt_eq_toNat_cond]
  have := v.isLt
  split <;> omega
theorem w32_toInt (v : BitVec 64) : wrap32 v.toInt = (v.setWidth 32).toInt := by
  rw [BitVec.toInt_eq_toNat_cond, BitVec.toInt_eq_toNat_cond, BitVec.toNat_setWidth]
  have := v.isLt
  unfold wrap32
  split <;> split <;> omega
theorem ofInt_w32 (n : Int) : (BitVec.ofInt 64 (wrap32 n)).setWidth 32 = BitVec.ofInt 32 n := by
  apply BitVec.eq_of_toNat_eq
  rw [BitVec.toNat_setWidth, BitVec.toNat_ofInt, BitVec.toNat_ofInt]
  unfold wrap32
  omega
theorem toInt_ofInt (n : Int) : (BitVec.ofInt 32 n).toInt = wrap32 n := by
  rw [BitVec.toInt_eq_toNat_cond, BitVec.toNat_ofInt]
  unfold wrap32
  split <;> omega
theorem ofInt_toInt (v : BitVec 32) : BitVec.ofInt 32 v.toInt = v := by simp
theorem ofInt_cut (n : Int) : BitVec.ofInt 32 (wrap32 n) = BitVec.ofInt 32 n := by
  apply BitVec.eq_of_toNat_eq
  rw [BitVec.toNat_ofInt, BitVec.toNat_ofInt]
  unfold wrap32
  omega
theorem and_cut (a b : Int) : wrap32 (bits .and .i64 (wrap32 a) (wrap32 b)) = (BitVec.ofInt 32 a &&& BitVec.ofInt 32 b).toInt := by
  show wrap32 (IntKind.i64.wrap ((BitVec.ofInt 64 (wrap32 a) &&& BitVec.ofInt 64 (wrap32 b)).toNat : Int)) = _
  rw [wrap_toNat, w32_toInt, BitVec.setWidth_and, ofInt_w32, ofInt_w32]
theorem or_cut (a b : Int) : wrap32 (bits .or .i64 (wrap32 a) (wrap32 b)) = (BitVec.ofInt 32 a ||| BitVec.ofInt 32 b).toInt := by
  show wrap32 (IntKind.i64.wrap ((BitVec.ofInt 64 (wrap32 a) ||| BitVec.ofInt 64 (wrap32 b)).toNat : Int)) = _
  rw [wrap_toNat, w32_toInt, BitVec.setWidth_or, ofInt_w32, ofInt_w32]
theorem xor_cut (a b : Int) : wrap32 (bits .xor .i64 (wrap32 a) (wrap32 b)) = (BitVec.ofInt 32 a ^^^ BitVec.ofInt 32 b).toInt := by
  show wrap32 (IntKind.i64.wrap ((BitVec.ofInt 64 (wrap32 a) ^^^ BitVec.ofInt 64 (wrap32 b)).toNat : Int)) = _
  rw [wrap_toNat, w32_toInt, BitVec.setWidth_xor, ofInt_w32, ofInt_w32]
theorem not_cut (a : Int) : -(wrap32 a) - 1 = (~~~ BitVec.ofInt 32 a).toInt := by
  rw [BitVec.toInt_not, BitVec.toNat_ofInt]
  rw [Int.bmod_def]
  unfold wrap32
  omega
theorem and31 (n : Int) : bits .and .i64 n 31 = n % 32 := by
  show IntKind.i64.wrap ((BitVec.ofInt 64 n &&& BitVec.ofInt 64 31).toNat : Int) = _
  rw [BitVec.toNat_and, show (BitVec.ofInt 64 31).toNat = 31 from rfl, Nat.and_two_pow_sub_one_eq_mod _ 5, BitVec.toNat_ofInt, IntKind.wrap_i64]
  omega
/-! the plain functions, operator by operator, in the walk's spelling -/
theorem w32_0 : wrap32 0 = 0 := w32_in _ (by omega)
theorem w32_1 : wrap32 1 = 1 := w32_in _ (by omega)
theorem w32_m1 : wrap32 (-1) = -1 := w32_in _ (by omega)
theorem two_1 (a b : Int) : wrap32 (wrap32 a + wrap32 b) = two 1 a b := rfl
theorem two_2 (a b : Int) : wrap32 (wrap32 a - wrap32 b) = two 2 a b := rfl
theorem two_3 (a b : Int) : wrap32 (wrap64 (wrap32 a * wrap32 b)) = two 3 a b := w32_w64 _
theorem two_4 (a b : Int) : wrap32 (if wrap32 b = 0 then -1 else (wrap32 a).tdiv (wrap32 b)) = two 4 a b := by
  show _ = if wrap32 b = 0 then -1 else _
  split
  · exact w32_m1
  · rfl
theorem tmod_bd (x y : Int) (hx : -2147483648 ≤ x ∧ x ≤ 2147483647) : -2147483648 ≤ x.tmod y ∧ x.tmod y ≤ 2147483647 := by
  rcases Int.lt_or_le x 0 with h | h
  · have h1 := Int.tmod_nonneg (a := -x) y (by omega)
    have h2 : (-x).tmod y ≤ -x := by
      have e := Int.natAbs_tmod (-x) y
      have := Nat.mod_le (-x).natAbs y.natAbs
      omega
    rw [Int.neg_tmod] at h1 h2
    omega
  · have h1 := Int.tmod_nonneg y h
    have h2 : x.tmod y ≤ x := by
      have e := Int.natAbs_tmod x y
      have := Nat.mod_le x.natAbs y.natAbs
      omega
    omega
theorem two_5 (a b : Int) : wrap32 (if wrap32 b = 0 then wrap32 a else (wrap32 a).tmod (wrap32 b)) = two 5 a b := by
  show _ = if wrap32 b = 0 then wrap32 a else _
  split
  · exact w32_w32 a
  · exact w32_in _ (tmod_bd _ _ ⟨w32_lo a, w32_hi a⟩)
theorem two_6 (a b : Int) : wrap32 (bits .and .i64 (wrap32 a) (wrap32 b)) = two 6 a b := and_cut a b
theorem two_7 (a b : Int) : wrap32 (bits .or .i64 (wrap32 a) (wrap32 b)) = two 7 a b := or_cut a b
theorem two_8 (a b : Int) : wrap32 (bits .xor .i64 (wrap32 a) (wrap32 b)) = two 8 a b := xor_cut a b
theorem mod32 (b : Int) : wrap32 b % 32 = b % 32 := by unfold wrap32; omega
theorem two_9 (a b : Int) : wrap32 (wrap64 (wrap32 a * 2 ^ (wrap32 b % 32).toNat)) = two 9 a b := by
  rw [w32_w64, mod32]
  rfl
theorem shr_bd (x : Int) (k : Nat) (hx : -2147483648 ≤ x ∧ x ≤ 2147483647) : -2147483648 ≤ x / 2 ^ k ∧ x / 2 ^ k ≤ 2147483647 := by
  have hp : (0 : Int) < 2 ^ k := Int.pow_pos (by decide)
  constructor
  · rw [Int.le_ediv_iff_mul_le hp]
    have : (-2147483648 : Int) * 2 ^ k ≤ -2147483648 * 1 := Int.mul_le_mul_of_nonpos_left (by omega) (by omega)
    omega
  · have h1 : x / 2 ^ k ≤ 2147483647 / 2 ^ k := Int.ediv_le_ediv hp hx.2
    have h2 : (2147483647 : Int) / 2 ^ k ≤ 2147483647 := Int.ediv_le_self _ (by omega)
    omega
theorem two_10 (a b : Int) : wrap32 (wrap32 a / 2 ^ (wrap32 b % 32).toNat) = two 10 a b := by
  rw [mod32]
  exact w32_in _ (shr_bd _ _ ⟨w32_lo a, w32_hi a⟩)
theorem two_11y {a b : Int} (h : wrap32 a < wrap32 b) : wrap32 1 = two 11 a b := by
  show _ = tr _
  rw [tr, if_pos h]
  exact w32_1
theorem two_11n {a b : Int} (h : ¬ wrap32 a < wrap32 b) : wrap32 0 = two 11 a b := by
  show _ = tr _
  rw [tr, if_neg h]
  exact w32_0
theorem two_12y {a b : Int} (h : wrap32 a % 4294967296 < wrap32 b % 4294967296) : wrap32 1 = two 12 a b := by
  show _ = tr _
  rw [wd_w32, wd_w32] at h
  rw [tr, if_pos h]
  exact w32_1
theorem two_12n {a b : Int} (h : ¬ wrap32 a % 4294967296 < wrap32 b % 4294967296) : wrap32 0 = two 12 a b := by
  show _ = tr _
  rw [wd_w32, wd_w32] at h
  rw [tr, if_neg h]
  exact w32_0
theorem two_13y {a b : Int} (h : wrap32 a = wrap32 b) : wrap32 1 = two 13 a b := by
  show _ = tr _
  rw [tr, if_pos h]
  exact w32_1
theorem two_13n {a b : Int} (h : ¬ wrap32 a = wrap32 b) : wrap32 0 = two 13 a b := by
  show _ = tr _
  rw [tr, if_neg h]
  exact w32_0
theorem two_14y {a b : Int} (h : wrap32 a ≠ wrap32 b) : wrap32 1 = two 14 a b := by
  show _ = tr _
  rw [tr, if_pos h]
  exact w32_1
theorem two_14n {a b : Int} (h : ¬ wrap32 a ≠ wrap32 b) : wrap32 0 = two 14 a b := by
  show _ = tr _
  rw [tr, if_neg h]
  exact w32_0
theorem two_out (op a b : Int) (h : op < 1 ∨ 14 < op) : two op a b = 0 := by
  unfold two
  repeat rw [if_neg (by omega)]
theorem one_out (op a : Int) (h : op < 15 ∨ 17 < op) : one op a = 0 := by
  unfold one
  repeat rw [if_neg (by omega)]
theorem level_out (op : Int) (h : op < 1 ∨ 14 < op) : level op = 0 := by
  unfold level
  repeat rw [if_neg (by omega)]
theorem one_16y {a : Int} (h : wrap32 a = 0) : 1 = one 16 a := by
  show _ = tr _
  rw [tr, if_pos h]
theorem one_16n {a : Int} (h : ¬ wrap32 a = 0) : 0 = one 16 a := by
  show _ = tr _
  rw [tr, if_neg h]
theorem one_17 (a : Int) : bits .xor .i64 (-1) (wrap32 a) = one 17 a := by
  show IntKind.i64.wrap ((BitVec.ofInt 64 (-1) ^^^ BitVec.ofInt 64 (wrap32 a)).toNat : Int) = -wrap32 a - 1
  have e : BitVec.ofInt 64 (-1) = BitVec.allOnes 64 := by decide
  rw [wrap_toNat, e, BitVec.allOnes_xor, BitVec.toInt_not, BitVec.toNat_ofInt, Int.bmod_def]
  have := w32_lo a
  have := w32_hi a
  omega
def pick (c n : Int) : Int := if c < 0 then (-(c + 1)) % n else c % n
theorem pick_neg {c : Int} (n : Int) (h : c < 0) : -((c + 1).tmod n) = pick c n := by
  rw [← Int.neg_tmod, Int.tmod_eq_emod_of_nonneg (by omega)]
  exact (if_pos h).symm
theorem pick_pos {c : Int} (n : Int) (h : ¬ c < 0) : c % n = pick c n := (if_neg h).symm
theorem pick_bd (c n : Int) (h : 1 ≤ n) : 0 ≤ pick c n ∧ pick c n < n := by
  unfold pick
  split
  · exact ⟨Int.emod_nonneg _ (by omega), Int.emod_lt_of_pos _ (by omega)⟩
  · exact ⟨Int.emod_nonneg _ (by omega), Int.emod_lt_of_pos _ (by omega)⟩
theorem text_out (op : Int) (h : op < 1 ∨ 17 < op) : text op = [] := by
  unfold text
  repeat rw [if_neg (by omega)]
theorem text_full (n : Nat) (h1 : 1 ≤ n) (h2 : n ≤ 17) : (text (n : Int)).isEmpty = false := by
  have hk : n = 1 ∨ n = 2 ∨ n = 3 ∨ n = 4 ∨ n = 5 ∨ n = 6 ∨ n = 7 ∨ n = 8 ∨ n = 9 ∨ n = 10 ∨ n = 11 ∨ n = 12 ∨ n = 13 ∨ n = 14 ∨ n = 15 ∨ n = 16 ∨ n = 17 := by omega
  rcases hk with rfl | rfl | rfl | rfl | rfl | rfl | rfl | rfl | rfl | rfl | rfl | rfl | rfl | rfl | rfl | rfl | rfl
  all_goals rfl
end Go.Proofs.YtgcgdjmlngfpeaaDoor.Plain
