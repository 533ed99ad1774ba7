/- What package code's open bits leave of a word, and what its pieces take out of one, by the plain functions. No walk in sight. -/
import Derived.Test.YtjjbfeoidceiiaaDSum
import Derived.Test.YtjjbfeoidceiiaaDLift
namespace Go.Proofs.Ytjjbfeoidceiiaa
open Go.RowKit Rv
set_option linter.unusedVariables false
set_option linter.unusedSimpArgs false
theorem andNot_zero (z : Int) (h1 : -9223372036854775808 ≤ z) (h2 : z ≤ 9223372036854775807) : bits .andNot .i64 z 0 = z := by
  rw [andNot_i64, show BitVec.ofInt 64 0 = 0#64 from rfl]
  have : BitVec.ofInt 64 z &&& ~~~0#64 = BitVec.ofInt 64 z := by
    rw [BitVec.not_zero, BitVec.and_allOnes]
  rw [this, BitVec.toInt_ofInt, Int.bmod_def]
  omega
def clrS (y : Int) (x : Pc) : Int := bits .andNot .i64 y (IntKind.i64.wrap (maskV x.w * 2 ^ x.a.toNat))
theorem clr_fold (z : Int) (l : List Pc) : ∀ u, bits .andNot .i64 z (l.foldl openS u) = l.foldl clrS (bits .andNot .i64 z u) := by
  induction l with
  | nil => intro u; rfl
  | cons x l ih =>
    intro u
    rw [List.foldl_cons, List.foldl_cons, ih]
    congr 1
    unfold openS clrS
    rw [andNot_or]
theorem clr_open (z : Int) (ps : List Pc) (h1 : -9223372036854775808 ≤ z) (h2 : z ≤ 9223372036854775807) : bits .andNot .i64 z (openK ps 6) = (ps.take 6).foldl clrS z := by
  unfold openK
  rw [clr_fold, andNot_zero z h1 h2]
theorem mask_at {pos wd : Nat} {A W : Int} (hA : A = 2 ^ pos) (hW : W = 2 ^ wd) (haw : pos + wd ≤ 32) : IntKind.i64.wrap (maskV (wd : Int) * 2 ^ ((pos : Int).toNat)) = (W - 1) * A := by
  have l : (2 ^ wd - 1) * 2 ^ pos < 2 ^ 32 := by
    calc (2 ^ wd - 1) * 2 ^ pos < 2 ^ wd * 2 ^ pos := Nat.mul_lt_mul_of_pos_right (by have := two_pow_pos' wd; omega) (two_pow_pos' pos)
      _ = 2 ^ (wd + pos) := (Nat.pow_add 2 wd pos).symm
      _ ≤ 2 ^ 32 := Nat.pow_le_pow_right (by omega) (by omega)
  rw [maskV_is wd (by omega), Int.toNat_natCast, hA, hW]
  have e : ((2 : Int) ^ wd - 1) * 2 ^ pos = (((2 ^ wd - 1) * 2 ^ pos : Nat) : Int) := by
    rw [two_pow_cast, two_pow_cast, Int.natCast_mul, Int.natCast_sub (two_pow_pos' wd)]
    rfl
  rw [e]
  exact wrap_id (by omega) (by omega)
theorem clrS_is {y : Int} {p f pos wd : Nat} {A W : Int} (hA : A = 2 ^ pos) (hW : W = 2 ^ wd) (h1 : -9223372036854775808 ≤ y) (h2 : y ≤ 9223372036854775807) (haw : pos + wd ≤ 32)
    (hq : ∀ y : Int, -9223372036854775808 ≤ y → y ≤ 9223372036854775807 → (y + 18446744073709551616) / A % W = y / A % W ∧ -9223372036854775808 ≤ y - y / A % W * A ∧ 0 ≤ y / A % W * A) : clrS y ⟨p, f, pos, wd⟩ = y - y / A % W * A := by
  unfold clrS
  rw [mask_at hA hW haw]
  exact clear_field y pos wd hA hW h1 h2 haw hq
theorem clrS_none {y : Int} (h1 : -9223372036854775808 ≤ y) (h2 : y ≤ 9223372036854775807) : clrS y ⟨0, 0, 0, 0⟩ = y := by
  have := clrS_is (y := y) (p := 0) (f := 0) (pos := 0) (wd := 0) (A := 1) (W := 1) rfl rfl h1 h2 (by omega) (by intro z z1 z2; omega)
  simp only [Int.emod_one, Int.zero_mul, Int.sub_zero] at this
  exact this
theorem liftT_is {z : Int} {p f pos wd : Nat} {A W F : Int} (hA : A = 2 ^ pos) (hW : W = 2 ^ wd) (hF : F = 2 ^ f) (hw : wd ≤ 32) (hs : ∀ t, 0 ≤ t → t < W → t * F < 4294967296) : liftT z ⟨p, f, pos, wd⟩ = z / A % W * F := by
  have hWp : 0 < W := by rw [hW, two_pow_cast]; have := two_pow_pos' wd; omega
  have hFp : 0 < F := by rw [hF, two_pow_cast]; have := two_pow_pos' f; omega
  have t0 : 0 ≤ z / A % W := Int.emod_nonneg _ (by omega)
  have t1 : z / A % W < W := Int.emod_lt_of_pos _ hWp
  have t2 := hs _ t0 t1
  have t3 : 0 ≤ z / A % W * F := Int.mul_nonneg t0 (by omega)
  unfold liftT
  simp only [Int.toNat_natCast]
  rw [maskV_is wd hw, ← hA, and_mask _ wd hw, ← hW, ← hF]
  exact wrap_id (by omega) (by omega)
/-- a field of a word goes into a number whose place is empty -/
theorem or_lift {z u : Int} {p f pos wd : Nat} {A W F : Int} (hA : A = 2 ^ pos) (hW : W = 2 ^ wd) (hF : F = 2 ^ f) (hw : wd ≤ 32) (hs : ∀ t, 0 ≤ t → t < W → t * F < 4294967296) (hu : 0 ≤ u) (hu' : u < 4294967296) (h0 : u / F % W = 0) :
    bits .or .i64 u (liftT z ⟨p, f, pos, wd⟩) = u + z / A % W * F := by
  have hWp : 0 < W := by rw [hW, two_pow_cast]; have := two_pow_pos' wd; omega
  have t0 : 0 ≤ z / A % W := Int.emod_nonneg _ (by omega)
  have t1 : z / A % W < W := Int.emod_lt_of_pos _ hWp
  rw [liftT_is (p := p) hA hW hF hw hs]
  exact or_field f wd hF hW hu hu' t0 t1 (hs _ t0 t1) h0
theorem or_lift_none {z u : Int} (hu : 0 ≤ u) (hu' : u < 4294967296) : bits .or .i64 u (liftT z ⟨0, 0, 0, 0⟩) = u := by
  have := or_lift (z := z) (u := u) (p := 0) (f := 0) (pos := 0) (wd := 0) (A := 1) (W := 1) (F := 1) rfl rfl rfl (by omega) (by intro t h1 h2; omega) hu hu' (by omega)
  simp only [Int.emod_one, Int.zero_mul, Int.add_zero] at this
  exact this
theorem clrB_R (z : Int) (h1 : -9223372036854775808 ≤ z) (h2 : z ≤ 9223372036854775807) : bits .andNot .i64 z (openK (six (pcs 82)) 6) = z - z / 128 % 32 * 128 - z / 32768 % 32 * 32768 - z / 1048576 % 32 * 1048576 := by
  rw [clr_open z _ h1 h2, six_R]
  have k0_1 : ∀ y : Int, (y - y / 128 % 32 * 128) / 32768 % 32 = y / 32768 % 32 := by intro y; omega
  have k0_2 : ∀ y : Int, (y - y / 128 % 32 * 128) / 1048576 % 32 = y / 1048576 % 32 := by intro y; omega
  have k1_2 : ∀ y : Int, (y - y / 32768 % 32 * 32768) / 1048576 % 32 = y / 1048576 % 32 := by intro y; omega
  have q0 : ∀ y : Int, -9223372036854775808 ≤ y → y ≤ 9223372036854775807 → (y + 18446744073709551616) / 128 % 32 = y / 128 % 32 ∧ -9223372036854775808 ≤ y - y / 128 % 32 * 128 ∧ 0 ≤ y / 128 % 32 * 128 := by intro y y1 y2; omega
  have r0 : ∀ y : Int, -9223372036854775808 ≤ y → y ≤ 9223372036854775807 → -9223372036854775808 ≤ y - y / 128 % 32 * 128 ∧ y - y / 128 % 32 * 128 ≤ 9223372036854775807 := by intro y y1 y2; omega
  have q1 : ∀ y : Int, -9223372036854775808 ≤ y → y ≤ 9223372036854775807 → (y + 18446744073709551616) / 32768 % 32 = y / 32768 % 32 ∧ -9223372036854775808 ≤ y - y / 32768 % 32 * 32768 ∧ 0 ≤ y / 32768 % 32 * 32768 := by intro y y1 y2; omega
  have r1 : ∀ y : Int, -9223372036854775808 ≤ y → y ≤ 9223372036854775807 → -9223372036854775808 ≤ y - y / 32768 % 32 * 32768 ∧ y - y / 32768 % 32 * 32768 ≤ 9223372036854775807 := by intro y y1 y2; omega
  have q2 : ∀ y : Int, -9223372036854775808 ≤ y → y ≤ 9223372036854775807 → (y + 18446744073709551616) / 1048576 % 32 = y / 1048576 % 32 ∧ -9223372036854775808 ≤ y - y / 1048576 % 32 * 1048576 ∧ 0 ≤ y / 1048576 % 32 * 1048576 := by intro y y1 y2; omega
  have r2 : ∀ y : Int, -9223372036854775808 ≤ y → y ≤ 9223372036854775807 → -9223372036854775808 ≤ y - y / 1048576 % 32 * 1048576 ∧ y - y / 1048576 % 32 * 1048576 ≤ 9223372036854775807 := by intro y y1 y2; omega
  have s0 : clrS z ⟨0, 0, 7, 5⟩ = z - z / 128 % 32 * 128 := clrS_is (p := 0) (f := 0) (pos := 7) (wd := 5) rfl rfl h1 h2 (by decide) q0
  obtain ⟨y1, g1⟩ : ∃ y, y = z - z / 128 % 32 * 128 := ⟨_, rfl⟩
  rw [← g1] at s0
  have c1 : -9223372036854775808 ≤ y1 ∧ y1 ≤ 9223372036854775807 := by rw [g1]; exact r0 _ h1 h2
  have s1 : clrS y1 ⟨1, 0, 15, 5⟩ = y1 - y1 / 32768 % 32 * 32768 := clrS_is (p := 1) (f := 0) (pos := 15) (wd := 5) rfl rfl c1.1 c1.2 (by decide) q1
  obtain ⟨y2, g2⟩ : ∃ y, y = y1 - y1 / 32768 % 32 * 32768 := ⟨_, rfl⟩
  rw [← g2] at s1
  have c2 : -9223372036854775808 ≤ y2 ∧ y2 ≤ 9223372036854775807 := by rw [g2]; exact r1 _ c1.1 c1.2
  have f1 : y1 / 32768 % 32 = z / 32768 % 32 := by rw [g1, k0_1]
  have s2 : clrS y2 ⟨2, 0, 20, 5⟩ = y2 - y2 / 1048576 % 32 * 1048576 := clrS_is (p := 2) (f := 0) (pos := 20) (wd := 5) rfl rfl c2.1 c2.2 (by decide) q2
  obtain ⟨y3, g3⟩ : ∃ y, y = y2 - y2 / 1048576 % 32 * 1048576 := ⟨_, rfl⟩
  rw [← g3] at s2
  have c3 : -9223372036854775808 ≤ y3 ∧ y3 ≤ 9223372036854775807 := by rw [g3]; exact r2 _ c2.1 c2.2
  have f2 : y2 / 1048576 % 32 = z / 1048576 % 32 := by rw [g2, k1_2, g1, k0_2]
  have sz : clrS y3 ⟨0, 0, 0, 0⟩ = y3 := clrS_none c3.1 c3.2
  simp only [List.take_succ_cons, List.take_zero, List.foldl_cons, List.foldl_nil]
  rw [s0, s1, s2, sz, sz, sz]
  rw [g3, f2, g2, f1, g1]
theorem clrB_I (z : Int) (h1 : -9223372036854775808 ≤ z) (h2 : z ≤ 9223372036854775807) : bits .andNot .i64 z (openK (six (pcs 73)) 6) = z - z / 128 % 32 * 128 - z / 32768 % 32 * 32768 - z / 1048576 % 4096 * 1048576 := by
  rw [clr_open z _ h1 h2, six_I]
  have k0_1 : ∀ y : Int, (y - y / 128 % 32 * 128) / 32768 % 32 = y / 32768 % 32 := by intro y; omega
  have k0_2 : ∀ y : Int, (y - y / 128 % 32 * 128) / 1048576 % 4096 = y / 1048576 % 4096 := by intro y; omega
  have k1_2 : ∀ y : Int, (y - y / 32768 % 32 * 32768) / 1048576 % 4096 = y / 1048576 % 4096 := by intro y; omega
  have q0 : ∀ y : Int, -9223372036854775808 ≤ y → y ≤ 9223372036854775807 → (y + 18446744073709551616) / 128 % 32 = y / 128 % 32 ∧ -9223372036854775808 ≤ y - y / 128 % 32 * 128 ∧ 0 ≤ y / 128 % 32 * 128 := by intro y y1 y2; omega
  have r0 : ∀ y : Int, -9223372036854775808 ≤ y → y ≤ 9223372036854775807 → -9223372036854775808 ≤ y - y / 128 % 32 * 128 ∧ y - y / 128 % 32 * 128 ≤ 9223372036854775807 := by intro y y1 y2; omega
  have q1 : ∀ y : Int, -9223372036854775808 ≤ y → y ≤ 9223372036854775807 → (y + 18446744073709551616) / 32768 % 32 = y / 32768 % 32 ∧ -9223372036854775808 ≤ y - y / 32768 % 32 * 32768 ∧ 0 ≤ y / 32768 % 32 * 32768 := by intro y y1 y2; omega
  have r1 : ∀ y : Int, -9223372036854775808 ≤ y → y ≤ 9223372036854775807 → -9223372036854775808 ≤ y - y / 32768 % 32 * 32768 ∧ y - y / 32768 % 32 * 32768 ≤ 9223372036854775807 := by intro y y1 y2; omega
  have q2 : ∀ y : Int, -9223372036854775808 ≤ y → y ≤ 9223372036854775807 → (y + 18446744073709551616) / 1048576 % 4096 = y / 1048576 % 4096 ∧ -9223372036854775808 ≤ y - y / 1048576 % 4096 * 1048576 ∧ 0 ≤ y / 1048576 % 4096 * 1048576 := by intro y y1 y2; omega
  have r2 : ∀ y : Int, -9223372036854775808 ≤ y → y ≤ 9223372036854775807 → -9223372036854775808 ≤ y - y / 1048576 % 4096 * 1048576 ∧ y - y / 1048576 % 4096 * 1048576 ≤ 9223372036854775807 := by intro y y1 y2; omega
  have s0 : clrS z ⟨0, 0, 7, 5⟩ = z - z / 128 % 32 * 128 := clrS_is (p := 0) (f := 0) (pos := 7) (wd := 5) rfl rfl h1 h2 (by decide) q0
  obtain ⟨y1, g1⟩ : ∃ y, y = z - z / 128 % 32 * 128 := ⟨_, rfl⟩
  rw [← g1] at s0
  have c1 : -9223372036854775808 ≤ y1 ∧ y1 ≤ 9223372036854775807 := by rw [g1]; exact r0 _ h1 h2
  have s1 : clrS y1 ⟨1, 0, 15, 5⟩ = y1 - y1 / 32768 % 32 * 32768 := clrS_is (p := 1) (f := 0) (pos := 15) (wd := 5) rfl rfl c1.1 c1.2 (by decide) q1
  obtain ⟨y2, g2⟩ : ∃ y, y = y1 - y1 / 32768 % 32 * 32768 := ⟨_, rfl⟩
  rw [← g2] at s1
  have c2 : -9223372036854775808 ≤ y2 ∧ y2 ≤ 9223372036854775807 := by rw [g2]; exact r1 _ c1.1 c1.2
  have f1 : y1 / 32768 % 32 = z / 32768 % 32 := by rw [g1, k0_1]
  have s2 : clrS y2 ⟨3, 0, 20, 12⟩ = y2 - y2 / 1048576 % 4096 * 1048576 := clrS_is (p := 3) (f := 0) (pos := 20) (wd := 12) rfl rfl c2.1 c2.2 (by decide) q2
  obtain ⟨y3, g3⟩ : ∃ y, y = y2 - y2 / 1048576 % 4096 * 1048576 := ⟨_, rfl⟩
  rw [← g3] at s2
  have c3 : -9223372036854775808 ≤ y3 ∧ y3 ≤ 9223372036854775807 := by rw [g3]; exact r2 _ c2.1 c2.2
  have f2 : y2 / 1048576 % 4096 = z / 1048576 % 4096 := by rw [g2, k1_2, g1, k0_2]
  have sz : clrS y3 ⟨0, 0, 0, 0⟩ = y3 := clrS_none c3.1 c3.2
  simp only [List.take_succ_cons, List.take_zero, List.foldl_cons, List.foldl_nil]
  rw [s0, s1, s2, sz, sz, sz]
  rw [g3, f2, g2, f1, g1]
theorem clrB_C (z : Int) (h1 : -9223372036854775808 ≤ z) (h2 : z ≤ 9223372036854775807) : bits .andNot .i64 z (openK (six (pcs 67)) 6) = z - z / 128 % 32 * 128 - z / 32768 % 32 * 32768 - z / 1048576 % 4096 * 1048576 := by
  rw [clr_open z _ h1 h2, six_C]
  have k0_1 : ∀ y : Int, (y - y / 128 % 32 * 128) / 32768 % 32 = y / 32768 % 32 := by intro y; omega
  have k0_2 : ∀ y : Int, (y - y / 128 % 32 * 128) / 1048576 % 4096 = y / 1048576 % 4096 := by intro y; omega
  have k1_2 : ∀ y : Int, (y - y / 32768 % 32 * 32768) / 1048576 % 4096 = y / 1048576 % 4096 := by intro y; omega
  have q0 : ∀ y : Int, -9223372036854775808 ≤ y → y ≤ 9223372036854775807 → (y + 18446744073709551616) / 128 % 32 = y / 128 % 32 ∧ -9223372036854775808 ≤ y - y / 128 % 32 * 128 ∧ 0 ≤ y / 128 % 32 * 128 := by intro y y1 y2; omega
  have r0 : ∀ y : Int, -9223372036854775808 ≤ y → y ≤ 9223372036854775807 → -9223372036854775808 ≤ y - y / 128 % 32 * 128 ∧ y - y / 128 % 32 * 128 ≤ 9223372036854775807 := by intro y y1 y2; omega
  have q1 : ∀ y : Int, -9223372036854775808 ≤ y → y ≤ 9223372036854775807 → (y + 18446744073709551616) / 32768 % 32 = y / 32768 % 32 ∧ -9223372036854775808 ≤ y - y / 32768 % 32 * 32768 ∧ 0 ≤ y / 32768 % 32 * 32768 := by intro y y1 y2; omega
  have r1 : ∀ y : Int, -9223372036854775808 ≤ y → y ≤ 9223372036854775807 → -9223372036854775808 ≤ y - y / 32768 % 32 * 32768 ∧ y - y / 32768 % 32 * 32768 ≤ 9223372036854775807 := by intro y y1 y2; omega
  have q2 : ∀ y : Int, -9223372036854775808 ≤ y → y ≤ 9223372036854775807 → (y + 18446744073709551616) / 1048576 % 4096 = y / 1048576 % 4096 ∧ -9223372036854775808 ≤ y - y / 1048576 % 4096 * 1048576 ∧ 0 ≤ y / 1048576 % 4096 * 1048576 := by intro y y1 y2; omega
  have r2 : ∀ y : Int, -9223372036854775808 ≤ y → y ≤ 9223372036854775807 → -9223372036854775808 ≤ y - y / 1048576 % 4096 * 1048576 ∧ y - y / 1048576 % 4096 * 1048576 ≤ 9223372036854775807 := by intro y y1 y2; omega
  have s0 : clrS z ⟨0, 0, 7, 5⟩ = z - z / 128 % 32 * 128 := clrS_is (p := 0) (f := 0) (pos := 7) (wd := 5) rfl rfl h1 h2 (by decide) q0
  obtain ⟨y1, g1⟩ : ∃ y, y = z - z / 128 % 32 * 128 := ⟨_, rfl⟩
  rw [← g1] at s0
  have c1 : -9223372036854775808 ≤ y1 ∧ y1 ≤ 9223372036854775807 := by rw [g1]; exact r0 _ h1 h2
  have s1 : clrS y1 ⟨1, 0, 15, 5⟩ = y1 - y1 / 32768 % 32 * 32768 := clrS_is (p := 1) (f := 0) (pos := 15) (wd := 5) rfl rfl c1.1 c1.2 (by decide) q1
  obtain ⟨y2, g2⟩ : ∃ y, y = y1 - y1 / 32768 % 32 * 32768 := ⟨_, rfl⟩
  rw [← g2] at s1
  have c2 : -9223372036854775808 ≤ y2 ∧ y2 ≤ 9223372036854775807 := by rw [g2]; exact r1 _ c1.1 c1.2
  have f1 : y1 / 32768 % 32 = z / 32768 % 32 := by rw [g1, k0_1]
  have s2 : clrS y2 ⟨3, 0, 20, 12⟩ = y2 - y2 / 1048576 % 4096 * 1048576 := clrS_is (p := 3) (f := 0) (pos := 20) (wd := 12) rfl rfl c2.1 c2.2 (by decide) q2
  obtain ⟨y3, g3⟩ : ∃ y, y = y2 - y2 / 1048576 % 4096 * 1048576 := ⟨_, rfl⟩
  rw [← g3] at s2
  have c3 : -9223372036854775808 ≤ y3 ∧ y3 ≤ 9223372036854775807 := by rw [g3]; exact r2 _ c2.1 c2.2
  have f2 : y2 / 1048576 % 4096 = z / 1048576 % 4096 := by rw [g2, k1_2, g1, k0_2]
  have sz : clrS y3 ⟨0, 0, 0, 0⟩ = y3 := clrS_none c3.1 c3.2
  simp only [List.take_succ_cons, List.take_zero, List.foldl_cons, List.foldl_nil]
  rw [s0, s1, s2, sz, sz, sz]
  rw [g3, f2, g2, f1, g1]
theorem clrB_H (z : Int) (h1 : -9223372036854775808 ≤ z) (h2 : z ≤ 9223372036854775807) : bits .andNot .i64 z (openK (six (pcs 72)) 6) = z - z / 128 % 32 * 128 - z / 32768 % 32 * 32768 - z / 1048576 % 32 * 1048576 := by
  rw [clr_open z _ h1 h2, six_H]
  have k0_1 : ∀ y : Int, (y - y / 128 % 32 * 128) / 32768 % 32 = y / 32768 % 32 := by intro y; omega
  have k0_2 : ∀ y : Int, (y - y / 128 % 32 * 128) / 1048576 % 32 = y / 1048576 % 32 := by intro y; omega
  have k1_2 : ∀ y : Int, (y - y / 32768 % 32 * 32768) / 1048576 % 32 = y / 1048576 % 32 := by intro y; omega
  have q0 : ∀ y : Int, -9223372036854775808 ≤ y → y ≤ 9223372036854775807 → (y + 18446744073709551616) / 128 % 32 = y / 128 % 32 ∧ -9223372036854775808 ≤ y - y / 128 % 32 * 128 ∧ 0 ≤ y / 128 % 32 * 128 := by intro y y1 y2; omega
  have r0 : ∀ y : Int, -9223372036854775808 ≤ y → y ≤ 9223372036854775807 → -9223372036854775808 ≤ y - y / 128 % 32 * 128 ∧ y - y / 128 % 32 * 128 ≤ 9223372036854775807 := by intro y y1 y2; omega
  have q1 : ∀ y : Int, -9223372036854775808 ≤ y → y ≤ 9223372036854775807 → (y + 18446744073709551616) / 32768 % 32 = y / 32768 % 32 ∧ -9223372036854775808 ≤ y - y / 32768 % 32 * 32768 ∧ 0 ≤ y / 32768 % 32 * 32768 := by intro y y1 y2; omega
  have r1 : ∀ y : Int, -9223372036854775808 ≤ y → y ≤ 9223372036854775807 → -9223372036854775808 ≤ y - y / 32768 % 32 * 32768 ∧ y - y / 32768 % 32 * 32768 ≤ 9223372036854775807 := by intro y y1 y2; omega
  have q2 : ∀ y : Int, -9223372036854775808 ≤ y → y ≤ 9223372036854775807 → (y + 18446744073709551616) / 1048576 % 32 = y / 1048576 % 32 ∧ -9223372036854775808 ≤ y - y / 1048576 % 32 * 1048576 ∧ 0 ≤ y / 1048576 % 32 * 1048576 := by intro y y1 y2; omega
  have r2 : ∀ y : Int, -9223372036854775808 ≤ y → y ≤ 9223372036854775807 → -9223372036854775808 ≤ y - y / 1048576 % 32 * 1048576 ∧ y - y / 1048576 % 32 * 1048576 ≤ 9223372036854775807 := by intro y y1 y2; omega
  have s0 : clrS z ⟨0, 0, 7, 5⟩ = z - z / 128 % 32 * 128 := clrS_is (p := 0) (f := 0) (pos := 7) (wd := 5) rfl rfl h1 h2 (by decide) q0
  obtain ⟨y1, g1⟩ : ∃ y, y = z - z / 128 % 32 * 128 := ⟨_, rfl⟩
  rw [← g1] at s0
  have c1 : -9223372036854775808 ≤ y1 ∧ y1 ≤ 9223372036854775807 := by rw [g1]; exact r0 _ h1 h2
  have s1 : clrS y1 ⟨1, 0, 15, 5⟩ = y1 - y1 / 32768 % 32 * 32768 := clrS_is (p := 1) (f := 0) (pos := 15) (wd := 5) rfl rfl c1.1 c1.2 (by decide) q1
  obtain ⟨y2, g2⟩ : ∃ y, y = y1 - y1 / 32768 % 32 * 32768 := ⟨_, rfl⟩
  rw [← g2] at s1
  have c2 : -9223372036854775808 ≤ y2 ∧ y2 ≤ 9223372036854775807 := by rw [g2]; exact r1 _ c1.1 c1.2
  have f1 : y1 / 32768 % 32 = z / 32768 % 32 := by rw [g1, k0_1]
  have s2 : clrS y2 ⟨3, 0, 20, 5⟩ = y2 - y2 / 1048576 % 32 * 1048576 := clrS_is (p := 3) (f := 0) (pos := 20) (wd := 5) rfl rfl c2.1 c2.2 (by decide) q2
  obtain ⟨y3, g3⟩ : ∃ y, y = y2 - y2 / 1048576 % 32 * 1048576 := ⟨_, rfl⟩
  rw [← g3] at s2
  have c3 : -9223372036854775808 ≤ y3 ∧ y3 ≤ 9223372036854775807 := by rw [g3]; exact r2 _ c2.1 c2.2
  have f2 : y2 / 1048576 % 32 = z / 1048576 % 32 := by rw [g2, k1_2, g1, k0_2]
  have sz : clrS y3 ⟨0, 0, 0, 0⟩ = y3 := clrS_none c3.1 c3.2
  simp only [List.take_succ_cons, List.take_zero, List.foldl_cons, List.foldl_nil]
  rw [s0, s1, s2, sz, sz, sz]
  rw [g3, f2, g2, f1, g1]
theorem clrB_S (z : Int) (h1 : -9223372036854775808 ≤ z) (h2 : z ≤ 9223372036854775807) : bits .andNot .i64 z (openK (six (pcs 83)) 6) = z - z / 32768 % 32 * 32768 - z / 1048576 % 32 * 1048576 - z / 128 % 32 * 128 - z / 33554432 % 128 * 33554432 := by
  rw [clr_open z _ h1 h2, six_S]
  have k0_1 : ∀ y : Int, (y - y / 32768 % 32 * 32768) / 1048576 % 32 = y / 1048576 % 32 := by intro y; omega
  have k0_2 : ∀ y : Int, (y - y / 32768 % 32 * 32768) / 128 % 32 = y / 128 % 32 := by intro y; omega
  have k0_3 : ∀ y : Int, (y - y / 32768 % 32 * 32768) / 33554432 % 128 = y / 33554432 % 128 := by intro y; omega
  have k1_2 : ∀ y : Int, (y - y / 1048576 % 32 * 1048576) / 128 % 32 = y / 128 % 32 := by intro y; omega
  have k1_3 : ∀ y : Int, (y - y / 1048576 % 32 * 1048576) / 33554432 % 128 = y / 33554432 % 128 := by intro y; omega
  have k2_3 : ∀ y : Int, (y - y / 128 % 32 * 128) / 33554432 % 128 = y / 33554432 % 128 := by intro y; omega
  have q0 : ∀ y : Int, -9223372036854775808 ≤ y → y ≤ 9223372036854775807 → (y + 18446744073709551616) / 32768 % 32 = y / 32768 % 32 ∧ -9223372036854775808 ≤ y - y / 32768 % 32 * 32768 ∧ 0 ≤ y / 32768 % 32 * 32768 := by intro y y1 y2; omega
  have r0 : ∀ y : Int, -9223372036854775808 ≤ y → y ≤ 9223372036854775807 → -9223372036854775808 ≤ y - y / 32768 % 32 * 32768 ∧ y - y / 32768 % 32 * 32768 ≤ 9223372036854775807 := by intro y y1 y2; omega
  have q1 : ∀ y : Int, -9223372036854775808 ≤ y → y ≤ 9223372036854775807 → (y + 18446744073709551616) / 1048576 % 32 = y / 1048576 % 32 ∧ -9223372036854775808 ≤ y - y / 1048576 % 32 * 1048576 ∧ 0 ≤ y / 1048576 % 32 * 1048576 := by intro y y1 y2; omega
  have r1 : ∀ y : Int, -9223372036854775808 ≤ y → y ≤ 9223372036854775807 → -9223372036854775808 ≤ y - y / 1048576 % 32 * 1048576 ∧ y - y / 1048576 % 32 * 1048576 ≤ 9223372036854775807 := by intro y y1 y2; omega
  have q2 : ∀ y : Int, -9223372036854775808 ≤ y → y ≤ 9223372036854775807 → (y + 18446744073709551616) / 128 % 32 = y / 128 % 32 ∧ -9223372036854775808 ≤ y - y / 128 % 32 * 128 ∧ 0 ≤ y / 128 % 32 * 128 := by intro y y1 y2; omega
  have r2 : ∀ y : Int, -9223372036854775808 ≤ y → y ≤ 9223372036854775807 → -9223372036854775808 ≤ y - y / 128 % 32 * 128 ∧ y - y / 128 % 32 * 128 ≤ 9223372036854775807 := by intro y y1 y2; omega
  have q3 : ∀ y : Int, -9223372036854775808 ≤ y → y ≤ 9223372036854775807 → (y + 18446744073709551616) / 33554432 % 128 = y / 33554432 % 128 ∧ -9223372036854775808 ≤ y - y / 33554432 % 128 * 33554432 ∧ 0 ≤ y / 33554432 % 128 * 33554432 := by intro y y1 y2; omega
  have r3 : ∀ y : Int, -9223372036854775808 ≤ y → y ≤ 9223372036854775807 → -9223372036854775808 ≤ y - y / 33554432 % 128 * 33554432 ∧ y - y / 33554432 % 128 * 33554432 ≤ 9223372036854775807 := by intro y y1 y2; omega
  have s0 : clrS z ⟨1, 0, 15, 5⟩ = z - z / 32768 % 32 * 32768 := clrS_is (p := 1) (f := 0) (pos := 15) (wd := 5) rfl rfl h1 h2 (by decide) q0
  obtain ⟨y1, g1⟩ : ∃ y, y = z - z / 32768 % 32 * 32768 := ⟨_, rfl⟩
  rw [← g1] at s0
  have c1 : -9223372036854775808 ≤ y1 ∧ y1 ≤ 9223372036854775807 := by rw [g1]; exact r0 _ h1 h2
  have s1 : clrS y1 ⟨2, 0, 20, 5⟩ = y1 - y1 / 1048576 % 32 * 1048576 := clrS_is (p := 2) (f := 0) (pos := 20) (wd := 5) rfl rfl c1.1 c1.2 (by decide) q1
  obtain ⟨y2, g2⟩ : ∃ y, y = y1 - y1 / 1048576 % 32 * 1048576 := ⟨_, rfl⟩
  rw [← g2] at s1
  have c2 : -9223372036854775808 ≤ y2 ∧ y2 ≤ 9223372036854775807 := by rw [g2]; exact r1 _ c1.1 c1.2
  have f1 : y1 / 1048576 % 32 = z / 1048576 % 32 := by rw [g1, k0_1]
  have s2 : clrS y2 ⟨3, 0, 7, 5⟩ = y2 - y2 / 128 % 32 * 128 := clrS_is (p := 3) (f := 0) (pos := 7) (wd := 5) rfl rfl c2.1 c2.2 (by decide) q2
  obtain ⟨y3, g3⟩ : ∃ y, y = y2 - y2 / 128 % 32 * 128 := ⟨_, rfl⟩
  rw [← g3] at s2
  have c3 : -9223372036854775808 ≤ y3 ∧ y3 ≤ 9223372036854775807 := by rw [g3]; exact r2 _ c2.1 c2.2
  have f2 : y2 / 128 % 32 = z / 128 % 32 := by rw [g2, k1_2, g1, k0_2]
  have s3 : clrS y3 ⟨3, 5, 25, 7⟩ = y3 - y3 / 33554432 % 128 * 33554432 := clrS_is (p := 3) (f := 5) (pos := 25) (wd := 7) rfl rfl c3.1 c3.2 (by decide) q3
  obtain ⟨y4, g4⟩ : ∃ y, y = y3 - y3 / 33554432 % 128 * 33554432 := ⟨_, rfl⟩
  rw [← g4] at s3
  have c4 : -9223372036854775808 ≤ y4 ∧ y4 ≤ 9223372036854775807 := by rw [g4]; exact r3 _ c3.1 c3.2
  have f3 : y3 / 33554432 % 128 = z / 33554432 % 128 := by rw [g3, k2_3, g2, k1_3, g1, k0_3]
  have sz : clrS y4 ⟨0, 0, 0, 0⟩ = y4 := clrS_none c4.1 c4.2
  simp only [List.take_succ_cons, List.take_zero, List.foldl_cons, List.foldl_nil]
  rw [s0, s1, s2, s3, sz, sz]
  rw [g4, f3, g3, f2, g2, f1, g1]
theorem clrB_B (z : Int) (h1 : -9223372036854775808 ≤ z) (h2 : z ≤ 9223372036854775807) : bits .andNot .i64 z (openK (six (pcs 66)) 6) = z - z / 32768 % 32 * 32768 - z / 1048576 % 32 * 1048576 - z / 128 % 2 * 128 - z / 256 % 16 * 256 - z / 33554432 % 64 * 33554432 - z / 2147483648 % 2 * 2147483648 := by
  rw [clr_open z _ h1 h2, six_B]
  have k0_1 : ∀ y : Int, (y - y / 32768 % 32 * 32768) / 1048576 % 32 = y / 1048576 % 32 := by intro y; omega
  have k0_2 : ∀ y : Int, (y - y / 32768 % 32 * 32768) / 128 % 2 = y / 128 % 2 := by intro y; omega
  have k0_3 : ∀ y : Int, (y - y / 32768 % 32 * 32768) / 256 % 16 = y / 256 % 16 := by intro y; omega
  have k0_4 : ∀ y : Int, (y - y / 32768 % 32 * 32768) / 33554432 % 64 = y / 33554432 % 64 := by intro y; omega
  have k0_5 : ∀ y : Int, (y - y / 32768 % 32 * 32768) / 2147483648 % 2 = y / 2147483648 % 2 := by intro y; omega
  have k1_2 : ∀ y : Int, (y - y / 1048576 % 32 * 1048576) / 128 % 2 = y / 128 % 2 := by intro y; omega
  have k1_3 : ∀ y : Int, (y - y / 1048576 % 32 * 1048576) / 256 % 16 = y / 256 % 16 := by intro y; omega
  have k1_4 : ∀ y : Int, (y - y / 1048576 % 32 * 1048576) / 33554432 % 64 = y / 33554432 % 64 := by intro y; omega
  have k1_5 : ∀ y : Int, (y - y / 1048576 % 32 * 1048576) / 2147483648 % 2 = y / 2147483648 % 2 := by intro y; omega
  have k2_3 : ∀ y : Int, (y - y / 128 % 2 * 128) / 256 % 16 = y / 256 % 16 := by intro y; omega
  have k2_4 : ∀ y : Int, (y - y / 128 % 2 * 128) / 33554432 % 64 = y / 33554432 % 64 := by intro y; omega
  have k2_5 : ∀ y : Int, (y - y / 128 % 2 * 128) / 2147483648 % 2 = y / 2147483648 % 2 := by intro y; omega
  have k3_4 : ∀ y : Int, (y - y / 256 % 16 * 256) / 33554432 % 64 = y / 33554432 % 64 := by intro y; omega
  have k3_5 : ∀ y : Int, (y - y / 256 % 16 * 256) / 2147483648 % 2 = y / 2147483648 % 2 := by intro y; omega
  have k4_5 : ∀ y : Int, (y - y / 33554432 % 64 * 33554432) / 2147483648 % 2 = y / 2147483648 % 2 := by intro y; omega
  have q0 : ∀ y : Int, -9223372036854775808 ≤ y → y ≤ 9223372036854775807 → (y + 18446744073709551616) / 32768 % 32 = y / 32768 % 32 ∧ -9223372036854775808 ≤ y - y / 32768 % 32 * 32768 ∧ 0 ≤ y / 32768 % 32 * 32768 := by intro y y1 y2; omega
  have r0 : ∀ y : Int, -9223372036854775808 ≤ y → y ≤ 9223372036854775807 → -9223372036854775808 ≤ y - y / 32768 % 32 * 32768 ∧ y - y / 32768 % 32 * 32768 ≤ 9223372036854775807 := by intro y y1 y2; omega
  have q1 : ∀ y : Int, -9223372036854775808 ≤ y → y ≤ 9223372036854775807 → (y + 18446744073709551616) / 1048576 % 32 = y / 1048576 % 32 ∧ -9223372036854775808 ≤ y - y / 1048576 % 32 * 1048576 ∧ 0 ≤ y / 1048576 % 32 * 1048576 := by intro y y1 y2; omega
  have r1 : ∀ y : Int, -9223372036854775808 ≤ y → y ≤ 9223372036854775807 → -9223372036854775808 ≤ y - y / 1048576 % 32 * 1048576 ∧ y - y / 1048576 % 32 * 1048576 ≤ 9223372036854775807 := by intro y y1 y2; omega
  have q2 : ∀ y : Int, -9223372036854775808 ≤ y → y ≤ 9223372036854775807 → (y + 18446744073709551616) / 128 % 2 = y / 128 % 2 ∧ -9223372036854775808 ≤ y - y / 128 % 2 * 128 ∧ 0 ≤ y / 128 % 2 * 128 := by intro y y1 y2; omega
  have r2 : ∀ y : Int, -9223372036854775808 ≤ y → y ≤ 9223372036854775807 → -9223372036854775808 ≤ y - y / 128 % 2 * 128 ∧ y - y / 128 % 2 * 128 ≤ 9223372036854775807 := by intro y y1 y2; omega
  have q3 : ∀ y : Int, -9223372036854775808 ≤ y → y ≤ 9223372036854775807 → (y + 18446744073709551616) / 256 % 16 = y / 256 % 16 ∧ -9223372036854775808 ≤ y - y / 256 % 16 * 256 ∧ 0 ≤ y / 256 % 16 * 256 := by intro y y1 y2; omega
  have r3 : ∀ y : Int, -9223372036854775808 ≤ y → y ≤ 9223372036854775807 → -9223372036854775808 ≤ y - y / 256 % 16 * 256 ∧ y - y / 256 % 16 * 256 ≤ 9223372036854775807 := by intro y y1 y2; omega
  have q4 : ∀ y : Int, -9223372036854775808 ≤ y → y ≤ 9223372036854775807 → (y + 18446744073709551616) / 33554432 % 64 = y / 33554432 % 64 ∧ -9223372036854775808 ≤ y - y / 33554432 % 64 * 33554432 ∧ 0 ≤ y / 33554432 % 64 * 33554432 := by intro y y1 y2; omega
  have r4 : ∀ y : Int, -9223372036854775808 ≤ y → y ≤ 9223372036854775807 → -9223372036854775808 ≤ y - y / 33554432 % 64 * 33554432 ∧ y - y / 33554432 % 64 * 33554432 ≤ 9223372036854775807 := by intro y y1 y2; omega
  have q5 : ∀ y : Int, -9223372036854775808 ≤ y → y ≤ 9223372036854775807 → (y + 18446744073709551616) / 2147483648 % 2 = y / 2147483648 % 2 ∧ -9223372036854775808 ≤ y - y / 2147483648 % 2 * 2147483648 ∧ 0 ≤ y / 2147483648 % 2 * 2147483648 := by intro y y1 y2; omega
  have r5 : ∀ y : Int, -9223372036854775808 ≤ y → y ≤ 9223372036854775807 → -9223372036854775808 ≤ y - y / 2147483648 % 2 * 2147483648 ∧ y - y / 2147483648 % 2 * 2147483648 ≤ 9223372036854775807 := by intro y y1 y2; omega
  have s0 : clrS z ⟨1, 0, 15, 5⟩ = z - z / 32768 % 32 * 32768 := clrS_is (p := 1) (f := 0) (pos := 15) (wd := 5) rfl rfl h1 h2 (by decide) q0
  obtain ⟨y1, g1⟩ : ∃ y, y = z - z / 32768 % 32 * 32768 := ⟨_, rfl⟩
  rw [← g1] at s0
  have c1 : -9223372036854775808 ≤ y1 ∧ y1 ≤ 9223372036854775807 := by rw [g1]; exact r0 _ h1 h2
  have s1 : clrS y1 ⟨2, 0, 20, 5⟩ = y1 - y1 / 1048576 % 32 * 1048576 := clrS_is (p := 2) (f := 0) (pos := 20) (wd := 5) rfl rfl c1.1 c1.2 (by decide) q1
  obtain ⟨y2, g2⟩ : ∃ y, y = y1 - y1 / 1048576 % 32 * 1048576 := ⟨_, rfl⟩
  rw [← g2] at s1
  have c2 : -9223372036854775808 ≤ y2 ∧ y2 ≤ 9223372036854775807 := by rw [g2]; exact r1 _ c1.1 c1.2
  have f1 : y1 / 1048576 % 32 = z / 1048576 % 32 := by rw [g1, k0_1]
  have s2 : clrS y2 ⟨3, 11, 7, 1⟩ = y2 - y2 / 128 % 2 * 128 := clrS_is (p := 3) (f := 11) (pos := 7) (wd := 1) rfl rfl c2.1 c2.2 (by decide) q2
  obtain ⟨y3, g3⟩ : ∃ y, y = y2 - y2 / 128 % 2 * 128 := ⟨_, rfl⟩
  rw [← g3] at s2
  have c3 : -9223372036854775808 ≤ y3 ∧ y3 ≤ 9223372036854775807 := by rw [g3]; exact r2 _ c2.1 c2.2
  have f2 : y2 / 128 % 2 = z / 128 % 2 := by rw [g2, k1_2, g1, k0_2]
  have s3 : clrS y3 ⟨3, 1, 8, 4⟩ = y3 - y3 / 256 % 16 * 256 := clrS_is (p := 3) (f := 1) (pos := 8) (wd := 4) rfl rfl c3.1 c3.2 (by decide) q3
  obtain ⟨y4, g4⟩ : ∃ y, y = y3 - y3 / 256 % 16 * 256 := ⟨_, rfl⟩
  rw [← g4] at s3
  have c4 : -9223372036854775808 ≤ y4 ∧ y4 ≤ 9223372036854775807 := by rw [g4]; exact r3 _ c3.1 c3.2
  have f3 : y3 / 256 % 16 = z / 256 % 16 := by rw [g3, k2_3, g2, k1_3, g1, k0_3]
  have s4 : clrS y4 ⟨3, 5, 25, 6⟩ = y4 - y4 / 33554432 % 64 * 33554432 := clrS_is (p := 3) (f := 5) (pos := 25) (wd := 6) rfl rfl c4.1 c4.2 (by decide) q4
  obtain ⟨y5, g5⟩ : ∃ y, y = y4 - y4 / 33554432 % 64 * 33554432 := ⟨_, rfl⟩
  rw [← g5] at s4
  have c5 : -9223372036854775808 ≤ y5 ∧ y5 ≤ 9223372036854775807 := by rw [g5]; exact r4 _ c4.1 c4.2
  have f4 : y4 / 33554432 % 64 = z / 33554432 % 64 := by rw [g4, k3_4, g3, k2_4, g2, k1_4, g1, k0_4]
  have s5 : clrS y5 ⟨3, 12, 31, 1⟩ = y5 - y5 / 2147483648 % 2 * 2147483648 := clrS_is (p := 3) (f := 12) (pos := 31) (wd := 1) rfl rfl c5.1 c5.2 (by decide) q5
  obtain ⟨y6, g6⟩ : ∃ y, y = y5 - y5 / 2147483648 % 2 * 2147483648 := ⟨_, rfl⟩
  rw [← g6] at s5
  have c6 : -9223372036854775808 ≤ y6 ∧ y6 ≤ 9223372036854775807 := by rw [g6]; exact r5 _ c5.1 c5.2
  have f5 : y5 / 2147483648 % 2 = z / 2147483648 % 2 := by rw [g5, k4_5, g4, k3_5, g3, k2_5, g2, k1_5, g1, k0_5]
  simp only [List.take_succ_cons, List.take_zero, List.foldl_cons, List.foldl_nil]
  rw [s0, s1, s2, s3, s4, s5]
  rw [g6, f5, g5, f4, g4, f3, g3, f2, g2, f1, g1]
theorem clrB_U (z : Int) (h1 : -9223372036854775808 ≤ z) (h2 : z ≤ 9223372036854775807) : bits .andNot .i64 z (openK (six (pcs 85)) 6) = z - z / 128 % 32 * 128 - z / 4096 % 1048576 * 4096 := by
  rw [clr_open z _ h1 h2, six_U]
  have k0_1 : ∀ y : Int, (y - y / 128 % 32 * 128) / 4096 % 1048576 = y / 4096 % 1048576 := by intro y; omega
  have q0 : ∀ y : Int, -9223372036854775808 ≤ y → y ≤ 9223372036854775807 → (y + 18446744073709551616) / 128 % 32 = y / 128 % 32 ∧ -9223372036854775808 ≤ y - y / 128 % 32 * 128 ∧ 0 ≤ y / 128 % 32 * 128 := by intro y y1 y2; omega
  have r0 : ∀ y : Int, -9223372036854775808 ≤ y → y ≤ 9223372036854775807 → -9223372036854775808 ≤ y - y / 128 % 32 * 128 ∧ y - y / 128 % 32 * 128 ≤ 9223372036854775807 := by intro y y1 y2; omega
  have q1 : ∀ y : Int, -9223372036854775808 ≤ y → y ≤ 9223372036854775807 → (y + 18446744073709551616) / 4096 % 1048576 = y / 4096 % 1048576 ∧ -9223372036854775808 ≤ y - y / 4096 % 1048576 * 4096 ∧ 0 ≤ y / 4096 % 1048576 * 4096 := by intro y y1 y2; omega
  have r1 : ∀ y : Int, -9223372036854775808 ≤ y → y ≤ 9223372036854775807 → -9223372036854775808 ≤ y - y / 4096 % 1048576 * 4096 ∧ y - y / 4096 % 1048576 * 4096 ≤ 9223372036854775807 := by intro y y1 y2; omega
  have s0 : clrS z ⟨0, 0, 7, 5⟩ = z - z / 128 % 32 * 128 := clrS_is (p := 0) (f := 0) (pos := 7) (wd := 5) rfl rfl h1 h2 (by decide) q0
  obtain ⟨y1, g1⟩ : ∃ y, y = z - z / 128 % 32 * 128 := ⟨_, rfl⟩
  rw [← g1] at s0
  have c1 : -9223372036854775808 ≤ y1 ∧ y1 ≤ 9223372036854775807 := by rw [g1]; exact r0 _ h1 h2
  have s1 : clrS y1 ⟨3, 0, 12, 20⟩ = y1 - y1 / 4096 % 1048576 * 4096 := clrS_is (p := 3) (f := 0) (pos := 12) (wd := 20) rfl rfl c1.1 c1.2 (by decide) q1
  obtain ⟨y2, g2⟩ : ∃ y, y = y1 - y1 / 4096 % 1048576 * 4096 := ⟨_, rfl⟩
  rw [← g2] at s1
  have c2 : -9223372036854775808 ≤ y2 ∧ y2 ≤ 9223372036854775807 := by rw [g2]; exact r1 _ c1.1 c1.2
  have f1 : y1 / 4096 % 1048576 = z / 4096 % 1048576 := by rw [g1, k0_1]
  have sz : clrS y2 ⟨0, 0, 0, 0⟩ = y2 := clrS_none c2.1 c2.2
  simp only [List.take_succ_cons, List.take_zero, List.foldl_cons, List.foldl_nil]
  rw [s0, s1, sz, sz, sz, sz]
  rw [g2, f1, g1]
theorem clrB_J (z : Int) (h1 : -9223372036854775808 ≤ z) (h2 : z ≤ 9223372036854775807) : bits .andNot .i64 z (openK (six (pcs 74)) 6) = z - z / 128 % 32 * 128 - z / 4096 % 256 * 4096 - z / 1048576 % 2 * 1048576 - z / 2097152 % 1024 * 2097152 - z / 2147483648 % 2 * 2147483648 := by
  rw [clr_open z _ h1 h2, six_J]
  have k0_1 : ∀ y : Int, (y - y / 128 % 32 * 128) / 4096 % 256 = y / 4096 % 256 := by intro y; omega
  have k0_2 : ∀ y : Int, (y - y / 128 % 32 * 128) / 1048576 % 2 = y / 1048576 % 2 := by intro y; omega
  have k0_3 : ∀ y : Int, (y - y / 128 % 32 * 128) / 2097152 % 1024 = y / 2097152 % 1024 := by intro y; omega
  have k0_4 : ∀ y : Int, (y - y / 128 % 32 * 128) / 2147483648 % 2 = y / 2147483648 % 2 := by intro y; omega
  have k1_2 : ∀ y : Int, (y - y / 4096 % 256 * 4096) / 1048576 % 2 = y / 1048576 % 2 := by intro y; omega
  have k1_3 : ∀ y : Int, (y - y / 4096 % 256 * 4096) / 2097152 % 1024 = y / 2097152 % 1024 := by intro y; omega
  have k1_4 : ∀ y : Int, (y - y / 4096 % 256 * 4096) / 2147483648 % 2 = y / 2147483648 % 2 := by intro y; omega
  have k2_3 : ∀ y : Int, (y - y / 1048576 % 2 * 1048576) / 2097152 % 1024 = y / 2097152 % 1024 := by intro y; omega
  have k2_4 : ∀ y : Int, (y - y / 1048576 % 2 * 1048576) / 2147483648 % 2 = y / 2147483648 % 2 := by intro y; omega
  have k3_4 : ∀ y : Int, (y - y / 2097152 % 1024 * 2097152) / 2147483648 % 2 = y / 2147483648 % 2 := by intro y; omega
  have q0 : ∀ y : Int, -9223372036854775808 ≤ y → y ≤ 9223372036854775807 → (y + 18446744073709551616) / 128 % 32 = y / 128 % 32 ∧ -9223372036854775808 ≤ y - y / 128 % 32 * 128 ∧ 0 ≤ y / 128 % 32 * 128 := by intro y y1 y2; omega
  have r0 : ∀ y : Int, -9223372036854775808 ≤ y → y ≤ 9223372036854775807 → -9223372036854775808 ≤ y - y / 128 % 32 * 128 ∧ y - y / 128 % 32 * 128 ≤ 9223372036854775807 := by intro y y1 y2; omega
  have q1 : ∀ y : Int, -9223372036854775808 ≤ y → y ≤ 9223372036854775807 → (y + 18446744073709551616) / 4096 % 256 = y / 4096 % 256 ∧ -9223372036854775808 ≤ y - y / 4096 % 256 * 4096 ∧ 0 ≤ y / 4096 % 256 * 4096 := by intro y y1 y2; omega
  have r1 : ∀ y : Int, -9223372036854775808 ≤ y → y ≤ 9223372036854775807 → -9223372036854775808 ≤ y - y / 4096 % 256 * 4096 ∧ y - y / 4096 % 256 * 4096 ≤ 9223372036854775807 := by intro y y1 y2; omega
  have q2 : ∀ y : Int, -9223372036854775808 ≤ y → y ≤ 9223372036854775807 → (y + 18446744073709551616) / 1048576 % 2 = y / 1048576 % 2 ∧ -9223372036854775808 ≤ y - y / 1048576 % 2 * 1048576 ∧ 0 ≤ y / 1048576 % 2 * 1048576 := by intro y y1 y2; omega
  have r2 : ∀ y : Int, -9223372036854775808 ≤ y → y ≤ 9223372036854775807 → -9223372036854775808 ≤ y - y / 1048576 % 2 * 1048576 ∧ y - y / 1048576 % 2 * 1048576 ≤ 9223372036854775807 := by intro y y1 y2; omega
  have q3 : ∀ y : Int, -9223372036854775808 ≤ y → y ≤ 9223372036854775807 → (y + 18446744073709551616) / 2097152 % 1024 = y / 2097152 % 1024 ∧ -9223372036854775808 ≤ y - y / 2097152 % 1024 * 2097152 ∧ 0 ≤ y / 2097152 % 1024 * 2097152 := by intro y y1 y2; omega
  have r3 : ∀ y : Int, -9223372036854775808 ≤ y → y ≤ 9223372036854775807 → -9223372036854775808 ≤ y - y / 2097152 % 1024 * 2097152 ∧ y - y / 2097152 % 1024 * 2097152 ≤ 9223372036854775807 := by intro y y1 y2; omega
  have q4 : ∀ y : Int, -9223372036854775808 ≤ y → y ≤ 9223372036854775807 → (y + 18446744073709551616) / 2147483648 % 2 = y / 2147483648 % 2 ∧ -9223372036854775808 ≤ y - y / 2147483648 % 2 * 2147483648 ∧ 0 ≤ y / 2147483648 % 2 * 2147483648 := by intro y y1 y2; omega
  have r4 : ∀ y : Int, -9223372036854775808 ≤ y → y ≤ 9223372036854775807 → -9223372036854775808 ≤ y - y / 2147483648 % 2 * 2147483648 ∧ y - y / 2147483648 % 2 * 2147483648 ≤ 9223372036854775807 := by intro y y1 y2; omega
  have s0 : clrS z ⟨0, 0, 7, 5⟩ = z - z / 128 % 32 * 128 := clrS_is (p := 0) (f := 0) (pos := 7) (wd := 5) rfl rfl h1 h2 (by decide) q0
  obtain ⟨y1, g1⟩ : ∃ y, y = z - z / 128 % 32 * 128 := ⟨_, rfl⟩
  rw [← g1] at s0
  have c1 : -9223372036854775808 ≤ y1 ∧ y1 ≤ 9223372036854775807 := by rw [g1]; exact r0 _ h1 h2
  have s1 : clrS y1 ⟨3, 12, 12, 8⟩ = y1 - y1 / 4096 % 256 * 4096 := clrS_is (p := 3) (f := 12) (pos := 12) (wd := 8) rfl rfl c1.1 c1.2 (by decide) q1
  obtain ⟨y2, g2⟩ : ∃ y, y = y1 - y1 / 4096 % 256 * 4096 := ⟨_, rfl⟩
  rw [← g2] at s1
  have c2 : -9223372036854775808 ≤ y2 ∧ y2 ≤ 9223372036854775807 := by rw [g2]; exact r1 _ c1.1 c1.2
  have f1 : y1 / 4096 % 256 = z / 4096 % 256 := by rw [g1, k0_1]
  have s2 : clrS y2 ⟨3, 11, 20, 1⟩ = y2 - y2 / 1048576 % 2 * 1048576 := clrS_is (p := 3) (f := 11) (pos := 20) (wd := 1) rfl rfl c2.1 c2.2 (by decide) q2
  obtain ⟨y3, g3⟩ : ∃ y, y = y2 - y2 / 1048576 % 2 * 1048576 := ⟨_, rfl⟩
  rw [← g3] at s2
  have c3 : -9223372036854775808 ≤ y3 ∧ y3 ≤ 9223372036854775807 := by rw [g3]; exact r2 _ c2.1 c2.2
  have f2 : y2 / 1048576 % 2 = z / 1048576 % 2 := by rw [g2, k1_2, g1, k0_2]
  have s3 : clrS y3 ⟨3, 1, 21, 10⟩ = y3 - y3 / 2097152 % 1024 * 2097152 := clrS_is (p := 3) (f := 1) (pos := 21) (wd := 10) rfl rfl c3.1 c3.2 (by decide) q3
  obtain ⟨y4, g4⟩ : ∃ y, y = y3 - y3 / 2097152 % 1024 * 2097152 := ⟨_, rfl⟩
  rw [← g4] at s3
  have c4 : -9223372036854775808 ≤ y4 ∧ y4 ≤ 9223372036854775807 := by rw [g4]; exact r3 _ c3.1 c3.2
  have f3 : y3 / 2097152 % 1024 = z / 2097152 % 1024 := by rw [g3, k2_3, g2, k1_3, g1, k0_3]
  have s4 : clrS y4 ⟨3, 20, 31, 1⟩ = y4 - y4 / 2147483648 % 2 * 2147483648 := clrS_is (p := 3) (f := 20) (pos := 31) (wd := 1) rfl rfl c4.1 c4.2 (by decide) q4
  obtain ⟨y5, g5⟩ : ∃ y, y = y4 - y4 / 2147483648 % 2 * 2147483648 := ⟨_, rfl⟩
  rw [← g5] at s4
  have c5 : -9223372036854775808 ≤ y5 ∧ y5 ≤ 9223372036854775807 := by rw [g5]; exact r4 _ c4.1 c4.2
  have f4 : y4 / 2147483648 % 2 = z / 2147483648 % 2 := by rw [g4, k3_4, g3, k2_4, g2, k1_4, g1, k0_4]
  have sz : clrS y5 ⟨0, 0, 0, 0⟩ = y5 := clrS_none c5.1 c5.2
  simp only [List.take_succ_cons, List.take_zero, List.foldl_cons, List.foldl_nil]
  rw [s0, s1, s2, s3, s4, sz]
  rw [g5, f4, g4, f3, g3, f2, g2, f1, g1]
theorem clrB_F (z : Int) (h1 : -9223372036854775808 ≤ z) (h2 : z ≤ 9223372036854775807) : bits .andNot .i64 z (openK (six (pcs 70)) 6) = z - z / 1048576 % 256 * 1048576 := by
  rw [clr_open z _ h1 h2, six_F]
  have q0 : ∀ y : Int, -9223372036854775808 ≤ y → y ≤ 9223372036854775807 → (y + 18446744073709551616) / 1048576 % 256 = y / 1048576 % 256 ∧ -9223372036854775808 ≤ y - y / 1048576 % 256 * 1048576 ∧ 0 ≤ y / 1048576 % 256 * 1048576 := by intro y y1 y2; omega
  have r0 : ∀ y : Int, -9223372036854775808 ≤ y → y ≤ 9223372036854775807 → -9223372036854775808 ≤ y - y / 1048576 % 256 * 1048576 ∧ y - y / 1048576 % 256 * 1048576 ≤ 9223372036854775807 := by intro y y1 y2; omega
  have s0 : clrS z ⟨3, 0, 20, 8⟩ = z - z / 1048576 % 256 * 1048576 := clrS_is (p := 3) (f := 0) (pos := 20) (wd := 8) rfl rfl h1 h2 (by decide) q0
  obtain ⟨y1, g1⟩ : ∃ y, y = z - z / 1048576 % 256 * 1048576 := ⟨_, rfl⟩
  rw [← g1] at s0
  have c1 : -9223372036854775808 ≤ y1 ∧ y1 ≤ 9223372036854775807 := by rw [g1]; exact r0 _ h1 h2
  have sz : clrS y1 ⟨0, 0, 0, 0⟩ = y1 := clrS_none c1.1 c1.2
  simp only [List.take_succ_cons, List.take_zero, List.foldl_cons, List.foldl_nil]
  rw [s0, sz, sz, sz, sz, sz]
  rw [g1]
theorem clrB_Z (z : Int) (h1 : -9223372036854775808 ≤ z) (h2 : z ≤ 9223372036854775807) : bits .andNot .i64 z (openK (six (pcs 90)) 6) = z := by
  rw [clr_open z _ h1 h2, six_Z]
  have sz : clrS z ⟨0, 0, 0, 0⟩ = z := clrS_none h1 h2
  simp only [List.take_succ_cons, List.take_zero, List.foldl_cons, List.foldl_nil]
  rw [sz, sz, sz, sz, sz, sz]
theorem clrB_L (z : Int) (h1 : -9223372036854775808 ≤ z) (h2 : z ≤ 9223372036854775807) : bits .andNot .i64 z (openK (six (pcs 76)) 6) = z - z / 128 % 32 * 128 - z / 32768 % 32 * 32768 - z / 33554432 % 4 * 33554432 := by
  rw [clr_open z _ h1 h2, six_L]
  have k0_1 : ∀ y : Int, (y - y / 128 % 32 * 128) / 32768 % 32 = y / 32768 % 32 := by intro y; omega
  have k0_2 : ∀ y : Int, (y - y / 128 % 32 * 128) / 33554432 % 4 = y / 33554432 % 4 := by intro y; omega
  have k1_2 : ∀ y : Int, (y - y / 32768 % 32 * 32768) / 33554432 % 4 = y / 33554432 % 4 := by intro y; omega
  have q0 : ∀ y : Int, -9223372036854775808 ≤ y → y ≤ 9223372036854775807 → (y + 18446744073709551616) / 128 % 32 = y / 128 % 32 ∧ -9223372036854775808 ≤ y - y / 128 % 32 * 128 ∧ 0 ≤ y / 128 % 32 * 128 := by intro y y1 y2; omega
  have r0 : ∀ y : Int, -9223372036854775808 ≤ y → y ≤ 9223372036854775807 → -9223372036854775808 ≤ y - y / 128 % 32 * 128 ∧ y - y / 128 % 32 * 128 ≤ 9223372036854775807 := by intro y y1 y2; omega
  have q1 : ∀ y : Int, -9223372036854775808 ≤ y → y ≤ 9223372036854775807 → (y + 18446744073709551616) / 32768 % 32 = y / 32768 % 32 ∧ -9223372036854775808 ≤ y - y / 32768 % 32 * 32768 ∧ 0 ≤ y / 32768 % 32 * 32768 := by intro y y1 y2; omega
  have r1 : ∀ y : Int, -9223372036854775808 ≤ y → y ≤ 9223372036854775807 → -9223372036854775808 ≤ y - y / 32768 % 32 * 32768 ∧ y - y / 32768 % 32 * 32768 ≤ 9223372036854775807 := by intro y y1 y2; omega
  have q2 : ∀ y : Int, -9223372036854775808 ≤ y → y ≤ 9223372036854775807 → (y + 18446744073709551616) / 33554432 % 4 = y / 33554432 % 4 ∧ -9223372036854775808 ≤ y - y / 33554432 % 4 * 33554432 ∧ 0 ≤ y / 33554432 % 4 * 33554432 := by intro y y1 y2; omega
  have r2 : ∀ y : Int, -9223372036854775808 ≤ y → y ≤ 9223372036854775807 → -9223372036854775808 ≤ y - y / 33554432 % 4 * 33554432 ∧ y - y / 33554432 % 4 * 33554432 ≤ 9223372036854775807 := by intro y y1 y2; omega
  have s0 : clrS z ⟨0, 0, 7, 5⟩ = z - z / 128 % 32 * 128 := clrS_is (p := 0) (f := 0) (pos := 7) (wd := 5) rfl rfl h1 h2 (by decide) q0
  obtain ⟨y1, g1⟩ : ∃ y, y = z - z / 128 % 32 * 128 := ⟨_, rfl⟩
  rw [← g1] at s0
  have c1 : -9223372036854775808 ≤ y1 ∧ y1 ≤ 9223372036854775807 := by rw [g1]; exact r0 _ h1 h2
  have s1 : clrS y1 ⟨1, 0, 15, 5⟩ = y1 - y1 / 32768 % 32 * 32768 := clrS_is (p := 1) (f := 0) (pos := 15) (wd := 5) rfl rfl c1.1 c1.2 (by decide) q1
  obtain ⟨y2, g2⟩ : ∃ y, y = y1 - y1 / 32768 % 32 * 32768 := ⟨_, rfl⟩
  rw [← g2] at s1
  have c2 : -9223372036854775808 ≤ y2 ∧ y2 ≤ 9223372036854775807 := by rw [g2]; exact r1 _ c1.1 c1.2
  have f1 : y1 / 32768 % 32 = z / 32768 % 32 := by rw [g1, k0_1]
  have s2 : clrS y2 ⟨3, 0, 25, 2⟩ = y2 - y2 / 33554432 % 4 * 33554432 := clrS_is (p := 3) (f := 0) (pos := 25) (wd := 2) rfl rfl c2.1 c2.2 (by decide) q2
  obtain ⟨y3, g3⟩ : ∃ y, y = y2 - y2 / 33554432 % 4 * 33554432 := ⟨_, rfl⟩
  rw [← g3] at s2
  have c3 : -9223372036854775808 ≤ y3 ∧ y3 ≤ 9223372036854775807 := by rw [g3]; exact r2 _ c2.1 c2.2
  have f2 : y2 / 33554432 % 4 = z / 33554432 % 4 := by rw [g2, k1_2, g1, k0_2]
  have sz : clrS y3 ⟨0, 0, 0, 0⟩ = y3 := clrS_none c3.1 c3.2
  simp only [List.take_succ_cons, List.take_zero, List.foldl_cons, List.foldl_nil]
  rw [s0, s1, s2, sz, sz, sz]
  rw [g3, f2, g2, f1, g1]
theorem clrB_A (z : Int) (h1 : -9223372036854775808 ≤ z) (h2 : z ≤ 9223372036854775807) : bits .andNot .i64 z (openK (six (pcs 65)) 6) = z - z / 128 % 32 * 128 - z / 32768 % 32 * 32768 - z / 1048576 % 32 * 1048576 - z / 33554432 % 4 * 33554432 := by
  rw [clr_open z _ h1 h2, six_A]
  have k0_1 : ∀ y : Int, (y - y / 128 % 32 * 128) / 32768 % 32 = y / 32768 % 32 := by intro y; omega
  have k0_2 : ∀ y : Int, (y - y / 128 % 32 * 128) / 1048576 % 32 = y / 1048576 % 32 := by intro y; omega
  have k0_3 : ∀ y : Int, (y - y / 128 % 32 * 128) / 33554432 % 4 = y / 33554432 % 4 := by intro y; omega
  have k1_2 : ∀ y : Int, (y - y / 32768 % 32 * 32768) / 1048576 % 32 = y / 1048576 % 32 := by intro y; omega
  have k1_3 : ∀ y : Int, (y - y / 32768 % 32 * 32768) / 33554432 % 4 = y / 33554432 % 4 := by intro y; omega
  have k2_3 : ∀ y : Int, (y - y / 1048576 % 32 * 1048576) / 33554432 % 4 = y / 33554432 % 4 := by intro y; omega
  have q0 : ∀ y : Int, -9223372036854775808 ≤ y → y ≤ 9223372036854775807 → (y + 18446744073709551616) / 128 % 32 = y / 128 % 32 ∧ -9223372036854775808 ≤ y - y / 128 % 32 * 128 ∧ 0 ≤ y / 128 % 32 * 128 := by intro y y1 y2; omega
  have r0 : ∀ y : Int, -9223372036854775808 ≤ y → y ≤ 9223372036854775807 → -9223372036854775808 ≤ y - y / 128 % 32 * 128 ∧ y - y / 128 % 32 * 128 ≤ 9223372036854775807 := by intro y y1 y2; omega
  have q1 : ∀ y : Int, -9223372036854775808 ≤ y → y ≤ 9223372036854775807 → (y + 18446744073709551616) / 32768 % 32 = y / 32768 % 32 ∧ -9223372036854775808 ≤ y - y / 32768 % 32 * 32768 ∧ 0 ≤ y / 32768 % 32 * 32768 := by intro y y1 y2; omega
  have r1 : ∀ y : Int, -9223372036854775808 ≤ y → y ≤ 9223372036854775807 → -9223372036854775808 ≤ y - y / 32768 % 32 * 32768 ∧ y - y / 32768 % 32 * 32768 ≤ 9223372036854775807 := by intro y y1 y2; omega
  have q2 : ∀ y : Int, -9223372036854775808 ≤ y → y ≤ 9223372036854775807 → (y + 18446744073709551616) / 1048576 % 32 = y / 1048576 % 32 ∧ -9223372036854775808 ≤ y - y / 1048576 % 32 * 1048576 ∧ 0 ≤ y / 1048576 % 32 * 1048576 := by intro y y1 y2; omega
  have r2 : ∀ y : Int, -9223372036854775808 ≤ y → y ≤ 9223372036854775807 → -9223372036854775808 ≤ y - y / 1048576 % 32 * 1048576 ∧ y - y / 1048576 % 32 * 1048576 ≤ 9223372036854775807 := by intro y y1 y2; omega
  have q3 : ∀ y : Int, -9223372036854775808 ≤ y → y ≤ 9223372036854775807 → (y + 18446744073709551616) / 33554432 % 4 = y / 33554432 % 4 ∧ -9223372036854775808 ≤ y - y / 33554432 % 4 * 33554432 ∧ 0 ≤ y / 33554432 % 4 * 33554432 := by intro y y1 y2; omega
  have r3 : ∀ y : Int, -9223372036854775808 ≤ y → y ≤ 9223372036854775807 → -9223372036854775808 ≤ y - y / 33554432 % 4 * 33554432 ∧ y - y / 33554432 % 4 * 33554432 ≤ 9223372036854775807 := by intro y y1 y2; omega
  have s0 : clrS z ⟨0, 0, 7, 5⟩ = z - z / 128 % 32 * 128 := clrS_is (p := 0) (f := 0) (pos := 7) (wd := 5) rfl rfl h1 h2 (by decide) q0
  obtain ⟨y1, g1⟩ : ∃ y, y = z - z / 128 % 32 * 128 := ⟨_, rfl⟩
  rw [← g1] at s0
  have c1 : -9223372036854775808 ≤ y1 ∧ y1 ≤ 9223372036854775807 := by rw [g1]; exact r0 _ h1 h2
  have s1 : clrS y1 ⟨1, 0, 15, 5⟩ = y1 - y1 / 32768 % 32 * 32768 := clrS_is (p := 1) (f := 0) (pos := 15) (wd := 5) rfl rfl c1.1 c1.2 (by decide) q1
  obtain ⟨y2, g2⟩ : ∃ y, y = y1 - y1 / 32768 % 32 * 32768 := ⟨_, rfl⟩
  rw [← g2] at s1
  have c2 : -9223372036854775808 ≤ y2 ∧ y2 ≤ 9223372036854775807 := by rw [g2]; exact r1 _ c1.1 c1.2
  have f1 : y1 / 32768 % 32 = z / 32768 % 32 := by rw [g1, k0_1]
  have s2 : clrS y2 ⟨2, 0, 20, 5⟩ = y2 - y2 / 1048576 % 32 * 1048576 := clrS_is (p := 2) (f := 0) (pos := 20) (wd := 5) rfl rfl c2.1 c2.2 (by decide) q2
  obtain ⟨y3, g3⟩ : ∃ y, y = y2 - y2 / 1048576 % 32 * 1048576 := ⟨_, rfl⟩
  rw [← g3] at s2
  have c3 : -9223372036854775808 ≤ y3 ∧ y3 ≤ 9223372036854775807 := by rw [g3]; exact r2 _ c2.1 c2.2
  have f2 : y2 / 1048576 % 32 = z / 1048576 % 32 := by rw [g2, k1_2, g1, k0_2]
  have s3 : clrS y3 ⟨3, 0, 25, 2⟩ = y3 - y3 / 33554432 % 4 * 33554432 := clrS_is (p := 3) (f := 0) (pos := 25) (wd := 2) rfl rfl c3.1 c3.2 (by decide) q3
  obtain ⟨y4, g4⟩ : ∃ y, y = y3 - y3 / 33554432 % 4 * 33554432 := ⟨_, rfl⟩
  rw [← g4] at s3
  have c4 : -9223372036854775808 ≤ y4 ∧ y4 ≤ 9223372036854775807 := by rw [g4]; exact r3 _ c3.1 c3.2
  have f3 : y3 / 33554432 % 4 = z / 33554432 % 4 := by rw [g3, k2_3, g2, k1_3, g1, k0_3]
  have sz : clrS y4 ⟨0, 0, 0, 0⟩ = y4 := clrS_none c4.1 c4.2
  simp only [List.take_succ_cons, List.take_zero, List.foldl_cons, List.foldl_nil]
  rw [s0, s1, s2, s3, sz, sz]
  rw [g4, f3, g3, f2, g2, f1, g1]
theorem liftS_0 (z va vb vc vd f a w : Int) : liftS z ⟨va, vb, vc, vd⟩ ⟨0, f, a, w⟩ = ⟨bits .or .i64 va (liftT z ⟨0, f, a, w⟩), vb, vc, vd⟩ := rfl
theorem liftS_1 (z va vb vc vd f a w : Int) : liftS z ⟨va, vb, vc, vd⟩ ⟨1, f, a, w⟩ = ⟨va, bits .or .i64 vb (liftT z ⟨1, f, a, w⟩), vc, vd⟩ := rfl
theorem liftS_2 (z va vb vc vd f a w : Int) : liftS z ⟨va, vb, vc, vd⟩ ⟨2, f, a, w⟩ = ⟨va, vb, bits .or .i64 vc (liftT z ⟨2, f, a, w⟩), vd⟩ := rfl
theorem liftS_3 (z va vb vc vd f a w : Int) : liftS z ⟨va, vb, vc, vd⟩ ⟨3, f, a, w⟩ = ⟨va, vb, vc, bits .or .i64 vd (liftT z ⟨3, f, a, w⟩)⟩ := rfl
theorem liftB_R (z : Int) : liftK z (six (pcs 82)) 6 = ⟨0 + z / 128 % 32 * 1, 0 + z / 32768 % 32 * 1, 0 + z / 1048576 % 32 * 1, 0⟩ := by
  rw [six_R]
  unfold liftK
  simp only [List.take_succ_cons, List.take_zero, List.foldl_cons, List.foldl_nil]
  have t0 : liftS z ⟨0, 0, 0, 0⟩ ⟨0, 0, 7, 5⟩ = ⟨0 + z / 128 % 32 * 1, 0, 0, 0⟩ := by
    rw [liftS_0, show bits .or .i64 (0) (liftT z ⟨0, 0, 7, 5⟩) = 0 + z / 128 % 32 * 1 from or_lift (p := 0) (f := 0) (pos := 7) (wd := 5) rfl rfl rfl (by omega) (by intro t t1 t2; omega) (by omega) (by omega) (by omega)]
  have t1 : liftS z ⟨0 + z / 128 % 32 * 1, 0, 0, 0⟩ ⟨1, 0, 15, 5⟩ = ⟨0 + z / 128 % 32 * 1, 0 + z / 32768 % 32 * 1, 0, 0⟩ := by
    clear t0; rw [liftS_1, show bits .or .i64 (0) (liftT z ⟨1, 0, 15, 5⟩) = 0 + z / 32768 % 32 * 1 from or_lift (p := 1) (f := 0) (pos := 15) (wd := 5) rfl rfl rfl (by omega) (by intro t t1 t2; omega) (by omega) (by omega) (by omega)]
  have t2 : liftS z ⟨0 + z / 128 % 32 * 1, 0 + z / 32768 % 32 * 1, 0, 0⟩ ⟨2, 0, 20, 5⟩ = ⟨0 + z / 128 % 32 * 1, 0 + z / 32768 % 32 * 1, 0 + z / 1048576 % 32 * 1, 0⟩ := by
    clear t0 t1; rw [liftS_2, show bits .or .i64 (0) (liftT z ⟨2, 0, 20, 5⟩) = 0 + z / 1048576 % 32 * 1 from or_lift (p := 2) (f := 0) (pos := 20) (wd := 5) rfl rfl rfl (by omega) (by intro t t1 t2; omega) (by omega) (by omega) (by omega)]
  have tz : liftS z ⟨0 + z / 128 % 32 * 1, 0 + z / 32768 % 32 * 1, 0 + z / 1048576 % 32 * 1, 0⟩ ⟨0, 0, 0, 0⟩ = ⟨0 + z / 128 % 32 * 1, 0 + z / 32768 % 32 * 1, 0 + z / 1048576 % 32 * 1, 0⟩ := by
    clear t0 t1 t2; rw [liftS_0, or_lift_none (by omega) (by omega)]
  rw [t0, t1, t2, tz, tz, tz]
theorem liftB_I (z : Int) : liftK z (six (pcs 73)) 6 = ⟨0 + z / 128 % 32 * 1, 0 + z / 32768 % 32 * 1, 0, 0 + z / 1048576 % 4096 * 1⟩ := by
  rw [six_I]
  unfold liftK
  simp only [List.take_succ_cons, List.take_zero, List.foldl_cons, List.foldl_nil]
  have t0 : liftS z ⟨0, 0, 0, 0⟩ ⟨0, 0, 7, 5⟩ = ⟨0 + z / 128 % 32 * 1, 0, 0, 0⟩ := by
    rw [liftS_0, show bits .or .i64 (0) (liftT z ⟨0, 0, 7, 5⟩) = 0 + z / 128 % 32 * 1 from or_lift (p := 0) (f := 0) (pos := 7) (wd := 5) rfl rfl rfl (by omega) (by intro t t1 t2; omega) (by omega) (by omega) (by omega)]
  have t1 : liftS z ⟨0 + z / 128 % 32 * 1, 0, 0, 0⟩ ⟨1, 0, 15, 5⟩ = ⟨0 + z / 128 % 32 * 1, 0 + z / 32768 % 32 * 1, 0, 0⟩ := by
    clear t0; rw [liftS_1, show bits .or .i64 (0) (liftT z ⟨1, 0, 15, 5⟩) = 0 + z / 32768 % 32 * 1 from or_lift (p := 1) (f := 0) (pos := 15) (wd := 5) rfl rfl rfl (by omega) (by intro t t1 t2; omega) (by omega) (by omega) (by omega)]
  have t2 : liftS z ⟨0 + z / 128 % 32 * 1, 0 + z / 32768 % 32 * 1, 0, 0⟩ ⟨3, 0, 20, 12⟩ = ⟨0 + z / 128 % 32 * 1, 0 + z / 32768 % 32 * 1, 0, 0 + z / 1048576 % 4096 * 1⟩ := by
    clear t0 t1; rw [liftS_3, show bits .or .i64 (0) (liftT z ⟨3, 0, 20, 12⟩) = 0 + z / 1048576 % 4096 * 1 from or_lift (p := 3) (f := 0) (pos := 20) (wd := 12) rfl rfl rfl (by omega) (by intro t t1 t2; omega) (by omega) (by omega) (by omega)]
  have tz : liftS z ⟨0 + z / 128 % 32 * 1, 0 + z / 32768 % 32 * 1, 0, 0 + z / 1048576 % 4096 * 1⟩ ⟨0, 0, 0, 0⟩ = ⟨0 + z / 128 % 32 * 1, 0 + z / 32768 % 32 * 1, 0, 0 + z / 1048576 % 4096 * 1⟩ := by
    clear t0 t1 t2; rw [liftS_0, or_lift_none (by omega) (by omega)]
  rw [t0, t1, t2, tz, tz, tz]
theorem liftB_C (z : Int) : liftK z (six (pcs 67)) 6 = ⟨0 + z / 128 % 32 * 1, 0 + z / 32768 % 32 * 1, 0, 0 + z / 1048576 % 4096 * 1⟩ := by
  rw [six_C]
  unfold liftK
  simp only [List.take_succ_cons, List.take_zero, List.foldl_cons, List.foldl_nil]
  have t0 : liftS z ⟨0, 0, 0, 0⟩ ⟨0, 0, 7, 5⟩ = ⟨0 + z / 128 % 32 * 1, 0, 0, 0⟩ := by
    rw [liftS_0, show bits .or .i64 (0) (liftT z ⟨0, 0, 7, 5⟩) = 0 + z / 128 % 32 * 1 from or_lift (p := 0) (f := 0) (pos := 7) (wd := 5) rfl rfl rfl (by omega) (by intro t t1 t2; omega) (by omega) (by omega) (by omega)]
  have t1 : liftS z ⟨0 + z / 128 % 32 * 1, 0, 0, 0⟩ ⟨1, 0, 15, 5⟩ = ⟨0 + z / 128 % 32 * 1, 0 + z / 32768 % 32 * 1, 0, 0⟩ := by
    clear t0; rw [liftS_1, show bits .or .i64 (0) (liftT z ⟨1, 0, 15, 5⟩) = 0 + z / 32768 % 32 * 1 from or_lift (p := 1) (f := 0) (pos := 15) (wd := 5) rfl rfl rfl (by omega) (by intro t t1 t2; omega) (by omega) (by omega) (by omega)]
  have t2 : liftS z ⟨0 + z / 128 % 32 * 1, 0 + z / 32768 % 32 * 1, 0, 0⟩ ⟨3, 0, 20, 12⟩ = ⟨0 + z / 128 % 32 * 1, 0 + z / 32768 % 32 * 1, 0, 0 + z / 1048576 % 4096 * 1⟩ := by
    clear t0 t1; rw [liftS_3, show bits .or .i64 (0) (liftT z ⟨3, 0, 20, 12⟩) = 0 + z / 1048576 % 4096 * 1 from or_lift (p := 3) (f := 0) (pos := 20) (wd := 12) rfl rfl rfl (by omega) (by intro t t1 t2; omega) (by omega) (by omega) (by omega)]
  have tz : liftS z ⟨0 + z / 128 % 32 * 1, 0 + z / 32768 % 32 * 1, 0, 0 + z / 1048576 % 4096 * 1⟩ ⟨0, 0, 0, 0⟩ = ⟨0 + z / 128 % 32 * 1, 0 + z / 32768 % 32 * 1, 0, 0 + z / 1048576 % 4096 * 1⟩ := by
    clear t0 t1 t2; rw [liftS_0, or_lift_none (by omega) (by omega)]
  rw [t0, t1, t2, tz, tz, tz]
theorem liftB_H (z : Int) : liftK z (six (pcs 72)) 6 = ⟨0 + z / 128 % 32 * 1, 0 + z / 32768 % 32 * 1, 0, 0 + z / 1048576 % 32 * 1⟩ := by
  rw [six_H]
  unfold liftK
  simp only [List.take_succ_cons, List.take_zero, List.foldl_cons, List.foldl_nil]
  have t0 : liftS z ⟨0, 0, 0, 0⟩ ⟨0, 0, 7, 5⟩ = ⟨0 + z / 128 % 32 * 1, 0, 0, 0⟩ := by
    rw [liftS_0, show bits .or .i64 (0) (liftT z ⟨0, 0, 7, 5⟩) = 0 + z / 128 % 32 * 1 from or_lift (p := 0) (f := 0) (pos := 7) (wd := 5) rfl rfl rfl (by omega) (by intro t t1 t2; omega) (by omega) (by omega) (by omega)]
  have t1 : liftS z ⟨0 + z / 128 % 32 * 1, 0, 0, 0⟩ ⟨1, 0, 15, 5⟩ = ⟨0 + z / 128 % 32 * 1, 0 + z / 32768 % 32 * 1, 0, 0⟩ := by
    clear t0; rw [liftS_1, show bits .or .i64 (0) (liftT z ⟨1, 0, 15, 5⟩) = 0 + z / 32768 % 32 * 1 from or_lift (p := 1) (f := 0) (pos := 15) (wd := 5) rfl rfl rfl (by omega) (by intro t t1 t2; omega) (by omega) (by omega) (by omega)]
  have t2 : liftS z ⟨0 + z / 128 % 32 * 1, 0 + z / 32768 % 32 * 1, 0, 0⟩ ⟨3, 0, 20, 5⟩ = ⟨0 + z / 128 % 32 * 1, 0 + z / 32768 % 32 * 1, 0, 0 + z / 1048576 % 32 * 1⟩ := by
    clear t0 t1; rw [liftS_3, show bits .or .i64 (0) (liftT z ⟨3, 0, 20, 5⟩) = 0 + z / 1048576 % 32 * 1 from or_lift (p := 3) (f := 0) (pos := 20) (wd := 5) rfl rfl rfl (by omega) (by intro t t1 t2; omega) (by omega) (by omega) (by omega)]
  have tz : liftS z ⟨0 + z / 128 % 32 * 1, 0 + z / 32768 % 32 * 1, 0, 0 + z / 1048576 % 32 * 1⟩ ⟨0, 0, 0, 0⟩ = ⟨0 + z / 128 % 32 * 1, 0 + z / 32768 % 32 * 1, 0, 0 + z / 1048576 % 32 * 1⟩ := by
    clear t0 t1 t2; rw [liftS_0, or_lift_none (by omega) (by omega)]
  rw [t0, t1, t2, tz, tz, tz]
theorem liftB_S (z : Int) : liftK z (six (pcs 83)) 6 = ⟨0, 0 + z / 32768 % 32 * 1, 0 + z / 1048576 % 32 * 1, 0 + z / 128 % 32 * 1 + z / 33554432 % 128 * 32⟩ := by
  rw [six_S]
  unfold liftK
  simp only [List.take_succ_cons, List.take_zero, List.foldl_cons, List.foldl_nil]
  have t0 : liftS z ⟨0, 0, 0, 0⟩ ⟨1, 0, 15, 5⟩ = ⟨0, 0 + z / 32768 % 32 * 1, 0, 0⟩ := by
    rw [liftS_1, show bits .or .i64 (0) (liftT z ⟨1, 0, 15, 5⟩) = 0 + z / 32768 % 32 * 1 from or_lift (p := 1) (f := 0) (pos := 15) (wd := 5) rfl rfl rfl (by omega) (by intro t t1 t2; omega) (by omega) (by omega) (by omega)]
  have t1 : liftS z ⟨0, 0 + z / 32768 % 32 * 1, 0, 0⟩ ⟨2, 0, 20, 5⟩ = ⟨0, 0 + z / 32768 % 32 * 1, 0 + z / 1048576 % 32 * 1, 0⟩ := by
    clear t0; rw [liftS_2, show bits .or .i64 (0) (liftT z ⟨2, 0, 20, 5⟩) = 0 + z / 1048576 % 32 * 1 from or_lift (p := 2) (f := 0) (pos := 20) (wd := 5) rfl rfl rfl (by omega) (by intro t t1 t2; omega) (by omega) (by omega) (by omega)]
  have t2 : liftS z ⟨0, 0 + z / 32768 % 32 * 1, 0 + z / 1048576 % 32 * 1, 0⟩ ⟨3, 0, 7, 5⟩ = ⟨0, 0 + z / 32768 % 32 * 1, 0 + z / 1048576 % 32 * 1, 0 + z / 128 % 32 * 1⟩ := by
    clear t0 t1; rw [liftS_3, show bits .or .i64 (0) (liftT z ⟨3, 0, 7, 5⟩) = 0 + z / 128 % 32 * 1 from or_lift (p := 3) (f := 0) (pos := 7) (wd := 5) rfl rfl rfl (by omega) (by intro t t1 t2; omega) (by omega) (by omega) (by omega)]
  have u3 : ∀ x0 : Int, 0 ≤ x0 → x0 < 32 → 0 ≤ 0 + x0 * 1 ∧ 0 + x0 * 1 < 4294967296 ∧ (0 + x0 * 1) / 32 % 128 = 0 := by intros; omega
  have t3 : liftS z ⟨0, 0 + z / 32768 % 32 * 1, 0 + z / 1048576 % 32 * 1, 0 + z / 128 % 32 * 1⟩ ⟨3, 5, 25, 7⟩ = ⟨0, 0 + z / 32768 % 32 * 1, 0 + z / 1048576 % 32 * 1, 0 + z / 128 % 32 * 1 + z / 33554432 % 128 * 32⟩ := by
    clear t0 t1 t2; rw [liftS_3, show bits .or .i64 (0 + z / 128 % 32 * 1) (liftT z ⟨3, 5, 25, 7⟩) = 0 + z / 128 % 32 * 1 + z / 33554432 % 128 * 32 from or_lift (p := 3) (f := 5) (pos := 25) (wd := 7) rfl rfl rfl (by omega) (by intro t t1 t2; omega) (u3 (z / 128 % 32) (by omega) (by omega)).1 (u3 (z / 128 % 32) (by omega) (by omega)).2.1 (u3 (z / 128 % 32) (by omega) (by omega)).2.2]
  have tz : liftS z ⟨0, 0 + z / 32768 % 32 * 1, 0 + z / 1048576 % 32 * 1, 0 + z / 128 % 32 * 1 + z / 33554432 % 128 * 32⟩ ⟨0, 0, 0, 0⟩ = ⟨0, 0 + z / 32768 % 32 * 1, 0 + z / 1048576 % 32 * 1, 0 + z / 128 % 32 * 1 + z / 33554432 % 128 * 32⟩ := by
    clear t0 t1 t2 t3; rw [liftS_0, or_lift_none (by omega) (by omega)]
  rw [t0, t1, t2, t3, tz, tz]
theorem liftB_B (z : Int) : liftK z (six (pcs 66)) 6 = ⟨0, 0 + z / 32768 % 32 * 1, 0 + z / 1048576 % 32 * 1, 0 + z / 128 % 2 * 2048 + z / 256 % 16 * 2 + z / 33554432 % 64 * 32 + z / 2147483648 % 2 * 4096⟩ := by
  rw [six_B]
  unfold liftK
  simp only [List.take_succ_cons, List.take_zero, List.foldl_cons, List.foldl_nil]
  have t0 : liftS z ⟨0, 0, 0, 0⟩ ⟨1, 0, 15, 5⟩ = ⟨0, 0 + z / 32768 % 32 * 1, 0, 0⟩ := by
    rw [liftS_1, show bits .or .i64 (0) (liftT z ⟨1, 0, 15, 5⟩) = 0 + z / 32768 % 32 * 1 from or_lift (p := 1) (f := 0) (pos := 15) (wd := 5) rfl rfl rfl (by omega) (by intro t t1 t2; omega) (by omega) (by omega) (by omega)]
  have t1 : liftS z ⟨0, 0 + z / 32768 % 32 * 1, 0, 0⟩ ⟨2, 0, 20, 5⟩ = ⟨0, 0 + z / 32768 % 32 * 1, 0 + z / 1048576 % 32 * 1, 0⟩ := by
    clear t0; rw [liftS_2, show bits .or .i64 (0) (liftT z ⟨2, 0, 20, 5⟩) = 0 + z / 1048576 % 32 * 1 from or_lift (p := 2) (f := 0) (pos := 20) (wd := 5) rfl rfl rfl (by omega) (by intro t t1 t2; omega) (by omega) (by omega) (by omega)]
  have t2 : liftS z ⟨0, 0 + z / 32768 % 32 * 1, 0 + z / 1048576 % 32 * 1, 0⟩ ⟨3, 11, 7, 1⟩ = ⟨0, 0 + z / 32768 % 32 * 1, 0 + z / 1048576 % 32 * 1, 0 + z / 128 % 2 * 2048⟩ := by
    clear t0 t1; rw [liftS_3, show bits .or .i64 (0) (liftT z ⟨3, 11, 7, 1⟩) = 0 + z / 128 % 2 * 2048 from or_lift (p := 3) (f := 11) (pos := 7) (wd := 1) rfl rfl rfl (by omega) (by intro t t1 t2; omega) (by omega) (by omega) (by omega)]
  have u3 : ∀ x0 : Int, 0 ≤ x0 → x0 < 2 → 0 ≤ 0 + x0 * 2048 ∧ 0 + x0 * 2048 < 4294967296 ∧ (0 + x0 * 2048) / 2 % 16 = 0 := by intros; omega
  have t3 : liftS z ⟨0, 0 + z / 32768 % 32 * 1, 0 + z / 1048576 % 32 * 1, 0 + z / 128 % 2 * 2048⟩ ⟨3, 1, 8, 4⟩ = ⟨0, 0 + z / 32768 % 32 * 1, 0 + z / 1048576 % 32 * 1, 0 + z / 128 % 2 * 2048 + z / 256 % 16 * 2⟩ := by
    clear t0 t1 t2; rw [liftS_3, show bits .or .i64 (0 + z / 128 % 2 * 2048) (liftT z ⟨3, 1, 8, 4⟩) = 0 + z / 128 % 2 * 2048 + z / 256 % 16 * 2 from or_lift (p := 3) (f := 1) (pos := 8) (wd := 4) rfl rfl rfl (by omega) (by intro t t1 t2; omega) (u3 (z / 128 % 2) (by omega) (by omega)).1 (u3 (z / 128 % 2) (by omega) (by omega)).2.1 (u3 (z / 128 % 2) (by omega) (by omega)).2.2]
  have u4 : ∀ x0 x1 : Int, 0 ≤ x0 → x0 < 2 → 0 ≤ x1 → x1 < 16 → 0 ≤ 0 + x0 * 2048 + x1 * 2 ∧ 0 + x0 * 2048 + x1 * 2 < 4294967296 ∧ (0 + x0 * 2048 + x1 * 2) / 32 % 64 = 0 := by intros; omega
  have t4 : liftS z ⟨0, 0 + z / 32768 % 32 * 1, 0 + z / 1048576 % 32 * 1, 0 + z / 128 % 2 * 2048 + z / 256 % 16 * 2⟩ ⟨3, 5, 25, 6⟩ = ⟨0, 0 + z / 32768 % 32 * 1, 0 + z / 1048576 % 32 * 1, 0 + z / 128 % 2 * 2048 + z / 256 % 16 * 2 + z / 33554432 % 64 * 32⟩ := by
    clear t0 t1 t2 t3; rw [liftS_3, show bits .or .i64 (0 + z / 128 % 2 * 2048 + z / 256 % 16 * 2) (liftT z ⟨3, 5, 25, 6⟩) = 0 + z / 128 % 2 * 2048 + z / 256 % 16 * 2 + z / 33554432 % 64 * 32 from or_lift (p := 3) (f := 5) (pos := 25) (wd := 6) rfl rfl rfl (by omega) (by intro t t1 t2; omega) (u4 (z / 128 % 2) (z / 256 % 16) (by omega) (by omega) (by omega) (by omega)).1 (u4 (z / 128 % 2) (z / 256 % 16) (by omega) (by omega) (by omega) (by omega)).2.1 (u4 (z / 128 % 2) (z / 256 % 16) (by omega) (by omega) (by omega) (by omega)).2.2]
  have u5 : ∀ x0 x1 x2 : Int, 0 ≤ x0 → x0 < 2 → 0 ≤ x1 → x1 < 16 → 0 ≤ x2 → x2 < 64 → 0 ≤ 0 + x0 * 2048 + x1 * 2 + x2 * 32 ∧ 0 + x0 * 2048 + x1 * 2 + x2 * 32 < 4294967296 ∧ (0 + x0 * 2048 + x1 * 2 + x2 * 32) / 4096 % 2 = 0 := by intros; omega
  have t5 : liftS z ⟨0, 0 + z / 32768 % 32 * 1, 0 + z / 1048576 % 32 * 1, 0 + z / 128 % 2 * 2048 + z / 256 % 16 * 2 + z / 33554432 % 64 * 32⟩ ⟨3, 12, 31, 1⟩ = ⟨0, 0 + z / 32768 % 32 * 1, 0 + z / 1048576 % 32 * 1, 0 + z / 128 % 2 * 2048 + z / 256 % 16 * 2 + z / 33554432 % 64 * 32 + z / 2147483648 % 2 * 4096⟩ := by
    clear t0 t1 t2 t3 t4; rw [liftS_3, show bits .or .i64 (0 + z / 128 % 2 * 2048 + z / 256 % 16 * 2 + z / 33554432 % 64 * 32) (liftT z ⟨3, 12, 31, 1⟩) = 0 + z / 128 % 2 * 2048 + z / 256 % 16 * 2 + z / 33554432 % 64 * 32 + z / 2147483648 % 2 * 4096 from or_lift (p := 3) (f := 12) (pos := 31) (wd := 1) rfl rfl rfl (by omega) (by intro t t1 t2; omega) (u5 (z / 128 % 2) (z / 256 % 16) (z / 33554432 % 64) (by omega) (by omega) (by omega) (by omega) (by omega) (by omega)).1 (u5 (z / 128 % 2) (z / 256 % 16) (z / 33554432 % 64) (by omega) (by omega) (by omega) (by omega) (by omega) (by omega)).2.1 (u5 (z / 128 % 2) (z / 256 % 16) (z / 33554432 % 64) (by omega) (by omega) (by omega) (by omega) (by omega) (by omega)).2.2]
  rw [t0, t1, t2, t3, t4, t5]
theorem liftB_U (z : Int) : liftK z (six (pcs 85)) 6 = ⟨0 + z / 128 % 32 * 1, 0, 0, 0 + z / 4096 % 1048576 * 1⟩ := by
  rw [six_U]
  unfold liftK
  simp only [List.take_succ_cons, List.take_zero, List.foldl_cons, List.foldl_nil]
  have t0 : liftS z ⟨0, 0, 0, 0⟩ ⟨0, 0, 7, 5⟩ = ⟨0 + z / 128 % 32 * 1, 0, 0, 0⟩ := by
    rw [liftS_0, show bits .or .i64 (0) (liftT z ⟨0, 0, 7, 5⟩) = 0 + z / 128 % 32 * 1 from or_lift (p := 0) (f := 0) (pos := 7) (wd := 5) rfl rfl rfl (by omega) (by intro t t1 t2; omega) (by omega) (by omega) (by omega)]
  have t1 : liftS z ⟨0 + z / 128 % 32 * 1, 0, 0, 0⟩ ⟨3, 0, 12, 20⟩ = ⟨0 + z / 128 % 32 * 1, 0, 0, 0 + z / 4096 % 1048576 * 1⟩ := by
    clear t0; rw [liftS_3, show bits .or .i64 (0) (liftT z ⟨3, 0, 12, 20⟩) = 0 + z / 4096 % 1048576 * 1 from or_lift (p := 3) (f := 0) (pos := 12) (wd := 20) rfl rfl rfl (by omega) (by intro t t1 t2; omega) (by omega) (by omega) (by omega)]
  have tz : liftS z ⟨0 + z / 128 % 32 * 1, 0, 0, 0 + z / 4096 % 1048576 * 1⟩ ⟨0, 0, 0, 0⟩ = ⟨0 + z / 128 % 32 * 1, 0, 0, 0 + z / 4096 % 1048576 * 1⟩ := by
    clear t0 t1; rw [liftS_0, or_lift_none (by omega) (by omega)]
  rw [t0, t1, tz, tz, tz, tz]
theorem liftB_J (z : Int) : liftK z (six (pcs 74)) 6 = ⟨0 + z / 128 % 32 * 1, 0, 0, 0 + z / 4096 % 256 * 4096 + z / 1048576 % 2 * 2048 + z / 2097152 % 1024 * 2 + z / 2147483648 % 2 * 1048576⟩ := by
  rw [six_J]
  unfold liftK
  simp only [List.take_succ_cons, List.take_zero, List.foldl_cons, List.foldl_nil]
  have t0 : liftS z ⟨0, 0, 0, 0⟩ ⟨0, 0, 7, 5⟩ = ⟨0 + z / 128 % 32 * 1, 0, 0, 0⟩ := by
    rw [liftS_0, show bits .or .i64 (0) (liftT z ⟨0, 0, 7, 5⟩) = 0 + z / 128 % 32 * 1 from or_lift (p := 0) (f := 0) (pos := 7) (wd := 5) rfl rfl rfl (by omega) (by intro t t1 t2; omega) (by omega) (by omega) (by omega)]
  have t1 : liftS z ⟨0 + z / 128 % 32 * 1, 0, 0, 0⟩ ⟨3, 12, 12, 8⟩ = ⟨0 + z / 128 % 32 * 1, 0, 0, 0 + z / 4096 % 256 * 4096⟩ := by
    clear t0; rw [liftS_3, show bits .or .i64 (0) (liftT z ⟨3, 12, 12, 8⟩) = 0 + z / 4096 % 256 * 4096 from or_lift (p := 3) (f := 12) (pos := 12) (wd := 8) rfl rfl rfl (by omega) (by intro t t1 t2; omega) (by omega) (by omega) (by omega)]
  have u2 : ∀ x0 : Int, 0 ≤ x0 → x0 < 256 → 0 ≤ 0 + x0 * 4096 ∧ 0 + x0 * 4096 < 4294967296 ∧ (0 + x0 * 4096) / 2048 % 2 = 0 := by intros; omega
  have t2 : liftS z ⟨0 + z / 128 % 32 * 1, 0, 0, 0 + z / 4096 % 256 * 4096⟩ ⟨3, 11, 20, 1⟩ = ⟨0 + z / 128 % 32 * 1, 0, 0, 0 + z / 4096 % 256 * 4096 + z / 1048576 % 2 * 2048⟩ := by
    clear t0 t1; rw [liftS_3, show bits .or .i64 (0 + z / 4096 % 256 * 4096) (liftT z ⟨3, 11, 20, 1⟩) = 0 + z / 4096 % 256 * 4096 + z / 1048576 % 2 * 2048 from or_lift (p := 3) (f := 11) (pos := 20) (wd := 1) rfl rfl rfl (by omega) (by intro t t1 t2; omega) (u2 (z / 4096 % 256) (by omega) (by omega)).1 (u2 (z / 4096 % 256) (by omega) (by omega)).2.1 (u2 (z / 4096 % 256) (by omega) (by omega)).2.2]
  have u3 : ∀ x0 x1 : Int, 0 ≤ x0 → x0 < 256 → 0 ≤ x1 → x1 < 2 → 0 ≤ 0 + x0 * 4096 + x1 * 2048 ∧ 0 + x0 * 4096 + x1 * 2048 < 4294967296 ∧ (0 + x0 * 4096 + x1 * 2048) / 2 % 1024 = 0 := by intros; omega
  have t3 : liftS z ⟨0 + z / 128 % 32 * 1, 0, 0, 0 + z / 4096 % 256 * 4096 + z / 1048576 % 2 * 2048⟩ ⟨3, 1, 21, 10⟩ = ⟨0 + z / 128 % 32 * 1, 0, 0, 0 + z / 4096 % 256 * 4096 + z / 1048576 % 2 * 2048 + z / 2097152 % 1024 * 2⟩ := by
    clear t0 t1 t2; rw [liftS_3, show bits .or .i64 (0 + z / 4096 % 256 * 4096 + z / 1048576 % 2 * 2048) (liftT z ⟨3, 1, 21, 10⟩) = 0 + z / 4096 % 256 * 4096 + z / 1048576 % 2 * 2048 + z / 2097152 % 1024 * 2 from or_lift (p := 3) (f := 1) (pos := 21) (wd := 10) rfl rfl rfl (by omega) (by intro t t1 t2; omega) (u3 (z / 4096 % 256) (z / 1048576 % 2) (by omega) (by omega) (by omega) (by omega)).1 (u3 (z / 4096 % 256) (z / 1048576 % 2) (by omega) (by omega) (by omega) (by omega)).2.1 (u3 (z / 4096 % 256) (z / 1048576 % 2) (by omega) (by omega) (by omega) (by omega)).2.2]
  have u4 : ∀ x0 x1 x2 : Int, 0 ≤ x0 → x0 < 256 → 0 ≤ x1 → x1 < 2 → 0 ≤ x2 → x2 < 1024 → 0 ≤ 0 + x0 * 4096 + x1 * 2048 + x2 * 2 ∧ 0 + x0 * 4096 + x1 * 2048 + x2 * 2 < 4294967296 ∧ (0 + x0 * 4096 + x1 * 2048 + x2 * 2) / 1048576 % 2 = 0 := by intros; omega
  have t4 : liftS z ⟨0 + z / 128 % 32 * 1, 0, 0, 0 + z / 4096 % 256 * 4096 + z / 1048576 % 2 * 2048 + z / 2097152 % 1024 * 2⟩ ⟨3, 20, 31, 1⟩ = ⟨0 + z / 128 % 32 * 1, 0, 0, 0 + z / 4096 % 256 * 4096 + z / 1048576 % 2 * 2048 + z / 2097152 % 1024 * 2 + z / 2147483648 % 2 * 1048576⟩ := by
    clear t0 t1 t2 t3; rw [liftS_3, show bits .or .i64 (0 + z / 4096 % 256 * 4096 + z / 1048576 % 2 * 2048 + z / 2097152 % 1024 * 2) (liftT z ⟨3, 20, 31, 1⟩) = 0 + z / 4096 % 256 * 4096 + z / 1048576 % 2 * 2048 + z / 2097152 % 1024 * 2 + z / 2147483648 % 2 * 1048576 from or_lift (p := 3) (f := 20) (pos := 31) (wd := 1) rfl rfl rfl (by omega) (by intro t t1 t2; omega) (u4 (z / 4096 % 256) (z / 1048576 % 2) (z / 2097152 % 1024) (by omega) (by omega) (by omega) (by omega) (by omega) (by omega)).1 (u4 (z / 4096 % 256) (z / 1048576 % 2) (z / 2097152 % 1024) (by omega) (by omega) (by omega) (by omega) (by omega) (by omega)).2.1 (u4 (z / 4096 % 256) (z / 1048576 % 2) (z / 2097152 % 1024) (by omega) (by omega) (by omega) (by omega) (by omega) (by omega)).2.2]
  have tz : liftS z ⟨0 + z / 128 % 32 * 1, 0, 0, 0 + z / 4096 % 256 * 4096 + z / 1048576 % 2 * 2048 + z / 2097152 % 1024 * 2 + z / 2147483648 % 2 * 1048576⟩ ⟨0, 0, 0, 0⟩ = ⟨0 + z / 128 % 32 * 1, 0, 0, 0 + z / 4096 % 256 * 4096 + z / 1048576 % 2 * 2048 + z / 2097152 % 1024 * 2 + z / 2147483648 % 2 * 1048576⟩ := by
    clear t0 t1 t2 t3 t4; rw [liftS_0, or_lift_none (by omega) (by omega)]
  rw [t0, t1, t2, t3, t4, tz]
theorem liftB_F (z : Int) : liftK z (six (pcs 70)) 6 = ⟨0, 0, 0, 0 + z / 1048576 % 256 * 1⟩ := by
  rw [six_F]
  unfold liftK
  simp only [List.take_succ_cons, List.take_zero, List.foldl_cons, List.foldl_nil]
  have t0 : liftS z ⟨0, 0, 0, 0⟩ ⟨3, 0, 20, 8⟩ = ⟨0, 0, 0, 0 + z / 1048576 % 256 * 1⟩ := by
    rw [liftS_3, show bits .or .i64 (0) (liftT z ⟨3, 0, 20, 8⟩) = 0 + z / 1048576 % 256 * 1 from or_lift (p := 3) (f := 0) (pos := 20) (wd := 8) rfl rfl rfl (by omega) (by intro t t1 t2; omega) (by omega) (by omega) (by omega)]
  have tz : liftS z ⟨0, 0, 0, 0 + z / 1048576 % 256 * 1⟩ ⟨0, 0, 0, 0⟩ = ⟨0, 0, 0, 0 + z / 1048576 % 256 * 1⟩ := by
    clear t0; rw [liftS_0, or_lift_none (by omega) (by omega)]
  rw [t0, tz, tz, tz, tz, tz]
theorem liftB_Z (z : Int) : liftK z (six (pcs 90)) 6 = ⟨0, 0, 0, 0⟩ := by
  rw [six_Z]
  unfold liftK
  simp only [List.take_succ_cons, List.take_zero, List.foldl_cons, List.foldl_nil]
  have tz : liftS z ⟨0, 0, 0, 0⟩ ⟨0, 0, 0, 0⟩ = ⟨0, 0, 0, 0⟩ := by
    rw [liftS_0, or_lift_none (by omega) (by omega)]
  rw [tz, tz, tz, tz, tz, tz]
theorem liftB_L (z : Int) : liftK z (six (pcs 76)) 6 = ⟨0 + z / 128 % 32 * 1, 0 + z / 32768 % 32 * 1, 0, 0 + z / 33554432 % 4 * 1⟩ := by
  rw [six_L]
  unfold liftK
  simp only [List.take_succ_cons, List.take_zero, List.foldl_cons, List.foldl_nil]
  have t0 : liftS z ⟨0, 0, 0, 0⟩ ⟨0, 0, 7, 5⟩ = ⟨0 + z / 128 % 32 * 1, 0, 0, 0⟩ := by
    rw [liftS_0, show bits .or .i64 (0) (liftT z ⟨0, 0, 7, 5⟩) = 0 + z / 128 % 32 * 1 from or_lift (p := 0) (f := 0) (pos := 7) (wd := 5) rfl rfl rfl (by omega) (by intro t t1 t2; omega) (by omega) (by omega) (by omega)]
  have t1 : liftS z ⟨0 + z / 128 % 32 * 1, 0, 0, 0⟩ ⟨1, 0, 15, 5⟩ = ⟨0 + z / 128 % 32 * 1, 0 + z / 32768 % 32 * 1, 0, 0⟩ := by
    clear t0; rw [liftS_1, show bits .or .i64 (0) (liftT z ⟨1, 0, 15, 5⟩) = 0 + z / 32768 % 32 * 1 from or_lift (p := 1) (f := 0) (pos := 15) (wd := 5) rfl rfl rfl (by omega) (by intro t t1 t2; omega) (by omega) (by omega) (by omega)]
  have t2 : liftS z ⟨0 + z / 128 % 32 * 1, 0 + z / 32768 % 32 * 1, 0, 0⟩ ⟨3, 0, 25, 2⟩ = ⟨0 + z / 128 % 32 * 1, 0 + z / 32768 % 32 * 1, 0, 0 + z / 33554432 % 4 * 1⟩ := by
    clear t0 t1; rw [liftS_3, show bits .or .i64 (0) (liftT z ⟨3, 0, 25, 2⟩) = 0 + z / 33554432 % 4 * 1 from or_lift (p := 3) (f := 0) (pos := 25) (wd := 2) rfl rfl rfl (by omega) (by intro t t1 t2; omega) (by omega) (by omega) (by omega)]
  have tz : liftS z ⟨0 + z / 128 % 32 * 1, 0 + z / 32768 % 32 * 1, 0, 0 + z / 33554432 % 4 * 1⟩ ⟨0, 0, 0, 0⟩ = ⟨0 + z / 128 % 32 * 1, 0 + z / 32768 % 32 * 1, 0, 0 + z / 33554432 % 4 * 1⟩ := by
    clear t0 t1 t2; rw [liftS_0, or_lift_none (by omega) (by omega)]
  rw [t0, t1, t2, tz, tz, tz]
theorem liftB_A (z : Int) : liftK z (six (pcs 65)) 6 = ⟨0 + z / 128 % 32 * 1, 0 + z / 32768 % 32 * 1, 0 + z / 1048576 % 32 * 1, 0 + z / 33554432 % 4 * 1⟩ := by
  rw [six_A]
  unfold liftK
  simp only [List.take_succ_cons, List.take_zero, List.foldl_cons, List.foldl_nil]
  have t0 : liftS z ⟨0, 0, 0, 0⟩ ⟨0, 0, 7, 5⟩ = ⟨0 + z / 128 % 32 * 1, 0, 0, 0⟩ := by
    rw [liftS_0, show bits .or .i64 (0) (liftT z ⟨0, 0, 7, 5⟩) = 0 + z / 128 % 32 * 1 from or_lift (p := 0) (f := 0) (pos := 7) (wd := 5) rfl rfl rfl (by omega) (by intro t t1 t2; omega) (by omega) (by omega) (by omega)]
  have t1 : liftS z ⟨0 + z / 128 % 32 * 1, 0, 0, 0⟩ ⟨1, 0, 15, 5⟩ = ⟨0 + z / 128 % 32 * 1, 0 + z / 32768 % 32 * 1, 0, 0⟩ := by
    clear t0; rw [liftS_1, show bits .or .i64 (0) (liftT z ⟨1, 0, 15, 5⟩) = 0 + z / 32768 % 32 * 1 from or_lift (p := 1) (f := 0) (pos := 15) (wd := 5) rfl rfl rfl (by omega) (by intro t t1 t2; omega) (by omega) (by omega) (by omega)]
  have t2 : liftS z ⟨0 + z / 128 % 32 * 1, 0 + z / 32768 % 32 * 1, 0, 0⟩ ⟨2, 0, 20, 5⟩ = ⟨0 + z / 128 % 32 * 1, 0 + z / 32768 % 32 * 1, 0 + z / 1048576 % 32 * 1, 0⟩ := by
    clear t0 t1; rw [liftS_2, show bits .or .i64 (0) (liftT z ⟨2, 0, 20, 5⟩) = 0 + z / 1048576 % 32 * 1 from or_lift (p := 2) (f := 0) (pos := 20) (wd := 5) rfl rfl rfl (by omega) (by intro t t1 t2; omega) (by omega) (by omega) (by omega)]
  have t3 : liftS z ⟨0 + z / 128 % 32 * 1, 0 + z / 32768 % 32 * 1, 0 + z / 1048576 % 32 * 1, 0⟩ ⟨3, 0, 25, 2⟩ = ⟨0 + z / 128 % 32 * 1, 0 + z / 32768 % 32 * 1, 0 + z / 1048576 % 32 * 1, 0 + z / 33554432 % 4 * 1⟩ := by
    clear t0 t1 t2; rw [liftS_3, show bits .or .i64 (0) (liftT z ⟨3, 0, 25, 2⟩) = 0 + z / 33554432 % 4 * 1 from or_lift (p := 3) (f := 0) (pos := 25) (wd := 2) rfl rfl rfl (by omega) (by intro t t1 t2; omega) (by omega) (by omega) (by omega)]
  have tz : liftS z ⟨0 + z / 128 % 32 * 1, 0 + z / 32768 % 32 * 1, 0 + z / 1048576 % 32 * 1, 0 + z / 33554432 % 4 * 1⟩ ⟨0, 0, 0, 0⟩ = ⟨0 + z / 128 % 32 * 1, 0 + z / 32768 % 32 * 1, 0 + z / 1048576 % 32 * 1, 0 + z / 33554432 % 4 * 1⟩ := by
    clear t0 t1 t2 t3; rw [liftS_0, or_lift_none (by omega) (by omega)]
  rw [t0, t1, t2, t3, tz, tz]
end Go.Proofs.Ytjjbfeoidceiiaa
