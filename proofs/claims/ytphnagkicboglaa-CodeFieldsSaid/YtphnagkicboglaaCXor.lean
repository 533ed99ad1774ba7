/- Plain laws of two words that differ in one field alone. -/
import Derived.Test.YtphnagkicboglaaCFields
namespace Go.Proofs.Ytphnagkicboglaa
open Go.RowKit Rv
theorem xor_nat (a b : Nat) (ha : a < 4294967296) (hb : b < 4294967296) : bits .xor .i64 (a : Int) (b : Int) = ((a ^^^ b : Nat) : Int) := by
  have hx : a ^^^ b < 2 ^ 32 := Nat.xor_lt_two_pow (by omega) (by omega)
  have h1 : (BitVec.ofInt 64 (a : Int)).toNat = a := by
    rw [BitVec.ofInt_natCast, BitVec.toNat_ofNat]; exact Nat.mod_eq_of_lt (by omega)
  have h2 : (BitVec.ofInt 64 (b : Int)).toNat = b := by
    rw [BitVec.ofInt_natCast, BitVec.toNat_ofNat]; exact Nat.mod_eq_of_lt (by omega)
  show IntKind.i64.wrap ((BitVec.ofInt 64 (a : Int) ^^^ BitVec.ofInt 64 (b : Int)).toNat : Int) = _
  rw [BitVec.toNat_xor, h1, h2, IntKind.wrap_i64]
  omega
theorem xor_field (a b k : Nat) (h1 : a % 2 ^ k = b % 2 ^ k) (h2 : a / 2 ^ k / 32 = b / 2 ^ k / 32) : (a ^^^ b) / 2 ^ k * 2 ^ k = a ^^^ b ∧ (a ^^^ b) / 2 ^ k < 32 := by
  have m : (a ^^^ b) % 2 ^ k = 0 := by rw [Nat.xor_mod_two_pow, h1, Nat.xor_self]
  have d : (a ^^^ b) / 2 ^ k = a / 2 ^ k ^^^ b / 2 ^ k := by rw [Nat.xor_div_two_pow]
  have e : (a / 2 ^ k ^^^ b / 2 ^ k) / 2 ^ 5 = 0 := by
    rw [Nat.xor_div_two_pow, show (2 : Nat) ^ 5 = 32 from rfl, h2, Nat.xor_self]
  constructor
  · have := Nat.div_add_mod (a ^^^ b) (2 ^ k)
    rw [m, Nat.mul_comm] at this
    exact this
  · rw [d]
    have : (2 : Nat) ^ 5 = 32 := rfl
    omega
theorem xor_facts (v v' : Int) (k : Nat) (pw : Int) (hp : pw = ((2 ^ k : Nat) : Int)) (v0 : 0 ≤ v) (v1 : v < 4294967296) (u0 : 0 ≤ v') (u1 : v' < 4294967296) (h1 : v % pw = v' % pw) (h2 : v / pw / 32 = v' / pw / 32) :
    0 ≤ bits .xor .i64 v v' ∧ bits .xor .i64 v v' < 4294967296 ∧ (bits .xor .i64 v v' / pw * pw == bits .xor .i64 v v') = true ∧ bits .xor .i64 v v' / pw < 32 := by
  obtain ⟨a, rfl⟩ := Int.eq_ofNat_of_zero_le v0
  obtain ⟨b, rfl⟩ := Int.eq_ofNat_of_zero_le u0
  subst hp
  have hx : a ^^^ b < 2 ^ 32 := Nat.xor_lt_two_pow (by omega) (by omega)
  obtain ⟨g1, g2⟩ := xor_field a b k (by exact_mod_cast h1) (by exact_mod_cast h2)
  rw [xor_nat a b (by omega) (by omega)]
  refine ⟨Int.natCast_nonneg _, by omega, beq_iff_eq.2 ?_, ?_⟩
  · exact_mod_cast g1
  · exact_mod_cast g2
theorem enc_d (o d a b m n : Int) (h1 : 1 ≤ o) (h2 : o ≤ 49) (h : hasD (form o) = true) : enc (Ins.mk o n a b m) = enc (Ins.mk o d a b m) + (n - d) * 128 := by
  rcases form_is h1 h2 with hf | hf | hf | hf | hf | hf | hf | hf | hf | hf | hf | hf
  all_goals
    simp [hasD, hf] at h
  all_goals
    simp [enc, hf]
    try omega
theorem facts_d {o d a b m n : Int} (rx : right (Ins.mk o d a b m) = true) (ry : right (Ins.mk o n a b m) = true) (hne : d ≠ n) :
    enc (Ins.mk o d a b m) % 128 = enc (Ins.mk o n a b m) % 128 ∧ enc (Ins.mk o d a b m) / 128 / 32 = enc (Ins.mk o n a b m) / 128 / 32 ∧ enc (Ins.mk o n a b m) / 128 % 32 = n := by
  obtain ⟨⟨o1, o2⟩, _⟩ := right_bd rx
  obtain ⟨_, _, rd', ra', rb', _⟩ := right_parts rx
  obtain ⟨_, _, sd', sa', sb', _⟩ := right_parts ry
  have hh : hasD (form o) = true := by
    rw [← Bool.not_eq_false]
    intro c
    simp only at rd' sd'
    rw [c] at rd' sd'
    have := reg_no rd'
    have := reg_no sd'
    omega
  have e := enc_d o d a b m n o1 o2 hh
  have e1 := congrArg Ins.d (rd_enc rx)
  have e2 := congrArg Ins.d (rd_enc ry)
  simp only [rd, hh, if_true] at e1 e2
  refine ⟨?_, ?_, e2⟩
  · omega
  · omega
theorem enc_a (o d a b m n : Int) (h1 : 1 ≤ o) (h2 : o ≤ 49) (h : hasA (form o) = true) : enc (Ins.mk o d n b m) = enc (Ins.mk o d a b m) + (n - a) * 32768 := by
  rcases form_is h1 h2 with hf | hf | hf | hf | hf | hf | hf | hf | hf | hf | hf | hf
  all_goals
    simp [hasA, hf] at h
  all_goals
    simp [enc, hf]
    try omega
theorem facts_a {o d a b m n : Int} (rx : right (Ins.mk o d a b m) = true) (ry : right (Ins.mk o d n b m) = true) (hne : a ≠ n) :
    enc (Ins.mk o d a b m) % 32768 = enc (Ins.mk o d n b m) % 32768 ∧ enc (Ins.mk o d a b m) / 32768 / 32 = enc (Ins.mk o d n b m) / 32768 / 32 ∧ enc (Ins.mk o d n b m) / 32768 % 32 = n := by
  obtain ⟨⟨o1, o2⟩, _⟩ := right_bd rx
  obtain ⟨_, _, rd', ra', rb', _⟩ := right_parts rx
  obtain ⟨_, _, sd', sa', sb', _⟩ := right_parts ry
  have hh : hasA (form o) = true := by
    rw [← Bool.not_eq_false]
    intro c
    simp only at ra' sa'
    rw [c] at ra' sa'
    have := reg_no ra'
    have := reg_no sa'
    omega
  have e := enc_a o d a b m n o1 o2 hh
  have e1 := congrArg Ins.a (rd_enc rx)
  have e2 := congrArg Ins.a (rd_enc ry)
  simp only [rd, hh, if_true] at e1 e2
  refine ⟨?_, ?_, e2⟩
  · omega
  · omega
theorem enc_b (o d a b m n : Int) (h1 : 1 ≤ o) (h2 : o ≤ 49) (h : hasB (form o) = true) : enc (Ins.mk o d a n m) = enc (Ins.mk o d a b m) + (n - b) * 1048576 := by
  rcases form_is h1 h2 with hf | hf | hf | hf | hf | hf | hf | hf | hf | hf | hf | hf
  all_goals
    simp [hasB, hf] at h
  all_goals
    simp [enc, hf]
    try omega
theorem facts_b {o d a b m n : Int} (rx : right (Ins.mk o d a b m) = true) (ry : right (Ins.mk o d a n m) = true) (hne : b ≠ n) :
    enc (Ins.mk o d a b m) % 1048576 = enc (Ins.mk o d a n m) % 1048576 ∧ enc (Ins.mk o d a b m) / 1048576 / 32 = enc (Ins.mk o d a n m) / 1048576 / 32 ∧ enc (Ins.mk o d a n m) / 1048576 % 32 = n := by
  obtain ⟨⟨o1, o2⟩, _⟩ := right_bd rx
  obtain ⟨_, _, rd', ra', rb', _⟩ := right_parts rx
  obtain ⟨_, _, sd', sa', sb', _⟩ := right_parts ry
  have hh : hasB (form o) = true := by
    rw [← Bool.not_eq_false]
    intro c
    simp only at rb' sb'
    rw [c] at rb' sb'
    have := reg_no rb'
    have := reg_no sb'
    omega
  have e := enc_b o d a b m n o1 o2 hh
  have e1 := congrArg Ins.b (rd_enc rx)
  have e2 := congrArg Ins.b (rd_enc ry)
  simp only [rd, hh, if_true] at e1 e2
  refine ⟨?_, ?_, e2⟩
  · omega
  · omega
end Go.Proofs.Ytphnagkicboglaa
