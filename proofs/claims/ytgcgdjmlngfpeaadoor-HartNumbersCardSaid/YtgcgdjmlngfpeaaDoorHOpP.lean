/- What operators make of numbers cut to 32 bits: plain. -/
import Derived.Test.YtgcgdjmlngfpeaaDoorHPlain
namespace Go.Proofs.YtgcgdjmlngfpeaaDoor
open Go.RowKit Ht Plain
theorem w32_bd (n : Int) : -2147483648 ≤ wrap32 n ∧ wrap32 n ≤ 2147483647 := ⟨w32_lo n, w32_hi n⟩
theorem bv32_w (n : Int) : BitVec.ofInt 32 (wrap32 n) = BitVec.ofInt 32 n := by
  apply BitVec.eq_of_toInt_eq
  rw [BitVec.toInt_ofInt, BitVec.toInt_ofInt]
  unfold wrap32
  simp only [Int.bmod_def]
  omega
theorem bv32_bd (x : BitVec 32) : -2147483648 ≤ x.toInt ∧ x.toInt ≤ 2147483647 := by
  have h1 := BitVec.le_toInt x
  have h2 := BitVec.toInt_lt (x := x)
  simp at h1 h2
  omega
theorem tr_bd (p : Prop) [Decidable p] : -2147483648 ≤ tr p ∧ tr p ≤ 2147483647 := by unfold tr; split <;> omega
theorem two_in32 (o a b : Int) : wrap32 (two o a b) = two o a b := by
  by_cases h : o < 1 ∨ 14 < o
  · rw [two_out _ _ _ h]; exact w32_0
  · have : o = 1 ∨ o = 2 ∨ o = 3 ∨ o = 4 ∨ o = 5 ∨ o = 6 ∨ o = 7 ∨ o = 8 ∨ o = 9 ∨ o = 10 ∨ o = 11 ∨ o = 12 ∨ o = 13 ∨ o = 14 := by omega
    rcases this with rfl | rfl | rfl | rfl | rfl | rfl | rfl | rfl | rfl | rfl | rfl | rfl | rfl | rfl
    · exact w32_w32 _
    · exact w32_w32 _
    · exact w32_w32 _
    · rw [← two_4]; exact w32_w32 _
    · rw [← two_5]; exact w32_w32 _
    · exact w32_in _ (bv32_bd _)
    · exact w32_in _ (bv32_bd _)
    · exact w32_in _ (bv32_bd _)
    · exact w32_w32 _
    · rw [← two_10]; exact w32_w32 _
    · exact w32_in _ (tr_bd _)
    · exact w32_in _ (tr_bd _)
    · exact w32_in _ (tr_bd _)
    · exact w32_in _ (tr_bd _)
theorem md_w32 (n : Int) : wrap32 n % 4294967296 = n % 4294967296 := by unfold wrap32; omega
theorem two_cutL (o a b : Int) : two o (wrap32 a) b = two o a b := by
  unfold two
  simp only [w32_w32, bv32_w, md_w32]
theorem two_cutR (o a b : Int) : two o a (wrap32 b) = two o a b := by
  unfold two
  simp only [w32_w32, bv32_w, md_w32, mod32]
theorem two_inv (a : Int) : two 8 a (-1) = one 17 a := by
  rw [← one_17, ← two_8]
  have e : wrap32 (-1) = -1 := by decide +kernel
  rw [e]
  have c : bits .xor .i64 (wrap32 a) (-1) = bits .xor .i64 (-1) (wrap32 a) := by
    show IntKind.i64.wrap ((BitVec.ofInt 64 (wrap32 a) ^^^ BitVec.ofInt 64 (-1)).toNat : Int) = IntKind.i64.wrap ((BitVec.ofInt 64 (-1) ^^^ BitVec.ofInt 64 (wrap32 a)).toNat : Int)
    rw [BitVec.xor_comm]
  rw [c]
  have h := one_17 a
  rw [h]
  show wrap32 (-wrap32 a - 1) = -wrap32 a - 1
  have := w32_bd a
  exact w32_in _ (by omega)
end Go.Proofs.YtgcgdjmlngfpeaaDoor
