/- Bits of numbers of 32 bits, as bit vectors: plain. -/
import Derived.Test.YtgcgdjmlngfpeaaDoorHOpP
import Derived.Test.YtgcgdjmlngfpeaaDoorHLaw1
namespace Go.Proofs.YtgcgdjmlngfpeaaDoor
open Go.RowKit Ht Plain
set_option linter.unusedVariables false
set_option linter.unusedSimpArgs false
abbrev V32 := BitVec 32
theorem v_of {x : Int} (h : -2147483648 ≤ x ∧ x ≤ 2147483647) : ∃ v : V32, v.toInt = x := ⟨BitVec.ofInt 32 x, by rw [toInt_ofInt]; exact w32_in _ h⟩
theorem v_w32 (v : V32) : wrap32 v.toInt = v.toInt := w32_in _ (bv32_bd v)
theorem v_sx (v : V32) : BitVec.ofInt 64 v.toInt = v.signExtend 64 := by
  apply BitVec.eq_of_toInt_eq
  rw [BitVec.toInt_signExtend_of_le (by decide), BitVec.toInt_ofInt, Int.bmod_def]
  have := bv32_bd v
  omega
theorem v_back (v : V32) : (v.signExtend 64).toInt = v.toInt := BitVec.toInt_signExtend_of_le (by decide)
theorem v_and (v u : V32) : bits .and .i64 v.toInt u.toInt = (v &&& u).toInt := by
  show IntKind.i64.wrap ((BitVec.ofInt 64 v.toInt &&& BitVec.ofInt 64 u.toInt).toNat : Int) = _
  rw [wrap_toNat, v_sx, v_sx, ← BitVec.signExtend_and, v_back]
theorem v_or (v u : V32) : bits .or .i64 v.toInt u.toInt = (v ||| u).toInt := by
  show IntKind.i64.wrap ((BitVec.ofInt 64 v.toInt ||| BitVec.ofInt 64 u.toInt).toNat : Int) = _
  rw [wrap_toNat, v_sx, v_sx, ← BitVec.signExtend_or, v_back]
theorem v_andNot (v u : V32) : bits .andNot .i64 v.toInt u.toInt = (v &&& ~~~ u).toInt := by
  show IntKind.i64.wrap ((BitVec.ofInt 64 v.toInt &&& ~~~ BitVec.ofInt 64 u.toInt).toNat : Int) = _
  rw [wrap_toNat, v_sx, v_sx, ← BitVec.signExtend_not (by decide), ← BitVec.signExtend_and, v_back]
theorem v_in (n t : V32) (k : V32) : ((k ||| n) &&& t) &&& (n &&& t) = n &&& t := by
  apply BitVec.eq_of_getLsbD_eq
  intro i hi
  simp only [BitVec.getLsbD_and, BitVec.getLsbD_or]
  cases n.getLsbD i <;> cases t.getLsbD i <;> cases k.getLsbD i <;> rfl
theorem v_out (n t p : V32) : ((p &&& ~~~ n) &&& t) &&& (n &&& t) = 0#32 := by
  apply BitVec.eq_of_getLsbD_eq
  intro i hi
  simp only [BitVec.getLsbD_and, BitVec.getLsbD_not, BitVec.getLsbD_zero, hi, decide_true, Bool.true_and]
  cases n.getLsbD i <;> cases t.getLsbD i <;> cases p.getLsbD i <;> rfl
theorem and_ones {x : Int} (h : -2147483648 ≤ x ∧ x ≤ 2147483647) : bits .and .i64 x (-1) = x := by
  obtain ⟨v, rfl⟩ := v_of h
  have e : (-1 : Int) = (BitVec.allOnes 32).toInt := by decide
  rw [e, v_and, BitVec.and_allOnes]
theorem and_four {x : Int} (h : -2147483648 ≤ x ∧ x ≤ 2147483647) (h4 : x % 4 = 0) : bits .and .i64 x (-4) = x := by
  have h3 : bits .andNot .i64 x 3 = x := by
    have := Rv.clear_field x 0 2 (A := 1) (W := 4) rfl rfl (by omega) (by omega) (by omega) (fun y h1 h2 => ⟨by omega, by omega, by omega⟩)
    have e : ((4 : Int) - 1) * 1 = 3 := rfl
    rw [e] at this
    rw [this]
    omega
  obtain ⟨v, rfl⟩ := v_of h
  have e4 : (-4 : Int) = (~~~ (3#32)).toInt := by decide
  have e3 : (3 : Int) = (3#32).toInt := by decide
  rw [e3, v_andNot] at h3
  rw [e4, v_and]
  exact h3
end Go.Proofs.YtgcgdjmlngfpeaaDoor
