/- What number, signed and Right of the document's own answer answer. -/
import Derived.Test.YtjjbfeoidceiiaaDDec
import Derived.Test.YtjjbfeoidceiiaaCHas
namespace Go.Proofs.Ytjjbfeoidceiiaa
open Go.RowKit Rv
set_option linter.unusedVariables false
set_option linter.unusedSimpArgs false
theorem tmod2_is (n : Int) : (n.tmod 2 == 0) = decide (n % 2 = 0) := by
  rw [Bool.eq_iff_iff, beq_iff_eq, decide_eq_true_eq]
  exact ⟨fun h => by have := Int.emod_add_mul_ediv n 2; have := Int.mul_tdiv_add_tmod n 2; omega, fun h => Int.tmod_eq_zero_of_dvd (Int.dvd_of_emod_eq_zero h)⟩
set_option maxHeartbeats 4000000 in
theorem numR_any (f n : Int) (hf : formOk f) (w : World) : Calls Try.prog 74 #[.int .u8 f, .int .i64 n] w fun e w' => e = .returned (.bool (num f n)) ∧ w = w' := by
  have ht := Lib.hid (tmod2_is n)
  rcases hf with rfl | rfl | rfl | rfl | rfl | rfl | rfl | rfl | rfl | rfl | rfl | rfl
  all_goals
    go_enter Try.func74, Try.ntmps74
    go_wp2
    all_goals
      go_ret
      refine ⟨ret_bool ?_, rfl⟩
      have := ht.out
      first
        | (simp [num, *]; done)
        | (simp [num, *]; omega)
        | (rw [Bool.eq_iff_iff]; simp [num, *]; done)
        | (rw [Bool.eq_iff_iff]; simp [num, *]; omega)
theorem form_ok {op : Int} (h1 : 1 ≤ op) (h2 : op ≤ 49) : formOk (form op) := form_is h1 h2
end Go.Proofs.Ytjjbfeoidceiiaa
