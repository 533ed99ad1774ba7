/- What number, signed and Right of the document's own answer answer. -/
import Derived.Test.YtphnagkicboglaaDDec
import Derived.Test.YtphnagkicboglaaCHas
namespace Go.Proofs.Ytphnagkicboglaa
open Go.RowKit Rv
set_option linter.unusedVariables false
set_option linter.unusedSimpArgs false
theorem tmod2_is (n : Int) : (n.tmod 2 == 0) = decide (n % 2 = 0) := by
  rw [Bool.eq_iff_iff, beq_iff_eq, decide_eq_true_eq]
  exact ⟨fun h => by have := Int.emod_add_mul_ediv n 2; have := Int.mul_tdiv_add_tmod n 2; omega, fun h => Int.tmod_eq_zero_of_dvd (Int.dvd_of_emod_eq_zero h)⟩
set_option maxHeartbeats 4000000 in
theorem number_any (f n : Int) (hf : formOk f) (w : World) : Calls Try.prog 37 #[.int .u8 f, .int .i64 n] w fun e w' => e = .returned (.bool (num f n)) ∧ w = w' := by
  have ht := Lib.hid (tmod2_is n)
  rcases hf with rfl | rfl | rfl | rfl | rfl | rfl | rfl | rfl | rfl | rfl | rfl | rfl
  all_goals
    go_enter Try.func37, Try.ntmps37
    go_wp2
    all_goals
      go_ret
      refine ⟨ret_bool ?_, rfl⟩
      have := ht.out
      first
        | (simp [num, *]; done)
        | (simp [num, *]; omega)
        | (rw [Bool.eq_iff_iff]; simp [num, *]; done)
        | (rw [Bool.eq_iff_iff]; simp [num, *]; omega)
theorem form_ok {op : Int} (h1 : 1 ≤ op) (h2 : op ≤ 49) : formOk (form op) := form_is h1 h2
theorem signed_any {n m h r : Int} (hm : m = 12 ∧ h = 2048 ∨ m = 13 ∧ h = 4096 ∨ m = 21 ∧ h = 1048576) (n0 : 0 ≤ n) (n1 : n < 4294967296) (hr : sgn n h = r) (w : World) : Calls Try.prog 44 #[.int .i64 n, .int .i64 m] w fun e w' => e = .returned (.int .i64 r) ∧ Both w w' := by
  subst hr
  rcases hm with ⟨rfl, rfl⟩ | ⟨rfl, rfl⟩ | ⟨rfl, rfl⟩
  all_goals
    unfold sgn
    split
    all_goals
      go_enter Try.func44, Try.ntmps44
      go_wp2
      go_ret
      exact ⟨rfl, Both.refl w⟩
end Go.Proofs.Ytphnagkicboglaa
