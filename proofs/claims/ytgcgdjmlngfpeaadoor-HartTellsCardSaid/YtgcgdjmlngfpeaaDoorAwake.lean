/- The laws' common first calls (awake) answer true, over any world that holds the table of texts. -/
import Derived.Test.YtgcgdjmlngfpeaaDoorBase
namespace Go.Proofs.YtgcgdjmlngfpeaaDoor
open Go.RowKit Plain
theorem wrap_lit {n r : Int} (h : wrap32 n = r) (w : World) : Calls Tryd.prog 27 #[.int .i64 n] w fun e w' => e = .returned (.int .i64 r) ∧ w = w' := by
  subst h
  exact wrap_any n w
theorem word_lit {n r : Int} (h : n % 4294967296 = r) (w : World) : Calls Tryd.prog 48 #[.int .i64 n] w fun e w' => e = .returned (.int .i64 r) ∧ w = w' := by
  subst h
  exact word_any n w
theorem i64_bd {n : Int} (h : (Lit.int .i64 n).wf = true) : -9223372036854775808 ≤ n ∧ n ≤ 9223372036854775807 := by
  simp [Lit.wf, IntKind.min, IntKind.max, IntKind.signed, IntKind.bits] at h
  omega
end Go.Proofs.YtgcgdjmlngfpeaaDoor
