/- Package hart: divided. -/
import Derived.Test.YtgcgdjmlngfpeaaDoorHBase
namespace Go.Proofs.YtgcgdjmlngfpeaaDoor
open Go.RowKit Ht
set_option linter.unusedVariables false
set_option linter.unusedSimpArgs false
theorem divided_lit {a b q r : Int} (ha : 0 ≤ a) (ha' : a < 4294967296) (hb0 : 0 ≤ b) (hb' : b < 4294967296) (hq : (if b = 0 then -1 else a / b) = q) (hr : (if b = 0 then a else a % b) = r) (w : World) :
    Calls Tryd.prog 64 #[.int .i64 a, .int .i64 b] w fun e w' => e = .returned (.tuple #[.int .i64 q, .int .i64 r]) ∧ Bel w w' := by
  by_cases c : b = 0
  · subst c
    rw [if_pos rfl] at hq hr
    subst hq hr
    go_enter Tryd.func64, Tryd.ntmps64
    go_wp2
    exact bodyPost_ret (results_tmp2 Tryd.results64 _ _ _) (by rfl) ⟨rfl, Bel.refl _⟩
  · rw [if_neg c] at hq hr
    have HQ := Lib.hid hq
    have HR := Lib.hid hr
    clear hq hr
    go_enter Tryd.func64, Tryd.ntmps64
    go_wp2
    have hb1 : (b == 0) = false := by simpa using c
    have ht : b.toNat ≠ 0 := by omega
    go_region
    rw [HQ.out, HR.out]
    go_wp2
    exact bodyPost_ret (results_tmp2 Tryd.results64 _ _ _) (by rfl) ⟨rfl, (Bel.refl _).drew⟩
end Go.Proofs.YtgcgdjmlngfpeaaDoor
