/- What the law of levels prints, plain. -/
import Derived.Test.YtnpdeiffffjnjaaDoorYAwk
namespace Go.Proofs.YtnpdeiffffjnjaaDoor
open Go.RowKit Tk Sy
set_option linter.unusedVariables false
/-- which of n things a raw number speaks of -/
def pick (c n : Int) : Int := if c < 0 then (-(c + 1)) % n else c % n
theorem pick_neg {c : Int} (n : Int) (h : c < 0) : -((c + 1).tmod n) = pick c n := by
  rw [← Int.neg_tmod, Int.tmod_eq_emod_of_nonneg (by omega)]
  unfold pick
  rw [if_pos h]
theorem pick_pos {c : Int} (n : Int) (h : ¬ c < 0) : c % n = pick c n := by
  unfold pick
  rw [if_neg h]
theorem pick_any (c n : Int) (h1 : -9223372036854775808 ≤ c) (h2 : c ≤ 9223372036854775807) (h3 : 1 ≤ n) (w : World) : Calls Tryd.prog 15 #[.int .i64 c, .int .i64 n] w fun e w' => e = .returned (.int .i64 (pick c n)) ∧ w = w' := by
  by_cases hc : c < 0
  · have ht := Lib.hid (pick_neg n hc)
    go_enter Tryd.func15, Tryd.ntmps15
    go_wp2
    go_ret
    exact ⟨ret_int ht.out, rfl⟩
  · have ht := Lib.hid (pick_pos n hc)
    go_enter Tryd.func15, Tryd.ntmps15
    go_wp2
    go_ret
    exact ⟨ret_int ht.out, rfl⟩
theorem pick_lit {c n r : Int} (h : pick c n = r) (hc : inI c) (h3 : 1 ≤ n) (w : World) : Calls Tryd.prog 15 #[.int .i64 c, .int .i64 n] w fun e w' => e = .returned (.int .i64 r) ∧ w = w' := by
  subst h
  exact pick_any c n hc.1 hc.2 h3 w
theorem pick_bd (c : Int) {n : Int} (h : 1 ≤ n) : 0 ≤ pick c n ∧ pick c n < n := by
  unfold pick
  split
  · exact ⟨Int.emod_nonneg _ (by omega), Int.emod_lt_of_pos _ (by omega)⟩
  · exact ⟨Int.emod_nonneg _ (by omega), Int.emod_lt_of_pos _ (by omega)⟩
def varE : Ex := .mk 2 0 0 ⟨#[120]⟩ []
def inE (b : Int) : Ex := .mk 4 b 0 ⟨#[]⟩ [varE, varE]
def leftE (a b : Int) : Ex := .mk 4 a 0 ⟨#[]⟩ [inE b, varE]
def rightE (a b : Int) : Ex := .mk 4 a 0 ⟨#[]⟩ [varE, inE b]
def negE (b : Int) : Ex := .mk 3 15 0 ⟨#[]⟩ [inE b]
def atE (b : Int) : Ex := .mk 5 0 0 ⟨#[114]⟩ [inE b]
theorem of14 {b : Int} (h1 : 1 ≤ b) (h2 : b ≤ 14) : b = 1 ∨ b = 2 ∨ b = 3 ∨ b = 4 ∨ b = 5 ∨ b = 6 ∨ b = 7 ∨ b = 8 ∨ b = 9 ∨ b = 10 ∨ b = 11 ∨ b = 12 ∨ b = 13 ∨ b = 14 := by omega
theorem fit4 {b : Int} (h1 : 1 ≤ b) (h2 : b ≤ 14) (y z : Ex) : fitsE (eShp 4) (.mk 4 b 0 ⟨#[]⟩ [y, z]) = true := by
  rcases of14 h1 h2 with h | h | h | h | h | h | h | h | h | h | h | h | h | h <;> subst h <;> rfl
theorem fit_var : fitsE (eShp 2) varE = true := by decide +kernel
theorem body_in {k : Nat} {b : Int} (h1 : 1 ≤ b) (h2 : b ≤ 14) : bodyE (k + 2) (inE b) = true := by
  have h : bodyE (k + 2) (inE b) = (fitsE (eShp 4) (inE b) && ((fitsE (eShp 2) varE && areE k []) && ((fitsE (eShp 2) varE && areE k []) && true))) := rfl
  have h0 : areE k [] = true := by cases k <;> rfl
  have h4 : fitsE (eShp 4) (inE b) = true := fit4 h1 h2 _ _
  rw [h, h4, fit_var, h0]
  rfl
theorem body_left {a b : Int} (h1 : 1 ≤ a) (h2 : a ≤ 14) (h3 : 1 ≤ b) (h4 : b ≤ 14) : bodyE 30 (leftE a b) = true := by
  have h : bodyE 30 (leftE a b) = (fitsE (eShp 4) (leftE a b) && (bodyE 29 (inE b) && ((fitsE (eShp 2) varE && areE 28 []) && true))) := rfl
  have h5 : fitsE (eShp 4) (leftE a b) = true := fit4 h1 h2 _ _
  rw [h, h5, body_in (k := 27) h3 h4, fit_var]
  rfl
theorem body_right {a b : Int} (h1 : 1 ≤ a) (h2 : a ≤ 14) (h3 : 1 ≤ b) (h4 : b ≤ 14) : bodyE 30 (rightE a b) = true := by
  have h : bodyE 30 (rightE a b) = (fitsE (eShp 4) (rightE a b) && ((fitsE (eShp 2) varE && areE 28 []) && (bodyE 29 (inE b) && true))) := rfl
  have h5 : fitsE (eShp 4) (rightE a b) = true := fit4 h1 h2 _ _
  rw [h, h5, body_in (k := 27) h3 h4, fit_var]
  rfl
theorem body_neg {b : Int} (h3 : 1 ≤ b) (h4 : b ≤ 14) : bodyE 30 (negE b) = true := by
  have h : bodyE 30 (negE b) = (fitsE (eShp 3) (negE b) && (bodyE 29 (inE b) && true)) := rfl
  have h5 : fitsE (eShp 3) (negE b) = true := rfl
  rw [h, h5, body_in (k := 27) h3 h4]
  rfl
theorem body_at {b : Int} (h3 : 1 ≤ b) (h4 : b ≤ 14) : bodyE 30 (atE b) = true := by
  have h : bodyE 30 (atE b) = (fitsE (eShp 5) (atE b) && (bodyE 29 (inE b) && true)) := rfl
  have h5 : fitsE (eShp 5) (atE b) = true := by
    show fitsE (eShp 5) (.mk 5 0 0 ⟨#[114]⟩ [inE b]) = true
    have : isName [114] = true := by decide +kernel
    simp [fitsE, eShp, Ex.op, Ex.n, Ex.name, Ex.args, numbersV, within, nameIf, this]
  rw [h, h5, body_in (k := 27) h3 h4]
  rfl
theorem level_bd {a : Int} (h1 : 1 ≤ a) (h2 : a ≤ 14) : 1 ≤ level a ∧ level a ≤ 8 := by
  rcases of14 h1 h2 with h | h | h | h | h | h | h | h | h | h | h | h | h | h <;> subst h <;> decide
/-- the text of the inner one -/
def tI (b : Int) : Bs := [120] ++ ([32] ++ opT b ++ [32]) ++ [120]
theorem ex_in (k : Nat) (b : Int) : exT (k + 2) (inE b) = tI b := by
  have h : exT (k + 2) (inE b) = par (low varE (level b)) [120] ++ ([32] ++ opT b ++ [32]) ++ par (low varE (level b + 1)) [120] := rfl
  have h2 : ∀ l, low varE l = false := fun l => rfl
  rw [h, h2, h2]
  rfl
theorem low_in (b l : Int) : low (inE b) l = decide (level b < l) := rfl
theorem ex_left (k : Nat) (a b : Int) : exT (k + 3) (leftE a b) = par (decide (level b < level a)) (tI b) ++ ([32] ++ opT a ++ [32]) ++ [120] := by
  have h : exT (k + 3) (leftE a b) = par (low (inE b) (level a)) (exT (k + 2) (inE b)) ++ ([32] ++ opT a ++ [32]) ++ par (low varE (level a + 1)) [120] := rfl
  have h2 : ∀ l, low varE l = false := fun l => rfl
  rw [h, h2, ex_in k, low_in]
  rfl
theorem ex_right (k : Nat) (a b : Int) : exT (k + 3) (rightE a b) = [120] ++ ([32] ++ opT a ++ [32]) ++ par (decide (level b < level a + 1)) (tI b) := by
  have h : exT (k + 3) (rightE a b) = par (low varE (level a)) [120] ++ ([32] ++ opT a ++ [32]) ++ par (low (inE b) (level a + 1)) (exT (k + 2) (inE b)) := rfl
  have h2 : ∀ l, low varE l = false := fun l => rfl
  rw [h, h2, ex_in k, low_in]
  rfl
theorem ex_neg (k : Nat) {b : Int} (h1 : 1 ≤ b) (h2 : b ≤ 14) : exT (k + 3) (negE b) = [45, 40] ++ (tI b ++ [41]) := by
  have h : exT (k + 3) (negE b) = opT 15 ++ par (low (inE b) 9223372036854775807) (exT (k + 2) (inE b)) := rfl
  have h3 : decide (level b < 9223372036854775807) = true := by have := level_bd h1 h2; simp; omega
  rw [h, ex_in k, low_in, h3]
  rfl
theorem ex_at (k : Nat) (b : Int) : exT (k + 3) (atE b) = [114, 91, 120] ++ (([32] ++ opT b ++ [32]) ++ [120] ++ [93]) := by
  have h : exT (k + 3) (atE b) = [114] ++ [91] ++ exT (k + 2) (inE b) ++ [93] := rfl
  rw [h, ex_in k]
  unfold tI
  simp
theorem wf_var : WfE varE := ⟨⟨by decide, by decide⟩, ⟨by decide, by decide⟩, ⟨by decide, by decide⟩, by unfold maxLen; decide, by decide⟩
theorem wf4 {b : Int} (h1 : 1 ≤ b) (h2 : b ≤ 14) (y z : Ex) : WfE (.mk 4 b 0 ⟨#[]⟩ [y, z]) := ⟨⟨by show (-9223372036854775808 : Int) ≤ 4; decide, by show (4 : Int) ≤ 9223372036854775807; decide⟩, ⟨by show -9223372036854775808 ≤ b; omega, by show b ≤ 9223372036854775807; omega⟩, ⟨by show (-9223372036854775808 : Int) ≤ 0; decide, by show (0 : Int) ≤ 9223372036854775807; decide⟩, by show (0 : Nat) ≤ maxLen; exact Nat.zero_le _, by show 2 ≤ 9223372036854775807; decide⟩
end Go.Proofs.YtnpdeiffffjnjaaDoor
