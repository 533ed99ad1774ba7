/- Which texts are numbers, told by their lengths and heads, in plain words. -/
import Derived.Test.YtgameoiofikhmaaDoorTPick
namespace Go.Proofs.YtgameoiofikhmaaDoor.Tk
set_option linter.unusedVariables false
def lim (o : Option Nat) : Option Nat := match o with
  | some n => if n ≤ 4294967295 then some n else none
  | none => none
theorem pre_take (s : Bs) : ([48, 120] : Bs).isPrefixOf s = decide (s.take 2 = [48, 120]) := by
  rw [Bool.eq_iff_iff, decide_eq_true_eq, List.isPrefixOf_iff_prefix]
  constructor
  · intro h
    exact (List.prefix_iff_eq_take.1 h).symm
  · intro h
    rw [← h]
    exact List.take_prefix _ _
theorem valueV_lim {s : Bs} {b m : Nat} (h1 : 1 ≤ s.length) (h2 : s.length ≤ m) : valueV s b m = lim (val b s 0) := by
  unfold valueV
  rw [if_neg (by omega)]
  rfl
theorem valueV_none {s : Bs} {b m : Nat} (h : s.length = 0 ∨ m < s.length) : valueV s b m = none := by
  unfold valueV
  rw [if_pos h]
theorem number_hexCase {s : Bs} (h2 : 2 < s.length) (h10 : s.length ≤ 10) (hp : s.take 2 = [48, 120]) : number s = lim (val 16 (s.drop 2) 0) := by
  unfold number
  rw [if_pos (by rw [pre_take]; exact decide_eq_true hp)]
  exact valueV_lim (by rw [List.length_drop]; omega) (by rw [List.length_drop]; omega)
theorem head_of_take {s : Bs} (hp : s.take 2 = [48, 120]) : s.head? = some 48 ∧ 2 ≤ s.length := by
  have hl := congrArg List.length hp
  rw [List.length_take] at hl
  have h2 : min 2 s.length = 2 := hl
  cases s with
  | nil => cases hp
  | cons c t =>
    rw [List.take_succ_cons, List.cons.injEq] at hp
    exact ⟨by rw [hp.1]; rfl, by omega⟩
theorem number_hexNone {s : Bs} (hp : s.take 2 = [48, 120]) (h : s.length ≤ 2 ∨ 10 < s.length) : number s = none := by
  have h2 := (head_of_take hp).2
  unfold number
  rw [if_pos (by rw [pre_take]; exact decide_eq_true hp)]
  exact valueV_none (by rw [List.length_drop]; omega)
theorem number_decCase {s : Bs} (hp : s.take 2 ≠ [48, 120]) (h : s.length = 1 ∨ (1 < s.length ∧ s.length ≤ 10 ∧ s.head? ≠ some 48)) : number s = lim (val 10 s 0) := by
  unfold number
  rw [if_neg (by rw [pre_take, decide_eq_false hp]; exact Bool.false_ne_true), if_neg (by rintro ⟨h1, h2⟩; rcases h with h | h; omega; exact h.2.2 h2)]
  exact valueV_lim (by omega) (by omega)
theorem number_decNone {s : Bs} (hp : s.take 2 ≠ [48, 120]) (h : s.length = 0 ∨ 10 < s.length ∨ (1 < s.length ∧ s.head? = some 48)) : number s = none := by
  unfold number
  rw [if_neg (by rw [pre_take, decide_eq_false hp]; exact Bool.false_ne_true)]
  by_cases h1 : 1 < s.length ∧ s.head? = some 48
  · rw [if_pos h1]
  · rw [if_neg h1]
    exact valueV_none (by rcases h with h | h | h; omega; omega; exact absurd h h1)
/-- what a number's reading tells; below 0: none -/
def vOf : Option Nat → Int
  | some n => n
  | none => -1
end Go.Proofs.YtgameoiofikhmaaDoor.Tk
