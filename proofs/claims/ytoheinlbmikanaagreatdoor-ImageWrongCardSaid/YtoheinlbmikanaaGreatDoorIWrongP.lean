/- Images that may not be: one that may be, with something wrong put in; in plain words. -/
import Derived.Test.YtoheinlbmikanaaGreatDoorIFitP
namespace Go.Proofs.YtoheinlbmikanaaGreatDoor
open Go.RowKit Im
set_option linter.unusedVariables false
def tl : ByteArray := ⟨#[126]⟩
def tl2 : ByteArray := ⟨#[126, 126]⟩
def aB : ByteArray := ⟨#[97, 32, 98]⟩
theorem wrong0 (m : Img) {n : Int} (h : 1 ≤ n) : right ⟨m.words ++ [4294967296 + n], m.mem, m.syms⟩ = false :=
  right_word (j := m.words.length) (x := 4294967296 + n) (by simp) (by unfold isWd; rw [decide_eq_false_iff_not]; omega)
theorem wrong1 (m : Img) {n : Int} (h : 1 ≤ n) : right ⟨m.words ++ [-n], m.mem, m.syms⟩ = false :=
  right_word (j := m.words.length) (x := -n) (by simp) (by unfold isWd; rw [decide_eq_false_iff_not]; omega)
theorem wrong2 (m : Img) {n : Int} (h : 1 ≤ n) : right ⟨m.words, 4096 + n, m.syms⟩ = false := right_no (.inr (.inr (.inr (by show ¬ 4096 + n ≤ 4096; omega))))
theorem at_two {α : Type} (l : List α) (a b : α) : (l ++ [a, b])[l.length]? = some a ∧ (l ++ [a, b])[l.length + 1]? = some b := by
  constructor
  · rw [List.getElem?_append_right (Nat.le_refl _), Nat.sub_self]; rfl
  · rw [List.getElem?_append_right (by omega), show l.length + 1 - l.length = 1 by omega]; rfl
theorem at_one {α : Type} (l : List α) (a : α) : (l ++ [a])[l.length]? = some a := by rw [List.getElem?_append_right (Nat.le_refl _), Nat.sub_self]; rfl
theorem less_tl : less tl tl = false := by decide +kernel
theorem lab_aB : isLab aB = false := by decide +kernel
theorem wrong3 (m : Img) : right ⟨m.words, m.mem, m.syms ++ [⟨tl, 0⟩, ⟨tl, 0⟩]⟩ = false := by
  obtain ⟨h1, h2⟩ := at_two m.syms (⟨tl, 0⟩ : Sym) ⟨tl, 0⟩
  refine right_sym (j := m.syms.length + 1) (by simp) ?_
  unfold symOk
  show (match (m.syms ++ [(⟨tl, 0⟩ : Sym), ⟨tl, 0⟩])[m.syms.length + 1]? with | none => true | some x => isLab x.name && isPl x.place m.words.length && prevOk ⟨m.words, m.mem, m.syms ++ [⟨tl, 0⟩, ⟨tl, 0⟩]⟩ x.name (m.syms.length + 1)) = false
  rw [h2]
  show (isLab tl && isPl 0 m.words.length && (match (m.syms ++ [(⟨tl, 0⟩ : Sym), ⟨tl, 0⟩])[m.syms.length]? with | none => true | some y => less y.name tl)) = false
  rw [h1]
  show (isLab tl && isPl 0 m.words.length && less tl tl) = false
  rw [less_tl, Bool.and_false]
theorem wrong_last (m : Img) (x : Sym) (h : isLab x.name = false ∨ isPl x.place m.words.length = false) : right ⟨m.words, m.mem, m.syms ++ [x]⟩ = false := by
  refine right_sym (j := m.syms.length) (by simp) ?_
  unfold symOk
  show (match (m.syms ++ [x])[m.syms.length]? with | none => true | some x' => isLab x'.name && isPl x'.place m.words.length && prevOk ⟨m.words, m.mem, m.syms ++ [x]⟩ x'.name m.syms.length) = false
  rw [at_one]
  show (isLab x.name && isPl x.place m.words.length && _) = false
  rcases h with h | h <;> simp [h]
theorem wrong4 (m : Img) {n : Int} (h : 1 ≤ n) : right ⟨m.words, m.mem, m.syms ++ [⟨tl2, 4 * (m.words.length : Int) + 4 * n⟩]⟩ = false := by
  refine wrong_last m _ (.inr ?_)
  unfold isPl
  rw [decide_eq_false_iff_not]
  show ¬ _
  intro c
  simp at c
  omega
theorem wrong5 (m : Img) : right ⟨m.words, m.mem, m.syms ++ [⟨aB, 0⟩]⟩ = false := wrong_last m _ (.inl lab_aB)
end Go.Proofs.YtoheinlbmikanaaGreatDoor
