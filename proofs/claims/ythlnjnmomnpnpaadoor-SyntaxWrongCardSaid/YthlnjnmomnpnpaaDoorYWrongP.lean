/- What is not right, put into a right program, plain. -/
import Derived.Test.YthlnjnmomnpnpaaDoorYProgP
namespace Go.Proofs.YthlnjnmomnpnpaaDoor
open Tk
namespace Sy
set_option linter.unusedVariables false
def numOne : Ex := .mk 1 0 1 ⟨#[]⟩ []
def haltS : St := .mk 8 ⟨#[]⟩ ⟨#[]⟩ 0 [] [] []
/-- the law's twelve -/
def bads : List St := [.mk 0 ⟨#[]⟩ ⟨#[]⟩ 0 [] [] [], .mk 9 ⟨#[]⟩ ⟨#[]⟩ 0 [] [] [], .mk 8 ⟨#[]⟩ ⟨#[]⟩ 1 [] [] [], .mk 1 ⟨#[120]⟩ ⟨#[]⟩ 0 [] [] [], .mk 1 ⟨#[105, 102]⟩ ⟨#[]⟩ 0 [numOne] [] [], .mk 2 ⟨#[120]⟩ ⟨#[100]⟩ 4 [] [] [],
  .mk 3 ⟨#[100]⟩ ⟨#[]⟩ (-1) [numOne] [] [], .mk 4 ⟨#[114, 97]⟩ ⟨#[]⟩ 0 [numOne] [] [], .mk 5 ⟨#[114, 97]⟩ ⟨#[]⟩ 0 [] [] [haltS], .mk 7 ⟨#[]⟩ ⟨#[]⟩ 21 [] [] [], .mk 6 ⟨#[]⟩ ⟨#[]⟩ 0 [.mk 1 0 4294967296 ⟨#[]⟩ []] [] [], .mk 1 ⟨#[120]⟩ ⟨#[100]⟩ 0 [numOne] [] []]
theorem bad_body {d : Nat} {s : St} (h : fitsS (sShp s.kind) s = false ∨ areE 30 s.args = false) : bodyS d s = false := by
  cases d with
  | zero => rfl
  | succ d =>
    show (fitsS (sShp s.kind) s && (areE 30 s.args && (areS d s.thn && areS d s.els))) = false
    rcases h with h | h <;> rw [h]
    · rfl
    · rw [Bool.false_and, Bool.and_false]
theorem bads_bad (i : Nat) (hi : i < 12) (d : Nat) : bodyS d (bads.getD i haltS) = false := by
  rcases (show i = 0 ∨ i = 1 ∨ i = 2 ∨ i = 3 ∨ i = 4 ∨ i = 5 ∨ i = 6 ∨ i = 7 ∨ i = 8 ∨ i = 9 ∨ i = 10 ∨ i = 11 by omega) with rfl | rfl | rfl | rfl | rfl | rfl | rfl | rfl | rfl | rfl | rfl | rfl
  · exact bad_body (.inl (by decide +kernel))
  · exact bad_body (.inl (by decide +kernel))
  · exact bad_body (.inl (by decide +kernel))
  · exact bad_body (.inl (by decide +kernel))
  · exact bad_body (.inl (by decide +kernel))
  · exact bad_body (.inl (by decide +kernel))
  · exact bad_body (.inl (by decide +kernel))
  · exact bad_body (.inl (by decide +kernel))
  · exact bad_body (.inl (by decide +kernel))
  · exact bad_body (.inl (by decide +kernel))
  · exact bad_body (.inr (by decide +kernel))
  · exact bad_body (.inl (by decide +kernel))
/-- in so many repeats -/
def inRep : Nat → St → St
  | 0, s => s
  | n + 1, s => .mk 7 ⟨#[]⟩ ⟨#[]⟩ 2 [] [inRep n s] []
theorem rep_bad {s : St} (h : ∀ d, bodyS d s = false) : ∀ (n d : Nat), bodyS d (inRep n s) = false := by
  intro n
  induction n with
  | zero => exact h
  | succ n ih =>
    intro d
    cases d with
    | zero => rfl
    | succ d =>
      show (fitsS (sShp 7) (inRep (n + 1) s) && (areE 30 [] && (areS d [inRep n s] && areS d []))) = false
      have e : areS d [inRep n s] = false := by
        rw [areS_all]
        show (bodyS d (inRep n s) && true) = false
        rw [ih]
        rfl
      rw [e, Bool.false_and, Bool.and_false, Bool.and_false]
/-- a program with such a statement at a task's end -/
def setTask (p : Prg) (k : Nat) (t : Tsk) : Prg := { p with tasks := p.tasks.set k t }
def addS (t : Tsk) (s : St) : Tsk := { t with body := t.body ++ [s] }
theorem wrong_right {p : Prg} {k : Nat} {t : Tsk} {s : St} (hk : k < p.tasks.length) (h : bodyS 30 s = false) : right (setTask p k (addS t s)) = false := by
  have h1 : isTsk (addS t s) = false := by
    unfold isTsk addS
    have e : areS 30 (t.body ++ [s]) = false := by
      rw [areS_all, List.all_append]
      show (_ && (bodyS 30 s && true)) = false
      rw [h, Bool.false_and, Bool.and_false]
    rw [e]
    simp
  have h2 : (p.tasks.set k (addS t s)).all isTsk = false := by
    rw [List.all_eq_false]
    exact ⟨addS t s, List.mem_set hk _, by rw [h1]; decide⟩
  unfold right setTask
  simp only [h2, Bool.and_false]
theorem more_ne {p : Prg} (h : 0 < p.tasks.length) {t : Tsk} (ht : p.tasks[0]? = some t) (s : St) : p ≠ setTask p 0 (addS t s) := by
  intro e
  have h1 : p.tasks = p.tasks.set 0 (addS t s) := congrArg Prg.tasks e
  have h2 : p.tasks[0]? = (p.tasks.set 0 (addS t s))[0]? := by rw [← h1]
  rw [ht, List.getElem?_set_self h] at h2
  have h3 := congrArg (fun o : Option Tsk => (o.map fun t => t.body.length)) h2
  simp [addS] at h3
end Sy
end Go.Proofs.YthlnjnmomnpnpaaDoor
