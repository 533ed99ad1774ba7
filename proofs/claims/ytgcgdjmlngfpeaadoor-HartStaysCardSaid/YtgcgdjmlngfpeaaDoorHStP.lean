/- What an instruction leaves as it was: plain. -/
import Derived.Test.YtgcgdjmlngfpeaaDoorHLaw1
namespace Go.Proofs.YtgcgdjmlngfpeaaDoor
open Go.RowKit Ht
set_option linter.unusedVariables false
set_option linter.unusedSimpArgs false
open Rv (Ins)
theorem put_ne {h : H} {d n : Int} {j : Nat} (hj : (j : Int) ≠ d ∨ j = 0 ∨ 32 ≤ j) : put h d n j = h j := by
  unfold put
  split
  · rename_i c
    exact up_ne _ _ (by omega)
  · rfl
theorem csrK_bd {n bt : Int} {k : Nat} (h : csrK n = some (k, bt)) : 33 ≤ k ∧ k < 39 := by
  unfold csrK at h
  repeat' split at h
  all_goals (first | (injection h with h; injection h with h1 h2; omega) | cases h)
theorem stays {h g : H} {id : Int} {x : Ins} {e : Eff} (hs : stepV h id x = (g, e)) :
    (∀ j : Nat, j < 32 → ((j : Int) ≠ (if Rv.right x then x.d else 0) ∨ j = 0 ∨ e.kind ≠ 0) → g j = h j) ∧ (¬ ((40 ≤ x.op ∧ x.op ≤ 42) ∨ x.op = 44) → ∀ j : Nat, 33 ≤ j → j < 39 → g j = h j) := by
  unfold stepV at hs
  cases hr : Rv.right x with
  | false =>
    rw [if_pos hr] at hs
    injection hs with e1 e2
    subst e1
    exact ⟨fun _ _ _ => rfl, fun _ _ _ _ => rfl⟩
  | true =>
    rw [if_neg (by rw [hr]; decide)] at hs
    have k0 : ∀ j : Nat, ((j : Int) ≠ (if true = true then x.d else 0) ∨ j = 0 ∨ e0.kind ≠ 0) → (j : Int) ≠ x.d ∨ j = 0 ∨ 32 ≤ j := fun j hj => by
      rw [if_pos rfl] at hj
      rcases hj with hj | hj | hj
      · exact .inl hj
      · exact .inr (.inl hj)
      · exact absurd rfl hj
    by_cases c3 : x.op = 3
    · rw [if_pos c3] at hs
      injection hs with e1 e2
      subst e1 e2
      exact ⟨fun j hj h' => by rw [up_ne _ _ (by omega), put_ne (k0 j h')], fun _ j h1 h2 => by rw [up_ne _ _ (by omega), put_ne (.inr (.inr (by omega)))]⟩
    rw [if_neg c3] at hs
    by_cases c4 : x.op = 4
    · rw [if_pos c4] at hs
      injection hs with e1 e2
      subst e1 e2
      exact ⟨fun j hj h' => by rw [up_ne _ _ (by omega), put_ne (k0 j h')], fun _ j h1 h2 => by rw [up_ne _ _ (by omega), put_ne (.inr (.inr (by omega)))]⟩
    rw [if_neg c4] at hs
    by_cases c5 : 5 ≤ x.op ∧ x.op ≤ 10
    · rw [if_pos c5] at hs
      injection hs with e1 e2
      subst e1 e2
      exact ⟨fun j hj h' => up_ne _ _ (by omega), fun _ j h1 h2 => up_ne _ _ (by omega)⟩
    rw [if_neg c5] at hs
    by_cases c44 : x.op = 44
    · rw [if_pos c44] at hs
      injection hs with e1 e2
      subst e1 e2
      exact ⟨fun j hj h' => by rw [up_ne _ _ (by omega), up_ne _ _ (by omega)], fun hn => absurd (.inr c44) hn⟩
    rw [if_neg c44] at hs
    by_cases c40 : 40 ≤ x.op ∧ x.op ≤ 42
    · rw [if_pos c40] at hs
      refine ⟨fun j hj h' => ?_, fun hn => absurd (.inl c40) hn⟩
      unfold csrV at hs
      by_cases cn : x.n = 3860
      · rw [if_pos cn] at hs
        injection hs with e1 e2
        subst e1 e2
        show Ht.go _ 4 j = _
        unfold Ht.go
        rw [up_ne _ _ (by omega), put_ne (k0 j h')]
      rw [if_neg cn] at hs
      cases hk : csrK x.n with
      | none =>
        rw [hk] at hs
        injection hs with e1 e2
        subst e1
        rfl
      | some p =>
        obtain ⟨k, bt⟩ := p
        rw [hk] at hs
        injection hs with e1 e2
        subst e1 e2
        have := csrK_bd hk
        unfold Ht.go
        rw [up_ne _ _ (by omega), put_ne (k0 j h'), up_ne _ _ (by omega)]
    rw [if_neg c40] at hs
    by_cases cE : isEff x.op
    · rw [if_pos cE] at hs
      injection hs with e1 e2
      subst e1
      exact ⟨fun j hj h' => up_ne _ _ (by omega), fun _ j h1 h2 => up_ne _ _ (by omega)⟩
    · rw [if_neg cE] at hs
      injection hs with e1 e2
      subst e1 e2
      unfold Ht.go
      exact ⟨fun j hj h' => by rw [up_ne _ _ (by omega), put_ne (k0 j h')], fun _ j h1 h2 => by rw [up_ne _ _ (by omega), put_ne (.inr (.inr (by omega)))]⟩
end Go.Proofs.YtgcgdjmlngfpeaaDoor
