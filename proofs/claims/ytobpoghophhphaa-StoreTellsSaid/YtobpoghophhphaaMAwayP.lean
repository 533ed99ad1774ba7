/- StoreAway in plain words: what is pending no other hart loads; what is flushed is loaded as before. -/
import Derived.Test.YtobpoghophhphaaMLawP
namespace Go.Proofs.Ytobpoghophhphaa.Mm
open Go.RowKit (wrap32)
open Plain (two isTwo)
set_option linter.unusedVariables false
theorem arrs_word {m : Mem} {H N : Nat} (b : Big m H N) (h : Int) {w : Nat} (hw : w < N) (l : List (Int × Int)) (ha : ∀ e ∈ l, 0 ≤ e.1 ∧ e.1 < (N : Int)) : wordN (arrs m h l) w = last l w (wordN m w) := by
  induction l generalizing m with
  | nil => rfl
  | cons e l ih =>
    show wordN (arrs (arr m h e.1 e.2) h l) w = last l w (if e.1 = (w : Int) then e.2 else wordN m w)
    rw [ih (big_arr b h e.1 e.2) (fun x hx => ha x (by simp [hx]))]
    obtain ⟨a, hae⟩ : ∃ a : Nat, e.1 = a := ⟨e.1.toNat, by have := ha e (by simp); omega⟩
    rw [hae]
    by_cases hc : a = w
    · subst hc
      rw [if_pos rfl, word_same b hw]
    · rw [if_neg (by omega), word_other hc]
theorem last_snoc (l : List (Int × Int)) (x : Int × Int) (a d : Int) : Mm.last (l ++ [x]) a d = if x.1 = a then x.2 else Mm.last l a d := by
  unfold Mm.last
  rw [List.foldl_append]
  rfl
theorem away_all {m : Mem} {H N : Nat} (b : Big m H N) {h k : Nat} (hh : h < H) (hk : k < N) (n : Int) : ∃ (nx dn : Mem), (storeV m h k n = (nx, 0) ∨ (storeV m h k n = (zero, 90) ∧ nx = m)) ∧ Big nx H N ∧ flushV nx h = (dn, 0) ∧ Big dn H N ∧ row dn h = [] ∧
    ∀ i w : Nat, i < H → w < N → (i ≠ h → loadN m i w = loadN nx i w) ∧ (i = h → loadN nx i w = loadN dn i w) ∧ (w ≠ k → loadN m i w = loadN nx i w) := by
  have main : ∀ nx : Mem, Big nx H N → (∀ i w : Nat, i < H → w < N → (i ≠ h → loadN m i w = loadN nx i w) ∧ (w ≠ k → loadN m i w = loadN nx i w)) → (storeV m h k n = (nx, 0) ∨ (storeV m h k n = (zero, 90) ∧ nx = m)) →
      ∃ (nx dn : Mem), (storeV m h k n = (nx, 0) ∨ (storeV m h k n = (zero, 90) ∧ nx = m)) ∧ Big nx H N ∧ flushV nx h = (dn, 0) ∧ Big dn H N ∧ row dn h = [] ∧
        ∀ i w : Nat, i < H → w < N → (i ≠ h → loadN m i w = loadN nx i w) ∧ (i = h → loadN nx i w = loadN dn i w) ∧ (w ≠ k → loadN m i w = loadN nx i w) := by
    intro nx bn hl hs
    refine ⟨nx, flushN nx h, hs, bn, flush_eq bn hh, big_flush bn h, flush_row bn hh, fun i w hi hw => ⟨(hl i w hi hw).1, fun e => ?_, (hl i w hi hw).2⟩⟩
    subst e
    have hr := flush_row bn hh
    rw [load_nil hr]
    show last (row nx i) w (wordN nx w) = wordN (arrs nx i (row nx i)) w
    rw [arrs_word bn i hw _ (row_at bn hh).2]
  by_cases h8 : 8 ≤ (row m h).length
  · exact main m b (fun i w _ _ => ⟨fun _ => rfl, fun _ => rfl⟩) (.inr ⟨store_full b hh hk h8 n, rfl⟩)
  · obtain ⟨g8, hat⟩ := row_at b hh
    refine main _ (big_setP' b h (l := row m h ++ [((k : Int), wrap32 n)]) (by rw [List.length_append, List.length_singleton]; omega) (fun e he => ?_)) (fun i w hi hw => ⟨fun hne => ?_, fun hwk => ?_⟩) (.inl (store_eq b hh hk (by omega) n))
    · rcases List.mem_append.1 he with h | h
      · exact hat e h
      · rw [List.mem_singleton.1 h]; exact ⟨by simp, by simp; omega⟩
    · unfold loadN
      rw [row_other (fun c => hne c.symm)]
      rfl
    · unfold loadN
      by_cases hih : i = h
      · subst hih
        rw [row_same b hh, last_snoc, if_neg (by show ¬ (k : Int) = (w : Int); omega)]
        rfl
      · rw [row_other (fun c => hih c.symm)]
        rfl
end Go.Proofs.Ytobpoghophhphaa.Mm
