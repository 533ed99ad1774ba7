/- A field of one element of a row is another. -/
import Derived.Test.YtigefdoejcggpaaNDrawn
namespace Go.Proofs.Ytigefdoejcggpaa
open Go.RowKit Ax
set_option linter.unusedVariables false
set_option linter.unusedSimpArgs false
theorem flat_set {α : Type} {enc : α → List Value} {k : Nat} (hk : ∀ x, (enc x).length = k) {l : List α} {j : Nat} {x x' : α} (hj : l[j]? = some x) {f : Nat} (hf : f < k) {u : Value} (hx : enc x' = (enc x).set f u) : (l.set j x').flatMap enc = (l.flatMap enc).set (j * k + f) u := by
  induction l generalizing j with
  | nil => simp at hj
  | cons y l ih =>
    cases j with
    | zero =>
      simp only [List.getElem?_cons_zero, Option.some.injEq] at hj
      subst hj
      rw [List.set_cons_zero, List.flatMap_cons, List.flatMap_cons, hx, Nat.zero_mul, Nat.zero_add, List.set_append, if_pos (by rw [hk]; exact hf)]
    | succ j =>
      rw [List.getElem?_cons_succ] at hj
      have e : (j + 1) * k + f = k + (j * k + f) := by rw [Nat.succ_mul]; omega
      rw [List.set_cons_succ, List.flatMap_cons, List.flatMap_cons, ih hj, e, List.set_append, if_neg (by rw [hk]; omega), hk, Nat.add_sub_cancel_left]
/-- one field of one element of an own row is written -/
theorem ERow.setf {α : Type} {enc : α → List Value} {t : TypeId} {k : Nat} (hk : ∀ x, (enc x).length = k) {w : World} {base g n c : Nat} {l : List α} (h : ERow enc t k w base (.slice (some ⟨g, 0, none⟩) n c) l) {j : Nat} {x x' : α} (hj : l[j]? = some x) {f : Nat} (hf : f < k) {u : Value} (hx : enc x' = (enc x).set f u) :
    ERow enc t k (w.setCell ⟨g, j * k + f, none⟩ u) base (.slice (some ⟨g, 0, none⟩) n c) (l.set j x') := by
  have hfl := flat_set hk hj hf hx
  have hjl := (List.getElem?_eq_some_iff.1 hj).1
  have hlt : j * k + f < l.length * k := by
    have : (j + 1) * k ≤ l.length * k := Nat.mul_le_mul_right _ hjl
    rw [Nat.succ_mul] at this
    omega
  refine ⟨?_, ?_⟩
  · rw [hfl, List.length_set, List.length_set]
    exact h.1
  rcases h.2 with ⟨h1, hx⟩ | ⟨g', cap, cur, h2, hb, hg, hnc, hcm, hcs, htake⟩
  · cases h1
  · injection h2 with h2 h3 h4
    injection h2 with h2
    injection h2 with h2
    subst h2
    refine .inr ⟨g, cap, cur.setIfInBounds (j * k + f) u, by rw [List.length_set, h3, h4], hb, heap_set hg _ u, by rw [List.length_set]; exact hnc, hcm, by rw [Array.size_setIfInBounds]; exact hcs, ?_⟩
    rw [hfl, List.length_set, ← htake]
    first
    | (rw [Array.toList_setIfInBounds, List.take_set])
    | (rw [Array.toList_setIfInBounds, List.set_take])
    | (simp [List.take_set])
theorem set_mid {α : Type} {l a : List α} {j : Nat} (ha : a.length = j) (x : α) (hj : j < l.length) : (a ++ l.drop j).set j x = (a ++ [x]) ++ l.drop (j + 1) := by
  rw [List.set_append, if_neg (by omega), ha, Nat.sub_self, List.drop_eq_getElem_cons hj, List.set_cons_zero, List.append_assoc]
  rfl
theorem get_mid {α : Type} {l a : List α} {j : Nat} (ha : a.length = j) {x : α} (hj : l[j]? = some x) : (a ++ l.drop j)[j]? = some x := by
  rw [List.getElem?_append_right (by omega), ha, Nat.sub_self, List.getElem?_drop]
  exact hj
theorem at4 {w : World} {g o : Nat} {x : Ev} (h : ∀ (i : Nat) (v : Value), (encQ x)[i]? = some v → w.cell? ⟨g, o + i, none⟩ = some v) : w.cell? ⟨g, o, none⟩ = some (.int .i64 x.1) ∧ w.cell? ⟨g, o + 1, none⟩ = some (.int .i64 x.2.1) ∧ w.cell? ⟨g, o + 2, none⟩ = some (.int .i64 x.2.2.1) ∧ w.cell? ⟨g, o + 3, none⟩ = some (.int .i64 x.2.2.2) := ⟨h 0 _ rfl, h 1 _ rfl, h 2 _ rfl, h 3 _ rfl⟩
end Go.Proofs.Ytigefdoejcggpaa
