/- A flush in plain words: a drain of the first, as often as there are some. -/
import Derived.Test.YtobpoghophhphaaMTurnsP
namespace Go.Proofs.Ytobpoghophhphaa.Mm
open Go.RowKit (wrap32)
set_option linter.unusedVariables false
theorem arrsPend (m : Mem) (h : Int) (l : List (Int × Int)) : (arrs m h l).pend = m.pend := by
  unfold arrs
  induction l generalizing m with
  | nil => rfl
  | cons x l ih => exact ih _
/-- k of the hart's are drained -/
def flK (m : Mem) (h : Nat) (k : Nat) : Mem := setP (arrs m h ((row m h).take k)) h ((row m h).drop k)
theorem flK_row {m : Mem} {h : Nat} (hh : isH m h = true) (k : Nat) : row (flK m h k) h = (row m h).drop k := by
  have h1 := isH_iff.1 hh
  unfold flK row setP
  simp only [arrsPend, Int.toNat_natCast]
  rw [List.getD_eq_getElem?_getD, List.getElem?_set_self (by omega)]
  rfl
theorem flK_isH {m : Mem} {h : Nat} (hh : isH m h = true) (k : Nat) : isH (flK m h k) h = true := by
  rw [← hh]
  unfold isH flK setP
  simp only [arrsPend, List.length_set]
theorem flK_zero {m : Mem} {h : Nat} (hh : isH m h = true) : flK m h 0 = m := by
  have h1 := isH_iff.1 hh
  have h2 := row_get hh
  rw [Int.toNat_natCast] at h2
  unfold flK setP
  rw [List.take_zero, List.drop_zero]
  show (⟨m.words, m.pend.set (h : Int).toNat (row m h), m.res⟩ : Mem) = m
  rw [Int.toNat_natCast]
  obtain ⟨w, p, r⟩ := m
  simp only at h2 ⊢
  congr 1
  apply List.ext_getElem?
  intro i
  by_cases hi : i = h
  · subst hi
    rw [List.getElem?_set_self (List.getElem?_eq_some_iff.1 h2).1, h2]
  · rw [List.getElem?_set_ne (Ne.symm hi)]
theorem flK_end (m : Mem) (h : Nat) : flK m h (row m h).length = flushN m h := by
  unfold flK flushN
  rw [List.take_length, List.drop_length]
theorem flK_step {m : Mem} {h : Nat} (hh : isH m h = true) {k : Nat} (hk : k < (row m h).length) : drainV (flK m h k) h 0 = (flK m h (k + 1), 0) := by
  obtain ⟨x, hx⟩ : ∃ x, (row m h)[k]? = some x := ⟨_, List.getElem?_eq_getElem hk⟩
  have hd : (row m h).drop k = x :: (row m h).drop (k + 1) := by
    rw [List.drop_eq_getElem_cons hk]
    congr 1
    have := (List.getElem?_eq_some_iff.1 hx).2
    exact this
  unfold drainV
  rw [flK_isH hh, flK_row hh, hd, if_pos (by simp)]
  simp only [Int.toNat_zero, List.getD_cons_zero, List.take_zero, List.any_nil, List.eraseIdx_cons_zero]
  rw [if_neg (by decide)]
  unfold flK
  have ht : arrs m h ((row m h).take (k + 1)) = arr (arrs m h ((row m h).take k)) h x.1 x.2 := by
    unfold arrs
    rw [List.take_add_one, hx, List.foldl_append]
    rfl
  rw [ht]
  change (setP (setP (arr (arrs m h ((row m h).take k)) h x.1 x.2) h _) h _, (0 : Int)) = _
  rw [setP_setP_same]
/-- all but one, so far -/
theorem but_step {α : Type} {l : List α} {k i : Nat} {x : α} (hx : l[k]? = some x) : (l.take (k + 1)).eraseIdx i = if k = i then (l.take k).eraseIdx i else (l.take k).eraseIdx i ++ [x] := by
  have hkl := (List.getElem?_eq_some_iff.1 hx).1
  have hl : (l.take k).length = k := by rw [List.length_take]; omega
  rw [List.take_add_one, hx]
  show (l.take k ++ [x]).eraseIdx i = _
  by_cases h1 : k = i
  · subst h1
    rw [if_pos rfl, List.eraseIdx_of_length_le (l := l.take k) (by omega), List.eraseIdx_append_of_length_le (by omega), hl, Nat.sub_self]
    simp
  · rw [if_neg h1]
    by_cases h2 : i < k
    · rw [List.eraseIdx_append_of_lt_length (by omega)]
    · rw [List.eraseIdx_append_of_length_le (by omega), hl, List.eraseIdx_of_length_le (l := l.take k) (by omega), List.eraseIdx_of_length_le (by simp; omega)]
/-- what is reserved, k of it seen -/
def resK (r : List Int) (h a : Int) (k : Nat) : List Int := r.mapIdx fun i x => if i < k ∧ (i : Int) ≠ h ∧ x = a then -1 else x
theorem resK_zero (r : List Int) (h a : Int) : resK r h a 0 = r := by
  unfold resK
  apply List.ext_getElem?
  intro i
  rw [List.getElem?_mapIdx]
  cases r[i]? <;> simp
theorem resK_end (r : List Int) (h a : Int) : resK r h a r.length = r.mapIdx fun i x => if (i : Int) ≠ h ∧ x = a then -1 else x := by
  unfold resK
  apply List.ext_getElem?
  intro i
  rw [List.getElem?_mapIdx, List.getElem?_mapIdx]
  cases hi : r[i]? with
  | none => rfl
  | some x => simp [(List.getElem?_eq_some_iff.1 hi).1]
theorem resK_len (r : List Int) (h a : Int) (k : Nat) : (resK r h a k).length = r.length := by unfold resK; simp
theorem resK_at {r : List Int} {h a x : Int} {k : Nat} (hx : r[k]? = some x) : (resK r h a k)[k]? = some x := by
  unfold resK
  rw [List.getElem?_mapIdx, hx]
  simp
theorem resK_step {r : List Int} {h a x : Int} {k : Nat} (hx : r[k]? = some x) : resK r h a (k + 1) = if (k : Int) ≠ h ∧ x = a then (resK r h a k).set k (-1) else resK r h a k := by
  have hk := (List.getElem?_eq_some_iff.1 hx).1
  apply List.ext_getElem?
  intro i
  by_cases hi : i = k
  · subst hi
    by_cases hc : (i : Int) ≠ h ∧ x = a
    · rw [if_pos hc, List.getElem?_set_self (by rw [resK_len]; exact hk)]
      unfold resK
      rw [List.getElem?_mapIdx, hx]
      simp [hc]
    · rw [if_neg hc, resK_at hx]
      unfold resK
      rw [List.getElem?_mapIdx, hx]
      simp only [Option.map_some, Option.some.injEq]
      rw [if_neg (fun c => hc c.2)]
  · have he : (resK r h a (k + 1))[i]? = (resK r h a k)[i]? := by
      unfold resK
      rw [List.getElem?_mapIdx, List.getElem?_mapIdx]
      have h1 : i < k + 1 ↔ i < k := by omega
      simp only [h1]
    rw [he]
    split
    · rw [List.getElem?_set_ne (Ne.symm hi)]
    · rfl
end Go.Proofs.Ytobpoghophhphaa.Mm
