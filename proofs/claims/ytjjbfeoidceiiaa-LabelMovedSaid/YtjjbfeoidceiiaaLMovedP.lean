/- What LabelMoved says, in plain words. -/
import Derived.Test.YtjjbfeoidceiiaaLShortW
import Derived.Test.YtjjbfeoidceiiaaLUp
namespace Go.Proofs.Ytjjbfeoidceiiaa
open Go.RowKit Rv Lb
set_option linter.unusedVariables false
/-- instructions ahead -/
structure Ahead (A : List Itm) : Prop where
  few : A.length ≤ 10
  kind : ∀ x ∈ A, x.kind = 1
  right : ∀ x ∈ A, rightX x = true ∧ Itm.wf x
theorem ahead_at {A L : List Itm} (j : Nat) : (A ++ L)[j + A.length]? = L[j]? := by
  rw [List.getElem?_append_right (by omega)]
  congr 1
  omega
theorem Ahead.size {A : List Itm} (h : Ahead A) : ∀ x ∈ A, size1 x = 1 := fun x hx => by
  have := h.kind x hx
  unfold size1
  rw [if_neg (by omega), if_neg (by omega), if_neg (by omega)]
theorem Ahead.sz {A L : List Itm} (h : Ahead A) (g : Nat → Bool) {j : Nat} (hj : j < A.length) : Lb.sz (A ++ L) g j = 1 := by
  unfold Lb.sz
  rw [List.getElem?_append_left hj, List.getElem?_eq_getElem hj]
  have hm := List.getElem_mem hj
  have hk := h.kind _ hm
  have hb : isBr A[j] = false := by unfold isBr; simp [hk]
  simp only [hb, Bool.false_and, Bool.false_eq_true, if_false]
  exact h.size _ hm
theorem Ahead.low {A L : List Itm} (h : Ahead A) (g : Nat → Bool) {j : Nat} (hj : j ≤ A.length) : place (A ++ L) g j = j := by
  induction j with
  | zero => rfl
  | succ j ih =>
    show place _ g j + Lb.sz _ g j = _
    rw [ih (by omega), h.sz g (by omega)]
theorem sz_ahead {A L : List Itm} (g : Nat → Bool) (j : Nat) : Lb.sz (A ++ L) g (j + A.length) = Lb.sz L (fun q => g (q + A.length)) j := by
  unfold Lb.sz
  rw [ahead_at]
theorem Ahead.place {A L : List Itm} (h : Ahead A) (g : Nat → Bool) (j : Nat) : Lb.place (A ++ L) g (j + A.length) = Lb.place L (fun q => g (q + A.length)) j + A.length := by
  induction j with
  | zero =>
    rw [Nat.zero_add, h.low g (Nat.le_refl _)]
    show _ = 0 + _
    omega
  | succ j ih =>
    rw [show j + 1 + A.length = (j + A.length) + 1 by omega]
    show Lb.place _ g (j + A.length) + Lb.sz _ g (j + A.length) = (Lb.place L _ j + Lb.sz L _ j) + _
    rw [ih, sz_ahead]
    omega
theorem Ahead.notNamed {A : List Itm} (h : Ahead A) (s : ByteArray) : ∀ x ∈ A, isNamed s x = false := fun x hx => by
  have := h.kind x hx
  unfold isNamed
  rw [this]
  rfl
theorem Ahead.named {A L : List Itm} (h : Ahead A) (s : ByteArray) : Lb.named (A ++ L) s = (Lb.named L s).map (· + A.length) := by
  unfold Lb.named
  rw [List.findIdx?_append]
  have h1 : A.findIdx? (isNamed s) = none := List.findIdx?_eq_none_iff.2 (fun x hx => h.notNamed s x hx)
  rw [h1]
  rfl
theorem Ahead.namedTo {A L : List Itm} (h : Ahead A) (s : ByteArray) (j : Nat) : Lb.namedTo (A ++ L) (j + A.length) s = (Lb.namedTo L j s).map (· + A.length) := by
  unfold Lb.namedTo
  have h0 : (A ++ L).take (j + A.length) = A ++ L.take j := by
    rw [List.take_append, show j + A.length - A.length = j by omega, List.take_of_length_le (by omega)]
  rw [h0]
  exact h.named s
theorem Ahead.br {A L : List Itm} (h : Ahead A) (j' : Nat) (hb : brAt (A ++ L) j' = true) : ∃ j, j' = j + A.length ∧ brAt L j = true := by
  by_cases hj : j' < A.length
  · unfold brAt at hb
    rw [List.getElem?_append_left hj, List.getElem?_eq_getElem hj] at hb
    have hk := h.kind _ (List.getElem_mem hj)
    unfold isBr at hb
    simp [hk] at hb
  · refine ⟨j' - A.length, by omega, ?_⟩
    have e : j' = (j' - A.length) + A.length := by omega
    rw [e] at hb
    unfold brAt at hb
    rw [ahead_at] at hb
    exact hb
theorem Ahead.to {A L : List Itm} (h : Ahead A) (hL : FitOk L) {j : Nat} {y : Itm} (hy : L[j]? = some y) (h3 : y.kind = 3) : Lb.to (A ++ L) (j + A.length) = Lb.to L j + A.length := by
  obtain ⟨q, hq, ht⟩ := hL.named hy h3
  rw [ht]
  unfold Lb.to
  rw [ahead_at, hy]
  simp only [h3, if_true, h.named, hq]
  rfl
theorem Ahead.fin {A L : List Itm} (h : Ahead A) (hL : FitOk L) (j : Nat) : Lb.fin (A ++ L) (j + A.length) = Lb.fin L j := by
  refine fin_up (· + A.length) (fun i j e => by have e1 : i + A.length = j + A.length := e; omega) (fun i hb => by unfold brAt at *; rw [ahead_at]; exact hb) (fun j' hb => h.br j' hb) (fun g i hb => ?_) j
  have hb' := hb
  unfold brAt at hb'
  cases hy : L[i]? with
  | none => rw [hy] at hb'; cases hb'
  | some y =>
    rw [hy] at hb'
    unfold isBr at hb'
    simp only [Bool.and_eq_true, decide_eq_true_eq] at hb'
    exact reach_up (c := A.length) (fun a => h.place g a) (h.to hL hy hb'.1)
theorem Ahead.fin' {A L : List Itm} (h : Ahead A) (hL : FitOk L) : (fun q => Lb.fin (A ++ L) (q + A.length)) = Lb.fin L := funext fun j => h.fin hL j
theorem Ahead.placeFin {A L : List Itm} (h : Ahead A) (hL : FitOk L) (j : Nat) : Lb.place (A ++ L) (Lb.fin (A ++ L)) (j + A.length) = Lb.place L (Lb.fin L) j + A.length := by rw [h.place, h.fin' hL]
theorem Ahead.okT {A L : List Itm} (h : Ahead A) (hL : FitOk L) : Lb.okT (A ++ L) = true := by
  have hok := hL.ok
  unfold Lb.okT at hok
  rw [List.all_eq_true] at hok
  refine okT_yes (fun j' hj' => ?_) (fun j' hj' => ?_)
  · by_cases hj : j' < A.length
    · unfold dupAt
      rw [List.getElem?_append_left hj, List.getElem?_eq_getElem hj]
      have hk := h.kind _ (List.getElem_mem hj)
      simp [hk]
    · obtain ⟨j, rfl⟩ : ∃ j, j' = j + A.length := ⟨j' - A.length, by omega⟩
      unfold dupAt
      rw [ahead_at]
      cases hy : L[j]? with
      | none => rfl
      | some y =>
        have := hok j (List.mem_range.2 (List.getElem?_eq_some_iff.1 hy).1)
        simp only [Bool.and_eq_true, Bool.not_eq_true'] at this
        have hd := this.1
        unfold dupAt at hd
        rw [hy] at hd
        simp only [h.namedTo, Option.isSome_map]
        exact hd
  · by_cases hj : j' < A.length
    · unfold lostAt
      rw [List.getElem?_append_left hj, List.getElem?_eq_getElem hj]
      have hk := h.kind _ (List.getElem_mem hj)
      simp [hk]
    · obtain ⟨j, rfl⟩ : ∃ j, j' = j + A.length := ⟨j' - A.length, by omega⟩
      unfold lostAt
      rw [ahead_at]
      cases hy : L[j]? with
      | none => rfl
      | some y =>
        have := hok j (List.mem_range.2 (List.getElem?_eq_some_iff.1 hy).1)
        simp only [Bool.and_eq_true, Bool.not_eq_true'] at this
        have hd := this.2
        unfold lostAt at hd
        rw [hy] at hd
        simp only [h.named, Option.isNone_map]
        exact hd
theorem Ahead.lay {A L : List Itm} (h : Ahead A) (hL : FitOk L) : layE (A ++ L) = 0 := by
  have h1 := place_fit hL.size (Lb.fin L) L.length
  have h2 := hL.most
  have h3 : (A ++ L).all rightX = true := List.all_eq_true.2 fun x hx => by
    rcases List.mem_append.1 hx with hx | hx
    · exact (h.right x hx).1
    · exact (hL.right x hx).1
  have h4 := h.placeFin hL L.length
  have h5 := h.few
  have h6 : (A ++ L).length = L.length + A.length := by rw [List.length_append]; omega
  unfold layE
  rw [h6, if_neg (by omega), if_neg (by rw [h3]; simp), if_neg (by rw [h.okT hL]; simp), if_neg (by omega)]
theorem Ahead.wf {A L : List Itm} (h : Ahead A) (hL : FitOk L) : ∀ x ∈ A ++ L, Itm.wf x := fun x hx => by
  rcases List.mem_append.1 hx with hx | hx
  · exact (h.right x hx).2
  · exact (hL.right x hx).2
theorem Ahead.instr {A L : List Itm} (h : Ahead A) (hL : FitOk L) {j : Nat} {y : Itm} (hy : L[j]? = some y) : instrL (A ++ L) (j + A.length) y = instrL L j y := by
  by_cases h3 : y.kind = 3
  · have ht := h.to hL hy h3
    have hb : byOf (A ++ L) (j + A.length) = byOf L j := by
      unfold byOf
      rw [ht, h.placeFin hL, h.placeFin hL]
      omega
    have hz : Lb.sz (A ++ L) (Lb.fin (A ++ L)) (j + A.length) = Lb.sz L (Lb.fin L) j := by
      rw [sz_ahead, h.fin' hL]
    unfold instrL leadL
    rw [hz, hb]
  · unfold instrL
    simp only [h3, if_false]
theorem Ahead.wordsLow {A L : List Itm} (h : Ahead A) {j : Nat} (hj : j ≤ A.length) : (wordsTo (A ++ L) j).length = j := by
  induction j with
  | zero => rfl
  | succ j ih =>
    have hlt : j < A.length := by omega
    have hx : (A ++ L)[j]? = some A[j] := by rw [List.getElem?_append_left hlt, List.getElem?_eq_getElem hlt]
    have hk := h.kind _ (List.getElem_mem hlt)
    rw [wordsTo_succ hx, List.length_append, ih (by omega)]
    unfold instrL
    rw [if_pos hk]
    rfl
theorem Ahead.words {A L : List Itm} (h : Ahead A) (hL : FitOk L) {j : Nat} (hj : j ≤ L.length) : wordsTo (A ++ L) (j + A.length) = wordsTo (A ++ L) A.length ++ wordsTo L j := by
  induction j with
  | zero => rw [Nat.zero_add]; simp [wordsTo]
  | succ j ih =>
    have hy : L[j]? = some (L[j]'(by omega)) := List.getElem?_eq_getElem _
    have hx : (A ++ L)[j + A.length]? = some (L[j]'(by omega)) := by rw [ahead_at]; exact hy
    rw [show j + 1 + A.length = (j + A.length) + 1 by omega, wordsTo_succ hx, wordsTo_succ hy, ih (by omega), h.instr hL hy, List.append_assoc]
/-- the words behind are the same -/
theorem Ahead.word {A L : List Itm} (h : Ahead A) (hL : FitOk L) (i : Nat) : (wordsTo (A ++ L) (A ++ L).length)[i + A.length]? = (wordsTo L L.length)[i]? := by
  have h6 : (A ++ L).length = L.length + A.length := by rw [List.length_append]; omega
  rw [h6, h.words hL (Nat.le_refl _), List.getElem?_append_right (by rw [h.wordsLow (Nat.le_refl _)]; omega), h.wordsLow (Nat.le_refl _)]
  congr 1
  omega
theorem Ahead.wordsLen {A L : List Itm} (h : Ahead A) (hL : FitOk L) : (wordsTo (A ++ L) (A ++ L).length).length = (wordsTo L L.length).length + A.length := by
  have h6 : (A ++ L).length = L.length + A.length := by rw [List.length_append]; omega
  rw [h6, h.words hL (Nat.le_refl _), List.length_append, h.wordsLow (Nat.le_refl _)]
  omega
/-- the places behind are so much further on -/
theorem Ahead.sum {A L : List Itm} (h : Ahead A) (hL : FitOk L) {i : Nat} (hi : i ≤ L.length) : (sumsTo (szs (A ++ L) (Lb.fin (A ++ L))) (A ++ L).length)[i + A.length]? = some (4 * (Lb.place L (Lb.fin L) i : Int) + 4 * (A.length : Int)) := by
  have h6 : (A ++ L).length = L.length + A.length := by rw [List.length_append]; omega
  rw [sumsTo_get _ _ _ (by omega), sumAt_place _ _ _ (by omega), h.placeFin hL]
  congr 1
  push_cast
  omega
end Go.Proofs.Ytjjbfeoidceiiaa
