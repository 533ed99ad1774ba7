/- What LabelLeads and LabelBetween say, in plain words: the words of each item stand at its place, and are read again. -/
import Derived.Test.YtjjbfeoidceiiaaLShortW
namespace Go.Proofs.Ytjjbfeoidceiiaa
open Go.RowKit Rv Lb
set_option linter.unusedVariables false
theorem dec_encV {i : Ins} (h : right i = true) : decV (encV i) = i ∧ decE (encV i) = 0 := by
  have h1 := dec_enc h
  unfold decV decE encV
  rw [h]
  simp only [if_true, h1]
  exact ⟨rfl, rfl⟩
theorem instrL_sz {l : List Itm} {k : Nat} {x : Itm} (hx : l[k]? = some x) (hr : rightX x = true) : (instrL l k x).length = sz l (Lb.fin l) k := by
  have hs : sz l (Lb.fin l) k = if isBr x && Lb.fin l k then 2 else size1 x := by unfold sz; rw [hx]
  have hnb : x.kind ≠ 3 → sz l (Lb.fin l) k = size1 x := fun h3 => by
    rw [hs]
    unfold isBr
    simp [h3]
  unfold instrL
  by_cases h1 : x.kind = 1
  · rw [if_pos h1, hnb (by omega)]
    unfold size1
    rw [if_neg (by omega), if_neg (by omega), if_neg (by omega)]
    rfl
  rw [if_neg h1]
  by_cases h3 : x.kind = 3
  · rw [if_pos h3]
    have h31 : size1 x = 1 := by
      unfold size1
      rw [if_neg (by omega), if_neg (by omega), if_neg (by omega)]
    unfold leadL
    rw [h31] at hs
    split at hs
    · rw [if_neg (by omega), hs]; rfl
    · rw [if_pos hs, hs]; rfl
  rw [if_neg h3, hnb h3]
  by_cases h4 : x.kind = 4
  · rw [if_pos h4]
    unfold size1
    rw [if_neg (by omega), if_pos h4]
  rw [if_neg h4]
  by_cases h5 : x.kind = 5
  · rw [if_pos h5, List.length_replicate]
    unfold size1
    rw [if_neg (by omega), if_neg h4, if_pos h5]
  rw [if_neg h5]
  unfold size1
  unfold rightX at hr
  rw [if_neg h1] at hr
  by_cases h2 : x.kind = 2
  · rw [if_pos h2]; rfl
  · rw [if_neg h2, if_neg h3, if_neg h4, if_neg h5] at hr
    cases hr
theorem words_place {l : List Itm} (hR : allRight l) {k : Nat} (hk : k ≤ l.length) : (wordsTo l k).length = place l (Lb.fin l) k := by
  induction k with
  | zero => rfl
  | succ k ih =>
    have hx : l[k]? = some (l[k]'(by omega)) := List.getElem?_eq_getElem _
    rw [wordsTo_succ hx, List.length_append, List.length_map, ih (by omega), instrL_sz hx (hR _ (List.mem_of_getElem? hx)).1]
    rfl
theorem words_pre {l : List Itm} {i j n : Nat} (hij : i ≤ j) {v : Int} (h : (wordsTo l i)[n]? = some v) : (wordsTo l j)[n]? = some v := by
  induction j with
  | zero => obtain rfl : i = 0 := by omega
            exact h
  | succ j ih =>
    by_cases e : i = j + 1
    · subst e; exact h
    · have := ih (by omega)
      obtain ⟨s, e2⟩ : ∃ s, wordsTo l (j + 1) = wordsTo l j ++ s := ⟨_, by unfold wordsTo; rw [List.range_succ, List.flatMap_append]⟩
      rw [e2, List.getElem?_append_left (List.getElem?_eq_some_iff.1 this).1]
      exact this
/-- the words of an item stand at its place -/
theorem word_at {l : List Itm} (hR : allRight l) {k q : Nat} {x : Itm} {i : Ins} (hx : l[k]? = some x) (hq : (instrL l k x)[q]? = some i) : (wordsTo l l.length)[place l (Lb.fin l) k + q]? = some (encV i) := by
  have hk := (List.getElem?_eq_some_iff.1 hx).1
  refine words_pre (i := k + 1) hk ?_
  have hl := words_place hR (Nat.le_of_lt hk)
  rw [wordsTo_succ hx, List.getElem?_append_right (by omega), hl, show place l (Lb.fin l) k + q - place l (Lb.fin l) k = q by omega, List.getElem?_map, hq]
  rfl
theorem num_right {d n : Int} (h : mayLoad d n = true) : ∀ i ∈ number d n, right i = true := by
  have f13 : form 13 = 73 := by decide +kernel
  have f1 : form 1 = 85 := by decide +kernel
  have hb := low12_bd n
  unfold mayLoad at h
  simp only [decide_eq_true_eq] at h
  intro i hi
  unfold number at hi
  split at hi
  · split at hi
    · simp at hi; subst hi
      rename_i hn
      unfold right
      simp only [f13]
      simp [hasD, hasA, hasB, num, reg]
      omega
    · simp at hi
      rcases hi with rfl | rfl
      · have : 0 ≤ high20 n ∧ high20 n < 1048576 := by unfold high20; omega
        unfold right
        simp only [f1]
        simp [hasD, hasA, hasB, num, reg]
        omega
      · unfold right
        simp only [f13]
        simp [hasD, hasA, hasB, num, reg]
        omega
  · cases hi
theorem isB_form {op : Int} (h : isB op = true) : form op = 66 := by
  unfold isB at h
  rw [decide_eq_true_eq] at h
  have h6 : op = 5 ∨ op = 6 ∨ op = 7 ∨ op = 8 ∨ op = 9 ∨ op = 10 := by omega
  rcases h6 with rfl | rfl | rfl | rfl | rfl | rfl <;> decide +kernel
theorem isB_opp' {op : Int} (h : isB op = true) : isB (opp op) = true := by
  unfold isB at *
  rw [decide_eq_true_eq] at *
  have h6 : op = 5 ∨ op = 6 ∨ op = 7 ∨ op = 8 ∨ op = 9 ∨ op = 10 := by omega
  rcases h6 with rfl | rfl | rfl | rfl | rfl | rfl <;> decide +kernel
/-- a branch or a jump with another distance that may be -/
theorem right_by {o d a b n : Int} (h : right ⟨o, d, a, b, 0⟩ = true) (hm : form o = 66 ∧ -4096 ≤ n ∧ n ≤ 4094 ∧ n % 2 = 0 ∨ form o = 74 ∧ -1048576 ≤ n ∧ n ≤ 1048574 ∧ n % 2 = 0) : right ⟨o, d, a, b, n⟩ = true := by
  unfold right at *
  simp only [Bool.and_eq_true] at *
  refine ⟨h.1, ?_⟩
  unfold num
  rcases hm with ⟨hf, h1⟩ | ⟨hf, h1⟩ <;> simp only [hf]
  · simp; omega
  · simp; omega
theorem right_opp {o d a b : Int} (h : right ⟨o, d, a, b, 0⟩ = true) (hB : isB o = true) : right ⟨opp o, d, a, b, 0⟩ = true := by
  have f1 := isB_form hB
  have f2 := isB_form (isB_opp' hB)
  have h3 := isB_opp' hB
  unfold isB at h3
  rw [decide_eq_true_eq] at h3
  unfold right at *
  simp only [f1, f2, Bool.and_eq_true] at *
  refine ⟨⟨⟨⟨?_, h.1.1.1.2⟩, h.1.1.2⟩, h.1.2⟩, h.2⟩
  rw [decide_eq_true_eq]
  omega
theorem jal_by {n : Int} (h : -1048576 ≤ n ∧ n ≤ 1048574 ∧ n % 2 = 0) : right ⟨3, 0, 0, 0, n⟩ = true := by
  have hf : form 3 = 74 := by decide +kernel
  exact right_by (by decide +kernel) (Or.inr ⟨hf, h⟩)
/-- what is short and what is long, of a right list -/
structure LeadsTo (L : List Itm) (k : Nat) (o d a b : Int) : Prop where
  by' : byOf L k = 4 * (place L (Lb.fin L) (to L k) : Int) - 4 * (place L (Lb.fin L) k : Int)
  bd : -90000 ≤ byOf L k ∧ byOf L k ≤ 90000
  short : sz L (Lb.fin L) k = 1 → right ⟨o, d, a, b, byOf L k⟩ = true
  long : sz L (Lb.fin L) k ≠ 1 → sz L (Lb.fin L) k = 2 ∧ right ⟨opp o, d, a, b, 8⟩ = true ∧ right ⟨3, 0, 0, 0, byOf L k - 4⟩ = true
theorem FitOk.leads {L : List Itm} (h : FitOk L) {k : Nat} {o d a b n m : Int} {s : ByteArray} (hx : L[k]? = some ⟨3, ⟨o, d, a, b, n⟩, s, m⟩) : n = 0 ∧ m = 0 ∧ LeadsTo L k o d a b := by
  have hk := (List.getElem?_eq_some_iff.1 hx).1
  have hm := h.most
  have hr := (h.right _ (List.mem_of_getElem? hx)).1
  unfold rightX at hr
  rw [if_neg (by simp), if_neg (by simp), if_pos rfl] at hr
  simp only [Bool.and_eq_true, decide_eq_true_eq] at hr
  obtain ⟨⟨hm0, hl⟩, _⟩ := hr
  unfold Lb.leads at hl
  simp only [Bool.and_eq_true, Bool.or_eq_true, decide_eq_true_eq] at hl
  obtain ⟨⟨ho, hn0⟩, hR⟩ := hl
  subst hn0
  have b1 := place_end h.size hm (Lb.fin L) (Nat.le_of_lt hk)
  have b2 := place_end h.size hm (Lb.fin L) (Nat.le_of_lt (to_lt h.pos k hk))
  have hby : byOf L k = 4 * (place L (Lb.fin L) (to L k) : Int) - 4 * (place L (Lb.fin L) k : Int) := rfl
  have f3 : form 3 = 74 := by decide +kernel
  refine ⟨rfl, hm0, hby, by omega, fun hs => ?_, fun hs => ?_⟩
  · rcases ho with rfl | hB
    · exact right_by hR (Or.inr ⟨f3, by omega, by omega, by omega⟩)
    · have hbr : brAt L k = true := by
        unfold brAt isBr
        rw [hx]
        simp [hB]
      have hf : Lb.fin L k = false := by
        rw [sz_br3 hbr] at hs
        cases e : Lb.fin L k with
        | false => rfl
        | true => rw [e] at hs; simp at hs
      have hreach := fin_closed L k hbr hf
      unfold reach at hreach
      exact right_by hR (Or.inl ⟨isB_form hB, by omega, by omega, by omega⟩)
  · have hbr : brAt L k = true ∧ isB o = true := by
      have hs' := hs
      unfold sz at hs'
      rw [hx] at hs'
      simp only at hs'
      cases e : isBr ⟨3, ⟨o, d, a, b, 0⟩, s, m⟩ with
      | false =>
        rw [e] at hs'
        simp [size1] at hs'
      | true =>
        refine ⟨by unfold brAt; rw [hx]; exact e, ?_⟩
        unfold isBr at e
        simpa using e
    obtain ⟨hbr, hB⟩ := hbr
    have h2 : sz L (Lb.fin L) k = 2 := by
      rw [sz_br3 hbr] at hs ⊢
      cases e : Lb.fin L k with
      | true => rfl
      | false => rw [e] at hs; simp at hs
    exact ⟨h2, right_by (right_opp hR hB) (Or.inl ⟨isB_form (isB_opp' hB), by omega, by omega, by omega⟩), jal_by ⟨by omega, by omega, by omega⟩⟩
/-- where a way leads: one word, or two -/
theorem FitOk.lead1 {L : List Itm} (h : FitOk L) {k : Nat} {o d a b : Int} {s : ByteArray} (hx : L[k]? = some ⟨3, ⟨o, d, a, b, 0⟩, s, 0⟩) (hs : sz L (Lb.fin L) k = 1) : (wordsTo L L.length)[place L (Lb.fin L) k]? = some (encV ⟨o, d, a, b, byOf L k⟩) := by
  refine word_at (q := 0) h.right hx ?_
  unfold instrL leadL
  simp [hs]
theorem FitOk.lead2 {L : List Itm} (h : FitOk L) {k : Nat} {o d a b : Int} {s : ByteArray} (hx : L[k]? = some ⟨3, ⟨o, d, a, b, 0⟩, s, 0⟩) (hs : sz L (Lb.fin L) k ≠ 1) : (wordsTo L L.length)[place L (Lb.fin L) k]? = some (encV ⟨opp o, d, a, b, 8⟩) ∧ (wordsTo L L.length)[place L (Lb.fin L) k + 1]? = some (encV ⟨3, 0, 0, 0, byOf L k - 4⟩) := by
  constructor
  · refine word_at (q := 0) h.right hx ?_
    unfold instrL leadL
    simp [hs]
  · refine word_at (q := 1) h.right hx ?_
    unfold instrL leadL
    simp [hs]
theorem FitOk.words {L : List Itm} (h : FitOk L) : (wordsTo L L.length).length = place L (Lb.fin L) L.length := words_place h.right (Nat.le_refl _)
/-- instructions, numbers and what does nothing are right -/
theorem FitOk.rest {L : List Itm} (h : FitOk L) {k : Nat} {x : Itm} (hx : L[k]? = some x) (h3 : x.kind ≠ 3) : ∀ i ∈ instrL L k x, Rv.right i = true := by
  have hr := (h.right _ (List.mem_of_getElem? hx)).1
  unfold rightX at hr
  intro i hi
  unfold instrL at hi
  by_cases h1 : x.kind = 1
  · rw [if_pos h1] at hi hr
    simp at hi
    subst hi
    simp only [Bool.and_eq_true] at hr
    exact hr.2
  rw [if_neg h1, if_neg h3] at hi
  rw [if_neg h1] at hr
  by_cases h4 : x.kind = 4
  · rw [if_pos h4] at hi
    rw [if_neg (by omega), if_neg h3, if_pos h4] at hr
    simp only [Bool.and_eq_true] at hr
    exact num_right hr.2 i hi
  rw [if_neg h4] at hi
  by_cases h5 : x.kind = 5
  · rw [if_pos h5] at hi
    obtain rfl := (List.mem_replicate.1 hi).2
    decide +kernel
  rw [if_neg h5] at hi
  cases hi
end Go.Proofs.Ytjjbfeoidceiiaa
