/- With a word more, and a symbol at its end: an image that may be; its text is longer by a word and a symbol; in plain words. -/
import Derived.Test.YtojdpeokceebhaaGreatDoorIFitP
import Derived.Test.YtojdpeokceebhaaGreatDoorIPrint
import Derived.Test.YtojdpeokceebhaaGreatDoorISame2
namespace Go.Proofs.YtojdpeokceebhaaGreatDoor
open Go.RowKit Im
set_option linter.unusedVariables false
def tl3 : ByteArray := ⟨#[126, 126, 126]⟩
def moreV (m : Img) (y : Int) : Img := ⟨m.words ++ [y], m.mem, m.syms ++ [⟨tl3, 4 * ((m.words.length : Int) + 1)⟩]⟩
theorem names_less : ∀ i : Fin 8, less (names.getD i.val ⟨#[]⟩) tl3 = true := by decide +kernel
theorem lab_tl3 : isLab tl3 = true := by decide +kernel
theorem fit_less (raw : Img) : ∀ x ∈ (fitV raw).syms, less x.name tl3 = true := by
  intro x hx
  obtain ⟨i, hi, hn, _⟩ := fit_names 8 (by omega) x hx
  rw [hn]
  exact names_less ⟨i, hi⟩
theorem more_right {m : Img} {y : Int} (h : right m = true) (hl : ∀ x ∈ m.syms, less x.name tl3 = true) (hw : m.words.length ≤ 65535) (hs : m.syms.length ≤ 999) (h1 : 0 ≤ y) (h2 : y < 4294967296) : right (moreV m y) = true := by
  obtain ⟨g1, g2, g3, g4, g5, g6⟩ := right_parts h
  refine right_yes (by unfold moreV; simp; omega) (by unfold moreV; simp; omega) g3 g4 ?_ ?_
  · intro j x hj
    have hx : x ∈ m.words ++ [y] := List.mem_of_getElem? hj
    rcases List.mem_append.1 hx with hx | hx
    · exact g5 x hx
    · obtain rfl := List.mem_singleton.1 hx
      unfold isWd
      rw [decide_eq_true_eq]
      omega
  · intro j hj
    have hj' : j < m.syms.length + 1 := by unfold moreV at hj; simpa using hj
    have hwl : (moreV m y).words.length = m.words.length + 1 := by unfold moreV; simp
    have hat : ∀ k, k < m.syms.length → (moreV m y).syms[k]? = m.syms[k]? := fun k hk => by unfold moreV; rw [List.getElem?_append_left hk]
    by_cases hjl : j < m.syms.length
    · obtain ⟨x, hx⟩ : ∃ x, m.syms[j]? = some x := ⟨_, List.getElem?_eq_getElem hjl⟩
      have g := g6 j hjl
      unfold symOk at g ⊢
      rw [hat j hjl]
      rw [hx] at g ⊢
      simp only [Bool.and_eq_true] at g ⊢
      obtain ⟨⟨a1, a2⟩, a3⟩ := g
      refine ⟨⟨a1, ?_⟩, ?_⟩
      · unfold isPl at a2 ⊢
        rw [decide_eq_true_eq] at a2 ⊢
        rw [hwl]
        omega
      · cases j with
        | zero => rfl
        | succ j =>
          show (match (moreV m y).syms[j]? with | none => true | some z => less z.name x.name) = true
          rw [hat j (by omega)]
          exact a3
    · obtain rfl : j = m.syms.length := by omega
      have hx : (moreV m y).syms[m.syms.length]? = some ⟨tl3, 4 * ((m.words.length : Int) + 1)⟩ := by
        unfold moreV
        rw [List.getElem?_append_right (Nat.le_refl _), Nat.sub_self]
        rfl
      unfold symOk
      rw [hx]
      simp only [Bool.and_eq_true]
      refine ⟨⟨lab_tl3, ?_⟩, ?_⟩
      · unfold isPl
        rw [decide_eq_true_eq]
        rw [hwl]
        omega
      · cases hk : m.syms.length with
        | zero => rfl
        | succ k =>
          show (match (moreV m y).syms[k]? with | none => true | some z => less z.name tl3) = true
          rw [hat k (by omega)]
          obtain ⟨z, hz⟩ : ∃ z, m.syms[k]? = some z := ⟨_, List.getElem?_eq_getElem (by omega)⟩
          rw [hz]
          exact hl z (List.mem_of_getElem? hz)
theorem body_form (m : Img) : (body m).length = 12 + (Lib.itoa m.mem).length + (symsT m.syms).length + m.words.length * 9 := by
  have h7 := wordsK_len m.words.length m.words 0
  rw [← wordsT_eq m.words 0 m.words.length (by omega)] at h7
  have h8 : (headB m.mem).length = 6 + ((Lib.itoa m.mem).length + 1) := by
    show ([105, 109, 97, 103, 101, 32] ++ (Lib.itoa m.mem ++ [10]) : Bs).length = _
    rw [List.length_append, List.length_append]
    rfl
  unfold body
  rw [List.length_append, List.length_append, List.length_append, h7, h8]
  show _ + (_ + (5 + _)) = _
  omega
theorem more_text (m : Img) (y : Int) : (text (moreV m y)).length = (text m).length + 22 := by
  unfold text
  rw [List.length_append, List.length_append, sumLine_len, sumLine_len, body_form, body_form]
  have h1 : (symsT (moreV m y).syms).length = (symsT m.syms).length + 13 := by
    unfold moreV
    rw [symsT_snoc, List.length_append, symT_len]
    rfl
  have h2 : (moreV m y).words.length = m.words.length + 1 := by unfold moreV; simp
  have h3 : (moreV m y).mem = m.mem := rfl
  rw [h1, h2, h3]
  omega
theorem more_unlike (m : Img) (y : Int) : sameV m (moreV m y) = false := by
  unfold sameV
  have : decide (m.words = (moreV m y).words) = false := by
    rw [decide_eq_false_iff_not]
    intro c
    have := congrArg List.length c
    unfold moreV at this
    simp at this
  rw [this, Bool.and_false, Bool.false_and]
end Go.Proofs.YtojdpeokceebhaaGreatDoor
