/- Pieces of a text, and places of a byte in it; in plain words. -/
import Derived.Test.YtbfmlbcjggplgaaGreatDoorIReadP
namespace Go.Proofs.YtbfmlbcjggplgaaGreatDoor.Im
set_option linter.unusedVariables false
theorem splitV_ne (c : UInt8) (s : Bs) : splitV c s ≠ [] := by
  cases s with
  | nil => simp [splitV]
  | cons x r =>
    unfold splitV
    split
    · simp
    · split <;> simp
theorem splitV_len (c : UInt8) : ∀ s : Bs, (splitV c s).length ≤ s.length + 1
  | [] => by simp [splitV]
  | x :: r => by
    have ih := splitV_len c r
    unfold splitV
    split
    · simp
      omega
    · split
      · simp
      · rename_i a l h
        rw [h] at ih
        simp at ih ⊢
        omega
theorem part_cases (c : UInt8) : ∀ s : Bs, (∀ x ∈ s, x ≠ c) ∨ ∃ a r, s = a ++ c :: r ∧ ∀ x ∈ a, x ≠ c
  | [] => .inl (by simp)
  | x :: s => by
    by_cases h : x = c
    · exact .inr ⟨[], s, by rw [h]; rfl, by simp⟩
    · rcases part_cases c s with h1 | ⟨a, r, h1, h2⟩
      · exact .inl fun y hy => by
          rcases List.mem_cons.1 hy with rfl | hy
          · exact h
          · exact h1 y hy
      · refine .inr ⟨x :: a, r, by rw [h1]; rfl, fun y hy => ?_⟩
        rcases List.mem_cons.1 hy with rfl | hy
        · exact h
        · exact h2 y hy
theorem lf_none {c : UInt8} : ∀ {s : Bs}, (∀ x ∈ s, x ≠ c) → Lib.indexByte s c = -1
  | [], _ => rfl
  | x :: s, h => by
    have ih := lf_none (s := s) fun y hy => h y (by simp [hy])
    have hx : (x == c) = false := by rw [beq_eq_false_iff_ne]; exact h x (by simp)
    unfold Lib.indexByte
    rw [hx, ih]
    rfl
theorem lf_at {c : UInt8} : ∀ {a r : Bs}, (∀ x ∈ a, x ≠ c) → Lib.indexByte (a ++ c :: r) c = (a.length : Int)
  | [], r, _ => by
    show Lib.indexByte (c :: r) c = 0
    unfold Lib.indexByte
    simp
  | x :: a, r, h => by
    have ih := lf_at (a := a) (r := r) fun y hy => h y (by simp [hy])
    have hx : (x == c) = false := by rw [beq_eq_false_iff_ne]; exact h x (by simp)
    show Lib.indexByte (x :: (a ++ c :: r)) c = _
    unfold Lib.indexByte
    rw [hx, ih]
    have : ((a.length : Int) == -1) = false := by rw [beq_eq_false_iff_ne]; omega
    rw [this]
    simp
theorem cut_ext (l : Bs) (a b : Nat) : (str l).extract a b = str ((l.drop a).take (b - a)) := by
  rw [← str_of ((str l).extract a b)]
  congr 1
  have := Lib.extract_toList (str l) a b
  rw [ByteArray.toList_eq, str_list] at this
  exact this
theorem ext_ahead (a r : Bs) (c : UInt8) : (str (a ++ c :: r)).extract 0 a.length = str a := by
  rw [cut_ext]
  simp
theorem ext_behind (a r : Bs) (c : UInt8) : (str (a ++ c :: r)).extract (a.length + 1) (str (a ++ c :: r)).size = str r := by
  rw [cut_ext, str_size]
  congr 1
  have : (a ++ c :: r).drop (a.length + 1) = r := by
    rw [show a ++ c :: r = (a ++ [c]) ++ r by simp, show a.length + 1 = (a ++ [c]).length by simp, List.drop_left]
  rw [this]
  exact List.take_of_length_le (by simp; omega)
end Go.Proofs.YtbfmlbcjggplgaaGreatDoor.Im
