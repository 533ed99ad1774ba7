/- One byte of a text that is another one makes it none; in plain words. -/
import Derived.Test.YtojdpeokceebhaaGreatDoorIBackP
namespace Go.Proofs.YtojdpeokceebhaaGreatDoor.Im
open Go.Proofs.YtojdpeokceebhaaGreatDoor
set_option linter.unusedVariables false
/-- the first of a sum's two numbers is the bytes' own sum -/
theorem adler_one : ∀ (l : Bs) (p : Nat × Nat), p.1 < 65521 → (l.foldl adStep p).1 = (p.1 + (l.map UInt8.toNat).sum) % 65521
  | [], p, h => by simp [Nat.mod_eq_of_lt h]
  | c :: l, p, h => by
    rw [List.foldl_cons, adler_one l _ (Nat.mod_lt _ (by decide))]
    show ((p.1 + c.toNat) % 65521 + _) % 65521 = _
    rw [List.map_cons, List.sum_cons]
    omega
/-- of two texts that are unlike in one byte the sums are unlike -/
theorem sum_one {a b : Bs} {c d : UInt8} (h : c ≠ d) : sumOf (a ++ c :: b) ≠ sumOf (a ++ d :: b) := by
  intro e
  have h1 := adler_one (a ++ c :: b) (1, 0) (by decide)
  have h2 := adler_one (a ++ d :: b) (1, 0) (by decide)
  have l1 := adler_lt (a ++ c :: b)
  have l2 := adler_lt (a ++ d :: b)
  unfold sumOf at e
  have e1 : (adler (a ++ c :: b)).1 = (adler (a ++ d :: b)).1 := by omega
  unfold adler at e1
  rw [h1, h2] at e1
  simp only [List.map_append, List.map_cons, List.sum_append, List.sum_cons] at e1
  have c1 := UInt8.toNat_lt c
  have c2 := UInt8.toNat_lt d
  have c3 : c.toNat ≠ d.toNat := fun c => h (UInt8.toNat_inj.1 c)
  omega
theorem hex8_inj {n m : Int} (h0 : 0 ≤ n) (h1 : n ≤ 4294967295) (g0 : 0 ≤ m) (g1 : m ≤ 4294967295) (h : hex8 n = hex8 m) : n = m := by
  rw [← numV_hex8 h0 h1, ← numV_hex8 g0 g1, h]
/-- a text of which one byte is another one is no right image's, with its own sum -/
theorem one_not {m m' : Img} {a b : Bs} {c d : UInt8} (hr : right m = true) (hr' : right m' = true) (h : text m = a ++ c :: b) (hcd : c ≠ d) (h' : text m' = a ++ d :: b) : False := by
  unfold text at h h'
  have hl := congrArg List.length h
  have hl' := congrArg List.length h'
  rw [List.length_append, sumLine_len] at hl hl'
  simp only [List.length_append, List.length_cons] at hl hl'
  have hbl : (body m).length = (body m').length := by omega
  have part : ∀ {u L : Bs} {x : UInt8}, u ++ L = a ++ x :: b → a.length < u.length → ∃ r, u = a ++ x :: r ∧ b = r ++ L := by
    intro u L x e hlt
    rcases List.append_eq_append_iff.1 e with ⟨v, e1, e2⟩ | ⟨v, e1, e2⟩
    · have := congrArg List.length e1
      rw [List.length_append] at this
      omega
    · cases v with
      | nil =>
        rw [List.append_nil] at e1
        rw [e1] at hlt
        omega
      | cons y r =>
        rw [List.cons_append] at e2
        injection e2 with e3 e4
        subst e3
        exact ⟨r, e1, e4⟩
  by_cases hk : a.length < (body m).length
  · -- the byte stands in the body: the last lines are the same, the sums are not
    obtain ⟨r, e1, e2⟩ := part h hk
    obtain ⟨r', e3, e4⟩ := part h' (by omega)
    have g := e2.symm.trans e4
    have hll := congrArg List.length g
    rw [List.length_append, List.length_append, sumLine_len, sumLine_len] at hll
    obtain ⟨g1, g2⟩ := List.append_inj g (by omega)
    subst g1
    have s1 := sumOf_lt (body m)
    have s2 := sumOf_lt (body m')
    have e5 := last_line (n := (sumOf (body m) : Int)) (by omega) (by omega)
    have e6 := last_line (n := (sumOf (body m') : Int)) (by omega) (by omega)
    have g3 : sumOf (body m) = sumOf (body m') := by
      have : (sumOf (body m) : Int) = (sumOf (body m') : Int) := by rw [← e5, ← e6, g2]
      omega
    rw [e1, e3] at g3
    exact sum_one hcd g3
  · -- the byte stands in the last line: the bodies are the same, and so are the sums
    have g1 : body m = body m' := by
      have e1 := congrArg (List.take (body m).length) h
      have e2 := congrArg (List.take (body m').length) h'
      rw [List.take_left] at e1 e2
      rw [e1, e2, ← hbl, List.take_append_of_le_length (by omega), List.take_append_of_le_length (by omega)]
    rw [g1] at h
    have e := h.symm.trans h'
    have := List.append_cancel_left e
    injection this with e1 e2
    exact hcd e1
/-- a right image's text has three line feeds at least -/
theorem text_lines {m : Img} {n : Int} : 2 < Lib.countByte (body m ++ sumLine n) 10 := by
  have h1 : 1 ≤ (headB m.mem).count 10 := by
    unfold headB
    rw [← List.append_assoc, List.count_append]
    simp
  have h2 : 1 ≤ codeB.count 10 := by decide
  have h3 : 1 ≤ (sumLine n).count 10 := by
    unfold sumLine
    rw [← List.append_assoc, List.count_append]
    simp
  unfold Lib.countByte body
  rw [List.count_append, List.count_append, List.count_append, List.count_append]
  omega
end Go.Proofs.YtojdpeokceebhaaGreatDoor.Im
