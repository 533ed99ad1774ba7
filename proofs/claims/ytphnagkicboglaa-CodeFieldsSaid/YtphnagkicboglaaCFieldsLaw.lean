/- CodeFields for every input, over package code's contracts. -/
import Derived.Test.YtphnagkicboglaaCXor
namespace Go.Proofs.Ytphnagkicboglaa
open Go.RowKit Rv
theorem reg_false {n : Int} {b : Bool} (h : reg n b = false) (n0 : 0 ≤ n) (n1 : n < 32) : n ≠ 0 ∧ b = false := by
  cases b
  · refine ⟨fun c => ?_, rfl⟩
    subst c
    simp [reg] at h
  · exfalso
    have : reg n true = true := by
      simp [reg]
      omega
    rw [this] at h
    cases h
theorem wrong_d {o d a b m n : Int} (rx : right (Ins.mk o d a b m) = true) (ry : right (Ins.mk o n a b m) = false) (n0 : 0 ≤ n) (n1 : n < 32) : n ≠ 0 ∧ (form o = 83 ∨ form o = 66 ∨ form o = 70 ∨ form o = 90) := by
  obtain ⟨o1, o2, rd', ra', rb', rn'⟩ := right_parts rx
  simp only at o1 o2 rd' ra' rb' rn'
  have e : reg n (hasD (form o)) = false := by
    unfold right at ry
    simp only [decide_eq_true (show 1 ≤ o ∧ o ≤ 49 from ⟨o1, o2⟩), ra', rb', rn', Bool.true_and, Bool.and_true] at ry
    exact ry
  obtain ⟨g1, g2⟩ := reg_false e n0 n1
  refine ⟨g1, ?_⟩
  rcases form_is o1 o2 with hf | hf | hf | hf | hf | hf | hf | hf | hf | hf | hf | hf
  all_goals
    rw [hf] at g2 ⊢
    simp [hasD] at g2
  all_goals omega
theorem wrong_a {o d a b m n : Int} (rx : right (Ins.mk o d a b m) = true) (ry : right (Ins.mk o d n b m) = false) (n0 : 0 ≤ n) (n1 : n < 32) : n ≠ 0 ∧ (form o = 85 ∨ form o = 74 ∨ form o = 70 ∨ form o = 90) := by
  obtain ⟨o1, o2, rd', ra', rb', rn'⟩ := right_parts rx
  simp only at o1 o2 rd' ra' rb' rn'
  have e : reg n (hasA (form o)) = false := by
    unfold right at ry
    simp only [decide_eq_true (show 1 ≤ o ∧ o ≤ 49 from ⟨o1, o2⟩), rd', rb', rn', Bool.true_and, Bool.and_true] at ry
    exact ry
  obtain ⟨g1, g2⟩ := reg_false e n0 n1
  refine ⟨g1, ?_⟩
  rcases form_is o1 o2 with hf | hf | hf | hf | hf | hf | hf | hf | hf | hf | hf | hf
  all_goals
    rw [hf] at g2 ⊢
    simp [hasA] at g2
  all_goals omega
theorem wrong_b {o d a b m n : Int} (rx : right (Ins.mk o d a b m) = true) (ry : right (Ins.mk o d a n m) = false) (n0 : 0 ≤ n) (n1 : n < 32) : n ≠ 0 ∧ (form o = 73 ∨ form o = 72 ∨ form o = 67 ∨ form o = 85 ∨ form o = 74 ∨ form o = 70 ∨ form o = 90 ∨ form o = 76) := by
  obtain ⟨o1, o2, rd', ra', rb', rn'⟩ := right_parts rx
  simp only at o1 o2 rd' ra' rb' rn'
  have e : reg n (hasB (form o)) = false := by
    unfold right at ry
    simp only [decide_eq_true (show 1 ≤ o ∧ o ≤ 49 from ⟨o1, o2⟩), rd', ra', rn', Bool.true_and, Bool.and_true] at ry
    exact ry
  obtain ⟨g1, g2⟩ := reg_false e n0 n1
  refine ⟨g1, ?_⟩
  rcases form_is o1 o2 with hf | hf | hf | hf | hf | hf | hf | hf | hf | hf | hf | hf
  all_goals
    rw [hf] at g2 ⊢
    simp [hasB] at g2
  all_goals omega
theorem fields_law (i : Ins) (p m : Int) (h1 : Ins.wf i) (hp : inInt p) (hm : inInt m) (hA : AwakeIs) (hE : EncodeIs) (hR : RightIs) (w : World) :
    Calls Try.prog 6 #[ival i, .int .i64 p, .int .i64 m] w fun e w' => e = .returned (.bool true) ∧ Both w w' := by
  have rx := right_fit i
  obtain ⟨c0, c1⟩ := pick_bd p 3 (by omega)
  obtain ⟨n0, n1⟩ := pick_bd m 32 (by omega)
  obtain ⟨b1, b2, b3, b4, b5⟩ := right_bd rx
  have f1 := encV_right rx
  have f2 := encE_right rx
  have f3 := enc_bd rx
  have w1 := wf_right rx
  obtain ⟨x, hx⟩ : ∃ x, fit i = x := ⟨_, rfl⟩
  obtain ⟨n, hn⟩ : ∃ n, pick m 32 = n := ⟨_, rfl⟩
  rw [hx] at b1 b2 b3 b4 b5 f1 f2 f3 w1 rx
  rw [hn] at n0 n1
  obtain ⟨i0, i1, i2, i3, i4⟩ := i
  obtain ⟨x0, x1, x2, x3, x4⟩ := x
  simp only at b1 b2 b3 b4 b5
  have hr : rowVals x0 = [.string ⟨(name x0).toArray⟩, .int .u8 (form x0), .int .i64 (low x0), .int .i64 (mid x0), .int .i64 (high x0)] := rfl
  have ways : pick p 3 = 0 ∨ pick p 3 = 1 ∨ pick p 3 = 2 := by omega
  rcases ways with hc | hc | hc
  · have wy : Ins.wf (Ins.mk x0 n x2 x3 x4) := ⟨⟨by dsimp only; omega, by dsimp only; omega⟩, ⟨by dsimp only; omega, by dsimp only; omega⟩, ⟨by dsimp only; omega, by dsimp only; omega⟩, ⟨by dsimp only; omega, by dsimp only; omega⟩, ⟨by dsimp only; omega, by dsimp only; omega⟩⟩
    cases hy : right (Ins.mk x0 n x2 x3 x4) with
    | false =>
      obtain ⟨g1, g2⟩ := wrong_d rx hy n0 n1
      exact fields_A0 _ _ _ _ _ x0 x1 x2 x3 x4 p m n _ _ _ _ _ h1 hp hm hx w1 wy hn n0 n1 hc hr hy g1 g2 hA hE hR w
    | true =>
      have g3 := enc_bd hy
      refine fields_B0 _ _ _ _ _ x0 x1 x2 x3 x4 _ _ p m n _ _ _ _ _ h1 hp hm hx w1 wy hn n0 n1 hc hr hy f1 f2 (encV_right hy) (encE_right hy) f3.1 f3.2 g3.1 g3.2 ?_ hA hE hR w
      by_cases e : x1 = n
      · subst e
        exact Or.inl ⟨rfl, rfl⟩
      · obtain ⟨k1, k2, k3⟩ := facts_d rx hy e
        obtain ⟨z1, z2, z3, z4⟩ := xor_facts _ _ 7 128 (by decide) f3.1 f3.2 g3.1 g3.2 k1 k2
        exact Or.inr ⟨beq_eq_false_iff_ne.2 e, z1, z2, z3, z4, beq_iff_eq.2 k3⟩
  · have wy : Ins.wf (Ins.mk x0 x1 n x3 x4) := ⟨⟨by dsimp only; omega, by dsimp only; omega⟩, ⟨by dsimp only; omega, by dsimp only; omega⟩, ⟨by dsimp only; omega, by dsimp only; omega⟩, ⟨by dsimp only; omega, by dsimp only; omega⟩, ⟨by dsimp only; omega, by dsimp only; omega⟩⟩
    cases hy : right (Ins.mk x0 x1 n x3 x4) with
    | false =>
      obtain ⟨g1, g2⟩ := wrong_a rx hy n0 n1
      exact fields_A1 _ _ _ _ _ x0 x1 x2 x3 x4 p m n _ _ _ _ _ h1 hp hm hx w1 wy hn n0 n1 hc hr hy g1 g2 hA hE hR w
    | true =>
      have g3 := enc_bd hy
      refine fields_B1 _ _ _ _ _ x0 x1 x2 x3 x4 _ _ p m n _ _ _ _ _ h1 hp hm hx w1 wy hn n0 n1 hc hr hy f1 f2 (encV_right hy) (encE_right hy) f3.1 f3.2 g3.1 g3.2 ?_ hA hE hR w
      by_cases e : x2 = n
      · subst e
        exact Or.inl ⟨rfl, rfl⟩
      · obtain ⟨k1, k2, k3⟩ := facts_a rx hy e
        obtain ⟨z1, z2, z3, z4⟩ := xor_facts _ _ 15 32768 (by decide) f3.1 f3.2 g3.1 g3.2 k1 k2
        exact Or.inr ⟨beq_eq_false_iff_ne.2 e, z1, z2, z3, z4, beq_iff_eq.2 k3⟩
  · have wy : Ins.wf (Ins.mk x0 x1 x2 n x4) := ⟨⟨by dsimp only; omega, by dsimp only; omega⟩, ⟨by dsimp only; omega, by dsimp only; omega⟩, ⟨by dsimp only; omega, by dsimp only; omega⟩, ⟨by dsimp only; omega, by dsimp only; omega⟩, ⟨by dsimp only; omega, by dsimp only; omega⟩⟩
    cases hy : right (Ins.mk x0 x1 x2 n x4) with
    | false =>
      obtain ⟨g1, g2⟩ := wrong_b rx hy n0 n1
      exact fields_A2 _ _ _ _ _ x0 x1 x2 x3 x4 p m n _ _ _ _ _ h1 hp hm hx w1 wy hn n0 n1 hc hr hy g1 g2 hA hE hR w
    | true =>
      have g3 := enc_bd hy
      refine fields_B2 _ _ _ _ _ x0 x1 x2 x3 x4 _ _ p m n _ _ _ _ _ h1 hp hm hx w1 wy hn n0 n1 hc hr hy f1 f2 (encV_right hy) (encE_right hy) f3.1 f3.2 g3.1 g3.2 ?_ hA hE hR w
      by_cases e : x3 = n
      · subst e
        exact Or.inl ⟨rfl, rfl⟩
      · obtain ⟨k1, k2, k3⟩ := facts_b rx hy e
        obtain ⟨z1, z2, z3, z4⟩ := xor_facts _ _ 20 1048576 (by decide) f3.1 f3.2 g3.1 g3.2 k1 k2
        exact Or.inr ⟨beq_eq_false_iff_ne.2 e, z1, z2, z3, z4, beq_iff_eq.2 k3⟩
end Go.Proofs.Ytphnagkicboglaa
