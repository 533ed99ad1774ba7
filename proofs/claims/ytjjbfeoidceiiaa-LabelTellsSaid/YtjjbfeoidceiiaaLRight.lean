/- Which items may be: every kind, in one contract. -/
import Derived.Test.YtjjbfeoidceiiaaLRow
namespace Go.Proofs.Ytjjbfeoidceiiaa
open Go.RowKit Rv Lb
set_option linter.unusedVariables false
set_option maxHeartbeats 4000000 in
theorem rightX_2 (o d a b n m : Int) (s : ByteArray) (hi : Ins.wf ⟨o, d, a, b, n⟩) (hs : s.size ≤ maxLen) (w : World) :
    Calls Try.prog 23 #[.agg #[.int .i64 2, .int .i64 o, .int .i64 d, .int .i64 a, .int .i64 b, .int .i64 n, .string s, .int .i64 m]] w fun e w' => e = .returned (.bool (rightX ⟨2, ⟨o, d, a, b, n⟩, s, m⟩)) ∧ Both w w' := by
  obtain ⟨r, hr⟩ : ∃ r, isLab s = r := ⟨_, rfl⟩
  have HR := Lib.hid hr
  by_cases hc : o = 0 ∧ d = 0 ∧ a = 0 ∧ b = 0 ∧ n = 0 ∧ m = 0
  · obtain ⟨rfl, rfl, rfl, rfl, rfl, rfl⟩ := hc
    have e : rightX ⟨2, ⟨0, 0, 0, 0, 0⟩, s, 0⟩ = r := by
      unfold rightX
      rw [if_neg (by simp), if_pos rfl, hr]
      rfl
    rw [e]
    have hE := eql_yes 2 0 0 0 0 0 0 s
    clear hr e hi
    go_enter Try.func23, Try.ntmps23
    go_wp2_with (go_at_call 43; ((with_reducible refine (lab_lit HR.out hs _).mono ?_); rintro e w' ⟨rfl, rfl⟩))
    go_ret
    exact ⟨rfl, (Both.refl _).alloc _ _⟩
  · have e : rightX ⟨2, ⟨o, d, a, b, n⟩, s, m⟩ = false := by
      unfold rightX onlyD
      rw [if_neg (by simp), if_pos rfl]
      by_cases hm : m = 0
      · rw [decide_eq_false (by simp only; omega)]
        rfl
      · rw [decide_eq_false (show ¬ (Itm.n ⟨2, ⟨o, d, a, b, n⟩, s, m⟩ = 0) from hm), Bool.and_false]
        rfl
    rw [e]
    have hE := eql_no 2 o d a b n m 2 0 0 0 0 0 0 s s (by rintro ⟨_, h1, h2, h3, h4, h5, _, h8⟩; exact hc ⟨h1, h2, h3, h4, h5, h8⟩)
    clear e hi hc hr
    go_enter Try.func23, Try.ntmps23
    go_wp2_with fail
    go_ret
    exact ⟨rfl, (Both.refl _).alloc _ _⟩
set_option maxHeartbeats 4000000 in
theorem rightX_3 (o d a b n m : Int) (s : ByteArray) (hi : Ins.wf ⟨o, d, a, b, n⟩) (hs : s.size ≤ maxLen) (w : World) :
    Calls Try.prog 23 #[.agg #[.int .i64 3, .int .i64 o, .int .i64 d, .int .i64 a, .int .i64 b, .int .i64 n, .string s, .int .i64 m]] w fun e w' => e = .returned (.bool (rightX ⟨3, ⟨o, d, a, b, n⟩, s, m⟩)) ∧ Both w w' := by
  obtain ⟨r, hr⟩ : ∃ r, isLab s = r := ⟨_, rfl⟩
  obtain ⟨q, hq⟩ : ∃ q, leads ⟨o, d, a, b, n⟩ = q := ⟨_, rfl⟩
  have HR := Lib.hid hr
  have HQ := Lib.hid hq
  have HI := Lib.hid hi
  by_cases hc : m = 0
  · subst hc
    have e : rightX ⟨3, ⟨o, d, a, b, n⟩, s, 0⟩ = (q && r) := by
      unfold rightX
      rw [if_neg (by simp), if_neg (by simp), if_pos rfl, hr, hq]
      rfl
    rw [e]
    have hE := eql_yes 3 o d a b n 0 s
    clear hr hq e hi
    cases q
    all_goals
      go_enter Try.func23, Try.ntmps23
      go_wp2_with fail
      refine (lead_lit HQ.out HI.out _).mono ?_
      rintro e W1 ⟨rfl, hb1⟩
      have hri := (hb1.1.block w.heap.size (by simp)).trans (heap_alloc_new _ _)
      have c6 := cell_of_heap hri 6
      simp only [List.getElem?_toArray, List.getElem?_cons_zero, List.getElem?_cons_succ] at c6
      have HB := Lib.hid (((Both.refl w).alloc _ _).trans hb1)
      clear hb1 hri hE
      go_wp2_with (go_at_call 43; ((with_reducible refine (lab_lit HR.out hs _).mono ?_); rintro e w' ⟨rfl, rfl⟩))
      go_ret
      exact ⟨rb (by simp), HB.out⟩
  · have e : rightX ⟨3, ⟨o, d, a, b, n⟩, s, m⟩ = false := by
      unfold rightX
      rw [if_neg (by simp), if_neg (by simp), if_pos rfl, decide_eq_false (show ¬ (Itm.n ⟨3, ⟨o, d, a, b, n⟩, s, m⟩ = 0) from hc)]
      rfl
    rw [e]
    clear hq HQ HI
    have hE := eql_no 3 o d a b n m 3 o d a b n 0 s s (by rintro ⟨_, _, _, _, _, _, _, h8⟩; exact hc h8)
    clear e hi hc hr
    go_enter Try.func23, Try.ntmps23
    go_wp2_with fail
    go_ret
    exact ⟨rfl, (Both.refl _).alloc _ _⟩
set_option maxHeartbeats 4000000 in
theorem rightX_4 (o d a b n m : Int) (s : ByteArray) (hi : Ins.wf ⟨o, d, a, b, n⟩) (hs : s.size ≤ maxLen) (w : World) :
    Calls Try.prog 23 #[.agg #[.int .i64 4, .int .i64 o, .int .i64 d, .int .i64 a, .int .i64 b, .int .i64 n, .string s, .int .i64 m]] w fun e w' => e = .returned (.bool (rightX ⟨4, ⟨o, d, a, b, n⟩, s, m⟩)) ∧ Both w w' := by
  obtain ⟨r, hr⟩ : ∃ r, mayLoad d m = r := ⟨_, rfl⟩
  have HR := Lib.hid hr
  by_cases hc : o = 0 ∧ a = 0 ∧ b = 0 ∧ n = 0 ∧ s.size = 0
  · obtain ⟨rfl, rfl, rfl, rfl, h0⟩ := hc
    obtain rfl := empty_of_size h0
    have e : rightX ⟨4, ⟨0, d, 0, 0, 0⟩, ⟨#[]⟩, m⟩ = r := by
      unfold rightX onlyD
      rw [if_neg (by simp), if_neg (by simp), if_neg (by simp), if_pos rfl, decide_eq_true (by exact ⟨rfl, rfl, rfl, rfl, rfl⟩), decide_eq_true (by exact rfl), hr]
      rfl
    rw [e]
    have hE := eql_yes 4 0 d 0 0 0 m ⟨#[]⟩
    clear hr e hi h0 hs
    go_enter Try.func23, Try.ntmps23
    go_wp2_with (go_at_call 40; ((with_reducible refine (may_lit HR.out _).mono ?_); rintro e w' ⟨rfl, rfl⟩))
    go_ret
    exact ⟨rfl, (Both.refl _).alloc _ _⟩
  · have e : rightX ⟨4, ⟨o, d, a, b, n⟩, s, m⟩ = false := by
      unfold rightX onlyD
      rw [if_neg (by simp), if_neg (by simp), if_neg (by simp), if_pos rfl]
      by_cases hm : s.size = 0
      · rw [decide_eq_false (by simp only; omega)]
        rfl
      · rw [decide_eq_false (show ¬ (Itm.name ⟨4, ⟨o, d, a, b, n⟩, s, m⟩).size = 0 from hm), Bool.and_false]
        rfl
    rw [e]
    have hE := eql_no 4 o d a b n m 4 0 d 0 0 0 m s ⟨#[]⟩ (by rintro ⟨_, h1, _, h3, h4, h5, h7, _⟩; exact hc ⟨h1, h3, h4, h5, by rw [h7]; rfl⟩)
    clear e hi hc hr
    go_enter Try.func23, Try.ntmps23
    go_wp2_with fail
    go_ret
    exact ⟨rfl, (Both.refl _).alloc _ _⟩
set_option maxHeartbeats 4000000 in
theorem rightX_5 (o d a b n m : Int) (s : ByteArray) (hi : Ins.wf ⟨o, d, a, b, n⟩) (hs : s.size ≤ maxLen) (w : World) :
    Calls Try.prog 23 #[.agg #[.int .i64 5, .int .i64 o, .int .i64 d, .int .i64 a, .int .i64 b, .int .i64 n, .string s, .int .i64 m]] w fun e w' => e = .returned (.bool (rightX ⟨5, ⟨o, d, a, b, n⟩, s, m⟩)) ∧ Both w w' := by
  by_cases hc : o = 0 ∧ d = 0 ∧ a = 0 ∧ b = 0 ∧ n = 0 ∧ s.size = 0
  · obtain ⟨rfl, rfl, rfl, rfl, rfl, h0⟩ := hc
    obtain rfl := empty_of_size h0
    have e : rightX ⟨5, ⟨0, 0, 0, 0, 0⟩, ⟨#[]⟩, m⟩ = decide (0 ≤ m ∧ m ≤ 4096) := by
      unfold rightX onlyD
      rw [if_neg (by simp), if_neg (by simp), if_neg (by simp), if_neg (by simp), if_pos rfl, decide_eq_true (by exact ⟨rfl, rfl, rfl, rfl, rfl⟩), decide_eq_true (by exact rfl)]
      rfl
    rw [e]
    have hE := eql_yes 5 0 0 0 0 0 m ⟨#[]⟩
    clear e hi h0 hs
    by_cases g1 : 0 ≤ m
    · by_cases g2 : m ≤ 4096
      · rw [decide_eq_true ⟨g1, g2⟩]
        go_enter Try.func23, Try.ntmps23
        go_wp2_with fail
        go_ret
        exact ⟨rfl, (Both.refl _).alloc _ _⟩
      · rw [decide_eq_false (by omega)]
        go_enter Try.func23, Try.ntmps23
        go_wp2_with fail
        go_ret
        exact ⟨rfl, (Both.refl _).alloc _ _⟩
    · rw [decide_eq_false (by omega)]
      go_enter Try.func23, Try.ntmps23
      go_wp2_with fail
      go_ret
      exact ⟨rfl, (Both.refl _).alloc _ _⟩
  · have e : rightX ⟨5, ⟨o, d, a, b, n⟩, s, m⟩ = false := by
      unfold rightX onlyD
      rw [if_neg (by simp), if_neg (by simp), if_neg (by simp), if_neg (by simp), if_pos rfl]
      by_cases hm : s.size = 0
      · rw [decide_eq_false (by simp only; omega)]
        rfl
      · rw [decide_eq_false (show ¬ (Itm.name ⟨5, ⟨o, d, a, b, n⟩, s, m⟩).size = 0 from hm), Bool.and_false]
        rfl
    rw [e]
    have hE := eql_no 5 o d a b n m 5 0 0 0 0 0 m s ⟨#[]⟩ (by rintro ⟨_, h1, h2, h3, h4, h5, h7, _⟩; exact hc ⟨h1, h2, h3, h4, h5, by rw [h7]; rfl⟩)
    clear e hi hc
    go_enter Try.func23, Try.ntmps23
    go_wp2_with fail
    go_ret
    exact ⟨rfl, (Both.refl _).alloc _ _⟩
set_option maxHeartbeats 4000000 in
theorem rightX_0 (k o d a b n m : Int) (s : ByteArray) (h1 : (k == 1) = false) (h2 : (k == 2) = false) (h3 : (k == 3) = false) (h4 : (k == 4) = false) (h5 : (k == 5) = false) (w : World) :
    Calls Try.prog 23 #[.agg #[.int .i64 k, .int .i64 o, .int .i64 d, .int .i64 a, .int .i64 b, .int .i64 n, .string s, .int .i64 m]] w fun e w' => e = .returned (.bool false) ∧ Both w w' := by
  go_enter Try.func23, Try.ntmps23
  go_wp2_with fail
  go_ret
  exact ⟨rfl, (Both.refl _).alloc _ _⟩
theorem rightX_any (x : Itm) (hx : Itm.wf x) (w : World) : Calls Try.prog 23 #[xval x] w fun e w' => e = .returned (.bool (rightX x)) ∧ Both w w' := by
  obtain ⟨k, ⟨o, d, a, b, n⟩, s, m⟩ := x
  by_cases h1 : k = 1
  · subst h1; exact rightX_1 o d a b n m s hx.i w
  by_cases h2 : k = 2
  · subst h2; exact rightX_2 o d a b n m s hx.i hx.name w
  by_cases h3 : k = 3
  · subst h3; exact rightX_3 o d a b n m s hx.i hx.name w
  by_cases h4 : k = 4
  · subst h4; exact rightX_4 o d a b n m s hx.i hx.name w
  by_cases h5 : k = 5
  · subst h5; exact rightX_5 o d a b n m s hx.i hx.name w
  have e : rightX ⟨k, ⟨o, d, a, b, n⟩, s, m⟩ = false := by
    unfold rightX
    rw [if_neg h1, if_neg h2, if_neg h3, if_neg h4, if_neg h5]
  rw [e]
  exact rightX_0 k o d a b n m s (by simp [h1]) (by simp [h2]) (by simp [h3]) (by simp [h4]) (by simp [h5]) w
end Go.Proofs.Ytjjbfeoidceiiaa
