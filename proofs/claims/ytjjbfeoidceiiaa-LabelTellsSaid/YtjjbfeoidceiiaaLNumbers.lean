/- What brings a number to a register does: the walk of the law on numbers. -/
import Derived.Test.YtjjbfeoidceiiaaLAwk
namespace Go.Proofs.Ytjjbfeoidceiiaa
open Go.RowKit Rv Lb
set_option linter.unusedVariables false
theorem pick3_any (c n : Int) (h1 : -9223372036854775808 ≤ c) (h2 : c ≤ 9223372036854775807) (h3 : 1 ≤ n) (w : World) : Calls Try.prog 13 #[.int .i64 c, .int .i64 n] w fun e w' => e = .returned (.int .i64 (pick c n)) ∧ w = w' := by
  by_cases hc : c < 0
  · have ht := Lib.hid (pick_neg n hc)
    go_enter Try.func13, Try.ntmps13
    go_wp2
    go_ret
    exact ⟨ri (by rw [← ht.out]), rfl⟩
  · have ht := Lib.hid (pick_pos n hc)
    go_enter Try.func13, Try.ntmps13
    go_wp2
    go_ret
    exact ⟨ri (by rw [← ht.out]), rfl⟩
theorem pick3 {c n r : Int} (hc : inInt c) (h3 : 1 ≤ n) (h : pick c n = r) (w : World) : Calls Try.prog 13 #[.int .i64 c, .int .i64 n] w fun e w' => e = .returned (.int .i64 r) ∧ w = w' := by
  subst h
  exact pick3_any c n hc.1 hc.2 h3 w
theorem wrap_is {n r : Int} (h : wrap32 n = r) (w : World) : Calls Try.prog 27 #[.int .i64 n] w fun e w' => e = .returned (.int .i64 r) ∧ w = w' := by
  subst h
  go_enter Try.func27, Try.ntmps27
  go_wp2
  go_ret
  exact ⟨ri (by unfold wrap32 wrap64; omega), rfl⟩
theorem wr_lo (n : Int) : -2147483648 ≤ wrap32 n := by unfold wrap32; omega
theorem wr_hi (n : Int) : wrap32 n ≤ 2147483647 := by unfold wrap32; omega
theorem wr_in {n : Int} (h1 : -2147483648 ≤ n) (h2 : n ≤ 2147483647) : wrap32 n = n := by unfold wrap32; omega
theorem moves12 (w : World) : Calls Try.prog 54 #[.int .i64 12] w fun e w' => e = .returned (.int .i64 12) ∧ w = w' := by
  have h : bits .and .i64 12 31 = 12 := by decide
  go_enter Try.func54, Try.ntmps54
  go_wp2
  go_ret
  exact ⟨rfl, rfl⟩
theorem two_up {h r : Int} (h1 : 0 ≤ h) (h2 : h < 1048576) (hr : wrap32 (h * 4096) = r) (w : World) : Calls Try.prog 28 #[.int .i64 9, .int .i64 h, .int .i64 12] w fun e w' => e = .returned (.tuple #[.int .i64 r, .bool true]) ∧ w = w' := by
  have w1 := wr_in (n := h) (by omega) (by omega)
  have w2 := wr_in (n := 12) (by omega) (by omega)
  have HR := Lib.hid hr
  clear hr
  go_enter Try.func28, Try.ntmps28
  go_wp2_with (first | (go_at_call 27; ((with_reducible refine (wrap_is w1 _).mono ?_); rintro e w' ⟨rfl, rfl⟩)) | (go_at_call 27; ((with_reducible refine (wrap_is w2 _).mono ?_); rintro e w' ⟨rfl, rfl⟩)) | (go_at_call 54; refine (moves12 _).mono ?_; rintro e w' ⟨rfl, rfl⟩) | (go_at_call 27; ((with_reducible refine (wrap_is HR.out _).mono ?_); rintro e w' ⟨rfl, rfl⟩)))
  go_ret2
  exact ⟨rfl, rfl⟩
theorem two_plus {x y r : Int} (x1 : -2147483648 ≤ x) (x2 : x ≤ 2147483647) (y1 : -2147483648 ≤ y) (y2 : y ≤ 2147483647) (hr : wrap32 (x + y) = r) (w : World) : Calls Try.prog 28 #[.int .i64 1, .int .i64 x, .int .i64 y] w fun e w' => e = .returned (.tuple #[.int .i64 r, .bool true]) ∧ w = w' := by
  have w1 := wr_in (n := x) (by omega) (by omega)
  have w2 := wr_in (n := y) (by omega) (by omega)
  have W1 := Lib.hid w1
  have W2 := Lib.hid w2
  have HR := Lib.hid hr
  clear hr w1 w2
  go_enter Try.func28, Try.ntmps28
  go_wp2_with (first | (go_at_call 27; ((with_reducible refine (wrap_is W1.out _).mono ?_); rintro e w' ⟨rfl, rfl⟩)) | (go_at_call 27; ((with_reducible refine (wrap_is W2.out _).mono ?_); rintro e w' ⟨rfl, rfl⟩)) | (go_at_call 27; ((with_reducible refine (wrap_is HR.out _).mono ?_); rintro e w' ⟨rfl, rfl⟩)))
  go_ret2
  exact ⟨rfl, rfl⟩
theorem number_lit {d n : Int} {l : List Ins} (h : number d n = l) (w : World) : Calls Try.prog 21 #[.int .i64 d, .int .i64 n] w (InsNew l w) := by
  subst h
  exact number_new d n w
theorem number_out {d n : Int} (h : mayLoad d n = false) : number d n = [] := by unfold number; rw [h]; rfl
theorem right_addi (r a n : Int) (h1 : 1 ≤ r) (h2 : r < 32) (ha : 0 ≤ a) (ha2 : a < 32) (n1 : -2048 ≤ n) (n2 : n ≤ 2047) : right ⟨13, r, a, 0, n⟩ = true := by
  have hf : form 13 = 73 := by decide +kernel
  unfold right
  simp only [hf]
  simp [hasD, hasA, hasB, num, reg, n1, n2]
  omega
theorem right_lui (r n : Int) (h1 : 1 ≤ r) (h2 : r < 32) (n1 : 0 ≤ n) (n2 : n < 1048576) : right ⟨1, r, 0, 0, n⟩ = true := by
  have hf : form 1 = 85 := by decide +kernel
  unfold right
  simp only [hf]
  simp [hasD, hasA, hasB, num, reg, n1, n2]
  omega
/-- what is loaded above and what is added are the number -/
theorem num_sum (m : Int) (h1 : -2147483648 ≤ m) (h2 : m ≤ 2147483647) : wrap32 (wrap32 (high20 m * 4096) + low12 m) = m := by
  unfold high20 low12 wrap32
  omega
set_option maxRecDepth 100000 in
set_option maxHeartbeats 8000000 in
theorem numbers_law (d n : Int) (hd : inInt d) (hn : inInt n) (w : World) : Calls Try.prog 6 #[.int .i64 d, .int .i64 n] w fun e w' => e = .returned (.bool true) ∧ Both w w' := by
  have ex0 : ∀ (x y : Value) (W : World), (Instr.extract (.tuple #[x, y]) 0).run Try.prog W = .ok x W := fun x y W => by kernel_rfl
  have ex1 : ∀ (x y : Value) (W : World), (Instr.extract (.tuple #[x, y]) 1).run Try.prog W = .ok y W := fun x y W => by kernel_rfl
  obtain ⟨p1, p2⟩ := pick_bd d 31 (by omega)
  obtain ⟨p, hp⟩ : ∃ p, pick d 31 = p := ⟨_, rfl⟩
  rw [hp] at p1 p2
  have HP := Lib.hid hp
  have m1 := wr_lo n
  have m2 := wr_hi n
  obtain ⟨m, hm⟩ : ∃ m, wrap32 n = m := ⟨_, rfl⟩
  rw [hm] at m1 m2
  have HM := Lib.hid hm
  obtain ⟨q1, q2⟩ := pick_bd d 99 (by omega)
  obtain ⟨q, hq⟩ : ∃ q, pick d 99 = q := ⟨_, rfl⟩
  rw [hq] at q1 q2
  have HQ := Lib.hid hq
  obtain ⟨s1, s2⟩ := pick_bd n 1099511627776 (by omega)
  obtain ⟨s, hs⟩ : ∃ s, pick n 1099511627776 = s := ⟨_, rfl⟩
  rw [hs] at s1 s2
  have HS := Lib.hid hs
  have HD := Lib.hid hd
  have HN := Lib.hid hn
  have HZ0 : Hid (number 0 m = []) := number_out (decide_eq_false (by omega))
  have HZ1 : Hid (number (32 + q) m = []) := number_out (decide_eq_false (by omega))
  have HZ2 : Hid (number (1 + p) (2147483648 + s) = []) := number_out (decide_eq_false (by omega))
  have hload : mayLoad (1 + p) m = true := decide_eq_true (by omega)
  clear hp hm hq hs hd hn
  by_cases hsh : m = low12 m
  · have HL : Hid (number (1 + p) m = [⟨13, 1 + p, 0, 0, m⟩]) := by
      show _ = _
      unfold number
      rw [hload, if_pos rfl, if_pos hsh]
    obtain ⟨l1, l2⟩ := low12_bd m
    rw [← hsh] at l1 l2
    have HRT := Lib.hid (right_addi (1 + p) 0 m (by omega) (by omega) (by omega) (by omega) l1 l2)
    have hw : Ins.wf ⟨13, 1 + p, 0, 0, m⟩ := ⟨⟨by simp, by simp⟩, ⟨by simp only; omega, by simp only; omega⟩, ⟨by simp, by simp⟩, ⟨by simp, by simp⟩, ⟨by simp only; omega, by simp only; omega⟩⟩
    have HW := Lib.hid hw
    clear hload hsh hw
    go_enter Try.func6, Try.ntmps6
    go_wp2_with fail
    refine (awake_any _).mono ?_
    rintro e w1 ⟨rfl, hb1⟩
    have HB1 := Lib.hid hb1
    clear hb1
    go_wp2_with (first | (go_at_call 13; ((with_reducible refine (pick3 HD.out (by omega) HP.out _).mono ?_); rintro e w' ⟨rfl, rfl⟩)) | (go_at_call 27; ((with_reducible refine (wrap_is HM.out _).mono ?_); rintro e w' ⟨rfl, rfl⟩)) | fail)
    refine (number_lit HL.out _).mono ?_
    rintro e w2 ⟨pt, c, rfl, hat, hb2, _⟩
    obtain ⟨B, f, rfl, hBl, hcs⟩ := hat 0 _ rfl
    have e0 := hcs 0 _ rfl
    have e1 := hcs 1 _ rfl
    have e2 := hcs 2 _ rfl
    have e3 := hcs 3 _ rfl
    have e4 := hcs 4 _ rfl
    simp only [Nat.zero_mul, Nat.add_zero] at e0 e1 e2 e3 e4
    have HB2 := Lib.hid (HB1.out.trans hb2)
    clear hcs hat hb2 HB1
    go_wp2_with fail
    refine wp_loop_rounds 2 ?_
    rw [rounds_succ]
    have g1 : (0 == 1 + p) = false := by simp; omega
    go_wp2_with fail
    refine (right_val HW.out HRT.out _).mono ?_
    rintro e w3 ⟨rfl, hb3⟩
    have HB3 := Lib.hid (HB2.out.trans hb3)
    clear e0 e1 e2 e3 e4 HB2 hb3
    go_wp2_with fail
    have HBX := HB3
    rw [rounds_succ]
    go_wp2_with fail
    refine (number_lit HZ0.out _).mono ?_
    rintro e w4 ⟨pt4, c4, rfl, _, hb4, _⟩
    have HB4 := Lib.hid (HBX.out.trans hb4)
    clear hb4
    go_wp2_with (go_at_call 13; ((with_reducible refine (pick3 HD.out (by omega) HQ.out _).mono ?_); rintro e w' ⟨rfl, rfl⟩))
    refine (number_lit HZ1.out _).mono ?_
    rintro e w5 ⟨pt5, c5, rfl, _, hb5, _⟩
    have HB5 := Lib.hid (HB4.out.trans hb5)
    clear hb5
    go_wp2_with (go_at_call 13; ((with_reducible refine (pick3 HN.out (by omega) HS.out _).mono ?_); rintro e w' ⟨rfl, rfl⟩))
    refine (number_lit HZ2.out _).mono ?_
    rintro e w6 ⟨pt6, c6, rfl, _, hb6, _⟩
    have HB6 := Lib.hid (HB5.out.trans hb6)
    clear hb6
    go_wp2_with fail
    go_ret
    exact ⟨rfl, HB6.out⟩
  · obtain ⟨l1, l2⟩ := low12_bd m
    have hhb : 0 ≤ high20 m ∧ high20 m < 1048576 := by unfold high20; omega
    have hsum := num_sum m m1 m2
    have HL : Hid (number (1 + p) m = [⟨1, 1 + p, 0, 0, high20 m⟩, ⟨13, 1 + p, 1 + p, 0, low12 m⟩]) := by
      show _ = _
      unfold number
      rw [hload, if_pos rfl, if_neg hsh]
    obtain ⟨h1, h2⟩ := hhb
    have hno : ¬ (-2048 ≤ m ∧ m ≤ 2047) := fun c => hsh (by unfold low12; omega)
    generalize high20 m = h at h1 h2 hsum HL
    generalize low12 m = o at l1 l2 hsum HL
    have z1 := wr_lo (h * 4096)
    have z2 := wr_hi (h * 4096)
    obtain ⟨t, ht⟩ : ∃ t, wrap32 (h * 4096) = t := ⟨_, rfl⟩
    rw [ht] at z1 z2 hsum
    have HT := Lib.hid ht
    have HSM := Lib.hid hsum
    have HRT := Lib.hid (right_lui (1 + p) h (by omega) (by omega) h1 h2)
    have HRU := Lib.hid (right_addi (1 + p) (1 + p) o (by omega) (by omega) (by omega) (by omega) l1 l2)
    have hw : Ins.wf ⟨1, 1 + p, 0, 0, h⟩ := ⟨⟨by simp, by simp⟩, ⟨by simp only; omega, by simp only; omega⟩, ⟨by simp, by simp⟩, ⟨by simp, by simp⟩, ⟨by simp only; omega, by simp only; omega⟩⟩
    have hw2 : Ins.wf ⟨13, 1 + p, 1 + p, 0, o⟩ := ⟨⟨by simp, by simp⟩, ⟨by simp only; omega, by simp only; omega⟩, ⟨by simp only; omega, by simp only; omega⟩, ⟨by simp, by simp⟩, ⟨by simp only; omega, by simp only; omega⟩⟩
    have HW := Lib.hid hw
    have HW2 := Lib.hid hw2
    have gno : (decide (-2048 ≤ m) && decide (m ≤ 2047)) = false := by
      rw [Bool.and_eq_false_iff]
      by_cases c : -2048 ≤ m
      · exact Or.inr (decide_eq_false (by omega))
      · exact Or.inl (decide_eq_false c)
    clear hload hsh hw hw2 ht hsum hno
    have hcs3 : m < -2048 ∨ 2047 < m := by
      by_cases c : -2048 ≤ m
      · by_cases c2 : m ≤ 2047
        · simp [c, c2] at gno
        · exact Or.inr (by omega)
      · exact Or.inl (by omega)
    clear gno
    rcases hcs3 with hcs3 | hcs3
    all_goals
      go_enter Try.func6, Try.ntmps6
      go_wp2_with fail
      refine (awake_any _).mono ?_
      rintro e w1 ⟨rfl, hb1⟩
      have HB1 := Lib.hid hb1
      clear hb1
      go_wp2_with (first | (go_at_call 13; ((with_reducible refine (pick3 HD.out (by omega) HP.out _).mono ?_); rintro e w' ⟨rfl, rfl⟩)) | (go_at_call 27; ((with_reducible refine (wrap_is HM.out _).mono ?_); rintro e w' ⟨rfl, rfl⟩)) | fail)
      refine (number_lit HL.out _).mono ?_
      rintro e w2 ⟨pt, c, rfl, hat, hb2, _⟩
      obtain ⟨B, f, rfl, hBl, hcs⟩ := hat 0 _ rfl
      have e0 := hcs 0 _ rfl
      have e1 := hcs 1 _ rfl
      have e2 := hcs 2 _ rfl
      have e3 := hcs 3 _ rfl
      have e4 := hcs 4 _ rfl
      obtain ⟨B', f', hp', _, hcs'⟩ := hat 1 _ rfl
      obtain ⟨rfl, rfl⟩ : B = B' ∧ f = f' := by
        simp only [Option.some.injEq, Addr.mk.injEq, and_true] at hp'
        exact hp'
      have q0 := hcs' 0 _ rfl
      have q1 := hcs' 1 _ rfl
      have q2' := hcs' 2 _ rfl
      have q3 := hcs' 3 _ rfl
      have q4 := hcs' 4 _ rfl
      simp only [Nat.zero_mul, Nat.add_zero] at e0 e1 e2 e3 e4
      simp only [Nat.one_mul, Nat.add_zero] at q0 q1 q2' q3 q4
      have HB2 := Lib.hid (HB1.out.trans hb2)
      clear hcs hat hb2 HB1 hcs' hp'
      have g1 : (0 == 1 + p) = false := by simp; omega
      have g2 : (1 + p == 0) = false := by simp; omega
      go_wp2_with fail
      refine wp_loop_rounds 3 ?_
      rw [rounds_succ]
      go_wp2_with (go_at_call 28; ((with_reducible refine (two_up h1 h2 HT.out _).mono ?_); rintro e w' ⟨rfl, rfl⟩))
      refine (right_val HW.out HRT.out _).mono ?_
      rintro e w3 ⟨rfl, hb3⟩
      have HB3 := Lib.hid (HB2.out.trans hb3)
      have r0 := (hb3.cell (p := ⟨B, f + 5, none⟩) hBl).trans q0
      have r1 := (hb3.cell (p := ⟨B, f + 5 + 1, none⟩) hBl).trans q1
      have r2 := (hb3.cell (p := ⟨B, f + 5 + 2, none⟩) hBl).trans q2'
      have r3 := (hb3.cell (p := ⟨B, f + 5 + 3, none⟩) hBl).trans q3
      have r4 := (hb3.cell (p := ⟨B, f + 5 + 4, none⟩) hBl).trans q4
      clear e0 e1 e2 e3 e4 q0 q1 q2' q3 q4 HB2 hb3
      go_wp2_with fail
      rw [rounds_succ]
      go_wp2_with (go_at_call 28; ((with_reducible refine (two_plus z1 z2 (by omega) (by omega) HSM.out _).mono ?_); rintro e w' ⟨rfl, rfl⟩))
      refine (right_val HW2.out HRU.out _).mono ?_
      rintro e w3b ⟨rfl, hb3b⟩
      have HBX := Lib.hid (HB3.out.trans hb3b)
      clear r0 r1 r2 r3 r4 HB3 hb3b
      go_wp2_with fail
      rw [rounds_succ]
      go_wp2_with fail
      refine (number_lit HZ0.out _).mono ?_
      rintro e w4 ⟨pt4, c4, rfl, _, hb4, _⟩
      have HB4 := Lib.hid (HBX.out.trans hb4)
      clear hb4
      go_wp2_with (go_at_call 13; ((with_reducible refine (pick3 HD.out (by omega) HQ.out _).mono ?_); rintro e w' ⟨rfl, rfl⟩))
      refine (number_lit HZ1.out _).mono ?_
      rintro e w5 ⟨pt5, c5, rfl, _, hb5, _⟩
      have HB5 := Lib.hid (HB4.out.trans hb5)
      clear hb5
      go_wp2_with (go_at_call 13; ((with_reducible refine (pick3 HN.out (by omega) HS.out _).mono ?_); rintro e w' ⟨rfl, rfl⟩))
      refine (number_lit HZ2.out _).mono ?_
      rintro e w6 ⟨pt6, c6, rfl, _, hb6, _⟩
      have HB6 := Lib.hid (HB5.out.trans hb6)
      clear hb6
      go_wp2_with fail
      go_ret
      first | exact ⟨rfl, HB6.out⟩ | exact ⟨rb (by simp; omega), HB6.out⟩
end Go.Proofs.Ytjjbfeoidceiiaa
