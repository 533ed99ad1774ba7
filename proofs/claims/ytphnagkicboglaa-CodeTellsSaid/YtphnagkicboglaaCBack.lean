/- The walk of CodeBack, over package code's contracts. -/
import Derived.Test.YtphnagkicboglaaCCode
namespace Go.Proofs.Ytphnagkicboglaa
open Go.RowKit Rv
set_option linter.unusedVariables false in
set_option maxHeartbeats 4000000 in
theorem back_x (i_o i_d i_a i_b i_n j_o j_d j_a j_b j_n x_o x_d x_a x_b x_n y_o y_d y_a y_b y_n v v' : Int) (h1 : Ins.wf ⟨i_o, i_d, i_a, i_b, i_n⟩) (h2 : Ins.wf ⟨j_o, j_d, j_a, j_b, j_n⟩) (HX : Hid (fit ⟨i_o, i_d, i_a, i_b, i_n⟩ = ⟨x_o, x_d, x_a, x_b, x_n⟩)) (HY : Hid (fit ⟨j_o, j_d, j_a, j_b, j_n⟩ = ⟨y_o, y_d, y_a, y_b, y_n⟩)) (wx : Ins.wf ⟨x_o, x_d, x_a, x_b, x_n⟩) (wy : Ins.wf ⟨y_o, y_d, y_a, y_b, y_n⟩)
    (HV : Hid (encV ⟨x_o, x_d, x_a, x_b, x_n⟩ = v)) (HV0 : Hid (encE ⟨x_o, x_d, x_a, x_b, x_n⟩ = 0)) (HW : Hid (encV ⟨y_o, y_d, y_a, y_b, y_n⟩ = v')) (HW0 : Hid (encE ⟨y_o, y_d, y_a, y_b, y_n⟩ = 0)) (HD : Hid (decV v = ⟨x_o, x_d, x_a, x_b, x_n⟩)) (HD0 : Hid (decE v = 0)) (v0 : 0 ≤ v) (v1 : v < 4294967296)
    (HC : (x_o = y_o ∧ x_d = y_d ∧ x_a = y_a ∧ x_b = y_b ∧ x_n = y_n ∧ v = v') ∨ ((v == v') = false ∧ ((x_o == y_o) = false ∨ (x_o = y_o ∧ (x_d == y_d) = false) ∨ (x_o = y_o ∧ x_d = y_d ∧ (x_a == y_a) = false) ∨ (x_o = y_o ∧ x_d = y_d ∧ x_a = y_a ∧ (x_b == y_b) = false) ∨ (x_o = y_o ∧ x_d = y_d ∧ x_a = y_a ∧ x_b = y_b ∧ (x_n == y_n) = false))))
    (hA : AwakeIs) (hE : EncodeIs) (hD : DecodeIs) (w : World) :
    Calls Try.prog 4 #[.agg #[.int .i64 i_o, .int .i64 i_d, .int .i64 i_a, .int .i64 i_b, .int .i64 i_n], .agg #[.int .i64 j_o, .int .i64 j_d, .int .i64 j_a, .int .i64 j_b, .int .i64 j_n]] w fun e w' => e = .returned (.bool true) ∧ Both w w' := by
  rcases HC with ⟨rfl, rfl, rfl, rfl, rfl, rfl⟩ | ⟨c0, c1 | ⟨rfl, c1⟩ | ⟨rfl, rfl, c1⟩ | ⟨rfl, rfl, rfl, c1⟩ | ⟨rfl, rfl, rfl, rfl, c1⟩⟩
  all_goals
    go_enter Try.func4, Try.ntmps4
    go_wp2_with fail
    refine (hA _).mono ?_
    rintro e W1 ⟨rfl, hb⟩
    have sI := ((Has5.new w 23 i_o i_d i_a i_b i_n).alloc #[.int .i64 j_o, .int .i64 j_d, .int .i64 j_a, .int .i64 j_b, .int .i64 j_n] 23).both hb
    have sJ := (Has5.new (w.alloc (.cells #[.int .i64 i_o, .int .i64 i_d, .int .i64 i_a, .int .i64 i_b, .int .i64 i_n] 23)) 23 j_o j_d j_a j_b j_n).both hb
    have B1 := Lib.hid (Both.trans (((Both.refl w).alloc _ _).alloc _ _) hb)
    clear hb
    simp at sJ
    have SJ := Lib.hid sJ
    obtain ⟨l, k0, k1, k2, k3, k4⟩ := sI
    clear sJ
    go_wp2_with fail
    refine (fit_lit h1 HX.out _).mono ?_
    rintro e W2 ⟨rfl, hb⟩
    clear l k0 k1 k2 k3 k4
    have B2 := Lib.hid (B1.out.trans hb)
    have sJ := SJ.out.both hb
    clear SJ hb B1
    obtain ⟨l, k0, k1, k2, k3, k4⟩ := sJ
    go_wp2_with fail
    refine (fit_lit h2 HY.out _).mono ?_
    rintro e W3 ⟨rfl, hb⟩
    clear l k0 k1 k2 k3 k4
    have B3 := Lib.hid ((B2.out.alloc _ _).trans hb)
    have sX := (Has5.new W2 23 x_o x_d x_a x_b x_n).both hb
    clear hb B2
    have SX := Lib.hid sX
    obtain ⟨l, k0, k1, k2, k3, k4⟩ := sX
    go_wp2_with fail
    refine (enc_lit hE wx HV.out HV0.out _).mono ?_
    rintro e W4 ⟨rfl, hb⟩
    clear l k0 k1 k2 k3 k4
    have B4 := Lib.hid ((B3.out.alloc _ _).trans hb)
    have SX4 := Lib.hid ((SX.out.alloc _ _).both hb)
    have sY := (Has5.new W3 23 _ _ _ _ _).both hb
    clear hb B3 SX
    have SY4 := Lib.hid sY
    obtain ⟨l, k0, k1, k2, k3, k4⟩ := sY
    go_wp2_with fail
    refine (enc_lit hE wy HW.out HW0.out _).mono ?_
    rintro e W5 ⟨rfl, hb⟩
    clear l k0 k1 k2 k3 k4
    have B5 := Lib.hid (B4.out.trans hb)
    have SX5 := Lib.hid (SX4.out.both hb)
    have SY5 := Lib.hid (SY4.out.both hb)
    clear hb B4 SX4 SY4
    go_wp2_with fail
    refine (dec_lit hD ⟨by omega, by omega⟩ HD.out HD0.out _).mono ?_
    rintro e W6 ⟨rfl, hb⟩
    have B6 := Lib.hid (B5.out.trans hb)
    have sX := SX5.out.both hb
    have sY := SY5.out.both hb
    clear hb B5 SX5 SY5
    obtain ⟨lx, x0, x1, x2, x3, x4⟩ := sX
    obtain ⟨ly, y0, y1, y2, y3, y4⟩ := sY
    go_wp2_with fail
    go_ret
    exact ⟨rfl, B6.out.alloc _ _⟩
theorem wf_right {i : Ins} (h : right i = true) : Ins.wf i := by
  obtain ⟨h1, h2, h3, h4, h5⟩ := right_bd h
  exact ⟨⟨by omega, by omega⟩, ⟨by omega, by omega⟩, ⟨by omega, by omega⟩, ⟨by omega, by omega⟩, ⟨by omega, by omega⟩⟩
theorem encV_right {i : Ins} (h : right i = true) : encV i = enc i := if_pos h
theorem encE_right {i : Ins} (h : right i = true) : encE i = 0 := if_pos h
theorem decV_enc {i : Ins} (h : right i = true) : decV (enc i) = i := by
  unfold decV
  rw [dec_enc h]
  rfl
theorem decE_enc {i : Ins} (h : right i = true) : decE (enc i) = 0 := by
  unfold decE
  rw [dec_enc h]
  rfl
theorem back_law (i j : Ins) (h1 : Ins.wf i) (h2 : Ins.wf j) (hA : AwakeIs) (hE : EncodeIs) (hD : DecodeIs) (w : World) :
    Calls Try.prog 4 #[ival i, ival j] w fun e w' => e = .returned (.bool true) ∧ Both w w' := by
  have rx := right_fit i
  have ry := right_fit j
  have inj : enc (fit i) = enc (fit j) → fit i = fit j := enc_inj rx ry
  have e1 := encV_right rx
  have e2 := encE_right rx
  have e3 := encV_right ry
  have e4 := encE_right ry
  have e5 := decV_enc rx
  have e6 := decE_enc rx
  have e7 := enc_bd rx
  have w1 := wf_right rx
  have w2 := wf_right ry
  obtain ⟨x, hx⟩ : ∃ x, fit i = x := ⟨_, rfl⟩
  obtain ⟨y, hy⟩ : ∃ y, fit j = y := ⟨_, rfl⟩
  rw [hx] at inj e1 e2 e5 e6 e7 w1
  rw [hy] at inj e3 e4 w2
  obtain ⟨i0, i1, i2, i3, i4⟩ := i
  obtain ⟨j0, j1, j2, j3, j4⟩ := j
  obtain ⟨x0, x1, x2, x3, x4⟩ := x
  obtain ⟨y0, y1, y2, y3, y4⟩ := y
  refine back_x _ _ _ _ _ _ _ _ _ _ x0 x1 x2 x3 x4 y0 y1 y2 y3 y4 _ _ h1 h2 hx hy w1 w2 e1 e2 e3 e4 e5 e6 e7.1 e7.2 ?_ hA hE hD w
  by_cases h : enc ⟨x0, x1, x2, x3, x4⟩ = enc ⟨y0, y1, y2, y3, y4⟩
  · have e := inj h
    have c0 : x0 = y0 := congrArg Ins.op e
    have c1 : x1 = y1 := congrArg Ins.d e
    have c2 : x2 = y2 := congrArg Ins.a e
    have c3 : x3 = y3 := congrArg Ins.b e
    have c4 : x4 = y4 := congrArg Ins.n e
    exact Or.inl ⟨c0, c1, c2, c3, c4, h⟩
  · refine Or.inr ⟨beq_eq_false_iff_ne.2 h, ?_⟩
    by_cases c0 : x0 = y0
    · by_cases c1 : x1 = y1
      · by_cases c2 : x2 = y2
        · by_cases c3 : x3 = y3
          · have c4 : x4 ≠ y4 := by
              intro c4
              subst c0 c1 c2 c3 c4
              exact h rfl
            exact Or.inr (Or.inr (Or.inr (Or.inr ⟨c0, c1, c2, c3, beq_eq_false_iff_ne.2 c4⟩)))
          · exact Or.inr (Or.inr (Or.inr (Or.inl ⟨c0, c1, c2, beq_eq_false_iff_ne.2 c3⟩)))
        · exact Or.inr (Or.inr (Or.inl ⟨c0, c1, beq_eq_false_iff_ne.2 c2⟩))
      · exact Or.inr (Or.inl ⟨c0, beq_eq_false_iff_ne.2 c1⟩)
    · exact Or.inl (beq_eq_false_iff_ne.2 c0)
end Go.Proofs.Ytphnagkicboglaa
