/- CodeNames, over package code's contracts. -/
import Derived.Test.YtphnagkicboglaaCForth
namespace Go.Proofs.Ytphnagkicboglaa
open Go.RowKit Rv
set_option linter.unusedVariables false in
set_option maxHeartbeats 4000000 in
theorem names_x (i_o i_d i_a i_b i_n j_o j_d j_a j_b j_n x_o x_d x_a x_b x_n y_o y_d y_a y_b y_n v k : Int) (s t : ByteArray) (h1 : Ins.wf ⟨i_o, i_d, i_a, i_b, i_n⟩) (h2 : Ins.wf ⟨j_o, j_d, j_a, j_b, j_n⟩) (HX : Hid (fit ⟨i_o, i_d, i_a, i_b, i_n⟩ = ⟨x_o, x_d, x_a, x_b, x_n⟩)) (HY : Hid (fit ⟨j_o, j_d, j_a, j_b, j_n⟩ = ⟨y_o, y_d, y_a, y_b, y_n⟩)) (WX : Hid (Ins.wf ⟨x_o, x_d, x_a, x_b, x_n⟩)) (WY : Hid (Ins.wf ⟨y_o, y_d, y_a, y_b, y_n⟩))
    (HV : Hid (encV ⟨x_o, x_d, x_a, x_b, x_n⟩ = v)) (HV0 : Hid (encE ⟨x_o, x_d, x_a, x_b, x_n⟩ = 0)) (v0 : 0 ≤ v) (v1 : v < 4294967296) (v3 : (v % 4 == 3) = true) (HK : Hid (pick x_n 99 = k)) (k0 : 0 ≤ k) (k1 : k < 99)
    (HS : Hid ((⟨(name x_o).toArray⟩ : ByteArray) = s)) (HT : Hid ((⟨(name y_o).toArray⟩ : ByteArray) = t)) (s0 : s.toList.isEmpty = false) (t0 : t.toList.isEmpty = false)
    (H0 : Hid ((⟨(name 0).toArray⟩ : ByteArray) = ⟨#[]⟩)) (HN : Hid ((⟨(name (50 + k)).toArray⟩ : ByteArray) = ⟨#[]⟩))
    (HC : (x_o = y_o ∧ s = t) ∨ ((x_o == y_o) = false ∧ (s.toList == t.toList) = false))
    (hA : AwakeIs) (hE : EncodeIs) (hN : NameIs) (w : World) :
    Calls Try.prog 8 #[.agg #[.int .i64 i_o, .int .i64 i_d, .int .i64 i_a, .int .i64 i_b, .int .i64 i_n], .agg #[.int .i64 j_o, .int .i64 j_d, .int .i64 j_a, .int .i64 j_b, .int .i64 j_n]] w fun e w' => e = .returned (.bool true) ∧ Both w w' := by
  have he : (⟨#[]⟩ : ByteArray).toList = [] := by rw [ByteArray.toList_eq]
  rcases HC with ⟨rfl, rfl⟩ | ⟨d1, d2⟩
  all_goals
    go_enter Try.func8, Try.ntmps8
    go_wp2_with fail
    refine (hA _).mono ?_
    rintro e W1 ⟨rfl, hb⟩
    have sI := ((Has5.new w 23 _ _ _ _ _).alloc _ _).both hb
    have sJ := (Has5.new (w.alloc (.cells #[.int .i64 i_o, .int .i64 i_d, .int .i64 i_a, .int .i64 i_b, .int .i64 i_n] 23)) 23 _ _ _ _ _).both hb
    have B1 := Lib.hid (Both.trans (((Both.refl w).alloc _ _).alloc _ _) hb)
    clear hb
    simp at sJ
    have SJ := Lib.hid sJ
    obtain ⟨l, c0, c1, c2, c3, c4⟩ := sI
    clear sJ
    go_wp2_with fail
    refine (fit_lit h1 HX.out _).mono ?_
    rintro e W2 ⟨rfl, hb⟩
    clear l c0 c1 c2 c3 c4
    have B2 := Lib.hid (B1.out.trans hb)
    have sJ := SJ.out.both hb
    clear SJ hb B1
    obtain ⟨l, c0, c1, c2, c3, c4⟩ := sJ
    go_wp2_with fail
    refine (fit_lit h2 HY.out _).mono ?_
    rintro e W3 ⟨rfl, hb⟩
    clear l c0 c1 c2 c3 c4
    have B3 := Lib.hid ((B2.out.alloc _ _).trans hb)
    have sX := (Has5.new W2 23 _ _ _ _ _).both hb
    clear hb B2
    have SX := Lib.hid sX
    obtain ⟨l, c0, c1, c2, c3, c4⟩ := sX
    go_wp2_with fail
    refine (enc_lit hE WX.out HV.out HV0.out _).mono ?_
    rintro e W4 ⟨rfl, hb⟩
    clear l c0 c1 c2 c3 c4
    have B4 := Lib.hid ((B3.out.alloc _ _).trans hb)
    have sX := ((SX.out.alloc _ _).both hb)
    have SX4 := Lib.hid sX
    have SY4 := Lib.hid ((Has5.new W3 23 _ _ _ _ _).both hb)
    clear hb B3 SX
    obtain ⟨l, c0, c1, c2, c3, c4⟩ := sX
    go_wp2_with fail
    refine (name_lit hN WX.out.op HS.out _).mono ?_
    rintro e W5 ⟨rfl, hb⟩
    clear l c0 c1 c2 c3 c4
    have B5 := Lib.hid (B4.out.trans hb)
    have sX := (SX4.out.both hb)
    have sY := (SY4.out.both hb)
    clear hb B4 SX4 SY4
    have SX5 := Lib.hid sX
    have SY5 := Lib.hid sY
    obtain ⟨l, c0, c1, c2, c3, c4⟩ := sY
    clear sX
    go_wp2_with fail
    refine (name_lit hN WY.out.op HT.out _).mono ?_
    rintro e W6 ⟨rfl, hb⟩
    clear l c0 c1 c2 c3 c4
    have B6 := Lib.hid (B5.out.trans hb)
    have sX := (SX5.out.both hb)
    have sY := (SY5.out.both hb)
    clear hb B5 SX5 SY5
    have SX6 := Lib.hid sX
    obtain ⟨lx, x0, x1, x2, x3, x4⟩ := sX
    obtain ⟨ly, y0, y1, y2, y3, y4⟩ := sY
    go_wp2_with fail
    refine (name_lit hN ⟨by omega, by omega⟩ H0.out _).mono ?_
    rintro e W7 ⟨rfl, hb⟩
    clear lx x0 x1 x2 x3 x4 ly y0 y1 y2 y3 y4
    have B7 := Lib.hid (B6.out.trans hb)
    have sX := (SX6.out.both hb)
    clear hb B6 SX6
    obtain ⟨l, c0, c1, c2, c3, c4⟩ := sX
    go_wp2_with fail
    refine (pick_lit WX.out.n.1 WX.out.n.2 (by omega) HK.out _).mono ?_
    rintro e w' ⟨rfl, rfl⟩
    clear l c0 c1 c2 c3 c4
    go_wp2_with fail
    refine (name_lit hN ⟨by omega, by omega⟩ HN.out _).mono ?_
    rintro e W8 ⟨rfl, hb⟩
    have B8 := Lib.hid (B7.out.trans hb)
    clear hb B7
    go_wp2_with fail
    go_ret
    exact ⟨rfl, B8.out⟩
theorem name_full {op : Int} (h1 : 1 ≤ op) (h2 : op ≤ 49) : (name op).isEmpty = false := by
  have := of_table (p := fun op => !(name op).isEmpty) (by decide +kernel) h1 h2
  simpa using this
theorem name_inj {x y : Int} (x1 : 1 ≤ x) (x2 : x ≤ 49) (y1 : 1 ≤ y) (y2 : y ≤ 49) (h : name x = name y) : x = y := by
  have all : ∀ j k : Fin 49, name (((j : Nat) : Int) + 1) = name (((k : Nat) : Int) + 1) → j = k := by decide +kernel
  obtain ⟨j, hj⟩ := Int.eq_ofNat_of_zero_le (show 0 ≤ x - 1 by omega)
  obtain ⟨k, hk⟩ := Int.eq_ofNat_of_zero_le (show 0 ≤ y - 1 by omega)
  have ex : x = (j : Int) + 1 := by omega
  have ey : y = (k : Int) + 1 := by omega
  rw [ex, ey] at h
  have := all ⟨j, by omega⟩ ⟨k, by omega⟩ h
  have e : j = k := congrArg Fin.val this
  omega
theorem names_law (i j : Ins) (h1 : Ins.wf i) (h2 : Ins.wf j) (hA : AwakeIs) (hE : EncodeIs) (hN : NameIs) (w : World) :
    Calls Try.prog 8 #[ival i, ival j] w fun e w' => e = .returned (.bool true) ∧ Both w w' := by
  have rx := right_fit i
  have ry := right_fit j
  have e1 := encV_right rx
  have e2 := encE_right rx
  have e7 := enc_bd rx
  have w1 := wf_right rx
  have w2 := wf_right ry
  obtain ⟨ox, _⟩ := right_bd rx
  obtain ⟨oy, _⟩ := right_bd ry
  have low := enc_low rx
  obtain ⟨_, _, _, _, _, _, b7, _⟩ := bounds ox.1 ox.2
  have m3 : (enc (fit i) % 4 == 3) = true := beq_iff_eq.2 (by omega)
  obtain ⟨k0, k1⟩ := pick_bd (fit i).n 99 (by omega)
  have n0 : (⟨(name 0).toArray⟩ : ByteArray) = ⟨#[]⟩ := by rw [show name 0 = [] from at_out tName [] 0 (Or.inl (by omega))]
  have n1 : (⟨(name (50 + pick (fit i).n 99)).toArray⟩ : ByteArray) = ⟨#[]⟩ := by rw [show name (50 + pick (fit i).n 99) = [] from at_out tName [] _ (Or.inr (by show (49 : Int) < _; omega))]
  have s0 : (⟨(name (fit i).op).toArray⟩ : ByteArray).toList.isEmpty = false := by rw [ByteArray.toList_eq]; exact name_full ox.1 ox.2
  have t0 : (⟨(name (fit j).op).toArray⟩ : ByteArray).toList.isEmpty = false := by rw [ByteArray.toList_eq]; exact name_full oy.1 oy.2
  have hc : ((fit i).op = (fit j).op ∧ (⟨(name (fit i).op).toArray⟩ : ByteArray) = ⟨(name (fit j).op).toArray⟩) ∨ (((fit i).op == (fit j).op) = false ∧ ((⟨(name (fit i).op).toArray⟩ : ByteArray).toList == (⟨(name (fit j).op).toArray⟩ : ByteArray).toList) = false) := by
    by_cases h : (fit i).op = (fit j).op
    · exact Or.inl ⟨h, by rw [h]⟩
    · refine Or.inr ⟨beq_eq_false_iff_ne.2 h, beq_eq_false_iff_ne.2 fun c => h ?_⟩
      rw [ByteArray.toList_eq, ByteArray.toList_eq] at c
      exact name_inj ox.1 ox.2 oy.1 oy.2 c
  obtain ⟨x, hx⟩ : ∃ x, fit i = x := ⟨_, rfl⟩
  obtain ⟨y, hy⟩ : ∃ y, fit j = y := ⟨_, rfl⟩
  rw [hx] at e1 e2 e7 w1 m3 k0 k1 n1 s0 hc
  rw [hy] at w2 t0 hc
  obtain ⟨i0, i1, i2, i3, i4⟩ := i
  obtain ⟨j0, j1, j2, j3, j4⟩ := j
  obtain ⟨x0, x1, x2, x3, x4⟩ := x
  obtain ⟨y0, y1, y2, y3, y4⟩ := y
  exact names_x _ _ _ _ _ _ _ _ _ _ x0 x1 x2 x3 x4 y0 y1 y2 y3 y4 _ _ _ _ h1 h2 hx hy w1 w2 e1 e2 e7.1 e7.2 m3 rfl k0 k1 rfl rfl s0 t0 n0 n1 hc hA hE hN w
end Go.Proofs.Ytphnagkicboglaa
