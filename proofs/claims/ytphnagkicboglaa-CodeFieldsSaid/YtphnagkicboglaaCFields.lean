/- CodeFields, over package code's contracts. -/
import Derived.Test.YtphnagkicboglaaCAwake
import Derived.Test.YtphnagkicboglaaCOpsG
import Derived.Deep.Cut
namespace Go.Proofs.Ytphnagkicboglaa
open Go.RowKit Rv
set_option linter.unusedVariables false
theorem exec_neq0 {P : Program} {o : Oper} {ρ : Operand → Value} {x y : Operand} {T : TypeId} {n : Int} (ho : o.op = .binOp .neq T x y T) (hx : ρ x = .int .i64 n) (hy : ρ y = .int .i64 0) (hn : n ≠ 0) (w : World) :
    (execOp ρ o).run P w = .ok (.value (.bool true)) w := by
  have h : (n != 0) = true := bne_iff_ne.2 hn
  unfold execOp
  simp only [ho, hx, hy]
  go_simp
theorem Has5.other {w : World} {B : Nat} {c0 c1 c2 c3 c4 : Int} (h : Has5 w B c0 c1 c2 c3 c4) {p : Addr} (hp : p.block ≠ B) (v : Value) : Has5 (w.setCell p v) B c0 c1 c2 c3 c4 :=
  ⟨by simpa [World.setCell] using h.lt, (World.cell?_setCell_other _ _ _ _ (fun e => hp (congrArg Addr.block e))).trans h.h0, (World.cell?_setCell_other _ _ _ _ (fun e => hp (congrArg Addr.block e))).trans h.h1,
    (World.cell?_setCell_other _ _ _ _ (fun e => hp (congrArg Addr.block e))).trans h.h2, (World.cell?_setCell_other _ _ _ _ (fun e => hp (congrArg Addr.block e))).trans h.h3, (World.cell?_setCell_other _ _ _ _ (fun e => hp (congrArg Addr.block e))).trans h.h4⟩
theorem Has5.set_d {w : World} {B : Nat} {c0 c1 c2 c3 c4 : Int} (h : Has5 w B c0 c1 c2 c3 c4) (v : Int) : Has5 (w.setCell ⟨B, 1, none⟩ (.int .i64 v)) B c0 v c2 c3 c4 :=
  ⟨by simpa [World.setCell] using h.lt, (World.cell?_setCell_other _ _ _ _ (by simp)).trans h.h0, World.cell?_setCell_same _ _ _ h.h1, (World.cell?_setCell_other _ _ _ _ (by simp)).trans h.h2, (World.cell?_setCell_other _ _ _ _ (by simp)).trans h.h3, (World.cell?_setCell_other _ _ _ _ (by simp)).trans h.h4⟩
theorem Has5.set_a {w : World} {B : Nat} {c0 c1 c2 c3 c4 : Int} (h : Has5 w B c0 c1 c2 c3 c4) (v : Int) : Has5 (w.setCell ⟨B, 2, none⟩ (.int .i64 v)) B c0 c1 v c3 c4 :=
  ⟨by simpa [World.setCell] using h.lt, (World.cell?_setCell_other _ _ _ _ (by simp)).trans h.h0, (World.cell?_setCell_other _ _ _ _ (by simp)).trans h.h1, World.cell?_setCell_same _ _ _ h.h2, (World.cell?_setCell_other _ _ _ _ (by simp)).trans h.h3, (World.cell?_setCell_other _ _ _ _ (by simp)).trans h.h4⟩
theorem Has5.set_b {w : World} {B : Nat} {c0 c1 c2 c3 c4 : Int} (h : Has5 w B c0 c1 c2 c3 c4) (v : Int) : Has5 (w.setCell ⟨B, 3, none⟩ (.int .i64 v)) B c0 c1 c2 v c4 :=
  ⟨by simpa [World.setCell] using h.lt, (World.cell?_setCell_other _ _ _ _ (by simp)).trans h.h0, (World.cell?_setCell_other _ _ _ _ (by simp)).trans h.h1, (World.cell?_setCell_other _ _ _ _ (by simp)).trans h.h2, World.cell?_setCell_same _ _ _ h.h3, (World.cell?_setCell_other _ _ _ _ (by simp)).trans h.h4⟩
set_option maxRecDepth 100000 in
set_option maxHeartbeats 4000000 in
theorem fields_A0 (i_o i_d i_a i_b i_n x_o x_d x_a x_b x_n p m n f lo mi hi : Int) (s : ByteArray) (h1 : Ins.wf ⟨i_o, i_d, i_a, i_b, i_n⟩) (P1 : Hid (inInt p)) (M1 : Hid (inInt m)) (HX : Hid (fit ⟨i_o, i_d, i_a, i_b, i_n⟩ = ⟨x_o, x_d, x_a, x_b, x_n⟩)) (WX : Hid (Ins.wf ⟨x_o, x_d, x_a, x_b, x_n⟩)) (WY : Hid (Ins.wf ⟨x_o, n, x_a, x_b, x_n⟩))
    (HM : Hid (pick m 32 = n)) (n0 : 0 ≤ n) (n1 : n < 32) (HC : Hid (pick p 3 = 0)) (HR : Hid (rowVals x_o = [.string s, .int .u8 f, .int .i64 lo, .int .i64 mi, .int .i64 hi]))
    (HR0 : Hid (right ⟨x_o, n, x_a, x_b, x_n⟩ = false)) (hn0 : n ≠ 0) (HF : f = 83 ∨ f = 66 ∨ f = 70 ∨ f = 90)
    (hA : AwakeIs) (hE : EncodeIs) (hR : RightIs) (w : World) :
    Calls Try.prog 6 #[.agg #[.int .i64 i_o, .int .i64 i_d, .int .i64 i_a, .int .i64 i_b, .int .i64 i_n], .int .i64 p, .int .i64 m] w fun e w' => e = .returned (.bool true) ∧ Both w w' := by
  rcases HF with rfl | rfl | rfl | rfl
  all_goals
    have hfld := fun f => field1 s f lo mi hi
    go_enter Try.func6, Try.ntmps6
    go_wp2_with fail
    refine (hA _).mono ?_
    rintro e W1 ⟨rfl, hb⟩
    have sI := (Has5.new w 23 _ _ _ _ _).both hb
    have B1 := Lib.hid (Both.trans ((Both.refl w).alloc _ _) hb)
    clear hb
    obtain ⟨l, c0, c1, c2, c3, c4⟩ := sI
    go_wp2_with fail
    refine (fit_lit h1 HX.out _).mono ?_
    rintro e W2 ⟨rfl, hb⟩
    clear l c0 c1 c2 c3 c4
    have B2 := Lib.hid (B1.out.trans hb)
    have hw1 := B2.out.1.size
    clear hb B1
    go_wp2_with fail
    refine (rowof_lit HR.out _).mono ?_
    rintro e W3 ⟨rfl, hb⟩
    have B3 := Lib.hid (((B2.out.alloc _ _).alloc _ _).trans hb)
    have sX := ((Has5.new W2 23 _ _ _ _ _).alloc _ _).both hb
    have sY := (Has5.new (W2.alloc (.cells #[.int .i64 x_o, .int .i64 x_d, .int .i64 x_a, .int .i64 x_b, .int .i64 x_n] 23)) 23 _ _ _ _ _).both hb
    obtain ⟨hcc, hff, hzz⟩ := bcell hb
    clear hcc hzz hb B2
    simp at sY
    have SX := Lib.hid sX
    have SY := Lib.hid sY
    obtain ⟨l, c0, c1, c2, c3, c4⟩ := sY
    clear sX
    have hw2 : w.heap.size ≤ W2.heap.size + 1 := Nat.le_succ_of_le hw1
    clear hw1
    go_wp2_with fail
    refine (pick_lit M1.out.1 M1.out.2 (by omega) HM.out _).mono ?_
    rintro e w' ⟨rfl, rfl⟩
    go_wp2_with fail
    refine (pick_lit P1.out.1 P1.out.2 (by omega) HC.out _).mono ?_
    rintro e w' ⟨rfl, rfl⟩
    go_wp2_with fail
    refine (right_lit hR WY.out HR0.out _).mono ?_
    rintro e W4 ⟨rfl, hb⟩
    have B4 := Lib.hid ((B3.out.setCell hw2 _).trans hb)
    clear hb l c0 c1 c2 c3 c4 hff hfld SX SY
    go_upto_region 16 with (fail)
    refine wp_region_list ?_
    refine wpList_frontG 3 (p := ((doOpsG _ _ _ _ _).get (by kernel_rfl))) (Option.some_get _).symm ?_
    refine wpList_oneG (by kernel_rfl) (exec_neq0 rfl (show _ = Value.int .i64 n by kernel_rfl) rfl hn0 _) ?_
    refine wpList_factsG 62 (fun a' w' => (a'.eval (.tmp 6), a'.defers, w') = (Value.bool true, [], W4)) ⟨(doOpsG _ _ _ _ _).get (by kernel_rfl), (Option.some_get _).symm, by kernel_rfl⟩ ?_
    intro a' w' hF
    simp only [Prod.mk.injEq] at hF
    obtain ⟨e6, ed, rfl⟩ := hF
    refine wpList_nil ?_
    rename_i hK
    refine hK _ _ (wp_ret ?_)
    have hres := results_tmp (fn := Try.f6) (t := 6) Try.results6 a'.tmps Try.prog w'
    have e6' : a'.tmps.getD 6 undef = .bool true := e6
    rw [e6'] at hres
    refine bodyPost_ret (R := fun e w'' => e = .returned (.bool true) ∧ Both w w'') hres ed ?_
    exact ⟨rfl, B4.out⟩
set_option maxRecDepth 100000 in
set_option maxHeartbeats 4000000 in
theorem fields_B0 (i_o i_d i_a i_b i_n x_o x_d x_a x_b x_n v v' p m n f lo mi hi : Int) (s : ByteArray) (h1 : Ins.wf ⟨i_o, i_d, i_a, i_b, i_n⟩) (P1 : Hid (inInt p)) (M1 : Hid (inInt m)) (HX : Hid (fit ⟨i_o, i_d, i_a, i_b, i_n⟩ = ⟨x_o, x_d, x_a, x_b, x_n⟩)) (WX : Hid (Ins.wf ⟨x_o, x_d, x_a, x_b, x_n⟩)) (WY : Hid (Ins.wf ⟨x_o, n, x_a, x_b, x_n⟩))
    (HM : Hid (pick m 32 = n)) (n0 : 0 ≤ n) (n1 : n < 32) (HC : Hid (pick p 3 = 0)) (HR : Hid (rowVals x_o = [.string s, .int .u8 f, .int .i64 lo, .int .i64 mi, .int .i64 hi]))
    (HR1 : Hid (right ⟨x_o, n, x_a, x_b, x_n⟩ = true)) (HV : Hid (encV ⟨x_o, x_d, x_a, x_b, x_n⟩ = v)) (HV0 : Hid (encE ⟨x_o, x_d, x_a, x_b, x_n⟩ = 0)) (HW : Hid (encV ⟨x_o, n, x_a, x_b, x_n⟩ = v')) (HW0 : Hid (encE ⟨x_o, n, x_a, x_b, x_n⟩ = 0)) (v0 : 0 ≤ v) (v1 : v < 4294967296) (u0 : 0 ≤ v') (u1 : v' < 4294967296)
    (HZ : (x_d = n ∧ v = v') ∨ ((x_d == n) = false ∧ 0 ≤ bits .xor .i64 v v' ∧ bits .xor .i64 v v' < 4294967296 ∧ (bits .xor .i64 v v' / 128 * 128 == bits .xor .i64 v v') = true ∧ bits .xor .i64 v v' / 128 < 32 ∧ (v' / 128 % 32 == n) = true))
    (hA : AwakeIs) (hE : EncodeIs) (hR : RightIs) (w : World) :
    Calls Try.prog 6 #[.agg #[.int .i64 i_o, .int .i64 i_d, .int .i64 i_a, .int .i64 i_b, .int .i64 i_n], .int .i64 p, .int .i64 m] w fun e w' => e = .returned (.bool true) ∧ Both w w' := by
  rcases HZ with ⟨rfl, rfl⟩ | ⟨z0, z1, z2, z3, z4, z5⟩
  all_goals
    have hfld := field1 s f lo mi hi
    go_enter Try.func6, Try.ntmps6
    go_wp2_with fail
    refine (hA _).mono ?_
    rintro e W1 ⟨rfl, hb⟩
    have sI := (Has5.new w 23 _ _ _ _ _).both hb
    have B1 := Lib.hid (Both.trans ((Both.refl w).alloc _ _) hb)
    clear hb
    obtain ⟨l, c0, c1, c2, c3, c4⟩ := sI
    go_wp2_with fail
    refine (fit_lit h1 HX.out _).mono ?_
    rintro e W2 ⟨rfl, hb⟩
    clear l c0 c1 c2 c3 c4
    have B2 := Lib.hid (B1.out.trans hb)
    have hw1 := B2.out.1.size
    clear hb B1
    go_wp2_with fail
    refine (rowof_lit HR.out _).mono ?_
    rintro e W3 ⟨rfl, hb⟩
    have B3 := Lib.hid (((B2.out.alloc _ _).alloc _ _).trans hb)
    have sX := ((Has5.new W2 23 _ _ _ _ _).alloc _ _).both hb
    have sY := (Has5.new (W2.alloc (.cells #[.int .i64 x_o, .int .i64 x_d, .int .i64 x_a, .int .i64 x_b, .int .i64 x_n] 23)) 23 _ _ _ _ _).both hb
    obtain ⟨hcc, hff, hzz⟩ := bcell hb
    clear hcc hzz hb B2
    simp at sY
    have SX := Lib.hid sX
    have SY := Lib.hid sY
    obtain ⟨l, c0, c1, c2, c3, c4⟩ := sY
    clear sX
    have hw2 : w.heap.size ≤ W2.heap.size + 1 := Nat.le_succ_of_le hw1
    clear hw1
    go_wp2_with fail
    refine (pick_lit M1.out.1 M1.out.2 (by omega) HM.out _).mono ?_
    rintro e w' ⟨rfl, rfl⟩
    go_wp2_with fail
    refine (pick_lit P1.out.1 P1.out.2 (by omega) HC.out _).mono ?_
    rintro e w' ⟨rfl, rfl⟩
    go_wp2_with fail
    refine (right_lit hR WY.out HR1.out _).mono ?_
    rintro e W4 ⟨rfl, hb⟩
    have B4 := Lib.hid ((B3.out.setCell hw2 _).trans hb)
    have sX := (SX.out.other (by dsimp only; omega) _).both hb
    have sY := (SY.out.set_d _).both hb
    clear hb l c0 c1 c2 c3 c4 B3 SX SY hff
    have SX := Lib.hid sX
    have SY := Lib.hid sY
    clear sY
    obtain ⟨l, c0, c1, c2, c3, c4⟩ := sX
    go_wp2_with fail
    refine (enc_lit hE WX.out HV.out HV0.out _).mono ?_
    rintro e W5 ⟨rfl, hb⟩
    have B5 := Lib.hid (B4.out.trans hb)
    have sX := SX.out.both hb
    have sY := SY.out.both hb
    clear hb l c0 c1 c2 c3 c4 B4 SX SY
    have SX := Lib.hid sX
    have SY := Lib.hid sY
    clear sX
    obtain ⟨l, c0, c1, c2, c3, c4⟩ := sY
    go_wp2_with fail
    refine (enc_lit hE WY.out HW.out HW0.out _).mono ?_
    rintro e W6 ⟨rfl, hb⟩
    have B6 := Lib.hid (B5.out.trans hb)
    have sX := SX.out.both hb
    have sY := SY.out.both hb
    clear hb l c0 c1 c2 c3 c4 B5 SX SY
    obtain ⟨l, c0, c1, c2, c3, c4⟩ := sX
    obtain ⟨l', d0, d1, d2, d3, d4⟩ := sY
    go_wp2_with fail
    go_ret
    exact ⟨rfl, B6.out⟩
set_option maxRecDepth 100000 in
set_option maxHeartbeats 4000000 in
theorem fields_A1 (i_o i_d i_a i_b i_n x_o x_d x_a x_b x_n p m n f lo mi hi : Int) (s : ByteArray) (h1 : Ins.wf ⟨i_o, i_d, i_a, i_b, i_n⟩) (P1 : Hid (inInt p)) (M1 : Hid (inInt m)) (HX : Hid (fit ⟨i_o, i_d, i_a, i_b, i_n⟩ = ⟨x_o, x_d, x_a, x_b, x_n⟩)) (WX : Hid (Ins.wf ⟨x_o, x_d, x_a, x_b, x_n⟩)) (WY : Hid (Ins.wf ⟨x_o, x_d, n, x_b, x_n⟩))
    (HM : Hid (pick m 32 = n)) (n0 : 0 ≤ n) (n1 : n < 32) (HC : Hid (pick p 3 = 1)) (HR : Hid (rowVals x_o = [.string s, .int .u8 f, .int .i64 lo, .int .i64 mi, .int .i64 hi]))
    (HR0 : Hid (right ⟨x_o, x_d, n, x_b, x_n⟩ = false)) (hn0 : n ≠ 0) (HF : f = 85 ∨ f = 74 ∨ f = 70 ∨ f = 90)
    (hA : AwakeIs) (hE : EncodeIs) (hR : RightIs) (w : World) :
    Calls Try.prog 6 #[.agg #[.int .i64 i_o, .int .i64 i_d, .int .i64 i_a, .int .i64 i_b, .int .i64 i_n], .int .i64 p, .int .i64 m] w fun e w' => e = .returned (.bool true) ∧ Both w w' := by
  rcases HF with rfl | rfl | rfl | rfl
  all_goals
    have hfld := fun f => field1 s f lo mi hi
    go_enter Try.func6, Try.ntmps6
    go_wp2_with fail
    refine (hA _).mono ?_
    rintro e W1 ⟨rfl, hb⟩
    have sI := (Has5.new w 23 _ _ _ _ _).both hb
    have B1 := Lib.hid (Both.trans ((Both.refl w).alloc _ _) hb)
    clear hb
    obtain ⟨l, c0, c1, c2, c3, c4⟩ := sI
    go_wp2_with fail
    refine (fit_lit h1 HX.out _).mono ?_
    rintro e W2 ⟨rfl, hb⟩
    clear l c0 c1 c2 c3 c4
    have B2 := Lib.hid (B1.out.trans hb)
    have hw1 := B2.out.1.size
    clear hb B1
    go_wp2_with fail
    refine (rowof_lit HR.out _).mono ?_
    rintro e W3 ⟨rfl, hb⟩
    have B3 := Lib.hid (((B2.out.alloc _ _).alloc _ _).trans hb)
    have sX := ((Has5.new W2 23 _ _ _ _ _).alloc _ _).both hb
    have sY := (Has5.new (W2.alloc (.cells #[.int .i64 x_o, .int .i64 x_d, .int .i64 x_a, .int .i64 x_b, .int .i64 x_n] 23)) 23 _ _ _ _ _).both hb
    obtain ⟨hcc, hff, hzz⟩ := bcell hb
    clear hcc hzz hb B2
    simp at sY
    have SX := Lib.hid sX
    have SY := Lib.hid sY
    obtain ⟨l, c0, c1, c2, c3, c4⟩ := sY
    clear sX
    have hw2 : w.heap.size ≤ W2.heap.size + 1 := Nat.le_succ_of_le hw1
    clear hw1
    go_wp2_with fail
    refine (pick_lit M1.out.1 M1.out.2 (by omega) HM.out _).mono ?_
    rintro e w' ⟨rfl, rfl⟩
    go_wp2_with fail
    refine (pick_lit P1.out.1 P1.out.2 (by omega) HC.out _).mono ?_
    rintro e w' ⟨rfl, rfl⟩
    go_wp2_with fail
    refine (right_lit hR WY.out HR0.out _).mono ?_
    rintro e W4 ⟨rfl, hb⟩
    have B4 := Lib.hid ((B3.out.setCell hw2 _).trans hb)
    clear hb l c0 c1 c2 c3 c4 hff hfld SX SY
    go_upto_region 16 with (fail)
    refine wp_region_list ?_
    refine wpList_frontG 3 (p := ((doOpsG _ _ _ _ _).get (by kernel_rfl))) (Option.some_get _).symm ?_
    refine wpList_oneG (by kernel_rfl) (exec_neq0 rfl (show _ = Value.int .i64 n by kernel_rfl) rfl hn0 _) ?_
    refine wpList_factsG 62 (fun a' w' => (a'.eval (.tmp 6), a'.defers, w') = (Value.bool true, [], W4)) ⟨(doOpsG _ _ _ _ _).get (by kernel_rfl), (Option.some_get _).symm, by kernel_rfl⟩ ?_
    intro a' w' hF
    simp only [Prod.mk.injEq] at hF
    obtain ⟨e6, ed, rfl⟩ := hF
    refine wpList_nil ?_
    rename_i hK
    refine hK _ _ (wp_ret ?_)
    have hres := results_tmp (fn := Try.f6) (t := 6) Try.results6 a'.tmps Try.prog w'
    have e6' : a'.tmps.getD 6 undef = .bool true := e6
    rw [e6'] at hres
    refine bodyPost_ret (R := fun e w'' => e = .returned (.bool true) ∧ Both w w'') hres ed ?_
    exact ⟨rfl, B4.out⟩
set_option maxRecDepth 100000 in
set_option maxHeartbeats 4000000 in
theorem fields_B1 (i_o i_d i_a i_b i_n x_o x_d x_a x_b x_n v v' p m n f lo mi hi : Int) (s : ByteArray) (h1 : Ins.wf ⟨i_o, i_d, i_a, i_b, i_n⟩) (P1 : Hid (inInt p)) (M1 : Hid (inInt m)) (HX : Hid (fit ⟨i_o, i_d, i_a, i_b, i_n⟩ = ⟨x_o, x_d, x_a, x_b, x_n⟩)) (WX : Hid (Ins.wf ⟨x_o, x_d, x_a, x_b, x_n⟩)) (WY : Hid (Ins.wf ⟨x_o, x_d, n, x_b, x_n⟩))
    (HM : Hid (pick m 32 = n)) (n0 : 0 ≤ n) (n1 : n < 32) (HC : Hid (pick p 3 = 1)) (HR : Hid (rowVals x_o = [.string s, .int .u8 f, .int .i64 lo, .int .i64 mi, .int .i64 hi]))
    (HR1 : Hid (right ⟨x_o, x_d, n, x_b, x_n⟩ = true)) (HV : Hid (encV ⟨x_o, x_d, x_a, x_b, x_n⟩ = v)) (HV0 : Hid (encE ⟨x_o, x_d, x_a, x_b, x_n⟩ = 0)) (HW : Hid (encV ⟨x_o, x_d, n, x_b, x_n⟩ = v')) (HW0 : Hid (encE ⟨x_o, x_d, n, x_b, x_n⟩ = 0)) (v0 : 0 ≤ v) (v1 : v < 4294967296) (u0 : 0 ≤ v') (u1 : v' < 4294967296)
    (HZ : (x_a = n ∧ v = v') ∨ ((x_a == n) = false ∧ 0 ≤ bits .xor .i64 v v' ∧ bits .xor .i64 v v' < 4294967296 ∧ (bits .xor .i64 v v' / 32768 * 32768 == bits .xor .i64 v v') = true ∧ bits .xor .i64 v v' / 32768 < 32 ∧ (v' / 32768 % 32 == n) = true))
    (hA : AwakeIs) (hE : EncodeIs) (hR : RightIs) (w : World) :
    Calls Try.prog 6 #[.agg #[.int .i64 i_o, .int .i64 i_d, .int .i64 i_a, .int .i64 i_b, .int .i64 i_n], .int .i64 p, .int .i64 m] w fun e w' => e = .returned (.bool true) ∧ Both w w' := by
  rcases HZ with ⟨rfl, rfl⟩ | ⟨z0, z1, z2, z3, z4, z5⟩
  all_goals
    have hfld := field1 s f lo mi hi
    go_enter Try.func6, Try.ntmps6
    go_wp2_with fail
    refine (hA _).mono ?_
    rintro e W1 ⟨rfl, hb⟩
    have sI := (Has5.new w 23 _ _ _ _ _).both hb
    have B1 := Lib.hid (Both.trans ((Both.refl w).alloc _ _) hb)
    clear hb
    obtain ⟨l, c0, c1, c2, c3, c4⟩ := sI
    go_wp2_with fail
    refine (fit_lit h1 HX.out _).mono ?_
    rintro e W2 ⟨rfl, hb⟩
    clear l c0 c1 c2 c3 c4
    have B2 := Lib.hid (B1.out.trans hb)
    have hw1 := B2.out.1.size
    clear hb B1
    go_wp2_with fail
    refine (rowof_lit HR.out _).mono ?_
    rintro e W3 ⟨rfl, hb⟩
    have B3 := Lib.hid (((B2.out.alloc _ _).alloc _ _).trans hb)
    have sX := ((Has5.new W2 23 _ _ _ _ _).alloc _ _).both hb
    have sY := (Has5.new (W2.alloc (.cells #[.int .i64 x_o, .int .i64 x_d, .int .i64 x_a, .int .i64 x_b, .int .i64 x_n] 23)) 23 _ _ _ _ _).both hb
    obtain ⟨hcc, hff, hzz⟩ := bcell hb
    clear hcc hzz hb B2
    simp at sY
    have SX := Lib.hid sX
    have SY := Lib.hid sY
    obtain ⟨l, c0, c1, c2, c3, c4⟩ := sY
    clear sX
    have hw2 : w.heap.size ≤ W2.heap.size + 1 := Nat.le_succ_of_le hw1
    clear hw1
    go_wp2_with fail
    refine (pick_lit M1.out.1 M1.out.2 (by omega) HM.out _).mono ?_
    rintro e w' ⟨rfl, rfl⟩
    go_wp2_with fail
    refine (pick_lit P1.out.1 P1.out.2 (by omega) HC.out _).mono ?_
    rintro e w' ⟨rfl, rfl⟩
    go_wp2_with fail
    refine (right_lit hR WY.out HR1.out _).mono ?_
    rintro e W4 ⟨rfl, hb⟩
    have B4 := Lib.hid ((B3.out.setCell hw2 _).trans hb)
    have sX := (SX.out.other (by dsimp only; omega) _).both hb
    have sY := (SY.out.set_a _).both hb
    clear hb l c0 c1 c2 c3 c4 B3 SX SY hff
    have SX := Lib.hid sX
    have SY := Lib.hid sY
    clear sY
    obtain ⟨l, c0, c1, c2, c3, c4⟩ := sX
    go_wp2_with fail
    refine (enc_lit hE WX.out HV.out HV0.out _).mono ?_
    rintro e W5 ⟨rfl, hb⟩
    have B5 := Lib.hid (B4.out.trans hb)
    have sX := SX.out.both hb
    have sY := SY.out.both hb
    clear hb l c0 c1 c2 c3 c4 B4 SX SY
    have SX := Lib.hid sX
    have SY := Lib.hid sY
    clear sX
    obtain ⟨l, c0, c1, c2, c3, c4⟩ := sY
    go_wp2_with fail
    refine (enc_lit hE WY.out HW.out HW0.out _).mono ?_
    rintro e W6 ⟨rfl, hb⟩
    have B6 := Lib.hid (B5.out.trans hb)
    have sX := SX.out.both hb
    have sY := SY.out.both hb
    clear hb l c0 c1 c2 c3 c4 B5 SX SY
    obtain ⟨l, c0, c1, c2, c3, c4⟩ := sX
    obtain ⟨l', d0, d1, d2, d3, d4⟩ := sY
    go_wp2_with fail
    go_ret
    exact ⟨rfl, B6.out⟩
set_option maxRecDepth 100000 in
set_option maxHeartbeats 4000000 in
theorem fields_A2 (i_o i_d i_a i_b i_n x_o x_d x_a x_b x_n p m n f lo mi hi : Int) (s : ByteArray) (h1 : Ins.wf ⟨i_o, i_d, i_a, i_b, i_n⟩) (P1 : Hid (inInt p)) (M1 : Hid (inInt m)) (HX : Hid (fit ⟨i_o, i_d, i_a, i_b, i_n⟩ = ⟨x_o, x_d, x_a, x_b, x_n⟩)) (WX : Hid (Ins.wf ⟨x_o, x_d, x_a, x_b, x_n⟩)) (WY : Hid (Ins.wf ⟨x_o, x_d, x_a, n, x_n⟩))
    (HM : Hid (pick m 32 = n)) (n0 : 0 ≤ n) (n1 : n < 32) (HC : Hid (pick p 3 = 2)) (HR : Hid (rowVals x_o = [.string s, .int .u8 f, .int .i64 lo, .int .i64 mi, .int .i64 hi]))
    (HR0 : Hid (right ⟨x_o, x_d, x_a, n, x_n⟩ = false)) (hn0 : n ≠ 0) (HF : f = 73 ∨ f = 72 ∨ f = 67 ∨ f = 85 ∨ f = 74 ∨ f = 70 ∨ f = 90 ∨ f = 76)
    (hA : AwakeIs) (hE : EncodeIs) (hR : RightIs) (w : World) :
    Calls Try.prog 6 #[.agg #[.int .i64 i_o, .int .i64 i_d, .int .i64 i_a, .int .i64 i_b, .int .i64 i_n], .int .i64 p, .int .i64 m] w fun e w' => e = .returned (.bool true) ∧ Both w w' := by
  rcases HF with rfl | rfl | rfl | rfl | rfl | rfl | rfl | rfl
  all_goals
    have hfld := fun f => field1 s f lo mi hi
    go_enter Try.func6, Try.ntmps6
    go_wp2_with fail
    refine (hA _).mono ?_
    rintro e W1 ⟨rfl, hb⟩
    have sI := (Has5.new w 23 _ _ _ _ _).both hb
    have B1 := Lib.hid (Both.trans ((Both.refl w).alloc _ _) hb)
    clear hb
    obtain ⟨l, c0, c1, c2, c3, c4⟩ := sI
    go_wp2_with fail
    refine (fit_lit h1 HX.out _).mono ?_
    rintro e W2 ⟨rfl, hb⟩
    clear l c0 c1 c2 c3 c4
    have B2 := Lib.hid (B1.out.trans hb)
    have hw1 := B2.out.1.size
    clear hb B1
    go_wp2_with fail
    refine (rowof_lit HR.out _).mono ?_
    rintro e W3 ⟨rfl, hb⟩
    have B3 := Lib.hid (((B2.out.alloc _ _).alloc _ _).trans hb)
    have sX := ((Has5.new W2 23 _ _ _ _ _).alloc _ _).both hb
    have sY := (Has5.new (W2.alloc (.cells #[.int .i64 x_o, .int .i64 x_d, .int .i64 x_a, .int .i64 x_b, .int .i64 x_n] 23)) 23 _ _ _ _ _).both hb
    obtain ⟨hcc, hff, hzz⟩ := bcell hb
    clear hcc hzz hb B2
    simp at sY
    have SX := Lib.hid sX
    have SY := Lib.hid sY
    obtain ⟨l, c0, c1, c2, c3, c4⟩ := sY
    clear sX
    have hw2 : w.heap.size ≤ W2.heap.size + 1 := Nat.le_succ_of_le hw1
    clear hw1
    go_wp2_with fail
    refine (pick_lit M1.out.1 M1.out.2 (by omega) HM.out _).mono ?_
    rintro e w' ⟨rfl, rfl⟩
    go_wp2_with fail
    refine (pick_lit P1.out.1 P1.out.2 (by omega) HC.out _).mono ?_
    rintro e w' ⟨rfl, rfl⟩
    go_wp2_with fail
    refine (right_lit hR WY.out HR0.out _).mono ?_
    rintro e W4 ⟨rfl, hb⟩
    have B4 := Lib.hid ((B3.out.setCell hw2 _).trans hb)
    clear hb l c0 c1 c2 c3 c4 hff hfld SX SY
    go_upto_region 16 with (fail)
    refine wp_region_list ?_
    refine wpList_frontG 3 (p := ((doOpsG _ _ _ _ _).get (by kernel_rfl))) (Option.some_get _).symm ?_
    refine wpList_oneG (by kernel_rfl) (exec_neq0 rfl (show _ = Value.int .i64 n by kernel_rfl) rfl hn0 _) ?_
    refine wpList_factsG 62 (fun a' w' => (a'.eval (.tmp 6), a'.defers, w') = (Value.bool true, [], W4)) ⟨(doOpsG _ _ _ _ _).get (by kernel_rfl), (Option.some_get _).symm, by kernel_rfl⟩ ?_
    intro a' w' hF
    simp only [Prod.mk.injEq] at hF
    obtain ⟨e6, ed, rfl⟩ := hF
    refine wpList_nil ?_
    rename_i hK
    refine hK _ _ (wp_ret ?_)
    have hres := results_tmp (fn := Try.f6) (t := 6) Try.results6 a'.tmps Try.prog w'
    have e6' : a'.tmps.getD 6 undef = .bool true := e6
    rw [e6'] at hres
    refine bodyPost_ret (R := fun e w'' => e = .returned (.bool true) ∧ Both w w'') hres ed ?_
    exact ⟨rfl, B4.out⟩
set_option maxRecDepth 100000 in
set_option maxHeartbeats 4000000 in
theorem fields_B2 (i_o i_d i_a i_b i_n x_o x_d x_a x_b x_n v v' p m n f lo mi hi : Int) (s : ByteArray) (h1 : Ins.wf ⟨i_o, i_d, i_a, i_b, i_n⟩) (P1 : Hid (inInt p)) (M1 : Hid (inInt m)) (HX : Hid (fit ⟨i_o, i_d, i_a, i_b, i_n⟩ = ⟨x_o, x_d, x_a, x_b, x_n⟩)) (WX : Hid (Ins.wf ⟨x_o, x_d, x_a, x_b, x_n⟩)) (WY : Hid (Ins.wf ⟨x_o, x_d, x_a, n, x_n⟩))
    (HM : Hid (pick m 32 = n)) (n0 : 0 ≤ n) (n1 : n < 32) (HC : Hid (pick p 3 = 2)) (HR : Hid (rowVals x_o = [.string s, .int .u8 f, .int .i64 lo, .int .i64 mi, .int .i64 hi]))
    (HR1 : Hid (right ⟨x_o, x_d, x_a, n, x_n⟩ = true)) (HV : Hid (encV ⟨x_o, x_d, x_a, x_b, x_n⟩ = v)) (HV0 : Hid (encE ⟨x_o, x_d, x_a, x_b, x_n⟩ = 0)) (HW : Hid (encV ⟨x_o, x_d, x_a, n, x_n⟩ = v')) (HW0 : Hid (encE ⟨x_o, x_d, x_a, n, x_n⟩ = 0)) (v0 : 0 ≤ v) (v1 : v < 4294967296) (u0 : 0 ≤ v') (u1 : v' < 4294967296)
    (HZ : (x_b = n ∧ v = v') ∨ ((x_b == n) = false ∧ 0 ≤ bits .xor .i64 v v' ∧ bits .xor .i64 v v' < 4294967296 ∧ (bits .xor .i64 v v' / 1048576 * 1048576 == bits .xor .i64 v v') = true ∧ bits .xor .i64 v v' / 1048576 < 32 ∧ (v' / 1048576 % 32 == n) = true))
    (hA : AwakeIs) (hE : EncodeIs) (hR : RightIs) (w : World) :
    Calls Try.prog 6 #[.agg #[.int .i64 i_o, .int .i64 i_d, .int .i64 i_a, .int .i64 i_b, .int .i64 i_n], .int .i64 p, .int .i64 m] w fun e w' => e = .returned (.bool true) ∧ Both w w' := by
  rcases HZ with ⟨rfl, rfl⟩ | ⟨z0, z1, z2, z3, z4, z5⟩
  all_goals
    have hfld := field1 s f lo mi hi
    go_enter Try.func6, Try.ntmps6
    go_wp2_with fail
    refine (hA _).mono ?_
    rintro e W1 ⟨rfl, hb⟩
    have sI := (Has5.new w 23 _ _ _ _ _).both hb
    have B1 := Lib.hid (Both.trans ((Both.refl w).alloc _ _) hb)
    clear hb
    obtain ⟨l, c0, c1, c2, c3, c4⟩ := sI
    go_wp2_with fail
    refine (fit_lit h1 HX.out _).mono ?_
    rintro e W2 ⟨rfl, hb⟩
    clear l c0 c1 c2 c3 c4
    have B2 := Lib.hid (B1.out.trans hb)
    have hw1 := B2.out.1.size
    clear hb B1
    go_wp2_with fail
    refine (rowof_lit HR.out _).mono ?_
    rintro e W3 ⟨rfl, hb⟩
    have B3 := Lib.hid (((B2.out.alloc _ _).alloc _ _).trans hb)
    have sX := ((Has5.new W2 23 _ _ _ _ _).alloc _ _).both hb
    have sY := (Has5.new (W2.alloc (.cells #[.int .i64 x_o, .int .i64 x_d, .int .i64 x_a, .int .i64 x_b, .int .i64 x_n] 23)) 23 _ _ _ _ _).both hb
    obtain ⟨hcc, hff, hzz⟩ := bcell hb
    clear hcc hzz hb B2
    simp at sY
    have SX := Lib.hid sX
    have SY := Lib.hid sY
    obtain ⟨l, c0, c1, c2, c3, c4⟩ := sY
    clear sX
    have hw2 : w.heap.size ≤ W2.heap.size + 1 := Nat.le_succ_of_le hw1
    clear hw1
    go_wp2_with fail
    refine (pick_lit M1.out.1 M1.out.2 (by omega) HM.out _).mono ?_
    rintro e w' ⟨rfl, rfl⟩
    go_wp2_with fail
    refine (pick_lit P1.out.1 P1.out.2 (by omega) HC.out _).mono ?_
    rintro e w' ⟨rfl, rfl⟩
    go_wp2_with fail
    refine (right_lit hR WY.out HR1.out _).mono ?_
    rintro e W4 ⟨rfl, hb⟩
    have B4 := Lib.hid ((B3.out.setCell hw2 _).trans hb)
    have sX := (SX.out.other (by dsimp only; omega) _).both hb
    have sY := (SY.out.set_b _).both hb
    clear hb l c0 c1 c2 c3 c4 B3 SX SY hff
    have SX := Lib.hid sX
    have SY := Lib.hid sY
    clear sY
    obtain ⟨l, c0, c1, c2, c3, c4⟩ := sX
    go_wp2_with fail
    refine (enc_lit hE WX.out HV.out HV0.out _).mono ?_
    rintro e W5 ⟨rfl, hb⟩
    have B5 := Lib.hid (B4.out.trans hb)
    have sX := SX.out.both hb
    have sY := SY.out.both hb
    clear hb l c0 c1 c2 c3 c4 B4 SX SY
    have SX := Lib.hid sX
    have SY := Lib.hid sY
    clear sX
    obtain ⟨l, c0, c1, c2, c3, c4⟩ := sY
    go_wp2_with fail
    refine (enc_lit hE WY.out HW.out HW0.out _).mono ?_
    rintro e W6 ⟨rfl, hb⟩
    have B6 := Lib.hid (B5.out.trans hb)
    have sX := SX.out.both hb
    have sY := SY.out.both hb
    clear hb l c0 c1 c2 c3 c4 B5 SX SY
    obtain ⟨l, c0, c1, c2, c3, c4⟩ := sX
    obtain ⟨l', d0, d1, d2, d3, d4⟩ := sY
    go_wp2_with fail
    go_ret
    exact ⟨rfl, B6.out⟩
end Go.Proofs.Ytphnagkicboglaa
