/- CodeBeyond, over package code's contracts. -/
import Derived.Test.YtphnagkicboglaaCNames
namespace Go.Proofs.Ytphnagkicboglaa
open Go.RowKit Rv
set_option linter.unusedVariables false in
set_option maxHeartbeats 4000000 in
theorem beyond_0 (i_o i_d i_a i_b i_n x_o x_d x_a x_b x_n a b k q : Int) (h1 : Ins.wf ⟨i_o, i_d, i_a, i_b, i_n⟩) (a1 : inInt a) (b1 : inInt b) (HX : Hid (fit ⟨i_o, i_d, i_a, i_b, i_n⟩ = ⟨x_o, x_d, x_a, x_b, x_n⟩)) (HK : Hid (pick b 1000 = k)) (k0 : 0 ≤ k) (k1 : k < 1000) (HC : Hid (pick a 6 = 0))
    (WY : Hid (Ins.wf ⟨x_o, 32 + k, x_a, x_b, x_n⟩)) (HV : Hid (encV ⟨x_o, 32 + k, x_a, x_b, x_n⟩ = 0)) (HV0 : Hid (encE ⟨x_o, 32 + k, x_a, x_b, x_n⟩ = 1)) (HR0 : Hid (right ⟨x_o, 32 + k, x_a, x_b, x_n⟩ = false)) (HL : Hid (readsL ⟨x_o, 32 + k, x_a, x_b, x_n⟩ = [])) (HW : Hid ((if right ⟨x_o, 32 + k, x_a, x_b, x_n⟩ then 32 + k else 0) = 0))
    (hA : AwakeIs) (hE : EncodeIs) (hR : RightIs) (hL : ReadsIs) (hW : WritesIs) (w : World) :
    Calls Try.prog 7 #[.agg #[.int .i64 i_o, .int .i64 i_d, .int .i64 i_a, .int .i64 i_b, .int .i64 i_n], .int .i64 a, .int .i64 b] w fun e w' => e = .returned (.bool true) ∧ Both w w' := by
  have A1 := Lib.hid a1
  have BB := Lib.hid b1
  clear a1 b1
  go_enter Try.func7, Try.ntmps7
  go_wp2_with fail
  refine (hA _).mono ?_
  rintro e W1 ⟨rfl, hb⟩
  have sI := (Has5.new w 23 _ _ _ _ _).both hb
  have B1 := Lib.hid (Both.trans ((Both.refl w).alloc _ _) hb)
  clear hb
  obtain ⟨l, c0, c1, c2, c3, c4⟩ := sI
  go_wp2_with fail
  refine (fit_lit h1 HX.out _).mono ?_
  rintro e W2 ⟨rfl, hb⟩
  clear l c0 c1 c2 c3 c4
  have B2 := Lib.hid (B1.out.trans hb)
  clear hb B1
  go_wp2_with fail
  refine (pick_lit BB.out.1 BB.out.2 (by omega) HK.out _).mono ?_
  rintro e w' ⟨rfl, rfl⟩
  go_wp2_with fail
  refine (pick_lit A1.out.1 A1.out.2 (by omega) HC.out _).mono ?_
  rintro e w' ⟨rfl, rfl⟩
  go_wp2_with fail
  refine (enc_lit hE WY.out HV.out HV0.out _).mono ?_
  rintro e W3 ⟨rfl, hb⟩
  have B3 := Lib.hid ((B2.out.alloc _ _).trans hb)
  have sX := (Has5.new W2 23 _ _ _ _ _).both hb
  clear hb B2
  have SX := Lib.hid sX
  obtain ⟨l, c0, c1, c2, c3, c4⟩ := sX
  go_wp2_with fail
  refine (right_lit hR WY.out HR0.out _).mono ?_
  rintro e W4 ⟨rfl, hb⟩
  clear l c0 c1 c2 c3 c4
  have B4 := Lib.hid (B3.out.trans hb)
  have sX := SX.out.both hb
  clear hb B3 SX
  have SX := Lib.hid sX
  obtain ⟨l, c0, c1, c2, c3, c4⟩ := sX
  go_wp2_with fail
  refine (reads_none hL WY.out HL.out _).mono ?_
  rintro e W5 ⟨⟨p, c, rfl⟩, hb⟩
  clear l c0 c1 c2 c3 c4
  have B5 := Lib.hid (B4.out.trans hb)
  have sX := SX.out.both hb
  clear hb B4 SX
  obtain ⟨l, c0, c1, c2, c3, c4⟩ := sX
  go_wp2_with fail
  refine (writes_lit hW WY.out HW.out _).mono ?_
  rintro e W6 ⟨rfl, hb⟩
  have B6 := Lib.hid (B5.out.trans hb)
  clear hb B5
  go_wp2_with fail
  go_ret
  exact ⟨rfl, B6.out⟩
set_option linter.unusedVariables false in
set_option maxHeartbeats 4000000 in
theorem beyond_1 (i_o i_d i_a i_b i_n x_o x_d x_a x_b x_n a b k q : Int) (h1 : Ins.wf ⟨i_o, i_d, i_a, i_b, i_n⟩) (a1 : inInt a) (b1 : inInt b) (HX : Hid (fit ⟨i_o, i_d, i_a, i_b, i_n⟩ = ⟨x_o, x_d, x_a, x_b, x_n⟩)) (HK : Hid (pick b 1000 = k)) (k0 : 0 ≤ k) (k1 : k < 1000) (HC : Hid (pick a 6 = 1))
    (WY : Hid (Ins.wf ⟨x_o, x_d, -(32 + k), x_b, x_n⟩)) (HV : Hid (encV ⟨x_o, x_d, -(32 + k), x_b, x_n⟩ = 0)) (HV0 : Hid (encE ⟨x_o, x_d, -(32 + k), x_b, x_n⟩ = 1)) (HR0 : Hid (right ⟨x_o, x_d, -(32 + k), x_b, x_n⟩ = false)) (HL : Hid (readsL ⟨x_o, x_d, -(32 + k), x_b, x_n⟩ = [])) (HW : Hid ((if right ⟨x_o, x_d, -(32 + k), x_b, x_n⟩ then x_d else 0) = 0))
    (hA : AwakeIs) (hE : EncodeIs) (hR : RightIs) (hL : ReadsIs) (hW : WritesIs) (w : World) :
    Calls Try.prog 7 #[.agg #[.int .i64 i_o, .int .i64 i_d, .int .i64 i_a, .int .i64 i_b, .int .i64 i_n], .int .i64 a, .int .i64 b] w fun e w' => e = .returned (.bool true) ∧ Both w w' := by
  have A1 := Lib.hid a1
  have BB := Lib.hid b1
  clear a1 b1
  go_enter Try.func7, Try.ntmps7
  go_wp2_with fail
  refine (hA _).mono ?_
  rintro e W1 ⟨rfl, hb⟩
  have sI := (Has5.new w 23 _ _ _ _ _).both hb
  have B1 := Lib.hid (Both.trans ((Both.refl w).alloc _ _) hb)
  clear hb
  obtain ⟨l, c0, c1, c2, c3, c4⟩ := sI
  go_wp2_with fail
  refine (fit_lit h1 HX.out _).mono ?_
  rintro e W2 ⟨rfl, hb⟩
  clear l c0 c1 c2 c3 c4
  have B2 := Lib.hid (B1.out.trans hb)
  clear hb B1
  go_wp2_with fail
  refine (pick_lit BB.out.1 BB.out.2 (by omega) HK.out _).mono ?_
  rintro e w' ⟨rfl, rfl⟩
  go_wp2_with fail
  refine (pick_lit A1.out.1 A1.out.2 (by omega) HC.out _).mono ?_
  rintro e w' ⟨rfl, rfl⟩
  go_wp2_with fail
  refine (enc_lit hE WY.out HV.out HV0.out _).mono ?_
  rintro e W3 ⟨rfl, hb⟩
  have B3 := Lib.hid ((B2.out.alloc _ _).trans hb)
  have sX := (Has5.new W2 23 _ _ _ _ _).both hb
  clear hb B2
  have SX := Lib.hid sX
  obtain ⟨l, c0, c1, c2, c3, c4⟩ := sX
  go_wp2_with fail
  refine (right_lit hR WY.out HR0.out _).mono ?_
  rintro e W4 ⟨rfl, hb⟩
  clear l c0 c1 c2 c3 c4
  have B4 := Lib.hid (B3.out.trans hb)
  have sX := SX.out.both hb
  clear hb B3 SX
  have SX := Lib.hid sX
  obtain ⟨l, c0, c1, c2, c3, c4⟩ := sX
  go_wp2_with fail
  refine (reads_none hL WY.out HL.out _).mono ?_
  rintro e W5 ⟨⟨p, c, rfl⟩, hb⟩
  clear l c0 c1 c2 c3 c4
  have B5 := Lib.hid (B4.out.trans hb)
  have sX := SX.out.both hb
  clear hb B4 SX
  obtain ⟨l, c0, c1, c2, c3, c4⟩ := sX
  go_wp2_with fail
  refine (writes_lit hW WY.out HW.out _).mono ?_
  rintro e W6 ⟨rfl, hb⟩
  have B6 := Lib.hid (B5.out.trans hb)
  clear hb B5
  go_wp2_with fail
  go_ret
  exact ⟨rfl, B6.out⟩
set_option linter.unusedVariables false in
set_option maxHeartbeats 4000000 in
theorem beyond_2 (i_o i_d i_a i_b i_n x_o x_d x_a x_b x_n a b k q : Int) (h1 : Ins.wf ⟨i_o, i_d, i_a, i_b, i_n⟩) (a1 : inInt a) (b1 : inInt b) (HX : Hid (fit ⟨i_o, i_d, i_a, i_b, i_n⟩ = ⟨x_o, x_d, x_a, x_b, x_n⟩)) (HK : Hid (pick b 1000 = k)) (k0 : 0 ≤ k) (k1 : k < 1000) (HC : Hid (pick a 6 = 2))
    (WY : Hid (Ins.wf ⟨x_o, x_d, x_a, 32 + k, x_n⟩)) (HV : Hid (encV ⟨x_o, x_d, x_a, 32 + k, x_n⟩ = 0)) (HV0 : Hid (encE ⟨x_o, x_d, x_a, 32 + k, x_n⟩ = 1)) (HR0 : Hid (right ⟨x_o, x_d, x_a, 32 + k, x_n⟩ = false)) (HL : Hid (readsL ⟨x_o, x_d, x_a, 32 + k, x_n⟩ = [])) (HW : Hid ((if right ⟨x_o, x_d, x_a, 32 + k, x_n⟩ then x_d else 0) = 0))
    (hA : AwakeIs) (hE : EncodeIs) (hR : RightIs) (hL : ReadsIs) (hW : WritesIs) (w : World) :
    Calls Try.prog 7 #[.agg #[.int .i64 i_o, .int .i64 i_d, .int .i64 i_a, .int .i64 i_b, .int .i64 i_n], .int .i64 a, .int .i64 b] w fun e w' => e = .returned (.bool true) ∧ Both w w' := by
  have A1 := Lib.hid a1
  have BB := Lib.hid b1
  clear a1 b1
  go_enter Try.func7, Try.ntmps7
  go_wp2_with fail
  refine (hA _).mono ?_
  rintro e W1 ⟨rfl, hb⟩
  have sI := (Has5.new w 23 _ _ _ _ _).both hb
  have B1 := Lib.hid (Both.trans ((Both.refl w).alloc _ _) hb)
  clear hb
  obtain ⟨l, c0, c1, c2, c3, c4⟩ := sI
  go_wp2_with fail
  refine (fit_lit h1 HX.out _).mono ?_
  rintro e W2 ⟨rfl, hb⟩
  clear l c0 c1 c2 c3 c4
  have B2 := Lib.hid (B1.out.trans hb)
  clear hb B1
  go_wp2_with fail
  refine (pick_lit BB.out.1 BB.out.2 (by omega) HK.out _).mono ?_
  rintro e w' ⟨rfl, rfl⟩
  go_wp2_with fail
  refine (pick_lit A1.out.1 A1.out.2 (by omega) HC.out _).mono ?_
  rintro e w' ⟨rfl, rfl⟩
  go_wp2_with fail
  refine (enc_lit hE WY.out HV.out HV0.out _).mono ?_
  rintro e W3 ⟨rfl, hb⟩
  have B3 := Lib.hid ((B2.out.alloc _ _).trans hb)
  have sX := (Has5.new W2 23 _ _ _ _ _).both hb
  clear hb B2
  have SX := Lib.hid sX
  obtain ⟨l, c0, c1, c2, c3, c4⟩ := sX
  go_wp2_with fail
  refine (right_lit hR WY.out HR0.out _).mono ?_
  rintro e W4 ⟨rfl, hb⟩
  clear l c0 c1 c2 c3 c4
  have B4 := Lib.hid (B3.out.trans hb)
  have sX := SX.out.both hb
  clear hb B3 SX
  have SX := Lib.hid sX
  obtain ⟨l, c0, c1, c2, c3, c4⟩ := sX
  go_wp2_with fail
  refine (reads_none hL WY.out HL.out _).mono ?_
  rintro e W5 ⟨⟨p, c, rfl⟩, hb⟩
  clear l c0 c1 c2 c3 c4
  have B5 := Lib.hid (B4.out.trans hb)
  have sX := SX.out.both hb
  clear hb B4 SX
  obtain ⟨l, c0, c1, c2, c3, c4⟩ := sX
  go_wp2_with fail
  refine (writes_lit hW WY.out HW.out _).mono ?_
  rintro e W6 ⟨rfl, hb⟩
  have B6 := Lib.hid (B5.out.trans hb)
  clear hb B5
  go_wp2_with fail
  go_ret
  exact ⟨rfl, B6.out⟩
set_option linter.unusedVariables false in
set_option maxHeartbeats 4000000 in
theorem beyond_3 (i_o i_d i_a i_b i_n x_o x_d x_a x_b x_n a b k q : Int) (h1 : Ins.wf ⟨i_o, i_d, i_a, i_b, i_n⟩) (a1 : inInt a) (b1 : inInt b) (HX : Hid (fit ⟨i_o, i_d, i_a, i_b, i_n⟩ = ⟨x_o, x_d, x_a, x_b, x_n⟩)) (HK : Hid (pick b 1000 = k)) (k0 : 0 ≤ k) (k1 : k < 1000) (HC : Hid (pick a 6 = 3)) (HQ : Hid (pick b 1099511627776 = q)) (q0 : 0 ≤ q) (q1 : q < 1099511627776)
    (WY : Hid (Ins.wf ⟨x_o, x_d, x_a, x_b, 1048576 + q⟩)) (HV : Hid (encV ⟨x_o, x_d, x_a, x_b, 1048576 + q⟩ = 0)) (HV0 : Hid (encE ⟨x_o, x_d, x_a, x_b, 1048576 + q⟩ = 1)) (HR0 : Hid (right ⟨x_o, x_d, x_a, x_b, 1048576 + q⟩ = false)) (HL : Hid (readsL ⟨x_o, x_d, x_a, x_b, 1048576 + q⟩ = [])) (HW : Hid ((if right ⟨x_o, x_d, x_a, x_b, 1048576 + q⟩ then x_d else 0) = 0))
    (hA : AwakeIs) (hE : EncodeIs) (hR : RightIs) (hL : ReadsIs) (hW : WritesIs) (w : World) :
    Calls Try.prog 7 #[.agg #[.int .i64 i_o, .int .i64 i_d, .int .i64 i_a, .int .i64 i_b, .int .i64 i_n], .int .i64 a, .int .i64 b] w fun e w' => e = .returned (.bool true) ∧ Both w w' := by
  have A1 := Lib.hid a1
  have BB := Lib.hid b1
  clear a1 b1
  go_enter Try.func7, Try.ntmps7
  go_wp2_with fail
  refine (hA _).mono ?_
  rintro e W1 ⟨rfl, hb⟩
  have sI := (Has5.new w 23 _ _ _ _ _).both hb
  have B1 := Lib.hid (Both.trans ((Both.refl w).alloc _ _) hb)
  clear hb
  obtain ⟨l, c0, c1, c2, c3, c4⟩ := sI
  go_wp2_with fail
  refine (fit_lit h1 HX.out _).mono ?_
  rintro e W2 ⟨rfl, hb⟩
  clear l c0 c1 c2 c3 c4
  have B2 := Lib.hid (B1.out.trans hb)
  clear hb B1
  go_wp2_with fail
  refine (pick_lit BB.out.1 BB.out.2 (by omega) HK.out _).mono ?_
  rintro e w' ⟨rfl, rfl⟩
  go_wp2_with fail
  refine (pick_lit A1.out.1 A1.out.2 (by omega) HC.out _).mono ?_
  rintro e w' ⟨rfl, rfl⟩
  go_wp2_with fail
  refine (pick_lit BB.out.1 BB.out.2 (by omega) HQ.out _).mono ?_
  rintro e w' ⟨rfl, rfl⟩
  go_wp2_with fail
  refine (enc_lit hE WY.out HV.out HV0.out _).mono ?_
  rintro e W3 ⟨rfl, hb⟩
  have B3 := Lib.hid ((B2.out.alloc _ _).trans hb)
  have sX := (Has5.new W2 23 _ _ _ _ _).both hb
  clear hb B2
  have SX := Lib.hid sX
  obtain ⟨l, c0, c1, c2, c3, c4⟩ := sX
  go_wp2_with fail
  refine (right_lit hR WY.out HR0.out _).mono ?_
  rintro e W4 ⟨rfl, hb⟩
  clear l c0 c1 c2 c3 c4
  have B4 := Lib.hid (B3.out.trans hb)
  have sX := SX.out.both hb
  clear hb B3 SX
  have SX := Lib.hid sX
  obtain ⟨l, c0, c1, c2, c3, c4⟩ := sX
  go_wp2_with fail
  refine (reads_none hL WY.out HL.out _).mono ?_
  rintro e W5 ⟨⟨p, c, rfl⟩, hb⟩
  clear l c0 c1 c2 c3 c4
  have B5 := Lib.hid (B4.out.trans hb)
  have sX := SX.out.both hb
  clear hb B4 SX
  obtain ⟨l, c0, c1, c2, c3, c4⟩ := sX
  go_wp2_with fail
  refine (writes_lit hW WY.out HW.out _).mono ?_
  rintro e W6 ⟨rfl, hb⟩
  have B6 := Lib.hid (B5.out.trans hb)
  clear hb B5
  go_wp2_with fail
  go_ret
  exact ⟨rfl, B6.out⟩
set_option linter.unusedVariables false in
set_option maxHeartbeats 4000000 in
theorem beyond_4 (i_o i_d i_a i_b i_n x_o x_d x_a x_b x_n a b k q : Int) (h1 : Ins.wf ⟨i_o, i_d, i_a, i_b, i_n⟩) (a1 : inInt a) (b1 : inInt b) (HX : Hid (fit ⟨i_o, i_d, i_a, i_b, i_n⟩ = ⟨x_o, x_d, x_a, x_b, x_n⟩)) (HK : Hid (pick b 1000 = k)) (k0 : 0 ≤ k) (k1 : k < 1000) (HC : Hid (pick a 6 = 4)) (HQ : Hid (pick b 1099511627776 = q)) (q0 : 0 ≤ q) (q1 : q < 1099511627776)
    (WY : Hid (Ins.wf ⟨x_o, x_d, x_a, x_b, -1048577 - q⟩)) (HV : Hid (encV ⟨x_o, x_d, x_a, x_b, -1048577 - q⟩ = 0)) (HV0 : Hid (encE ⟨x_o, x_d, x_a, x_b, -1048577 - q⟩ = 1)) (HR0 : Hid (right ⟨x_o, x_d, x_a, x_b, -1048577 - q⟩ = false)) (HL : Hid (readsL ⟨x_o, x_d, x_a, x_b, -1048577 - q⟩ = [])) (HW : Hid ((if right ⟨x_o, x_d, x_a, x_b, -1048577 - q⟩ then x_d else 0) = 0))
    (hA : AwakeIs) (hE : EncodeIs) (hR : RightIs) (hL : ReadsIs) (hW : WritesIs) (w : World) :
    Calls Try.prog 7 #[.agg #[.int .i64 i_o, .int .i64 i_d, .int .i64 i_a, .int .i64 i_b, .int .i64 i_n], .int .i64 a, .int .i64 b] w fun e w' => e = .returned (.bool true) ∧ Both w w' := by
  have A1 := Lib.hid a1
  have BB := Lib.hid b1
  clear a1 b1
  go_enter Try.func7, Try.ntmps7
  go_wp2_with fail
  refine (hA _).mono ?_
  rintro e W1 ⟨rfl, hb⟩
  have sI := (Has5.new w 23 _ _ _ _ _).both hb
  have B1 := Lib.hid (Both.trans ((Both.refl w).alloc _ _) hb)
  clear hb
  obtain ⟨l, c0, c1, c2, c3, c4⟩ := sI
  go_wp2_with fail
  refine (fit_lit h1 HX.out _).mono ?_
  rintro e W2 ⟨rfl, hb⟩
  clear l c0 c1 c2 c3 c4
  have B2 := Lib.hid (B1.out.trans hb)
  clear hb B1
  go_wp2_with fail
  refine (pick_lit BB.out.1 BB.out.2 (by omega) HK.out _).mono ?_
  rintro e w' ⟨rfl, rfl⟩
  go_wp2_with fail
  refine (pick_lit A1.out.1 A1.out.2 (by omega) HC.out _).mono ?_
  rintro e w' ⟨rfl, rfl⟩
  go_wp2_with fail
  refine (pick_lit BB.out.1 BB.out.2 (by omega) HQ.out _).mono ?_
  rintro e w' ⟨rfl, rfl⟩
  go_wp2_with fail
  refine (enc_lit hE WY.out HV.out HV0.out _).mono ?_
  rintro e W3 ⟨rfl, hb⟩
  have B3 := Lib.hid ((B2.out.alloc _ _).trans hb)
  have sX := (Has5.new W2 23 _ _ _ _ _).both hb
  clear hb B2
  have SX := Lib.hid sX
  obtain ⟨l, c0, c1, c2, c3, c4⟩ := sX
  go_wp2_with fail
  refine (right_lit hR WY.out HR0.out _).mono ?_
  rintro e W4 ⟨rfl, hb⟩
  clear l c0 c1 c2 c3 c4
  have B4 := Lib.hid (B3.out.trans hb)
  have sX := SX.out.both hb
  clear hb B3 SX
  have SX := Lib.hid sX
  obtain ⟨l, c0, c1, c2, c3, c4⟩ := sX
  go_wp2_with fail
  refine (reads_none hL WY.out HL.out _).mono ?_
  rintro e W5 ⟨⟨p, c, rfl⟩, hb⟩
  clear l c0 c1 c2 c3 c4
  have B5 := Lib.hid (B4.out.trans hb)
  have sX := SX.out.both hb
  clear hb B4 SX
  obtain ⟨l, c0, c1, c2, c3, c4⟩ := sX
  go_wp2_with fail
  refine (writes_lit hW WY.out HW.out _).mono ?_
  rintro e W6 ⟨rfl, hb⟩
  have B6 := Lib.hid (B5.out.trans hb)
  clear hb B5
  go_wp2_with fail
  go_ret
  exact ⟨rfl, B6.out⟩
set_option linter.unusedVariables false in
set_option maxHeartbeats 4000000 in
theorem beyond_5 (i_o i_d i_a i_b i_n x_o x_d x_a x_b x_n a b k q : Int) (h1 : Ins.wf ⟨i_o, i_d, i_a, i_b, i_n⟩) (a1 : inInt a) (b1 : inInt b) (HX : Hid (fit ⟨i_o, i_d, i_a, i_b, i_n⟩ = ⟨x_o, x_d, x_a, x_b, x_n⟩)) (HK : Hid (pick b 1000 = k)) (k0 : 0 ≤ k) (k1 : k < 1000) (HC : Hid (pick a 6 = 5))
    (WY : Hid (Ins.wf ⟨49 + (32 + k), x_d, x_a, x_b, x_n⟩)) (HV : Hid (encV ⟨49 + (32 + k), x_d, x_a, x_b, x_n⟩ = 0)) (HV0 : Hid (encE ⟨49 + (32 + k), x_d, x_a, x_b, x_n⟩ = 1)) (HR0 : Hid (right ⟨49 + (32 + k), x_d, x_a, x_b, x_n⟩ = false)) (HL : Hid (readsL ⟨49 + (32 + k), x_d, x_a, x_b, x_n⟩ = [])) (HW : Hid ((if right ⟨49 + (32 + k), x_d, x_a, x_b, x_n⟩ then x_d else 0) = 0))
    (hA : AwakeIs) (hE : EncodeIs) (hR : RightIs) (hL : ReadsIs) (hW : WritesIs) (w : World) :
    Calls Try.prog 7 #[.agg #[.int .i64 i_o, .int .i64 i_d, .int .i64 i_a, .int .i64 i_b, .int .i64 i_n], .int .i64 a, .int .i64 b] w fun e w' => e = .returned (.bool true) ∧ Both w w' := by
  have A1 := Lib.hid a1
  have BB := Lib.hid b1
  clear a1 b1
  go_enter Try.func7, Try.ntmps7
  go_wp2_with fail
  refine (hA _).mono ?_
  rintro e W1 ⟨rfl, hb⟩
  have sI := (Has5.new w 23 _ _ _ _ _).both hb
  have B1 := Lib.hid (Both.trans ((Both.refl w).alloc _ _) hb)
  clear hb
  obtain ⟨l, c0, c1, c2, c3, c4⟩ := sI
  go_wp2_with fail
  refine (fit_lit h1 HX.out _).mono ?_
  rintro e W2 ⟨rfl, hb⟩
  clear l c0 c1 c2 c3 c4
  have B2 := Lib.hid (B1.out.trans hb)
  clear hb B1
  go_wp2_with fail
  refine (pick_lit BB.out.1 BB.out.2 (by omega) HK.out _).mono ?_
  rintro e w' ⟨rfl, rfl⟩
  go_wp2_with fail
  refine (pick_lit A1.out.1 A1.out.2 (by omega) HC.out _).mono ?_
  rintro e w' ⟨rfl, rfl⟩
  go_wp2_with fail
  refine (enc_lit hE WY.out HV.out HV0.out _).mono ?_
  rintro e W3 ⟨rfl, hb⟩
  have B3 := Lib.hid ((B2.out.alloc _ _).trans hb)
  have sX := (Has5.new W2 23 _ _ _ _ _).both hb
  clear hb B2
  have SX := Lib.hid sX
  obtain ⟨l, c0, c1, c2, c3, c4⟩ := sX
  go_wp2_with fail
  refine (right_lit hR WY.out HR0.out _).mono ?_
  rintro e W4 ⟨rfl, hb⟩
  clear l c0 c1 c2 c3 c4
  have B4 := Lib.hid (B3.out.trans hb)
  have sX := SX.out.both hb
  clear hb B3 SX
  have SX := Lib.hid sX
  obtain ⟨l, c0, c1, c2, c3, c4⟩ := sX
  go_wp2_with fail
  refine (reads_none hL WY.out HL.out _).mono ?_
  rintro e W5 ⟨⟨p, c, rfl⟩, hb⟩
  clear l c0 c1 c2 c3 c4
  have B5 := Lib.hid (B4.out.trans hb)
  have sX := SX.out.both hb
  clear hb B4 SX
  obtain ⟨l, c0, c1, c2, c3, c4⟩ := sX
  go_wp2_with fail
  refine (writes_lit hW WY.out HW.out _).mono ?_
  rintro e W6 ⟨rfl, hb⟩
  have B6 := Lib.hid (B5.out.trans hb)
  clear hb B5
  go_wp2_with fail
  go_ret
  exact ⟨rfl, B6.out⟩
theorem wrong {y : Ins} (h : right y = false) : encV y = 0 ∧ encE y = 1 ∧ readsL y = [] ∧ (if right y then y.d else 0) = 0 := by
  have n : ¬ right y = true := by rw [h]; decide
  exact ⟨if_neg n, if_neg n, if_neg n, if_neg n⟩
theorem beyond_law (i : Ins) (a b : Int) (h1 : Ins.wf i) (ha : inInt a) (hb : inInt b) (hA : AwakeIs) (hE : EncodeIs) (hR : RightIs) (hL : ReadsIs) (hW : WritesIs) (w : World) :
    Calls Try.prog 7 #[ival i, .int .i64 a, .int .i64 b] w fun e w' => e = .returned (.bool true) ∧ Both w w' := by
  have rx := right_fit i
  obtain ⟨c0, c1⟩ := pick_bd a 6 (by omega)
  obtain ⟨k0, k1⟩ := pick_bd b 1000 (by omega)
  obtain ⟨q0, q1⟩ := pick_bd b 1099511627776 (by omega)
  obtain ⟨b1, b2, b3, b4, b5⟩ := right_bd rx
  obtain ⟨x, hx⟩ : ∃ x, fit i = x := ⟨_, rfl⟩
  rw [hx] at b1 b2 b3 b4 b5
  obtain ⟨i0, i1, i2, i3, i4⟩ := i
  obtain ⟨x0, x1, x2, x3, x4⟩ := x
  simp only at b1 b2 b3 b4 b5
  have ways : pick a 6 = 0 ∨ pick a 6 = 1 ∨ pick a 6 = 2 ∨ pick a 6 = 3 ∨ pick a 6 = 4 ∨ pick a 6 = 5 := by omega
  rcases ways with hc | hc | hc | hc | hc | hc
  · have r : right (Ins.mk (x0) (32 + pick b 1000) (x2) (x3) (x4)) = false := by
      rw [← Bool.not_eq_true]
      intro h
      obtain ⟨g1, g2, g3, g4, g5⟩ := right_bd h
      simp only at g1 g2 g3 g4 g5
      omega
    obtain ⟨e1, e2, e3, e4⟩ := wrong r
    have wy : Ins.wf (Ins.mk (x0) (32 + pick b 1000) (x2) (x3) (x4)) := ⟨⟨by dsimp only; omega, by dsimp only; omega⟩, ⟨by dsimp only; omega, by dsimp only; omega⟩, ⟨by dsimp only; omega, by dsimp only; omega⟩, ⟨by dsimp only; omega, by dsimp only; omega⟩, ⟨by dsimp only; omega, by dsimp only; omega⟩⟩
    exact beyond_0 _ _ _ _ _ x0 x1 x2 x3 x4 a b _ 0 h1 ha hb hx rfl k0 k1 hc wy e1 e2 r e3 e4 hA hE hR hL hW w
  · have r : right (Ins.mk (x0) (x1) (-(32 + pick b 1000)) (x3) (x4)) = false := by
      rw [← Bool.not_eq_true]
      intro h
      obtain ⟨g1, g2, g3, g4, g5⟩ := right_bd h
      simp only at g1 g2 g3 g4 g5
      omega
    obtain ⟨e1, e2, e3, e4⟩ := wrong r
    have wy : Ins.wf (Ins.mk (x0) (x1) (-(32 + pick b 1000)) (x3) (x4)) := ⟨⟨by dsimp only; omega, by dsimp only; omega⟩, ⟨by dsimp only; omega, by dsimp only; omega⟩, ⟨by dsimp only; omega, by dsimp only; omega⟩, ⟨by dsimp only; omega, by dsimp only; omega⟩, ⟨by dsimp only; omega, by dsimp only; omega⟩⟩
    exact beyond_1 _ _ _ _ _ x0 x1 x2 x3 x4 a b _ 0 h1 ha hb hx rfl k0 k1 hc wy e1 e2 r e3 e4 hA hE hR hL hW w
  · have r : right (Ins.mk (x0) (x1) (x2) (32 + pick b 1000) (x4)) = false := by
      rw [← Bool.not_eq_true]
      intro h
      obtain ⟨g1, g2, g3, g4, g5⟩ := right_bd h
      simp only at g1 g2 g3 g4 g5
      omega
    obtain ⟨e1, e2, e3, e4⟩ := wrong r
    have wy : Ins.wf (Ins.mk (x0) (x1) (x2) (32 + pick b 1000) (x4)) := ⟨⟨by dsimp only; omega, by dsimp only; omega⟩, ⟨by dsimp only; omega, by dsimp only; omega⟩, ⟨by dsimp only; omega, by dsimp only; omega⟩, ⟨by dsimp only; omega, by dsimp only; omega⟩, ⟨by dsimp only; omega, by dsimp only; omega⟩⟩
    exact beyond_2 _ _ _ _ _ x0 x1 x2 x3 x4 a b _ 0 h1 ha hb hx rfl k0 k1 hc wy e1 e2 r e3 e4 hA hE hR hL hW w
  · have r : right (Ins.mk (x0) (x1) (x2) (x3) (1048576 + pick b 1099511627776)) = false := by
      rw [← Bool.not_eq_true]
      intro h
      obtain ⟨g1, g2, g3, g4, g5⟩ := right_bd h
      simp only at g1 g2 g3 g4 g5
      omega
    obtain ⟨e1, e2, e3, e4⟩ := wrong r
    have wy : Ins.wf (Ins.mk (x0) (x1) (x2) (x3) (1048576 + pick b 1099511627776)) := ⟨⟨by dsimp only; omega, by dsimp only; omega⟩, ⟨by dsimp only; omega, by dsimp only; omega⟩, ⟨by dsimp only; omega, by dsimp only; omega⟩, ⟨by dsimp only; omega, by dsimp only; omega⟩, ⟨by dsimp only; omega, by dsimp only; omega⟩⟩
    exact beyond_3 _ _ _ _ _ x0 x1 x2 x3 x4 a b _ (pick b 1099511627776) h1 ha hb hx rfl k0 k1 hc rfl q0 q1 wy e1 e2 r e3 e4 hA hE hR hL hW w
  · have r : right (Ins.mk (x0) (x1) (x2) (x3) (-1048577 - pick b 1099511627776)) = false := by
      rw [← Bool.not_eq_true]
      intro h
      obtain ⟨g1, g2, g3, g4, g5⟩ := right_bd h
      simp only at g1 g2 g3 g4 g5
      omega
    obtain ⟨e1, e2, e3, e4⟩ := wrong r
    have wy : Ins.wf (Ins.mk (x0) (x1) (x2) (x3) (-1048577 - pick b 1099511627776)) := ⟨⟨by dsimp only; omega, by dsimp only; omega⟩, ⟨by dsimp only; omega, by dsimp only; omega⟩, ⟨by dsimp only; omega, by dsimp only; omega⟩, ⟨by dsimp only; omega, by dsimp only; omega⟩, ⟨by dsimp only; omega, by dsimp only; omega⟩⟩
    exact beyond_4 _ _ _ _ _ x0 x1 x2 x3 x4 a b _ (pick b 1099511627776) h1 ha hb hx rfl k0 k1 hc rfl q0 q1 wy e1 e2 r e3 e4 hA hE hR hL hW w
  · have r : right (Ins.mk (49 + (32 + pick b 1000)) (x1) (x2) (x3) (x4)) = false := by
      rw [← Bool.not_eq_true]
      intro h
      obtain ⟨g1, g2, g3, g4, g5⟩ := right_bd h
      simp only at g1 g2 g3 g4 g5
      omega
    obtain ⟨e1, e2, e3, e4⟩ := wrong r
    have wy : Ins.wf (Ins.mk (49 + (32 + pick b 1000)) (x1) (x2) (x3) (x4)) := ⟨⟨by dsimp only; omega, by dsimp only; omega⟩, ⟨by dsimp only; omega, by dsimp only; omega⟩, ⟨by dsimp only; omega, by dsimp only; omega⟩, ⟨by dsimp only; omega, by dsimp only; omega⟩, ⟨by dsimp only; omega, by dsimp only; omega⟩⟩
    exact beyond_5 _ _ _ _ _ x0 x1 x2 x3 x4 a b _ 0 h1 ha hb hx rfl k0 k1 hc wy e1 e2 r e3 e4 hA hE hR hL hW w
end Go.Proofs.Ytphnagkicboglaa
