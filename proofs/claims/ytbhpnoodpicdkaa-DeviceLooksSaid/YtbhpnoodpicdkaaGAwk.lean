/- The law's first calls answer as is fixed. -/
import Derived.Test.YtbhpnoodpicdkaaGLit
namespace Go.Proofs.Ytbhpnoodpicdkaa
open Go.RowKit Dv
set_option linter.unusedVariables false
set_option linter.unusedSimpArgs false
theorem aw0 : inV (newD 1) 65 = ⟨1, 0, 0, 0, 0, [65], 0, false⟩ := by simp [inV, newD, inU, upd, wrap32]
theorem ok0 : Ok ⟨1, 0, 0, 0, 0, [65], 0, false⟩ := by rw [← aw0]; exact ok_in (ok_new (by omega)) _
theorem aw1 : rdV ⟨1, 0, 0, 0, 0, [65], 0, false⟩ 1 = (3, ⟨1, 0, 0, 0, 0, [65], 0, false⟩) := rfl
theorem aw2 : rdV ⟨1, 0, 0, 0, 0, [65], 0, false⟩ 0 = (65, newD 1) := rfl
theorem aw3 : rdV (newD 1) 1 = (2, newD 1) := rfl
theorem field0 (a b c d e f g h : Value) (W : World) : (Instr.field 27 (.agg #[a, b, c, d, e, f, g, h]) 0).run Try.prog W = .ok a W := by kernel_rfl
set_option maxRecDepth 100000 in
set_option maxHeartbeats 4000000 in
theorem awake_any (w : World) : Calls Try.prog 10 #[] w fun e w' => e = .returned (.bool true) ∧ Bel w w' := by
  obtain ⟨d0, h0⟩ : ∃ d, newD 1 = d := ⟨_, rfl⟩
  obtain ⟨d1, h1⟩ : ∃ d, inV d0 65 = d := ⟨_, rfl⟩
  have o0 : Ok d0 := by rw [← h0]; exact ok_new (by omega)
  have o1 : Ok d1 := by rw [← h1]; exact ok_in o0 _
  have e1 : d1 = ⟨1, 0, 0, 0, 0, [65], 0, false⟩ := by rw [← h1, ← h0]; exact aw0
  have r1 : rdV d1 1 = (3, d1) := by rw [e1]; exact aw1
  have r2 : rdV d1 0 = (65, d0) := by rw [e1, ← h0]; exact aw2
  have r3 : rdV d0 1 = (2, d0) := by rw [← h0]; exact aw3
  obtain ⟨t0, ht0⟩ : ∃ d, newD 2 = d := ⟨_, rfl⟩
  obtain ⟨t1, ht1⟩ : ∃ d, wrV t0 1 1 = d := ⟨_, rfl⟩
  obtain ⟨t2, ht2⟩ : ∃ d, wrV t1 2 1 = d := ⟨_, rfl⟩
  obtain ⟨t3, ht3⟩ : ∃ d, inV t2 0 = d := ⟨_, rfl⟩
  have ot0 : Ok t0 := by rw [← ht0]; exact ok_new (by omega)
  have ot1 : Ok t1 := by rw [← ht1]; exact ok_wr ot0 _ _
  have ot2 : Ok t2 := by rw [← ht2]; exact ok_wr ot1 _ _
  have tu : t3.up = true := by rw [← ht3, ← ht2, ← ht1, ← ht0]; simp [inV, wrV, newD, inT, wrT, wrap32]
  obtain ⟨g0, hg0⟩ : ∃ d, newD 3 = d := ⟨_, rfl⟩
  obtain ⟨g1, hg1⟩ : ∃ d, wrV g0 0 7 = d := ⟨_, rfl⟩
  have og0 : Ok g0 := by rw [← hg0]; exact ok_new (by omega)
  have og1 : Ok g1 := by rw [← hg1]; exact ok_wr og0 _ _
  have gu : g1.r0 = 7 := by rw [← hg1, ← hg0]; simp [wrV, newD, wrG, wrap32]
  have sm : sameV d0 t3 = false := by rw [← h0, ← ht3, ← ht2, ← ht1, ← ht0]; simp [sameV, inV, wrV, newD, inT, wrT, wrap32]
  have sg : sameV g1 g1 = true := sameV_refl _
  have kd : (d0.kind : Int) = 1 := by rw [← h0]; rfl
  obtain ⟨z0, hz0⟩ : ∃ d, newD 0 = d := ⟨_, rfl⟩
  have kz : (z0.kind : Int) = 0 := by rw [← hz0]; rfl
  have Ah0 := Lib.hid h0
  have Ah1 := Lib.hid h1
  have Ao0 := Lib.hid o0
  have Ao1 := Lib.hid o1
  have Ar1 := Lib.hid r1
  have Ar2 := Lib.hid r2
  have Ar3 := Lib.hid r3
  have Aht0 := Lib.hid ht0
  have Aht1 := Lib.hid ht1
  have Aht2 := Lib.hid ht2
  have Aht3 := Lib.hid ht3
  have Aot0 := Lib.hid ot0
  have Aot1 := Lib.hid ot1
  have Aot2 := Lib.hid ot2
  have Ahg0 := Lib.hid hg0
  have Ahg1 := Lib.hid hg1
  have Aog0 := Lib.hid og0
  have Aog1 := Lib.hid og1
  have Asm := Lib.hid sm
  have Asg := Lib.hid sg
  have Ahz0 := Lib.hid hz0
  have Atu := Lib.hid tu
  have Akd := Lib.hid kd
  have Akz := Lib.hid kz
  have Agu := Lib.hid gu
  clear h0 h1 o0 o1 r1 r2 r3 ht0 ht1 ht2 ht3 ot0 ot1 ot2 hg0 hg1 og0 og1 sm sg hz0 tu kd kz gu e1
  have HBW := Lib.hid (Bel.refl w)
  go_enter Try.func10, Try.ntmps10
  go_wp2_with fail
  refine (new_lit1 _ Ah0.out).mono ?_
  rintro e W1 ⟨p1, n1, c1, rfl, hb, hq⟩
  have HBW := Lib.hid (HBW.out.trans hb)
  have HQv0 := Lib.hid hq
  clear hb hq
  go_wp2_with fail
  refine (input_lit HQv0.out Ao0.out Ah1.out).mono ?_
  rintro e W2 ⟨p2, n2, c2, rfl, hb, hq⟩
  have HBW := Lib.hid (HBW.out.trans hb)
  have HQv0 := Lib.hid (HQv0.out.bel hb)
  have HQv1 := Lib.hid hq
  clear hb hq
  go_upto_region 2 with (fail)
  have hnew : BoxAt (W2.alloc (.cells #[.int .i64 (d1.kind : Int), .int .i64 d1.r0, .int .i64 d1.r1, .int .i64 d1.r2, .int .i64 d1.r3, .slice p2 n2 c2, .int .i64 d1.sent, .bool d1.up] 27)) W2.heap.size 27 d1 (.slice p2 n2 c2) := heap_alloc_new W2 _
  have hb : Bel W2 (W2.alloc (.cells #[.int .i64 (d1.kind : Int), .int .i64 d1.r0, .int .i64 d1.r1, .int .i64 d1.r2, .int .i64 d1.r3, .slice p2 n2 c2, .int .i64 d1.sent, .bool d1.up] 27)) := (Bel.refl W2).alloc _ _
  have hge : w.heap.size ≤ W2.heap.size := HBW.out.size
  generalize hWW : (W2.alloc (.cells #[.int .i64 (d1.kind : Int), .int .i64 d1.r0, .int .i64 d1.r1, .int .i64 d1.r2, .int .i64 d1.r3, .slice p2 n2 c2, .int .i64 d1.sent, .bool d1.up] 27)) = W3 at hnew hb ⊢
  clear hWW
  have HBW := Lib.hid (HBW.out.trans hb)
  have HQv1 := Lib.hid (HQv1.out.bel hb)
  generalize W2.heap.size = gs at hnew hge  ⊢
  have HXs := Lib.hid hnew
  have HGEs := Lib.hid hge
  clear hnew hb hge
  have HQs := HQv1
  obtain ⟨ks0, ks1, ks2, ks3, ks4, ks5, ks6, ks7⟩ := HXs.out.cells
  go_wp2_with fail
  refine (read_lit1 HQs.out Ao1.out Ar1.out).mono ?_
  rintro e W4 ⟨p4, n4, c4, rfl, hb, hq⟩
  clear ks0 ks1 ks2 ks3 ks4 ks5 ks6 ks7
  have HBW := Lib.hid (HBW.out.trans hb)
  have HXs := Lib.hid (HXs.out.bel hb)
  have HQs := Lib.hid (HQs.out.bel hb)
  have HQr := Lib.hid hq
  clear hb hq
  obtain ⟨ks0, ks1, ks2, ks3, ks4, ks5, ks6, ks7⟩ := HXs.out.cells
  have ys0 := HXs.out.frozen 0
  have ys1 := HXs.out.frozen 1
  have ys2 := HXs.out.frozen 2
  have ys3 := HXs.out.frozen 3
  have ys4 := HXs.out.frozen 4
  have ys5 := HXs.out.frozen 5
  have ys6 := HXs.out.frozen 6
  have ys7 := HXs.out.frozen 7
  go_upto_region 3 with (fail)
  clear ks0 ks1 ks2 ks3 ks4 ks5 ks6 ks7 ys0 ys1 ys2 ys3 ys4 ys5 ys6 ys7
  have hs8 : Svg gs W4 ((((((((W4.setCell ⟨gs, 0, none⟩ (.int .i64 (d1.kind : Int))).setCell ⟨gs, 1, none⟩ (.int .i64 d1.r0)).setCell ⟨gs, 2, none⟩ (.int .i64 d1.r1)).setCell ⟨gs, 3, none⟩ (.int .i64 d1.r2)).setCell ⟨gs, 4, none⟩ (.int .i64 d1.r3)).setCell ⟨gs, 5, none⟩ (.slice p4 n4 c4)).setCell ⟨gs, 6, none⟩ (.int .i64 d1.sent)).setCell ⟨gs, 7, none⟩ (.bool d1.up)) := set8_svg W4 gs (.int .i64 (d1.kind : Int)) (.int .i64 d1.r0) (.int .i64 d1.r1) (.int .i64 d1.r2) (.int .i64 d1.r3) (.slice p4 n4 c4) (.int .i64 d1.sent) (.bool d1.up)
  have hh : BoxAt ((((((((W4.setCell ⟨gs, 0, none⟩ (.int .i64 (d1.kind : Int))).setCell ⟨gs, 1, none⟩ (.int .i64 d1.r0)).setCell ⟨gs, 2, none⟩ (.int .i64 d1.r1)).setCell ⟨gs, 3, none⟩ (.int .i64 d1.r2)).setCell ⟨gs, 4, none⟩ (.int .i64 d1.r3)).setCell ⟨gs, 5, none⟩ (.slice p4 n4 c4)).setCell ⟨gs, 6, none⟩ (.int .i64 d1.sent)).setCell ⟨gs, 7, none⟩ (.bool d1.up)) gs 27 d1 (.slice p4 n4 c4) := set8_heap (show W4.heap[gs]? = some (.cells #[.int .i64 (d1.kind : Int), .int .i64 d1.r0, .int .i64 d1.r1, .int .i64 d1.r2, .int .i64 d1.r3, .slice p2 n2 c2, .int .i64 d1.sent, .bool d1.up] 27 (0, 0)) from HXs.out) (.int .i64 (d1.kind : Int)) (.int .i64 d1.r0) (.int .i64 d1.r1) (.int .i64 d1.r2) (.int .i64 d1.r3) (.slice p4 n4 c4) (.int .i64 d1.sent) (.bool d1.up)
  generalize hWW : ((((((((W4.setCell ⟨gs, 0, none⟩ (.int .i64 (d1.kind : Int))).setCell ⟨gs, 1, none⟩ (.int .i64 d1.r0)).setCell ⟨gs, 2, none⟩ (.int .i64 d1.r1)).setCell ⟨gs, 3, none⟩ (.int .i64 d1.r2)).setCell ⟨gs, 4, none⟩ (.int .i64 d1.r3)).setCell ⟨gs, 5, none⟩ (.slice p4 n4 c4)).setCell ⟨gs, 6, none⟩ (.int .i64 d1.sent)).setCell ⟨gs, 7, none⟩ (.bool d1.up)) = W5 at hs8 hh ⊢
  clear hWW
  have HBW := Lib.hid (hs8.bel HBW.out HGEs.out)
  have HQs := Lib.hid (HQs.out.keep hs8 HXs.out (by decide))
  have HQr := Lib.hid (HQr.out.keep hs8 HXs.out (by decide))
  have HXs := Lib.hid hh
  clear hs8 hh
  have HQs := HQr
  obtain ⟨ks0, ks1, ks2, ks3, ks4, ks5, ks6, ks7⟩ := HXs.out.cells
  go_wp2_with fail
  refine (read_lit0 HQs.out Ao1.out Ar2.out).mono ?_
  rintro e W6 ⟨p6, n6, c6, rfl, hb, hq⟩
  clear ks0 ks1 ks2 ks3 ks4 ks5 ks6 ks7
  have HBW := Lib.hid (HBW.out.trans hb)
  have HXs := Lib.hid (HXs.out.bel hb)
  have HQs := Lib.hid (HQs.out.bel hb)
  have HQr := Lib.hid hq
  clear hb hq
  obtain ⟨ks0, ks1, ks2, ks3, ks4, ks5, ks6, ks7⟩ := HXs.out.cells
  have ys0 := HXs.out.frozen 0
  have ys1 := HXs.out.frozen 1
  have ys2 := HXs.out.frozen 2
  have ys3 := HXs.out.frozen 3
  have ys4 := HXs.out.frozen 4
  have ys5 := HXs.out.frozen 5
  have ys6 := HXs.out.frozen 6
  have ys7 := HXs.out.frozen 7
  go_upto_region 4 with (fail)
  clear ks0 ks1 ks2 ks3 ks4 ks5 ks6 ks7 ys0 ys1 ys2 ys3 ys4 ys5 ys6 ys7
  have hs8 : Svg gs W6 ((((((((W6.setCell ⟨gs, 0, none⟩ (.int .i64 (d0.kind : Int))).setCell ⟨gs, 1, none⟩ (.int .i64 d0.r0)).setCell ⟨gs, 2, none⟩ (.int .i64 d0.r1)).setCell ⟨gs, 3, none⟩ (.int .i64 d0.r2)).setCell ⟨gs, 4, none⟩ (.int .i64 d0.r3)).setCell ⟨gs, 5, none⟩ (.slice p6 n6 c6)).setCell ⟨gs, 6, none⟩ (.int .i64 d0.sent)).setCell ⟨gs, 7, none⟩ (.bool d0.up)) := set8_svg W6 gs (.int .i64 (d0.kind : Int)) (.int .i64 d0.r0) (.int .i64 d0.r1) (.int .i64 d0.r2) (.int .i64 d0.r3) (.slice p6 n6 c6) (.int .i64 d0.sent) (.bool d0.up)
  have hh : BoxAt ((((((((W6.setCell ⟨gs, 0, none⟩ (.int .i64 (d0.kind : Int))).setCell ⟨gs, 1, none⟩ (.int .i64 d0.r0)).setCell ⟨gs, 2, none⟩ (.int .i64 d0.r1)).setCell ⟨gs, 3, none⟩ (.int .i64 d0.r2)).setCell ⟨gs, 4, none⟩ (.int .i64 d0.r3)).setCell ⟨gs, 5, none⟩ (.slice p6 n6 c6)).setCell ⟨gs, 6, none⟩ (.int .i64 d0.sent)).setCell ⟨gs, 7, none⟩ (.bool d0.up)) gs 27 d0 (.slice p6 n6 c6) := set8_heap (show W6.heap[gs]? = some (.cells #[.int .i64 (d1.kind : Int), .int .i64 d1.r0, .int .i64 d1.r1, .int .i64 d1.r2, .int .i64 d1.r3, .slice p4 n4 c4, .int .i64 d1.sent, .bool d1.up] 27 (0, 0)) from HXs.out) (.int .i64 (d0.kind : Int)) (.int .i64 d0.r0) (.int .i64 d0.r1) (.int .i64 d0.r2) (.int .i64 d0.r3) (.slice p6 n6 c6) (.int .i64 d0.sent) (.bool d0.up)
  generalize hWW : ((((((((W6.setCell ⟨gs, 0, none⟩ (.int .i64 (d0.kind : Int))).setCell ⟨gs, 1, none⟩ (.int .i64 d0.r0)).setCell ⟨gs, 2, none⟩ (.int .i64 d0.r1)).setCell ⟨gs, 3, none⟩ (.int .i64 d0.r2)).setCell ⟨gs, 4, none⟩ (.int .i64 d0.r3)).setCell ⟨gs, 5, none⟩ (.slice p6 n6 c6)).setCell ⟨gs, 6, none⟩ (.int .i64 d0.sent)).setCell ⟨gs, 7, none⟩ (.bool d0.up)) = W7 at hs8 hh ⊢
  clear hWW
  have HBW := Lib.hid (hs8.bel HBW.out HGEs.out)
  have HQs := Lib.hid (HQs.out.keep hs8 HXs.out (by decide))
  have HQr := Lib.hid (HQr.out.keep hs8 HXs.out (by decide))
  have HXs := Lib.hid hh
  clear hs8 hh
  have HQs := HQr
  obtain ⟨ks0, ks1, ks2, ks3, ks4, ks5, ks6, ks7⟩ := HXs.out.cells
  go_wp2_with fail
  refine (read_lit1 HQs.out Ao0.out Ar3.out).mono ?_
  rintro e W8 ⟨p8, n8, c8, rfl, hb, hq⟩
  clear ks0 ks1 ks2 ks3 ks4 ks5 ks6 ks7
  have HBW := Lib.hid (HBW.out.trans hb)
  have HXs := Lib.hid (HXs.out.bel hb)
  have HQs := Lib.hid (HQs.out.bel hb)
  have HQr := Lib.hid hq
  clear hb hq
  obtain ⟨ks0, ks1, ks2, ks3, ks4, ks5, ks6, ks7⟩ := HXs.out.cells
  have ys0 := HXs.out.frozen 0
  have ys1 := HXs.out.frozen 1
  have ys2 := HXs.out.frozen 2
  have ys3 := HXs.out.frozen 3
  have ys4 := HXs.out.frozen 4
  have ys5 := HXs.out.frozen 5
  have ys6 := HXs.out.frozen 6
  have ys7 := HXs.out.frozen 7
  go_upto_region 5 with (fail)
  clear ks0 ks1 ks2 ks3 ks4 ks5 ks6 ks7 ys0 ys1 ys2 ys3 ys4 ys5 ys6 ys7
  have hs8 : Svg gs W8 ((((((((W8.setCell ⟨gs, 0, none⟩ (.int .i64 (d0.kind : Int))).setCell ⟨gs, 1, none⟩ (.int .i64 d0.r0)).setCell ⟨gs, 2, none⟩ (.int .i64 d0.r1)).setCell ⟨gs, 3, none⟩ (.int .i64 d0.r2)).setCell ⟨gs, 4, none⟩ (.int .i64 d0.r3)).setCell ⟨gs, 5, none⟩ (.slice p8 n8 c8)).setCell ⟨gs, 6, none⟩ (.int .i64 d0.sent)).setCell ⟨gs, 7, none⟩ (.bool d0.up)) := set8_svg W8 gs (.int .i64 (d0.kind : Int)) (.int .i64 d0.r0) (.int .i64 d0.r1) (.int .i64 d0.r2) (.int .i64 d0.r3) (.slice p8 n8 c8) (.int .i64 d0.sent) (.bool d0.up)
  have hh : BoxAt ((((((((W8.setCell ⟨gs, 0, none⟩ (.int .i64 (d0.kind : Int))).setCell ⟨gs, 1, none⟩ (.int .i64 d0.r0)).setCell ⟨gs, 2, none⟩ (.int .i64 d0.r1)).setCell ⟨gs, 3, none⟩ (.int .i64 d0.r2)).setCell ⟨gs, 4, none⟩ (.int .i64 d0.r3)).setCell ⟨gs, 5, none⟩ (.slice p8 n8 c8)).setCell ⟨gs, 6, none⟩ (.int .i64 d0.sent)).setCell ⟨gs, 7, none⟩ (.bool d0.up)) gs 27 d0 (.slice p8 n8 c8) := set8_heap (show W8.heap[gs]? = some (.cells #[.int .i64 (d0.kind : Int), .int .i64 d0.r0, .int .i64 d0.r1, .int .i64 d0.r2, .int .i64 d0.r3, .slice p6 n6 c6, .int .i64 d0.sent, .bool d0.up] 27 (0, 0)) from HXs.out) (.int .i64 (d0.kind : Int)) (.int .i64 d0.r0) (.int .i64 d0.r1) (.int .i64 d0.r2) (.int .i64 d0.r3) (.slice p8 n8 c8) (.int .i64 d0.sent) (.bool d0.up)
  generalize hWW : ((((((((W8.setCell ⟨gs, 0, none⟩ (.int .i64 (d0.kind : Int))).setCell ⟨gs, 1, none⟩ (.int .i64 d0.r0)).setCell ⟨gs, 2, none⟩ (.int .i64 d0.r1)).setCell ⟨gs, 3, none⟩ (.int .i64 d0.r2)).setCell ⟨gs, 4, none⟩ (.int .i64 d0.r3)).setCell ⟨gs, 5, none⟩ (.slice p8 n8 c8)).setCell ⟨gs, 6, none⟩ (.int .i64 d0.sent)).setCell ⟨gs, 7, none⟩ (.bool d0.up)) = W9 at hs8 hh ⊢
  clear hWW
  have HBW := Lib.hid (hs8.bel HBW.out HGEs.out)
  have HQs := Lib.hid (HQs.out.keep hs8 HXs.out (by decide))
  have HQr := Lib.hid (HQr.out.keep hs8 HXs.out (by decide))
  have HXs := Lib.hid hh
  clear hs8 hh
  have HQs := HQr
  obtain ⟨ks0, ks1, ks2, ks3, ks4, ks5, ks6, ks7⟩ := HXs.out.cells
  go_wp2_with fail
  refine (new_lit2 _ Aht0.out).mono ?_
  rintro e W10 ⟨p10, n10, c10, rfl, hb, hq⟩
  clear ks0 ks1 ks2 ks3 ks4 ks5 ks6 ks7
  have HBW := Lib.hid (HBW.out.trans hb)
  have HXs := Lib.hid (HXs.out.bel hb)
  have HQs := Lib.hid (HQs.out.bel hb)
  have HQt0 := Lib.hid hq
  clear hb hq
  obtain ⟨ks0, ks1, ks2, ks3, ks4, ks5, ks6, ks7⟩ := HXs.out.cells
  go_wp2_with fail
  refine (write_lit1 HQt0.out Aot0.out Aht1.out).mono ?_
  rintro e W11 ⟨p11, n11, c11, rfl, hb, hq⟩
  clear ks0 ks1 ks2 ks3 ks4 ks5 ks6 ks7
  have HBW := Lib.hid (HBW.out.trans hb)
  have HXs := Lib.hid (HXs.out.bel hb)
  have HQs := Lib.hid (HQs.out.bel hb)
  have HQt0 := Lib.hid (HQt0.out.bel hb)
  have HQt1 := Lib.hid hq
  clear hb hq
  obtain ⟨ks0, ks1, ks2, ks3, ks4, ks5, ks6, ks7⟩ := HXs.out.cells
  go_wp2_with fail
  refine (write_lit2 HQt1.out Aot1.out Aht2.out).mono ?_
  rintro e W12 ⟨p12, n12, c12, rfl, hb, hq⟩
  clear ks0 ks1 ks2 ks3 ks4 ks5 ks6 ks7
  have HBW := Lib.hid (HBW.out.trans hb)
  have HXs := Lib.hid (HXs.out.bel hb)
  have HQs := Lib.hid (HQs.out.bel hb)
  have HQt1 := Lib.hid (HQt1.out.bel hb)
  have HQt2 := Lib.hid hq
  clear hb hq
  obtain ⟨ks0, ks1, ks2, ks3, ks4, ks5, ks6, ks7⟩ := HXs.out.cells
  go_wp2_with fail
  refine (input_lit HQt2.out Aot2.out Aht3.out).mono ?_
  rintro e W13 ⟨p13, n13, c13, rfl, hb, hq⟩
  clear ks0 ks1 ks2 ks3 ks4 ks5 ks6 ks7
  have HBW := Lib.hid (HBW.out.trans hb)
  have HXs := Lib.hid (HXs.out.bel hb)
  have HQs := Lib.hid (HQs.out.bel hb)
  have HQt2 := Lib.hid (HQt2.out.bel hb)
  have HQt3 := Lib.hid hq
  clear hb hq
  obtain ⟨ks0, ks1, ks2, ks3, ks4, ks5, ks6, ks7⟩ := HXs.out.cells
  go_upto_region 6 with (fail)
  clear ks0 ks1 ks2 ks3 ks4 ks5 ks6 ks7
  have hnew : BoxAt (W13.alloc (.cells #[.int .i64 (t3.kind : Int), .int .i64 t3.r0, .int .i64 t3.r1, .int .i64 t3.r2, .int .i64 t3.r3, .slice p13 n13 c13, .int .i64 t3.sent, .bool t3.up] 27)) W13.heap.size 27 t3 (.slice p13 n13 c13) := heap_alloc_new W13 _
  have hb : Bel W13 (W13.alloc (.cells #[.int .i64 (t3.kind : Int), .int .i64 t3.r0, .int .i64 t3.r1, .int .i64 t3.r2, .int .i64 t3.r3, .slice p13 n13 c13, .int .i64 t3.sent, .bool t3.up] 27)) := (Bel.refl W13).alloc _ _
  have hge : w.heap.size ≤ W13.heap.size := HBW.out.size
  have HNst : Hid (gs ≠ W13.heap.size) := Lib.hid (by have := lt_of_heap HXs.out; omega)
  generalize hWW : (W13.alloc (.cells #[.int .i64 (t3.kind : Int), .int .i64 t3.r0, .int .i64 t3.r1, .int .i64 t3.r2, .int .i64 t3.r3, .slice p13 n13 c13, .int .i64 t3.sent, .bool t3.up] 27)) = W14 at hnew hb ⊢
  clear hWW
  have HBW := Lib.hid (HBW.out.trans hb)
  have HXs := Lib.hid (HXs.out.bel hb)
  have HQs := Lib.hid (HQs.out.bel hb)
  have HQt3 := Lib.hid (HQt3.out.bel hb)
  generalize W13.heap.size = gt at hnew hge HNst ⊢
  have HXt := Lib.hid hnew
  have HGEt := Lib.hid hge
  clear hnew hb hge
  have HQt := HQt3
  obtain ⟨ks0, ks1, ks2, ks3, ks4, ks5, ks6, ks7⟩ := HXs.out.cells
  obtain ⟨kt0, kt1, kt2, kt3, kt4, kt5, kt6, kt7⟩ := HXt.out.cells
  go_wp2_with fail
  refine (new_lit3 _ Ahg0.out).mono ?_
  rintro e W15 ⟨p15, n15, c15, rfl, hb, hq⟩
  clear ks0 ks1 ks2 ks3 ks4 ks5 ks6 ks7 kt0 kt1 kt2 kt3 kt4 kt5 kt6 kt7
  have HBW := Lib.hid (HBW.out.trans hb)
  have HXs := Lib.hid (HXs.out.bel hb)
  have HXt := Lib.hid (HXt.out.bel hb)
  have HQs := Lib.hid (HQs.out.bel hb)
  have HQt := Lib.hid (HQt.out.bel hb)
  have HQg0 := Lib.hid hq
  clear hb hq
  obtain ⟨ks0, ks1, ks2, ks3, ks4, ks5, ks6, ks7⟩ := HXs.out.cells
  obtain ⟨kt0, kt1, kt2, kt3, kt4, kt5, kt6, kt7⟩ := HXt.out.cells
  go_wp2_with fail
  refine (write_lit0 HQg0.out Aog0.out Ahg1.out).mono ?_
  rintro e W16 ⟨p16, n16, c16, rfl, hb, hq⟩
  clear ks0 ks1 ks2 ks3 ks4 ks5 ks6 ks7 kt0 kt1 kt2 kt3 kt4 kt5 kt6 kt7
  have HBW := Lib.hid (HBW.out.trans hb)
  have HXs := Lib.hid (HXs.out.bel hb)
  have HXt := Lib.hid (HXt.out.bel hb)
  have HQs := Lib.hid (HQs.out.bel hb)
  have HQt := Lib.hid (HQt.out.bel hb)
  have HQg0 := Lib.hid (HQg0.out.bel hb)
  have HQg1 := Lib.hid hq
  clear hb hq
  obtain ⟨ks0, ks1, ks2, ks3, ks4, ks5, ks6, ks7⟩ := HXs.out.cells
  obtain ⟨kt0, kt1, kt2, kt3, kt4, kt5, kt6, kt7⟩ := HXt.out.cells
  go_upto_region 7 with (fail)
  clear ks0 ks1 ks2 ks3 ks4 ks5 ks6 ks7 kt0 kt1 kt2 kt3 kt4 kt5 kt6 kt7
  have hnew : BoxAt (W16.alloc (.cells #[.int .i64 (g1.kind : Int), .int .i64 g1.r0, .int .i64 g1.r1, .int .i64 g1.r2, .int .i64 g1.r3, .slice p16 n16 c16, .int .i64 g1.sent, .bool g1.up] 27)) W16.heap.size 27 g1 (.slice p16 n16 c16) := heap_alloc_new W16 _
  have hb : Bel W16 (W16.alloc (.cells #[.int .i64 (g1.kind : Int), .int .i64 g1.r0, .int .i64 g1.r1, .int .i64 g1.r2, .int .i64 g1.r3, .slice p16 n16 c16, .int .i64 g1.sent, .bool g1.up] 27)) := (Bel.refl W16).alloc _ _
  have hge : w.heap.size ≤ W16.heap.size := HBW.out.size
  have HNsg : Hid (gs ≠ W16.heap.size) := Lib.hid (by have := lt_of_heap HXs.out; omega)
  have HNtg : Hid (gt ≠ W16.heap.size) := Lib.hid (by have := lt_of_heap HXt.out; omega)
  generalize hWW : (W16.alloc (.cells #[.int .i64 (g1.kind : Int), .int .i64 g1.r0, .int .i64 g1.r1, .int .i64 g1.r2, .int .i64 g1.r3, .slice p16 n16 c16, .int .i64 g1.sent, .bool g1.up] 27)) = W17 at hnew hb ⊢
  clear hWW
  have HBW := Lib.hid (HBW.out.trans hb)
  have HXs := Lib.hid (HXs.out.bel hb)
  have HXt := Lib.hid (HXt.out.bel hb)
  have HQs := Lib.hid (HQs.out.bel hb)
  have HQt := Lib.hid (HQt.out.bel hb)
  have HQg1 := Lib.hid (HQg1.out.bel hb)
  generalize W16.heap.size = gg at hnew hge HNsg HNtg ⊢
  have HXg := Lib.hid hnew
  have HGEg := Lib.hid hge
  clear hnew hb hge
  have HQg := HQg1
  obtain ⟨ks0, ks1, ks2, ks3, ks4, ks5, ks6, ks7⟩ := HXs.out.cells
  obtain ⟨kt0, kt1, kt2, kt3, kt4, kt5, kt6, kt7⟩ := HXt.out.cells
  obtain ⟨kg0, kg1, kg2, kg3, kg4, kg5, kg6, kg7⟩ := HXg.out.cells
  have hkd : ((d0.kind : Int) == 1) = true := beq_iff_eq.2 Akd.out
  have hgu : (g1.r0 == 7) = true := beq_iff_eq.2 Agu.out
  go_wp2_with fail
  refine (raises_lit HQt.out Atu.out).mono ?_
  rintro e W18 ⟨rfl, hb⟩
  clear ks0 ks1 ks2 ks3 ks4 ks5 ks6 ks7 kt0 kt1 kt2 kt3 kt4 kt5 kt6 kt7 kg0 kg1 kg2 kg3 kg4 kg5 kg6 kg7
  have HBW := Lib.hid (HBW.out.trans hb)
  have HXs := Lib.hid (HXs.out.bel hb)
  have HXt := Lib.hid (HXt.out.bel hb)
  have HXg := Lib.hid (HXg.out.bel hb)
  have HQs := Lib.hid (HQs.out.bel hb)
  have HQt := Lib.hid (HQt.out.bel hb)
  have HQg := Lib.hid (HQg.out.bel hb)
  clear hb
  obtain ⟨ks0, ks1, ks2, ks3, ks4, ks5, ks6, ks7⟩ := HXs.out.cells
  obtain ⟨kt0, kt1, kt2, kt3, kt4, kt5, kt6, kt7⟩ := HXt.out.cells
  obtain ⟨kg0, kg1, kg2, kg3, kg4, kg5, kg6, kg7⟩ := HXg.out.cells
  have htu := Atu.out
  have hS := samel Asm.out HQs.out HQt.out Ao0.out
  rw [htu] at hS
  have HS := Lib.hid hS
  clear hS
  go_wp2_with fail
  refine (HS.out).mono ?_
  rintro e W19 ⟨rfl, hb⟩
  clear ks0 ks1 ks2 ks3 ks4 ks5 ks6 ks7 kt0 kt1 kt2 kt3 kt4 kt5 kt6 kt7 kg0 kg1 kg2 kg3 kg4 kg5 kg6 kg7
  have HBW := Lib.hid (HBW.out.trans hb)
  have HXs := Lib.hid (HXs.out.bel hb)
  have HXt := Lib.hid (HXt.out.bel hb)
  have HXg := Lib.hid (HXg.out.bel hb)
  have HQs := Lib.hid (HQs.out.bel hb)
  have HQt := Lib.hid (HQt.out.bel hb)
  have HQg := Lib.hid (HQg.out.bel hb)
  clear hb
  obtain ⟨ks0, ks1, ks2, ks3, ks4, ks5, ks6, ks7⟩ := HXs.out.cells
  obtain ⟨kt0, kt1, kt2, kt3, kt4, kt5, kt6, kt7⟩ := HXt.out.cells
  obtain ⟨kg0, kg1, kg2, kg3, kg4, kg5, kg6, kg7⟩ := HXg.out.cells
  clear htu hkd
  have hfd := field0
  go_wp2_with fail
  refine (samel Asg.out HQg.out HQg.out Aog1.out).mono ?_
  rintro e W20 ⟨rfl, hb⟩
  clear ks0 ks1 ks2 ks3 ks4 ks5 ks6 ks7 kt0 kt1 kt2 kt3 kt4 kt5 kt6 kt7 kg0 kg1 kg2 kg3 kg4 kg5 kg6 kg7
  have HBW := Lib.hid (HBW.out.trans hb)
  have HXs := Lib.hid (HXs.out.bel hb)
  have HXt := Lib.hid (HXt.out.bel hb)
  have HXg := Lib.hid (HXg.out.bel hb)
  have HQs := Lib.hid (HQs.out.bel hb)
  have HQt := Lib.hid (HQt.out.bel hb)
  have HQg := Lib.hid (HQg.out.bel hb)
  clear hb
  obtain ⟨ks0, ks1, ks2, ks3, ks4, ks5, ks6, ks7⟩ := HXs.out.cells
  obtain ⟨kt0, kt1, kt2, kt3, kt4, kt5, kt6, kt7⟩ := HXt.out.cells
  obtain ⟨kg0, kg1, kg2, kg3, kg4, kg5, kg6, kg7⟩ := HXg.out.cells
  go_wp2_with fail
  refine (new4_lit _ Ahz0.out).mono ?_
  rintro e W21 ⟨p21, n21, c21, rfl, hb, hq⟩
  clear ks0 ks1 ks2 ks3 ks4 ks5 ks6 ks7 kt0 kt1 kt2 kt3 kt4 kt5 kt6 kt7 kg0 kg1 kg2 kg3 kg4 kg5 kg6 kg7
  have HBW := Lib.hid (HBW.out.trans hb)
  have HXs := Lib.hid (HXs.out.bel hb)
  have HXt := Lib.hid (HXt.out.bel hb)
  have HXg := Lib.hid (HXg.out.bel hb)
  have HQs := Lib.hid (HQs.out.bel hb)
  have HQt := Lib.hid (HQt.out.bel hb)
  have HQg := Lib.hid (HQg.out.bel hb)
  have HQz := Lib.hid hq
  clear hb hq
  have hkz : ((z0.kind : Int) == 0) = true := beq_iff_eq.2 Akz.out
  go_wp2
  go_ret
  exact ⟨rfl, HBW.out⟩
end Go.Proofs.Ytbhpnoodpicdkaa
