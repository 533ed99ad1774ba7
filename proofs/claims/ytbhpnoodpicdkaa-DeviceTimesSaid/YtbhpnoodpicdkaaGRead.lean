/- device.Read: what a register tells, and the device behind that: kind by kind, register by register. -/
import Derived.Test.YtbhpnoodpicdkaaGRd
namespace Go.Proofs.Ytbhpnoodpicdkaa
open Go.RowKit Dv
set_option linter.unusedVariables false
set_option linter.unusedSimpArgs false
set_option maxRecDepth 100000 in
theorem read1_0 {w : World} {d : Dev} {v : Value} (h : StAt w v d) (hd : Ok d) (hk : d.kind = 1) :
    Calls Try.prog 14 #[v, .int .i64 0] w (ReadPost (rdV d 0).1 (rdV d 0).2 w) := by
  obtain ⟨r', d', hrd⟩ : ∃ r' d', rdV d 0 = (r', d') := ⟨_, _, rfl⟩
  rw [hrd]
  have HRD := Lib.hid hrd
  clear hrd
  obtain ⟨u, rfl, hQ⟩ := h
  obtain ⟨p, n, c, rfl⟩ := qat_slice hQ
  have hb1 : Bel w ((w.alloc (.cells #[.int .i64 (d.kind : Int), .int .i64 d.r0, .int .i64 d.r1, .int .i64 d.r2, .int .i64 d.r3, .slice p n c, .int .i64 d.sent, .bool d.up] 27)).alloc (.cells #[.int .i64 0, .int .i64 0, .int .i64 0, .int .i64 0, .int .i64 0, .slice none 0 0, .int .i64 0, .bool false] 27)) := ((Bel.refl w).alloc _ _).alloc _ _
  have hq1 := hQ.bel hb1
  have hx2 : ((w.alloc (.cells #[.int .i64 (d.kind : Int), .int .i64 d.r0, .int .i64 d.r1, .int .i64 d.r2, .int .i64 d.r3, .slice p n c, .int .i64 d.sent, .bool d.up] 27)).alloc (.cells #[.int .i64 0, .int .i64 0, .int .i64 0, .int .i64 0, .int .i64 0, .slice none 0 0, .int .i64 0, .bool false] 27)).heap[w.heap.size + 1]? = some (.cells #[.int .i64 0, .int .i64 0, .int .i64 0, .int .i64 0, .int .i64 0, .slice none 0 0, .int .i64 0, .bool false] 27 (0, 0)) := by
    have h1 := heap_alloc_new (w.alloc (.cells #[.int .i64 (d.kind : Int), .int .i64 d.r0, .int .i64 d.r1, .int .i64 d.r2, .int .i64 d.r3, .slice p n c, .int .i64 d.sent, .bool d.up] 27)) (.cells #[.int .i64 0, .int .i64 0, .int .i64 0, .int .i64 0, .int .i64 0, .slice none 0 0, .int .i64 0, .bool false] 27)
    rw [World.size_alloc] at h1
    exact h1
  have HL := Lib.hid hd.len
  have HD := Lib.hid hd
  have HK := Lib.hid hk
  clear hQ hd hk
  show Calls Try.prog 14 #[.agg #[.int .i64 (d.kind : Int), .int .i64 d.r0, .int .i64 d.r1, .int .i64 d.r2, .int .i64 d.r3, .slice p n c, .int .i64 d.sent, .bool d.up], .int .i64 0] w (ReadPost r' d' w)
  go_enter Try.func14, Try.ntmps14
  go_upto_region 1 with (fail)
  go_wp2_with fail
  generalize ((w.alloc (.cells #[.int .i64 (d.kind : Int), .int .i64 d.r0, .int .i64 d.r1, .int .i64 d.r2, .int .i64 d.r3, .slice p n c, .int .i64 d.sent, .bool d.up] 27)).alloc (.cells #[.int .i64 0, .int .i64 0, .int .i64 0, .int .i64 0, .int .i64 0, .slice none 0 0, .int .i64 0, .bool false] 27)) = W1 at hb1 hx2 hq1 ⊢
  have HB1 := Lib.hid hb1
  have HX2 := Lib.hid hx2
  have HQ1 := Lib.hid hq1
  obtain ⟨G2, hG2⟩ : ∃ G2, w.heap.size + 1 = G2 := ⟨_, rfl⟩
  rw [hG2] at hx2 ⊢
  have HG2 := Lib.hid hG2
  have HX2 := Lib.hid hx2
  clear hb1 hx2 hq1 hG2
  refine (model1 HQ1.out HL.out HK.out).mono ?_
  rintro e W2 ⟨g, rfl, hb2, hg, hF⟩
  have HB2 := Lib.hid hb2
  have HGE := Lib.hid hg
  have HF := Lib.hid hF
  have HX3 := Lib.hid (hb2.stays HX2.out)
  clear hb2 hg hF
  go_wp2_with (go_at_call 22; ((with_reducible refine (reg0 _).mono ?_); rintro e w' ⟨rfl, rfl⟩))
  refine (mread1_0 (B := W1.heap.size) HF.out.held HGE.out HK.out HRD.out).mono ?_
  rintro e W3 ⟨rfl, hs3, p3, n3, c3, hB3, hQ3, hO3⟩
  have HS3 := Lib.hid hs3
  have HB3 := Lib.hid hB3
  have HQ3 := Lib.hid hQ3
  have HLT := Lib.hid (lt_of_heap HX2.out)
  have HX4 := Lib.hid ((hs3.block G2 (Nat.lt_of_lt_of_le HLT.out HB2.out.size) (by have := HLT.out; omega)).trans HX3.out)
  have HO3 := Lib.hid hO3
  clear hs3 hB3 hQ3 hO3
  go_wp2_with fail
  refine (told_lit HB3.out).mono ?_
  rintro e W4 ⟨rfl, hb4⟩
  have HB4 := Lib.hid hb4
  have hx5 := hb4.stays HX4.out
  have HX5 := Lib.hid hx5
  have z0 := cell_of_heap hx5 0
  have z1 := cell_of_heap hx5 1
  have z2 := cell_of_heap hx5 2
  have z3 := cell_of_heap hx5 3
  have z4 := cell_of_heap hx5 4
  have z5 := cell_of_heap hx5 5
  have z6 := cell_of_heap hx5 6
  have z7 := cell_of_heap hx5 7
  have y0 := frozen_of_heap hx5 0
  have y1 := frozen_of_heap hx5 1
  have y2 := frozen_of_heap hx5 2
  have y3 := frozen_of_heap hx5 3
  have y4 := frozen_of_heap hx5 4
  have y5 := frozen_of_heap hx5 5
  have y6 := frozen_of_heap hx5 6
  have y7 := frozen_of_heap hx5 7
  simp only [List.getElem?_toArray, List.getElem?_cons_zero, List.getElem?_cons_succ] at z0 z1 z2 z3 z4 z5 z6 z7
  clear hb4 hx5
  go_wp2
  have hh := set8_heap HX5.out (.int .i64 (d'.kind : Int)) (.int .i64 d'.r0) (.int .i64 d'.r1) (.int .i64 d'.r2) (.int .i64 d'.r3) (.slice p3 n3 c3) (.int .i64 d'.sent) (.bool d'.up)
  have hs8 := set8_svg W4 G2 (.int .i64 (d'.kind : Int)) (.int .i64 d'.r0) (.int .i64 d'.r1) (.int .i64 d'.r2) (.int .i64 d'.r3) (.slice p3 n3 c3) (.int .i64 d'.sent) (.bool d'.up)
  have hw4 : Bel w W4 := (Ysv.bel HS3.out (HB1.out.trans HB2.out) HB1.out.size).trans HB4.out
  refine bodyPost_ret (results_slot_cell Try.results14 _ _ G2 _ _ _ _ _ rfl rfl hh Try.underlying27 rfl (by kernel_rfl)) rfl ⟨_, rfl, hs8.bel hw4 (by have := HG2.out; omega), .slice p3 n3 c3, rfl, ?_⟩
  exact (HQ3.out.bel HB4.out).svg (B := W1.heap.size) hs8 (fun b o n c hv => ⟨(HO3.out b o n c hv).1, by have := (HO3.out b o n c hv).1; have := HLT.out; omega⟩)
set_option maxRecDepth 100000 in
theorem read1_1 {w : World} {d : Dev} {v : Value} (h : StAt w v d) (hd : Ok d) (hk : d.kind = 1) :
    Calls Try.prog 14 #[v, .int .i64 1] w (ReadPost (rdV d 1).1 (rdV d 1).2 w) := by
  obtain ⟨r', d', hrd⟩ : ∃ r' d', rdV d 1 = (r', d') := ⟨_, _, rfl⟩
  rw [hrd]
  have HRD := Lib.hid hrd
  clear hrd
  obtain ⟨u, rfl, hQ⟩ := h
  obtain ⟨p, n, c, rfl⟩ := qat_slice hQ
  have hb1 : Bel w ((w.alloc (.cells #[.int .i64 (d.kind : Int), .int .i64 d.r0, .int .i64 d.r1, .int .i64 d.r2, .int .i64 d.r3, .slice p n c, .int .i64 d.sent, .bool d.up] 27)).alloc (.cells #[.int .i64 0, .int .i64 0, .int .i64 0, .int .i64 0, .int .i64 0, .slice none 0 0, .int .i64 0, .bool false] 27)) := ((Bel.refl w).alloc _ _).alloc _ _
  have hq1 := hQ.bel hb1
  have hx2 : ((w.alloc (.cells #[.int .i64 (d.kind : Int), .int .i64 d.r0, .int .i64 d.r1, .int .i64 d.r2, .int .i64 d.r3, .slice p n c, .int .i64 d.sent, .bool d.up] 27)).alloc (.cells #[.int .i64 0, .int .i64 0, .int .i64 0, .int .i64 0, .int .i64 0, .slice none 0 0, .int .i64 0, .bool false] 27)).heap[w.heap.size + 1]? = some (.cells #[.int .i64 0, .int .i64 0, .int .i64 0, .int .i64 0, .int .i64 0, .slice none 0 0, .int .i64 0, .bool false] 27 (0, 0)) := by
    have h1 := heap_alloc_new (w.alloc (.cells #[.int .i64 (d.kind : Int), .int .i64 d.r0, .int .i64 d.r1, .int .i64 d.r2, .int .i64 d.r3, .slice p n c, .int .i64 d.sent, .bool d.up] 27)) (.cells #[.int .i64 0, .int .i64 0, .int .i64 0, .int .i64 0, .int .i64 0, .slice none 0 0, .int .i64 0, .bool false] 27)
    rw [World.size_alloc] at h1
    exact h1
  have HL := Lib.hid hd.len
  have HD := Lib.hid hd
  have HK := Lib.hid hk
  clear hQ hd hk
  show Calls Try.prog 14 #[.agg #[.int .i64 (d.kind : Int), .int .i64 d.r0, .int .i64 d.r1, .int .i64 d.r2, .int .i64 d.r3, .slice p n c, .int .i64 d.sent, .bool d.up], .int .i64 1] w (ReadPost r' d' w)
  go_enter Try.func14, Try.ntmps14
  go_upto_region 1 with (fail)
  go_wp2_with fail
  generalize ((w.alloc (.cells #[.int .i64 (d.kind : Int), .int .i64 d.r0, .int .i64 d.r1, .int .i64 d.r2, .int .i64 d.r3, .slice p n c, .int .i64 d.sent, .bool d.up] 27)).alloc (.cells #[.int .i64 0, .int .i64 0, .int .i64 0, .int .i64 0, .int .i64 0, .slice none 0 0, .int .i64 0, .bool false] 27)) = W1 at hb1 hx2 hq1 ⊢
  have HB1 := Lib.hid hb1
  have HX2 := Lib.hid hx2
  have HQ1 := Lib.hid hq1
  obtain ⟨G2, hG2⟩ : ∃ G2, w.heap.size + 1 = G2 := ⟨_, rfl⟩
  rw [hG2] at hx2 ⊢
  have HG2 := Lib.hid hG2
  have HX2 := Lib.hid hx2
  clear hb1 hx2 hq1 hG2
  refine (model1 HQ1.out HL.out HK.out).mono ?_
  rintro e W2 ⟨g, rfl, hb2, hg, hF⟩
  have HB2 := Lib.hid hb2
  have HGE := Lib.hid hg
  have HF := Lib.hid hF
  have HX3 := Lib.hid (hb2.stays HX2.out)
  clear hb2 hg hF
  go_wp2_with (go_at_call 22; ((with_reducible refine (reg1 _).mono ?_); rintro e w' ⟨rfl, rfl⟩))
  refine (mread1_1 (B := W1.heap.size) HF.out.held HGE.out HK.out HRD.out).mono ?_
  rintro e W3 ⟨rfl, hs3, p3, n3, c3, hB3, hQ3, hO3⟩
  have HS3 := Lib.hid hs3
  have HB3 := Lib.hid hB3
  have HQ3 := Lib.hid hQ3
  have HLT := Lib.hid (lt_of_heap HX2.out)
  have HX4 := Lib.hid ((hs3.block G2 (Nat.lt_of_lt_of_le HLT.out HB2.out.size) (by have := HLT.out; omega)).trans HX3.out)
  have HO3 := Lib.hid hO3
  clear hs3 hB3 hQ3 hO3
  go_wp2_with fail
  refine (told_lit HB3.out).mono ?_
  rintro e W4 ⟨rfl, hb4⟩
  have HB4 := Lib.hid hb4
  have hx5 := hb4.stays HX4.out
  have HX5 := Lib.hid hx5
  have z0 := cell_of_heap hx5 0
  have z1 := cell_of_heap hx5 1
  have z2 := cell_of_heap hx5 2
  have z3 := cell_of_heap hx5 3
  have z4 := cell_of_heap hx5 4
  have z5 := cell_of_heap hx5 5
  have z6 := cell_of_heap hx5 6
  have z7 := cell_of_heap hx5 7
  have y0 := frozen_of_heap hx5 0
  have y1 := frozen_of_heap hx5 1
  have y2 := frozen_of_heap hx5 2
  have y3 := frozen_of_heap hx5 3
  have y4 := frozen_of_heap hx5 4
  have y5 := frozen_of_heap hx5 5
  have y6 := frozen_of_heap hx5 6
  have y7 := frozen_of_heap hx5 7
  simp only [List.getElem?_toArray, List.getElem?_cons_zero, List.getElem?_cons_succ] at z0 z1 z2 z3 z4 z5 z6 z7
  clear hb4 hx5
  go_wp2
  have hh := set8_heap HX5.out (.int .i64 (d'.kind : Int)) (.int .i64 d'.r0) (.int .i64 d'.r1) (.int .i64 d'.r2) (.int .i64 d'.r3) (.slice p3 n3 c3) (.int .i64 d'.sent) (.bool d'.up)
  have hs8 := set8_svg W4 G2 (.int .i64 (d'.kind : Int)) (.int .i64 d'.r0) (.int .i64 d'.r1) (.int .i64 d'.r2) (.int .i64 d'.r3) (.slice p3 n3 c3) (.int .i64 d'.sent) (.bool d'.up)
  have hw4 : Bel w W4 := (Ysv.bel HS3.out (HB1.out.trans HB2.out) HB1.out.size).trans HB4.out
  refine bodyPost_ret (results_slot_cell Try.results14 _ _ G2 _ _ _ _ _ rfl rfl hh Try.underlying27 rfl (by kernel_rfl)) rfl ⟨_, rfl, hs8.bel hw4 (by have := HG2.out; omega), .slice p3 n3 c3, rfl, ?_⟩
  exact (HQ3.out.bel HB4.out).svg (B := W1.heap.size) hs8 (fun b o n c hv => ⟨(HO3.out b o n c hv).1, by have := (HO3.out b o n c hv).1; have := HLT.out; omega⟩)
set_option maxRecDepth 100000 in
theorem read1_2 {w : World} {d : Dev} {v : Value} (h : StAt w v d) (hd : Ok d) (hk : d.kind = 1) :
    Calls Try.prog 14 #[v, .int .i64 2] w (ReadPost (rdV d 2).1 (rdV d 2).2 w) := by
  obtain ⟨r', d', hrd⟩ : ∃ r' d', rdV d 2 = (r', d') := ⟨_, _, rfl⟩
  rw [hrd]
  have HRD := Lib.hid hrd
  clear hrd
  obtain ⟨u, rfl, hQ⟩ := h
  obtain ⟨p, n, c, rfl⟩ := qat_slice hQ
  have hb1 : Bel w ((w.alloc (.cells #[.int .i64 (d.kind : Int), .int .i64 d.r0, .int .i64 d.r1, .int .i64 d.r2, .int .i64 d.r3, .slice p n c, .int .i64 d.sent, .bool d.up] 27)).alloc (.cells #[.int .i64 0, .int .i64 0, .int .i64 0, .int .i64 0, .int .i64 0, .slice none 0 0, .int .i64 0, .bool false] 27)) := ((Bel.refl w).alloc _ _).alloc _ _
  have hq1 := hQ.bel hb1
  have hx2 : ((w.alloc (.cells #[.int .i64 (d.kind : Int), .int .i64 d.r0, .int .i64 d.r1, .int .i64 d.r2, .int .i64 d.r3, .slice p n c, .int .i64 d.sent, .bool d.up] 27)).alloc (.cells #[.int .i64 0, .int .i64 0, .int .i64 0, .int .i64 0, .int .i64 0, .slice none 0 0, .int .i64 0, .bool false] 27)).heap[w.heap.size + 1]? = some (.cells #[.int .i64 0, .int .i64 0, .int .i64 0, .int .i64 0, .int .i64 0, .slice none 0 0, .int .i64 0, .bool false] 27 (0, 0)) := by
    have h1 := heap_alloc_new (w.alloc (.cells #[.int .i64 (d.kind : Int), .int .i64 d.r0, .int .i64 d.r1, .int .i64 d.r2, .int .i64 d.r3, .slice p n c, .int .i64 d.sent, .bool d.up] 27)) (.cells #[.int .i64 0, .int .i64 0, .int .i64 0, .int .i64 0, .int .i64 0, .slice none 0 0, .int .i64 0, .bool false] 27)
    rw [World.size_alloc] at h1
    exact h1
  have HL := Lib.hid hd.len
  have HD := Lib.hid hd
  have HK := Lib.hid hk
  clear hQ hd hk
  show Calls Try.prog 14 #[.agg #[.int .i64 (d.kind : Int), .int .i64 d.r0, .int .i64 d.r1, .int .i64 d.r2, .int .i64 d.r3, .slice p n c, .int .i64 d.sent, .bool d.up], .int .i64 2] w (ReadPost r' d' w)
  go_enter Try.func14, Try.ntmps14
  go_upto_region 1 with (fail)
  go_wp2_with fail
  generalize ((w.alloc (.cells #[.int .i64 (d.kind : Int), .int .i64 d.r0, .int .i64 d.r1, .int .i64 d.r2, .int .i64 d.r3, .slice p n c, .int .i64 d.sent, .bool d.up] 27)).alloc (.cells #[.int .i64 0, .int .i64 0, .int .i64 0, .int .i64 0, .int .i64 0, .slice none 0 0, .int .i64 0, .bool false] 27)) = W1 at hb1 hx2 hq1 ⊢
  have HB1 := Lib.hid hb1
  have HX2 := Lib.hid hx2
  have HQ1 := Lib.hid hq1
  obtain ⟨G2, hG2⟩ : ∃ G2, w.heap.size + 1 = G2 := ⟨_, rfl⟩
  rw [hG2] at hx2 ⊢
  have HG2 := Lib.hid hG2
  have HX2 := Lib.hid hx2
  clear hb1 hx2 hq1 hG2
  refine (model1 HQ1.out HL.out HK.out).mono ?_
  rintro e W2 ⟨g, rfl, hb2, hg, hF⟩
  have HB2 := Lib.hid hb2
  have HGE := Lib.hid hg
  have HF := Lib.hid hF
  have HX3 := Lib.hid (hb2.stays HX2.out)
  clear hb2 hg hF
  go_wp2_with (go_at_call 22; ((with_reducible refine (reg2 _).mono ?_); rintro e w' ⟨rfl, rfl⟩))
  refine (mread1_2 (B := W1.heap.size) HF.out.held HGE.out HK.out HRD.out).mono ?_
  rintro e W3 ⟨rfl, hs3, p3, n3, c3, hB3, hQ3, hO3⟩
  have HS3 := Lib.hid hs3
  have HB3 := Lib.hid hB3
  have HQ3 := Lib.hid hQ3
  have HLT := Lib.hid (lt_of_heap HX2.out)
  have HX4 := Lib.hid ((hs3.block G2 (Nat.lt_of_lt_of_le HLT.out HB2.out.size) (by have := HLT.out; omega)).trans HX3.out)
  have HO3 := Lib.hid hO3
  clear hs3 hB3 hQ3 hO3
  go_wp2_with fail
  refine (told_lit HB3.out).mono ?_
  rintro e W4 ⟨rfl, hb4⟩
  have HB4 := Lib.hid hb4
  have hx5 := hb4.stays HX4.out
  have HX5 := Lib.hid hx5
  have z0 := cell_of_heap hx5 0
  have z1 := cell_of_heap hx5 1
  have z2 := cell_of_heap hx5 2
  have z3 := cell_of_heap hx5 3
  have z4 := cell_of_heap hx5 4
  have z5 := cell_of_heap hx5 5
  have z6 := cell_of_heap hx5 6
  have z7 := cell_of_heap hx5 7
  have y0 := frozen_of_heap hx5 0
  have y1 := frozen_of_heap hx5 1
  have y2 := frozen_of_heap hx5 2
  have y3 := frozen_of_heap hx5 3
  have y4 := frozen_of_heap hx5 4
  have y5 := frozen_of_heap hx5 5
  have y6 := frozen_of_heap hx5 6
  have y7 := frozen_of_heap hx5 7
  simp only [List.getElem?_toArray, List.getElem?_cons_zero, List.getElem?_cons_succ] at z0 z1 z2 z3 z4 z5 z6 z7
  clear hb4 hx5
  go_wp2
  have hh := set8_heap HX5.out (.int .i64 (d'.kind : Int)) (.int .i64 d'.r0) (.int .i64 d'.r1) (.int .i64 d'.r2) (.int .i64 d'.r3) (.slice p3 n3 c3) (.int .i64 d'.sent) (.bool d'.up)
  have hs8 := set8_svg W4 G2 (.int .i64 (d'.kind : Int)) (.int .i64 d'.r0) (.int .i64 d'.r1) (.int .i64 d'.r2) (.int .i64 d'.r3) (.slice p3 n3 c3) (.int .i64 d'.sent) (.bool d'.up)
  have hw4 : Bel w W4 := (Ysv.bel HS3.out (HB1.out.trans HB2.out) HB1.out.size).trans HB4.out
  refine bodyPost_ret (results_slot_cell Try.results14 _ _ G2 _ _ _ _ _ rfl rfl hh Try.underlying27 rfl (by kernel_rfl)) rfl ⟨_, rfl, hs8.bel hw4 (by have := HG2.out; omega), .slice p3 n3 c3, rfl, ?_⟩
  exact (HQ3.out.bel HB4.out).svg (B := W1.heap.size) hs8 (fun b o n c hv => ⟨(HO3.out b o n c hv).1, by have := (HO3.out b o n c hv).1; have := HLT.out; omega⟩)
set_option maxRecDepth 100000 in
theorem read1_3 {w : World} {d : Dev} {v : Value} (h : StAt w v d) (hd : Ok d) (hk : d.kind = 1) :
    Calls Try.prog 14 #[v, .int .i64 3] w (ReadPost (rdV d 3).1 (rdV d 3).2 w) := by
  obtain ⟨r', d', hrd⟩ : ∃ r' d', rdV d 3 = (r', d') := ⟨_, _, rfl⟩
  rw [hrd]
  have HRD := Lib.hid hrd
  clear hrd
  obtain ⟨u, rfl, hQ⟩ := h
  obtain ⟨p, n, c, rfl⟩ := qat_slice hQ
  have hb1 : Bel w ((w.alloc (.cells #[.int .i64 (d.kind : Int), .int .i64 d.r0, .int .i64 d.r1, .int .i64 d.r2, .int .i64 d.r3, .slice p n c, .int .i64 d.sent, .bool d.up] 27)).alloc (.cells #[.int .i64 0, .int .i64 0, .int .i64 0, .int .i64 0, .int .i64 0, .slice none 0 0, .int .i64 0, .bool false] 27)) := ((Bel.refl w).alloc _ _).alloc _ _
  have hq1 := hQ.bel hb1
  have hx2 : ((w.alloc (.cells #[.int .i64 (d.kind : Int), .int .i64 d.r0, .int .i64 d.r1, .int .i64 d.r2, .int .i64 d.r3, .slice p n c, .int .i64 d.sent, .bool d.up] 27)).alloc (.cells #[.int .i64 0, .int .i64 0, .int .i64 0, .int .i64 0, .int .i64 0, .slice none 0 0, .int .i64 0, .bool false] 27)).heap[w.heap.size + 1]? = some (.cells #[.int .i64 0, .int .i64 0, .int .i64 0, .int .i64 0, .int .i64 0, .slice none 0 0, .int .i64 0, .bool false] 27 (0, 0)) := by
    have h1 := heap_alloc_new (w.alloc (.cells #[.int .i64 (d.kind : Int), .int .i64 d.r0, .int .i64 d.r1, .int .i64 d.r2, .int .i64 d.r3, .slice p n c, .int .i64 d.sent, .bool d.up] 27)) (.cells #[.int .i64 0, .int .i64 0, .int .i64 0, .int .i64 0, .int .i64 0, .slice none 0 0, .int .i64 0, .bool false] 27)
    rw [World.size_alloc] at h1
    exact h1
  have HL := Lib.hid hd.len
  have HD := Lib.hid hd
  have HK := Lib.hid hk
  clear hQ hd hk
  show Calls Try.prog 14 #[.agg #[.int .i64 (d.kind : Int), .int .i64 d.r0, .int .i64 d.r1, .int .i64 d.r2, .int .i64 d.r3, .slice p n c, .int .i64 d.sent, .bool d.up], .int .i64 3] w (ReadPost r' d' w)
  go_enter Try.func14, Try.ntmps14
  go_upto_region 1 with (fail)
  go_wp2_with fail
  generalize ((w.alloc (.cells #[.int .i64 (d.kind : Int), .int .i64 d.r0, .int .i64 d.r1, .int .i64 d.r2, .int .i64 d.r3, .slice p n c, .int .i64 d.sent, .bool d.up] 27)).alloc (.cells #[.int .i64 0, .int .i64 0, .int .i64 0, .int .i64 0, .int .i64 0, .slice none 0 0, .int .i64 0, .bool false] 27)) = W1 at hb1 hx2 hq1 ⊢
  have HB1 := Lib.hid hb1
  have HX2 := Lib.hid hx2
  have HQ1 := Lib.hid hq1
  obtain ⟨G2, hG2⟩ : ∃ G2, w.heap.size + 1 = G2 := ⟨_, rfl⟩
  rw [hG2] at hx2 ⊢
  have HG2 := Lib.hid hG2
  have HX2 := Lib.hid hx2
  clear hb1 hx2 hq1 hG2
  refine (model1 HQ1.out HL.out HK.out).mono ?_
  rintro e W2 ⟨g, rfl, hb2, hg, hF⟩
  have HB2 := Lib.hid hb2
  have HGE := Lib.hid hg
  have HF := Lib.hid hF
  have HX3 := Lib.hid (hb2.stays HX2.out)
  clear hb2 hg hF
  go_wp2_with (go_at_call 22; ((with_reducible refine (reg3 _).mono ?_); rintro e w' ⟨rfl, rfl⟩))
  refine (mread1_3 (B := W1.heap.size) HF.out.held HGE.out HK.out HRD.out).mono ?_
  rintro e W3 ⟨rfl, hs3, p3, n3, c3, hB3, hQ3, hO3⟩
  have HS3 := Lib.hid hs3
  have HB3 := Lib.hid hB3
  have HQ3 := Lib.hid hQ3
  have HLT := Lib.hid (lt_of_heap HX2.out)
  have HX4 := Lib.hid ((hs3.block G2 (Nat.lt_of_lt_of_le HLT.out HB2.out.size) (by have := HLT.out; omega)).trans HX3.out)
  have HO3 := Lib.hid hO3
  clear hs3 hB3 hQ3 hO3
  go_wp2_with fail
  refine (told_lit HB3.out).mono ?_
  rintro e W4 ⟨rfl, hb4⟩
  have HB4 := Lib.hid hb4
  have hx5 := hb4.stays HX4.out
  have HX5 := Lib.hid hx5
  have z0 := cell_of_heap hx5 0
  have z1 := cell_of_heap hx5 1
  have z2 := cell_of_heap hx5 2
  have z3 := cell_of_heap hx5 3
  have z4 := cell_of_heap hx5 4
  have z5 := cell_of_heap hx5 5
  have z6 := cell_of_heap hx5 6
  have z7 := cell_of_heap hx5 7
  have y0 := frozen_of_heap hx5 0
  have y1 := frozen_of_heap hx5 1
  have y2 := frozen_of_heap hx5 2
  have y3 := frozen_of_heap hx5 3
  have y4 := frozen_of_heap hx5 4
  have y5 := frozen_of_heap hx5 5
  have y6 := frozen_of_heap hx5 6
  have y7 := frozen_of_heap hx5 7
  simp only [List.getElem?_toArray, List.getElem?_cons_zero, List.getElem?_cons_succ] at z0 z1 z2 z3 z4 z5 z6 z7
  clear hb4 hx5
  go_wp2
  have hh := set8_heap HX5.out (.int .i64 (d'.kind : Int)) (.int .i64 d'.r0) (.int .i64 d'.r1) (.int .i64 d'.r2) (.int .i64 d'.r3) (.slice p3 n3 c3) (.int .i64 d'.sent) (.bool d'.up)
  have hs8 := set8_svg W4 G2 (.int .i64 (d'.kind : Int)) (.int .i64 d'.r0) (.int .i64 d'.r1) (.int .i64 d'.r2) (.int .i64 d'.r3) (.slice p3 n3 c3) (.int .i64 d'.sent) (.bool d'.up)
  have hw4 : Bel w W4 := (Ysv.bel HS3.out (HB1.out.trans HB2.out) HB1.out.size).trans HB4.out
  refine bodyPost_ret (results_slot_cell Try.results14 _ _ G2 _ _ _ _ _ rfl rfl hh Try.underlying27 rfl (by kernel_rfl)) rfl ⟨_, rfl, hs8.bel hw4 (by have := HG2.out; omega), .slice p3 n3 c3, rfl, ?_⟩
  exact (HQ3.out.bel HB4.out).svg (B := W1.heap.size) hs8 (fun b o n c hv => ⟨(HO3.out b o n c hv).1, by have := (HO3.out b o n c hv).1; have := HLT.out; omega⟩)
set_option maxRecDepth 100000 in
theorem read2_0 {w : World} {d : Dev} {v : Value} (h : StAt w v d) (hd : Ok d) (hk : d.kind = 2) :
    Calls Try.prog 14 #[v, .int .i64 0] w (ReadPost (rdV d 0).1 (rdV d 0).2 w) := by
  obtain ⟨r', d', hrd⟩ : ∃ r' d', rdV d 0 = (r', d') := ⟨_, _, rfl⟩
  rw [hrd]
  have HRD := Lib.hid hrd
  clear hrd
  obtain ⟨u, rfl, hQ⟩ := h
  obtain ⟨p, n, c, rfl⟩ := qat_slice hQ
  have hb1 : Bel w ((w.alloc (.cells #[.int .i64 (d.kind : Int), .int .i64 d.r0, .int .i64 d.r1, .int .i64 d.r2, .int .i64 d.r3, .slice p n c, .int .i64 d.sent, .bool d.up] 27)).alloc (.cells #[.int .i64 0, .int .i64 0, .int .i64 0, .int .i64 0, .int .i64 0, .slice none 0 0, .int .i64 0, .bool false] 27)) := ((Bel.refl w).alloc _ _).alloc _ _
  have hq1 := hQ.bel hb1
  have hx2 : ((w.alloc (.cells #[.int .i64 (d.kind : Int), .int .i64 d.r0, .int .i64 d.r1, .int .i64 d.r2, .int .i64 d.r3, .slice p n c, .int .i64 d.sent, .bool d.up] 27)).alloc (.cells #[.int .i64 0, .int .i64 0, .int .i64 0, .int .i64 0, .int .i64 0, .slice none 0 0, .int .i64 0, .bool false] 27)).heap[w.heap.size + 1]? = some (.cells #[.int .i64 0, .int .i64 0, .int .i64 0, .int .i64 0, .int .i64 0, .slice none 0 0, .int .i64 0, .bool false] 27 (0, 0)) := by
    have h1 := heap_alloc_new (w.alloc (.cells #[.int .i64 (d.kind : Int), .int .i64 d.r0, .int .i64 d.r1, .int .i64 d.r2, .int .i64 d.r3, .slice p n c, .int .i64 d.sent, .bool d.up] 27)) (.cells #[.int .i64 0, .int .i64 0, .int .i64 0, .int .i64 0, .int .i64 0, .slice none 0 0, .int .i64 0, .bool false] 27)
    rw [World.size_alloc] at h1
    exact h1
  have HL := Lib.hid hd.len
  have HD := Lib.hid hd
  have HK := Lib.hid hk
  clear hQ hd hk
  show Calls Try.prog 14 #[.agg #[.int .i64 (d.kind : Int), .int .i64 d.r0, .int .i64 d.r1, .int .i64 d.r2, .int .i64 d.r3, .slice p n c, .int .i64 d.sent, .bool d.up], .int .i64 0] w (ReadPost r' d' w)
  go_enter Try.func14, Try.ntmps14
  go_upto_region 1 with (fail)
  go_wp2_with fail
  generalize ((w.alloc (.cells #[.int .i64 (d.kind : Int), .int .i64 d.r0, .int .i64 d.r1, .int .i64 d.r2, .int .i64 d.r3, .slice p n c, .int .i64 d.sent, .bool d.up] 27)).alloc (.cells #[.int .i64 0, .int .i64 0, .int .i64 0, .int .i64 0, .int .i64 0, .slice none 0 0, .int .i64 0, .bool false] 27)) = W1 at hb1 hx2 hq1 ⊢
  have HB1 := Lib.hid hb1
  have HX2 := Lib.hid hx2
  have HQ1 := Lib.hid hq1
  obtain ⟨G2, hG2⟩ : ∃ G2, w.heap.size + 1 = G2 := ⟨_, rfl⟩
  rw [hG2] at hx2 ⊢
  have HG2 := Lib.hid hG2
  have HX2 := Lib.hid hx2
  clear hb1 hx2 hq1 hG2
  refine (model2 HQ1.out HL.out HK.out).mono ?_
  rintro e W2 ⟨g, rfl, hb2, hg, hF⟩
  have HB2 := Lib.hid hb2
  have HGE := Lib.hid hg
  have HF := Lib.hid hF
  have HX3 := Lib.hid (hb2.stays HX2.out)
  clear hb2 hg hF
  go_wp2_with (go_at_call 22; ((with_reducible refine (reg0 _).mono ?_); rintro e w' ⟨rfl, rfl⟩))
  refine (mread2_0 (B := W1.heap.size) HF.out.held HGE.out HK.out HRD.out).mono ?_
  rintro e W3 ⟨rfl, hs3, p3, n3, c3, hB3, hQ3, hO3⟩
  have HS3 := Lib.hid hs3
  have HB3 := Lib.hid hB3
  have HQ3 := Lib.hid hQ3
  have HLT := Lib.hid (lt_of_heap HX2.out)
  have HX4 := Lib.hid ((hs3.block G2 (Nat.lt_of_lt_of_le HLT.out HB2.out.size) (by have := HLT.out; omega)).trans HX3.out)
  have HO3 := Lib.hid hO3
  clear hs3 hB3 hQ3 hO3
  go_wp2_with fail
  refine (told_lit HB3.out).mono ?_
  rintro e W4 ⟨rfl, hb4⟩
  have HB4 := Lib.hid hb4
  have hx5 := hb4.stays HX4.out
  have HX5 := Lib.hid hx5
  have z0 := cell_of_heap hx5 0
  have z1 := cell_of_heap hx5 1
  have z2 := cell_of_heap hx5 2
  have z3 := cell_of_heap hx5 3
  have z4 := cell_of_heap hx5 4
  have z5 := cell_of_heap hx5 5
  have z6 := cell_of_heap hx5 6
  have z7 := cell_of_heap hx5 7
  have y0 := frozen_of_heap hx5 0
  have y1 := frozen_of_heap hx5 1
  have y2 := frozen_of_heap hx5 2
  have y3 := frozen_of_heap hx5 3
  have y4 := frozen_of_heap hx5 4
  have y5 := frozen_of_heap hx5 5
  have y6 := frozen_of_heap hx5 6
  have y7 := frozen_of_heap hx5 7
  simp only [List.getElem?_toArray, List.getElem?_cons_zero, List.getElem?_cons_succ] at z0 z1 z2 z3 z4 z5 z6 z7
  clear hb4 hx5
  go_wp2
  have hh := set8_heap HX5.out (.int .i64 (d'.kind : Int)) (.int .i64 d'.r0) (.int .i64 d'.r1) (.int .i64 d'.r2) (.int .i64 d'.r3) (.slice p3 n3 c3) (.int .i64 d'.sent) (.bool d'.up)
  have hs8 := set8_svg W4 G2 (.int .i64 (d'.kind : Int)) (.int .i64 d'.r0) (.int .i64 d'.r1) (.int .i64 d'.r2) (.int .i64 d'.r3) (.slice p3 n3 c3) (.int .i64 d'.sent) (.bool d'.up)
  have hw4 : Bel w W4 := (Ysv.bel HS3.out (HB1.out.trans HB2.out) HB1.out.size).trans HB4.out
  refine bodyPost_ret (results_slot_cell Try.results14 _ _ G2 _ _ _ _ _ rfl rfl hh Try.underlying27 rfl (by kernel_rfl)) rfl ⟨_, rfl, hs8.bel hw4 (by have := HG2.out; omega), .slice p3 n3 c3, rfl, ?_⟩
  exact (HQ3.out.bel HB4.out).svg (B := W1.heap.size) hs8 (fun b o n c hv => ⟨(HO3.out b o n c hv).1, by have := (HO3.out b o n c hv).1; have := HLT.out; omega⟩)
set_option maxRecDepth 100000 in
theorem read2_1 {w : World} {d : Dev} {v : Value} (h : StAt w v d) (hd : Ok d) (hk : d.kind = 2) :
    Calls Try.prog 14 #[v, .int .i64 1] w (ReadPost (rdV d 1).1 (rdV d 1).2 w) := by
  obtain ⟨r', d', hrd⟩ : ∃ r' d', rdV d 1 = (r', d') := ⟨_, _, rfl⟩
  rw [hrd]
  have HRD := Lib.hid hrd
  clear hrd
  obtain ⟨u, rfl, hQ⟩ := h
  obtain ⟨p, n, c, rfl⟩ := qat_slice hQ
  have hb1 : Bel w ((w.alloc (.cells #[.int .i64 (d.kind : Int), .int .i64 d.r0, .int .i64 d.r1, .int .i64 d.r2, .int .i64 d.r3, .slice p n c, .int .i64 d.sent, .bool d.up] 27)).alloc (.cells #[.int .i64 0, .int .i64 0, .int .i64 0, .int .i64 0, .int .i64 0, .slice none 0 0, .int .i64 0, .bool false] 27)) := ((Bel.refl w).alloc _ _).alloc _ _
  have hq1 := hQ.bel hb1
  have hx2 : ((w.alloc (.cells #[.int .i64 (d.kind : Int), .int .i64 d.r0, .int .i64 d.r1, .int .i64 d.r2, .int .i64 d.r3, .slice p n c, .int .i64 d.sent, .bool d.up] 27)).alloc (.cells #[.int .i64 0, .int .i64 0, .int .i64 0, .int .i64 0, .int .i64 0, .slice none 0 0, .int .i64 0, .bool false] 27)).heap[w.heap.size + 1]? = some (.cells #[.int .i64 0, .int .i64 0, .int .i64 0, .int .i64 0, .int .i64 0, .slice none 0 0, .int .i64 0, .bool false] 27 (0, 0)) := by
    have h1 := heap_alloc_new (w.alloc (.cells #[.int .i64 (d.kind : Int), .int .i64 d.r0, .int .i64 d.r1, .int .i64 d.r2, .int .i64 d.r3, .slice p n c, .int .i64 d.sent, .bool d.up] 27)) (.cells #[.int .i64 0, .int .i64 0, .int .i64 0, .int .i64 0, .int .i64 0, .slice none 0 0, .int .i64 0, .bool false] 27)
    rw [World.size_alloc] at h1
    exact h1
  have HL := Lib.hid hd.len
  have HD := Lib.hid hd
  have HK := Lib.hid hk
  clear hQ hd hk
  show Calls Try.prog 14 #[.agg #[.int .i64 (d.kind : Int), .int .i64 d.r0, .int .i64 d.r1, .int .i64 d.r2, .int .i64 d.r3, .slice p n c, .int .i64 d.sent, .bool d.up], .int .i64 1] w (ReadPost r' d' w)
  go_enter Try.func14, Try.ntmps14
  go_upto_region 1 with (fail)
  go_wp2_with fail
  generalize ((w.alloc (.cells #[.int .i64 (d.kind : Int), .int .i64 d.r0, .int .i64 d.r1, .int .i64 d.r2, .int .i64 d.r3, .slice p n c, .int .i64 d.sent, .bool d.up] 27)).alloc (.cells #[.int .i64 0, .int .i64 0, .int .i64 0, .int .i64 0, .int .i64 0, .slice none 0 0, .int .i64 0, .bool false] 27)) = W1 at hb1 hx2 hq1 ⊢
  have HB1 := Lib.hid hb1
  have HX2 := Lib.hid hx2
  have HQ1 := Lib.hid hq1
  obtain ⟨G2, hG2⟩ : ∃ G2, w.heap.size + 1 = G2 := ⟨_, rfl⟩
  rw [hG2] at hx2 ⊢
  have HG2 := Lib.hid hG2
  have HX2 := Lib.hid hx2
  clear hb1 hx2 hq1 hG2
  refine (model2 HQ1.out HL.out HK.out).mono ?_
  rintro e W2 ⟨g, rfl, hb2, hg, hF⟩
  have HB2 := Lib.hid hb2
  have HGE := Lib.hid hg
  have HF := Lib.hid hF
  have HX3 := Lib.hid (hb2.stays HX2.out)
  clear hb2 hg hF
  go_wp2_with (go_at_call 22; ((with_reducible refine (reg1 _).mono ?_); rintro e w' ⟨rfl, rfl⟩))
  refine (mread2_1 (B := W1.heap.size) HF.out.held HGE.out HK.out HRD.out).mono ?_
  rintro e W3 ⟨rfl, hs3, p3, n3, c3, hB3, hQ3, hO3⟩
  have HS3 := Lib.hid hs3
  have HB3 := Lib.hid hB3
  have HQ3 := Lib.hid hQ3
  have HLT := Lib.hid (lt_of_heap HX2.out)
  have HX4 := Lib.hid ((hs3.block G2 (Nat.lt_of_lt_of_le HLT.out HB2.out.size) (by have := HLT.out; omega)).trans HX3.out)
  have HO3 := Lib.hid hO3
  clear hs3 hB3 hQ3 hO3
  go_wp2_with fail
  refine (told_lit HB3.out).mono ?_
  rintro e W4 ⟨rfl, hb4⟩
  have HB4 := Lib.hid hb4
  have hx5 := hb4.stays HX4.out
  have HX5 := Lib.hid hx5
  have z0 := cell_of_heap hx5 0
  have z1 := cell_of_heap hx5 1
  have z2 := cell_of_heap hx5 2
  have z3 := cell_of_heap hx5 3
  have z4 := cell_of_heap hx5 4
  have z5 := cell_of_heap hx5 5
  have z6 := cell_of_heap hx5 6
  have z7 := cell_of_heap hx5 7
  have y0 := frozen_of_heap hx5 0
  have y1 := frozen_of_heap hx5 1
  have y2 := frozen_of_heap hx5 2
  have y3 := frozen_of_heap hx5 3
  have y4 := frozen_of_heap hx5 4
  have y5 := frozen_of_heap hx5 5
  have y6 := frozen_of_heap hx5 6
  have y7 := frozen_of_heap hx5 7
  simp only [List.getElem?_toArray, List.getElem?_cons_zero, List.getElem?_cons_succ] at z0 z1 z2 z3 z4 z5 z6 z7
  clear hb4 hx5
  go_wp2
  have hh := set8_heap HX5.out (.int .i64 (d'.kind : Int)) (.int .i64 d'.r0) (.int .i64 d'.r1) (.int .i64 d'.r2) (.int .i64 d'.r3) (.slice p3 n3 c3) (.int .i64 d'.sent) (.bool d'.up)
  have hs8 := set8_svg W4 G2 (.int .i64 (d'.kind : Int)) (.int .i64 d'.r0) (.int .i64 d'.r1) (.int .i64 d'.r2) (.int .i64 d'.r3) (.slice p3 n3 c3) (.int .i64 d'.sent) (.bool d'.up)
  have hw4 : Bel w W4 := (Ysv.bel HS3.out (HB1.out.trans HB2.out) HB1.out.size).trans HB4.out
  refine bodyPost_ret (results_slot_cell Try.results14 _ _ G2 _ _ _ _ _ rfl rfl hh Try.underlying27 rfl (by kernel_rfl)) rfl ⟨_, rfl, hs8.bel hw4 (by have := HG2.out; omega), .slice p3 n3 c3, rfl, ?_⟩
  exact (HQ3.out.bel HB4.out).svg (B := W1.heap.size) hs8 (fun b o n c hv => ⟨(HO3.out b o n c hv).1, by have := (HO3.out b o n c hv).1; have := HLT.out; omega⟩)
set_option maxRecDepth 100000 in
theorem read2_2 {w : World} {d : Dev} {v : Value} (h : StAt w v d) (hd : Ok d) (hk : d.kind = 2) :
    Calls Try.prog 14 #[v, .int .i64 2] w (ReadPost (rdV d 2).1 (rdV d 2).2 w) := by
  obtain ⟨r', d', hrd⟩ : ∃ r' d', rdV d 2 = (r', d') := ⟨_, _, rfl⟩
  rw [hrd]
  have HRD := Lib.hid hrd
  clear hrd
  obtain ⟨u, rfl, hQ⟩ := h
  obtain ⟨p, n, c, rfl⟩ := qat_slice hQ
  have hb1 : Bel w ((w.alloc (.cells #[.int .i64 (d.kind : Int), .int .i64 d.r0, .int .i64 d.r1, .int .i64 d.r2, .int .i64 d.r3, .slice p n c, .int .i64 d.sent, .bool d.up] 27)).alloc (.cells #[.int .i64 0, .int .i64 0, .int .i64 0, .int .i64 0, .int .i64 0, .slice none 0 0, .int .i64 0, .bool false] 27)) := ((Bel.refl w).alloc _ _).alloc _ _
  have hq1 := hQ.bel hb1
  have hx2 : ((w.alloc (.cells #[.int .i64 (d.kind : Int), .int .i64 d.r0, .int .i64 d.r1, .int .i64 d.r2, .int .i64 d.r3, .slice p n c, .int .i64 d.sent, .bool d.up] 27)).alloc (.cells #[.int .i64 0, .int .i64 0, .int .i64 0, .int .i64 0, .int .i64 0, .slice none 0 0, .int .i64 0, .bool false] 27)).heap[w.heap.size + 1]? = some (.cells #[.int .i64 0, .int .i64 0, .int .i64 0, .int .i64 0, .int .i64 0, .slice none 0 0, .int .i64 0, .bool false] 27 (0, 0)) := by
    have h1 := heap_alloc_new (w.alloc (.cells #[.int .i64 (d.kind : Int), .int .i64 d.r0, .int .i64 d.r1, .int .i64 d.r2, .int .i64 d.r3, .slice p n c, .int .i64 d.sent, .bool d.up] 27)) (.cells #[.int .i64 0, .int .i64 0, .int .i64 0, .int .i64 0, .int .i64 0, .slice none 0 0, .int .i64 0, .bool false] 27)
    rw [World.size_alloc] at h1
    exact h1
  have HL := Lib.hid hd.len
  have HD := Lib.hid hd
  have HK := Lib.hid hk
  clear hQ hd hk
  show Calls Try.prog 14 #[.agg #[.int .i64 (d.kind : Int), .int .i64 d.r0, .int .i64 d.r1, .int .i64 d.r2, .int .i64 d.r3, .slice p n c, .int .i64 d.sent, .bool d.up], .int .i64 2] w (ReadPost r' d' w)
  go_enter Try.func14, Try.ntmps14
  go_upto_region 1 with (fail)
  go_wp2_with fail
  generalize ((w.alloc (.cells #[.int .i64 (d.kind : Int), .int .i64 d.r0, .int .i64 d.r1, .int .i64 d.r2, .int .i64 d.r3, .slice p n c, .int .i64 d.sent, .bool d.up] 27)).alloc (.cells #[.int .i64 0, .int .i64 0, .int .i64 0, .int .i64 0, .int .i64 0, .slice none 0 0, .int .i64 0, .bool false] 27)) = W1 at hb1 hx2 hq1 ⊢
  have HB1 := Lib.hid hb1
  have HX2 := Lib.hid hx2
  have HQ1 := Lib.hid hq1
  obtain ⟨G2, hG2⟩ : ∃ G2, w.heap.size + 1 = G2 := ⟨_, rfl⟩
  rw [hG2] at hx2 ⊢
  have HG2 := Lib.hid hG2
  have HX2 := Lib.hid hx2
  clear hb1 hx2 hq1 hG2
  refine (model2 HQ1.out HL.out HK.out).mono ?_
  rintro e W2 ⟨g, rfl, hb2, hg, hF⟩
  have HB2 := Lib.hid hb2
  have HGE := Lib.hid hg
  have HF := Lib.hid hF
  have HX3 := Lib.hid (hb2.stays HX2.out)
  clear hb2 hg hF
  go_wp2_with (go_at_call 22; ((with_reducible refine (reg2 _).mono ?_); rintro e w' ⟨rfl, rfl⟩))
  refine (mread2_2 (B := W1.heap.size) HF.out.held HGE.out HK.out HRD.out).mono ?_
  rintro e W3 ⟨rfl, hs3, p3, n3, c3, hB3, hQ3, hO3⟩
  have HS3 := Lib.hid hs3
  have HB3 := Lib.hid hB3
  have HQ3 := Lib.hid hQ3
  have HLT := Lib.hid (lt_of_heap HX2.out)
  have HX4 := Lib.hid ((hs3.block G2 (Nat.lt_of_lt_of_le HLT.out HB2.out.size) (by have := HLT.out; omega)).trans HX3.out)
  have HO3 := Lib.hid hO3
  clear hs3 hB3 hQ3 hO3
  go_wp2_with fail
  refine (told_lit HB3.out).mono ?_
  rintro e W4 ⟨rfl, hb4⟩
  have HB4 := Lib.hid hb4
  have hx5 := hb4.stays HX4.out
  have HX5 := Lib.hid hx5
  have z0 := cell_of_heap hx5 0
  have z1 := cell_of_heap hx5 1
  have z2 := cell_of_heap hx5 2
  have z3 := cell_of_heap hx5 3
  have z4 := cell_of_heap hx5 4
  have z5 := cell_of_heap hx5 5
  have z6 := cell_of_heap hx5 6
  have z7 := cell_of_heap hx5 7
  have y0 := frozen_of_heap hx5 0
  have y1 := frozen_of_heap hx5 1
  have y2 := frozen_of_heap hx5 2
  have y3 := frozen_of_heap hx5 3
  have y4 := frozen_of_heap hx5 4
  have y5 := frozen_of_heap hx5 5
  have y6 := frozen_of_heap hx5 6
  have y7 := frozen_of_heap hx5 7
  simp only [List.getElem?_toArray, List.getElem?_cons_zero, List.getElem?_cons_succ] at z0 z1 z2 z3 z4 z5 z6 z7
  clear hb4 hx5
  go_wp2
  have hh := set8_heap HX5.out (.int .i64 (d'.kind : Int)) (.int .i64 d'.r0) (.int .i64 d'.r1) (.int .i64 d'.r2) (.int .i64 d'.r3) (.slice p3 n3 c3) (.int .i64 d'.sent) (.bool d'.up)
  have hs8 := set8_svg W4 G2 (.int .i64 (d'.kind : Int)) (.int .i64 d'.r0) (.int .i64 d'.r1) (.int .i64 d'.r2) (.int .i64 d'.r3) (.slice p3 n3 c3) (.int .i64 d'.sent) (.bool d'.up)
  have hw4 : Bel w W4 := (Ysv.bel HS3.out (HB1.out.trans HB2.out) HB1.out.size).trans HB4.out
  refine bodyPost_ret (results_slot_cell Try.results14 _ _ G2 _ _ _ _ _ rfl rfl hh Try.underlying27 rfl (by kernel_rfl)) rfl ⟨_, rfl, hs8.bel hw4 (by have := HG2.out; omega), .slice p3 n3 c3, rfl, ?_⟩
  exact (HQ3.out.bel HB4.out).svg (B := W1.heap.size) hs8 (fun b o n c hv => ⟨(HO3.out b o n c hv).1, by have := (HO3.out b o n c hv).1; have := HLT.out; omega⟩)
set_option maxRecDepth 100000 in
theorem read2_3 {w : World} {d : Dev} {v : Value} (h : StAt w v d) (hd : Ok d) (hk : d.kind = 2) :
    Calls Try.prog 14 #[v, .int .i64 3] w (ReadPost (rdV d 3).1 (rdV d 3).2 w) := by
  obtain ⟨r', d', hrd⟩ : ∃ r' d', rdV d 3 = (r', d') := ⟨_, _, rfl⟩
  rw [hrd]
  have HRD := Lib.hid hrd
  clear hrd
  obtain ⟨u, rfl, hQ⟩ := h
  obtain ⟨p, n, c, rfl⟩ := qat_slice hQ
  have hb1 : Bel w ((w.alloc (.cells #[.int .i64 (d.kind : Int), .int .i64 d.r0, .int .i64 d.r1, .int .i64 d.r2, .int .i64 d.r3, .slice p n c, .int .i64 d.sent, .bool d.up] 27)).alloc (.cells #[.int .i64 0, .int .i64 0, .int .i64 0, .int .i64 0, .int .i64 0, .slice none 0 0, .int .i64 0, .bool false] 27)) := ((Bel.refl w).alloc _ _).alloc _ _
  have hq1 := hQ.bel hb1
  have hx2 : ((w.alloc (.cells #[.int .i64 (d.kind : Int), .int .i64 d.r0, .int .i64 d.r1, .int .i64 d.r2, .int .i64 d.r3, .slice p n c, .int .i64 d.sent, .bool d.up] 27)).alloc (.cells #[.int .i64 0, .int .i64 0, .int .i64 0, .int .i64 0, .int .i64 0, .slice none 0 0, .int .i64 0, .bool false] 27)).heap[w.heap.size + 1]? = some (.cells #[.int .i64 0, .int .i64 0, .int .i64 0, .int .i64 0, .int .i64 0, .slice none 0 0, .int .i64 0, .bool false] 27 (0, 0)) := by
    have h1 := heap_alloc_new (w.alloc (.cells #[.int .i64 (d.kind : Int), .int .i64 d.r0, .int .i64 d.r1, .int .i64 d.r2, .int .i64 d.r3, .slice p n c, .int .i64 d.sent, .bool d.up] 27)) (.cells #[.int .i64 0, .int .i64 0, .int .i64 0, .int .i64 0, .int .i64 0, .slice none 0 0, .int .i64 0, .bool false] 27)
    rw [World.size_alloc] at h1
    exact h1
  have HL := Lib.hid hd.len
  have HD := Lib.hid hd
  have HK := Lib.hid hk
  clear hQ hd hk
  show Calls Try.prog 14 #[.agg #[.int .i64 (d.kind : Int), .int .i64 d.r0, .int .i64 d.r1, .int .i64 d.r2, .int .i64 d.r3, .slice p n c, .int .i64 d.sent, .bool d.up], .int .i64 3] w (ReadPost r' d' w)
  go_enter Try.func14, Try.ntmps14
  go_upto_region 1 with (fail)
  go_wp2_with fail
  generalize ((w.alloc (.cells #[.int .i64 (d.kind : Int), .int .i64 d.r0, .int .i64 d.r1, .int .i64 d.r2, .int .i64 d.r3, .slice p n c, .int .i64 d.sent, .bool d.up] 27)).alloc (.cells #[.int .i64 0, .int .i64 0, .int .i64 0, .int .i64 0, .int .i64 0, .slice none 0 0, .int .i64 0, .bool false] 27)) = W1 at hb1 hx2 hq1 ⊢
  have HB1 := Lib.hid hb1
  have HX2 := Lib.hid hx2
  have HQ1 := Lib.hid hq1
  obtain ⟨G2, hG2⟩ : ∃ G2, w.heap.size + 1 = G2 := ⟨_, rfl⟩
  rw [hG2] at hx2 ⊢
  have HG2 := Lib.hid hG2
  have HX2 := Lib.hid hx2
  clear hb1 hx2 hq1 hG2
  refine (model2 HQ1.out HL.out HK.out).mono ?_
  rintro e W2 ⟨g, rfl, hb2, hg, hF⟩
  have HB2 := Lib.hid hb2
  have HGE := Lib.hid hg
  have HF := Lib.hid hF
  have HX3 := Lib.hid (hb2.stays HX2.out)
  clear hb2 hg hF
  go_wp2_with (go_at_call 22; ((with_reducible refine (reg3 _).mono ?_); rintro e w' ⟨rfl, rfl⟩))
  refine (mread2_3 (B := W1.heap.size) HF.out.held HGE.out HK.out HRD.out).mono ?_
  rintro e W3 ⟨rfl, hs3, p3, n3, c3, hB3, hQ3, hO3⟩
  have HS3 := Lib.hid hs3
  have HB3 := Lib.hid hB3
  have HQ3 := Lib.hid hQ3
  have HLT := Lib.hid (lt_of_heap HX2.out)
  have HX4 := Lib.hid ((hs3.block G2 (Nat.lt_of_lt_of_le HLT.out HB2.out.size) (by have := HLT.out; omega)).trans HX3.out)
  have HO3 := Lib.hid hO3
  clear hs3 hB3 hQ3 hO3
  go_wp2_with fail
  refine (told_lit HB3.out).mono ?_
  rintro e W4 ⟨rfl, hb4⟩
  have HB4 := Lib.hid hb4
  have hx5 := hb4.stays HX4.out
  have HX5 := Lib.hid hx5
  have z0 := cell_of_heap hx5 0
  have z1 := cell_of_heap hx5 1
  have z2 := cell_of_heap hx5 2
  have z3 := cell_of_heap hx5 3
  have z4 := cell_of_heap hx5 4
  have z5 := cell_of_heap hx5 5
  have z6 := cell_of_heap hx5 6
  have z7 := cell_of_heap hx5 7
  have y0 := frozen_of_heap hx5 0
  have y1 := frozen_of_heap hx5 1
  have y2 := frozen_of_heap hx5 2
  have y3 := frozen_of_heap hx5 3
  have y4 := frozen_of_heap hx5 4
  have y5 := frozen_of_heap hx5 5
  have y6 := frozen_of_heap hx5 6
  have y7 := frozen_of_heap hx5 7
  simp only [List.getElem?_toArray, List.getElem?_cons_zero, List.getElem?_cons_succ] at z0 z1 z2 z3 z4 z5 z6 z7
  clear hb4 hx5
  go_wp2
  have hh := set8_heap HX5.out (.int .i64 (d'.kind : Int)) (.int .i64 d'.r0) (.int .i64 d'.r1) (.int .i64 d'.r2) (.int .i64 d'.r3) (.slice p3 n3 c3) (.int .i64 d'.sent) (.bool d'.up)
  have hs8 := set8_svg W4 G2 (.int .i64 (d'.kind : Int)) (.int .i64 d'.r0) (.int .i64 d'.r1) (.int .i64 d'.r2) (.int .i64 d'.r3) (.slice p3 n3 c3) (.int .i64 d'.sent) (.bool d'.up)
  have hw4 : Bel w W4 := (Ysv.bel HS3.out (HB1.out.trans HB2.out) HB1.out.size).trans HB4.out
  refine bodyPost_ret (results_slot_cell Try.results14 _ _ G2 _ _ _ _ _ rfl rfl hh Try.underlying27 rfl (by kernel_rfl)) rfl ⟨_, rfl, hs8.bel hw4 (by have := HG2.out; omega), .slice p3 n3 c3, rfl, ?_⟩
  exact (HQ3.out.bel HB4.out).svg (B := W1.heap.size) hs8 (fun b o n c hv => ⟨(HO3.out b o n c hv).1, by have := (HO3.out b o n c hv).1; have := HLT.out; omega⟩)
set_option maxRecDepth 100000 in
theorem read3_0 {w : World} {d : Dev} {v : Value} (h : StAt w v d) (hd : Ok d) (hk : d.kind = 3) :
    Calls Try.prog 14 #[v, .int .i64 0] w (ReadPost (rdV d 0).1 (rdV d 0).2 w) := by
  obtain ⟨r', d', hrd⟩ : ∃ r' d', rdV d 0 = (r', d') := ⟨_, _, rfl⟩
  rw [hrd]
  have HRD := Lib.hid hrd
  clear hrd
  obtain ⟨u, rfl, hQ⟩ := h
  obtain ⟨p, n, c, rfl⟩ := qat_slice hQ
  have hb1 : Bel w ((w.alloc (.cells #[.int .i64 (d.kind : Int), .int .i64 d.r0, .int .i64 d.r1, .int .i64 d.r2, .int .i64 d.r3, .slice p n c, .int .i64 d.sent, .bool d.up] 27)).alloc (.cells #[.int .i64 0, .int .i64 0, .int .i64 0, .int .i64 0, .int .i64 0, .slice none 0 0, .int .i64 0, .bool false] 27)) := ((Bel.refl w).alloc _ _).alloc _ _
  have hq1 := hQ.bel hb1
  have hx2 : ((w.alloc (.cells #[.int .i64 (d.kind : Int), .int .i64 d.r0, .int .i64 d.r1, .int .i64 d.r2, .int .i64 d.r3, .slice p n c, .int .i64 d.sent, .bool d.up] 27)).alloc (.cells #[.int .i64 0, .int .i64 0, .int .i64 0, .int .i64 0, .int .i64 0, .slice none 0 0, .int .i64 0, .bool false] 27)).heap[w.heap.size + 1]? = some (.cells #[.int .i64 0, .int .i64 0, .int .i64 0, .int .i64 0, .int .i64 0, .slice none 0 0, .int .i64 0, .bool false] 27 (0, 0)) := by
    have h1 := heap_alloc_new (w.alloc (.cells #[.int .i64 (d.kind : Int), .int .i64 d.r0, .int .i64 d.r1, .int .i64 d.r2, .int .i64 d.r3, .slice p n c, .int .i64 d.sent, .bool d.up] 27)) (.cells #[.int .i64 0, .int .i64 0, .int .i64 0, .int .i64 0, .int .i64 0, .slice none 0 0, .int .i64 0, .bool false] 27)
    rw [World.size_alloc] at h1
    exact h1
  have HL := Lib.hid hd.len
  have HD := Lib.hid hd
  have HK := Lib.hid hk
  clear hQ hd hk
  show Calls Try.prog 14 #[.agg #[.int .i64 (d.kind : Int), .int .i64 d.r0, .int .i64 d.r1, .int .i64 d.r2, .int .i64 d.r3, .slice p n c, .int .i64 d.sent, .bool d.up], .int .i64 0] w (ReadPost r' d' w)
  go_enter Try.func14, Try.ntmps14
  go_upto_region 1 with (fail)
  go_wp2_with fail
  generalize ((w.alloc (.cells #[.int .i64 (d.kind : Int), .int .i64 d.r0, .int .i64 d.r1, .int .i64 d.r2, .int .i64 d.r3, .slice p n c, .int .i64 d.sent, .bool d.up] 27)).alloc (.cells #[.int .i64 0, .int .i64 0, .int .i64 0, .int .i64 0, .int .i64 0, .slice none 0 0, .int .i64 0, .bool false] 27)) = W1 at hb1 hx2 hq1 ⊢
  have HB1 := Lib.hid hb1
  have HX2 := Lib.hid hx2
  have HQ1 := Lib.hid hq1
  obtain ⟨G2, hG2⟩ : ∃ G2, w.heap.size + 1 = G2 := ⟨_, rfl⟩
  rw [hG2] at hx2 ⊢
  have HG2 := Lib.hid hG2
  have HX2 := Lib.hid hx2
  clear hb1 hx2 hq1 hG2
  refine (model3 HQ1.out HL.out HK.out).mono ?_
  rintro e W2 ⟨g, rfl, hb2, hg, hF⟩
  have HB2 := Lib.hid hb2
  have HGE := Lib.hid hg
  have HF := Lib.hid hF
  have HX3 := Lib.hid (hb2.stays HX2.out)
  clear hb2 hg hF
  go_wp2_with (go_at_call 22; ((with_reducible refine (reg0 _).mono ?_); rintro e w' ⟨rfl, rfl⟩))
  refine (mread3_0 (B := W1.heap.size) HF.out.held HGE.out HK.out HRD.out).mono ?_
  rintro e W3 ⟨rfl, hs3, p3, n3, c3, hB3, hQ3, hO3⟩
  have HS3 := Lib.hid hs3
  have HB3 := Lib.hid hB3
  have HQ3 := Lib.hid hQ3
  have HLT := Lib.hid (lt_of_heap HX2.out)
  have HX4 := Lib.hid ((hs3.block G2 (Nat.lt_of_lt_of_le HLT.out HB2.out.size) (by have := HLT.out; omega)).trans HX3.out)
  have HO3 := Lib.hid hO3
  clear hs3 hB3 hQ3 hO3
  go_wp2_with fail
  refine (told_lit HB3.out).mono ?_
  rintro e W4 ⟨rfl, hb4⟩
  have HB4 := Lib.hid hb4
  have hx5 := hb4.stays HX4.out
  have HX5 := Lib.hid hx5
  have z0 := cell_of_heap hx5 0
  have z1 := cell_of_heap hx5 1
  have z2 := cell_of_heap hx5 2
  have z3 := cell_of_heap hx5 3
  have z4 := cell_of_heap hx5 4
  have z5 := cell_of_heap hx5 5
  have z6 := cell_of_heap hx5 6
  have z7 := cell_of_heap hx5 7
  have y0 := frozen_of_heap hx5 0
  have y1 := frozen_of_heap hx5 1
  have y2 := frozen_of_heap hx5 2
  have y3 := frozen_of_heap hx5 3
  have y4 := frozen_of_heap hx5 4
  have y5 := frozen_of_heap hx5 5
  have y6 := frozen_of_heap hx5 6
  have y7 := frozen_of_heap hx5 7
  simp only [List.getElem?_toArray, List.getElem?_cons_zero, List.getElem?_cons_succ] at z0 z1 z2 z3 z4 z5 z6 z7
  clear hb4 hx5
  go_wp2
  have hh := set8_heap HX5.out (.int .i64 (d'.kind : Int)) (.int .i64 d'.r0) (.int .i64 d'.r1) (.int .i64 d'.r2) (.int .i64 d'.r3) (.slice p3 n3 c3) (.int .i64 d'.sent) (.bool d'.up)
  have hs8 := set8_svg W4 G2 (.int .i64 (d'.kind : Int)) (.int .i64 d'.r0) (.int .i64 d'.r1) (.int .i64 d'.r2) (.int .i64 d'.r3) (.slice p3 n3 c3) (.int .i64 d'.sent) (.bool d'.up)
  have hw4 : Bel w W4 := (Ysv.bel HS3.out (HB1.out.trans HB2.out) HB1.out.size).trans HB4.out
  refine bodyPost_ret (results_slot_cell Try.results14 _ _ G2 _ _ _ _ _ rfl rfl hh Try.underlying27 rfl (by kernel_rfl)) rfl ⟨_, rfl, hs8.bel hw4 (by have := HG2.out; omega), .slice p3 n3 c3, rfl, ?_⟩
  exact (HQ3.out.bel HB4.out).svg (B := W1.heap.size) hs8 (fun b o n c hv => ⟨(HO3.out b o n c hv).1, by have := (HO3.out b o n c hv).1; have := HLT.out; omega⟩)
set_option maxRecDepth 100000 in
theorem read3_1 {w : World} {d : Dev} {v : Value} (h : StAt w v d) (hd : Ok d) (hk : d.kind = 3) :
    Calls Try.prog 14 #[v, .int .i64 1] w (ReadPost (rdV d 1).1 (rdV d 1).2 w) := by
  obtain ⟨r', d', hrd⟩ : ∃ r' d', rdV d 1 = (r', d') := ⟨_, _, rfl⟩
  rw [hrd]
  have HRD := Lib.hid hrd
  clear hrd
  obtain ⟨u, rfl, hQ⟩ := h
  obtain ⟨p, n, c, rfl⟩ := qat_slice hQ
  have hb1 : Bel w ((w.alloc (.cells #[.int .i64 (d.kind : Int), .int .i64 d.r0, .int .i64 d.r1, .int .i64 d.r2, .int .i64 d.r3, .slice p n c, .int .i64 d.sent, .bool d.up] 27)).alloc (.cells #[.int .i64 0, .int .i64 0, .int .i64 0, .int .i64 0, .int .i64 0, .slice none 0 0, .int .i64 0, .bool false] 27)) := ((Bel.refl w).alloc _ _).alloc _ _
  have hq1 := hQ.bel hb1
  have hx2 : ((w.alloc (.cells #[.int .i64 (d.kind : Int), .int .i64 d.r0, .int .i64 d.r1, .int .i64 d.r2, .int .i64 d.r3, .slice p n c, .int .i64 d.sent, .bool d.up] 27)).alloc (.cells #[.int .i64 0, .int .i64 0, .int .i64 0, .int .i64 0, .int .i64 0, .slice none 0 0, .int .i64 0, .bool false] 27)).heap[w.heap.size + 1]? = some (.cells #[.int .i64 0, .int .i64 0, .int .i64 0, .int .i64 0, .int .i64 0, .slice none 0 0, .int .i64 0, .bool false] 27 (0, 0)) := by
    have h1 := heap_alloc_new (w.alloc (.cells #[.int .i64 (d.kind : Int), .int .i64 d.r0, .int .i64 d.r1, .int .i64 d.r2, .int .i64 d.r3, .slice p n c, .int .i64 d.sent, .bool d.up] 27)) (.cells #[.int .i64 0, .int .i64 0, .int .i64 0, .int .i64 0, .int .i64 0, .slice none 0 0, .int .i64 0, .bool false] 27)
    rw [World.size_alloc] at h1
    exact h1
  have HL := Lib.hid hd.len
  have HD := Lib.hid hd
  have HK := Lib.hid hk
  clear hQ hd hk
  show Calls Try.prog 14 #[.agg #[.int .i64 (d.kind : Int), .int .i64 d.r0, .int .i64 d.r1, .int .i64 d.r2, .int .i64 d.r3, .slice p n c, .int .i64 d.sent, .bool d.up], .int .i64 1] w (ReadPost r' d' w)
  go_enter Try.func14, Try.ntmps14
  go_upto_region 1 with (fail)
  go_wp2_with fail
  generalize ((w.alloc (.cells #[.int .i64 (d.kind : Int), .int .i64 d.r0, .int .i64 d.r1, .int .i64 d.r2, .int .i64 d.r3, .slice p n c, .int .i64 d.sent, .bool d.up] 27)).alloc (.cells #[.int .i64 0, .int .i64 0, .int .i64 0, .int .i64 0, .int .i64 0, .slice none 0 0, .int .i64 0, .bool false] 27)) = W1 at hb1 hx2 hq1 ⊢
  have HB1 := Lib.hid hb1
  have HX2 := Lib.hid hx2
  have HQ1 := Lib.hid hq1
  obtain ⟨G2, hG2⟩ : ∃ G2, w.heap.size + 1 = G2 := ⟨_, rfl⟩
  rw [hG2] at hx2 ⊢
  have HG2 := Lib.hid hG2
  have HX2 := Lib.hid hx2
  clear hb1 hx2 hq1 hG2
  refine (model3 HQ1.out HL.out HK.out).mono ?_
  rintro e W2 ⟨g, rfl, hb2, hg, hF⟩
  have HB2 := Lib.hid hb2
  have HGE := Lib.hid hg
  have HF := Lib.hid hF
  have HX3 := Lib.hid (hb2.stays HX2.out)
  clear hb2 hg hF
  go_wp2_with (go_at_call 22; ((with_reducible refine (reg1 _).mono ?_); rintro e w' ⟨rfl, rfl⟩))
  refine (mread3_1 (B := W1.heap.size) HF.out.held HGE.out HK.out HRD.out).mono ?_
  rintro e W3 ⟨rfl, hs3, p3, n3, c3, hB3, hQ3, hO3⟩
  have HS3 := Lib.hid hs3
  have HB3 := Lib.hid hB3
  have HQ3 := Lib.hid hQ3
  have HLT := Lib.hid (lt_of_heap HX2.out)
  have HX4 := Lib.hid ((hs3.block G2 (Nat.lt_of_lt_of_le HLT.out HB2.out.size) (by have := HLT.out; omega)).trans HX3.out)
  have HO3 := Lib.hid hO3
  clear hs3 hB3 hQ3 hO3
  go_wp2_with fail
  refine (told_lit HB3.out).mono ?_
  rintro e W4 ⟨rfl, hb4⟩
  have HB4 := Lib.hid hb4
  have hx5 := hb4.stays HX4.out
  have HX5 := Lib.hid hx5
  have z0 := cell_of_heap hx5 0
  have z1 := cell_of_heap hx5 1
  have z2 := cell_of_heap hx5 2
  have z3 := cell_of_heap hx5 3
  have z4 := cell_of_heap hx5 4
  have z5 := cell_of_heap hx5 5
  have z6 := cell_of_heap hx5 6
  have z7 := cell_of_heap hx5 7
  have y0 := frozen_of_heap hx5 0
  have y1 := frozen_of_heap hx5 1
  have y2 := frozen_of_heap hx5 2
  have y3 := frozen_of_heap hx5 3
  have y4 := frozen_of_heap hx5 4
  have y5 := frozen_of_heap hx5 5
  have y6 := frozen_of_heap hx5 6
  have y7 := frozen_of_heap hx5 7
  simp only [List.getElem?_toArray, List.getElem?_cons_zero, List.getElem?_cons_succ] at z0 z1 z2 z3 z4 z5 z6 z7
  clear hb4 hx5
  go_wp2
  have hh := set8_heap HX5.out (.int .i64 (d'.kind : Int)) (.int .i64 d'.r0) (.int .i64 d'.r1) (.int .i64 d'.r2) (.int .i64 d'.r3) (.slice p3 n3 c3) (.int .i64 d'.sent) (.bool d'.up)
  have hs8 := set8_svg W4 G2 (.int .i64 (d'.kind : Int)) (.int .i64 d'.r0) (.int .i64 d'.r1) (.int .i64 d'.r2) (.int .i64 d'.r3) (.slice p3 n3 c3) (.int .i64 d'.sent) (.bool d'.up)
  have hw4 : Bel w W4 := (Ysv.bel HS3.out (HB1.out.trans HB2.out) HB1.out.size).trans HB4.out
  refine bodyPost_ret (results_slot_cell Try.results14 _ _ G2 _ _ _ _ _ rfl rfl hh Try.underlying27 rfl (by kernel_rfl)) rfl ⟨_, rfl, hs8.bel hw4 (by have := HG2.out; omega), .slice p3 n3 c3, rfl, ?_⟩
  exact (HQ3.out.bel HB4.out).svg (B := W1.heap.size) hs8 (fun b o n c hv => ⟨(HO3.out b o n c hv).1, by have := (HO3.out b o n c hv).1; have := HLT.out; omega⟩)
set_option maxRecDepth 100000 in
theorem read3_2 {w : World} {d : Dev} {v : Value} (h : StAt w v d) (hd : Ok d) (hk : d.kind = 3) :
    Calls Try.prog 14 #[v, .int .i64 2] w (ReadPost (rdV d 2).1 (rdV d 2).2 w) := by
  obtain ⟨r', d', hrd⟩ : ∃ r' d', rdV d 2 = (r', d') := ⟨_, _, rfl⟩
  rw [hrd]
  have HRD := Lib.hid hrd
  clear hrd
  obtain ⟨u, rfl, hQ⟩ := h
  obtain ⟨p, n, c, rfl⟩ := qat_slice hQ
  have hb1 : Bel w ((w.alloc (.cells #[.int .i64 (d.kind : Int), .int .i64 d.r0, .int .i64 d.r1, .int .i64 d.r2, .int .i64 d.r3, .slice p n c, .int .i64 d.sent, .bool d.up] 27)).alloc (.cells #[.int .i64 0, .int .i64 0, .int .i64 0, .int .i64 0, .int .i64 0, .slice none 0 0, .int .i64 0, .bool false] 27)) := ((Bel.refl w).alloc _ _).alloc _ _
  have hq1 := hQ.bel hb1
  have hx2 : ((w.alloc (.cells #[.int .i64 (d.kind : Int), .int .i64 d.r0, .int .i64 d.r1, .int .i64 d.r2, .int .i64 d.r3, .slice p n c, .int .i64 d.sent, .bool d.up] 27)).alloc (.cells #[.int .i64 0, .int .i64 0, .int .i64 0, .int .i64 0, .int .i64 0, .slice none 0 0, .int .i64 0, .bool false] 27)).heap[w.heap.size + 1]? = some (.cells #[.int .i64 0, .int .i64 0, .int .i64 0, .int .i64 0, .int .i64 0, .slice none 0 0, .int .i64 0, .bool false] 27 (0, 0)) := by
    have h1 := heap_alloc_new (w.alloc (.cells #[.int .i64 (d.kind : Int), .int .i64 d.r0, .int .i64 d.r1, .int .i64 d.r2, .int .i64 d.r3, .slice p n c, .int .i64 d.sent, .bool d.up] 27)) (.cells #[.int .i64 0, .int .i64 0, .int .i64 0, .int .i64 0, .int .i64 0, .slice none 0 0, .int .i64 0, .bool false] 27)
    rw [World.size_alloc] at h1
    exact h1
  have HL := Lib.hid hd.len
  have HD := Lib.hid hd
  have HK := Lib.hid hk
  clear hQ hd hk
  show Calls Try.prog 14 #[.agg #[.int .i64 (d.kind : Int), .int .i64 d.r0, .int .i64 d.r1, .int .i64 d.r2, .int .i64 d.r3, .slice p n c, .int .i64 d.sent, .bool d.up], .int .i64 2] w (ReadPost r' d' w)
  go_enter Try.func14, Try.ntmps14
  go_upto_region 1 with (fail)
  go_wp2_with fail
  generalize ((w.alloc (.cells #[.int .i64 (d.kind : Int), .int .i64 d.r0, .int .i64 d.r1, .int .i64 d.r2, .int .i64 d.r3, .slice p n c, .int .i64 d.sent, .bool d.up] 27)).alloc (.cells #[.int .i64 0, .int .i64 0, .int .i64 0, .int .i64 0, .int .i64 0, .slice none 0 0, .int .i64 0, .bool false] 27)) = W1 at hb1 hx2 hq1 ⊢
  have HB1 := Lib.hid hb1
  have HX2 := Lib.hid hx2
  have HQ1 := Lib.hid hq1
  obtain ⟨G2, hG2⟩ : ∃ G2, w.heap.size + 1 = G2 := ⟨_, rfl⟩
  rw [hG2] at hx2 ⊢
  have HG2 := Lib.hid hG2
  have HX2 := Lib.hid hx2
  clear hb1 hx2 hq1 hG2
  refine (model3 HQ1.out HL.out HK.out).mono ?_
  rintro e W2 ⟨g, rfl, hb2, hg, hF⟩
  have HB2 := Lib.hid hb2
  have HGE := Lib.hid hg
  have HF := Lib.hid hF
  have HX3 := Lib.hid (hb2.stays HX2.out)
  clear hb2 hg hF
  go_wp2_with (go_at_call 22; ((with_reducible refine (reg2 _).mono ?_); rintro e w' ⟨rfl, rfl⟩))
  refine (mread3_2 (B := W1.heap.size) HF.out.held HGE.out HK.out HRD.out).mono ?_
  rintro e W3 ⟨rfl, hs3, p3, n3, c3, hB3, hQ3, hO3⟩
  have HS3 := Lib.hid hs3
  have HB3 := Lib.hid hB3
  have HQ3 := Lib.hid hQ3
  have HLT := Lib.hid (lt_of_heap HX2.out)
  have HX4 := Lib.hid ((hs3.block G2 (Nat.lt_of_lt_of_le HLT.out HB2.out.size) (by have := HLT.out; omega)).trans HX3.out)
  have HO3 := Lib.hid hO3
  clear hs3 hB3 hQ3 hO3
  go_wp2_with fail
  refine (told_lit HB3.out).mono ?_
  rintro e W4 ⟨rfl, hb4⟩
  have HB4 := Lib.hid hb4
  have hx5 := hb4.stays HX4.out
  have HX5 := Lib.hid hx5
  have z0 := cell_of_heap hx5 0
  have z1 := cell_of_heap hx5 1
  have z2 := cell_of_heap hx5 2
  have z3 := cell_of_heap hx5 3
  have z4 := cell_of_heap hx5 4
  have z5 := cell_of_heap hx5 5
  have z6 := cell_of_heap hx5 6
  have z7 := cell_of_heap hx5 7
  have y0 := frozen_of_heap hx5 0
  have y1 := frozen_of_heap hx5 1
  have y2 := frozen_of_heap hx5 2
  have y3 := frozen_of_heap hx5 3
  have y4 := frozen_of_heap hx5 4
  have y5 := frozen_of_heap hx5 5
  have y6 := frozen_of_heap hx5 6
  have y7 := frozen_of_heap hx5 7
  simp only [List.getElem?_toArray, List.getElem?_cons_zero, List.getElem?_cons_succ] at z0 z1 z2 z3 z4 z5 z6 z7
  clear hb4 hx5
  go_wp2
  have hh := set8_heap HX5.out (.int .i64 (d'.kind : Int)) (.int .i64 d'.r0) (.int .i64 d'.r1) (.int .i64 d'.r2) (.int .i64 d'.r3) (.slice p3 n3 c3) (.int .i64 d'.sent) (.bool d'.up)
  have hs8 := set8_svg W4 G2 (.int .i64 (d'.kind : Int)) (.int .i64 d'.r0) (.int .i64 d'.r1) (.int .i64 d'.r2) (.int .i64 d'.r3) (.slice p3 n3 c3) (.int .i64 d'.sent) (.bool d'.up)
  have hw4 : Bel w W4 := (Ysv.bel HS3.out (HB1.out.trans HB2.out) HB1.out.size).trans HB4.out
  refine bodyPost_ret (results_slot_cell Try.results14 _ _ G2 _ _ _ _ _ rfl rfl hh Try.underlying27 rfl (by kernel_rfl)) rfl ⟨_, rfl, hs8.bel hw4 (by have := HG2.out; omega), .slice p3 n3 c3, rfl, ?_⟩
  exact (HQ3.out.bel HB4.out).svg (B := W1.heap.size) hs8 (fun b o n c hv => ⟨(HO3.out b o n c hv).1, by have := (HO3.out b o n c hv).1; have := HLT.out; omega⟩)
set_option maxRecDepth 100000 in
theorem read3_3 {w : World} {d : Dev} {v : Value} (h : StAt w v d) (hd : Ok d) (hk : d.kind = 3) :
    Calls Try.prog 14 #[v, .int .i64 3] w (ReadPost (rdV d 3).1 (rdV d 3).2 w) := by
  obtain ⟨r', d', hrd⟩ : ∃ r' d', rdV d 3 = (r', d') := ⟨_, _, rfl⟩
  rw [hrd]
  have HRD := Lib.hid hrd
  clear hrd
  obtain ⟨u, rfl, hQ⟩ := h
  obtain ⟨p, n, c, rfl⟩ := qat_slice hQ
  have hb1 : Bel w ((w.alloc (.cells #[.int .i64 (d.kind : Int), .int .i64 d.r0, .int .i64 d.r1, .int .i64 d.r2, .int .i64 d.r3, .slice p n c, .int .i64 d.sent, .bool d.up] 27)).alloc (.cells #[.int .i64 0, .int .i64 0, .int .i64 0, .int .i64 0, .int .i64 0, .slice none 0 0, .int .i64 0, .bool false] 27)) := ((Bel.refl w).alloc _ _).alloc _ _
  have hq1 := hQ.bel hb1
  have hx2 : ((w.alloc (.cells #[.int .i64 (d.kind : Int), .int .i64 d.r0, .int .i64 d.r1, .int .i64 d.r2, .int .i64 d.r3, .slice p n c, .int .i64 d.sent, .bool d.up] 27)).alloc (.cells #[.int .i64 0, .int .i64 0, .int .i64 0, .int .i64 0, .int .i64 0, .slice none 0 0, .int .i64 0, .bool false] 27)).heap[w.heap.size + 1]? = some (.cells #[.int .i64 0, .int .i64 0, .int .i64 0, .int .i64 0, .int .i64 0, .slice none 0 0, .int .i64 0, .bool false] 27 (0, 0)) := by
    have h1 := heap_alloc_new (w.alloc (.cells #[.int .i64 (d.kind : Int), .int .i64 d.r0, .int .i64 d.r1, .int .i64 d.r2, .int .i64 d.r3, .slice p n c, .int .i64 d.sent, .bool d.up] 27)) (.cells #[.int .i64 0, .int .i64 0, .int .i64 0, .int .i64 0, .int .i64 0, .slice none 0 0, .int .i64 0, .bool false] 27)
    rw [World.size_alloc] at h1
    exact h1
  have HL := Lib.hid hd.len
  have HD := Lib.hid hd
  have HK := Lib.hid hk
  clear hQ hd hk
  show Calls Try.prog 14 #[.agg #[.int .i64 (d.kind : Int), .int .i64 d.r0, .int .i64 d.r1, .int .i64 d.r2, .int .i64 d.r3, .slice p n c, .int .i64 d.sent, .bool d.up], .int .i64 3] w (ReadPost r' d' w)
  go_enter Try.func14, Try.ntmps14
  go_upto_region 1 with (fail)
  go_wp2_with fail
  generalize ((w.alloc (.cells #[.int .i64 (d.kind : Int), .int .i64 d.r0, .int .i64 d.r1, .int .i64 d.r2, .int .i64 d.r3, .slice p n c, .int .i64 d.sent, .bool d.up] 27)).alloc (.cells #[.int .i64 0, .int .i64 0, .int .i64 0, .int .i64 0, .int .i64 0, .slice none 0 0, .int .i64 0, .bool false] 27)) = W1 at hb1 hx2 hq1 ⊢
  have HB1 := Lib.hid hb1
  have HX2 := Lib.hid hx2
  have HQ1 := Lib.hid hq1
  obtain ⟨G2, hG2⟩ : ∃ G2, w.heap.size + 1 = G2 := ⟨_, rfl⟩
  rw [hG2] at hx2 ⊢
  have HG2 := Lib.hid hG2
  have HX2 := Lib.hid hx2
  clear hb1 hx2 hq1 hG2
  refine (model3 HQ1.out HL.out HK.out).mono ?_
  rintro e W2 ⟨g, rfl, hb2, hg, hF⟩
  have HB2 := Lib.hid hb2
  have HGE := Lib.hid hg
  have HF := Lib.hid hF
  have HX3 := Lib.hid (hb2.stays HX2.out)
  clear hb2 hg hF
  go_wp2_with (go_at_call 22; ((with_reducible refine (reg3 _).mono ?_); rintro e w' ⟨rfl, rfl⟩))
  refine (mread3_3 (B := W1.heap.size) HF.out.held HGE.out HK.out HRD.out).mono ?_
  rintro e W3 ⟨rfl, hs3, p3, n3, c3, hB3, hQ3, hO3⟩
  have HS3 := Lib.hid hs3
  have HB3 := Lib.hid hB3
  have HQ3 := Lib.hid hQ3
  have HLT := Lib.hid (lt_of_heap HX2.out)
  have HX4 := Lib.hid ((hs3.block G2 (Nat.lt_of_lt_of_le HLT.out HB2.out.size) (by have := HLT.out; omega)).trans HX3.out)
  have HO3 := Lib.hid hO3
  clear hs3 hB3 hQ3 hO3
  go_wp2_with fail
  refine (told_lit HB3.out).mono ?_
  rintro e W4 ⟨rfl, hb4⟩
  have HB4 := Lib.hid hb4
  have hx5 := hb4.stays HX4.out
  have HX5 := Lib.hid hx5
  have z0 := cell_of_heap hx5 0
  have z1 := cell_of_heap hx5 1
  have z2 := cell_of_heap hx5 2
  have z3 := cell_of_heap hx5 3
  have z4 := cell_of_heap hx5 4
  have z5 := cell_of_heap hx5 5
  have z6 := cell_of_heap hx5 6
  have z7 := cell_of_heap hx5 7
  have y0 := frozen_of_heap hx5 0
  have y1 := frozen_of_heap hx5 1
  have y2 := frozen_of_heap hx5 2
  have y3 := frozen_of_heap hx5 3
  have y4 := frozen_of_heap hx5 4
  have y5 := frozen_of_heap hx5 5
  have y6 := frozen_of_heap hx5 6
  have y7 := frozen_of_heap hx5 7
  simp only [List.getElem?_toArray, List.getElem?_cons_zero, List.getElem?_cons_succ] at z0 z1 z2 z3 z4 z5 z6 z7
  clear hb4 hx5
  go_wp2
  have hh := set8_heap HX5.out (.int .i64 (d'.kind : Int)) (.int .i64 d'.r0) (.int .i64 d'.r1) (.int .i64 d'.r2) (.int .i64 d'.r3) (.slice p3 n3 c3) (.int .i64 d'.sent) (.bool d'.up)
  have hs8 := set8_svg W4 G2 (.int .i64 (d'.kind : Int)) (.int .i64 d'.r0) (.int .i64 d'.r1) (.int .i64 d'.r2) (.int .i64 d'.r3) (.slice p3 n3 c3) (.int .i64 d'.sent) (.bool d'.up)
  have hw4 : Bel w W4 := (Ysv.bel HS3.out (HB1.out.trans HB2.out) HB1.out.size).trans HB4.out
  refine bodyPost_ret (results_slot_cell Try.results14 _ _ G2 _ _ _ _ _ rfl rfl hh Try.underlying27 rfl (by kernel_rfl)) rfl ⟨_, rfl, hs8.bel hw4 (by have := HG2.out; omega), .slice p3 n3 c3, rfl, ?_⟩
  exact (HQ3.out.bel HB4.out).svg (B := W1.heap.size) hs8 (fun b o n c hv => ⟨(HO3.out b o n c hv).1, by have := (HO3.out b o n c hv).1; have := HLT.out; omega⟩)
theorem read_any {w : World} {d : Dev} {v : Value} (h : StAt w v d) (hd : Ok d) {r : Nat} (hr : r < 4) :
    Calls Try.prog 14 #[v, .int .i64 (r : Int)] w (ReadPost (rdV d r).1 (rdV d r).2 w) := by
  have hk := hd.kind
  have hk' : d.kind = 1 ∨ d.kind = 2 ∨ d.kind = 3 := by omega
  rcases r with _ | _ | _ | _ | r
  · rcases hk' with hk | hk | hk
    · exact read1_0 h hd hk
    · exact read2_0 h hd hk
    · exact read3_0 h hd hk
  · rcases hk' with hk | hk | hk
    · exact read1_1 h hd hk
    · exact read2_1 h hd hk
    · exact read3_1 h hd hk
  · rcases hk' with hk | hk | hk
    · exact read1_2 h hd hk
    · exact read2_2 h hd hk
    · exact read3_2 h hd hk
  · rcases hk' with hk | hk | hk
    · exact read1_3 h hd hk
    · exact read2_3 h hd hk
    · exact read3_3 h hd hk
  · omega
end Go.Proofs.Ytbhpnoodpicdkaa
