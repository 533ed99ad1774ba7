/- The document's own Change. -/
import Derived.Test.YtobpoghophhphaaMRt
import Derived.Test.YtobpoghophhphaaMTwo
namespace Go.Proofs.Ytobpoghophhphaa
open Go.RowKit Mm
open Plain (two isTwo level level_out)
set_option linter.unusedVariables false
set_option linter.unusedSimpArgs false
set_option maxRecDepth 100000 in
set_option maxHeartbeats 2000000 in
theorem rchg_0 {w : World} {base : Nat} {v : Mv} {m : Mem} (hm : MemAt base w v m) (ho : Ok m) {h a op n : Int} (ht : (isH m h && isW m a) = false) :
    Calls Try.prog 23 #[.agg #[.slice v.w.p v.w.n v.w.c, .slice v.p.p v.p.n v.p.c, .slice v.r.p v.r.n v.r.c], .int .i64 h, .int .i64 a, .int .i64 op, .int .i64 n] w (Told3 (.int .i64 0) zero 1 w) := by
  obtain ⟨hb1, hx1, hx2⟩ := box2 w #[.slice v.w.p v.w.n v.w.c, .slice v.p.p v.p.n v.p.c, .slice v.r.p v.r.n v.r.c] 27 #[.slice none 0 0, .slice none 0 0, .slice none 0 0] 27
  have HM := Lib.hid hm
  have HO := Lib.hid ho
  have HT := Lib.hid ht
  clear hm ho ht
  go_enter Try.func23, Try.ntmps23
  go_upto_region 1 with (fail)
  generalize hW1 : ((w.alloc (.cells #[.slice v.w.p v.w.n v.w.c, .slice v.p.p v.p.n v.p.c, .slice v.r.p v.r.n v.r.c] 27)).alloc (.cells #[.slice none 0 0, .slice none 0 0, .slice none 0 0] 27)) = W1 at hb1 hx1 hx2 ⊢
  clear hW1
  have HN12 : Hid (w.heap.size ≠ w.heap.size + 1) := Lib.hid (by omega)
  have HG2 : Hid (w.heap.size ≤ w.heap.size + 1) := Lib.hid (by omega)
  generalize w.heap.size + 1 = g2 at hx2 HN12 HG2 ⊢
  obtain ⟨g1, hG⟩ : ∃ G, w.heap.size = G := ⟨_, rfl⟩
  rw [hG] at hx1 HN12 HG2 ⊢
  have HG := Lib.hid hG
  have HB := Lib.hid hb1
  have HX1 := Lib.hid hx1
  have HX2 := Lib.hid hx2
  clear hb1 hx1 hx2 hG
  have k0 := cell_of_heap HX1.out 0
  have kf0 := frozen_of_heap HX1.out 0
  have k1 := cell_of_heap HX1.out 1
  have kf1 := frozen_of_heap HX1.out 1
  have k2 := cell_of_heap HX1.out 2
  have kf2 := frozen_of_heap HX1.out 2
  simp only [List.getElem?_toArray, List.getElem?_cons_zero, List.getElem?_cons_succ] at k0 k1 k2
  have z0 := cell_of_heap HX2.out 0
  have zf0 := frozen_of_heap HX2.out 0
  have z1 := cell_of_heap HX2.out 1
  have zf1 := frozen_of_heap HX2.out 1
  have z2 := cell_of_heap HX2.out 2
  have zf2 := frozen_of_heap HX2.out 2
  simp only [List.getElem?_toArray, List.getElem?_cons_zero, List.getElem?_cons_succ] at z0 z1 z2
  go_wp2_with (first | (go_at_call 31; ((with_reducible refine (rthere_lit (HM.out.bel HB.out) HO.out HT.out _).mono ?_); rintro e wa ⟨rfl, hbz⟩; have HB := Lib.hid (HB.out.trans hbz); have HX1 := Lib.hid (hbz.stays HX1.out); have HX2 := Lib.hid (hbz.stays HX2.out); have k0 := cell_of_heap HX1.out 0; have kf0 := frozen_of_heap HX1.out 0; have k1 := cell_of_heap HX1.out 1; have kf1 := frozen_of_heap HX1.out 1; have k2 := cell_of_heap HX1.out 2; have kf2 := frozen_of_heap HX1.out 2; simp only [List.getElem?_toArray, List.getElem?_cons_zero, List.getElem?_cons_succ] at k0 k1 k2; have z0 := cell_of_heap HX2.out 0; have zf0 := frozen_of_heap HX2.out 0; have z1 := cell_of_heap HX2.out 1; have zf1 := frozen_of_heap HX2.out 1; have z2 := cell_of_heap HX2.out 2; have zf2 := frozen_of_heap HX2.out 2; simp only [List.getElem?_toArray, List.getElem?_cons_zero, List.getElem?_cons_succ] at z0 z1 z2; clear hbz)))
  have hs3 : Svg g2 wa (((wa.setCell ⟨g2, 0, none⟩ (.slice none 0 0)).setCell ⟨g2, 1, none⟩ (.slice none 0 0)).setCell ⟨g2, 2, none⟩ (.slice none 0 0)) := set3_svg _ _ _ _ _
  have hh := set3_heap HX2.out (.slice none 0 0) (.slice none 0 0) (.slice none 0 0)
  exact bodyPost_ret (results_slot_cell_slot Try.results23 _ _ g2 _ _ _ _ _ _ rfl rfl rfl hh Try.underlying27 rfl (by kernel_rfl)) rfl ⟨nilM, rfl, hs3.bel HB.out (by have := HG.out; have := HG2.out; omega), MemAt.zero _ _⟩
theorem rlevel_val {op r : Int} (h : level op = r) (w : World) : Calls Try.prog 45 #[.int .i64 op] w fun e w' => e = .returned (.int .i64 r) ∧ Bel w w' := by
  subst h
  exact (rlevel_any op w).mono fun e w' h => ⟨h.1, h.2.1⟩
set_option maxRecDepth 100000 in
set_option maxHeartbeats 2000000 in
theorem rchg_1 {w : World} {base : Nat} {v : Mv} {m : Mem} (hm : MemAt base w v m) (ho : Ok m) {h : Nat} {a op n : Int} (hh : isH m (h : Int) = true) (hw : isW m a = true) (hn : op ≠ 0) (hlv : level op = 0) :
    Calls Try.prog 23 #[.agg #[.slice v.w.p v.w.n v.w.c, .slice v.p.p v.p.n v.p.c, .slice v.r.p v.r.n v.r.c], .int .i64 (h : Int), .int .i64 a, .int .i64 op, .int .i64 n] w (Told3 (.int .i64 0) zero 1 w) := by
  obtain ⟨hb1, hx1, hx2⟩ := box2 w #[.slice v.w.p v.w.n v.w.c, .slice v.p.p v.p.n v.p.c, .slice v.r.p v.r.n v.r.c] 27 #[.slice none 0 0, .slice none 0 0, .slice none 0 0] 27
  have HM := Lib.hid hm
  have HO := Lib.hid ho
  have HH := Lib.hid hh
  have HW := Lib.hid hw
  have HN0 := Lib.hid hn
  have HLV := Lib.hid hlv
  clear hm ho hh hw hn hlv
  go_enter Try.func23, Try.ntmps23
  go_upto_region 1 with (fail)
  generalize hW1 : ((w.alloc (.cells #[.slice v.w.p v.w.n v.w.c, .slice v.p.p v.p.n v.p.c, .slice v.r.p v.r.n v.r.c] 27)).alloc (.cells #[.slice none 0 0, .slice none 0 0, .slice none 0 0] 27)) = W1 at hb1 hx1 hx2 ⊢
  clear hW1
  have HN12 : Hid (w.heap.size ≠ w.heap.size + 1) := Lib.hid (by omega)
  have HG2 : Hid (w.heap.size ≤ w.heap.size + 1) := Lib.hid (by omega)
  generalize w.heap.size + 1 = g2 at hx2 HN12 HG2 ⊢
  obtain ⟨g1, hG⟩ : ∃ G, w.heap.size = G := ⟨_, rfl⟩
  rw [hG] at hx1 HN12 HG2 ⊢
  have HG := Lib.hid hG
  have HB := Lib.hid hb1
  have HX1 := Lib.hid hx1
  have HX2 := Lib.hid hx2
  clear hb1 hx1 hx2 hG
  have k0 := cell_of_heap HX1.out 0
  have kf0 := frozen_of_heap HX1.out 0
  have k1 := cell_of_heap HX1.out 1
  have kf1 := frozen_of_heap HX1.out 1
  have k2 := cell_of_heap HX1.out 2
  have kf2 := frozen_of_heap HX1.out 2
  simp only [List.getElem?_toArray, List.getElem?_cons_zero, List.getElem?_cons_succ] at k0 k1 k2
  have z0 := cell_of_heap HX2.out 0
  have zf0 := frozen_of_heap HX2.out 0
  have z1 := cell_of_heap HX2.out 1
  have zf1 := frozen_of_heap HX2.out 1
  have z2 := cell_of_heap HX2.out 2
  have zf2 := frozen_of_heap HX2.out 2
  simp only [List.getElem?_toArray, List.getElem?_cons_zero, List.getElem?_cons_succ] at z0 z1 z2
  have HT : Hid ((isH m (h : Int) && isW m a) = true) := Lib.hid (by rw [HH.out, HW.out]; rfl)
  have hq : (op != 0) = true := by simp [HN0.out]
  have hq2 : ((0 : Int) == 0) = true := rfl
  go_wp2_with (first | (go_at_call 31; ((with_reducible refine (rthere_lit (HM.out.bel HB.out) HO.out HT.out _).mono ?_); rintro e wa ⟨rfl, hbz⟩; have HB := Lib.hid (HB.out.trans hbz); have HX1 := Lib.hid (hbz.stays HX1.out); have HX2 := Lib.hid (hbz.stays HX2.out); have k0 := cell_of_heap HX1.out 0; have kf0 := frozen_of_heap HX1.out 0; have k1 := cell_of_heap HX1.out 1; have kf1 := frozen_of_heap HX1.out 1; have k2 := cell_of_heap HX1.out 2; have kf2 := frozen_of_heap HX1.out 2; simp only [List.getElem?_toArray, List.getElem?_cons_zero, List.getElem?_cons_succ] at k0 k1 k2; have z0 := cell_of_heap HX2.out 0; have zf0 := frozen_of_heap HX2.out 0; have z1 := cell_of_heap HX2.out 1; have zf1 := frozen_of_heap HX2.out 1; have z2 := cell_of_heap HX2.out 2; have zf2 := frozen_of_heap HX2.out 2; simp only [List.getElem?_toArray, List.getElem?_cons_zero, List.getElem?_cons_succ] at z0 z1 z2; clear hbz)) | (go_at_call 45; ((with_reducible refine (rlevel_val HLV.out _).mono ?_); rintro e wb ⟨rfl, hbz⟩; have HB := Lib.hid (HB.out.trans hbz); have HX1 := Lib.hid (hbz.stays HX1.out); have HX2 := Lib.hid (hbz.stays HX2.out); have k0 := cell_of_heap HX1.out 0; have kf0 := frozen_of_heap HX1.out 0; have k1 := cell_of_heap HX1.out 1; have kf1 := frozen_of_heap HX1.out 1; have k2 := cell_of_heap HX1.out 2; have kf2 := frozen_of_heap HX1.out 2; simp only [List.getElem?_toArray, List.getElem?_cons_zero, List.getElem?_cons_succ] at k0 k1 k2; have z0 := cell_of_heap HX2.out 0; have zf0 := frozen_of_heap HX2.out 0; have z1 := cell_of_heap HX2.out 1; have zf1 := frozen_of_heap HX2.out 1; have z2 := cell_of_heap HX2.out 2; have zf2 := frozen_of_heap HX2.out 2; simp only [List.getElem?_toArray, List.getElem?_cons_zero, List.getElem?_cons_succ] at z0 z1 z2; clear hbz)))
  have hs3 : Svg g2 wb (((wb.setCell ⟨g2, 0, none⟩ (.slice none 0 0)).setCell ⟨g2, 1, none⟩ (.slice none 0 0)).setCell ⟨g2, 2, none⟩ (.slice none 0 0)) := set3_svg _ _ _ _ _
  have hh := set3_heap HX2.out (.slice none 0 0) (.slice none 0 0) (.slice none 0 0)
  exact bodyPost_ret (results_slot_cell_slot Try.results23 _ _ g2 _ _ _ _ _ _ rfl rfl rfl hh Try.underlying27 rfl (by kernel_rfl)) rfl ⟨nilM, rfl, hs3.bel HB.out (by have := HG.out; have := HG2.out; omega), MemAt.zero _ _⟩
set_option maxRecDepth 100000 in
set_option maxHeartbeats 2000000 in
theorem rchg_2 {w : World} {base : Nat} {v : Mv} {m : Mem} (hm : MemAt base w v m) (ho : Ok m) {h : Nat} {a n : Int} (hh : isH m (h : Int) = true) (hw : isW m a = true) (hl : 0 < (row m (h : Int)).length) :
    Calls Try.prog 23 #[.agg #[.slice v.w.p v.w.n v.w.c, .slice v.p.p v.p.n v.p.c, .slice v.r.p v.r.n v.r.c], .int .i64 (h : Int), .int .i64 a, .int .i64 0, .int .i64 n] w (Told3 (.int .i64 0) zero 92 w) := by
  obtain ⟨hb1, hx1, hx2⟩ := box2 w #[.slice v.w.p v.w.n v.w.c, .slice v.p.p v.p.n v.p.c, .slice v.r.p v.r.n v.r.c] 27 #[.slice none 0 0, .slice none 0 0, .slice none 0 0] 27
  have HM := Lib.hid hm
  have HO := Lib.hid ho
  have HH := Lib.hid hh
  have HW := Lib.hid hw
  have HLN := Lib.hid hl
  clear hm ho hh hw hl
  go_enter Try.func23, Try.ntmps23
  go_upto_region 1 with (fail)
  generalize hW1 : ((w.alloc (.cells #[.slice v.w.p v.w.n v.w.c, .slice v.p.p v.p.n v.p.c, .slice v.r.p v.r.n v.r.c] 27)).alloc (.cells #[.slice none 0 0, .slice none 0 0, .slice none 0 0] 27)) = W1 at hb1 hx1 hx2 ⊢
  clear hW1
  have HN12 : Hid (w.heap.size ≠ w.heap.size + 1) := Lib.hid (by omega)
  have HG2 : Hid (w.heap.size ≤ w.heap.size + 1) := Lib.hid (by omega)
  generalize w.heap.size + 1 = g2 at hx2 HN12 HG2 ⊢
  obtain ⟨g1, hG⟩ : ∃ G, w.heap.size = G := ⟨_, rfl⟩
  rw [hG] at hx1 HN12 HG2 ⊢
  have HG := Lib.hid hG
  have HB := Lib.hid hb1
  have HX1 := Lib.hid hx1
  have HX2 := Lib.hid hx2
  clear hb1 hx1 hx2 hG
  have k0 := cell_of_heap HX1.out 0
  have kf0 := frozen_of_heap HX1.out 0
  have k1 := cell_of_heap HX1.out 1
  have kf1 := frozen_of_heap HX1.out 1
  have k2 := cell_of_heap HX1.out 2
  have kf2 := frozen_of_heap HX1.out 2
  simp only [List.getElem?_toArray, List.getElem?_cons_zero, List.getElem?_cons_succ] at k0 k1 k2
  have z0 := cell_of_heap HX2.out 0
  have zf0 := frozen_of_heap HX2.out 0
  have z1 := cell_of_heap HX2.out 1
  have zf1 := frozen_of_heap HX2.out 1
  have z2 := cell_of_heap HX2.out 2
  have zf2 := frozen_of_heap HX2.out 2
  simp only [List.getElem?_toArray, List.getElem?_cons_zero, List.getElem?_cons_succ] at z0 z1 z2
  have HT : Hid ((isH m (h : Int) && isW m a) = true) := Lib.hid (by rw [HH.out, HW.out]; rfl)
  go_upto_region 4 with (first | (go_at_call 31; ((with_reducible refine (rthere_lit (HM.out.bel HB.out) HO.out HT.out _).mono ?_); rintro e wa ⟨rfl, hbz⟩; have HB := Lib.hid (HB.out.trans hbz); have HX1 := Lib.hid (hbz.stays HX1.out); have HX2 := Lib.hid (hbz.stays HX2.out); have k0 := cell_of_heap HX1.out 0; have kf0 := frozen_of_heap HX1.out 0; have k1 := cell_of_heap HX1.out 1; have kf1 := frozen_of_heap HX1.out 1; have k2 := cell_of_heap HX1.out 2; have kf2 := frozen_of_heap HX1.out 2; simp only [List.getElem?_toArray, List.getElem?_cons_zero, List.getElem?_cons_succ] at k0 k1 k2; have z0 := cell_of_heap HX2.out 0; have zf0 := frozen_of_heap HX2.out 0; have z1 := cell_of_heap HX2.out 1; have zf1 := frozen_of_heap HX2.out 1; have z2 := cell_of_heap HX2.out 2; have zf2 := frozen_of_heap HX2.out 2; simp only [List.getElem?_toArray, List.getElem?_cons_zero, List.getElem?_cons_succ] at z0 z1 z2; clear hbz)))
  obtain ⟨bp, csp, s0, ep, _, hhp, hlep, hltp, hcp, _, _, hrp⟩ := (HM.out.bel HB.out).hart HH.out
  have HEP := Lib.hid ep
  have hnp : s0.n = (row m (h : Int)).length := ERow.n hrp
  rw [ep] at k1
  have hlp : (h : Int) < v.p.n := by omega
  have hls : (0 : Int) < s0.n := by have := HLN.out; omega
  have hls2 : (s0.n : Int) > 0 := hls
  clear hhp hrp hnp
  go_wp2_with (fail)
  have hs3 : Svg g2 wa (((wa.setCell ⟨g2, 0, none⟩ (.slice none 0 0)).setCell ⟨g2, 1, none⟩ (.slice none 0 0)).setCell ⟨g2, 2, none⟩ (.slice none 0 0)) := set3_svg _ _ _ _ _
  have hh := set3_heap HX2.out (.slice none 0 0) (.slice none 0 0) (.slice none 0 0)
  exact bodyPost_ret (results_slot_cell_slot Try.results23 _ _ g2 _ _ _ _ _ _ rfl rfl rfl hh Try.underlying27 rfl (by kernel_rfl)) rfl ⟨nilM, rfl, hs3.bel HB.out (by have := HG.out; have := HG2.out; omega), MemAt.zero _ _⟩
set_option maxRecDepth 100000 in
set_option maxHeartbeats 2000000 in
theorem rchg_2b {w : World} {base : Nat} {v : Mv} {m : Mem} (hm : MemAt base w v m) (ho : Ok m) {h : Nat} {a n op lv : Int} (hh : isH m (h : Int) = true) (hw : isW m a = true) (hl : 0 < (row m (h : Int)).length) (hn : op ≠ 0) (hlv : level op = lv) (hl0 : lv ≠ 0) :
    Calls Try.prog 23 #[.agg #[.slice v.w.p v.w.n v.w.c, .slice v.p.p v.p.n v.p.c, .slice v.r.p v.r.n v.r.c], .int .i64 (h : Int), .int .i64 a, .int .i64 op, .int .i64 n] w (Told3 (.int .i64 0) zero 92 w) := by
  obtain ⟨hb1, hx1, hx2⟩ := box2 w #[.slice v.w.p v.w.n v.w.c, .slice v.p.p v.p.n v.p.c, .slice v.r.p v.r.n v.r.c] 27 #[.slice none 0 0, .slice none 0 0, .slice none 0 0] 27
  have HM := Lib.hid hm
  have HO := Lib.hid ho
  have HH := Lib.hid hh
  have HW := Lib.hid hw
  have HLN := Lib.hid hl
  have HN0 := Lib.hid hn
  have HLV := Lib.hid hlv
  have HL0 := Lib.hid hl0
  clear hm ho hh hw hl hn hlv hl0
  go_enter Try.func23, Try.ntmps23
  go_upto_region 1 with (fail)
  generalize hW1 : ((w.alloc (.cells #[.slice v.w.p v.w.n v.w.c, .slice v.p.p v.p.n v.p.c, .slice v.r.p v.r.n v.r.c] 27)).alloc (.cells #[.slice none 0 0, .slice none 0 0, .slice none 0 0] 27)) = W1 at hb1 hx1 hx2 ⊢
  clear hW1
  have HN12 : Hid (w.heap.size ≠ w.heap.size + 1) := Lib.hid (by omega)
  have HG2 : Hid (w.heap.size ≤ w.heap.size + 1) := Lib.hid (by omega)
  generalize w.heap.size + 1 = g2 at hx2 HN12 HG2 ⊢
  obtain ⟨g1, hG⟩ : ∃ G, w.heap.size = G := ⟨_, rfl⟩
  rw [hG] at hx1 HN12 HG2 ⊢
  have HG := Lib.hid hG
  have HB := Lib.hid hb1
  have HX1 := Lib.hid hx1
  have HX2 := Lib.hid hx2
  clear hb1 hx1 hx2 hG
  have k0 := cell_of_heap HX1.out 0
  have kf0 := frozen_of_heap HX1.out 0
  have k1 := cell_of_heap HX1.out 1
  have kf1 := frozen_of_heap HX1.out 1
  have k2 := cell_of_heap HX1.out 2
  have kf2 := frozen_of_heap HX1.out 2
  simp only [List.getElem?_toArray, List.getElem?_cons_zero, List.getElem?_cons_succ] at k0 k1 k2
  have z0 := cell_of_heap HX2.out 0
  have zf0 := frozen_of_heap HX2.out 0
  have z1 := cell_of_heap HX2.out 1
  have zf1 := frozen_of_heap HX2.out 1
  have z2 := cell_of_heap HX2.out 2
  have zf2 := frozen_of_heap HX2.out 2
  simp only [List.getElem?_toArray, List.getElem?_cons_zero, List.getElem?_cons_succ] at z0 z1 z2
  have HT : Hid ((isH m (h : Int) && isW m a) = true) := Lib.hid (by rw [HH.out, HW.out]; rfl)
  have hq : (op != 0) = true := by simp [HN0.out]
  have hq2 : (lv == 0) = false := by simp [HL0.out]
  go_upto_region 4 with (first | (go_at_call 31; ((with_reducible refine (rthere_lit (HM.out.bel HB.out) HO.out HT.out _).mono ?_); rintro e wa ⟨rfl, hbz⟩; have HB := Lib.hid (HB.out.trans hbz); have HX1 := Lib.hid (hbz.stays HX1.out); have HX2 := Lib.hid (hbz.stays HX2.out); have k0 := cell_of_heap HX1.out 0; have kf0 := frozen_of_heap HX1.out 0; have k1 := cell_of_heap HX1.out 1; have kf1 := frozen_of_heap HX1.out 1; have k2 := cell_of_heap HX1.out 2; have kf2 := frozen_of_heap HX1.out 2; simp only [List.getElem?_toArray, List.getElem?_cons_zero, List.getElem?_cons_succ] at k0 k1 k2; have z0 := cell_of_heap HX2.out 0; have zf0 := frozen_of_heap HX2.out 0; have z1 := cell_of_heap HX2.out 1; have zf1 := frozen_of_heap HX2.out 1; have z2 := cell_of_heap HX2.out 2; have zf2 := frozen_of_heap HX2.out 2; simp only [List.getElem?_toArray, List.getElem?_cons_zero, List.getElem?_cons_succ] at z0 z1 z2; clear hbz)) | (go_at_call 45; ((with_reducible refine (rlevel_val HLV.out _).mono ?_); rintro e wb ⟨rfl, hbz⟩; have HB := Lib.hid (HB.out.trans hbz); have HX1 := Lib.hid (hbz.stays HX1.out); have HX2 := Lib.hid (hbz.stays HX2.out); have k0 := cell_of_heap HX1.out 0; have kf0 := frozen_of_heap HX1.out 0; have k1 := cell_of_heap HX1.out 1; have kf1 := frozen_of_heap HX1.out 1; have k2 := cell_of_heap HX1.out 2; have kf2 := frozen_of_heap HX1.out 2; simp only [List.getElem?_toArray, List.getElem?_cons_zero, List.getElem?_cons_succ] at k0 k1 k2; have z0 := cell_of_heap HX2.out 0; have zf0 := frozen_of_heap HX2.out 0; have z1 := cell_of_heap HX2.out 1; have zf1 := frozen_of_heap HX2.out 1; have z2 := cell_of_heap HX2.out 2; have zf2 := frozen_of_heap HX2.out 2; simp only [List.getElem?_toArray, List.getElem?_cons_zero, List.getElem?_cons_succ] at z0 z1 z2; clear hbz)))
  obtain ⟨bp, csp, s0, ep, _, hhp, hlep, hltp, hcp, _, _, hrp⟩ := (HM.out.bel HB.out).hart HH.out
  have HEP := Lib.hid ep
  have hnp : s0.n = (row m (h : Int)).length := ERow.n hrp
  rw [ep] at k1
  have hlp : (h : Int) < v.p.n := by omega
  have hls : (0 : Int) < s0.n := by have := HLN.out; omega
  have hls2 : (s0.n : Int) > 0 := hls
  clear hhp hrp hnp
  go_wp2_with (fail)
  have hs3 : Svg g2 wb (((wb.setCell ⟨g2, 0, none⟩ (.slice none 0 0)).setCell ⟨g2, 1, none⟩ (.slice none 0 0)).setCell ⟨g2, 2, none⟩ (.slice none 0 0)) := set3_svg _ _ _ _ _
  have hh := set3_heap HX2.out (.slice none 0 0) (.slice none 0 0) (.slice none 0 0)
  exact bodyPost_ret (results_slot_cell_slot Try.results23 _ _ g2 _ _ _ _ _ _ rfl rfl rfl hh Try.underlying27 rfl (by kernel_rfl)) rfl ⟨nilM, rfl, hs3.bel HB.out (by have := HG.out; have := HG2.out; omega), MemAt.zero _ _⟩
set_option maxHeartbeats 4000000 in
set_option maxRecDepth 100000 in
set_option maxHeartbeats 2000000 in
theorem rchg_3 {w : World} {base : Nat} {v : Mv} {m : Mem} (hm : MemAt base w v m) (ho : Ok m) {h a : Nat} {n xx : Int} (hh : isH m (h : Int) = true) (hw : isW m (a : Int) = true) (hl : (row m (h : Int)).length = 0) (hxx : wrap32 n = xx) :
    Calls Try.prog 23 #[.agg #[.slice v.w.p v.w.n v.w.c, .slice v.p.p v.p.n v.p.c, .slice v.r.p v.r.n v.r.c], .int .i64 (h : Int), .int .i64 (a : Int), .int .i64 0, .int .i64 n] w (Told3 (.int .i64 (wordN m a)) (arr m h a xx) 0 w) := by
  obtain ⟨hb1, hx1, hx2⟩ := box2 w #[.slice v.w.p v.w.n v.w.c, .slice v.p.p v.p.n v.p.c, .slice v.r.p v.r.n v.r.c] 27 #[.slice none 0 0, .slice none 0 0, .slice none 0 0] 27
  have HM := Lib.hid hm
  have HO := Lib.hid ho
  have HH := Lib.hid hh
  have HW := Lib.hid hw
  have HLN := Lib.hid hl
  have HXX := Lib.hid hxx
  clear hxx
  clear hm ho hh hw hl
  go_enter Try.func23, Try.ntmps23
  go_upto_region 1 with (fail)
  generalize hW1 : ((w.alloc (.cells #[.slice v.w.p v.w.n v.w.c, .slice v.p.p v.p.n v.p.c, .slice v.r.p v.r.n v.r.c] 27)).alloc (.cells #[.slice none 0 0, .slice none 0 0, .slice none 0 0] 27)) = W1 at hb1 hx1 hx2 ⊢
  clear hW1
  have HN12 : Hid (w.heap.size ≠ w.heap.size + 1) := Lib.hid (by omega)
  have HG2 : Hid (w.heap.size ≤ w.heap.size + 1) := Lib.hid (by omega)
  generalize w.heap.size + 1 = g2 at hx2 HN12 HG2 ⊢
  obtain ⟨g1, hG⟩ : ∃ G, w.heap.size = G := ⟨_, rfl⟩
  rw [hG] at hx1 HN12 HG2 ⊢
  have HG := Lib.hid hG
  have HB := Lib.hid hb1
  have HX1 := Lib.hid hx1
  have HX2 := Lib.hid hx2
  clear hb1 hx1 hx2 hG
  have k0 := cell_of_heap HX1.out 0
  have kf0 := frozen_of_heap HX1.out 0
  have k1 := cell_of_heap HX1.out 1
  have kf1 := frozen_of_heap HX1.out 1
  have k2 := cell_of_heap HX1.out 2
  have kf2 := frozen_of_heap HX1.out 2
  simp only [List.getElem?_toArray, List.getElem?_cons_zero, List.getElem?_cons_succ] at k0 k1 k2
  have z0 := cell_of_heap HX2.out 0
  have zf0 := frozen_of_heap HX2.out 0
  have z1 := cell_of_heap HX2.out 1
  have zf1 := frozen_of_heap HX2.out 1
  have z2 := cell_of_heap HX2.out 2
  have zf2 := frozen_of_heap HX2.out 2
  simp only [List.getElem?_toArray, List.getElem?_cons_zero, List.getElem?_cons_succ] at z0 z1 z2
  have HT : Hid ((isH m (h : Int) && isW m (a : Int)) = true) := Lib.hid (by rw [HH.out, HW.out]; rfl)
  go_upto_region 4 with (first | (go_at_call 31; ((with_reducible refine (rthere_lit (HM.out.bel HB.out) HO.out HT.out _).mono ?_); rintro e wa ⟨rfl, hbz⟩; have HB := Lib.hid (HB.out.trans hbz); have HX1 := Lib.hid (hbz.stays HX1.out); have HX2 := Lib.hid (hbz.stays HX2.out); have k0 := cell_of_heap HX1.out 0; have kf0 := frozen_of_heap HX1.out 0; have k1 := cell_of_heap HX1.out 1; have kf1 := frozen_of_heap HX1.out 1; have k2 := cell_of_heap HX1.out 2; have kf2 := frozen_of_heap HX1.out 2; simp only [List.getElem?_toArray, List.getElem?_cons_zero, List.getElem?_cons_succ] at k0 k1 k2; have z0 := cell_of_heap HX2.out 0; have zf0 := frozen_of_heap HX2.out 0; have z1 := cell_of_heap HX2.out 1; have zf1 := frozen_of_heap HX2.out 1; have z2 := cell_of_heap HX2.out 2; have zf2 := frozen_of_heap HX2.out 2; simp only [List.getElem?_toArray, List.getElem?_cons_zero, List.getElem?_cons_succ] at z0 z1 z2; clear hbz)))
  obtain ⟨bp, csp, s0, ep, _, hhp, hlep, hltp, hcp, _, _, hrp⟩ := (HM.out.bel HB.out).hart HH.out
  have HEP := Lib.hid ep
  have hnp : s0.n = (row m (h : Int)).length := ERow.n hrp
  rw [ep] at k1
  have hlp : (h : Int) < v.p.n := by omega
  have hls : ¬ (0 : Int) < s0.n := by have := HLN.out; omega
  have hls2 : ¬ (s0.n : Int) > 0 := hls
  clear hhp hrp hnp
  go_upto_region 6 with (fail)
  rw [← ep] at k1
  clear ep hcp hlep hltp hlp hls hls2
  go_wp2_with fail
  refine (rwrap_any n _).mono ?_
  rintro e wq ⟨rfl, rfl⟩
  obtain ⟨xy, hxy⟩ : ∃ x, wrap32 n = x := ⟨_, rfl⟩
  have HXY := Lib.hid hxy
  rw [hxy]
  clear hxy
  obtain rfl : xx = xy := by rw [← HXY.out]; exact HXX.out.symm
  go_upto_region 9 with (fail)
  clear k0 k1 k2 kf0 kf1 kf2 z0 z1 z2 zf0 zf1 zf2
  generalize Value.bool (decide (0 < s0.n)) = vdd
  obtain ⟨bw, csw, ew, _, hgw, hlew, hltw, cw, _⟩ := (HM.out.bel HB.out).word HW.out
  have HEW := Lib.hid ew
  have HLW := Lib.hid (lt_of_heap hgw)
  have HCW := Lib.hid cw
  have hlv : (a : Int) < v.w.n := by omega
  have hlv2 : (a : Int) < v.w.c := by omega
  clear ew hgw cw hlew hltw
  obtain ⟨wr0, rfl⟩ : ∃ W, W = wa := ⟨_, rfl⟩
  refine wp_region_held_drew (S := fun _ => True) (by kernel_rfl) trivial (fun _ => ?_)
  refine takeD 54 (i := 0) (v := ?v1) rfl rfl (by kernel_rfl) (by kernel_rfl) (by kernel_rfl) (fun _ _ _ h => h) (by kernel_rfl) ?hy1 trivial ?rest1
  case hy1 => (intro w0 hSw; first | (go_simp; done) | (go_simp; with_reducible rfl))
  try simp only [List.setIfInBounds_toArray, List.set_cons_zero, List.set_cons_succ]
  refine takeD 56 (i := 2) (v := ?v2) rfl rfl (by kernel_rfl) (by kernel_rfl) (by kernel_rfl) (fun _ _ _ h => h) (by kernel_rfl) ?hy2 trivial ?rest2
  case hy2 => (intro w0 hSw; first | (go_simp; done) | (go_simp; with_reducible rfl))
  try simp only [List.setIfInBounds_toArray, List.set_cons_zero, List.set_cons_succ]
  refine takeD 60 (i := 6) (v := ?v3) rfl rfl (by kernel_rfl) (by kernel_rfl) (by kernel_rfl) (fun _ _ _ h => h) (by kernel_rfl) ?hy3 trivial ?rest3
  case hy3 => (intro w0 hSw; first | (go_simp; done) | (go_simp; with_reducible rfl))
  try simp only [List.setIfInBounds_toArray, List.set_cons_zero, List.set_cons_succ]
  refine takeD 61 (i := 7) (v := ?v4) rfl rfl (by kernel_rfl) (by kernel_rfl) (by kernel_rfl) (fun _ _ _ h => h) (by kernel_rfl) ?hy4 trivial ?rest4
  case hy4 => (intro w0 hSw; first | (go_simp; done) | (go_simp; with_reducible rfl))
  try simp only [List.setIfInBounds_toArray, List.set_cons_zero, List.set_cons_succ]
  refine takeD 62 (i := 8) (v := ?v5) rfl rfl (by kernel_rfl) (by kernel_rfl) (by kernel_rfl) (fun _ _ _ h => h) (by kernel_rfl) ?hy5 trivial ?rest5
  case hy5 => (intro w0 hSw; first | (go_simp; done) | (go_simp; with_reducible rfl))
  try simp only [List.setIfInBounds_toArray, List.set_cons_zero, List.set_cons_succ]
  refine twoE 55 59 (i1 := 1) (i2 := 5) rfl rfl rfl rfl (by kernel_rfl) (by kernel_rfl) (by kernel_rfl) (fun K hK => ?_) (fun K hK => ?_)
  · try simp only [List.setIfInBounds_toArray, List.set_cons_zero, List.set_cons_succ] at hK
    have c0 := cell_of_heap ((Bel.refl wr0).drew.stays HX1.out) 0
    simp only [List.getElem?_toArray, List.getElem?_cons_zero, List.getElem?_cons_succ] at c0
    rw [HEW.out] at c0
    go_simp
    clear c0
    refine hK _ _ trivial (fun _ => ?_)
    clear hK K
    refine takeD 57 (i := 3) (v := ?v6) rfl rfl (by kernel_rfl) (by kernel_rfl) (by kernel_rfl) (fun _ _ _ h => h) (by kernel_rfl) ?hy6 trivial ?rest6
    case hy6 => (intro w0 hSw; first | (go_simp; done) | (go_simp; with_reducible rfl))
    try simp only [List.setIfInBounds_toArray, List.set_cons_zero, List.set_cons_succ]
    refine twoE 58 59 (i1 := 4) (i2 := 5) rfl rfl rfl rfl (by kernel_rfl) (by kernel_rfl) (by kernel_rfl) (fun K hK => ?_) (fun K hK => ?_)
    · try simp only [List.setIfInBounds_toArray, List.set_cons_zero, List.set_cons_succ] at hK
      have c0 := (Bel.cell (Bel.refl wr0).drew (p := ⟨bw, a, none⟩) HLW.out).trans HCW.out
      go_simp
      clear c0
      refine hK _ _ trivial (fun _ => ?_)
      clear hK K
      refine onlyE 59 (i := 5) rfl rfl (by kernel_rfl) (by kernel_rfl) (fun K hK => ?_)
      try simp only [List.setIfInBounds_toArray, List.set_cons_zero, List.set_cons_succ] at hK
      have c0 := cell_of_heap ((Bel.refl wr0).drew.stays HX1.out) 0
      have c1 := cell_of_heap ((Bel.refl wr0).drew.stays HX1.out) 1
      have c2 := cell_of_heap ((Bel.refl wr0).drew.stays HX1.out) 2
      simp only [List.getElem?_toArray, List.getElem?_cons_zero, List.getElem?_cons_succ] at c0 c1 c2
      go_simp
      clear c0 c1 c2
      refine hK _ _ trivial (fun _ => ?_)
      clear hK K
      refine onlyE 63 (i := 9) rfl rfl (by kernel_rfl) (by kernel_rfl) (fun K hK => ?_)
      try simp only [List.setIfInBounds_toArray, List.set_cons_zero, List.set_cons_succ] at hK
      go_simp
      go_at_call 41
      refine (goes_any (HM.out.bel (HB.out.trans (Bel.refl wr0).drew)) HO.out HW.out HH.out xx).mono ?_
      rintro e w8 ⟨⟨⟨xwp, xwn, xwc⟩, ⟨xpp, xpn, xpc⟩, ⟨xrp, xrn, xrc⟩, xrows⟩, rfl, hb8, hm8⟩
      replace hm8 := MemAt.mono hm8 (show w.heap.size ≤ wr0.drew.heap.size from HB.out.size)
      have HB8 : Hid (Bel wr0 w8) := Lib.hid ((Bel.refl wr0).drew.trans hb8)
      have HM8 := Lib.hid hm8
      clear hb8 hm8
      simp only
      refine hK _ _ trivial (fun _ => ?_)
      clear hK K
      refine takeD 10 (i := 10) (v := ?v7) rfl rfl (by kernel_rfl) (by kernel_rfl) (by kernel_rfl) (fun _ _ _ h => h) (by kernel_rfl) ?hy7 trivial ?rest7
      case hy7 => (intro w0 hSw; first | (go_simp; done) | (go_simp; with_reducible rfl))
      try simp only [List.setIfInBounds_toArray, List.set_cons_zero, List.set_cons_succ]
      refine onlyN (i := 11) rfl rfl (by kernel_rfl) (by kernel_rfl) (fun K hK => ?_)
      have hx := HB8.out.stays HX2.out
      have c0 := cell_of_heap hx 0
      have c1 := cell_of_heap hx 1
      have c2 := cell_of_heap hx 2
      have y0 := frozen_of_heap hx 0
      have y1 := frozen_of_heap hx 1
      have y2 := frozen_of_heap hx 2
      simp only [List.getElem?_toArray, List.getElem?_cons_zero, List.getElem?_cons_succ] at c0 c1 c2
      go_simp
      clear c0 c1 c2 y0 y1 y2 hx
      refine hK undef _ trivial (fun _ => ?_)
      clear hK K
      refine takeD 12 (i := 12) (v := ?v8) rfl rfl (by kernel_rfl) (by kernel_rfl) (by kernel_rfl) (fun _ _ _ h => h) (by kernel_rfl) ?hy8 trivial ?rest8
      case hy8 => (intro w0 hSw; first | (go_simp; done) | (go_simp; with_reducible rfl))
      try simp only [List.setIfInBounds_toArray, List.set_cons_zero, List.set_cons_succ]
      refine wpAnyH_done (by kernel_rfl) ?_ _
      have HX2 := Lib.hid (HB8.out.stays HX2.out)
      have HB := Lib.hid (HB.out.trans HB8.out)
      go_wp2_with fail
      have hs3 : Svg g2 w8 (((w8.setCell ⟨g2, 0, none⟩ (.slice xwp xwn xwc)).setCell ⟨g2, 1, none⟩ (.slice xpp xpn xpc)).setCell ⟨g2, 2, none⟩ (.slice xrp xrn xrc)) := set3_svg _ _ _ _ _
      have hh := set3_heap HX2.out (.slice xwp xwn xwc) (.slice xpp xpn xpc) (.slice xrp xrn xrc)
      exact bodyPost_ret (results_slot_cell_slot Try.results23 _ _ g2 _ _ _ _ _ _ rfl rfl rfl hh Try.underlying27 rfl (by kernel_rfl)) rfl ⟨⟨⟨xwp, xwn, xwc⟩, ⟨xpp, xpn, xpc⟩, ⟨xrp, xrn, xrc⟩, xrows⟩, rfl, hs3.bel HB.out (by have := HG.out; have := HG2.out; omega), (HM8.out).keep hs3 HX2.out (by decide) (by decide) (by decide)⟩
    · try simp only [List.setIfInBounds_toArray, List.set_cons_zero, List.set_cons_succ] at hK
      have c0 := cell_of_heap ((Bel.refl wr0).drew.stays HX1.out) 0
      have c1 := cell_of_heap ((Bel.refl wr0).drew.stays HX1.out) 1
      have c2 := cell_of_heap ((Bel.refl wr0).drew.stays HX1.out) 2
      simp only [List.getElem?_toArray, List.getElem?_cons_zero, List.getElem?_cons_succ] at c0 c1 c2
      go_simp
      clear c0 c1 c2
      refine hK _ _ trivial (fun _ => ?_)
      clear hK K
      refine twoE 58 63 (i1 := 4) (i2 := 9) rfl rfl rfl rfl (by kernel_rfl) (by kernel_rfl) (by kernel_rfl) (fun K hK => ?_) (fun K hK => ?_)
      · try simp only [List.setIfInBounds_toArray, List.set_cons_zero, List.set_cons_succ] at hK
        have c0 := (Bel.cell (Bel.refl wr0).drew (p := ⟨bw, a, none⟩) HLW.out).trans HCW.out
        go_simp
        clear c0
        refine hK _ _ trivial (fun _ => ?_)
        clear hK K
        refine onlyE 63 (i := 9) rfl rfl (by kernel_rfl) (by kernel_rfl) (fun K hK => ?_)
        try simp only [List.setIfInBounds_toArray, List.set_cons_zero, List.set_cons_succ] at hK
        go_simp
        go_at_call 41
        refine (goes_any (HM.out.bel (HB.out.trans (Bel.refl wr0).drew)) HO.out HW.out HH.out xx).mono ?_
        rintro e w8 ⟨⟨⟨xwp, xwn, xwc⟩, ⟨xpp, xpn, xpc⟩, ⟨xrp, xrn, xrc⟩, xrows⟩, rfl, hb8, hm8⟩
        replace hm8 := MemAt.mono hm8 (show w.heap.size ≤ wr0.drew.heap.size from HB.out.size)
        have HB8 : Hid (Bel wr0 w8) := Lib.hid ((Bel.refl wr0).drew.trans hb8)
        have HM8 := Lib.hid hm8
        clear hb8 hm8
        simp only
        refine hK _ _ trivial (fun _ => ?_)
        clear hK K
        refine takeD 10 (i := 10) (v := ?v9) rfl rfl (by kernel_rfl) (by kernel_rfl) (by kernel_rfl) (fun _ _ _ h => h) (by kernel_rfl) ?hy9 trivial ?rest9
        case hy9 => (intro w0 hSw; first | (go_simp; done) | (go_simp; with_reducible rfl))
        try simp only [List.setIfInBounds_toArray, List.set_cons_zero, List.set_cons_succ]
        refine onlyN (i := 11) rfl rfl (by kernel_rfl) (by kernel_rfl) (fun K hK => ?_)
        have hx := HB8.out.stays HX2.out
        have c0 := cell_of_heap hx 0
        have c1 := cell_of_heap hx 1
        have c2 := cell_of_heap hx 2
        have y0 := frozen_of_heap hx 0
        have y1 := frozen_of_heap hx 1
        have y2 := frozen_of_heap hx 2
        simp only [List.getElem?_toArray, List.getElem?_cons_zero, List.getElem?_cons_succ] at c0 c1 c2
        go_simp
        clear c0 c1 c2 y0 y1 y2 hx
        refine hK undef _ trivial (fun _ => ?_)
        clear hK K
        refine takeD 12 (i := 12) (v := ?v10) rfl rfl (by kernel_rfl) (by kernel_rfl) (by kernel_rfl) (fun _ _ _ h => h) (by kernel_rfl) ?hy10 trivial ?rest10
        case hy10 => (intro w0 hSw; first | (go_simp; done) | (go_simp; with_reducible rfl))
        try simp only [List.setIfInBounds_toArray, List.set_cons_zero, List.set_cons_succ]
        refine wpAnyH_done (by kernel_rfl) ?_ _
        have HX2 := Lib.hid (HB8.out.stays HX2.out)
        have HB := Lib.hid (HB.out.trans HB8.out)
        go_wp2_with fail
        have hs3 : Svg g2 w8 (((w8.setCell ⟨g2, 0, none⟩ (.slice xwp xwn xwc)).setCell ⟨g2, 1, none⟩ (.slice xpp xpn xpc)).setCell ⟨g2, 2, none⟩ (.slice xrp xrn xrc)) := set3_svg _ _ _ _ _
        have hh := set3_heap HX2.out (.slice xwp xwn xwc) (.slice xpp xpn xpc) (.slice xrp xrn xrc)
        exact bodyPost_ret (results_slot_cell_slot Try.results23 _ _ g2 _ _ _ _ _ _ rfl rfl rfl hh Try.underlying27 rfl (by kernel_rfl)) rfl ⟨⟨⟨xwp, xwn, xwc⟩, ⟨xpp, xpn, xpc⟩, ⟨xrp, xrn, xrc⟩, xrows⟩, rfl, hs3.bel HB.out (by have := HG.out; have := HG2.out; omega), (HM8.out).keep hs3 HX2.out (by decide) (by decide) (by decide)⟩
      · try simp only [List.setIfInBounds_toArray, List.set_cons_zero, List.set_cons_succ] at hK
        go_simp
        go_at_call 41
        refine (goes_any (HM.out.bel (HB.out.trans (Bel.refl wr0).drew)) HO.out HW.out HH.out xx).mono ?_
        rintro e w8 ⟨⟨⟨xwp, xwn, xwc⟩, ⟨xpp, xpn, xpc⟩, ⟨xrp, xrn, xrc⟩, xrows⟩, rfl, hb8, hm8⟩
        replace hm8 := MemAt.mono hm8 (show w.heap.size ≤ wr0.drew.heap.size from HB.out.size)
        have HB8 : Hid (Bel wr0 w8) := Lib.hid ((Bel.refl wr0).drew.trans hb8)
        have HM8 := Lib.hid hm8
        clear hb8 hm8
        simp only
        refine hK _ _ trivial (fun _ => ?_)
        clear hK K
        refine onlyE 58 (i := 4) rfl rfl (by kernel_rfl) (by kernel_rfl) (fun K hK => ?_)
        try simp only [List.setIfInBounds_toArray, List.set_cons_zero, List.set_cons_succ] at hK
        have c0 := (Bel.cell HB8.out (p := ⟨bw, a, none⟩) HLW.out).trans HCW.out
        go_simp
        clear c0
        refine hK _ _ trivial (fun _ => ?_)
        clear hK K
        refine takeD 10 (i := 10) (v := ?v11) rfl rfl (by kernel_rfl) (by kernel_rfl) (by kernel_rfl) (fun _ _ _ h => h) (by kernel_rfl) ?hy11 trivial ?rest11
        case hy11 => (intro w0 hSw; first | (go_simp; done) | (go_simp; with_reducible rfl))
        try simp only [List.setIfInBounds_toArray, List.set_cons_zero, List.set_cons_succ]
        refine onlyN (i := 11) rfl rfl (by kernel_rfl) (by kernel_rfl) (fun K hK => ?_)
        have hx := HB8.out.stays HX2.out
        have c0 := cell_of_heap hx 0
        have c1 := cell_of_heap hx 1
        have c2 := cell_of_heap hx 2
        have y0 := frozen_of_heap hx 0
        have y1 := frozen_of_heap hx 1
        have y2 := frozen_of_heap hx 2
        simp only [List.getElem?_toArray, List.getElem?_cons_zero, List.getElem?_cons_succ] at c0 c1 c2
        go_simp
        clear c0 c1 c2 y0 y1 y2 hx
        refine hK undef _ trivial (fun _ => ?_)
        clear hK K
        refine takeD 12 (i := 12) (v := ?v12) rfl rfl (by kernel_rfl) (by kernel_rfl) (by kernel_rfl) (fun _ _ _ h => h) (by kernel_rfl) ?hy12 trivial ?rest12
        case hy12 => (intro w0 hSw; first | (go_simp; done) | (go_simp; with_reducible rfl))
        try simp only [List.setIfInBounds_toArray, List.set_cons_zero, List.set_cons_succ]
        refine wpAnyH_done (by kernel_rfl) ?_ _
        have HX2 := Lib.hid (HB8.out.stays HX2.out)
        have HB := Lib.hid (HB.out.trans HB8.out)
        go_wp2_with fail
        have hs3 : Svg g2 w8 (((w8.setCell ⟨g2, 0, none⟩ (.slice xwp xwn xwc)).setCell ⟨g2, 1, none⟩ (.slice xpp xpn xpc)).setCell ⟨g2, 2, none⟩ (.slice xrp xrn xrc)) := set3_svg _ _ _ _ _
        have hh := set3_heap HX2.out (.slice xwp xwn xwc) (.slice xpp xpn xpc) (.slice xrp xrn xrc)
        exact bodyPost_ret (results_slot_cell_slot Try.results23 _ _ g2 _ _ _ _ _ _ rfl rfl rfl hh Try.underlying27 rfl (by kernel_rfl)) rfl ⟨⟨⟨xwp, xwn, xwc⟩, ⟨xpp, xpn, xpc⟩, ⟨xrp, xrn, xrc⟩, xrows⟩, rfl, hs3.bel HB.out (by have := HG.out; have := HG2.out; omega), (HM8.out).keep hs3 HX2.out (by decide) (by decide) (by decide)⟩
  · try simp only [List.setIfInBounds_toArray, List.set_cons_zero, List.set_cons_succ] at hK
    have c0 := cell_of_heap ((Bel.refl wr0).drew.stays HX1.out) 0
    have c1 := cell_of_heap ((Bel.refl wr0).drew.stays HX1.out) 1
    have c2 := cell_of_heap ((Bel.refl wr0).drew.stays HX1.out) 2
    simp only [List.getElem?_toArray, List.getElem?_cons_zero, List.getElem?_cons_succ] at c0 c1 c2
    go_simp
    clear c0 c1 c2
    refine hK _ _ trivial (fun _ => ?_)
    clear hK K
    refine twoE 55 63 (i1 := 1) (i2 := 9) rfl rfl rfl rfl (by kernel_rfl) (by kernel_rfl) (by kernel_rfl) (fun K hK => ?_) (fun K hK => ?_)
    · try simp only [List.setIfInBounds_toArray, List.set_cons_zero, List.set_cons_succ] at hK
      have c0 := cell_of_heap ((Bel.refl wr0).drew.stays HX1.out) 0
      simp only [List.getElem?_toArray, List.getElem?_cons_zero, List.getElem?_cons_succ] at c0
      rw [HEW.out] at c0
      go_simp
      clear c0
      refine hK _ _ trivial (fun _ => ?_)
      clear hK K
      refine takeD 57 (i := 3) (v := ?v13) rfl rfl (by kernel_rfl) (by kernel_rfl) (by kernel_rfl) (fun _ _ _ h => h) (by kernel_rfl) ?hy13 trivial ?rest13
      case hy13 => (intro w0 hSw; first | (go_simp; done) | (go_simp; with_reducible rfl))
      try simp only [List.setIfInBounds_toArray, List.set_cons_zero, List.set_cons_succ]
      refine twoE 58 63 (i1 := 4) (i2 := 9) rfl rfl rfl rfl (by kernel_rfl) (by kernel_rfl) (by kernel_rfl) (fun K hK => ?_) (fun K hK => ?_)
      · try simp only [List.setIfInBounds_toArray, List.set_cons_zero, List.set_cons_succ] at hK
        have c0 := (Bel.cell (Bel.refl wr0).drew (p := ⟨bw, a, none⟩) HLW.out).trans HCW.out
        go_simp
        clear c0
        refine hK _ _ trivial (fun _ => ?_)
        clear hK K
        refine onlyE 63 (i := 9) rfl rfl (by kernel_rfl) (by kernel_rfl) (fun K hK => ?_)
        try simp only [List.setIfInBounds_toArray, List.set_cons_zero, List.set_cons_succ] at hK
        go_simp
        go_at_call 41
        refine (goes_any (HM.out.bel (HB.out.trans (Bel.refl wr0).drew)) HO.out HW.out HH.out xx).mono ?_
        rintro e w8 ⟨⟨⟨xwp, xwn, xwc⟩, ⟨xpp, xpn, xpc⟩, ⟨xrp, xrn, xrc⟩, xrows⟩, rfl, hb8, hm8⟩
        replace hm8 := MemAt.mono hm8 (show w.heap.size ≤ wr0.drew.heap.size from HB.out.size)
        have HB8 : Hid (Bel wr0 w8) := Lib.hid ((Bel.refl wr0).drew.trans hb8)
        have HM8 := Lib.hid hm8
        clear hb8 hm8
        simp only
        refine hK _ _ trivial (fun _ => ?_)
        clear hK K
        refine takeD 10 (i := 10) (v := ?v14) rfl rfl (by kernel_rfl) (by kernel_rfl) (by kernel_rfl) (fun _ _ _ h => h) (by kernel_rfl) ?hy14 trivial ?rest14
        case hy14 => (intro w0 hSw; first | (go_simp; done) | (go_simp; with_reducible rfl))
        try simp only [List.setIfInBounds_toArray, List.set_cons_zero, List.set_cons_succ]
        refine onlyN (i := 11) rfl rfl (by kernel_rfl) (by kernel_rfl) (fun K hK => ?_)
        have hx := HB8.out.stays HX2.out
        have c0 := cell_of_heap hx 0
        have c1 := cell_of_heap hx 1
        have c2 := cell_of_heap hx 2
        have y0 := frozen_of_heap hx 0
        have y1 := frozen_of_heap hx 1
        have y2 := frozen_of_heap hx 2
        simp only [List.getElem?_toArray, List.getElem?_cons_zero, List.getElem?_cons_succ] at c0 c1 c2
        go_simp
        clear c0 c1 c2 y0 y1 y2 hx
        refine hK undef _ trivial (fun _ => ?_)
        clear hK K
        refine takeD 12 (i := 12) (v := ?v15) rfl rfl (by kernel_rfl) (by kernel_rfl) (by kernel_rfl) (fun _ _ _ h => h) (by kernel_rfl) ?hy15 trivial ?rest15
        case hy15 => (intro w0 hSw; first | (go_simp; done) | (go_simp; with_reducible rfl))
        try simp only [List.setIfInBounds_toArray, List.set_cons_zero, List.set_cons_succ]
        refine wpAnyH_done (by kernel_rfl) ?_ _
        have HX2 := Lib.hid (HB8.out.stays HX2.out)
        have HB := Lib.hid (HB.out.trans HB8.out)
        go_wp2_with fail
        have hs3 : Svg g2 w8 (((w8.setCell ⟨g2, 0, none⟩ (.slice xwp xwn xwc)).setCell ⟨g2, 1, none⟩ (.slice xpp xpn xpc)).setCell ⟨g2, 2, none⟩ (.slice xrp xrn xrc)) := set3_svg _ _ _ _ _
        have hh := set3_heap HX2.out (.slice xwp xwn xwc) (.slice xpp xpn xpc) (.slice xrp xrn xrc)
        exact bodyPost_ret (results_slot_cell_slot Try.results23 _ _ g2 _ _ _ _ _ _ rfl rfl rfl hh Try.underlying27 rfl (by kernel_rfl)) rfl ⟨⟨⟨xwp, xwn, xwc⟩, ⟨xpp, xpn, xpc⟩, ⟨xrp, xrn, xrc⟩, xrows⟩, rfl, hs3.bel HB.out (by have := HG.out; have := HG2.out; omega), (HM8.out).keep hs3 HX2.out (by decide) (by decide) (by decide)⟩
      · try simp only [List.setIfInBounds_toArray, List.set_cons_zero, List.set_cons_succ] at hK
        go_simp
        go_at_call 41
        refine (goes_any (HM.out.bel (HB.out.trans (Bel.refl wr0).drew)) HO.out HW.out HH.out xx).mono ?_
        rintro e w8 ⟨⟨⟨xwp, xwn, xwc⟩, ⟨xpp, xpn, xpc⟩, ⟨xrp, xrn, xrc⟩, xrows⟩, rfl, hb8, hm8⟩
        replace hm8 := MemAt.mono hm8 (show w.heap.size ≤ wr0.drew.heap.size from HB.out.size)
        have HB8 : Hid (Bel wr0 w8) := Lib.hid ((Bel.refl wr0).drew.trans hb8)
        have HM8 := Lib.hid hm8
        clear hb8 hm8
        simp only
        refine hK _ _ trivial (fun _ => ?_)
        clear hK K
        refine onlyE 58 (i := 4) rfl rfl (by kernel_rfl) (by kernel_rfl) (fun K hK => ?_)
        try simp only [List.setIfInBounds_toArray, List.set_cons_zero, List.set_cons_succ] at hK
        have c0 := (Bel.cell HB8.out (p := ⟨bw, a, none⟩) HLW.out).trans HCW.out
        go_simp
        clear c0
        refine hK _ _ trivial (fun _ => ?_)
        clear hK K
        refine takeD 10 (i := 10) (v := ?v16) rfl rfl (by kernel_rfl) (by kernel_rfl) (by kernel_rfl) (fun _ _ _ h => h) (by kernel_rfl) ?hy16 trivial ?rest16
        case hy16 => (intro w0 hSw; first | (go_simp; done) | (go_simp; with_reducible rfl))
        try simp only [List.setIfInBounds_toArray, List.set_cons_zero, List.set_cons_succ]
        refine onlyN (i := 11) rfl rfl (by kernel_rfl) (by kernel_rfl) (fun K hK => ?_)
        have hx := HB8.out.stays HX2.out
        have c0 := cell_of_heap hx 0
        have c1 := cell_of_heap hx 1
        have c2 := cell_of_heap hx 2
        have y0 := frozen_of_heap hx 0
        have y1 := frozen_of_heap hx 1
        have y2 := frozen_of_heap hx 2
        simp only [List.getElem?_toArray, List.getElem?_cons_zero, List.getElem?_cons_succ] at c0 c1 c2
        go_simp
        clear c0 c1 c2 y0 y1 y2 hx
        refine hK undef _ trivial (fun _ => ?_)
        clear hK K
        refine takeD 12 (i := 12) (v := ?v17) rfl rfl (by kernel_rfl) (by kernel_rfl) (by kernel_rfl) (fun _ _ _ h => h) (by kernel_rfl) ?hy17 trivial ?rest17
        case hy17 => (intro w0 hSw; first | (go_simp; done) | (go_simp; with_reducible rfl))
        try simp only [List.setIfInBounds_toArray, List.set_cons_zero, List.set_cons_succ]
        refine wpAnyH_done (by kernel_rfl) ?_ _
        have HX2 := Lib.hid (HB8.out.stays HX2.out)
        have HB := Lib.hid (HB.out.trans HB8.out)
        go_wp2_with fail
        have hs3 : Svg g2 w8 (((w8.setCell ⟨g2, 0, none⟩ (.slice xwp xwn xwc)).setCell ⟨g2, 1, none⟩ (.slice xpp xpn xpc)).setCell ⟨g2, 2, none⟩ (.slice xrp xrn xrc)) := set3_svg _ _ _ _ _
        have hh := set3_heap HX2.out (.slice xwp xwn xwc) (.slice xpp xpn xpc) (.slice xrp xrn xrc)
        exact bodyPost_ret (results_slot_cell_slot Try.results23 _ _ g2 _ _ _ _ _ _ rfl rfl rfl hh Try.underlying27 rfl (by kernel_rfl)) rfl ⟨⟨⟨xwp, xwn, xwc⟩, ⟨xpp, xpn, xpc⟩, ⟨xrp, xrn, xrc⟩, xrows⟩, rfl, hs3.bel HB.out (by have := HG.out; have := HG2.out; omega), (HM8.out).keep hs3 HX2.out (by decide) (by decide) (by decide)⟩
    · try simp only [List.setIfInBounds_toArray, List.set_cons_zero, List.set_cons_succ] at hK
      go_simp
      go_at_call 41
      refine (goes_any (HM.out.bel (HB.out.trans (Bel.refl wr0).drew)) HO.out HW.out HH.out xx).mono ?_
      rintro e w8 ⟨⟨⟨xwp, xwn, xwc⟩, ⟨xpp, xpn, xpc⟩, ⟨xrp, xrn, xrc⟩, xrows⟩, rfl, hb8, hm8⟩
      replace hm8 := MemAt.mono hm8 (show w.heap.size ≤ wr0.drew.heap.size from HB.out.size)
      have HB8 : Hid (Bel wr0 w8) := Lib.hid ((Bel.refl wr0).drew.trans hb8)
      have HM8 := Lib.hid hm8
      clear hb8 hm8
      simp only
      refine hK _ _ trivial (fun _ => ?_)
      clear hK K
      refine onlyE 55 (i := 1) rfl rfl (by kernel_rfl) (by kernel_rfl) (fun K hK => ?_)
      try simp only [List.setIfInBounds_toArray, List.set_cons_zero, List.set_cons_succ] at hK
      have c0 := cell_of_heap (HB8.out.stays HX1.out) 0
      simp only [List.getElem?_toArray, List.getElem?_cons_zero, List.getElem?_cons_succ] at c0
      rw [HEW.out] at c0
      go_simp
      clear c0
      refine hK _ _ trivial (fun _ => ?_)
      clear hK K
      refine takeD 57 (i := 3) (v := ?v18) rfl rfl (by kernel_rfl) (by kernel_rfl) (by kernel_rfl) (fun _ _ _ h => h) (by kernel_rfl) ?hy18 trivial ?rest18
      case hy18 => (intro w0 hSw; first | (go_simp; done) | (go_simp; with_reducible rfl))
      try simp only [List.setIfInBounds_toArray, List.set_cons_zero, List.set_cons_succ]
      refine onlyE 58 (i := 4) rfl rfl (by kernel_rfl) (by kernel_rfl) (fun K hK => ?_)
      try simp only [List.setIfInBounds_toArray, List.set_cons_zero, List.set_cons_succ] at hK
      have c0 := (Bel.cell HB8.out (p := ⟨bw, a, none⟩) HLW.out).trans HCW.out
      go_simp
      clear c0
      refine hK _ _ trivial (fun _ => ?_)
      clear hK K
      refine takeD 10 (i := 10) (v := ?v19) rfl rfl (by kernel_rfl) (by kernel_rfl) (by kernel_rfl) (fun _ _ _ h => h) (by kernel_rfl) ?hy19 trivial ?rest19
      case hy19 => (intro w0 hSw; first | (go_simp; done) | (go_simp; with_reducible rfl))
      try simp only [List.setIfInBounds_toArray, List.set_cons_zero, List.set_cons_succ]
      refine onlyN (i := 11) rfl rfl (by kernel_rfl) (by kernel_rfl) (fun K hK => ?_)
      have hx := HB8.out.stays HX2.out
      have c0 := cell_of_heap hx 0
      have c1 := cell_of_heap hx 1
      have c2 := cell_of_heap hx 2
      have y0 := frozen_of_heap hx 0
      have y1 := frozen_of_heap hx 1
      have y2 := frozen_of_heap hx 2
      simp only [List.getElem?_toArray, List.getElem?_cons_zero, List.getElem?_cons_succ] at c0 c1 c2
      go_simp
      clear c0 c1 c2 y0 y1 y2 hx
      refine hK undef _ trivial (fun _ => ?_)
      clear hK K
      refine takeD 12 (i := 12) (v := ?v20) rfl rfl (by kernel_rfl) (by kernel_rfl) (by kernel_rfl) (fun _ _ _ h => h) (by kernel_rfl) ?hy20 trivial ?rest20
      case hy20 => (intro w0 hSw; first | (go_simp; done) | (go_simp; with_reducible rfl))
      try simp only [List.setIfInBounds_toArray, List.set_cons_zero, List.set_cons_succ]
      refine wpAnyH_done (by kernel_rfl) ?_ _
      have HX2 := Lib.hid (HB8.out.stays HX2.out)
      have HB := Lib.hid (HB.out.trans HB8.out)
      go_wp2_with fail
      have hs3 : Svg g2 w8 (((w8.setCell ⟨g2, 0, none⟩ (.slice xwp xwn xwc)).setCell ⟨g2, 1, none⟩ (.slice xpp xpn xpc)).setCell ⟨g2, 2, none⟩ (.slice xrp xrn xrc)) := set3_svg _ _ _ _ _
      have hh := set3_heap HX2.out (.slice xwp xwn xwc) (.slice xpp xpn xpc) (.slice xrp xrn xrc)
      exact bodyPost_ret (results_slot_cell_slot Try.results23 _ _ g2 _ _ _ _ _ _ rfl rfl rfl hh Try.underlying27 rfl (by kernel_rfl)) rfl ⟨⟨⟨xwp, xwn, xwc⟩, ⟨xpp, xpn, xpc⟩, ⟨xrp, xrn, xrc⟩, xrows⟩, rfl, hs3.bel HB.out (by have := HG.out; have := HG2.out; omega), (HM8.out).keep hs3 HX2.out (by decide) (by decide) (by decide)⟩
set_option maxHeartbeats 4000000 in
set_option maxRecDepth 100000 in
set_option maxHeartbeats 2000000 in
theorem rchg_4 {w : World} {base : Nat} {v : Mv} {m : Mem} (hm : MemAt base w v m) (ho : Ok m) {h a : Nat} {n xx op lv : Int} (hh : isH m (h : Int) = true) (hw : isW m (a : Int) = true) (hl : (row m (h : Int)).length = 0) (hn : op ≠ 0) (hlv : level op = lv) (hl0 : lv ≠ 0) (hxx : two op (wordN m a) n = xx) (htw : isTwo op = true) :
    Calls Try.prog 23 #[.agg #[.slice v.w.p v.w.n v.w.c, .slice v.p.p v.p.n v.p.c, .slice v.r.p v.r.n v.r.c], .int .i64 (h : Int), .int .i64 (a : Int), .int .i64 op, .int .i64 n] w (Told3 (.int .i64 (wordN m a)) (arr m h a xx) 0 w) := by
  obtain ⟨hb1, hx1, hx2⟩ := box2 w #[.slice v.w.p v.w.n v.w.c, .slice v.p.p v.p.n v.p.c, .slice v.r.p v.r.n v.r.c] 27 #[.slice none 0 0, .slice none 0 0, .slice none 0 0] 27
  have HM := Lib.hid hm
  have HO := Lib.hid ho
  have HH := Lib.hid hh
  have HW := Lib.hid hw
  have HLN := Lib.hid hl
  have HXX := Lib.hid hxx
  have HTW := Lib.hid htw
  clear hxx htw
  have HN0 := Lib.hid hn
  have HLV := Lib.hid hlv
  have HL0 := Lib.hid hl0
  clear hm ho hh hw hl hn hlv hl0
  go_enter Try.func23, Try.ntmps23
  go_upto_region 1 with (fail)
  generalize hW1 : ((w.alloc (.cells #[.slice v.w.p v.w.n v.w.c, .slice v.p.p v.p.n v.p.c, .slice v.r.p v.r.n v.r.c] 27)).alloc (.cells #[.slice none 0 0, .slice none 0 0, .slice none 0 0] 27)) = W1 at hb1 hx1 hx2 ⊢
  clear hW1
  have HN12 : Hid (w.heap.size ≠ w.heap.size + 1) := Lib.hid (by omega)
  have HG2 : Hid (w.heap.size ≤ w.heap.size + 1) := Lib.hid (by omega)
  generalize w.heap.size + 1 = g2 at hx2 HN12 HG2 ⊢
  obtain ⟨g1, hG⟩ : ∃ G, w.heap.size = G := ⟨_, rfl⟩
  rw [hG] at hx1 HN12 HG2 ⊢
  have HG := Lib.hid hG
  have HB := Lib.hid hb1
  have HX1 := Lib.hid hx1
  have HX2 := Lib.hid hx2
  clear hb1 hx1 hx2 hG
  have k0 := cell_of_heap HX1.out 0
  have kf0 := frozen_of_heap HX1.out 0
  have k1 := cell_of_heap HX1.out 1
  have kf1 := frozen_of_heap HX1.out 1
  have k2 := cell_of_heap HX1.out 2
  have kf2 := frozen_of_heap HX1.out 2
  simp only [List.getElem?_toArray, List.getElem?_cons_zero, List.getElem?_cons_succ] at k0 k1 k2
  have z0 := cell_of_heap HX2.out 0
  have zf0 := frozen_of_heap HX2.out 0
  have z1 := cell_of_heap HX2.out 1
  have zf1 := frozen_of_heap HX2.out 1
  have z2 := cell_of_heap HX2.out 2
  have zf2 := frozen_of_heap HX2.out 2
  simp only [List.getElem?_toArray, List.getElem?_cons_zero, List.getElem?_cons_succ] at z0 z1 z2
  have HT : Hid ((isH m (h : Int) && isW m (a : Int)) = true) := Lib.hid (by rw [HH.out, HW.out]; rfl)
  have hq : (op != 0) = true := by simp [HN0.out]
  have hq2 : (lv == 0) = false := by simp [HL0.out]
  go_upto_region 4 with (first | (go_at_call 31; ((with_reducible refine (rthere_lit (HM.out.bel HB.out) HO.out HT.out _).mono ?_); rintro e wa ⟨rfl, hbz⟩; have HB := Lib.hid (HB.out.trans hbz); have HX1 := Lib.hid (hbz.stays HX1.out); have HX2 := Lib.hid (hbz.stays HX2.out); have k0 := cell_of_heap HX1.out 0; have kf0 := frozen_of_heap HX1.out 0; have k1 := cell_of_heap HX1.out 1; have kf1 := frozen_of_heap HX1.out 1; have k2 := cell_of_heap HX1.out 2; have kf2 := frozen_of_heap HX1.out 2; simp only [List.getElem?_toArray, List.getElem?_cons_zero, List.getElem?_cons_succ] at k0 k1 k2; have z0 := cell_of_heap HX2.out 0; have zf0 := frozen_of_heap HX2.out 0; have z1 := cell_of_heap HX2.out 1; have zf1 := frozen_of_heap HX2.out 1; have z2 := cell_of_heap HX2.out 2; have zf2 := frozen_of_heap HX2.out 2; simp only [List.getElem?_toArray, List.getElem?_cons_zero, List.getElem?_cons_succ] at z0 z1 z2; clear hbz)) | (go_at_call 45; ((with_reducible refine (rlevel_val HLV.out _).mono ?_); rintro e wb ⟨rfl, hbz⟩; have HB := Lib.hid (HB.out.trans hbz); have HX1 := Lib.hid (hbz.stays HX1.out); have HX2 := Lib.hid (hbz.stays HX2.out); have k0 := cell_of_heap HX1.out 0; have kf0 := frozen_of_heap HX1.out 0; have k1 := cell_of_heap HX1.out 1; have kf1 := frozen_of_heap HX1.out 1; have k2 := cell_of_heap HX1.out 2; have kf2 := frozen_of_heap HX1.out 2; simp only [List.getElem?_toArray, List.getElem?_cons_zero, List.getElem?_cons_succ] at k0 k1 k2; have z0 := cell_of_heap HX2.out 0; have zf0 := frozen_of_heap HX2.out 0; have z1 := cell_of_heap HX2.out 1; have zf1 := frozen_of_heap HX2.out 1; have z2 := cell_of_heap HX2.out 2; have zf2 := frozen_of_heap HX2.out 2; simp only [List.getElem?_toArray, List.getElem?_cons_zero, List.getElem?_cons_succ] at z0 z1 z2; clear hbz)))
  obtain ⟨bp, csp, s0, ep, _, hhp, hlep, hltp, hcp, _, _, hrp⟩ := (HM.out.bel HB.out).hart HH.out
  have HEP := Lib.hid ep
  have hnp : s0.n = (row m (h : Int)).length := ERow.n hrp
  rw [ep] at k1
  have hlp : (h : Int) < v.p.n := by omega
  have hls : ¬ (0 : Int) < s0.n := by have := HLN.out; omega
  have hls2 : ¬ (s0.n : Int) > 0 := hls
  clear hhp hrp hnp
  go_upto_region 6 with (fail)
  rw [← ep] at k1
  clear ep hcp hlep hltp hlp hls hls2
  go_wp2_with fail
  refine (rwrap_any n _).mono ?_
  rintro e wq ⟨rfl, rfl⟩
  obtain ⟨xy, hxy⟩ : ∃ x, wrap32 n = x := ⟨_, rfl⟩
  have HXY := Lib.hid hxy
  rw [hxy]
  clear hxy
  go_upto_region 8 with (fail)
  obtain ⟨bw, csw, ew, -, -, hlew, hltw, cw, -⟩ := (HM.out.bel HB.out).word HW.out
  rw [ew] at k0
  have hlv : (a : Int) < v.w.n := by omega
  go_wp2_with fail
  refine (rtwo_val HXX.out HTW.out _).mono ?_
  rintro e wz ⟨rfl, rfl⟩
  rw [← ew] at k0
  clear ew cw hlew hltw hlv csw
  go_upto_region 9 with (fail)
  clear k0 k1 k2 kf0 kf1 kf2 z0 z1 z2 zf0 zf1 zf2
  generalize Value.bool (decide (0 < s0.n)) = vdd
  obtain ⟨bw, csw, ew, _, hgw, hlew, hltw, cw, _⟩ := (HM.out.bel HB.out).word HW.out
  have HEW := Lib.hid ew
  have HLW := Lib.hid (lt_of_heap hgw)
  have HCW := Lib.hid cw
  have hlv : (a : Int) < v.w.n := by omega
  have hlv2 : (a : Int) < v.w.c := by omega
  clear ew hgw cw hlew hltw
  obtain ⟨wr0, rfl⟩ : ∃ W, W = wb := ⟨_, rfl⟩
  refine wp_region_held_drew (S := fun _ => True) (by kernel_rfl) trivial (fun _ => ?_)
  refine takeD 54 (i := 0) (v := ?v21) rfl rfl (by kernel_rfl) (by kernel_rfl) (by kernel_rfl) (fun _ _ _ h => h) (by kernel_rfl) ?hy21 trivial ?rest21
  case hy21 => (intro w0 hSw; first | (go_simp; done) | (go_simp; with_reducible rfl))
  try simp only [List.setIfInBounds_toArray, List.set_cons_zero, List.set_cons_succ]
  refine takeD 56 (i := 2) (v := ?v22) rfl rfl (by kernel_rfl) (by kernel_rfl) (by kernel_rfl) (fun _ _ _ h => h) (by kernel_rfl) ?hy22 trivial ?rest22
  case hy22 => (intro w0 hSw; first | (go_simp; done) | (go_simp; with_reducible rfl))
  try simp only [List.setIfInBounds_toArray, List.set_cons_zero, List.set_cons_succ]
  refine takeD 60 (i := 6) (v := ?v23) rfl rfl (by kernel_rfl) (by kernel_rfl) (by kernel_rfl) (fun _ _ _ h => h) (by kernel_rfl) ?hy23 trivial ?rest23
  case hy23 => (intro w0 hSw; first | (go_simp; done) | (go_simp; with_reducible rfl))
  try simp only [List.setIfInBounds_toArray, List.set_cons_zero, List.set_cons_succ]
  refine takeD 61 (i := 7) (v := ?v24) rfl rfl (by kernel_rfl) (by kernel_rfl) (by kernel_rfl) (fun _ _ _ h => h) (by kernel_rfl) ?hy24 trivial ?rest24
  case hy24 => (intro w0 hSw; first | (go_simp; done) | (go_simp; with_reducible rfl))
  try simp only [List.setIfInBounds_toArray, List.set_cons_zero, List.set_cons_succ]
  refine takeD 62 (i := 8) (v := ?v25) rfl rfl (by kernel_rfl) (by kernel_rfl) (by kernel_rfl) (fun _ _ _ h => h) (by kernel_rfl) ?hy25 trivial ?rest25
  case hy25 => (intro w0 hSw; first | (go_simp; done) | (go_simp; with_reducible rfl))
  try simp only [List.setIfInBounds_toArray, List.set_cons_zero, List.set_cons_succ]
  refine twoE 55 59 (i1 := 1) (i2 := 5) rfl rfl rfl rfl (by kernel_rfl) (by kernel_rfl) (by kernel_rfl) (fun K hK => ?_) (fun K hK => ?_)
  · try simp only [List.setIfInBounds_toArray, List.set_cons_zero, List.set_cons_succ] at hK
    have c0 := cell_of_heap ((Bel.refl wr0).drew.stays HX1.out) 0
    simp only [List.getElem?_toArray, List.getElem?_cons_zero, List.getElem?_cons_succ] at c0
    rw [HEW.out] at c0
    go_simp
    clear c0
    refine hK _ _ trivial (fun _ => ?_)
    clear hK K
    refine takeD 57 (i := 3) (v := ?v26) rfl rfl (by kernel_rfl) (by kernel_rfl) (by kernel_rfl) (fun _ _ _ h => h) (by kernel_rfl) ?hy26 trivial ?rest26
    case hy26 => (intro w0 hSw; first | (go_simp; done) | (go_simp; with_reducible rfl))
    try simp only [List.setIfInBounds_toArray, List.set_cons_zero, List.set_cons_succ]
    refine twoE 58 59 (i1 := 4) (i2 := 5) rfl rfl rfl rfl (by kernel_rfl) (by kernel_rfl) (by kernel_rfl) (fun K hK => ?_) (fun K hK => ?_)
    · try simp only [List.setIfInBounds_toArray, List.set_cons_zero, List.set_cons_succ] at hK
      have c0 := (Bel.cell (Bel.refl wr0).drew (p := ⟨bw, a, none⟩) HLW.out).trans HCW.out
      go_simp
      clear c0
      refine hK _ _ trivial (fun _ => ?_)
      clear hK K
      refine onlyE 59 (i := 5) rfl rfl (by kernel_rfl) (by kernel_rfl) (fun K hK => ?_)
      try simp only [List.setIfInBounds_toArray, List.set_cons_zero, List.set_cons_succ] at hK
      have c0 := cell_of_heap ((Bel.refl wr0).drew.stays HX1.out) 0
      have c1 := cell_of_heap ((Bel.refl wr0).drew.stays HX1.out) 1
      have c2 := cell_of_heap ((Bel.refl wr0).drew.stays HX1.out) 2
      simp only [List.getElem?_toArray, List.getElem?_cons_zero, List.getElem?_cons_succ] at c0 c1 c2
      go_simp
      clear c0 c1 c2
      refine hK _ _ trivial (fun _ => ?_)
      clear hK K
      refine onlyE 63 (i := 9) rfl rfl (by kernel_rfl) (by kernel_rfl) (fun K hK => ?_)
      try simp only [List.setIfInBounds_toArray, List.set_cons_zero, List.set_cons_succ] at hK
      go_simp
      go_at_call 41
      refine (goes_any (HM.out.bel (HB.out.trans (Bel.refl wr0).drew)) HO.out HW.out HH.out xx).mono ?_
      rintro e w8 ⟨⟨⟨xwp, xwn, xwc⟩, ⟨xpp, xpn, xpc⟩, ⟨xrp, xrn, xrc⟩, xrows⟩, rfl, hb8, hm8⟩
      replace hm8 := MemAt.mono hm8 (show w.heap.size ≤ wr0.drew.heap.size from HB.out.size)
      have HB8 : Hid (Bel wr0 w8) := Lib.hid ((Bel.refl wr0).drew.trans hb8)
      have HM8 := Lib.hid hm8
      clear hb8 hm8
      simp only
      refine hK _ _ trivial (fun _ => ?_)
      clear hK K
      refine takeD 10 (i := 10) (v := ?v27) rfl rfl (by kernel_rfl) (by kernel_rfl) (by kernel_rfl) (fun _ _ _ h => h) (by kernel_rfl) ?hy27 trivial ?rest27
      case hy27 => (intro w0 hSw; first | (go_simp; done) | (go_simp; with_reducible rfl))
      try simp only [List.setIfInBounds_toArray, List.set_cons_zero, List.set_cons_succ]
      refine onlyN (i := 11) rfl rfl (by kernel_rfl) (by kernel_rfl) (fun K hK => ?_)
      have hx := HB8.out.stays HX2.out
      have c0 := cell_of_heap hx 0
      have c1 := cell_of_heap hx 1
      have c2 := cell_of_heap hx 2
      have y0 := frozen_of_heap hx 0
      have y1 := frozen_of_heap hx 1
      have y2 := frozen_of_heap hx 2
      simp only [List.getElem?_toArray, List.getElem?_cons_zero, List.getElem?_cons_succ] at c0 c1 c2
      go_simp
      clear c0 c1 c2 y0 y1 y2 hx
      refine hK undef _ trivial (fun _ => ?_)
      clear hK K
      refine takeD 12 (i := 12) (v := ?v28) rfl rfl (by kernel_rfl) (by kernel_rfl) (by kernel_rfl) (fun _ _ _ h => h) (by kernel_rfl) ?hy28 trivial ?rest28
      case hy28 => (intro w0 hSw; first | (go_simp; done) | (go_simp; with_reducible rfl))
      try simp only [List.setIfInBounds_toArray, List.set_cons_zero, List.set_cons_succ]
      refine wpAnyH_done (by kernel_rfl) ?_ _
      have HX2 := Lib.hid (HB8.out.stays HX2.out)
      have HB := Lib.hid (HB.out.trans HB8.out)
      go_wp2_with fail
      have hs3 : Svg g2 w8 (((w8.setCell ⟨g2, 0, none⟩ (.slice xwp xwn xwc)).setCell ⟨g2, 1, none⟩ (.slice xpp xpn xpc)).setCell ⟨g2, 2, none⟩ (.slice xrp xrn xrc)) := set3_svg _ _ _ _ _
      have hh := set3_heap HX2.out (.slice xwp xwn xwc) (.slice xpp xpn xpc) (.slice xrp xrn xrc)
      exact bodyPost_ret (results_slot_cell_slot Try.results23 _ _ g2 _ _ _ _ _ _ rfl rfl rfl hh Try.underlying27 rfl (by kernel_rfl)) rfl ⟨⟨⟨xwp, xwn, xwc⟩, ⟨xpp, xpn, xpc⟩, ⟨xrp, xrn, xrc⟩, xrows⟩, rfl, hs3.bel HB.out (by have := HG.out; have := HG2.out; omega), (HM8.out).keep hs3 HX2.out (by decide) (by decide) (by decide)⟩
    · try simp only [List.setIfInBounds_toArray, List.set_cons_zero, List.set_cons_succ] at hK
      have c0 := cell_of_heap ((Bel.refl wr0).drew.stays HX1.out) 0
      have c1 := cell_of_heap ((Bel.refl wr0).drew.stays HX1.out) 1
      have c2 := cell_of_heap ((Bel.refl wr0).drew.stays HX1.out) 2
      simp only [List.getElem?_toArray, List.getElem?_cons_zero, List.getElem?_cons_succ] at c0 c1 c2
      go_simp
      clear c0 c1 c2
      refine hK _ _ trivial (fun _ => ?_)
      clear hK K
      refine twoE 58 63 (i1 := 4) (i2 := 9) rfl rfl rfl rfl (by kernel_rfl) (by kernel_rfl) (by kernel_rfl) (fun K hK => ?_) (fun K hK => ?_)
      · try simp only [List.setIfInBounds_toArray, List.set_cons_zero, List.set_cons_succ] at hK
        have c0 := (Bel.cell (Bel.refl wr0).drew (p := ⟨bw, a, none⟩) HLW.out).trans HCW.out
        go_simp
        clear c0
        refine hK _ _ trivial (fun _ => ?_)
        clear hK K
        refine onlyE 63 (i := 9) rfl rfl (by kernel_rfl) (by kernel_rfl) (fun K hK => ?_)
        try simp only [List.setIfInBounds_toArray, List.set_cons_zero, List.set_cons_succ] at hK
        go_simp
        go_at_call 41
        refine (goes_any (HM.out.bel (HB.out.trans (Bel.refl wr0).drew)) HO.out HW.out HH.out xx).mono ?_
        rintro e w8 ⟨⟨⟨xwp, xwn, xwc⟩, ⟨xpp, xpn, xpc⟩, ⟨xrp, xrn, xrc⟩, xrows⟩, rfl, hb8, hm8⟩
        replace hm8 := MemAt.mono hm8 (show w.heap.size ≤ wr0.drew.heap.size from HB.out.size)
        have HB8 : Hid (Bel wr0 w8) := Lib.hid ((Bel.refl wr0).drew.trans hb8)
        have HM8 := Lib.hid hm8
        clear hb8 hm8
        simp only
        refine hK _ _ trivial (fun _ => ?_)
        clear hK K
        refine takeD 10 (i := 10) (v := ?v29) rfl rfl (by kernel_rfl) (by kernel_rfl) (by kernel_rfl) (fun _ _ _ h => h) (by kernel_rfl) ?hy29 trivial ?rest29
        case hy29 => (intro w0 hSw; first | (go_simp; done) | (go_simp; with_reducible rfl))
        try simp only [List.setIfInBounds_toArray, List.set_cons_zero, List.set_cons_succ]
        refine onlyN (i := 11) rfl rfl (by kernel_rfl) (by kernel_rfl) (fun K hK => ?_)
        have hx := HB8.out.stays HX2.out
        have c0 := cell_of_heap hx 0
        have c1 := cell_of_heap hx 1
        have c2 := cell_of_heap hx 2
        have y0 := frozen_of_heap hx 0
        have y1 := frozen_of_heap hx 1
        have y2 := frozen_of_heap hx 2
        simp only [List.getElem?_toArray, List.getElem?_cons_zero, List.getElem?_cons_succ] at c0 c1 c2
        go_simp
        clear c0 c1 c2 y0 y1 y2 hx
        refine hK undef _ trivial (fun _ => ?_)
        clear hK K
        refine takeD 12 (i := 12) (v := ?v30) rfl rfl (by kernel_rfl) (by kernel_rfl) (by kernel_rfl) (fun _ _ _ h => h) (by kernel_rfl) ?hy30 trivial ?rest30
        case hy30 => (intro w0 hSw; first | (go_simp; done) | (go_simp; with_reducible rfl))
        try simp only [List.setIfInBounds_toArray, List.set_cons_zero, List.set_cons_succ]
        refine wpAnyH_done (by kernel_rfl) ?_ _
        have HX2 := Lib.hid (HB8.out.stays HX2.out)
        have HB := Lib.hid (HB.out.trans HB8.out)
        go_wp2_with fail
        have hs3 : Svg g2 w8 (((w8.setCell ⟨g2, 0, none⟩ (.slice xwp xwn xwc)).setCell ⟨g2, 1, none⟩ (.slice xpp xpn xpc)).setCell ⟨g2, 2, none⟩ (.slice xrp xrn xrc)) := set3_svg _ _ _ _ _
        have hh := set3_heap HX2.out (.slice xwp xwn xwc) (.slice xpp xpn xpc) (.slice xrp xrn xrc)
        exact bodyPost_ret (results_slot_cell_slot Try.results23 _ _ g2 _ _ _ _ _ _ rfl rfl rfl hh Try.underlying27 rfl (by kernel_rfl)) rfl ⟨⟨⟨xwp, xwn, xwc⟩, ⟨xpp, xpn, xpc⟩, ⟨xrp, xrn, xrc⟩, xrows⟩, rfl, hs3.bel HB.out (by have := HG.out; have := HG2.out; omega), (HM8.out).keep hs3 HX2.out (by decide) (by decide) (by decide)⟩
      · try simp only [List.setIfInBounds_toArray, List.set_cons_zero, List.set_cons_succ] at hK
        go_simp
        go_at_call 41
        refine (goes_any (HM.out.bel (HB.out.trans (Bel.refl wr0).drew)) HO.out HW.out HH.out xx).mono ?_
        rintro e w8 ⟨⟨⟨xwp, xwn, xwc⟩, ⟨xpp, xpn, xpc⟩, ⟨xrp, xrn, xrc⟩, xrows⟩, rfl, hb8, hm8⟩
        replace hm8 := MemAt.mono hm8 (show w.heap.size ≤ wr0.drew.heap.size from HB.out.size)
        have HB8 : Hid (Bel wr0 w8) := Lib.hid ((Bel.refl wr0).drew.trans hb8)
        have HM8 := Lib.hid hm8
        clear hb8 hm8
        simp only
        refine hK _ _ trivial (fun _ => ?_)
        clear hK K
        refine onlyE 58 (i := 4) rfl rfl (by kernel_rfl) (by kernel_rfl) (fun K hK => ?_)
        try simp only [List.setIfInBounds_toArray, List.set_cons_zero, List.set_cons_succ] at hK
        have c0 := (Bel.cell HB8.out (p := ⟨bw, a, none⟩) HLW.out).trans HCW.out
        go_simp
        clear c0
        refine hK _ _ trivial (fun _ => ?_)
        clear hK K
        refine takeD 10 (i := 10) (v := ?v31) rfl rfl (by kernel_rfl) (by kernel_rfl) (by kernel_rfl) (fun _ _ _ h => h) (by kernel_rfl) ?hy31 trivial ?rest31
        case hy31 => (intro w0 hSw; first | (go_simp; done) | (go_simp; with_reducible rfl))
        try simp only [List.setIfInBounds_toArray, List.set_cons_zero, List.set_cons_succ]
        refine onlyN (i := 11) rfl rfl (by kernel_rfl) (by kernel_rfl) (fun K hK => ?_)
        have hx := HB8.out.stays HX2.out
        have c0 := cell_of_heap hx 0
        have c1 := cell_of_heap hx 1
        have c2 := cell_of_heap hx 2
        have y0 := frozen_of_heap hx 0
        have y1 := frozen_of_heap hx 1
        have y2 := frozen_of_heap hx 2
        simp only [List.getElem?_toArray, List.getElem?_cons_zero, List.getElem?_cons_succ] at c0 c1 c2
        go_simp
        clear c0 c1 c2 y0 y1 y2 hx
        refine hK undef _ trivial (fun _ => ?_)
        clear hK K
        refine takeD 12 (i := 12) (v := ?v32) rfl rfl (by kernel_rfl) (by kernel_rfl) (by kernel_rfl) (fun _ _ _ h => h) (by kernel_rfl) ?hy32 trivial ?rest32
        case hy32 => (intro w0 hSw; first | (go_simp; done) | (go_simp; with_reducible rfl))
        try simp only [List.setIfInBounds_toArray, List.set_cons_zero, List.set_cons_succ]
        refine wpAnyH_done (by kernel_rfl) ?_ _
        have HX2 := Lib.hid (HB8.out.stays HX2.out)
        have HB := Lib.hid (HB.out.trans HB8.out)
        go_wp2_with fail
        have hs3 : Svg g2 w8 (((w8.setCell ⟨g2, 0, none⟩ (.slice xwp xwn xwc)).setCell ⟨g2, 1, none⟩ (.slice xpp xpn xpc)).setCell ⟨g2, 2, none⟩ (.slice xrp xrn xrc)) := set3_svg _ _ _ _ _
        have hh := set3_heap HX2.out (.slice xwp xwn xwc) (.slice xpp xpn xpc) (.slice xrp xrn xrc)
        exact bodyPost_ret (results_slot_cell_slot Try.results23 _ _ g2 _ _ _ _ _ _ rfl rfl rfl hh Try.underlying27 rfl (by kernel_rfl)) rfl ⟨⟨⟨xwp, xwn, xwc⟩, ⟨xpp, xpn, xpc⟩, ⟨xrp, xrn, xrc⟩, xrows⟩, rfl, hs3.bel HB.out (by have := HG.out; have := HG2.out; omega), (HM8.out).keep hs3 HX2.out (by decide) (by decide) (by decide)⟩
  · try simp only [List.setIfInBounds_toArray, List.set_cons_zero, List.set_cons_succ] at hK
    have c0 := cell_of_heap ((Bel.refl wr0).drew.stays HX1.out) 0
    have c1 := cell_of_heap ((Bel.refl wr0).drew.stays HX1.out) 1
    have c2 := cell_of_heap ((Bel.refl wr0).drew.stays HX1.out) 2
    simp only [List.getElem?_toArray, List.getElem?_cons_zero, List.getElem?_cons_succ] at c0 c1 c2
    go_simp
    clear c0 c1 c2
    refine hK _ _ trivial (fun _ => ?_)
    clear hK K
    refine twoE 55 63 (i1 := 1) (i2 := 9) rfl rfl rfl rfl (by kernel_rfl) (by kernel_rfl) (by kernel_rfl) (fun K hK => ?_) (fun K hK => ?_)
    · try simp only [List.setIfInBounds_toArray, List.set_cons_zero, List.set_cons_succ] at hK
      have c0 := cell_of_heap ((Bel.refl wr0).drew.stays HX1.out) 0
      simp only [List.getElem?_toArray, List.getElem?_cons_zero, List.getElem?_cons_succ] at c0
      rw [HEW.out] at c0
      go_simp
      clear c0
      refine hK _ _ trivial (fun _ => ?_)
      clear hK K
      refine takeD 57 (i := 3) (v := ?v33) rfl rfl (by kernel_rfl) (by kernel_rfl) (by kernel_rfl) (fun _ _ _ h => h) (by kernel_rfl) ?hy33 trivial ?rest33
      case hy33 => (intro w0 hSw; first | (go_simp; done) | (go_simp; with_reducible rfl))
      try simp only [List.setIfInBounds_toArray, List.set_cons_zero, List.set_cons_succ]
      refine twoE 58 63 (i1 := 4) (i2 := 9) rfl rfl rfl rfl (by kernel_rfl) (by kernel_rfl) (by kernel_rfl) (fun K hK => ?_) (fun K hK => ?_)
      · try simp only [List.setIfInBounds_toArray, List.set_cons_zero, List.set_cons_succ] at hK
        have c0 := (Bel.cell (Bel.refl wr0).drew (p := ⟨bw, a, none⟩) HLW.out).trans HCW.out
        go_simp
        clear c0
        refine hK _ _ trivial (fun _ => ?_)
        clear hK K
        refine onlyE 63 (i := 9) rfl rfl (by kernel_rfl) (by kernel_rfl) (fun K hK => ?_)
        try simp only [List.setIfInBounds_toArray, List.set_cons_zero, List.set_cons_succ] at hK
        go_simp
        go_at_call 41
        refine (goes_any (HM.out.bel (HB.out.trans (Bel.refl wr0).drew)) HO.out HW.out HH.out xx).mono ?_
        rintro e w8 ⟨⟨⟨xwp, xwn, xwc⟩, ⟨xpp, xpn, xpc⟩, ⟨xrp, xrn, xrc⟩, xrows⟩, rfl, hb8, hm8⟩
        replace hm8 := MemAt.mono hm8 (show w.heap.size ≤ wr0.drew.heap.size from HB.out.size)
        have HB8 : Hid (Bel wr0 w8) := Lib.hid ((Bel.refl wr0).drew.trans hb8)
        have HM8 := Lib.hid hm8
        clear hb8 hm8
        simp only
        refine hK _ _ trivial (fun _ => ?_)
        clear hK K
        refine takeD 10 (i := 10) (v := ?v34) rfl rfl (by kernel_rfl) (by kernel_rfl) (by kernel_rfl) (fun _ _ _ h => h) (by kernel_rfl) ?hy34 trivial ?rest34
        case hy34 => (intro w0 hSw; first | (go_simp; done) | (go_simp; with_reducible rfl))
        try simp only [List.setIfInBounds_toArray, List.set_cons_zero, List.set_cons_succ]
        refine onlyN (i := 11) rfl rfl (by kernel_rfl) (by kernel_rfl) (fun K hK => ?_)
        have hx := HB8.out.stays HX2.out
        have c0 := cell_of_heap hx 0
        have c1 := cell_of_heap hx 1
        have c2 := cell_of_heap hx 2
        have y0 := frozen_of_heap hx 0
        have y1 := frozen_of_heap hx 1
        have y2 := frozen_of_heap hx 2
        simp only [List.getElem?_toArray, List.getElem?_cons_zero, List.getElem?_cons_succ] at c0 c1 c2
        go_simp
        clear c0 c1 c2 y0 y1 y2 hx
        refine hK undef _ trivial (fun _ => ?_)
        clear hK K
        refine takeD 12 (i := 12) (v := ?v35) rfl rfl (by kernel_rfl) (by kernel_rfl) (by kernel_rfl) (fun _ _ _ h => h) (by kernel_rfl) ?hy35 trivial ?rest35
        case hy35 => (intro w0 hSw; first | (go_simp; done) | (go_simp; with_reducible rfl))
        try simp only [List.setIfInBounds_toArray, List.set_cons_zero, List.set_cons_succ]
        refine wpAnyH_done (by kernel_rfl) ?_ _
        have HX2 := Lib.hid (HB8.out.stays HX2.out)
        have HB := Lib.hid (HB.out.trans HB8.out)
        go_wp2_with fail
        have hs3 : Svg g2 w8 (((w8.setCell ⟨g2, 0, none⟩ (.slice xwp xwn xwc)).setCell ⟨g2, 1, none⟩ (.slice xpp xpn xpc)).setCell ⟨g2, 2, none⟩ (.slice xrp xrn xrc)) := set3_svg _ _ _ _ _
        have hh := set3_heap HX2.out (.slice xwp xwn xwc) (.slice xpp xpn xpc) (.slice xrp xrn xrc)
        exact bodyPost_ret (results_slot_cell_slot Try.results23 _ _ g2 _ _ _ _ _ _ rfl rfl rfl hh Try.underlying27 rfl (by kernel_rfl)) rfl ⟨⟨⟨xwp, xwn, xwc⟩, ⟨xpp, xpn, xpc⟩, ⟨xrp, xrn, xrc⟩, xrows⟩, rfl, hs3.bel HB.out (by have := HG.out; have := HG2.out; omega), (HM8.out).keep hs3 HX2.out (by decide) (by decide) (by decide)⟩
      · try simp only [List.setIfInBounds_toArray, List.set_cons_zero, List.set_cons_succ] at hK
        go_simp
        go_at_call 41
        refine (goes_any (HM.out.bel (HB.out.trans (Bel.refl wr0).drew)) HO.out HW.out HH.out xx).mono ?_
        rintro e w8 ⟨⟨⟨xwp, xwn, xwc⟩, ⟨xpp, xpn, xpc⟩, ⟨xrp, xrn, xrc⟩, xrows⟩, rfl, hb8, hm8⟩
        replace hm8 := MemAt.mono hm8 (show w.heap.size ≤ wr0.drew.heap.size from HB.out.size)
        have HB8 : Hid (Bel wr0 w8) := Lib.hid ((Bel.refl wr0).drew.trans hb8)
        have HM8 := Lib.hid hm8
        clear hb8 hm8
        simp only
        refine hK _ _ trivial (fun _ => ?_)
        clear hK K
        refine onlyE 58 (i := 4) rfl rfl (by kernel_rfl) (by kernel_rfl) (fun K hK => ?_)
        try simp only [List.setIfInBounds_toArray, List.set_cons_zero, List.set_cons_succ] at hK
        have c0 := (Bel.cell HB8.out (p := ⟨bw, a, none⟩) HLW.out).trans HCW.out
        go_simp
        clear c0
        refine hK _ _ trivial (fun _ => ?_)
        clear hK K
        refine takeD 10 (i := 10) (v := ?v36) rfl rfl (by kernel_rfl) (by kernel_rfl) (by kernel_rfl) (fun _ _ _ h => h) (by kernel_rfl) ?hy36 trivial ?rest36
        case hy36 => (intro w0 hSw; first | (go_simp; done) | (go_simp; with_reducible rfl))
        try simp only [List.setIfInBounds_toArray, List.set_cons_zero, List.set_cons_succ]
        refine onlyN (i := 11) rfl rfl (by kernel_rfl) (by kernel_rfl) (fun K hK => ?_)
        have hx := HB8.out.stays HX2.out
        have c0 := cell_of_heap hx 0
        have c1 := cell_of_heap hx 1
        have c2 := cell_of_heap hx 2
        have y0 := frozen_of_heap hx 0
        have y1 := frozen_of_heap hx 1
        have y2 := frozen_of_heap hx 2
        simp only [List.getElem?_toArray, List.getElem?_cons_zero, List.getElem?_cons_succ] at c0 c1 c2
        go_simp
        clear c0 c1 c2 y0 y1 y2 hx
        refine hK undef _ trivial (fun _ => ?_)
        clear hK K
        refine takeD 12 (i := 12) (v := ?v37) rfl rfl (by kernel_rfl) (by kernel_rfl) (by kernel_rfl) (fun _ _ _ h => h) (by kernel_rfl) ?hy37 trivial ?rest37
        case hy37 => (intro w0 hSw; first | (go_simp; done) | (go_simp; with_reducible rfl))
        try simp only [List.setIfInBounds_toArray, List.set_cons_zero, List.set_cons_succ]
        refine wpAnyH_done (by kernel_rfl) ?_ _
        have HX2 := Lib.hid (HB8.out.stays HX2.out)
        have HB := Lib.hid (HB.out.trans HB8.out)
        go_wp2_with fail
        have hs3 : Svg g2 w8 (((w8.setCell ⟨g2, 0, none⟩ (.slice xwp xwn xwc)).setCell ⟨g2, 1, none⟩ (.slice xpp xpn xpc)).setCell ⟨g2, 2, none⟩ (.slice xrp xrn xrc)) := set3_svg _ _ _ _ _
        have hh := set3_heap HX2.out (.slice xwp xwn xwc) (.slice xpp xpn xpc) (.slice xrp xrn xrc)
        exact bodyPost_ret (results_slot_cell_slot Try.results23 _ _ g2 _ _ _ _ _ _ rfl rfl rfl hh Try.underlying27 rfl (by kernel_rfl)) rfl ⟨⟨⟨xwp, xwn, xwc⟩, ⟨xpp, xpn, xpc⟩, ⟨xrp, xrn, xrc⟩, xrows⟩, rfl, hs3.bel HB.out (by have := HG.out; have := HG2.out; omega), (HM8.out).keep hs3 HX2.out (by decide) (by decide) (by decide)⟩
    · try simp only [List.setIfInBounds_toArray, List.set_cons_zero, List.set_cons_succ] at hK
      go_simp
      go_at_call 41
      refine (goes_any (HM.out.bel (HB.out.trans (Bel.refl wr0).drew)) HO.out HW.out HH.out xx).mono ?_
      rintro e w8 ⟨⟨⟨xwp, xwn, xwc⟩, ⟨xpp, xpn, xpc⟩, ⟨xrp, xrn, xrc⟩, xrows⟩, rfl, hb8, hm8⟩
      replace hm8 := MemAt.mono hm8 (show w.heap.size ≤ wr0.drew.heap.size from HB.out.size)
      have HB8 : Hid (Bel wr0 w8) := Lib.hid ((Bel.refl wr0).drew.trans hb8)
      have HM8 := Lib.hid hm8
      clear hb8 hm8
      simp only
      refine hK _ _ trivial (fun _ => ?_)
      clear hK K
      refine onlyE 55 (i := 1) rfl rfl (by kernel_rfl) (by kernel_rfl) (fun K hK => ?_)
      try simp only [List.setIfInBounds_toArray, List.set_cons_zero, List.set_cons_succ] at hK
      have c0 := cell_of_heap (HB8.out.stays HX1.out) 0
      simp only [List.getElem?_toArray, List.getElem?_cons_zero, List.getElem?_cons_succ] at c0
      rw [HEW.out] at c0
      go_simp
      clear c0
      refine hK _ _ trivial (fun _ => ?_)
      clear hK K
      refine takeD 57 (i := 3) (v := ?v38) rfl rfl (by kernel_rfl) (by kernel_rfl) (by kernel_rfl) (fun _ _ _ h => h) (by kernel_rfl) ?hy38 trivial ?rest38
      case hy38 => (intro w0 hSw; first | (go_simp; done) | (go_simp; with_reducible rfl))
      try simp only [List.setIfInBounds_toArray, List.set_cons_zero, List.set_cons_succ]
      refine onlyE 58 (i := 4) rfl rfl (by kernel_rfl) (by kernel_rfl) (fun K hK => ?_)
      try simp only [List.setIfInBounds_toArray, List.set_cons_zero, List.set_cons_succ] at hK
      have c0 := (Bel.cell HB8.out (p := ⟨bw, a, none⟩) HLW.out).trans HCW.out
      go_simp
      clear c0
      refine hK _ _ trivial (fun _ => ?_)
      clear hK K
      refine takeD 10 (i := 10) (v := ?v39) rfl rfl (by kernel_rfl) (by kernel_rfl) (by kernel_rfl) (fun _ _ _ h => h) (by kernel_rfl) ?hy39 trivial ?rest39
      case hy39 => (intro w0 hSw; first | (go_simp; done) | (go_simp; with_reducible rfl))
      try simp only [List.setIfInBounds_toArray, List.set_cons_zero, List.set_cons_succ]
      refine onlyN (i := 11) rfl rfl (by kernel_rfl) (by kernel_rfl) (fun K hK => ?_)
      have hx := HB8.out.stays HX2.out
      have c0 := cell_of_heap hx 0
      have c1 := cell_of_heap hx 1
      have c2 := cell_of_heap hx 2
      have y0 := frozen_of_heap hx 0
      have y1 := frozen_of_heap hx 1
      have y2 := frozen_of_heap hx 2
      simp only [List.getElem?_toArray, List.getElem?_cons_zero, List.getElem?_cons_succ] at c0 c1 c2
      go_simp
      clear c0 c1 c2 y0 y1 y2 hx
      refine hK undef _ trivial (fun _ => ?_)
      clear hK K
      refine takeD 12 (i := 12) (v := ?v40) rfl rfl (by kernel_rfl) (by kernel_rfl) (by kernel_rfl) (fun _ _ _ h => h) (by kernel_rfl) ?hy40 trivial ?rest40
      case hy40 => (intro w0 hSw; first | (go_simp; done) | (go_simp; with_reducible rfl))
      try simp only [List.setIfInBounds_toArray, List.set_cons_zero, List.set_cons_succ]
      refine wpAnyH_done (by kernel_rfl) ?_ _
      have HX2 := Lib.hid (HB8.out.stays HX2.out)
      have HB := Lib.hid (HB.out.trans HB8.out)
      go_wp2_with fail
      have hs3 : Svg g2 w8 (((w8.setCell ⟨g2, 0, none⟩ (.slice xwp xwn xwc)).setCell ⟨g2, 1, none⟩ (.slice xpp xpn xpc)).setCell ⟨g2, 2, none⟩ (.slice xrp xrn xrc)) := set3_svg _ _ _ _ _
      have hh := set3_heap HX2.out (.slice xwp xwn xwc) (.slice xpp xpn xpc) (.slice xrp xrn xrc)
      exact bodyPost_ret (results_slot_cell_slot Try.results23 _ _ g2 _ _ _ _ _ _ rfl rfl rfl hh Try.underlying27 rfl (by kernel_rfl)) rfl ⟨⟨⟨xwp, xwn, xwc⟩, ⟨xpp, xpn, xpc⟩, ⟨xrp, xrn, xrc⟩, xrows⟩, rfl, hs3.bel HB.out (by have := HG.out; have := HG2.out; omega), (HM8.out).keep hs3 HX2.out (by decide) (by decide) (by decide)⟩
theorem level_two {op : Int} (h : isTwo op = true) : level op ≠ 0 ∧ op ≠ 0 := by
  unfold isTwo at h
  have h := of_decide_eq_true h
  have hk : op = 1 ∨ op = 2 ∨ op = 3 ∨ op = 4 ∨ op = 5 ∨ op = 6 ∨ op = 7 ∨ op = 8 ∨ op = 9 ∨ op = 10 ∨ op = 11 ∨ op = 12 ∨ op = 13 ∨ op = 14 := by omega
  refine ⟨?_, by omega⟩
  rcases hk with rfl | rfl | rfl | rfl | rfl | rfl | rfl | rfl | rfl | rfl | rfl | rfl | rfl | rfl <;> decide
theorem rchange_lit {w : World} {base : Nat} {v : Mv} {m : Mem} (hm : MemAt base w v m) (ho : Ok m) {h a op n x : Int} {m' : Mem} {r : Int} (hr : changeV m h a op n = (x, m', r)) :
    Calls Try.prog 23 #[.agg #[.slice v.w.p v.w.n v.w.c, .slice v.p.p v.p.n v.p.c, .slice v.r.p v.r.n v.r.c], .int .i64 h, .int .i64 a, .int .i64 op, .int .i64 n] w (Told3 (.int .i64 x) m' r w) := by
  unfold changeV at hr
  by_cases ht : (isH m h && isW m a) = true
  · have ht' := ht
    rw [Bool.and_eq_true] at ht
    obtain ⟨hN, rfl⟩ : ∃ hN : Nat, h = hN := ⟨h.toNat, by have := isH_iff.1 ht.1; omega⟩
    obtain ⟨aN, rfl⟩ : ∃ aN : Nat, a = aN := ⟨a.toNat, by have := isW_iff.1 ht.2; omega⟩
    have hb : busy m hN aN = if 0 < (row m hN).length then 92 else 0 := by unfold busy; rw [ht', if_pos rfl]
    by_cases h0 : op = 0
    · subst h0
      rw [if_pos (by simp)] at hr
      by_cases hc : 0 < (row m hN).length
      · rw [hb, if_pos hc, if_neg (by decide)] at hr
        injection hr with h1 h2; injection h2 with h2 h3; rw [← h1, ← h2, ← h3]; exact rchg_2 hm ho ht.1 ht.2 hc
      · rw [hb, if_neg hc, if_pos rfl] at hr
        injection hr with h1 h2; injection h2 with h2 h3; rw [← h1, ← h2, ← h3]; exact rchg_3 hm ho ht.1 ht.2 (by omega) rfl
    · by_cases hT : isTwo op = true
      · obtain ⟨hl0, _⟩ := level_two hT
        rw [if_pos (by rw [hT]; rfl)] at hr
        by_cases hc : 0 < (row m hN).length
        · rw [hb, if_pos hc, if_neg (by decide)] at hr
          injection hr with h1 h2; injection h2 with h2 h3; rw [← h1, ← h2, ← h3]; exact rchg_2b hm ho ht.1 ht.2 hc h0 rfl hl0
        · rw [hb, if_neg hc, if_pos rfl] at hr
          injection hr with h1 h2; injection h2 with h2 h3; rw [← h1, ← h2, ← h3]
          have e : opOf (wordN m aN) op n = two op (wordN m aN) n := by unfold opOf; rw [if_neg h0]
          rw [e]
          exact rchg_4 hm ho ht.1 ht.2 (by omega) h0 rfl hl0 rfl hT
      · rw [if_neg (by simp [hT, h0])] at hr
        injection hr with h1 h2; injection h2 with h2 h3; rw [← h1, ← h2, ← h3]
        exact rchg_1 hm ho ht.1 ht.2 h0 (level_out op (by unfold isTwo at hT; simp only [decide_eq_true_eq] at hT; omega))
  · have hb : busy m h a = 1 := by unfold busy; rw [if_neg ht]
    have e : (0, zero, 1) = (x, m', r) := by
      rw [← hr, hb]
      split <;> rfl
    injection e with h1 h2; injection h2 with h2 h3; rw [← h1, ← h2, ← h3]
    exact rchg_0 hm ho (Bool.eq_false_iff.2 ht)
end Go.Proofs.Ytobpoghophhphaa
