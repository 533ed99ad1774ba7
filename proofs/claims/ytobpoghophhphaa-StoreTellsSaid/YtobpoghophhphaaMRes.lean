/- store.Reserve, Conditional, Change. -/
import Derived.Test.YtobpoghophhphaaMStore
namespace Go.Proofs.Ytobpoghophhphaa
open Go.RowKit Mm
open Plain (isTwo two)
set_option linter.unusedVariables false
set_option linter.unusedSimpArgs false
set_option maxRecDepth 100000 in
set_option maxHeartbeats 2000000 in
theorem reserve_1 {w : World} {base : Nat} {v : Mv} {m : Mem} (hm : MemAt base w v m) (ho : Ok m) {h a r : Int} (hb : busy m h a = r) (hr : r ≠ 0) :
    Calls Try.prog 18 #[.agg #[.slice v.w.p v.w.n v.w.c, .slice v.p.p v.p.n v.p.c, .slice v.r.p v.r.n v.r.c], .int .i64 h, .int .i64 a] w (Told3 (.int .i64 0) zero r w) := by
  obtain ⟨hb1, hx1, hx2⟩ := box2 w #[.slice v.w.p v.w.n v.w.c, .slice v.p.p v.p.n v.p.c, .slice v.r.p v.r.n v.r.c] 27 #[.slice none 0 0, .slice none 0 0, .slice none 0 0] 27
  have HM := Lib.hid hm
  have HO := Lib.hid ho
  have HBY := Lib.hid hb
  clear hm ho hb
  go_enter Try.func18, Try.ntmps18
  go_upto_region 1 with (fail)
  generalize hW1 : ((w.alloc (.cells #[.slice v.w.p v.w.n v.w.c, .slice v.p.p v.p.n v.p.c, .slice v.r.p v.r.n v.r.c] 27)).alloc (.cells #[.slice none 0 0, .slice none 0 0, .slice none 0 0] 27)) = W1 at hb1 hx1 hx2 ⊢
  clear hW1
  have HN12 : Hid (w.heap.size ≠ w.heap.size + 1) := Lib.hid (by omega)
  have HG2 : Hid (w.heap.size ≤ w.heap.size + 1) := Lib.hid (by omega)
  generalize w.heap.size + 1 = g2 at hx2 HN12 HG2 ⊢
  obtain ⟨g1, hG⟩ : ∃ G, w.heap.size = G := ⟨_, rfl⟩
  rw [hG] at hx1 HN12 HG2 ⊢
  have HG := Lib.hid hG
  have HB := Lib.hid hb1
  have HX1 := Lib.hid hx1
  have HX2 := Lib.hid hx2
  clear hb1 hx1 hx2 hG
  have k0 := cell_of_heap HX1.out 0
  have kf0 := frozen_of_heap HX1.out 0
  have k1 := cell_of_heap HX1.out 1
  have kf1 := frozen_of_heap HX1.out 1
  have k2 := cell_of_heap HX1.out 2
  have kf2 := frozen_of_heap HX1.out 2
  simp only [List.getElem?_toArray, List.getElem?_cons_zero, List.getElem?_cons_succ] at k0 k1 k2
  have z0 := cell_of_heap HX2.out 0
  have zf0 := frozen_of_heap HX2.out 0
  have z1 := cell_of_heap HX2.out 1
  have zf1 := frozen_of_heap HX2.out 1
  have z2 := cell_of_heap HX2.out 2
  have zf2 := frozen_of_heap HX2.out 2
  simp only [List.getElem?_toArray, List.getElem?_cons_zero, List.getElem?_cons_succ] at z0 z1 z2
  have hnz : (r != 0) = true := bne_iff_ne.2 hr
  clear hr
  go_wp2_with (first | (go_at_call 42; ((with_reducible refine (atOnce_lit (HM.out.bel HB.out) HO.out HBY.out).mono ?_); rintro e wa ⟨rfl, hbz⟩; have HB := Lib.hid (HB.out.trans hbz); have HX1 := Lib.hid (hbz.stays HX1.out); have HX2 := Lib.hid (hbz.stays HX2.out); have k0 := cell_of_heap HX1.out 0; have kf0 := frozen_of_heap HX1.out 0; have k1 := cell_of_heap HX1.out 1; have kf1 := frozen_of_heap HX1.out 1; have k2 := cell_of_heap HX1.out 2; have kf2 := frozen_of_heap HX1.out 2; simp only [List.getElem?_toArray, List.getElem?_cons_zero, List.getElem?_cons_succ] at k0 k1 k2; have z0 := cell_of_heap HX2.out 0; have zf0 := frozen_of_heap HX2.out 0; have z1 := cell_of_heap HX2.out 1; have zf1 := frozen_of_heap HX2.out 1; have z2 := cell_of_heap HX2.out 2; have zf2 := frozen_of_heap HX2.out 2; simp only [List.getElem?_toArray, List.getElem?_cons_zero, List.getElem?_cons_succ] at z0 z1 z2; clear hbz)))
  have hs3 : Svg g2 wa (((wa.setCell ⟨g2, 0, none⟩ (.slice none 0 0)).setCell ⟨g2, 1, none⟩ (.slice none 0 0)).setCell ⟨g2, 2, none⟩ (.slice none 0 0)) := set3_svg _ _ _ _ _
  have hh := set3_heap HX2.out (.slice none 0 0) (.slice none 0 0) (.slice none 0 0)
  exact bodyPost_ret (results_slot_cell_slot Try.results18 _ _ g2 _ _ _ _ _ _ rfl rfl rfl hh Try.underlying27 rfl (by kernel_rfl)) rfl ⟨nilM, rfl, hs3.bel HB.out (by have := HG.out; have := HG2.out; omega), MemAt.zero _ _⟩
set_option maxRecDepth 100000 in
set_option maxHeartbeats 2000000 in
theorem cond_1 {w : World} {base : Nat} {v : Mv} {m : Mem} (hm : MemAt base w v m) (ho : Ok m) {h a n r : Int} (hb : busy m h a = r) (hr : r ≠ 0) :
    Calls Try.prog 20 #[.agg #[.slice v.w.p v.w.n v.w.c, .slice v.p.p v.p.n v.p.c, .slice v.r.p v.r.n v.r.c], .int .i64 h, .int .i64 a, .int .i64 n] w (Told3 (.bool false) zero r w) := by
  obtain ⟨hb1, hx1, hx2⟩ := box2 w #[.slice v.w.p v.w.n v.w.c, .slice v.p.p v.p.n v.p.c, .slice v.r.p v.r.n v.r.c] 27 #[.slice none 0 0, .slice none 0 0, .slice none 0 0] 27
  have HM := Lib.hid hm
  have HO := Lib.hid ho
  have HBY := Lib.hid hb
  clear hm ho hb
  go_enter Try.func20, Try.ntmps20
  go_upto_region 1 with (fail)
  generalize hW1 : ((w.alloc (.cells #[.slice v.w.p v.w.n v.w.c, .slice v.p.p v.p.n v.p.c, .slice v.r.p v.r.n v.r.c] 27)).alloc (.cells #[.slice none 0 0, .slice none 0 0, .slice none 0 0] 27)) = W1 at hb1 hx1 hx2 ⊢
  clear hW1
  have HN12 : Hid (w.heap.size ≠ w.heap.size + 1) := Lib.hid (by omega)
  have HG2 : Hid (w.heap.size ≤ w.heap.size + 1) := Lib.hid (by omega)
  generalize w.heap.size + 1 = g2 at hx2 HN12 HG2 ⊢
  obtain ⟨g1, hG⟩ : ∃ G, w.heap.size = G := ⟨_, rfl⟩
  rw [hG] at hx1 HN12 HG2 ⊢
  have HG := Lib.hid hG
  have HB := Lib.hid hb1
  have HX1 := Lib.hid hx1
  have HX2 := Lib.hid hx2
  clear hb1 hx1 hx2 hG
  have k0 := cell_of_heap HX1.out 0
  have kf0 := frozen_of_heap HX1.out 0
  have k1 := cell_of_heap HX1.out 1
  have kf1 := frozen_of_heap HX1.out 1
  have k2 := cell_of_heap HX1.out 2
  have kf2 := frozen_of_heap HX1.out 2
  simp only [List.getElem?_toArray, List.getElem?_cons_zero, List.getElem?_cons_succ] at k0 k1 k2
  have z0 := cell_of_heap HX2.out 0
  have zf0 := frozen_of_heap HX2.out 0
  have z1 := cell_of_heap HX2.out 1
  have zf1 := frozen_of_heap HX2.out 1
  have z2 := cell_of_heap HX2.out 2
  have zf2 := frozen_of_heap HX2.out 2
  simp only [List.getElem?_toArray, List.getElem?_cons_zero, List.getElem?_cons_succ] at z0 z1 z2
  have hnz : (r != 0) = true := bne_iff_ne.2 hr
  clear hr
  go_wp2_with (first | (go_at_call 42; ((with_reducible refine (atOnce_lit (HM.out.bel HB.out) HO.out HBY.out).mono ?_); rintro e wa ⟨rfl, hbz⟩; have HB := Lib.hid (HB.out.trans hbz); have HX1 := Lib.hid (hbz.stays HX1.out); have HX2 := Lib.hid (hbz.stays HX2.out); have k0 := cell_of_heap HX1.out 0; have kf0 := frozen_of_heap HX1.out 0; have k1 := cell_of_heap HX1.out 1; have kf1 := frozen_of_heap HX1.out 1; have k2 := cell_of_heap HX1.out 2; have kf2 := frozen_of_heap HX1.out 2; simp only [List.getElem?_toArray, List.getElem?_cons_zero, List.getElem?_cons_succ] at k0 k1 k2; have z0 := cell_of_heap HX2.out 0; have zf0 := frozen_of_heap HX2.out 0; have z1 := cell_of_heap HX2.out 1; have zf1 := frozen_of_heap HX2.out 1; have z2 := cell_of_heap HX2.out 2; have zf2 := frozen_of_heap HX2.out 2; simp only [List.getElem?_toArray, List.getElem?_cons_zero, List.getElem?_cons_succ] at z0 z1 z2; clear hbz)))
  have hs3 : Svg g2 wa (((wa.setCell ⟨g2, 0, none⟩ (.slice none 0 0)).setCell ⟨g2, 1, none⟩ (.slice none 0 0)).setCell ⟨g2, 2, none⟩ (.slice none 0 0)) := set3_svg _ _ _ _ _
  have hh := set3_heap HX2.out (.slice none 0 0) (.slice none 0 0) (.slice none 0 0)
  exact bodyPost_ret (results_slot_cell_slot Try.results20 _ _ g2 _ _ _ _ _ _ rfl rfl rfl hh Try.underlying27 rfl (by kernel_rfl)) rfl ⟨nilM, rfl, hs3.bel HB.out (by have := HG.out; have := HG2.out; omega), MemAt.zero _ _⟩
theorem busy_0 {m : Mem} {h a : Int} (hb : busy m h a = 0) : isH m h = true ∧ isW m a = true ∧ (row m h).length = 0 := by
  unfold busy at hb
  cases hh : isH m h with
  | false => rw [hh] at hb; cases hb
  | true =>
    cases hw : isW m a with
    | false => rw [hh, hw] at hb; cases hb
    | true =>
      rw [hh, hw, if_pos (by rfl)] at hb
      by_cases hc : 0 < (row m h).length
      · rw [if_pos hc] at hb; cases hb
      · exact ⟨rfl, rfl, by omega⟩
set_option maxRecDepth 100000 in
set_option maxHeartbeats 2000000 in
theorem reserve_2 {w : World} {base : Nat} {v : Mv} {m : Mem} (hm : MemAt base w v m) (ho : Ok m) {h a : Nat} (hb : busy m h a = 0) (hh : isH m h = true) (hw : isW m a = true) :
    Calls Try.prog 18 #[.agg #[.slice v.w.p v.w.n v.w.c, .slice v.p.p v.p.n v.p.c, .slice v.r.p v.r.n v.r.c], .int .i64 (h : Int), .int .i64 (a : Int)] w (Told3 (.int .i64 (wordN m a)) (setR m h a) 0 w) := by
  obtain ⟨hb1, hx1, hx2⟩ := box2 w #[.slice v.w.p v.w.n v.w.c, .slice v.p.p v.p.n v.p.c, .slice v.r.p v.r.n v.r.c] 27 #[.slice none 0 0, .slice none 0 0, .slice none 0 0] 27
  have HM := Lib.hid hm
  have HO := Lib.hid ho
  have HBY := Lib.hid hb
  have HH := Lib.hid hh
  have HW := Lib.hid hw
  clear hm ho hb hh hw
  go_enter Try.func18, Try.ntmps18
  go_upto_region 1 with (fail)
  generalize hW1 : ((w.alloc (.cells #[.slice v.w.p v.w.n v.w.c, .slice v.p.p v.p.n v.p.c, .slice v.r.p v.r.n v.r.c] 27)).alloc (.cells #[.slice none 0 0, .slice none 0 0, .slice none 0 0] 27)) = W1 at hb1 hx1 hx2 ⊢
  clear hW1
  have HN12 : Hid (w.heap.size ≠ w.heap.size + 1) := Lib.hid (by omega)
  have HG2 : Hid (w.heap.size ≤ w.heap.size + 1) := Lib.hid (by omega)
  generalize w.heap.size + 1 = g2 at hx2 HN12 HG2 ⊢
  obtain ⟨g1, hG⟩ : ∃ G, w.heap.size = G := ⟨_, rfl⟩
  rw [hG] at hx1 HN12 HG2 ⊢
  have HG := Lib.hid hG
  have HB := Lib.hid hb1
  have HX1 := Lib.hid hx1
  have HX2 := Lib.hid hx2
  clear hb1 hx1 hx2 hG
  have k0 := cell_of_heap HX1.out 0
  have kf0 := frozen_of_heap HX1.out 0
  have k1 := cell_of_heap HX1.out 1
  have kf1 := frozen_of_heap HX1.out 1
  have k2 := cell_of_heap HX1.out 2
  have kf2 := frozen_of_heap HX1.out 2
  simp only [List.getElem?_toArray, List.getElem?_cons_zero, List.getElem?_cons_succ] at k0 k1 k2
  have z0 := cell_of_heap HX2.out 0
  have zf0 := frozen_of_heap HX2.out 0
  have z1 := cell_of_heap HX2.out 1
  have zf1 := frozen_of_heap HX2.out 1
  have z2 := cell_of_heap HX2.out 2
  have zf2 := frozen_of_heap HX2.out 2
  simp only [List.getElem?_toArray, List.getElem?_cons_zero, List.getElem?_cons_succ] at z0 z1 z2
  go_upto_region 4 with (first | (go_at_call 42; ((with_reducible refine (atOnce_lit (HM.out.bel HB.out) HO.out HBY.out).mono ?_); rintro e wa ⟨rfl, hbz⟩; have HB := Lib.hid (HB.out.trans hbz); have HX1 := Lib.hid (hbz.stays HX1.out); have HX2 := Lib.hid (hbz.stays HX2.out); have k0 := cell_of_heap HX1.out 0; have kf0 := frozen_of_heap HX1.out 0; have k1 := cell_of_heap HX1.out 1; have kf1 := frozen_of_heap HX1.out 1; have k2 := cell_of_heap HX1.out 2; have kf2 := frozen_of_heap HX1.out 2; simp only [List.getElem?_toArray, List.getElem?_cons_zero, List.getElem?_cons_succ] at k0 k1 k2; have z0 := cell_of_heap HX2.out 0; have zf0 := frozen_of_heap HX2.out 0; have z1 := cell_of_heap HX2.out 1; have zf1 := frozen_of_heap HX2.out 1; have z2 := cell_of_heap HX2.out 2; have zf2 := frozen_of_heap HX2.out 2; simp only [List.getElem?_toArray, List.getElem?_cons_zero, List.getElem?_cons_succ] at z0 z1 z2; clear hbz)))
  skip
  go_upto_region 5 with (first | (go_at_call 32; ((with_reducible refine (copied_any (HM.out.bel HB.out) HO.out).mono ?_); rintro e wc ⟨u, rfl, hbz, hmu⟩; have HBC := Lib.hid (HB.out.trans hbz); have HY1 := Lib.hid (hbz.stays HX1.out); have HY2 := Lib.hid (hbz.stays HX2.out); have HMU := Lib.hid (hmu.mono (show w.heap.size ≤ _ from HB.out.size)); have k0 := cell_of_heap HY1.out 0; have kf0 := frozen_of_heap HY1.out 0; have k1 := cell_of_heap HY1.out 1; have kf1 := frozen_of_heap HY1.out 1; have k2 := cell_of_heap HY1.out 2; have kf2 := frozen_of_heap HY1.out 2; simp only [List.getElem?_toArray, List.getElem?_cons_zero, List.getElem?_cons_succ] at k0 k1 k2; have z0 := cell_of_heap HY2.out 0; have zf0 := frozen_of_heap HY2.out 0; have z1 := cell_of_heap HY2.out 1; have zf1 := frozen_of_heap HY2.out 1; have z2 := cell_of_heap HY2.out 2; have zf2 := frozen_of_heap HY2.out 2; simp only [List.getElem?_toArray, List.getElem?_cons_zero, List.getElem?_cons_succ] at z0 z1 z2; clear hbz hmu)))
  try clear k0 k1 k2 kf0 kf1 kf2 z0 z1 z2 zf0 zf1 zf2
  have hs3 : Svg g1 wc (((wc.setCell ⟨g1, 0, none⟩ (.slice u.w.p u.w.n u.w.c)).setCell ⟨g1, 1, none⟩ (.slice u.p.p u.p.n u.p.c)).setCell ⟨g1, 2, none⟩ (.slice u.r.p u.r.n u.r.c)) := set3_svg _ _ _ _ _
  have hx1 := set3_heap HY1.out (.slice u.w.p u.w.n u.w.c) (.slice u.p.p u.p.n u.p.c) (.slice u.r.p u.r.n u.r.c)
  generalize hWW : (((wc.setCell ⟨g1, 0, none⟩ (.slice u.w.p u.w.n u.w.c)).setCell ⟨g1, 1, none⟩ (.slice u.p.p u.p.n u.p.c)).setCell ⟨g1, 2, none⟩ (.slice u.r.p u.r.n u.r.c)) = W5 at hs3 hx1 ⊢
  clear hWW
  have HB := Lib.hid (hs3.bel HBC.out (by rw [HG.out]; exact Nat.le_refl _))
  have HX1 := Lib.hid hx1
  have HX2 := Lib.hid ((hs3.block g2 (lt_of_heap HY2.out) HN12.out.symm).trans HY2.out)
  have HMU := Lib.hid (HMU.out.keep hs3 HY1.out (by decide) (by decide) (by decide))
  clear hs3 hx1 HY1 HY2 HBC
  have k0 := cell_of_heap HX1.out 0
  have kf0 := frozen_of_heap HX1.out 0
  have k1 := cell_of_heap HX1.out 1
  have kf1 := frozen_of_heap HX1.out 1
  have k2 := cell_of_heap HX1.out 2
  have kf2 := frozen_of_heap HX1.out 2
  simp only [List.getElem?_toArray, List.getElem?_cons_zero, List.getElem?_cons_succ] at k0 k1 k2
  have z0 := cell_of_heap HX2.out 0
  have zf0 := frozen_of_heap HX2.out 0
  have z1 := cell_of_heap HX2.out 1
  have zf1 := frozen_of_heap HX2.out 1
  have z2 := cell_of_heap HX2.out 2
  have zf2 := frozen_of_heap HX2.out 2
  simp only [List.getElem?_toArray, List.getElem?_cons_zero, List.getElem?_cons_succ] at z0 z1 z2
  obtain ⟨bw, csw, ew, hbw, hgw, hlew, hltw, cw, cwf⟩ := HMU.out.word HW.out
  obtain ⟨br, csr, er, hbr, hgr, hler, hltr, cr, crf⟩ := HMU.out.resv HO.out HH.out
  obtain ⟨⟨uwp, uwn, uwc⟩, ⟨upp, upn, upc⟩, ⟨urp, urn, urc⟩, urows⟩ := u
  simp only at ew hlew hltw er hler hltr
  subst ew er
  have HCW := Lib.hid cw
  have HHG := Lib.hid (⟨hgw, hgr⟩ : _ ∧ _)
  have HNWR : Hid (bw ≠ br) := Lib.hid (fun e => HMU.out.ne bw rfl (by rw [e]; rfl))
  clear cwf hgw
  go_upto_region 6 with (fail)
  have hs6 : Ivg w.heap.size W5 (W5.setCell ⟨br, h, none⟩ (.int .i64 (a : Int))) := setInt_ivg hbr hgr _ _
  have hm6 := HMU.out.setRs rfl (a := h) (by have := HO.out.pr; have := isH_iff.1 HH.out; omega) (a : Int)
  have hx1 := hs6.stays HX1.out (by decide)
  have hx2 := hs6.stays HX2.out (by decide)
  have hb6 := hs6.bel HB.out (Nat.le_refl _)
  generalize W5.setCell ⟨br, h, none⟩ (.int .i64 (a : Int)) = W6 at hs6 hm6 hx1 hx2 hb6 ⊢
  have HX1 := Lib.hid hx1
  have HX2 := Lib.hid hx2
  have HB := Lib.hid hb6
  have HM6 := Lib.hid hm6
  clear hs6 hm6 hx1 hx2 hb6 k0 k1 k2 kf0 kf1 kf2 z0 z1 z2 zf0 zf1 zf2
  have k0 := cell_of_heap HX1.out 0
  have kf0 := frozen_of_heap HX1.out 0
  have k1 := cell_of_heap HX1.out 1
  have kf1 := frozen_of_heap HX1.out 1
  have k2 := cell_of_heap HX1.out 2
  have kf2 := frozen_of_heap HX1.out 2
  simp only [List.getElem?_toArray, List.getElem?_cons_zero, List.getElem?_cons_succ] at k0 k1 k2
  have z0 := cell_of_heap HX2.out 0
  have zf0 := frozen_of_heap HX2.out 0
  have z1 := cell_of_heap HX2.out 1
  have zf1 := frozen_of_heap HX2.out 1
  have z2 := cell_of_heap HX2.out 2
  have zf2 := frozen_of_heap HX2.out 2
  simp only [List.getElem?_toArray, List.getElem?_cons_zero, List.getElem?_cons_succ] at z0 z1 z2
  obtain ⟨bw', csw', ew', _, _, _, _, cw6, _⟩ := HM6.out.word (a := a) HW.out
  simp only at ew'
  injection ew' with ew'
  injection ew' with ew'
  subst ew'
  clear cr crf hbr hgr cw
  go_region
  go_wp2_with (fail)
  have hs3 : Svg g2 W6 (((W6.setCell ⟨g2, 0, none⟩ (.slice (some ⟨bw, 0, none⟩) uwn uwc)).setCell ⟨g2, 1, none⟩ (.slice upp upn upc)).setCell ⟨g2, 2, none⟩ (.slice (some ⟨br, 0, none⟩) urn urc)).drew := (set3_svg _ _ _ _ _).trans ((Bel.refl _).drew.svg g2)
  have hh : (((W6.setCell ⟨g2, 0, none⟩ (.slice (some ⟨bw, 0, none⟩) uwn uwc)).setCell ⟨g2, 1, none⟩ (.slice upp upn upc)).setCell ⟨g2, 2, none⟩ (.slice (some ⟨br, 0, none⟩) urn urc)).drew.heap[g2]? = some (.cells #[.slice (some ⟨bw, 0, none⟩) uwn uwc, .slice upp upn upc, .slice (some ⟨br, 0, none⟩) urn urc] 27 (0, 0)) := set3_heap HX2.out _ _ _
  exact bodyPost_ret (results_slot_cell_slot Try.results18 _ _ g2 _ _ _ _ _ _ rfl rfl rfl hh Try.underlying27 rfl (by kernel_rfl)) rfl ⟨⟨⟨some ⟨bw, 0, none⟩, uwn, uwc⟩, ⟨upp, upn, upc⟩, ⟨some ⟨br, 0, none⟩, urn, urc⟩, urows⟩, rfl, hs3.bel HB.out (by have := HG.out; have := HG2.out; omega), (HM6.out).keep hs3 HX2.out (by decide) (by decide) (by decide)⟩
set_option maxRecDepth 100000 in
set_option maxHeartbeats 2000000 in
theorem cond_2 {w : World} {base : Nat} {v : Mv} {m : Mem} (hm : MemAt base w v m) (ho : Ok m) {h a : Nat} {n : Int} (hb : busy m h a = 0) (hh : isH m h = true) (hw : isW m a = true) (hr : resN m h = (a : Int)) :
    Calls Try.prog 20 #[.agg #[.slice v.w.p v.w.n v.w.c, .slice v.p.p v.p.n v.p.c, .slice v.r.p v.r.n v.r.c], .int .i64 (h : Int), .int .i64 (a : Int), .int .i64 n] w (Told3 (.bool true) (setR (arr m h a (wrap32 n)) h (-1)) 0 w) := by
  obtain ⟨hb1, hx1, hx2⟩ := box2 w #[.slice v.w.p v.w.n v.w.c, .slice v.p.p v.p.n v.p.c, .slice v.r.p v.r.n v.r.c] 27 #[.slice none 0 0, .slice none 0 0, .slice none 0 0] 27
  have HM := Lib.hid hm
  have HO := Lib.hid ho
  have HBY := Lib.hid hb
  have HH := Lib.hid hh
  have HW := Lib.hid hw
  have HR0 := Lib.hid hr
  clear hm ho hb hh hw hr
  go_enter Try.func20, Try.ntmps20
  go_upto_region 1 with (fail)
  generalize hW1 : ((w.alloc (.cells #[.slice v.w.p v.w.n v.w.c, .slice v.p.p v.p.n v.p.c, .slice v.r.p v.r.n v.r.c] 27)).alloc (.cells #[.slice none 0 0, .slice none 0 0, .slice none 0 0] 27)) = W1 at hb1 hx1 hx2 ⊢
  clear hW1
  have HN12 : Hid (w.heap.size ≠ w.heap.size + 1) := Lib.hid (by omega)
  have HG2 : Hid (w.heap.size ≤ w.heap.size + 1) := Lib.hid (by omega)
  generalize w.heap.size + 1 = g2 at hx2 HN12 HG2 ⊢
  obtain ⟨g1, hG⟩ : ∃ G, w.heap.size = G := ⟨_, rfl⟩
  rw [hG] at hx1 HN12 HG2 ⊢
  have HG := Lib.hid hG
  have HB := Lib.hid hb1
  have HX1 := Lib.hid hx1
  have HX2 := Lib.hid hx2
  clear hb1 hx1 hx2 hG
  have k0 := cell_of_heap HX1.out 0
  have kf0 := frozen_of_heap HX1.out 0
  have k1 := cell_of_heap HX1.out 1
  have kf1 := frozen_of_heap HX1.out 1
  have k2 := cell_of_heap HX1.out 2
  have kf2 := frozen_of_heap HX1.out 2
  simp only [List.getElem?_toArray, List.getElem?_cons_zero, List.getElem?_cons_succ] at k0 k1 k2
  have z0 := cell_of_heap HX2.out 0
  have zf0 := frozen_of_heap HX2.out 0
  have z1 := cell_of_heap HX2.out 1
  have zf1 := frozen_of_heap HX2.out 1
  have z2 := cell_of_heap HX2.out 2
  have zf2 := frozen_of_heap HX2.out 2
  simp only [List.getElem?_toArray, List.getElem?_cons_zero, List.getElem?_cons_succ] at z0 z1 z2
  go_upto_region 4 with (first | (go_at_call 42; ((with_reducible refine (atOnce_lit (HM.out.bel HB.out) HO.out HBY.out).mono ?_); rintro e wa ⟨rfl, hbz⟩; have HB := Lib.hid (HB.out.trans hbz); have HX1 := Lib.hid (hbz.stays HX1.out); have HX2 := Lib.hid (hbz.stays HX2.out); have k0 := cell_of_heap HX1.out 0; have kf0 := frozen_of_heap HX1.out 0; have k1 := cell_of_heap HX1.out 1; have kf1 := frozen_of_heap HX1.out 1; have k2 := cell_of_heap HX1.out 2; have kf2 := frozen_of_heap HX1.out 2; simp only [List.getElem?_toArray, List.getElem?_cons_zero, List.getElem?_cons_succ] at k0 k1 k2; have z0 := cell_of_heap HX2.out 0; have zf0 := frozen_of_heap HX2.out 0; have z1 := cell_of_heap HX2.out 1; have zf1 := frozen_of_heap HX2.out 1; have z2 := cell_of_heap HX2.out 2; have zf2 := frozen_of_heap HX2.out 2; simp only [List.getElem?_toArray, List.getElem?_cons_zero, List.getElem?_cons_succ] at z0 z1 z2; clear hbz)))
  skip
  go_upto_region 5 with (first | (go_at_call 32; ((with_reducible refine (copied_any (HM.out.bel HB.out) HO.out).mono ?_); rintro e wc ⟨u, rfl, hbz, hmu⟩; have HBC := Lib.hid (HB.out.trans hbz); have HY1 := Lib.hid (hbz.stays HX1.out); have HY2 := Lib.hid (hbz.stays HX2.out); have HMU := Lib.hid (hmu.mono (show w.heap.size ≤ _ from HB.out.size)); have k0 := cell_of_heap HY1.out 0; have kf0 := frozen_of_heap HY1.out 0; have k1 := cell_of_heap HY1.out 1; have kf1 := frozen_of_heap HY1.out 1; have k2 := cell_of_heap HY1.out 2; have kf2 := frozen_of_heap HY1.out 2; simp only [List.getElem?_toArray, List.getElem?_cons_zero, List.getElem?_cons_succ] at k0 k1 k2; have z0 := cell_of_heap HY2.out 0; have zf0 := frozen_of_heap HY2.out 0; have z1 := cell_of_heap HY2.out 1; have zf1 := frozen_of_heap HY2.out 1; have z2 := cell_of_heap HY2.out 2; have zf2 := frozen_of_heap HY2.out 2; simp only [List.getElem?_toArray, List.getElem?_cons_zero, List.getElem?_cons_succ] at z0 z1 z2; clear hbz hmu)))
  try clear k0 k1 k2 kf0 kf1 kf2 z0 z1 z2 zf0 zf1 zf2
  have hs3 : Svg g1 wc (((wc.setCell ⟨g1, 0, none⟩ (.slice u.w.p u.w.n u.w.c)).setCell ⟨g1, 1, none⟩ (.slice u.p.p u.p.n u.p.c)).setCell ⟨g1, 2, none⟩ (.slice u.r.p u.r.n u.r.c)) := set3_svg _ _ _ _ _
  have hx1 := set3_heap HY1.out (.slice u.w.p u.w.n u.w.c) (.slice u.p.p u.p.n u.p.c) (.slice u.r.p u.r.n u.r.c)
  generalize hWW : (((wc.setCell ⟨g1, 0, none⟩ (.slice u.w.p u.w.n u.w.c)).setCell ⟨g1, 1, none⟩ (.slice u.p.p u.p.n u.p.c)).setCell ⟨g1, 2, none⟩ (.slice u.r.p u.r.n u.r.c)) = W5 at hs3 hx1 ⊢
  clear hWW
  have HB := Lib.hid (hs3.bel HBC.out (by rw [HG.out]; exact Nat.le_refl _))
  have HX1 := Lib.hid hx1
  have HX2 := Lib.hid ((hs3.block g2 (lt_of_heap HY2.out) HN12.out.symm).trans HY2.out)
  have HMU := Lib.hid (HMU.out.keep hs3 HY1.out (by decide) (by decide) (by decide))
  clear hs3 hx1 HY1 HY2 HBC
  have k0 := cell_of_heap HX1.out 0
  have kf0 := frozen_of_heap HX1.out 0
  have k1 := cell_of_heap HX1.out 1
  have kf1 := frozen_of_heap HX1.out 1
  have k2 := cell_of_heap HX1.out 2
  have kf2 := frozen_of_heap HX1.out 2
  simp only [List.getElem?_toArray, List.getElem?_cons_zero, List.getElem?_cons_succ] at k0 k1 k2
  have z0 := cell_of_heap HX2.out 0
  have zf0 := frozen_of_heap HX2.out 0
  have z1 := cell_of_heap HX2.out 1
  have zf1 := frozen_of_heap HX2.out 1
  have z2 := cell_of_heap HX2.out 2
  have zf2 := frozen_of_heap HX2.out 2
  simp only [List.getElem?_toArray, List.getElem?_cons_zero, List.getElem?_cons_succ] at z0 z1 z2
  obtain ⟨br, csr, er, hbr, hgr, hler, hltr, cr, crf⟩ := HMU.out.resv HO.out HH.out
  obtain ⟨⟨uwp, uwn, uwc⟩, ⟨upp, upn, upc⟩, ⟨urp, urn, urc⟩, urows⟩ := u
  simp only at er hler hltr
  have hq : (resN m h == (a : Int)) = true := by rw [HR0.out]; exact beq_self_eq_true _
  subst er
  clear crf hbr hgr csr
  go_upto_region 7 with (fail)
  clear cr hq
  go_upto_region 7 with (fail)
  have HKEEP : Hid (∀ w', Ivg w.heap.size W5 w' → w'.cell? ⟨g1, 0, none⟩ = some (.slice uwp uwn uwc) ∧ w'.cell? ⟨g1, 1, none⟩ = some (.slice upp upn upc) ∧ w'.cell? ⟨g1, 2, none⟩ = some (.slice (some ⟨br, 0, none⟩) urn urc)) := Lib.hid (fun w' h => by
    have h1 := h.stays HX1.out (by decide)
    exact ⟨cell_of_heap h1 0, cell_of_heap h1 1, cell_of_heap h1 2⟩)
  have HIV : Hid (Ivg w.heap.size W5 W5.drew) := Lib.hid ((Bel.refl W5).drew.ivg _)
  have HIV0 : Hid (Ivg w.heap.size W5 W5) := Lib.hid ((Bel.refl W5).ivg _)
  have HM7 := Lib.hid (HMU.out.bel (Bel.refl W5).drew)
  try (clear k0 k1 k2)
  go_region_held3 (fun w' => w'.cell? ⟨g1, 0, none⟩ = some (.slice uwp uwn uwc) ∧ w'.cell? ⟨g1, 1, none⟩ = some (.slice upp upn upc) ∧ w'.cell? ⟨g1, 2, none⟩ = some (.slice (some ⟨br, 0, none⟩) urn urc))
    (first | exact HKEEP.out _ HIV.out | exact HKEEP.out _ HIV0.out)
    (first | (go_at_call 33; ((with_reducible refine (wrap_any _ _).mono ?_); rintro e wq ⟨rfl, rfl⟩)) | (go_at_call 39; ((with_reducible refine (arrive_any HM7.out HO.out HW.out HH.out (wrap32 n)).mono ?_); rintro e W7 ⟨rfl, hm7, hiv⟩; have HM7 := Lib.hid hm7; have HIV := Lib.hid (HIV.out.trans hiv); clear hm7 hiv)))
  have hx1 := HIV.out.stays HX1.out (by decide)
  have hx2 := HIV.out.stays HX2.out (by decide)
  have hb7 := HIV.out.bel HB.out (Nat.le_refl _)
  have HX1 := Lib.hid hx1
  have HX2 := Lib.hid hx2
  have HB := Lib.hid hb7
  clear hx1 hx2 hb7
  have k0 := cell_of_heap HX1.out 0
  have kf0 := frozen_of_heap HX1.out 0
  have k1 := cell_of_heap HX1.out 1
  have kf1 := frozen_of_heap HX1.out 1
  have k2 := cell_of_heap HX1.out 2
  have kf2 := frozen_of_heap HX1.out 2
  simp only [List.getElem?_toArray, List.getElem?_cons_zero, List.getElem?_cons_succ] at k0 k1 k2
  have z0 := cell_of_heap HX2.out 0
  have zf0 := frozen_of_heap HX2.out 0
  have z1 := cell_of_heap HX2.out 1
  have zf1 := frozen_of_heap HX2.out 1
  have z2 := cell_of_heap HX2.out 2
  have zf2 := frozen_of_heap HX2.out 2
  simp only [List.getElem?_toArray, List.getElem?_cons_zero, List.getElem?_cons_succ] at z0 z1 z2
  obtain ⟨_, csr, er, hbr, hgr, _, _, cr, crf⟩ := HM7.out.resv (ok_arr HO.out _ _ _) (a := h) (by have := HH.out; exact this)
  simp only at er
  injection er with er
  injection er with er
  subst er
  go_upto_region 9 with (fail)
  have hs6 : Ivg w.heap.size W7 (W7.setCell ⟨br, h, none⟩ (.int .i64 (-1))) := setInt_ivg hbr hgr _ _
  have hm6 := HM7.out.setRs rfl (a := h) (by have h1 := (ok_arr HO.out (h : Int) (a : Int) (wrap32 n)).pr; have h2 : (arr m h a (wrap32 n)).pend = m.pend := rfl; have := isH_iff.1 HH.out; rw [h1, h2]; omega) (-1)
  have hx1 := hs6.stays HX1.out (by decide)
  have hx2 := hs6.stays HX2.out (by decide)
  have hb6 := hs6.bel HB.out (Nat.le_refl _)
  generalize W7.setCell ⟨br, h, none⟩ (.int .i64 (-1)) = W8 at hs6 hm6 hx1 hx2 hb6 ⊢
  have HX1 := Lib.hid hx1
  have HX2 := Lib.hid hx2
  have HB := Lib.hid hb6
  have HM6 := Lib.hid hm6
  clear hs6 hm6 hx1 hx2 hb6 k0 k1 k2 kf0 kf1 kf2 z0 z1 z2 zf0 zf1 zf2
  have k0 := cell_of_heap HX1.out 0
  have kf0 := frozen_of_heap HX1.out 0
  have k1 := cell_of_heap HX1.out 1
  have kf1 := frozen_of_heap HX1.out 1
  have k2 := cell_of_heap HX1.out 2
  have kf2 := frozen_of_heap HX1.out 2
  simp only [List.getElem?_toArray, List.getElem?_cons_zero, List.getElem?_cons_succ] at k0 k1 k2
  have z0 := cell_of_heap HX2.out 0
  have zf0 := frozen_of_heap HX2.out 0
  have z1 := cell_of_heap HX2.out 1
  have zf1 := frozen_of_heap HX2.out 1
  have z2 := cell_of_heap HX2.out 2
  have zf2 := frozen_of_heap HX2.out 2
  simp only [List.getElem?_toArray, List.getElem?_cons_zero, List.getElem?_cons_succ] at z0 z1 z2
  clear cr crf hbr hgr
  go_region
  go_wp2_with (fail)
  have hs3 : Svg g2 W8 (((W8.setCell ⟨g2, 0, none⟩ (.slice uwp uwn uwc)).setCell ⟨g2, 1, none⟩ (.slice upp upn upc)).setCell ⟨g2, 2, none⟩ (.slice (some ⟨br, 0, none⟩) urn urc)).drew := (set3_svg _ _ _ _ _).trans ((Bel.refl _).drew.svg g2)
  have hh : (((W8.setCell ⟨g2, 0, none⟩ (.slice uwp uwn uwc)).setCell ⟨g2, 1, none⟩ (.slice upp upn upc)).setCell ⟨g2, 2, none⟩ (.slice (some ⟨br, 0, none⟩) urn urc)).drew.heap[g2]? = some (.cells #[.slice uwp uwn uwc, .slice upp upn upc, .slice (some ⟨br, 0, none⟩) urn urc] 27 (0, 0)) := set3_heap HX2.out _ _ _
  exact bodyPost_ret (results_slot_cell_slot Try.results20 _ _ g2 _ _ _ _ _ _ rfl rfl rfl hh Try.underlying27 rfl (by kernel_rfl)) rfl ⟨⟨⟨uwp, uwn, uwc⟩, ⟨upp, upn, upc⟩, ⟨some ⟨br, 0, none⟩, urn, urc⟩, urows⟩, rfl, hs3.bel HB.out (by have := HG.out; have := HG2.out; omega), (HM6.out).keep hs3 HX2.out (by decide) (by decide) (by decide)⟩
set_option maxRecDepth 100000 in
set_option maxHeartbeats 2000000 in
theorem cond_3 {w : World} {base : Nat} {v : Mv} {m : Mem} (hm : MemAt base w v m) (ho : Ok m) {h a : Nat} {n : Int} (hb : busy m h a = 0) (hh : isH m h = true) (hw : isW m a = true) (hr : resN m h ≠ (a : Int)) :
    Calls Try.prog 20 #[.agg #[.slice v.w.p v.w.n v.w.c, .slice v.p.p v.p.n v.p.c, .slice v.r.p v.r.n v.r.c], .int .i64 (h : Int), .int .i64 (a : Int), .int .i64 n] w (Told3 (.bool false) (setR m h (-1)) 0 w) := by
  obtain ⟨hb1, hx1, hx2⟩ := box2 w #[.slice v.w.p v.w.n v.w.c, .slice v.p.p v.p.n v.p.c, .slice v.r.p v.r.n v.r.c] 27 #[.slice none 0 0, .slice none 0 0, .slice none 0 0] 27
  have HM := Lib.hid hm
  have HO := Lib.hid ho
  have HBY := Lib.hid hb
  have HH := Lib.hid hh
  have HW := Lib.hid hw
  have HR0 := Lib.hid hr
  clear hm ho hb hh hw hr
  go_enter Try.func20, Try.ntmps20
  go_upto_region 1 with (fail)
  generalize hW1 : ((w.alloc (.cells #[.slice v.w.p v.w.n v.w.c, .slice v.p.p v.p.n v.p.c, .slice v.r.p v.r.n v.r.c] 27)).alloc (.cells #[.slice none 0 0, .slice none 0 0, .slice none 0 0] 27)) = W1 at hb1 hx1 hx2 ⊢
  clear hW1
  have HN12 : Hid (w.heap.size ≠ w.heap.size + 1) := Lib.hid (by omega)
  have HG2 : Hid (w.heap.size ≤ w.heap.size + 1) := Lib.hid (by omega)
  generalize w.heap.size + 1 = g2 at hx2 HN12 HG2 ⊢
  obtain ⟨g1, hG⟩ : ∃ G, w.heap.size = G := ⟨_, rfl⟩
  rw [hG] at hx1 HN12 HG2 ⊢
  have HG := Lib.hid hG
  have HB := Lib.hid hb1
  have HX1 := Lib.hid hx1
  have HX2 := Lib.hid hx2
  clear hb1 hx1 hx2 hG
  have k0 := cell_of_heap HX1.out 0
  have kf0 := frozen_of_heap HX1.out 0
  have k1 := cell_of_heap HX1.out 1
  have kf1 := frozen_of_heap HX1.out 1
  have k2 := cell_of_heap HX1.out 2
  have kf2 := frozen_of_heap HX1.out 2
  simp only [List.getElem?_toArray, List.getElem?_cons_zero, List.getElem?_cons_succ] at k0 k1 k2
  have z0 := cell_of_heap HX2.out 0
  have zf0 := frozen_of_heap HX2.out 0
  have z1 := cell_of_heap HX2.out 1
  have zf1 := frozen_of_heap HX2.out 1
  have z2 := cell_of_heap HX2.out 2
  have zf2 := frozen_of_heap HX2.out 2
  simp only [List.getElem?_toArray, List.getElem?_cons_zero, List.getElem?_cons_succ] at z0 z1 z2
  go_upto_region 4 with (first | (go_at_call 42; ((with_reducible refine (atOnce_lit (HM.out.bel HB.out) HO.out HBY.out).mono ?_); rintro e wa ⟨rfl, hbz⟩; have HB := Lib.hid (HB.out.trans hbz); have HX1 := Lib.hid (hbz.stays HX1.out); have HX2 := Lib.hid (hbz.stays HX2.out); have k0 := cell_of_heap HX1.out 0; have kf0 := frozen_of_heap HX1.out 0; have k1 := cell_of_heap HX1.out 1; have kf1 := frozen_of_heap HX1.out 1; have k2 := cell_of_heap HX1.out 2; have kf2 := frozen_of_heap HX1.out 2; simp only [List.getElem?_toArray, List.getElem?_cons_zero, List.getElem?_cons_succ] at k0 k1 k2; have z0 := cell_of_heap HX2.out 0; have zf0 := frozen_of_heap HX2.out 0; have z1 := cell_of_heap HX2.out 1; have zf1 := frozen_of_heap HX2.out 1; have z2 := cell_of_heap HX2.out 2; have zf2 := frozen_of_heap HX2.out 2; simp only [List.getElem?_toArray, List.getElem?_cons_zero, List.getElem?_cons_succ] at z0 z1 z2; clear hbz)))
  skip
  go_upto_region 5 with (first | (go_at_call 32; ((with_reducible refine (copied_any (HM.out.bel HB.out) HO.out).mono ?_); rintro e wc ⟨u, rfl, hbz, hmu⟩; have HBC := Lib.hid (HB.out.trans hbz); have HY1 := Lib.hid (hbz.stays HX1.out); have HY2 := Lib.hid (hbz.stays HX2.out); have HMU := Lib.hid (hmu.mono (show w.heap.size ≤ _ from HB.out.size)); have k0 := cell_of_heap HY1.out 0; have kf0 := frozen_of_heap HY1.out 0; have k1 := cell_of_heap HY1.out 1; have kf1 := frozen_of_heap HY1.out 1; have k2 := cell_of_heap HY1.out 2; have kf2 := frozen_of_heap HY1.out 2; simp only [List.getElem?_toArray, List.getElem?_cons_zero, List.getElem?_cons_succ] at k0 k1 k2; have z0 := cell_of_heap HY2.out 0; have zf0 := frozen_of_heap HY2.out 0; have z1 := cell_of_heap HY2.out 1; have zf1 := frozen_of_heap HY2.out 1; have z2 := cell_of_heap HY2.out 2; have zf2 := frozen_of_heap HY2.out 2; simp only [List.getElem?_toArray, List.getElem?_cons_zero, List.getElem?_cons_succ] at z0 z1 z2; clear hbz hmu)))
  try clear k0 k1 k2 kf0 kf1 kf2 z0 z1 z2 zf0 zf1 zf2
  have hs3 : Svg g1 wc (((wc.setCell ⟨g1, 0, none⟩ (.slice u.w.p u.w.n u.w.c)).setCell ⟨g1, 1, none⟩ (.slice u.p.p u.p.n u.p.c)).setCell ⟨g1, 2, none⟩ (.slice u.r.p u.r.n u.r.c)) := set3_svg _ _ _ _ _
  have hx1 := set3_heap HY1.out (.slice u.w.p u.w.n u.w.c) (.slice u.p.p u.p.n u.p.c) (.slice u.r.p u.r.n u.r.c)
  generalize hWW : (((wc.setCell ⟨g1, 0, none⟩ (.slice u.w.p u.w.n u.w.c)).setCell ⟨g1, 1, none⟩ (.slice u.p.p u.p.n u.p.c)).setCell ⟨g1, 2, none⟩ (.slice u.r.p u.r.n u.r.c)) = W5 at hs3 hx1 ⊢
  clear hWW
  have HB := Lib.hid (hs3.bel HBC.out (by rw [HG.out]; exact Nat.le_refl _))
  have HX1 := Lib.hid hx1
  have HX2 := Lib.hid ((hs3.block g2 (lt_of_heap HY2.out) HN12.out.symm).trans HY2.out)
  have HMU := Lib.hid (HMU.out.keep hs3 HY1.out (by decide) (by decide) (by decide))
  clear hs3 hx1 HY1 HY2 HBC
  have k0 := cell_of_heap HX1.out 0
  have kf0 := frozen_of_heap HX1.out 0
  have k1 := cell_of_heap HX1.out 1
  have kf1 := frozen_of_heap HX1.out 1
  have k2 := cell_of_heap HX1.out 2
  have kf2 := frozen_of_heap HX1.out 2
  simp only [List.getElem?_toArray, List.getElem?_cons_zero, List.getElem?_cons_succ] at k0 k1 k2
  have z0 := cell_of_heap HX2.out 0
  have zf0 := frozen_of_heap HX2.out 0
  have z1 := cell_of_heap HX2.out 1
  have zf1 := frozen_of_heap HX2.out 1
  have z2 := cell_of_heap HX2.out 2
  have zf2 := frozen_of_heap HX2.out 2
  simp only [List.getElem?_toArray, List.getElem?_cons_zero, List.getElem?_cons_succ] at z0 z1 z2
  obtain ⟨br, csr, er, hbr, hgr, hler, hltr, cr, crf⟩ := HMU.out.resv HO.out HH.out
  obtain ⟨⟨uwp, uwn, uwc⟩, ⟨upp, upn, upc⟩, ⟨urp, urn, urc⟩, urows⟩ := u
  simp only at er hler hltr
  have hq : (resN m h == (a : Int)) = false := beq_eq_false_iff_ne.2 HR0.out
  subst er
  skip
  go_upto_region 9 with (fail)
  have hs6 : Ivg w.heap.size W5 (W5.setCell ⟨br, h, none⟩ (.int .i64 (-1))) := setInt_ivg hbr hgr _ _
  have hm6 := HMU.out.setRs rfl (a := h) (by have := HO.out.pr; have := isH_iff.1 HH.out; omega) (-1)
  have hx1 := hs6.stays HX1.out (by decide)
  have hx2 := hs6.stays HX2.out (by decide)
  have hb6 := hs6.bel HB.out (Nat.le_refl _)
  generalize W5.setCell ⟨br, h, none⟩ (.int .i64 (-1)) = W8 at hs6 hm6 hx1 hx2 hb6 ⊢
  have HX1 := Lib.hid hx1
  have HX2 := Lib.hid hx2
  have HB := Lib.hid hb6
  have HM6 := Lib.hid hm6
  clear hs6 hm6 hx1 hx2 hb6 k0 k1 k2 kf0 kf1 kf2 z0 z1 z2 zf0 zf1 zf2
  have k0 := cell_of_heap HX1.out 0
  have kf0 := frozen_of_heap HX1.out 0
  have k1 := cell_of_heap HX1.out 1
  have kf1 := frozen_of_heap HX1.out 1
  have k2 := cell_of_heap HX1.out 2
  have kf2 := frozen_of_heap HX1.out 2
  simp only [List.getElem?_toArray, List.getElem?_cons_zero, List.getElem?_cons_succ] at k0 k1 k2
  have z0 := cell_of_heap HX2.out 0
  have zf0 := frozen_of_heap HX2.out 0
  have z1 := cell_of_heap HX2.out 1
  have zf1 := frozen_of_heap HX2.out 1
  have z2 := cell_of_heap HX2.out 2
  have zf2 := frozen_of_heap HX2.out 2
  simp only [List.getElem?_toArray, List.getElem?_cons_zero, List.getElem?_cons_succ] at z0 z1 z2
  clear cr crf hbr hgr
  go_region
  go_wp2_with (fail)
  have hs3 : Svg g2 W8 (((W8.setCell ⟨g2, 0, none⟩ (.slice uwp uwn uwc)).setCell ⟨g2, 1, none⟩ (.slice upp upn upc)).setCell ⟨g2, 2, none⟩ (.slice (some ⟨br, 0, none⟩) urn urc)).drew := (set3_svg _ _ _ _ _).trans ((Bel.refl _).drew.svg g2)
  have hh : (((W8.setCell ⟨g2, 0, none⟩ (.slice uwp uwn uwc)).setCell ⟨g2, 1, none⟩ (.slice upp upn upc)).setCell ⟨g2, 2, none⟩ (.slice (some ⟨br, 0, none⟩) urn urc)).drew.heap[g2]? = some (.cells #[.slice uwp uwn uwc, .slice upp upn upc, .slice (some ⟨br, 0, none⟩) urn urc] 27 (0, 0)) := set3_heap HX2.out _ _ _
  exact bodyPost_ret (results_slot_cell_slot Try.results20 _ _ g2 _ _ _ _ _ _ rfl rfl rfl hh Try.underlying27 rfl (by kernel_rfl)) rfl ⟨⟨⟨uwp, uwn, uwc⟩, ⟨upp, upn, upc⟩, ⟨some ⟨br, 0, none⟩, urn, urc⟩, urows⟩, rfl, hs3.bel HB.out (by have := HG.out; have := HG2.out; omega), (HM6.out).keep hs3 HX2.out (by decide) (by decide) (by decide)⟩
theorem isOperator_lit {op : Int} {r : Bool} (hr : (isTwo op || decide (op = 0)) = r) (w : World) :
    Calls Try.prog 43 #[.int .i64 op] w fun e w' => e = .returned (.bool r) ∧ w = w' := by
  subst hr
  cases ht : isTwo op with
  | true =>
    have HT := Lib.hid ht
    clear ht
    go_enter Try.func43, Try.ntmps43
    go_wp2_with (go_at_call 52; ((with_reducible refine (two_val rfl HT.out _).mono ?_); rintro e wq ⟨rfl, rfl⟩))
    go_ret
    exact ⟨rfl, rfl⟩
  | false =>
    have HT := Lib.hid ht
    clear ht
    by_cases h0 : op = 0
    · subst h0
      go_enter Try.func43, Try.ntmps43
      go_wp2_with (go_at_call 52; ((with_reducible refine (two_val rfl HT.out _).mono ?_); rintro e wq ⟨rfl, rfl⟩))
      go_ret
      exact ⟨rfl, rfl⟩
    · have hb : (op == 0) = false := beq_eq_false_iff_ne.2 h0
      have hd : (false || decide (op = 0)) = false := by simp [h0]
      have HD := Lib.hid hd
      clear h0 hd
      go_enter Try.func43, Try.ntmps43
      go_wp2_with (go_at_call 52; ((with_reducible refine (two_val rfl HT.out _).mono ?_); rintro e wq ⟨rfl, rfl⟩))
      go_ret
      exact ⟨rb HD.out.symm, rfl⟩
theorem changed_lit {old op n r : Int} (hr : opOf old op n = r) (w : World) :
    Calls Try.prog 44 #[.int .i64 old, .int .i64 op, .int .i64 n] w fun e w' => e = .returned (.int .i64 r) ∧ w = w' := by
  unfold opOf at hr
  by_cases h0 : op = 0
  · rw [if_pos h0] at hr
    subst h0
    have HR := Lib.hid hr
    clear hr
    go_enter Try.func44, Try.ntmps44
    go_wp2_with (go_at_call 33; ((with_reducible refine (wrap_any _ _).mono ?_); rintro e wq ⟨rfl, rfl⟩))
    go_ret
    exact ⟨ri HR.out, rfl⟩
  · rw [if_neg h0] at hr
    have hb : (op == 0) = false := beq_eq_false_iff_ne.2 h0
    have HR := Lib.hid hr
    clear h0 hr
    go_enter Try.func44, Try.ntmps44
    go_wp2_with (go_at_call 52; ((with_reducible refine (two_val HR.out rfl _).mono ?_); rintro e wq ⟨rfl, rfl⟩))
    go_ret
    exact ⟨rfl, rfl⟩
set_option maxRecDepth 100000 in
set_option maxHeartbeats 2000000 in
theorem change_1 {w : World} {base : Nat} {v : Mv} {m : Mem} (hm : MemAt base w v m) (ho : Ok m) {h a op n : Int} (hop : (isTwo op || decide (op = 0)) = false) :
    Calls Try.prog 22 #[.agg #[.slice v.w.p v.w.n v.w.c, .slice v.p.p v.p.n v.p.c, .slice v.r.p v.r.n v.r.c], .int .i64 h, .int .i64 a, .int .i64 op, .int .i64 n] w (Told3 (.int .i64 0) zero 1 w) := by
  obtain ⟨hb1, hx1, hx2⟩ := box2 w #[.slice v.w.p v.w.n v.w.c, .slice v.p.p v.p.n v.p.c, .slice v.r.p v.r.n v.r.c] 27 #[.slice none 0 0, .slice none 0 0, .slice none 0 0] 27
  have HM := Lib.hid hm
  have HO := Lib.hid ho
  have HOP := Lib.hid hop
  clear hm ho hop
  go_enter Try.func22, Try.ntmps22
  go_upto_region 1 with (fail)
  generalize hW1 : ((w.alloc (.cells #[.slice v.w.p v.w.n v.w.c, .slice v.p.p v.p.n v.p.c, .slice v.r.p v.r.n v.r.c] 27)).alloc (.cells #[.slice none 0 0, .slice none 0 0, .slice none 0 0] 27)) = W1 at hb1 hx1 hx2 ⊢
  clear hW1
  have HN12 : Hid (w.heap.size ≠ w.heap.size + 1) := Lib.hid (by omega)
  have HG2 : Hid (w.heap.size ≤ w.heap.size + 1) := Lib.hid (by omega)
  generalize w.heap.size + 1 = g2 at hx2 HN12 HG2 ⊢
  obtain ⟨g1, hG⟩ : ∃ G, w.heap.size = G := ⟨_, rfl⟩
  rw [hG] at hx1 HN12 HG2 ⊢
  have HG := Lib.hid hG
  have HB := Lib.hid hb1
  have HX1 := Lib.hid hx1
  have HX2 := Lib.hid hx2
  clear hb1 hx1 hx2 hG
  have k0 := cell_of_heap HX1.out 0
  have kf0 := frozen_of_heap HX1.out 0
  have k1 := cell_of_heap HX1.out 1
  have kf1 := frozen_of_heap HX1.out 1
  have k2 := cell_of_heap HX1.out 2
  have kf2 := frozen_of_heap HX1.out 2
  simp only [List.getElem?_toArray, List.getElem?_cons_zero, List.getElem?_cons_succ] at k0 k1 k2
  have z0 := cell_of_heap HX2.out 0
  have zf0 := frozen_of_heap HX2.out 0
  have z1 := cell_of_heap HX2.out 1
  have zf1 := frozen_of_heap HX2.out 1
  have z2 := cell_of_heap HX2.out 2
  have zf2 := frozen_of_heap HX2.out 2
  simp only [List.getElem?_toArray, List.getElem?_cons_zero, List.getElem?_cons_succ] at z0 z1 z2
  go_wp2_with (first | (go_at_call 43; ((with_reducible refine (isOperator_lit HOP.out _).mono ?_); rintro e wq ⟨rfl, rfl⟩)))
  have hs3 : Svg g2 W1 (((W1.setCell ⟨g2, 0, none⟩ (.slice none 0 0)).setCell ⟨g2, 1, none⟩ (.slice none 0 0)).setCell ⟨g2, 2, none⟩ (.slice none 0 0)) := set3_svg _ _ _ _ _
  have hh := set3_heap HX2.out (.slice none 0 0) (.slice none 0 0) (.slice none 0 0)
  exact bodyPost_ret (results_slot_cell_slot Try.results22 _ _ g2 _ _ _ _ _ _ rfl rfl rfl hh Try.underlying27 rfl (by kernel_rfl)) rfl ⟨nilM, rfl, hs3.bel HB.out (by have := HG.out; have := HG2.out; omega), MemAt.zero _ _⟩
set_option maxRecDepth 100000 in
set_option maxHeartbeats 2000000 in
theorem change_2 {w : World} {base : Nat} {v : Mv} {m : Mem} (hm : MemAt base w v m) (ho : Ok m) {h a op n r : Int} (hop : (isTwo op || decide (op = 0)) = true) (hb : busy m h a = r) (hr : r ≠ 0) :
    Calls Try.prog 22 #[.agg #[.slice v.w.p v.w.n v.w.c, .slice v.p.p v.p.n v.p.c, .slice v.r.p v.r.n v.r.c], .int .i64 h, .int .i64 a, .int .i64 op, .int .i64 n] w (Told3 (.int .i64 0) zero r w) := by
  obtain ⟨hb1, hx1, hx2⟩ := box2 w #[.slice v.w.p v.w.n v.w.c, .slice v.p.p v.p.n v.p.c, .slice v.r.p v.r.n v.r.c] 27 #[.slice none 0 0, .slice none 0 0, .slice none 0 0] 27
  have HM := Lib.hid hm
  have HO := Lib.hid ho
  have HOP := Lib.hid hop
  have HBY := Lib.hid hb
  clear hm ho hop hb
  go_enter Try.func22, Try.ntmps22
  go_upto_region 1 with (fail)
  generalize hW1 : ((w.alloc (.cells #[.slice v.w.p v.w.n v.w.c, .slice v.p.p v.p.n v.p.c, .slice v.r.p v.r.n v.r.c] 27)).alloc (.cells #[.slice none 0 0, .slice none 0 0, .slice none 0 0] 27)) = W1 at hb1 hx1 hx2 ⊢
  clear hW1
  have HN12 : Hid (w.heap.size ≠ w.heap.size + 1) := Lib.hid (by omega)
  have HG2 : Hid (w.heap.size ≤ w.heap.size + 1) := Lib.hid (by omega)
  generalize w.heap.size + 1 = g2 at hx2 HN12 HG2 ⊢
  obtain ⟨g1, hG⟩ : ∃ G, w.heap.size = G := ⟨_, rfl⟩
  rw [hG] at hx1 HN12 HG2 ⊢
  have HG := Lib.hid hG
  have HB := Lib.hid hb1
  have HX1 := Lib.hid hx1
  have HX2 := Lib.hid hx2
  clear hb1 hx1 hx2 hG
  have k0 := cell_of_heap HX1.out 0
  have kf0 := frozen_of_heap HX1.out 0
  have k1 := cell_of_heap HX1.out 1
  have kf1 := frozen_of_heap HX1.out 1
  have k2 := cell_of_heap HX1.out 2
  have kf2 := frozen_of_heap HX1.out 2
  simp only [List.getElem?_toArray, List.getElem?_cons_zero, List.getElem?_cons_succ] at k0 k1 k2
  have z0 := cell_of_heap HX2.out 0
  have zf0 := frozen_of_heap HX2.out 0
  have z1 := cell_of_heap HX2.out 1
  have zf1 := frozen_of_heap HX2.out 1
  have z2 := cell_of_heap HX2.out 2
  have zf2 := frozen_of_heap HX2.out 2
  simp only [List.getElem?_toArray, List.getElem?_cons_zero, List.getElem?_cons_succ] at z0 z1 z2
  have hnz : (r != 0) = true := bne_iff_ne.2 hr
  clear hr
  go_wp2_with (first | (go_at_call 43; ((with_reducible refine (isOperator_lit HOP.out _).mono ?_); rintro e wq ⟨rfl, rfl⟩)) | (go_at_call 42; ((with_reducible refine (atOnce_lit (HM.out.bel HB.out) HO.out HBY.out).mono ?_); rintro e wa ⟨rfl, hbz⟩; have HB := Lib.hid (HB.out.trans hbz); have HX1 := Lib.hid (hbz.stays HX1.out); have HX2 := Lib.hid (hbz.stays HX2.out); have k0 := cell_of_heap HX1.out 0; have kf0 := frozen_of_heap HX1.out 0; have k1 := cell_of_heap HX1.out 1; have kf1 := frozen_of_heap HX1.out 1; have k2 := cell_of_heap HX1.out 2; have kf2 := frozen_of_heap HX1.out 2; simp only [List.getElem?_toArray, List.getElem?_cons_zero, List.getElem?_cons_succ] at k0 k1 k2; have z0 := cell_of_heap HX2.out 0; have zf0 := frozen_of_heap HX2.out 0; have z1 := cell_of_heap HX2.out 1; have zf1 := frozen_of_heap HX2.out 1; have z2 := cell_of_heap HX2.out 2; have zf2 := frozen_of_heap HX2.out 2; simp only [List.getElem?_toArray, List.getElem?_cons_zero, List.getElem?_cons_succ] at z0 z1 z2; clear hbz)))
  have hs3 : Svg g2 wa (((wa.setCell ⟨g2, 0, none⟩ (.slice none 0 0)).setCell ⟨g2, 1, none⟩ (.slice none 0 0)).setCell ⟨g2, 2, none⟩ (.slice none 0 0)) := set3_svg _ _ _ _ _
  have hh := set3_heap HX2.out (.slice none 0 0) (.slice none 0 0) (.slice none 0 0)
  exact bodyPost_ret (results_slot_cell_slot Try.results22 _ _ g2 _ _ _ _ _ _ rfl rfl rfl hh Try.underlying27 rfl (by kernel_rfl)) rfl ⟨nilM, rfl, hs3.bel HB.out (by have := HG.out; have := HG2.out; omega), MemAt.zero _ _⟩
set_option maxRecDepth 100000 in
set_option maxHeartbeats 2000000 in
theorem change_3 {w : World} {base : Nat} {v : Mv} {m : Mem} (hm : MemAt base w v m) (ho : Ok m) {h a : Nat} {op n : Int} (hop : (isTwo op || decide (op = 0)) = true) (hb : busy m h a = 0) (hh : isH m h = true) (hw : isW m a = true) :
    Calls Try.prog 22 #[.agg #[.slice v.w.p v.w.n v.w.c, .slice v.p.p v.p.n v.p.c, .slice v.r.p v.r.n v.r.c], .int .i64 (h : Int), .int .i64 (a : Int), .int .i64 op, .int .i64 n] w (Told3 (.int .i64 (wordN m a)) (arr m h a (opOf (wordN m a) op n)) 0 w) := by
  obtain ⟨hb1, hx1, hx2⟩ := box2 w #[.slice v.w.p v.w.n v.w.c, .slice v.p.p v.p.n v.p.c, .slice v.r.p v.r.n v.r.c] 27 #[.slice none 0 0, .slice none 0 0, .slice none 0 0] 27
  have HM := Lib.hid hm
  have HO := Lib.hid ho
  have HOP := Lib.hid hop
  have HBY := Lib.hid hb
  have HH := Lib.hid hh
  have HW := Lib.hid hw
  clear hm ho hop hb hh hw
  go_enter Try.func22, Try.ntmps22
  go_upto_region 1 with (fail)
  generalize hW1 : ((w.alloc (.cells #[.slice v.w.p v.w.n v.w.c, .slice v.p.p v.p.n v.p.c, .slice v.r.p v.r.n v.r.c] 27)).alloc (.cells #[.slice none 0 0, .slice none 0 0, .slice none 0 0] 27)) = W1 at hb1 hx1 hx2 ⊢
  clear hW1
  have HN12 : Hid (w.heap.size ≠ w.heap.size + 1) := Lib.hid (by omega)
  have HG2 : Hid (w.heap.size ≤ w.heap.size + 1) := Lib.hid (by omega)
  generalize w.heap.size + 1 = g2 at hx2 HN12 HG2 ⊢
  obtain ⟨g1, hG⟩ : ∃ G, w.heap.size = G := ⟨_, rfl⟩
  rw [hG] at hx1 HN12 HG2 ⊢
  have HG := Lib.hid hG
  have HB := Lib.hid hb1
  have HX1 := Lib.hid hx1
  have HX2 := Lib.hid hx2
  clear hb1 hx1 hx2 hG
  have k0 := cell_of_heap HX1.out 0
  have kf0 := frozen_of_heap HX1.out 0
  have k1 := cell_of_heap HX1.out 1
  have kf1 := frozen_of_heap HX1.out 1
  have k2 := cell_of_heap HX1.out 2
  have kf2 := frozen_of_heap HX1.out 2
  simp only [List.getElem?_toArray, List.getElem?_cons_zero, List.getElem?_cons_succ] at k0 k1 k2
  have z0 := cell_of_heap HX2.out 0
  have zf0 := frozen_of_heap HX2.out 0
  have z1 := cell_of_heap HX2.out 1
  have zf1 := frozen_of_heap HX2.out 1
  have z2 := cell_of_heap HX2.out 2
  have zf2 := frozen_of_heap HX2.out 2
  simp only [List.getElem?_toArray, List.getElem?_cons_zero, List.getElem?_cons_succ] at z0 z1 z2
  go_upto_region 6 with (first | (go_at_call 43; ((with_reducible refine (isOperator_lit HOP.out _).mono ?_); rintro e wq ⟨rfl, rfl⟩)) | (go_at_call 42; ((with_reducible refine (atOnce_lit (HM.out.bel HB.out) HO.out HBY.out).mono ?_); rintro e wa ⟨rfl, hbz⟩; have HB := Lib.hid (HB.out.trans hbz); have HX1 := Lib.hid (hbz.stays HX1.out); have HX2 := Lib.hid (hbz.stays HX2.out); have k0 := cell_of_heap HX1.out 0; have kf0 := frozen_of_heap HX1.out 0; have k1 := cell_of_heap HX1.out 1; have kf1 := frozen_of_heap HX1.out 1; have k2 := cell_of_heap HX1.out 2; have kf2 := frozen_of_heap HX1.out 2; simp only [List.getElem?_toArray, List.getElem?_cons_zero, List.getElem?_cons_succ] at k0 k1 k2; have z0 := cell_of_heap HX2.out 0; have zf0 := frozen_of_heap HX2.out 0; have z1 := cell_of_heap HX2.out 1; have zf1 := frozen_of_heap HX2.out 1; have z2 := cell_of_heap HX2.out 2; have zf2 := frozen_of_heap HX2.out 2; simp only [List.getElem?_toArray, List.getElem?_cons_zero, List.getElem?_cons_succ] at z0 z1 z2; clear hbz)))
  skip
  go_upto_region 7 with (first | (go_at_call 32; ((with_reducible refine (copied_any (HM.out.bel HB.out) HO.out).mono ?_); rintro e wc ⟨u, rfl, hbz, hmu⟩; have HBC := Lib.hid (HB.out.trans hbz); have HY1 := Lib.hid (hbz.stays HX1.out); have HY2 := Lib.hid (hbz.stays HX2.out); have HMU := Lib.hid (hmu.mono (show w.heap.size ≤ _ from HB.out.size)); have k0 := cell_of_heap HY1.out 0; have kf0 := frozen_of_heap HY1.out 0; have k1 := cell_of_heap HY1.out 1; have kf1 := frozen_of_heap HY1.out 1; have k2 := cell_of_heap HY1.out 2; have kf2 := frozen_of_heap HY1.out 2; simp only [List.getElem?_toArray, List.getElem?_cons_zero, List.getElem?_cons_succ] at k0 k1 k2; have z0 := cell_of_heap HY2.out 0; have zf0 := frozen_of_heap HY2.out 0; have z1 := cell_of_heap HY2.out 1; have zf1 := frozen_of_heap HY2.out 1; have z2 := cell_of_heap HY2.out 2; have zf2 := frozen_of_heap HY2.out 2; simp only [List.getElem?_toArray, List.getElem?_cons_zero, List.getElem?_cons_succ] at z0 z1 z2; clear hbz hmu)))
  try clear k0 k1 k2 kf0 kf1 kf2 z0 z1 z2 zf0 zf1 zf2
  have hs3 : Svg g1 wc (((wc.setCell ⟨g1, 0, none⟩ (.slice u.w.p u.w.n u.w.c)).setCell ⟨g1, 1, none⟩ (.slice u.p.p u.p.n u.p.c)).setCell ⟨g1, 2, none⟩ (.slice u.r.p u.r.n u.r.c)) := set3_svg _ _ _ _ _
  have hx1 := set3_heap HY1.out (.slice u.w.p u.w.n u.w.c) (.slice u.p.p u.p.n u.p.c) (.slice u.r.p u.r.n u.r.c)
  generalize hWW : (((wc.setCell ⟨g1, 0, none⟩ (.slice u.w.p u.w.n u.w.c)).setCell ⟨g1, 1, none⟩ (.slice u.p.p u.p.n u.p.c)).setCell ⟨g1, 2, none⟩ (.slice u.r.p u.r.n u.r.c)) = W5 at hs3 hx1 ⊢
  clear hWW
  have HB := Lib.hid (hs3.bel HBC.out (by rw [HG.out]; exact Nat.le_refl _))
  have HX1 := Lib.hid hx1
  have HX2 := Lib.hid ((hs3.block g2 (lt_of_heap HY2.out) HN12.out.symm).trans HY2.out)
  have HMU := Lib.hid (HMU.out.keep hs3 HY1.out (by decide) (by decide) (by decide))
  clear hs3 hx1 HY1 HY2 HBC
  have k0 := cell_of_heap HX1.out 0
  have kf0 := frozen_of_heap HX1.out 0
  have k1 := cell_of_heap HX1.out 1
  have kf1 := frozen_of_heap HX1.out 1
  have k2 := cell_of_heap HX1.out 2
  have kf2 := frozen_of_heap HX1.out 2
  simp only [List.getElem?_toArray, List.getElem?_cons_zero, List.getElem?_cons_succ] at k0 k1 k2
  have z0 := cell_of_heap HX2.out 0
  have zf0 := frozen_of_heap HX2.out 0
  have z1 := cell_of_heap HX2.out 1
  have zf1 := frozen_of_heap HX2.out 1
  have z2 := cell_of_heap HX2.out 2
  have zf2 := frozen_of_heap HX2.out 2
  simp only [List.getElem?_toArray, List.getElem?_cons_zero, List.getElem?_cons_succ] at z0 z1 z2
  obtain ⟨bw, csw, ew, hbw, hgw, hlew, hltw, cw, cwf⟩ := HMU.out.word HW.out
  obtain ⟨⟨uwp, uwn, uwc⟩, ⟨upp, upn, upc⟩, ⟨urp, urn, urc⟩, urows⟩ := u
  simp only at ew hlew hltw
  subst ew
  clear hbw hgw cwf
  go_upto_region 8 with (fail)
  clear cw
  go_upto_region 8 with (fail)
  have HKEEP : Hid (∀ w', Ivg w.heap.size W5 w' → w'.cell? ⟨g1, 0, none⟩ = some (.slice (some ⟨bw, 0, none⟩) uwn uwc) ∧ w'.cell? ⟨g1, 1, none⟩ = some (.slice upp upn upc) ∧ w'.cell? ⟨g1, 2, none⟩ = some (.slice urp urn urc)) := Lib.hid (fun w' h => by
    have h1 := h.stays HX1.out (by decide)
    exact ⟨cell_of_heap h1 0, cell_of_heap h1 1, cell_of_heap h1 2⟩)
  have HIV : Hid (Ivg w.heap.size W5 W5.drew) := Lib.hid ((Bel.refl W5).drew.ivg _)
  have HIV0 : Hid (Ivg w.heap.size W5 W5) := Lib.hid ((Bel.refl W5).ivg _)
  have HM7 := Lib.hid (HMU.out.bel (Bel.refl W5).drew)
  try (clear k0 k1 k2)
  go_region_held3 (fun w' => w'.cell? ⟨g1, 0, none⟩ = some (.slice (some ⟨bw, 0, none⟩) uwn uwc) ∧ w'.cell? ⟨g1, 1, none⟩ = some (.slice upp upn upc) ∧ w'.cell? ⟨g1, 2, none⟩ = some (.slice urp urn urc))
    (first | exact HKEEP.out _ HIV.out | exact HKEEP.out _ HIV0.out)
    (first | (go_at_call 44; ((with_reducible refine (changed_lit rfl _).mono ?_); rintro e wq ⟨rfl, rfl⟩)) | (go_at_call 39; ((with_reducible refine (arrive_any HM7.out HO.out HW.out HH.out (opOf (wordN m a) op n)).mono ?_); rintro e W7 ⟨rfl, hm7, hiv⟩; have HM7 := Lib.hid hm7; have HIV := Lib.hid (HIV.out.trans hiv); clear hm7 hiv)))
  have hx1 := HIV.out.stays HX1.out (by decide)
  have hx2 := HIV.out.stays HX2.out (by decide)
  have hb7 := HIV.out.bel HB.out (Nat.le_refl _)
  have HX1 := Lib.hid hx1
  have HX2 := Lib.hid hx2
  have HB := Lib.hid hb7
  clear hx1 hx2 hb7
  have k0 := cell_of_heap HX1.out 0
  have kf0 := frozen_of_heap HX1.out 0
  have k1 := cell_of_heap HX1.out 1
  have kf1 := frozen_of_heap HX1.out 1
  have k2 := cell_of_heap HX1.out 2
  have kf2 := frozen_of_heap HX1.out 2
  simp only [List.getElem?_toArray, List.getElem?_cons_zero, List.getElem?_cons_succ] at k0 k1 k2
  have z0 := cell_of_heap HX2.out 0
  have zf0 := frozen_of_heap HX2.out 0
  have z1 := cell_of_heap HX2.out 1
  have zf1 := frozen_of_heap HX2.out 1
  have z2 := cell_of_heap HX2.out 2
  have zf2 := frozen_of_heap HX2.out 2
  simp only [List.getElem?_toArray, List.getElem?_cons_zero, List.getElem?_cons_succ] at z0 z1 z2
  go_upto_region 9 with (fail)
  clear HKEEP HIV HIV0
  go_region
  go_wp2_with (fail)
  have hs3 : Svg g2 W7 (((W7.setCell ⟨g2, 0, none⟩ (.slice (some ⟨bw, 0, none⟩) uwn uwc)).setCell ⟨g2, 1, none⟩ (.slice upp upn upc)).setCell ⟨g2, 2, none⟩ (.slice urp urn urc)).drew := (set3_svg _ _ _ _ _).trans ((Bel.refl _).drew.svg g2)
  have hh : (((W7.setCell ⟨g2, 0, none⟩ (.slice (some ⟨bw, 0, none⟩) uwn uwc)).setCell ⟨g2, 1, none⟩ (.slice upp upn upc)).setCell ⟨g2, 2, none⟩ (.slice urp urn urc)).drew.heap[g2]? = some (.cells #[.slice (some ⟨bw, 0, none⟩) uwn uwc, .slice upp upn upc, .slice urp urn urc] 27 (0, 0)) := set3_heap HX2.out _ _ _
  exact bodyPost_ret (results_slot_cell_slot Try.results22 _ _ g2 _ _ _ _ _ _ rfl rfl rfl hh Try.underlying27 rfl (by kernel_rfl)) rfl ⟨⟨⟨some ⟨bw, 0, none⟩, uwn, uwc⟩, ⟨upp, upn, upc⟩, ⟨urp, urn, urc⟩, urows⟩, rfl, hs3.bel HB.out (by have := HG.out; have := HG2.out; omega), (HM7.out).keep hs3 HX2.out (by decide) (by decide) (by decide)⟩
theorem nat_of {h a : Int} {m : Mem} (hh : isH m h = true) (hw : isW m a = true) : ∃ hN aN : Nat, h = hN ∧ a = aN := ⟨h.toNat, a.toNat, by have := isH_iff.1 hh; omega, by have := isW_iff.1 hw; omega⟩
theorem reserve_lit {w : World} {base : Nat} {v : Mv} {m : Mem} (hm : MemAt base w v m) (ho : Ok m) {h a x : Int} {m' : Mem} {r : Int} (hr : reserveV m h a = (x, m', r)) :
    Calls Try.prog 18 #[.agg #[.slice v.w.p v.w.n v.w.c, .slice v.p.p v.p.n v.p.c, .slice v.r.p v.r.n v.r.c], .int .i64 h, .int .i64 a] w (Told3 (.int .i64 x) m' r w) := by
  unfold reserveV at hr
  by_cases hb : busy m h a = 0
  · rw [if_pos hb] at hr
    obtain ⟨hh, hw, _⟩ := busy_0 hb
    obtain ⟨hN, aN, rfl, rfl⟩ := nat_of hh hw
    injection hr with h1 h2; injection h2 with h2 h3
    rw [← h1, ← h2, ← h3]
    exact reserve_2 hm ho hb hh hw
  · rw [if_neg hb] at hr
    injection hr with h1 h2; injection h2 with h2 h3
    rw [← h1, ← h2, ← h3]
    exact reserve_1 hm ho rfl hb
theorem cond_lit {w : World} {base : Nat} {v : Mv} {m : Mem} (hm : MemAt base w v m) (ho : Ok m) {h a n : Int} {x : Bool} {m' : Mem} {r : Int} (hr : condV m h a n = (x, m', r)) :
    Calls Try.prog 20 #[.agg #[.slice v.w.p v.w.n v.w.c, .slice v.p.p v.p.n v.p.c, .slice v.r.p v.r.n v.r.c], .int .i64 h, .int .i64 a, .int .i64 n] w (Told3 (.bool x) m' r w) := by
  unfold condV at hr
  by_cases hb : busy m h a = 0
  · rw [if_pos hb] at hr
    obtain ⟨hh, hw, _⟩ := busy_0 hb
    obtain ⟨hN, aN, rfl, rfl⟩ := nat_of hh hw
    injection hr with h1 h2; injection h2 with h2 h3
    by_cases hc : resN m hN = (aN : Int)
    · rw [if_pos hc] at h2
      rw [← h1, ← h2, ← h3, decide_eq_true hc]
      exact cond_2 hm ho hb hh hw hc
    · rw [if_neg hc] at h2
      rw [← h1, ← h2, ← h3, decide_eq_false hc]
      exact cond_3 hm ho hb hh hw hc
  · rw [if_neg hb] at hr
    injection hr with h1 h2; injection h2 with h2 h3
    rw [← h1, ← h2, ← h3]
    exact cond_1 hm ho rfl hb
theorem change_lit {w : World} {base : Nat} {v : Mv} {m : Mem} (hm : MemAt base w v m) (ho : Ok m) {h a op n x : Int} {m' : Mem} {r : Int} (hr : changeV m h a op n = (x, m', r)) :
    Calls Try.prog 22 #[.agg #[.slice v.w.p v.w.n v.w.c, .slice v.p.p v.p.n v.p.c, .slice v.r.p v.r.n v.r.c], .int .i64 h, .int .i64 a, .int .i64 op, .int .i64 n] w (Told3 (.int .i64 x) m' r w) := by
  unfold changeV at hr
  cases hop : (isTwo op || decide (op = 0)) with
  | false =>
    rw [hop] at hr
    injection hr with h1 h2; injection h2 with h2 h3
    rw [← h1, ← h2, ← h3]
    exact change_1 hm ho hop
  | true =>
    rw [hop, if_pos (by rfl)] at hr
    by_cases hb : busy m h a = 0
    · rw [if_pos hb] at hr
      obtain ⟨hh, hw, _⟩ := busy_0 hb
      obtain ⟨hN, aN, rfl, rfl⟩ := nat_of hh hw
      injection hr with h1 h2; injection h2 with h2 h3
      rw [← h1, ← h2, ← h3]
      exact change_3 hm ho hop hb hh hw
    · rw [if_neg hb] at hr
      injection hr with h1 h2; injection h2 with h2 h3
      rw [← h1, ← h2, ← h3]
      exact change_2 hm ho hop rfl hb
end Go.Proofs.Ytobpoghophhphaa
