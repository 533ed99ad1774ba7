/- store.Drain. -/
import Derived.Test.YtobpoghophhphaaMIdx
namespace Go.Proofs.Ytobpoghophhphaa
open Go.RowKit Mm
set_option linter.unusedVariables false
set_option linter.unusedSimpArgs false
set_option maxRecDepth 100000 in
set_option maxHeartbeats 4000000 in
theorem drain_1 {w : World} {base : Nat} {v : Mv} {m : Mem} (hm : MemAt base w v m) (ho : Ok m) {h k : Int} (hh : isH m h = false) :
    Calls Try.prog 14 #[.agg #[.slice v.w.p v.w.n v.w.c, .slice v.p.p v.p.n v.p.c, .slice v.r.p v.r.n v.r.c], .int .i64 h, .int .i64 k] w (Told zero 1 w) := by
  obtain ⟨hb1, hx1, hx2⟩ := box2 w #[.slice v.w.p v.w.n v.w.c, .slice v.p.p v.p.n v.p.c, .slice v.r.p v.r.n v.r.c] 27 #[.slice none 0 0, .slice none 0 0, .slice none 0 0] 27
  have HM := Lib.hid hm
  have HO := Lib.hid ho
  have HH := Lib.hid hh
  clear hm ho hh
  go_enter Try.func14, Try.ntmps14
  go_upto_region 1 with (fail)
  generalize hW1 : ((w.alloc (.cells #[.slice v.w.p v.w.n v.w.c, .slice v.p.p v.p.n v.p.c, .slice v.r.p v.r.n v.r.c] 27)).alloc (.cells #[.slice none 0 0, .slice none 0 0, .slice none 0 0] 27)) = W1 at hb1 hx1 hx2 ⊢
  clear hW1
  have HN12 : Hid (w.heap.size ≠ w.heap.size + 1) := Lib.hid (by omega)
  have HG2 : Hid (w.heap.size ≤ w.heap.size + 1) := Lib.hid (by omega)
  generalize w.heap.size + 1 = g2 at hx2 HN12 HG2 ⊢
  obtain ⟨g1, hG⟩ : ∃ G, w.heap.size = G := ⟨_, rfl⟩
  rw [hG] at hx1 HN12 HG2 ⊢
  have HG := Lib.hid hG
  have HB := Lib.hid hb1
  have HX1 := Lib.hid hx1
  have HX2 := Lib.hid hx2
  clear hb1 hx1 hx2 hG
  have k0 := cell_of_heap HX1.out 0
  have kf0 := frozen_of_heap HX1.out 0
  have k1 := cell_of_heap HX1.out 1
  have kf1 := frozen_of_heap HX1.out 1
  have k2 := cell_of_heap HX1.out 2
  have kf2 := frozen_of_heap HX1.out 2
  simp only [List.getElem?_toArray, List.getElem?_cons_zero, List.getElem?_cons_succ] at k0 k1 k2
  have z0 := cell_of_heap HX2.out 0
  have zf0 := frozen_of_heap HX2.out 0
  have z1 := cell_of_heap HX2.out 1
  have zf1 := frozen_of_heap HX2.out 1
  have z2 := cell_of_heap HX2.out 2
  have zf2 := frozen_of_heap HX2.out 2
  simp only [List.getElem?_toArray, List.getElem?_cons_zero, List.getElem?_cons_succ] at z0 z1 z2
  go_wp2_with (first | (go_at_call 28; ((with_reducible refine (isHart_lit HM.out HO.out HH.out _).mono ?_); rintro e wa ⟨rfl, hbz⟩; have HB := Lib.hid (HB.out.trans hbz); have HX1 := Lib.hid (hbz.stays HX1.out); have HX2 := Lib.hid (hbz.stays HX2.out); have k0 := cell_of_heap HX1.out 0; have kf0 := frozen_of_heap HX1.out 0; have k1 := cell_of_heap HX1.out 1; have kf1 := frozen_of_heap HX1.out 1; have k2 := cell_of_heap HX1.out 2; have kf2 := frozen_of_heap HX1.out 2; simp only [List.getElem?_toArray, List.getElem?_cons_zero, List.getElem?_cons_succ] at k0 k1 k2; have z0 := cell_of_heap HX2.out 0; have zf0 := frozen_of_heap HX2.out 0; have z1 := cell_of_heap HX2.out 1; have zf1 := frozen_of_heap HX2.out 1; have z2 := cell_of_heap HX2.out 2; have zf2 := frozen_of_heap HX2.out 2; simp only [List.getElem?_toArray, List.getElem?_cons_zero, List.getElem?_cons_succ] at z0 z1 z2; clear hbz)))
  have hs3 : Svg g2 wa (((wa.setCell ⟨g2, 0, none⟩ (.slice none 0 0)).setCell ⟨g2, 1, none⟩ (.slice none 0 0)).setCell ⟨g2, 2, none⟩ (.slice none 0 0)) := set3_svg _ _ _ _ _
  have hh := set3_heap HX2.out (.slice none 0 0) (.slice none 0 0) (.slice none 0 0)
  exact bodyPost_ret (results_cell_slot Try.results14 _ _ g2 _ _ _ _ _ rfl rfl hh Try.underlying27 rfl (by kernel_rfl)) rfl ⟨nilM, rfl, hs3.bel HB.out (by have := HG.out; have := HG2.out; omega), MemAt.zero _ _⟩
set_option maxRecDepth 100000 in
set_option maxHeartbeats 4000000 in
theorem drain_2 {w : World} {base : Nat} {v : Mv} {m : Mem} (hm : MemAt base w v m) (ho : Ok m) {h k : Int} (hh : isH m h = true) (hk : k < 0) :
    Calls Try.prog 14 #[.agg #[.slice v.w.p v.w.n v.w.c, .slice v.p.p v.p.n v.p.c, .slice v.r.p v.r.n v.r.c], .int .i64 h, .int .i64 k] w (Told zero 1 w) := by
  obtain ⟨hb1, hx1, hx2⟩ := box2 w #[.slice v.w.p v.w.n v.w.c, .slice v.p.p v.p.n v.p.c, .slice v.r.p v.r.n v.r.c] 27 #[.slice none 0 0, .slice none 0 0, .slice none 0 0] 27
  have HM := Lib.hid hm
  have HO := Lib.hid ho
  have HH := Lib.hid hh
  clear hm ho hh
  go_enter Try.func14, Try.ntmps14
  go_upto_region 1 with (fail)
  generalize hW1 : ((w.alloc (.cells #[.slice v.w.p v.w.n v.w.c, .slice v.p.p v.p.n v.p.c, .slice v.r.p v.r.n v.r.c] 27)).alloc (.cells #[.slice none 0 0, .slice none 0 0, .slice none 0 0] 27)) = W1 at hb1 hx1 hx2 ⊢
  clear hW1
  have HN12 : Hid (w.heap.size ≠ w.heap.size + 1) := Lib.hid (by omega)
  have HG2 : Hid (w.heap.size ≤ w.heap.size + 1) := Lib.hid (by omega)
  generalize w.heap.size + 1 = g2 at hx2 HN12 HG2 ⊢
  obtain ⟨g1, hG⟩ : ∃ G, w.heap.size = G := ⟨_, rfl⟩
  rw [hG] at hx1 HN12 HG2 ⊢
  have HG := Lib.hid hG
  have HB := Lib.hid hb1
  have HX1 := Lib.hid hx1
  have HX2 := Lib.hid hx2
  clear hb1 hx1 hx2 hG
  have k0 := cell_of_heap HX1.out 0
  have kf0 := frozen_of_heap HX1.out 0
  have k1 := cell_of_heap HX1.out 1
  have kf1 := frozen_of_heap HX1.out 1
  have k2 := cell_of_heap HX1.out 2
  have kf2 := frozen_of_heap HX1.out 2
  simp only [List.getElem?_toArray, List.getElem?_cons_zero, List.getElem?_cons_succ] at k0 k1 k2
  have z0 := cell_of_heap HX2.out 0
  have zf0 := frozen_of_heap HX2.out 0
  have z1 := cell_of_heap HX2.out 1
  have zf1 := frozen_of_heap HX2.out 1
  have z2 := cell_of_heap HX2.out 2
  have zf2 := frozen_of_heap HX2.out 2
  simp only [List.getElem?_toArray, List.getElem?_cons_zero, List.getElem?_cons_succ] at z0 z1 z2
  go_wp2_with (first | (go_at_call 28; ((with_reducible refine (isHart_lit HM.out HO.out HH.out _).mono ?_); rintro e wa ⟨rfl, hbz⟩; have HB := Lib.hid (HB.out.trans hbz); have HX1 := Lib.hid (hbz.stays HX1.out); have HX2 := Lib.hid (hbz.stays HX2.out); have k0 := cell_of_heap HX1.out 0; have kf0 := frozen_of_heap HX1.out 0; have k1 := cell_of_heap HX1.out 1; have kf1 := frozen_of_heap HX1.out 1; have k2 := cell_of_heap HX1.out 2; have kf2 := frozen_of_heap HX1.out 2; simp only [List.getElem?_toArray, List.getElem?_cons_zero, List.getElem?_cons_succ] at k0 k1 k2; have z0 := cell_of_heap HX2.out 0; have zf0 := frozen_of_heap HX2.out 0; have z1 := cell_of_heap HX2.out 1; have zf1 := frozen_of_heap HX2.out 1; have z2 := cell_of_heap HX2.out 2; have zf2 := frozen_of_heap HX2.out 2; simp only [List.getElem?_toArray, List.getElem?_cons_zero, List.getElem?_cons_succ] at z0 z1 z2; clear hbz)))
  have hs3 : Svg g2 wa (((wa.setCell ⟨g2, 0, none⟩ (.slice none 0 0)).setCell ⟨g2, 1, none⟩ (.slice none 0 0)).setCell ⟨g2, 2, none⟩ (.slice none 0 0)) := set3_svg _ _ _ _ _
  have hh := set3_heap HX2.out (.slice none 0 0) (.slice none 0 0) (.slice none 0 0)
  exact bodyPost_ret (results_cell_slot Try.results14 _ _ g2 _ _ _ _ _ rfl rfl hh Try.underlying27 rfl (by kernel_rfl)) rfl ⟨nilM, rfl, hs3.bel HB.out (by have := HG.out; have := HG2.out; omega), MemAt.zero _ _⟩
set_option maxRecDepth 100000 in
set_option maxHeartbeats 4000000 in
theorem drain_3 {w : World} {base : Nat} {v : Mv} {m : Mem} (hm : MemAt base w v m) (ho : Ok m) {h k : Nat} (hh : isH m h = true) (hk : (row m h).length ≤ k) :
    Calls Try.prog 14 #[.agg #[.slice v.w.p v.w.n v.w.c, .slice v.p.p v.p.n v.p.c, .slice v.r.p v.r.n v.r.c], .int .i64 (h : Int), .int .i64 (k : Int)] w (Told zero 1 w) := by
  obtain ⟨bp, csp, s, ep, _, hgp, hlep, hltp, hcp, _, hrs0, hrw⟩ := hm.hart hh
  have hn := hrw.n (s := s)
  have HCP := Lib.hid hcp
  have HLP := Lib.hid (lt_of_heap hgp)
  obtain ⟨⟨wp, wn, wc⟩, ⟨pp, pn, pc⟩, ⟨rp, rn, rc⟩, rows⟩ := v
  simp only at ep hlep hltp
  subst ep
  have hpos : (s.n : Int) ≤ (k : Int) := by omega
  clear hcp hgp hrw hn hrs0
  obtain ⟨hb1, hx1, hx2⟩ := box2 w #[.slice wp wn wc, .slice (some ⟨bp, 0, none⟩) pn pc, .slice rp rn rc] 27 #[.slice none 0 0, .slice none 0 0, .slice none 0 0] 27
  have HM := Lib.hid hm
  have HO := Lib.hid ho
  have HH := Lib.hid hh
  clear hm ho hh
  go_enter Try.func14, Try.ntmps14
  go_upto_region 1 with (fail)
  generalize hW1 : ((w.alloc (.cells #[.slice wp wn wc, .slice (some ⟨bp, 0, none⟩) pn pc, .slice rp rn rc] 27)).alloc (.cells #[.slice none 0 0, .slice none 0 0, .slice none 0 0] 27)) = W1 at hb1 hx1 hx2 ⊢
  clear hW1
  have HN12 : Hid (w.heap.size ≠ w.heap.size + 1) := Lib.hid (by omega)
  have HG2 : Hid (w.heap.size ≤ w.heap.size + 1) := Lib.hid (by omega)
  generalize w.heap.size + 1 = g2 at hx2 HN12 HG2 ⊢
  obtain ⟨g1, hG⟩ : ∃ G, w.heap.size = G := ⟨_, rfl⟩
  rw [hG] at hx1 HN12 HG2 ⊢
  have HG := Lib.hid hG
  have HB := Lib.hid hb1
  have HX1 := Lib.hid hx1
  have HX2 := Lib.hid hx2
  clear hb1 hx1 hx2 hG
  have k0 := cell_of_heap HX1.out 0
  have kf0 := frozen_of_heap HX1.out 0
  have k1 := cell_of_heap HX1.out 1
  have kf1 := frozen_of_heap HX1.out 1
  have k2 := cell_of_heap HX1.out 2
  have kf2 := frozen_of_heap HX1.out 2
  simp only [List.getElem?_toArray, List.getElem?_cons_zero, List.getElem?_cons_succ] at k0 k1 k2
  have z0 := cell_of_heap HX2.out 0
  have zf0 := frozen_of_heap HX2.out 0
  have z1 := cell_of_heap HX2.out 1
  have zf1 := frozen_of_heap HX2.out 1
  have z2 := cell_of_heap HX2.out 2
  have zf2 := frozen_of_heap HX2.out 2
  simp only [List.getElem?_toArray, List.getElem?_cons_zero, List.getElem?_cons_succ] at z0 z1 z2
  go_wp2_with (first | (go_at_call 28; ((with_reducible refine (isHart_lit HM.out HO.out HH.out _).mono ?_); rintro e wa ⟨rfl, hbz⟩; have HB := Lib.hid (HB.out.trans hbz); have HX1 := Lib.hid (hbz.stays HX1.out); have HX2 := Lib.hid (hbz.stays HX2.out); have k0 := cell_of_heap HX1.out 0; have kf0 := frozen_of_heap HX1.out 0; have k1 := cell_of_heap HX1.out 1; have kf1 := frozen_of_heap HX1.out 1; have k2 := cell_of_heap HX1.out 2; have kf2 := frozen_of_heap HX1.out 2; simp only [List.getElem?_toArray, List.getElem?_cons_zero, List.getElem?_cons_succ] at k0 k1 k2; have z0 := cell_of_heap HX2.out 0; have zf0 := frozen_of_heap HX2.out 0; have z1 := cell_of_heap HX2.out 1; have zf1 := frozen_of_heap HX2.out 1; have z2 := cell_of_heap HX2.out 2; have zf2 := frozen_of_heap HX2.out 2; simp only [List.getElem?_toArray, List.getElem?_cons_zero, List.getElem?_cons_succ] at z0 z1 z2; have cp := (HB.out.cell (p := ⟨bp, h, none⟩) HLP.out).trans HCP.out; clear hbz)))
  have hs3 : Svg g2 wa (((wa.setCell ⟨g2, 0, none⟩ (.slice none 0 0)).setCell ⟨g2, 1, none⟩ (.slice none 0 0)).setCell ⟨g2, 2, none⟩ (.slice none 0 0)) := set3_svg _ _ _ _ _
  have hh := set3_heap HX2.out (.slice none 0 0) (.slice none 0 0) (.slice none 0 0)
  exact bodyPost_ret (results_cell_slot Try.results14 _ _ g2 _ _ _ _ _ rfl rfl hh Try.underlying27 rfl (by kernel_rfl)) rfl ⟨nilM, rfl, hs3.bel HB.out (by have := HG.out; have := HG2.out; omega), MemAt.zero _ _⟩
set_option maxRecDepth 100000 in
set_option maxHeartbeats 4000000 in
theorem drain_4 {w : World} {base : Nat} {v : Mv} {m : Mem} (hm : MemAt base w v m) (ho : Ok m) {h k : Nat} {x1 x2 : Int} (hh : isH m h = true) (hk : (row m h)[k]? = some (x1, x2)) (hr : ((row m h).take k).any (fun x => decide (x.1 = x1)) = true) :
    Calls Try.prog 14 #[.agg #[.slice v.w.p v.w.n v.w.c, .slice v.p.p v.p.n v.p.c, .slice v.r.p v.r.n v.r.c], .int .i64 (h : Int), .int .i64 (k : Int)] w (Told zero 91 w) := by
  obtain ⟨bp, csp, s, ep, _, hgp, hlep, hltp, hcp, _, hrs0, hrw⟩ := hm.hart hh
  have hn := hrw.n (s := s)
  have HCP := Lib.hid hcp
  have HLP := Lib.hid (lt_of_heap hgp)
  obtain ⟨⟨wp, wn, wc⟩, ⟨pp, pn, pc⟩, ⟨rp, rn, rc⟩, rows⟩ := v
  simp only at ep hlep hltp
  subst ep
  have hkl : k < (row m h).length := (List.getElem?_eq_some_iff.1 hk).1
  obtain ⟨be, cse, ee, _, hge, _, hnc, hkn, _, hce⟩ := ERow.at (enc := encE) (k := 2) encE_len hrw hk
  have hc0 := hce 0 _ rfl
  have hc1 := hce 1 _ rfl
  rw [Nat.add_zero] at hc0
  have HLE := Lib.hid (lt_of_heap hge)
  have HC0 := Lib.hid hc0
  have HC1 := Lib.hid hc1
  have HRW := Lib.hid hrw
  have H8 := Lib.hid (ho.p8 _ (row_mem hh))
  obtain ⟨sp, sn, sc⟩ := s
  simp only at ee hnc hkn hn
  subst ee hn
  have hkc : k ≤ sc := by omega
  have hkn2 : (k : Int) < ((row m h).length : Int) := by omega
  have HKL := Lib.hid hkl
  clear hce hc0 hc1 hge hkl
  clear hcp hgp hrw hrs0
  obtain ⟨hb1, hx1, hx2⟩ := box2 w #[.slice wp wn wc, .slice (some ⟨bp, 0, none⟩) pn pc, .slice rp rn rc] 27 #[.slice none 0 0, .slice none 0 0, .slice none 0 0] 27
  have HM := Lib.hid hm
  have HO := Lib.hid ho
  have HH := Lib.hid hh
  have HK := Lib.hid hk
  have HRA := Lib.hid hr
  clear hm ho hh hk hr
  go_enter Try.func14, Try.ntmps14
  go_upto_region 1 with (fail)
  generalize hW1 : ((w.alloc (.cells #[.slice wp wn wc, .slice (some ⟨bp, 0, none⟩) pn pc, .slice rp rn rc] 27)).alloc (.cells #[.slice none 0 0, .slice none 0 0, .slice none 0 0] 27)) = W1 at hb1 hx1 hx2 ⊢
  clear hW1
  have HN12 : Hid (w.heap.size ≠ w.heap.size + 1) := Lib.hid (by omega)
  have HG2 : Hid (w.heap.size ≤ w.heap.size + 1) := Lib.hid (by omega)
  generalize w.heap.size + 1 = g2 at hx2 HN12 HG2 ⊢
  obtain ⟨g1, hG⟩ : ∃ G, w.heap.size = G := ⟨_, rfl⟩
  rw [hG] at hx1 HN12 HG2 ⊢
  have HG := Lib.hid hG
  have HB := Lib.hid hb1
  have HX1 := Lib.hid hx1
  have HX2 := Lib.hid hx2
  clear hb1 hx1 hx2 hG
  have k0 := cell_of_heap HX1.out 0
  have kf0 := frozen_of_heap HX1.out 0
  have k1 := cell_of_heap HX1.out 1
  have kf1 := frozen_of_heap HX1.out 1
  have k2 := cell_of_heap HX1.out 2
  have kf2 := frozen_of_heap HX1.out 2
  simp only [List.getElem?_toArray, List.getElem?_cons_zero, List.getElem?_cons_succ] at k0 k1 k2
  have z0 := cell_of_heap HX2.out 0
  have zf0 := frozen_of_heap HX2.out 0
  have z1 := cell_of_heap HX2.out 1
  have zf1 := frozen_of_heap HX2.out 1
  have z2 := cell_of_heap HX2.out 2
  have zf2 := frozen_of_heap HX2.out 2
  simp only [List.getElem?_toArray, List.getElem?_cons_zero, List.getElem?_cons_succ] at z0 z1 z2
  go_upto_region 4 with (first | (go_at_call 28; ((with_reducible refine (isHart_lit HM.out HO.out HH.out _).mono ?_); rintro e wa ⟨rfl, hbz⟩; have HB := Lib.hid (HB.out.trans hbz); have HX1 := Lib.hid (hbz.stays HX1.out); have HX2 := Lib.hid (hbz.stays HX2.out); have k0 := cell_of_heap HX1.out 0; have kf0 := frozen_of_heap HX1.out 0; have k1 := cell_of_heap HX1.out 1; have kf1 := frozen_of_heap HX1.out 1; have k2 := cell_of_heap HX1.out 2; have kf2 := frozen_of_heap HX1.out 2; simp only [List.getElem?_toArray, List.getElem?_cons_zero, List.getElem?_cons_succ] at k0 k1 k2; have z0 := cell_of_heap HX2.out 0; have zf0 := frozen_of_heap HX2.out 0; have z1 := cell_of_heap HX2.out 1; have zf1 := frozen_of_heap HX2.out 1; have z2 := cell_of_heap HX2.out 2; have zf2 := frozen_of_heap HX2.out 2; simp only [List.getElem?_toArray, List.getElem?_cons_zero, List.getElem?_cons_succ] at z0 z1 z2; have cp := (HB.out.cell (p := ⟨bp, h, none⟩) HLP.out).trans HCP.out; have c0 := (HB.out.cell (p := ⟨be, k * 2, none⟩) HLE.out).trans HC0.out; have c1 := (HB.out.cell (p := ⟨be, k * 2 + 1, none⟩) HLE.out).trans HC1.out; clear hbz)))
  have hxe := heap_alloc_new wa (.cells #[.int .i64 x1, .int .i64 x2] 48)
  have hbe : Bel wa (wa.alloc (.cells #[.int .i64 x1, .int .i64 x2] 48)) := (Bel.refl wa).alloc _ _
  generalize wa.alloc (.cells #[.int .i64 x1, .int .i64 x2] 48) = W3 at hxe hbe ⊢
  generalize wa.heap.size = g3 at hxe ⊢
  have HX1 := Lib.hid (hbe.stays HX1.out)
  have HX2 := Lib.hid (hbe.stays HX2.out)
  have HX3 := Lib.hid hxe
  have HB := Lib.hid (HB.out.trans hbe)
  clear k0 k1 k2 kf0 kf1 kf2 z0 z1 z2 zf0 zf1 zf2 cp c0 c1 hxe hbe
  have k0 := cell_of_heap HX1.out 0
  have kf0 := frozen_of_heap HX1.out 0
  have k1 := cell_of_heap HX1.out 1
  have kf1 := frozen_of_heap HX1.out 1
  have k2 := cell_of_heap HX1.out 2
  have kf2 := frozen_of_heap HX1.out 2
  simp only [List.getElem?_toArray, List.getElem?_cons_zero, List.getElem?_cons_succ] at k0 k1 k2
  have z0 := cell_of_heap HX2.out 0
  have zf0 := frozen_of_heap HX2.out 0
  have z1 := cell_of_heap HX2.out 1
  have zf1 := frozen_of_heap HX2.out 1
  have z2 := cell_of_heap HX2.out 2
  have zf2 := frozen_of_heap HX2.out 2
  simp only [List.getElem?_toArray, List.getElem?_cons_zero, List.getElem?_cons_succ] at z0 z1 z2
  have cp := (HB.out.cell (p := ⟨bp, h, none⟩) HLP.out).trans HCP.out
  go_wp2_with (first | (go_at_call 37; ((with_reducible refine (contains_lit (s := ⟨some ⟨be, 0, none⟩, (row m h).length, sc⟩) (HRW.out.bel HB.out) H8.out (Nat.le_of_lt HKL.out) HX3.out HRA.out).mono ?_); rintro e wb ⟨rfl, hbz⟩; have HB := Lib.hid (HB.out.trans hbz); have HX1 := Lib.hid (hbz.stays HX1.out); have HX2 := Lib.hid (hbz.stays HX2.out); have HX3 := Lib.hid (hbz.stays HX3.out); have k0 := cell_of_heap HX1.out 0; have kf0 := frozen_of_heap HX1.out 0; have k1 := cell_of_heap HX1.out 1; have kf1 := frozen_of_heap HX1.out 1; have k2 := cell_of_heap HX1.out 2; have kf2 := frozen_of_heap HX1.out 2; simp only [List.getElem?_toArray, List.getElem?_cons_zero, List.getElem?_cons_succ] at k0 k1 k2; have z0 := cell_of_heap HX2.out 0; have zf0 := frozen_of_heap HX2.out 0; have z1 := cell_of_heap HX2.out 1; have zf1 := frozen_of_heap HX2.out 1; have z2 := cell_of_heap HX2.out 2; have zf2 := frozen_of_heap HX2.out 2; simp only [List.getElem?_toArray, List.getElem?_cons_zero, List.getElem?_cons_succ] at z0 z1 z2; clear hbz)))
  have hs3 : Svg g2 wb (((wb.setCell ⟨g2, 0, none⟩ (.slice none 0 0)).setCell ⟨g2, 1, none⟩ (.slice none 0 0)).setCell ⟨g2, 2, none⟩ (.slice none 0 0)) := set3_svg _ _ _ _ _
  have hh := set3_heap HX2.out (.slice none 0 0) (.slice none 0 0) (.slice none 0 0)
  exact bodyPost_ret (results_cell_slot Try.results14 _ _ g2 _ _ _ _ _ rfl rfl hh Try.underlying27 rfl (by kernel_rfl)) rfl ⟨nilM, rfl, hs3.bel HB.out (by have := HG.out; have := HG2.out; omega), MemAt.zero _ _⟩
set_option maxRecDepth 100000 in
set_option maxHeartbeats 4000000 in
theorem drain_5 {w : World} {base : Nat} {v : Mv} {m : Mem} (hm : MemAt base w v m) (ho : Ok m) {h k : Nat} {x1 x2 : Int} (hh : isH m h = true) (hk : (row m h)[k]? = some (x1, x2)) (hr : ((row m h).take k).any (fun x => decide (x.1 = x1)) = false) :
    Calls Try.prog 14 #[.agg #[.slice v.w.p v.w.n v.w.c, .slice v.p.p v.p.n v.p.c, .slice v.r.p v.r.n v.r.c], .int .i64 (h : Int), .int .i64 (k : Int)] w (Told (arr (setP m h ((row m h).eraseIdx k)) h x1 x2) 0 w) := by
  obtain ⟨bp, csp, s, ep, _, hgp, hlep, hltp, hcp, _, hrs0, hrw⟩ := hm.hart hh
  have hn := hrw.n (s := s)
  have HCP := Lib.hid hcp
  have HLP := Lib.hid (lt_of_heap hgp)
  obtain ⟨⟨wp, wn, wc⟩, ⟨pp, pn, pc⟩, ⟨rp, rn, rc⟩, rows⟩ := v
  simp only at ep hlep hltp
  subst ep
  have hkl : k < (row m h).length := (List.getElem?_eq_some_iff.1 hk).1
  obtain ⟨be, cse, ee, _, hge, _, hnc, hkn, _, hce⟩ := ERow.at (enc := encE) (k := 2) encE_len hrw hk
  have hc0 := hce 0 _ rfl
  have hc1 := hce 1 _ rfl
  rw [Nat.add_zero] at hc0
  have HLE := Lib.hid (lt_of_heap hge)
  have HC0 := Lib.hid hc0
  have HC1 := Lib.hid hc1
  have HRW := Lib.hid hrw
  have H8 := Lib.hid (ho.p8 _ (row_mem hh))
  obtain ⟨sp, sn, sc⟩ := s
  simp only at ee hnc hkn hn
  subst ee hn
  have hkc : k ≤ sc := by omega
  have hkn2 : (k : Int) < ((row m h).length : Int) := by omega
  have HKL := Lib.hid hkl
  clear hce hc0 hc1 hge hkl
  clear hcp hgp hrw hrs0
  obtain ⟨hb1, hx1, hx2⟩ := box2 w #[.slice wp wn wc, .slice (some ⟨bp, 0, none⟩) pn pc, .slice rp rn rc] 27 #[.slice none 0 0, .slice none 0 0, .slice none 0 0] 27
  have HM := Lib.hid hm
  have HO := Lib.hid ho
  have HH := Lib.hid hh
  have HK := Lib.hid hk
  have HRA := Lib.hid hr
  clear hm ho hh hk hr
  go_enter Try.func14, Try.ntmps14
  go_upto_region 1 with (fail)
  generalize hW1 : ((w.alloc (.cells #[.slice wp wn wc, .slice (some ⟨bp, 0, none⟩) pn pc, .slice rp rn rc] 27)).alloc (.cells #[.slice none 0 0, .slice none 0 0, .slice none 0 0] 27)) = W1 at hb1 hx1 hx2 ⊢
  clear hW1
  have HN12 : Hid (w.heap.size ≠ w.heap.size + 1) := Lib.hid (by omega)
  have HG2 : Hid (w.heap.size ≤ w.heap.size + 1) := Lib.hid (by omega)
  generalize w.heap.size + 1 = g2 at hx2 HN12 HG2 ⊢
  obtain ⟨g1, hG⟩ : ∃ G, w.heap.size = G := ⟨_, rfl⟩
  rw [hG] at hx1 HN12 HG2 ⊢
  have HG := Lib.hid hG
  have HB := Lib.hid hb1
  have HX1 := Lib.hid hx1
  have HX2 := Lib.hid hx2
  clear hb1 hx1 hx2 hG
  have k0 := cell_of_heap HX1.out 0
  have kf0 := frozen_of_heap HX1.out 0
  have k1 := cell_of_heap HX1.out 1
  have kf1 := frozen_of_heap HX1.out 1
  have k2 := cell_of_heap HX1.out 2
  have kf2 := frozen_of_heap HX1.out 2
  simp only [List.getElem?_toArray, List.getElem?_cons_zero, List.getElem?_cons_succ] at k0 k1 k2
  have z0 := cell_of_heap HX2.out 0
  have zf0 := frozen_of_heap HX2.out 0
  have z1 := cell_of_heap HX2.out 1
  have zf1 := frozen_of_heap HX2.out 1
  have z2 := cell_of_heap HX2.out 2
  have zf2 := frozen_of_heap HX2.out 2
  simp only [List.getElem?_toArray, List.getElem?_cons_zero, List.getElem?_cons_succ] at z0 z1 z2
  go_upto_region 4 with (first | (go_at_call 28; ((with_reducible refine (isHart_lit HM.out HO.out HH.out _).mono ?_); rintro e wa ⟨rfl, hbz⟩; have HB := Lib.hid (HB.out.trans hbz); have HX1 := Lib.hid (hbz.stays HX1.out); have HX2 := Lib.hid (hbz.stays HX2.out); have k0 := cell_of_heap HX1.out 0; have kf0 := frozen_of_heap HX1.out 0; have k1 := cell_of_heap HX1.out 1; have kf1 := frozen_of_heap HX1.out 1; have k2 := cell_of_heap HX1.out 2; have kf2 := frozen_of_heap HX1.out 2; simp only [List.getElem?_toArray, List.getElem?_cons_zero, List.getElem?_cons_succ] at k0 k1 k2; have z0 := cell_of_heap HX2.out 0; have zf0 := frozen_of_heap HX2.out 0; have z1 := cell_of_heap HX2.out 1; have zf1 := frozen_of_heap HX2.out 1; have z2 := cell_of_heap HX2.out 2; have zf2 := frozen_of_heap HX2.out 2; simp only [List.getElem?_toArray, List.getElem?_cons_zero, List.getElem?_cons_succ] at z0 z1 z2; have cp := (HB.out.cell (p := ⟨bp, h, none⟩) HLP.out).trans HCP.out; have c0 := (HB.out.cell (p := ⟨be, k * 2, none⟩) HLE.out).trans HC0.out; have c1 := (HB.out.cell (p := ⟨be, k * 2 + 1, none⟩) HLE.out).trans HC1.out; clear hbz)))
  have hxe := heap_alloc_new wa (.cells #[.int .i64 x1, .int .i64 x2] 48)
  have hbe : Bel wa (wa.alloc (.cells #[.int .i64 x1, .int .i64 x2] 48)) := (Bel.refl wa).alloc _ _
  generalize wa.alloc (.cells #[.int .i64 x1, .int .i64 x2] 48) = W3 at hxe hbe ⊢
  generalize wa.heap.size = g3 at hxe ⊢
  have HX1 := Lib.hid (hbe.stays HX1.out)
  have HX2 := Lib.hid (hbe.stays HX2.out)
  have HX3 := Lib.hid hxe
  have HB := Lib.hid (HB.out.trans hbe)
  clear k0 k1 k2 kf0 kf1 kf2 z0 z1 z2 zf0 zf1 zf2 cp c0 c1 hxe hbe
  have k0 := cell_of_heap HX1.out 0
  have kf0 := frozen_of_heap HX1.out 0
  have k1 := cell_of_heap HX1.out 1
  have kf1 := frozen_of_heap HX1.out 1
  have k2 := cell_of_heap HX1.out 2
  have kf2 := frozen_of_heap HX1.out 2
  simp only [List.getElem?_toArray, List.getElem?_cons_zero, List.getElem?_cons_succ] at k0 k1 k2
  have z0 := cell_of_heap HX2.out 0
  have zf0 := frozen_of_heap HX2.out 0
  have z1 := cell_of_heap HX2.out 1
  have zf1 := frozen_of_heap HX2.out 1
  have z2 := cell_of_heap HX2.out 2
  have zf2 := frozen_of_heap HX2.out 2
  simp only [List.getElem?_toArray, List.getElem?_cons_zero, List.getElem?_cons_succ] at z0 z1 z2
  have cp := (HB.out.cell (p := ⟨bp, h, none⟩) HLP.out).trans HCP.out
  go_upto_region 7 with (first | (go_at_call 37; ((with_reducible refine (contains_lit (s := ⟨some ⟨be, 0, none⟩, (row m h).length, sc⟩) (HRW.out.bel HB.out) H8.out (Nat.le_of_lt HKL.out) HX3.out HRA.out).mono ?_); rintro e wb ⟨rfl, hbz⟩; have HB := Lib.hid (HB.out.trans hbz); have HX1 := Lib.hid (hbz.stays HX1.out); have HX2 := Lib.hid (hbz.stays HX2.out); have HX3 := Lib.hid (hbz.stays HX3.out); have k0 := cell_of_heap HX1.out 0; have kf0 := frozen_of_heap HX1.out 0; have k1 := cell_of_heap HX1.out 1; have kf1 := frozen_of_heap HX1.out 1; have k2 := cell_of_heap HX1.out 2; have kf2 := frozen_of_heap HX1.out 2; simp only [List.getElem?_toArray, List.getElem?_cons_zero, List.getElem?_cons_succ] at k0 k1 k2; have z0 := cell_of_heap HX2.out 0; have zf0 := frozen_of_heap HX2.out 0; have z1 := cell_of_heap HX2.out 1; have zf1 := frozen_of_heap HX2.out 1; have z2 := cell_of_heap HX2.out 2; have zf2 := frozen_of_heap HX2.out 2; simp only [List.getElem?_toArray, List.getElem?_cons_zero, List.getElem?_cons_succ] at z0 z1 z2; clear hbz)))
  clear cp
  skip
  go_upto_region 8 with (first | (go_at_call 32; ((with_reducible refine (copied_any (HM.out.bel HB.out) HO.out).mono ?_); rintro e wc ⟨u, rfl, hbz, hmu⟩; have HBC := Lib.hid (HB.out.trans hbz); have HY1 := Lib.hid (hbz.stays HX1.out); have HY2 := Lib.hid (hbz.stays HX2.out); have HBM := Lib.hid hmu; have HLB := Lib.hid hbz.size; have HMU := Lib.hid (hmu.mono (show w.heap.size ≤ _ from HB.out.size)); have HYHX3 := Lib.hid (hbz.stays HX3.out); have HLHX3 := Lib.hid (lt_of_heap HX3.out); have k0 := cell_of_heap HY1.out 0; have kf0 := frozen_of_heap HY1.out 0; have k1 := cell_of_heap HY1.out 1; have kf1 := frozen_of_heap HY1.out 1; have k2 := cell_of_heap HY1.out 2; have kf2 := frozen_of_heap HY1.out 2; simp only [List.getElem?_toArray, List.getElem?_cons_zero, List.getElem?_cons_succ] at k0 k1 k2; have z0 := cell_of_heap HY2.out 0; have zf0 := frozen_of_heap HY2.out 0; have z1 := cell_of_heap HY2.out 1; have zf1 := frozen_of_heap HY2.out 1; have z2 := cell_of_heap HY2.out 2; have zf2 := frozen_of_heap HY2.out 2; simp only [List.getElem?_toArray, List.getElem?_cons_zero, List.getElem?_cons_succ] at z0 z1 z2; clear hbz hmu)))
  try clear k0 k1 k2 kf0 kf1 kf2 z0 z1 z2 zf0 zf1 zf2
  have hs3 : Svg g1 wc (((wc.setCell ⟨g1, 0, none⟩ (.slice u.w.p u.w.n u.w.c)).setCell ⟨g1, 1, none⟩ (.slice u.p.p u.p.n u.p.c)).setCell ⟨g1, 2, none⟩ (.slice u.r.p u.r.n u.r.c)) := set3_svg _ _ _ _ _
  have hx1 := set3_heap HY1.out (.slice u.w.p u.w.n u.w.c) (.slice u.p.p u.p.n u.p.c) (.slice u.r.p u.r.n u.r.c)
  generalize hWW : (((wc.setCell ⟨g1, 0, none⟩ (.slice u.w.p u.w.n u.w.c)).setCell ⟨g1, 1, none⟩ (.slice u.p.p u.p.n u.p.c)).setCell ⟨g1, 2, none⟩ (.slice u.r.p u.r.n u.r.c)) = W5 at hs3 hx1 ⊢
  clear hWW
  have HB := Lib.hid (hs3.bel HBC.out (by rw [HG.out]; exact Nat.le_refl _))
  have HX1 := Lib.hid hx1
  have HX2 := Lib.hid ((hs3.block g2 (lt_of_heap HY2.out) HN12.out.symm).trans HY2.out)
  have HMU := Lib.hid (HMU.out.keep hs3 HY1.out (by decide) (by decide) (by decide))
  have HX3 := Lib.hid ((hs3.block g3 (lt_of_heap HYHX3.out) (ne_of_heap HYHX3.out HY1.out (by decide))).trans HYHX3.out)
  clear hs3 hx1 HY1 HY2 HBC
  have k0 := cell_of_heap HX1.out 0
  have kf0 := frozen_of_heap HX1.out 0
  have k1 := cell_of_heap HX1.out 1
  have kf1 := frozen_of_heap HX1.out 1
  have k2 := cell_of_heap HX1.out 2
  have kf2 := frozen_of_heap HX1.out 2
  simp only [List.getElem?_toArray, List.getElem?_cons_zero, List.getElem?_cons_succ] at k0 k1 k2
  have z0 := cell_of_heap HX2.out 0
  have zf0 := frozen_of_heap HX2.out 0
  have z1 := cell_of_heap HX2.out 1
  have zf1 := frozen_of_heap HX2.out 1
  have z2 := cell_of_heap HX2.out 2
  have zf2 := frozen_of_heap HX2.out 2
  simp only [List.getElem?_toArray, List.getElem?_cons_zero, List.getElem?_cons_succ] at z0 z1 z2
  obtain ⟨bq, csq, t, eq, _, hgq, hleq, hltq, cq, cqf, hrs, hrq⟩ := HMU.out.hart HH.out
  obtain ⟨⟨uwp, uwn, uwc⟩, ⟨upp, upn, upc⟩, ⟨urp, urn, urc⟩, urows⟩ := u
  simp only at eq hleq hltq hrs
  subst eq
  obtain ⟨bt, cst, et, hbt, hgt, hnt, _, hkt, _, _⟩ := ERow.at (enc := encE) (k := 2) encE_len hrq HK.out
  obtain ⟨tp, tn, tc⟩ := t
  simp only at et hnt hkt
  subst et hnt
  have hrq : ERow encE 48 2 W5 w.heap.size (.slice (some ⟨bt, 0, none⟩) (row m h).length tc) (row m h) := hrq
  have hrs : urows[h]? = some ⟨some ⟨bt, 0, none⟩, (row m h).length, tc⟩ := hrs
  have cq : W5.cell? ⟨bq, h, none⟩ = some (.slice (some ⟨bt, 0, none⟩) (row m h).length tc) := cq
  have HRS := Lib.hid hrs
  have HRQ := Lib.hid hrq
  have HGQ := Lib.hid hgq
  have HCQ := Lib.hid cq
  have HGT := Lib.hid hgt
  clear hrs hrq hgq hgt hkt
  have HN1T : Hid (g1 ≠ bt) := Lib.hid (ne_of_heap HX1.out HGT.out (by decide))
  have HN2T : Hid (g2 ≠ bt) := Lib.hid (ne_of_heap HX2.out HGT.out (by decide))
  have HNQT : Hid (bq ≠ bt) := Lib.hid (ne_of_heap HGQ.out HGT.out (by decide))
  have HN1Q : Hid (g1 ≠ bq) := Lib.hid (ne_of_heap HX1.out HGQ.out (by decide))
  have HN2Q : Hid (g2 ≠ bq) := Lib.hid (ne_of_heap HX2.out HGQ.out (by decide))
  have HN3Q : Hid (g3 ≠ bq) := Lib.hid (ne_of_heap HX3.out HGQ.out (by decide))
  have HN3T : Hid (g3 ≠ bt) := Lib.hid (fun e => by have h1 := HLHX3.out; have h2 := ((HBM.out.ro h ⟨some ⟨bt, 0, none⟩, (row m h).length, tc⟩ _ HRS.out (by have := row_get HH.out; rwa [Int.toNat_natCast] at this)).blk (b := bt) rfl).1; omega)
  refine Upto.begin (T := fun W' => W'.cell? ⟨g1, 1, none⟩ = some (.slice (some ⟨bq, 0, none⟩) upn upc) ∧ W'.cell? ⟨bq, h, none⟩ = some (.slice (some ⟨bt, 0, none⟩) (row m h).length tc)) (z := 13) (by kernel_rfl) ?_
  have HT1 : W5.drew.cell? ⟨g1, 1, none⟩ = some (.slice (some ⟨bq, 0, none⟩) upn upc) ∧ W5.drew.cell? ⟨bq, h, none⟩ = some (.slice (some ⟨bt, 0, none⟩) (row m h).length tc) := ⟨k1, HCQ.out⟩
  refine takeU 50 (i := 0) (v := ?v1) rfl rfl rfl (by kernel_rfl) (by kernel_rfl) (by kernel_rfl) (by kernel_rfl) (fun _ _ _ h => h) (by kernel_rfl) ?hy1 HT1 ?rest1
  case hy1 => (intro w0 hSw; obtain ⟨e1, e2⟩ := hSw; first | (go_simp; done) | (go_simp; with_reducible rfl))
  simp only [List.setIfInBounds_toArray, List.set_cons_zero, List.set_cons_succ]
  refine takeU 51 (i := 1) (v := ?v2) rfl rfl rfl (by kernel_rfl) (by kernel_rfl) (by kernel_rfl) (by kernel_rfl) (fun _ _ _ h => h) (by kernel_rfl) ?hy2 HT1 ?rest2
  case hy2 => (intro w0 hSw; obtain ⟨e1, e2⟩ := hSw; first | (go_simp; done) | (go_simp; with_reducible rfl))
  simp only [List.setIfInBounds_toArray, List.set_cons_zero, List.set_cons_succ]
  refine takeU 52 (i := 2) (v := ?v3) rfl rfl rfl (by kernel_rfl) (by kernel_rfl) (by kernel_rfl) (by kernel_rfl) (fun _ _ _ h => h) (by kernel_rfl) ?hy3 HT1 ?rest3
  case hy3 => (intro w0 hSw; obtain ⟨e1, e2⟩ := hSw; first | (go_simp; done) | (go_simp; with_reducible rfl))
  simp only [List.setIfInBounds_toArray, List.set_cons_zero, List.set_cons_succ]
  refine takeU 53 (i := 3) (v := ?v4) rfl rfl rfl (by kernel_rfl) (by kernel_rfl) (by kernel_rfl) (by kernel_rfl) (fun _ _ _ h => h) (by kernel_rfl) ?hy4 HT1 ?rest4
  case hy4 => (intro w0 hSw; obtain ⟨e1, e2⟩ := hSw; first | (go_simp; done) | (go_simp; with_reducible rfl))
  simp only [List.setIfInBounds_toArray, List.set_cons_zero, List.set_cons_succ]
  refine takeU 54 (i := 4) (v := ?v5) rfl rfl rfl (by kernel_rfl) (by kernel_rfl) (by kernel_rfl) (by kernel_rfl) (fun _ _ _ h => h) (by kernel_rfl) ?hy5 HT1 ?rest5
  case hy5 => (intro w0 hSw; obtain ⟨e1, e2⟩ := hSw; first | (go_simp; done) | (go_simp; with_reducible rfl))
  simp only [List.setIfInBounds_toArray, List.set_cons_zero, List.set_cons_succ]
  refine takeU 55 (i := 5) (v := ?v6) rfl rfl rfl (by kernel_rfl) (by kernel_rfl) (by kernel_rfl) (by kernel_rfl) (fun _ _ _ h => h) (by kernel_rfl) ?hy6 HT1 ?rest6
  case hy6 => (intro w0 hSw; obtain ⟨e1, e2⟩ := hSw; first | (go_simp; done) | (go_simp; with_reducible rfl))
  simp only [List.setIfInBounds_toArray, List.set_cons_zero, List.set_cons_succ]
  refine takeU 56 (i := 6) (v := ?v7) rfl rfl rfl (by kernel_rfl) (by kernel_rfl) (by kernel_rfl) (by kernel_rfl) (fun _ _ _ h => h) (by kernel_rfl) ?hy7 HT1 ?rest7
  case hy7 => (intro w0 hSw; obtain ⟨e1, e2⟩ := hSw; first | (go_simp; done) | (go_simp; with_reducible rfl))
  simp only [List.setIfInBounds_toArray, List.set_cons_zero, List.set_cons_succ]
  refine takeU 57 (i := 7) (v := ?v8) rfl rfl rfl (by kernel_rfl) (by kernel_rfl) (by kernel_rfl) (by kernel_rfl) (fun _ _ _ h => h) (by kernel_rfl) ?hy8 HT1 ?rest8
  case hy8 => (intro w0 hSw; obtain ⟨e1, e2⟩ := hSw; first | (go_simp; done) | (go_simp; with_reducible rfl))
  simp only [List.setIfInBounds_toArray, List.set_cons_zero, List.set_cons_succ]
  refine takeU 58 (i := 8) (v := ?v9) rfl rfl rfl (by kernel_rfl) (by kernel_rfl) (by kernel_rfl) (by kernel_rfl) (fun _ _ _ h => h) (by kernel_rfl) ?hy9 HT1 ?rest9
  case hy9 => (intro w0 hSw; obtain ⟨e1, e2⟩ := hSw; first | (go_simp; done) | (go_simp; with_reducible rfl))
  simp only [List.setIfInBounds_toArray, List.set_cons_zero, List.set_cons_succ]
  refine takeU 59 (i := 9) (v := ?v10) rfl rfl rfl (by kernel_rfl) (by kernel_rfl) (by kernel_rfl) (by kernel_rfl) (fun _ _ _ h => h) (by kernel_rfl) ?hy10 HT1 ?rest10
  case hy10 => (intro w0 hSw; obtain ⟨e1, e2⟩ := hSw; first | (go_simp; done) | (go_simp; with_reducible rfl))
  simp only [List.setIfInBounds_toArray, List.set_cons_zero, List.set_cons_succ]
  refine takeU 60 (i := 10) (v := ?v11) rfl rfl rfl (by kernel_rfl) (by kernel_rfl) (by kernel_rfl) (by kernel_rfl) (fun _ _ _ h => h) (by kernel_rfl) ?hy11 HT1 ?rest11
  case hy11 => (intro w0 hSw; obtain ⟨e1, e2⟩ := hSw; first | (go_simp; done) | (go_simp; with_reducible rfl))
  simp only [List.setIfInBounds_toArray, List.set_cons_zero, List.set_cons_succ]
  refine oneU 61 (i := 11) rfl rfl (by kernel_rfl) (by kernel_rfl) (fun K hK => ?_)
  go_simp
  with_reducible refine (delete_lit (IntWalk.i64_in _ (by have := HKL.out; have := H8.out; constructor <;> omega)) (HRQ.out.bel (Bel.refl W5).drew) HKL.out H8.out).mono ?_
  rintro e wd ⟨rfl, hrd, hsd⟩
  have hsd : Svg bt W5 wd := ((Bel.refl W5).drew.svg bt).trans hsd
  have hx1 := (hsd.block g1 (lt_of_heap HX1.out) HN1T.out).trans HX1.out
  have hx2 := (hsd.block g2 (lt_of_heap HX2.out) HN2T.out).trans HX2.out
  have hgq := (hsd.block bq (lt_of_heap HGQ.out) HNQT.out).trans HGQ.out
  have hcq := (Sv.cell hsd (p := ⟨bq, h, none⟩) (lt_of_heap HGQ.out) HNQT.out).trans HCQ.out
  have hfq := frozen_of_heap hgq h
  refine hK.out _ _ ⟨cell_of_heap hx1 1, hcq⟩ (fun _ => ?_)
  clear hK K
  simp only [List.setIfInBounds_toArray, List.set_cons_zero, List.set_cons_succ]
  refine takeU 62 (i := 12) (v := ?v13) rfl rfl rfl (by kernel_rfl) (by kernel_rfl) (by kernel_rfl) (by kernel_rfl) (fun _ _ _ h => h) (by kernel_rfl) ?hy13 ⟨cell_of_heap hx1 1, hcq⟩ ?rest13
  case hy13 => (intro w0 hSw; obtain ⟨e1, e2⟩ := hSw; first | (go_simp; done) | (go_simp; with_reducible rfl))
  simp only [List.setIfInBounds_toArray, List.set_cons_zero, List.set_cons_succ]
  refine lastU rfl rfl (by kernel_rfl) (by kernel_rfl) (fun K hK => ?_)
  go_simp
  refine hK.out undef _ ?_
  clear hK K
  refine Upto.done (by kernel_rfl) ?_ _
  have hput := HMU.out.put (s := ⟨some ⟨bt, 0, none⟩, (row m h).length, tc⟩) (t := ⟨some ⟨bt, 0, none⟩, (row m h).length - 1, tc⟩) rfl HH.out HRS.out (Sv.mono2 hsd (fun k hk => by rw [hk]; rfl)) hrd (fun k hk => .inl hk)
  have hset : Svg bq wd (wd.setCell ⟨bq, h, none⟩ (.slice (some ⟨bt, 0, none⟩) ((row m h).length - 1) tc)) := Svg.set _ _ _ _
  have hx1' := (hset.block g1 (lt_of_heap hx1) HN1Q.out).trans hx1
  have hx2' := (hset.block g2 (lt_of_heap hx2) HN2Q.out).trans hx2
  have hx3 := (hset.block g3 (Nat.lt_of_lt_of_le (lt_of_heap HX3.out) hsd.size) HN3Q.out).trans ((hsd.block g3 (lt_of_heap HX3.out) HN3T.out).trans HX3.out)
  have hb6 := hset.bel (hsd.bel HB.out hbt) ((HMU.out.pd.blk rfl).1)
  go_upto_region 9 with (fail)
  generalize wd.setCell ⟨bq, h, none⟩ (.slice (some ⟨bt, 0, none⟩) ((row m h).length - 1) tc) = W6 at hput hset hx1' hx2' hx3 hb6 ⊢
  have HX1 := Lib.hid hx1'
  have HX2 := Lib.hid hx2'
  have HX3 := Lib.hid hx3
  have HB := Lib.hid hb6
  have HM6 : Hid (MemAt w.heap.size W6 ⟨⟨uwp, uwn, uwc⟩, ⟨some ⟨bq, 0, none⟩, upn, upc⟩, ⟨urp, urn, urc⟩, urows.set h ⟨some ⟨bt, 0, none⟩, (row m h).length - 1, tc⟩⟩ (setP m h ((row m h).eraseIdx k))) := Lib.hid hput
  clear HT1 hput hset hx1 hx2 hx1' hx2' hx3 hb6 hrd hsd hgq hcq hfq k0 k1 k2 kf0 kf1 kf2 z0 z1 z2 zf0 zf1 zf2
  have k0 := cell_of_heap HX1.out 0
  have kf0 := frozen_of_heap HX1.out 0
  have k1 := cell_of_heap HX1.out 1
  have kf1 := frozen_of_heap HX1.out 1
  have k2 := cell_of_heap HX1.out 2
  have kf2 := frozen_of_heap HX1.out 2
  simp only [List.getElem?_toArray, List.getElem?_cons_zero, List.getElem?_cons_succ] at k0 k1 k2
  have z0 := cell_of_heap HX2.out 0
  have zf0 := frozen_of_heap HX2.out 0
  have z1 := cell_of_heap HX2.out 1
  have zf1 := frozen_of_heap HX2.out 1
  have z2 := cell_of_heap HX2.out 2
  have zf2 := frozen_of_heap HX2.out 2
  simp only [List.getElem?_toArray, List.getElem?_cons_zero, List.getElem?_cons_succ] at z0 z1 z2
  have y0 := cell_of_heap HX3.out 0
  have y1 := cell_of_heap HX3.out 1
  simp only [List.getElem?_toArray, List.getElem?_cons_zero, List.getElem?_cons_succ] at y0 y1
  obtain ⟨xa, hxa⟩ : ∃ xa : Nat, x1 = (xa : Int) := ⟨x1.toNat, by have := HO.out.at_ _ (row_mem HH.out) _ (List.mem_of_getElem? HK.out); simp only at this; omega⟩
  subst hxa
  have HWX : Hid (isW (setP m h ((row m h).eraseIdx k)) (xa : Int) = true) := Lib.hid (show isW m (xa : Int) = true from isW_iff.2 (HO.out.at_ _ (row_mem HH.out) _ (List.mem_of_getElem? HK.out)))
  have HO6 : Hid (Ok (setP m h ((row m h).eraseIdx k))) := Lib.hid (ok_setP HO.out _ (Nat.le_trans (List.length_eraseIdx_le _ _) H8.out) (fun e he => HO.out.at_ _ (row_mem HH.out) e (List.mem_of_mem_eraseIdx he)))
  have HH6 : Hid (isH (setP m h ((row m h).eraseIdx k)) h = true) := Lib.hid (by rw [← HH.out]; unfold isH setP; rw [List.length_set])
  go_upto_region 10 with (first | (go_at_call 39; ((with_reducible refine (arrive_any HM6.out HO6.out HWX.out HH6.out x2).mono ?_); rintro e w7 ⟨rfl, hm7, hiv⟩; have HM7 := Lib.hid hm7; have HX1 := Lib.hid (hiv.stays HX1.out (by decide)); have HX2 := Lib.hid (hiv.stays HX2.out (by decide)); have HB := Lib.hid (hiv.bel HB.out (Nat.le_refl _)); have k0 := cell_of_heap HX1.out 0; have kf0 := frozen_of_heap HX1.out 0; have k1 := cell_of_heap HX1.out 1; have kf1 := frozen_of_heap HX1.out 1; have k2 := cell_of_heap HX1.out 2; have kf2 := frozen_of_heap HX1.out 2; simp only [List.getElem?_toArray, List.getElem?_cons_zero, List.getElem?_cons_succ] at k0 k1 k2; have z0 := cell_of_heap HX2.out 0; have zf0 := frozen_of_heap HX2.out 0; have z1 := cell_of_heap HX2.out 1; have zf1 := frozen_of_heap HX2.out 1; have z2 := cell_of_heap HX2.out 2; have zf2 := frozen_of_heap HX2.out 2; simp only [List.getElem?_toArray, List.getElem?_cons_zero, List.getElem?_cons_succ] at z0 z1 z2; clear hm7 hiv)))
  go_wp2_with (fail)
  have hs3 : Svg g2 w7 (((w7.setCell ⟨g2, 0, none⟩ (.slice uwp uwn uwc)).setCell ⟨g2, 1, none⟩ (.slice (some ⟨bq, 0, none⟩) upn upc)).setCell ⟨g2, 2, none⟩ (.slice urp urn urc)) := set3_svg _ _ _ _ _
  have hh := set3_heap HX2.out (.slice uwp uwn uwc) (.slice (some ⟨bq, 0, none⟩) upn upc) (.slice urp urn urc)
  exact bodyPost_ret (results_cell_slot Try.results14 _ _ g2 _ _ _ _ _ rfl rfl hh Try.underlying27 rfl (by kernel_rfl)) rfl ⟨⟨⟨uwp, uwn, uwc⟩, ⟨some ⟨bq, 0, none⟩, upn, upc⟩, ⟨urp, urn, urc⟩, urows.set h ⟨some ⟨bt, 0, none⟩, (row m h).length - 1, tc⟩⟩, rfl, hs3.bel HB.out (by have := HG.out; have := HG2.out; omega), (HM7.out).keep hs3 HX2.out (by decide) (by decide) (by decide)⟩
end Go.Proofs.Ytobpoghophhphaa
