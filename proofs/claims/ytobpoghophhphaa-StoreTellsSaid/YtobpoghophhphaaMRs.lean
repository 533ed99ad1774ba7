/- The document's own Reserve. -/
import Derived.Test.YtobpoghophhphaaMRa
import Derived.Test.YtobpoghophhphaaMRg
namespace Go.Proofs.Ytobpoghophhphaa
open Go.RowKit Mm
set_option linter.unusedVariables false
set_option linter.unusedSimpArgs false
set_option maxRecDepth 100000 in
set_option maxHeartbeats 2000000 in
theorem rres_1 {w : World} {base : Nat} {v : Mv} {m : Mem} (hm : MemAt base w v m) (ho : Ok m) {h a : Int} (ht : (isH m h && isW m a) = false) :
    Calls Try.prog 19 #[.agg #[.slice v.w.p v.w.n v.w.c, .slice v.p.p v.p.n v.p.c, .slice v.r.p v.r.n v.r.c], .int .i64 h, .int .i64 a] w (Told3 (.int .i64 0) zero 1 w) := by
  obtain ⟨hb1, hx1, hx2⟩ := box2 w #[.slice v.w.p v.w.n v.w.c, .slice v.p.p v.p.n v.p.c, .slice v.r.p v.r.n v.r.c] 27 #[.slice none 0 0, .slice none 0 0, .slice none 0 0] 27
  have HM := Lib.hid hm
  have HO := Lib.hid ho
  have HT := Lib.hid ht
  clear hm ho ht
  go_enter Try.func19, Try.ntmps19
  go_upto_region 1 with (fail)
  generalize hW1 : ((w.alloc (.cells #[.slice v.w.p v.w.n v.w.c, .slice v.p.p v.p.n v.p.c, .slice v.r.p v.r.n v.r.c] 27)).alloc (.cells #[.slice none 0 0, .slice none 0 0, .slice none 0 0] 27)) = W1 at hb1 hx1 hx2 ⊢
  clear hW1
  have HN12 : Hid (w.heap.size ≠ w.heap.size + 1) := Lib.hid (by omega)
  have HG2 : Hid (w.heap.size ≤ w.heap.size + 1) := Lib.hid (by omega)
  generalize w.heap.size + 1 = g2 at hx2 HN12 HG2 ⊢
  obtain ⟨g1, hG⟩ : ∃ G, w.heap.size = G := ⟨_, rfl⟩
  rw [hG] at hx1 HN12 HG2 ⊢
  have HG := Lib.hid hG
  have HB := Lib.hid hb1
  have HX1 := Lib.hid hx1
  have HX2 := Lib.hid hx2
  clear hb1 hx1 hx2 hG
  have k0 := cell_of_heap HX1.out 0
  have kf0 := frozen_of_heap HX1.out 0
  have k1 := cell_of_heap HX1.out 1
  have kf1 := frozen_of_heap HX1.out 1
  have k2 := cell_of_heap HX1.out 2
  have kf2 := frozen_of_heap HX1.out 2
  simp only [List.getElem?_toArray, List.getElem?_cons_zero, List.getElem?_cons_succ] at k0 k1 k2
  have z0 := cell_of_heap HX2.out 0
  have zf0 := frozen_of_heap HX2.out 0
  have z1 := cell_of_heap HX2.out 1
  have zf1 := frozen_of_heap HX2.out 1
  have z2 := cell_of_heap HX2.out 2
  have zf2 := frozen_of_heap HX2.out 2
  simp only [List.getElem?_toArray, List.getElem?_cons_zero, List.getElem?_cons_succ] at z0 z1 z2
  go_wp2_with (first | (go_at_call 31; ((with_reducible refine (rthere_lit (HM.out.bel HB.out) HO.out HT.out _).mono ?_); rintro e wa ⟨rfl, hbz⟩; have HB := Lib.hid (HB.out.trans hbz); have HX1 := Lib.hid (hbz.stays HX1.out); have HX2 := Lib.hid (hbz.stays HX2.out); have k0 := cell_of_heap HX1.out 0; have kf0 := frozen_of_heap HX1.out 0; have k1 := cell_of_heap HX1.out 1; have kf1 := frozen_of_heap HX1.out 1; have k2 := cell_of_heap HX1.out 2; have kf2 := frozen_of_heap HX1.out 2; simp only [List.getElem?_toArray, List.getElem?_cons_zero, List.getElem?_cons_succ] at k0 k1 k2; have z0 := cell_of_heap HX2.out 0; have zf0 := frozen_of_heap HX2.out 0; have z1 := cell_of_heap HX2.out 1; have zf1 := frozen_of_heap HX2.out 1; have z2 := cell_of_heap HX2.out 2; have zf2 := frozen_of_heap HX2.out 2; simp only [List.getElem?_toArray, List.getElem?_cons_zero, List.getElem?_cons_succ] at z0 z1 z2; clear hbz)))
  have hs3 : Svg g2 wa (((wa.setCell ⟨g2, 0, none⟩ (.slice none 0 0)).setCell ⟨g2, 1, none⟩ (.slice none 0 0)).setCell ⟨g2, 2, none⟩ (.slice none 0 0)) := set3_svg _ _ _ _ _
  have hh := set3_heap HX2.out (.slice none 0 0) (.slice none 0 0) (.slice none 0 0)
  exact bodyPost_ret (results_slot_cell_slot Try.results19 _ _ g2 _ _ _ _ _ _ rfl rfl rfl hh Try.underlying27 rfl (by kernel_rfl)) rfl ⟨nilM, rfl, hs3.bel HB.out (by have := HG.out; have := HG2.out; omega), MemAt.zero _ _⟩
set_option maxRecDepth 100000 in
set_option maxHeartbeats 2000000 in
theorem rres_2 {w : World} {base : Nat} {v : Mv} {m : Mem} (hm : MemAt base w v m) (ho : Ok m) {h : Nat} {a : Int} (hh : isH m (h : Int) = true) (hw : isW m a = true) (hl : 0 < (row m (h : Int)).length) :
    Calls Try.prog 19 #[.agg #[.slice v.w.p v.w.n v.w.c, .slice v.p.p v.p.n v.p.c, .slice v.r.p v.r.n v.r.c], .int .i64 (h : Int), .int .i64 a] w (Told3 (.int .i64 0) zero 92 w) := by
  obtain ⟨hb1, hx1, hx2⟩ := box2 w #[.slice v.w.p v.w.n v.w.c, .slice v.p.p v.p.n v.p.c, .slice v.r.p v.r.n v.r.c] 27 #[.slice none 0 0, .slice none 0 0, .slice none 0 0] 27
  have HM := Lib.hid hm
  have HO := Lib.hid ho
  have HH := Lib.hid hh
  have HW := Lib.hid hw
  have HLN := Lib.hid hl
  clear hm ho hh hw hl
  go_enter Try.func19, Try.ntmps19
  go_upto_region 1 with (fail)
  generalize hW1 : ((w.alloc (.cells #[.slice v.w.p v.w.n v.w.c, .slice v.p.p v.p.n v.p.c, .slice v.r.p v.r.n v.r.c] 27)).alloc (.cells #[.slice none 0 0, .slice none 0 0, .slice none 0 0] 27)) = W1 at hb1 hx1 hx2 ⊢
  clear hW1
  have HN12 : Hid (w.heap.size ≠ w.heap.size + 1) := Lib.hid (by omega)
  have HG2 : Hid (w.heap.size ≤ w.heap.size + 1) := Lib.hid (by omega)
  generalize w.heap.size + 1 = g2 at hx2 HN12 HG2 ⊢
  obtain ⟨g1, hG⟩ : ∃ G, w.heap.size = G := ⟨_, rfl⟩
  rw [hG] at hx1 HN12 HG2 ⊢
  have HG := Lib.hid hG
  have HB := Lib.hid hb1
  have HX1 := Lib.hid hx1
  have HX2 := Lib.hid hx2
  clear hb1 hx1 hx2 hG
  have k0 := cell_of_heap HX1.out 0
  have kf0 := frozen_of_heap HX1.out 0
  have k1 := cell_of_heap HX1.out 1
  have kf1 := frozen_of_heap HX1.out 1
  have k2 := cell_of_heap HX1.out 2
  have kf2 := frozen_of_heap HX1.out 2
  simp only [List.getElem?_toArray, List.getElem?_cons_zero, List.getElem?_cons_succ] at k0 k1 k2
  have z0 := cell_of_heap HX2.out 0
  have zf0 := frozen_of_heap HX2.out 0
  have z1 := cell_of_heap HX2.out 1
  have zf1 := frozen_of_heap HX2.out 1
  have z2 := cell_of_heap HX2.out 2
  have zf2 := frozen_of_heap HX2.out 2
  simp only [List.getElem?_toArray, List.getElem?_cons_zero, List.getElem?_cons_succ] at z0 z1 z2
  have HT : Hid ((isH m (h : Int) && isW m a) = true) := Lib.hid (by rw [HH.out, HW.out]; rfl)
  go_upto_region 4 with (first | (go_at_call 31; ((with_reducible refine (rthere_lit (HM.out.bel HB.out) HO.out HT.out _).mono ?_); rintro e wa ⟨rfl, hbz⟩; have HB := Lib.hid (HB.out.trans hbz); have HX1 := Lib.hid (hbz.stays HX1.out); have HX2 := Lib.hid (hbz.stays HX2.out); have k0 := cell_of_heap HX1.out 0; have kf0 := frozen_of_heap HX1.out 0; have k1 := cell_of_heap HX1.out 1; have kf1 := frozen_of_heap HX1.out 1; have k2 := cell_of_heap HX1.out 2; have kf2 := frozen_of_heap HX1.out 2; simp only [List.getElem?_toArray, List.getElem?_cons_zero, List.getElem?_cons_succ] at k0 k1 k2; have z0 := cell_of_heap HX2.out 0; have zf0 := frozen_of_heap HX2.out 0; have z1 := cell_of_heap HX2.out 1; have zf1 := frozen_of_heap HX2.out 1; have z2 := cell_of_heap HX2.out 2; have zf2 := frozen_of_heap HX2.out 2; simp only [List.getElem?_toArray, List.getElem?_cons_zero, List.getElem?_cons_succ] at z0 z1 z2; clear hbz)))
  obtain ⟨bp, csp, s0, ep, _, hhp, hlep, hltp, hcp, _, _, hrp⟩ := (HM.out.bel HB.out).hart HH.out
  have HEP := Lib.hid ep
  have hnp : s0.n = (row m (h : Int)).length := ERow.n hrp
  rw [ep] at k1
  have hlp : (h : Int) < v.p.n := by omega
  have hls : (0 : Int) < s0.n := by have := HLN.out; omega
  have hls2 : (s0.n : Int) > 0 := hls
  clear hhp hrp hnp
  go_wp2_with (fail)
  have hs3 : Svg g2 wa (((wa.setCell ⟨g2, 0, none⟩ (.slice none 0 0)).setCell ⟨g2, 1, none⟩ (.slice none 0 0)).setCell ⟨g2, 2, none⟩ (.slice none 0 0)) := set3_svg _ _ _ _ _
  have hh := set3_heap HX2.out (.slice none 0 0) (.slice none 0 0) (.slice none 0 0)
  exact bodyPost_ret (results_slot_cell_slot Try.results19 _ _ g2 _ _ _ _ _ _ rfl rfl rfl hh Try.underlying27 rfl (by kernel_rfl)) rfl ⟨nilM, rfl, hs3.bel HB.out (by have := HG.out; have := HG2.out; omega), MemAt.zero _ _⟩
set_option maxRecDepth 100000 in
set_option maxHeartbeats 2000000 in
theorem rres_3 {w : World} {base : Nat} {v : Mv} {m : Mem} (hm : MemAt base w v m) (ho : Ok m) {h a : Nat} (hh : isH m (h : Int) = true) (hw : isW m (a : Int) = true) (hl : (row m (h : Int)).length = 0) :
    Calls Try.prog 19 #[.agg #[.slice v.w.p v.w.n v.w.c, .slice v.p.p v.p.n v.p.c, .slice v.r.p v.r.n v.r.c], .int .i64 (h : Int), .int .i64 (a : Int)] w (Told3 (.int .i64 (wordN m a)) (setR m h a) 0 w) := by
  obtain ⟨hb1, hx1, hx2⟩ := box2 w #[.slice v.w.p v.w.n v.w.c, .slice v.p.p v.p.n v.p.c, .slice v.r.p v.r.n v.r.c] 27 #[.slice none 0 0, .slice none 0 0, .slice none 0 0] 27
  have HM := Lib.hid hm
  have HO := Lib.hid ho
  have HH := Lib.hid hh
  have HW := Lib.hid hw
  have HLN := Lib.hid hl
  clear hm ho hh hw hl
  go_enter Try.func19, Try.ntmps19
  go_upto_region 1 with (fail)
  generalize hW1 : ((w.alloc (.cells #[.slice v.w.p v.w.n v.w.c, .slice v.p.p v.p.n v.p.c, .slice v.r.p v.r.n v.r.c] 27)).alloc (.cells #[.slice none 0 0, .slice none 0 0, .slice none 0 0] 27)) = W1 at hb1 hx1 hx2 ⊢
  clear hW1
  have HN12 : Hid (w.heap.size ≠ w.heap.size + 1) := Lib.hid (by omega)
  have HG2 : Hid (w.heap.size ≤ w.heap.size + 1) := Lib.hid (by omega)
  generalize w.heap.size + 1 = g2 at hx2 HN12 HG2 ⊢
  obtain ⟨g1, hG⟩ : ∃ G, w.heap.size = G := ⟨_, rfl⟩
  rw [hG] at hx1 HN12 HG2 ⊢
  have HG := Lib.hid hG
  have HB := Lib.hid hb1
  have HX1 := Lib.hid hx1
  have HX2 := Lib.hid hx2
  clear hb1 hx1 hx2 hG
  have k0 := cell_of_heap HX1.out 0
  have kf0 := frozen_of_heap HX1.out 0
  have k1 := cell_of_heap HX1.out 1
  have kf1 := frozen_of_heap HX1.out 1
  have k2 := cell_of_heap HX1.out 2
  have kf2 := frozen_of_heap HX1.out 2
  simp only [List.getElem?_toArray, List.getElem?_cons_zero, List.getElem?_cons_succ] at k0 k1 k2
  have z0 := cell_of_heap HX2.out 0
  have zf0 := frozen_of_heap HX2.out 0
  have z1 := cell_of_heap HX2.out 1
  have zf1 := frozen_of_heap HX2.out 1
  have z2 := cell_of_heap HX2.out 2
  have zf2 := frozen_of_heap HX2.out 2
  simp only [List.getElem?_toArray, List.getElem?_cons_zero, List.getElem?_cons_succ] at z0 z1 z2
  have HT : Hid ((isH m (h : Int) && isW m (a : Int)) = true) := Lib.hid (by rw [HH.out, HW.out]; rfl)
  go_upto_region 4 with (first | (go_at_call 31; ((with_reducible refine (rthere_lit (HM.out.bel HB.out) HO.out HT.out _).mono ?_); rintro e wa ⟨rfl, hbz⟩; have HB := Lib.hid (HB.out.trans hbz); have HX1 := Lib.hid (hbz.stays HX1.out); have HX2 := Lib.hid (hbz.stays HX2.out); have k0 := cell_of_heap HX1.out 0; have kf0 := frozen_of_heap HX1.out 0; have k1 := cell_of_heap HX1.out 1; have kf1 := frozen_of_heap HX1.out 1; have k2 := cell_of_heap HX1.out 2; have kf2 := frozen_of_heap HX1.out 2; simp only [List.getElem?_toArray, List.getElem?_cons_zero, List.getElem?_cons_succ] at k0 k1 k2; have z0 := cell_of_heap HX2.out 0; have zf0 := frozen_of_heap HX2.out 0; have z1 := cell_of_heap HX2.out 1; have zf1 := frozen_of_heap HX2.out 1; have z2 := cell_of_heap HX2.out 2; have zf2 := frozen_of_heap HX2.out 2; simp only [List.getElem?_toArray, List.getElem?_cons_zero, List.getElem?_cons_succ] at z0 z1 z2; clear hbz)))
  obtain ⟨bp, csp, s0, ep, _, hhp, hlep, hltp, hcp, _, _, hrp⟩ := (HM.out.bel HB.out).hart HH.out
  have HEP := Lib.hid ep
  have hnp : s0.n = (row m (h : Int)).length := ERow.n hrp
  rw [ep] at k1
  have hlp : (h : Int) < v.p.n := by omega
  have hls : ¬ (0 : Int) < s0.n := by have := HLN.out; omega
  have hls2 : ¬ (s0.n : Int) > 0 := hls
  clear hhp hrp hnp
  go_upto_region 6 with (fail)
  rw [← ep] at k1
  clear ep hcp hlep hltp hlp hls hls2
  go_wp2_with fail
  refine (own_any (HM.out.bel HB.out) HO.out).mono ?_
  rintro e w2 ⟨⟨⟨uwp, uwn, uwc⟩, ⟨upp, upn, upc⟩, ⟨urp, urn, urc⟩, urows⟩, rfl, hbu, hmu⟩
  simp only
  obtain ⟨bw, csw, e1, _, _, _, _, _, _⟩ := hmu.word HW.out
  obtain ⟨br, csr, e2, hbr0, _, _, _, _, _⟩ := hmu.resv HO.out HH.out
  have HBRG := Lib.hid hbr0
  have HWA : Hid (w.heap.size ≤ wa.heap.size) := Lib.hid HB.out.size
  clear hbr0
  replace hmu := MemAt.mono hmu (show w.heap.size ≤ wa.heap.size from HB.out.size)
  simp only at e1 e2
  subst e1 e2
  clear k0 k1 k2 kf0 kf1 kf2 z0 z1 z2 zf0 zf1 zf2
  obtain ⟨hb9, hx9⟩ := box1 w2 #[.slice (some ⟨bw, 0, none⟩) uwn uwc, .slice upp upn upc, .slice (some ⟨br, 0, none⟩) urn urc] 27
  have HMU := Lib.hid (hmu.bel hb9)
  have HX1 := Lib.hid ((hbu.trans hb9).stays HX1.out)
  have HX2 := Lib.hid ((hbu.trans hb9).stays HX2.out)
  have HX9 := Lib.hid hx9
  have HMV := Lib.hid ((HM.out.bel HB.out).bel (hbu.trans hb9))
  have HB := Lib.hid (HB.out.trans (hbu.trans hb9))
  clear hmu hbu hb9 hx9
  go_upto_region 7 with (fail)
  generalize hWW : w2.alloc (.cells #[.slice (some ⟨bw, 0, none⟩) uwn uwc, .slice upp upn upc, .slice (some ⟨br, 0, none⟩) urn urc] 27) = W5 at HMU HB HX9 HX1 HX2 HMV ⊢
  clear hWW
  generalize w2.heap.size = g9 at HX9 ⊢
  obtain ⟨br', csr', er, hbr, hgr, hler, hltr, cr, crf⟩ := HMU.out.resv HO.out HH.out
  simp only at er hler hltr
  injection er with er
  injection er with er
  subst er
  have hlr : (h : Int) < urn := by omega
  have q2 := cell_of_heap HX9.out 2
  simp only [List.getElem?_toArray, List.getElem?_cons_zero, List.getElem?_cons_succ] at q2
  go_upto_region 8 with (fail)
  have hs6 : Ivg w.heap.size W5 (W5.setCell ⟨br, h, none⟩ (.int .i64 (a : Int))) := setInt_ivg hbr hgr _ _
  have hm6 := HMU.out.setRs rfl (a := h) (by have := HO.out.pr; have := isH_iff.1 HH.out; omega) (a : Int)
  have hx1 := hs6.stays HX1.out (by decide)
  have hx2 := hs6.stays HX2.out (by decide)
  have hx9 := hs6.stays HX9.out (by decide)
  have hb6 := hs6.bel HB.out (Nat.le_refl _)
  obtain ⟨bv, csv, ev, _, hgv, hlev, hltv, cv, _⟩ := HMV.out.word HW.out
  obtain ⟨bv', csv', ev', _, hgv', _, _, _, _⟩ := HM.out.word HW.out
  have hbe : bv' = bv := by rw [ev] at ev'; injection ev' with ev'; injection ev' with ev'; exact ev'.symm
  have hne : bv ≠ br := fun c => by have h1 := lt_of_heap hgv'; have h2 := HBRG.out; have h3 := HWA.out; omega
  clear ev' hgv' hbe
  have cv6 : (W5.setCell ⟨br, h, none⟩ (.int .i64 (a : Int))).cell? ⟨bv, a, none⟩ = some (.int .i64 (wordN m a)) := (Sv.cell (S := fun k => k = br) (Svg.set br h W5 (.int .i64 (a : Int))) (p := ⟨bv, a, none⟩) (lt_of_heap hgv) hne).trans cv
  generalize W5.setCell ⟨br, h, none⟩ (.int .i64 (a : Int)) = W6 at hs6 hm6 hx1 hx2 hx9 hb6 cv6 ⊢
  have HX2 := Lib.hid hx2
  have HB := Lib.hid hb6
  have HM6 := Lib.hid hm6
  have k0 := cell_of_heap hx1 0
  simp only [List.getElem?_toArray, List.getElem?_cons_zero, List.getElem?_cons_succ] at k0
  rw [ev] at k0
  have hlv : (a : Int) < v.w.n := by omega
  have q0 := cell_of_heap hx9 0
  have q1 := cell_of_heap hx9 1
  clear q2
  have q2 := cell_of_heap hx9 2
  simp only [List.getElem?_toArray, List.getElem?_cons_zero, List.getElem?_cons_succ] at q0 q1 q2
  have z0 := cell_of_heap HX2.out 0
  have zf0 := frozen_of_heap HX2.out 0
  have z1 := cell_of_heap HX2.out 1
  have zf1 := frozen_of_heap HX2.out 1
  have z2 := cell_of_heap HX2.out 2
  have zf2 := frozen_of_heap HX2.out 2
  simp only [List.getElem?_toArray, List.getElem?_cons_zero, List.getElem?_cons_succ] at z0 z1 z2
  clear hs6 hm6 hx1 hx2 hx9 hb6 cr crf hbr hgr hler hltr cv hgv
  go_region
  go_wp2_with (fail)
  have hs3 : Svg g2 W6 (((W6.setCell ⟨g2, 0, none⟩ (.slice (some ⟨bw, 0, none⟩) uwn uwc)).setCell ⟨g2, 1, none⟩ (.slice upp upn upc)).setCell ⟨g2, 2, none⟩ (.slice (some ⟨br, 0, none⟩) urn urc)).drew := (set3_svg _ _ _ _ _).trans ((Bel.refl _).drew.svg g2)
  have hh : (((W6.setCell ⟨g2, 0, none⟩ (.slice (some ⟨bw, 0, none⟩) uwn uwc)).setCell ⟨g2, 1, none⟩ (.slice upp upn upc)).setCell ⟨g2, 2, none⟩ (.slice (some ⟨br, 0, none⟩) urn urc)).drew.heap[g2]? = some (.cells #[.slice (some ⟨bw, 0, none⟩) uwn uwc, .slice upp upn upc, .slice (some ⟨br, 0, none⟩) urn urc] 27 (0, 0)) := set3_heap HX2.out _ _ _
  exact bodyPost_ret (results_slot_cell_slot Try.results19 _ _ g2 _ _ _ _ _ _ rfl rfl rfl hh Try.underlying27 rfl (by kernel_rfl)) rfl ⟨⟨⟨some ⟨bw, 0, none⟩, uwn, uwc⟩, ⟨upp, upn, upc⟩, ⟨some ⟨br, 0, none⟩, urn, urc⟩, urows⟩, rfl, hs3.bel HB.out (by have := HG.out; have := HG2.out; omega), (HM6.out).keep hs3 HX2.out (by decide) (by decide) (by decide)⟩
end Go.Proofs.Ytobpoghophhphaa
