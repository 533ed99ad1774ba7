/- The document's own Flush. -/
import Derived.Test.YtobpoghophhphaaMRx
import Derived.Deep.LoopGhost
namespace Go.Proofs.Ytobpoghophhphaa
open Go.RowKit Mm
set_option linter.unusedVariables false
set_option linter.unusedSimpArgs false
set_option maxRecDepth 100000 in
set_option maxHeartbeats 2000000 in
theorem rfl_1 {w : World} {base : Nat} {v : Mv} {m : Mem} (hm : MemAt base w v m) (ho : Ok m) {h : Int} (hh : isH m h = false) :
    Calls Try.prog 17 #[.agg #[.slice v.w.p v.w.n v.w.c, .slice v.p.p v.p.n v.p.c, .slice v.r.p v.r.n v.r.c], .int .i64 h] w (Told zero 1 w) := by
  obtain ⟨hb1, hx1, hx2⟩ := box2 w #[.slice v.w.p v.w.n v.w.c, .slice v.p.p v.p.n v.p.c, .slice v.r.p v.r.n v.r.c] 27 #[.slice none 0 0, .slice none 0 0, .slice none 0 0] 27
  have HM := Lib.hid hm
  have HO := Lib.hid ho
  have HH := Lib.hid hh
  clear hm ho hh
  go_enter Try.func17, Try.ntmps17
  go_upto_region 1 with (fail)
  generalize hW1 : ((w.alloc (.cells #[.slice v.w.p v.w.n v.w.c, .slice v.p.p v.p.n v.p.c, .slice v.r.p v.r.n v.r.c] 27)).alloc (.cells #[.slice none 0 0, .slice none 0 0, .slice none 0 0] 27)) = W1 at hb1 hx1 hx2 ⊢
  clear hW1
  have HN12 : Hid (w.heap.size ≠ w.heap.size + 1) := Lib.hid (by omega)
  have HG2 : Hid (w.heap.size ≤ w.heap.size + 1) := Lib.hid (by omega)
  generalize w.heap.size + 1 = g2 at hx2 HN12 HG2 ⊢
  obtain ⟨g1, hG⟩ : ∃ G, w.heap.size = G := ⟨_, rfl⟩
  rw [hG] at hx1 HN12 HG2 ⊢
  have HG := Lib.hid hG
  have HB := Lib.hid hb1
  have HX1 := Lib.hid hx1
  have HX2 := Lib.hid hx2
  clear hb1 hx1 hx2 hG
  have k0 := cell_of_heap HX1.out 0
  have kf0 := frozen_of_heap HX1.out 0
  have k1 := cell_of_heap HX1.out 1
  have kf1 := frozen_of_heap HX1.out 1
  have k2 := cell_of_heap HX1.out 2
  have kf2 := frozen_of_heap HX1.out 2
  simp only [List.getElem?_toArray, List.getElem?_cons_zero, List.getElem?_cons_succ] at k0 k1 k2
  have z0 := cell_of_heap HX2.out 0
  have zf0 := frozen_of_heap HX2.out 0
  have z1 := cell_of_heap HX2.out 1
  have zf1 := frozen_of_heap HX2.out 1
  have z2 := cell_of_heap HX2.out 2
  have zf2 := frozen_of_heap HX2.out 2
  simp only [List.getElem?_toArray, List.getElem?_cons_zero, List.getElem?_cons_succ] at z0 z1 z2
  go_wp2_with (first | (go_at_call 40; ((with_reducible refine (rhart_lit (HM.out.bel HB.out) HO.out HH.out _).mono ?_); rintro e wa ⟨rfl, hbz⟩; have HB := Lib.hid (HB.out.trans hbz); have HX1 := Lib.hid (hbz.stays HX1.out); have HX2 := Lib.hid (hbz.stays HX2.out); have k0 := cell_of_heap HX1.out 0; have kf0 := frozen_of_heap HX1.out 0; have k1 := cell_of_heap HX1.out 1; have kf1 := frozen_of_heap HX1.out 1; have k2 := cell_of_heap HX1.out 2; have kf2 := frozen_of_heap HX1.out 2; simp only [List.getElem?_toArray, List.getElem?_cons_zero, List.getElem?_cons_succ] at k0 k1 k2; have z0 := cell_of_heap HX2.out 0; have zf0 := frozen_of_heap HX2.out 0; have z1 := cell_of_heap HX2.out 1; have zf1 := frozen_of_heap HX2.out 1; have z2 := cell_of_heap HX2.out 2; have zf2 := frozen_of_heap HX2.out 2; simp only [List.getElem?_toArray, List.getElem?_cons_zero, List.getElem?_cons_succ] at z0 z1 z2; clear hbz)))
  have hs3 : Svg g2 wa (((wa.setCell ⟨g2, 0, none⟩ (.slice none 0 0)).setCell ⟨g2, 1, none⟩ (.slice none 0 0)).setCell ⟨g2, 2, none⟩ (.slice none 0 0)) := set3_svg _ _ _ _ _
  have hh := set3_heap HX2.out (.slice none 0 0) (.slice none 0 0) (.slice none 0 0)
  exact bodyPost_ret (results_cell_slot Try.results17 _ _ g2 _ _ _ _ _ rfl rfl hh Try.underlying27 rfl (by kernel_rfl)) rfl ⟨nilM, rfl, hs3.bel HB.out (by have := HG.out; have := HG2.out; omega), MemAt.zero _ _⟩
set_option maxHeartbeats 2000000 in
set_option maxRecDepth 100000 in
set_option maxHeartbeats 2000000 in
theorem rfl_2 {w : World} {base : Nat} {v : Mv} {m : Mem} (hm : MemAt base w v m) (ho : Ok m) {h : Nat} (hh : isH m (h : Int) = true) :
    Calls Try.prog 17 #[.agg #[.slice v.w.p v.w.n v.w.c, .slice v.p.p v.p.n v.p.c, .slice v.r.p v.r.n v.r.c], .int .i64 (h : Int)] w (Told (flushN m h) 0 w) := by
  obtain ⟨hb1, hx1, hx2⟩ := box2 w #[.slice v.w.p v.w.n v.w.c, .slice v.p.p v.p.n v.p.c, .slice v.r.p v.r.n v.r.c] 27 #[.slice none 0 0, .slice none 0 0, .slice none 0 0] 27
  have HM := Lib.hid hm
  have HO := Lib.hid ho
  have HH := Lib.hid hh
  clear hm ho hh
  go_enter Try.func17, Try.ntmps17
  go_upto_region 1 with (fail)
  generalize hW1 : ((w.alloc (.cells #[.slice v.w.p v.w.n v.w.c, .slice v.p.p v.p.n v.p.c, .slice v.r.p v.r.n v.r.c] 27)).alloc (.cells #[.slice none 0 0, .slice none 0 0, .slice none 0 0] 27)) = W1 at hb1 hx1 hx2 ⊢
  clear hW1
  have HN12 : Hid (w.heap.size ≠ w.heap.size + 1) := Lib.hid (by omega)
  have HG2 : Hid (w.heap.size ≤ w.heap.size + 1) := Lib.hid (by omega)
  generalize w.heap.size + 1 = g2 at hx2 HN12 HG2 ⊢
  obtain ⟨g1, hG⟩ : ∃ G, w.heap.size = G := ⟨_, rfl⟩
  rw [hG] at hx1 HN12 HG2 ⊢
  have HG := Lib.hid hG
  have HB := Lib.hid hb1
  have HX1 := Lib.hid hx1
  have HX2 := Lib.hid hx2
  clear hb1 hx1 hx2 hG
  have k0 := cell_of_heap HX1.out 0
  have kf0 := frozen_of_heap HX1.out 0
  have k1 := cell_of_heap HX1.out 1
  have kf1 := frozen_of_heap HX1.out 1
  have k2 := cell_of_heap HX1.out 2
  have kf2 := frozen_of_heap HX1.out 2
  simp only [List.getElem?_toArray, List.getElem?_cons_zero, List.getElem?_cons_succ] at k0 k1 k2
  have z0 := cell_of_heap HX2.out 0
  have zf0 := frozen_of_heap HX2.out 0
  have z1 := cell_of_heap HX2.out 1
  have zf1 := frozen_of_heap HX2.out 1
  have z2 := cell_of_heap HX2.out 2
  have zf2 := frozen_of_heap HX2.out 2
  simp only [List.getElem?_toArray, List.getElem?_cons_zero, List.getElem?_cons_succ] at z0 z1 z2
  go_upto_region 4 with (first | (go_at_call 40; ((with_reducible refine (rhart_lit (HM.out.bel HB.out) HO.out HH.out _).mono ?_); rintro e wa ⟨rfl, hbz⟩; have HB := Lib.hid (HB.out.trans hbz); have HX1 := Lib.hid (hbz.stays HX1.out); have HX2 := Lib.hid (hbz.stays HX2.out); have k0 := cell_of_heap HX1.out 0; have kf0 := frozen_of_heap HX1.out 0; have k1 := cell_of_heap HX1.out 1; have kf1 := frozen_of_heap HX1.out 1; have k2 := cell_of_heap HX1.out 2; have kf2 := frozen_of_heap HX1.out 2; simp only [List.getElem?_toArray, List.getElem?_cons_zero, List.getElem?_cons_succ] at k0 k1 k2; have z0 := cell_of_heap HX2.out 0; have zf0 := frozen_of_heap HX2.out 0; have z1 := cell_of_heap HX2.out 1; have zf1 := frozen_of_heap HX2.out 1; have z2 := cell_of_heap HX2.out 2; have zf2 := frozen_of_heap HX2.out 2; simp only [List.getElem?_toArray, List.getElem?_cons_zero, List.getElem?_cons_succ] at z0 z1 z2; clear hbz)))
  have HL8 : Hid ((row m (h : Int)).length ≤ 8) := Lib.hid (HO.out.p8 _ (row_mem HH.out))
  have hl9 : (row m (h : Int)).length < 9 := by have := HL8.out; omega
  go_wp2_with fail
  refine (own_any (HM.out.bel HB.out) HO.out).mono ?_
  rintro e w2 ⟨u, rfl, hbu, hmu⟩
  replace hmu := MemAt.mono hmu (show w.heap.size ≤ wa.heap.size from HB.out.size)
  clear k0 k1 k2 kf0 kf1 kf2 z0 z1 z2 zf0 zf1 zf2
  obtain ⟨hb9, hx9⟩ := box1 w2 #[.slice u.w.p u.w.n u.w.c, .slice u.p.p u.p.n u.p.c, .slice u.r.p u.r.n u.r.c] 27
  have HMU : Hid (MemAt w.heap.size (w2.alloc (.cells #[.slice u.w.p u.w.n u.w.c, .slice u.p.p u.p.n u.p.c, .slice u.r.p u.r.n u.r.c] 27)) u (flK m h 0)) := Lib.hid (by rw [flK_zero HH.out]; exact hmu.bel hb9)
  have HN2 : Hid (g2 ≠ w2.heap.size) := Lib.hid (by have := lt_of_heap (hbu.stays HX2.out); omega)
  have HX2 := Lib.hid ((hbu.trans hb9).stays HX2.out)
  have HX9 := Lib.hid hx9
  have HG9 : Hid (w.heap.size ≤ w2.heap.size) := Lib.hid (Nat.le_trans HB.out.size hbu.size)
  have HB := Lib.hid (HB.out.trans (hbu.trans hb9))
  clear hmu hbu hb9 hx9 HX1
  skip
  go_wp2_with fail
  generalize hWW : w2.alloc (.cells #[.slice u.w.p u.w.n u.w.c, .slice u.p.p u.p.n u.p.c, .slice u.r.p u.r.n u.r.c] 27) = W5 at HMU HX2 HX9 HB ⊢
  clear hWW
  generalize w2.heap.size = g9 at HX9 HN2 HG9 ⊢
  have HOK : Hid (∀ j : Nat, j ≤ (row m (h : Int)).length → Ok (flK m h j)) := Lib.hid (fun j => by induction j with | zero => exact fun _ => (by rw [flK_zero HH.out]; exact HO.out) | succ j ih => exact fun hj => (by have h1 := flK_step HH.out (k := j) (by omega); have h2 := ok_drain (ih (by omega)) h 0; rw [h1] at h2; exact h2))
  generalize hLn : (row m (h : Int)).length = Ln at *
  have HLN := Lib.hid hLn
  clear hLn
  go_loopg [] Ln (fun gk wr => ∃ (j : Nat) (u : Mv), j + gk = Ln ∧ Hid (Bel w wr) ∧ Hid (wr.heap[g2]? = some (.cells #[.slice none 0 0, .slice none 0 0, .slice none 0 0] 27 (0, 0))) ∧ Hid (wr.heap[g9]? = some (.cells #[.slice u.w.p u.w.n u.w.c, .slice u.p.p u.p.n u.p.c, .slice u.r.p u.r.n u.r.c] 27 (0, 0))) ∧ Hid (MemAt w.heap.size wr u (flK m h j)))
  case atStart => exact ⟨0, u, by omega, HB, HX2, HX9, HMU⟩
  case round =>
    clear HB HX2 HX9 HMU
    obtain ⟨j, u, hj, HB, HX2, HX9, HMU⟩ := hrel
    obtain ⟨⟨uwp, uwn, uwc⟩, ⟨upp, upn, upc⟩, ⟨urp, urn, urc⟩, urows⟩ := u
    simp only at HX9
    obtain ⟨bp, csp, s0, ep, -, hhp, hlep, hltp, hcp, -, -, hrp⟩ := HMU.out.hart (a := h) (flK_isH HH.out j)
    have hnp := ERow.n hrp
    rw [flK_row HH.out, List.length_drop, HLN.out] at hnp
    simp only at ep hltp hlep
    subst ep
    have k1 := cell_of_heap HX9.out 1
    simp only [List.getElem?_toArray, List.getElem?_cons_zero, List.getElem?_cons_succ] at k1
    have hlp : (h : Int) < (upn : Int) := by omega
    have hj9 : j < 9 := by omega
    by_cases hlt : j < Ln
    · have hls : (0 : Int) < (s0.n : Int) := by omega
      have hls2 : (s0.n : Int) > 0 := hls
      have k0 := cell_of_heap HX9.out 0
      have k2 := cell_of_heap HX9.out 2
      simp only [List.getElem?_toArray, List.getElem?_cons_zero, List.getElem?_cons_succ] at k0 k2
      clear hhp hrp hnp hlep hltp
      go_upto_region 6 with (fail)
      clear hcp hls hls2
      go_wp2_with fail
      refine (rdrain_lit HMU.out (HOK.out j (by omega)) (flK_step HH.out (by rw [HLN.out]; exact hlt))).mono ?_
      rintro e w3 ⟨⟨⟨xwp, xwn, xwc⟩, ⟨xpp, xpn, xpc⟩, ⟨xrp, xrn, xrc⟩, xrows⟩, rfl, hb3, hm3⟩
      simp only
      replace hm3 := MemAt.mono hm3 (show w.heap.size ≤ wr.heap.size from HB.out.size)
      obtain ⟨hb8, hx8⟩ := box1 w3 #[.slice xwp xwn xwc, .slice xpp xpn xpc, .slice xrp xrn xrc] 27
      have HM3 := Lib.hid (hm3.bel hb8)
      have HB3 := Lib.hid (HB.out.trans (hb3.trans hb8))
      have HX23 := Lib.hid ((hb3.trans hb8).stays HX2.out)
      have HX93 := Lib.hid ((hb3.trans hb8).stays HX9.out)
      have HX8 := Lib.hid hx8
      clear hm3 hb3 hb8 hx8 k0 k1 k2 HX9 HX2 HB HMU
      go_upto_region 7 with (fail)
      generalize hWW : w3.alloc (.cells #[.slice xwp xwn xwc, .slice xpp xpn xpc, .slice xrp xrn xrc] 27) = W6 at HM3 HB3 HX23 HX93 HX8 ⊢
      clear hWW
      generalize w3.heap.size = g8 at HX8 ⊢
      have hee : ((0 : Int) != 0) = false := rfl
      have k0 := cell_of_heap HX8.out 0
      have k1 := cell_of_heap HX8.out 1
      have k2 := cell_of_heap HX8.out 2
      simp only [List.getElem?_toArray, List.getElem?_cons_zero, List.getElem?_cons_succ] at k0 k1 k2
      have z0 := cell_of_heap HX93.out 0
      have zf0 := frozen_of_heap HX93.out 0
      have z1 := cell_of_heap HX93.out 1
      have zf1 := frozen_of_heap HX93.out 1
      have z2 := cell_of_heap HX93.out 2
      have zf2 := frozen_of_heap HX93.out 2
      simp only [List.getElem?_toArray, List.getElem?_cons_zero, List.getElem?_cons_succ] at z0 z1 z2
      go_upto_region 9 with (fail)
      have hs3 := set3_svg W6 g9 (.slice xwp xwn xwc) (.slice xpp xpn xpc) (.slice xrp xrn xrc)
      have hh := set3_heap HX93.out (.slice xwp xwn xwc) (.slice xpp xpn xpc) (.slice xrp xrn xrc)
      have h1 := Lib.hid (hs3.bel HB3.out HG9.out)
      have h2 := Lib.hid ((hs3.block g2 (lt_of_heap HX23.out) HN2.out).trans HX23.out)
      have h3 := Lib.hid hh
      have h4 := Lib.hid (HM3.out.keep hs3 HX93.out (by decide) (by decide) (by decide))
      clear hs3 hh
      go_wp2
      go_roundg (gk - 1)
      case measure => omega
      case rel => exact ⟨j + 1, ⟨⟨xwp, xwn, xwc⟩, ⟨xpp, xpn, xpc⟩, ⟨xrp, xrn, xrc⟩, xrows⟩, by omega, h1, h2, h3, h4⟩
    · obtain rfl : j = Ln := by omega
      have hls : ¬ (0 : Int) < (s0.n : Int) := by omega
      have hls2 : ¬ (s0.n : Int) > 0 := hls
      clear hhp hrp hnp hlep hltp
      have k0 := cell_of_heap HX9.out 0
      have k2 := cell_of_heap HX9.out 2
      simp only [List.getElem?_toArray, List.getElem?_cons_zero, List.getElem?_cons_succ] at k0 k2
      have z0 := cell_of_heap HX2.out 0
      have zf0 := frozen_of_heap HX2.out 0
      have z1 := cell_of_heap HX2.out 1
      have zf1 := frozen_of_heap HX2.out 1
      have z2 := cell_of_heap HX2.out 2
      have zf2 := frozen_of_heap HX2.out 2
      simp only [List.getElem?_toArray, List.getElem?_cons_zero, List.getElem?_cons_succ] at z0 z1 z2
      have HMF : Hid (MemAt w.heap.size wr ⟨⟨uwp, uwn, uwc⟩, ⟨some ⟨bp, 0, none⟩, upn, upc⟩, ⟨urp, urn, urc⟩, urows⟩ (flushN m h)) := Lib.hid (by rw [← flK_end, HLN.out]; exact HMU.out)
      go_wp2
      have hs3 : Svg g2 wr (((wr.setCell ⟨g2, 0, none⟩ (.slice uwp uwn uwc)).setCell ⟨g2, 1, none⟩ (.slice (some ⟨bp, 0, none⟩) upn upc)).setCell ⟨g2, 2, none⟩ (.slice urp urn urc)) := set3_svg _ _ _ _ _
      have hh := set3_heap HX2.out (.slice uwp uwn uwc) (.slice (some ⟨bp, 0, none⟩) upn upc) (.slice urp urn urc)
      exact bodyPost_ret (results_cell_slot Try.results17 _ _ g2 _ _ _ _ _ rfl rfl hh Try.underlying27 rfl (by kernel_rfl)) rfl ⟨⟨⟨uwp, uwn, uwc⟩, ⟨some ⟨bp, 0, none⟩, upn, upc⟩, ⟨urp, urn, urc⟩, urows⟩, rfl, hs3.bel HB.out (by have := HG.out; have := HG2.out; omega), (HMF.out).keep hs3 HX2.out (by decide) (by decide) (by decide)⟩
theorem rflush_lit {w : World} {base : Nat} {v : Mv} {m : Mem} (hm : MemAt base w v m) (ho : Ok m) {h : Int} {m' : Mem} {r : Int} (hr : flushV m h = (m', r)) :
    Calls Try.prog 17 #[.agg #[.slice v.w.p v.w.n v.w.c, .slice v.p.p v.p.n v.p.c, .slice v.r.p v.r.n v.r.c], .int .i64 h] w (Told m' r w) := by
  unfold flushV at hr
  cases hh : isH m h with
  | false => rw [hh] at hr; injection hr with h1 h2; rw [← h1, ← h2]; exact rfl_1 hm ho hh
  | true =>
    obtain ⟨hN, rfl⟩ : ∃ hN : Nat, h = hN := ⟨h.toNat, by have := isH_iff.1 hh; omega⟩
    rw [hh] at hr; injection hr with h1 h2; rw [← h1, ← h2]; exact rfl_2 hm ho hh
end Go.Proofs.Ytobpoghophhphaa
