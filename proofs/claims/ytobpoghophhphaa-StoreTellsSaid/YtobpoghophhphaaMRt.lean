/- The document's own Conditional. -/
import Derived.Test.YtobpoghophhphaaMRs
namespace Go.Proofs.Ytobpoghophhphaa
open Go.RowKit Mm
set_option linter.unusedVariables false
set_option linter.unusedSimpArgs false
set_option maxRecDepth 100000 in
set_option maxHeartbeats 2000000 in
theorem rcond_1 {w : World} {base : Nat} {v : Mv} {m : Mem} (hm : MemAt base w v m) (ho : Ok m) {h a n : Int} (ht : (isH m h && isW m a) = false) :
    Calls Try.prog 21 #[.agg #[.slice v.w.p v.w.n v.w.c, .slice v.p.p v.p.n v.p.c, .slice v.r.p v.r.n v.r.c], .int .i64 h, .int .i64 a, .int .i64 n] w (Told3 (.bool false) zero 1 w) := by
  obtain ⟨hb1, hx1, hx2⟩ := box2 w #[.slice v.w.p v.w.n v.w.c, .slice v.p.p v.p.n v.p.c, .slice v.r.p v.r.n v.r.c] 27 #[.slice none 0 0, .slice none 0 0, .slice none 0 0] 27
  have HM := Lib.hid hm
  have HO := Lib.hid ho
  have HT := Lib.hid ht
  clear hm ho ht
  go_enter Try.func21, Try.ntmps21
  go_upto_region 1 with (fail)
  generalize hW1 : ((w.alloc (.cells #[.slice v.w.p v.w.n v.w.c, .slice v.p.p v.p.n v.p.c, .slice v.r.p v.r.n v.r.c] 27)).alloc (.cells #[.slice none 0 0, .slice none 0 0, .slice none 0 0] 27)) = W1 at hb1 hx1 hx2 ⊢
  clear hW1
  have HN12 : Hid (w.heap.size ≠ w.heap.size + 1) := Lib.hid (by omega)
  have HG2 : Hid (w.heap.size ≤ w.heap.size + 1) := Lib.hid (by omega)
  generalize w.heap.size + 1 = g2 at hx2 HN12 HG2 ⊢
  obtain ⟨g1, hG⟩ : ∃ G, w.heap.size = G := ⟨_, rfl⟩
  rw [hG] at hx1 HN12 HG2 ⊢
  have HG := Lib.hid hG
  have HB := Lib.hid hb1
  have HX1 := Lib.hid hx1
  have HX2 := Lib.hid hx2
  clear hb1 hx1 hx2 hG
  have k0 := cell_of_heap HX1.out 0
  have kf0 := frozen_of_heap HX1.out 0
  have k1 := cell_of_heap HX1.out 1
  have kf1 := frozen_of_heap HX1.out 1
  have k2 := cell_of_heap HX1.out 2
  have kf2 := frozen_of_heap HX1.out 2
  simp only [List.getElem?_toArray, List.getElem?_cons_zero, List.getElem?_cons_succ] at k0 k1 k2
  have z0 := cell_of_heap HX2.out 0
  have zf0 := frozen_of_heap HX2.out 0
  have z1 := cell_of_heap HX2.out 1
  have zf1 := frozen_of_heap HX2.out 1
  have z2 := cell_of_heap HX2.out 2
  have zf2 := frozen_of_heap HX2.out 2
  simp only [List.getElem?_toArray, List.getElem?_cons_zero, List.getElem?_cons_succ] at z0 z1 z2
  go_wp2_with (first | (go_at_call 31; ((with_reducible refine (rthere_lit (HM.out.bel HB.out) HO.out HT.out _).mono ?_); rintro e wa ⟨rfl, hbz⟩; have HB := Lib.hid (HB.out.trans hbz); have HX1 := Lib.hid (hbz.stays HX1.out); have HX2 := Lib.hid (hbz.stays HX2.out); have k0 := cell_of_heap HX1.out 0; have kf0 := frozen_of_heap HX1.out 0; have k1 := cell_of_heap HX1.out 1; have kf1 := frozen_of_heap HX1.out 1; have k2 := cell_of_heap HX1.out 2; have kf2 := frozen_of_heap HX1.out 2; simp only [List.getElem?_toArray, List.getElem?_cons_zero, List.getElem?_cons_succ] at k0 k1 k2; have z0 := cell_of_heap HX2.out 0; have zf0 := frozen_of_heap HX2.out 0; have z1 := cell_of_heap HX2.out 1; have zf1 := frozen_of_heap HX2.out 1; have z2 := cell_of_heap HX2.out 2; have zf2 := frozen_of_heap HX2.out 2; simp only [List.getElem?_toArray, List.getElem?_cons_zero, List.getElem?_cons_succ] at z0 z1 z2; clear hbz)))
  have hs3 : Svg g2 wa (((wa.setCell ⟨g2, 0, none⟩ (.slice none 0 0)).setCell ⟨g2, 1, none⟩ (.slice none 0 0)).setCell ⟨g2, 2, none⟩ (.slice none 0 0)) := set3_svg _ _ _ _ _
  have hh := set3_heap HX2.out (.slice none 0 0) (.slice none 0 0) (.slice none 0 0)
  exact bodyPost_ret (results_slot_cell_slot Try.results21 _ _ g2 _ _ _ _ _ _ rfl rfl rfl hh Try.underlying27 rfl (by kernel_rfl)) rfl ⟨nilM, rfl, hs3.bel HB.out (by have := HG.out; have := HG2.out; omega), MemAt.zero _ _⟩
set_option maxRecDepth 100000 in
set_option maxHeartbeats 2000000 in
theorem rcond_2 {w : World} {base : Nat} {v : Mv} {m : Mem} (hm : MemAt base w v m) (ho : Ok m) {h : Nat} {a n : Int} (hh : isH m (h : Int) = true) (hw : isW m a = true) (hl : 0 < (row m (h : Int)).length) :
    Calls Try.prog 21 #[.agg #[.slice v.w.p v.w.n v.w.c, .slice v.p.p v.p.n v.p.c, .slice v.r.p v.r.n v.r.c], .int .i64 (h : Int), .int .i64 a, .int .i64 n] w (Told3 (.bool false) zero 92 w) := by
  obtain ⟨hb1, hx1, hx2⟩ := box2 w #[.slice v.w.p v.w.n v.w.c, .slice v.p.p v.p.n v.p.c, .slice v.r.p v.r.n v.r.c] 27 #[.slice none 0 0, .slice none 0 0, .slice none 0 0] 27
  have HM := Lib.hid hm
  have HO := Lib.hid ho
  have HH := Lib.hid hh
  have HW := Lib.hid hw
  have HLN := Lib.hid hl
  clear hm ho hh hw hl
  go_enter Try.func21, Try.ntmps21
  go_upto_region 1 with (fail)
  generalize hW1 : ((w.alloc (.cells #[.slice v.w.p v.w.n v.w.c, .slice v.p.p v.p.n v.p.c, .slice v.r.p v.r.n v.r.c] 27)).alloc (.cells #[.slice none 0 0, .slice none 0 0, .slice none 0 0] 27)) = W1 at hb1 hx1 hx2 ⊢
  clear hW1
  have HN12 : Hid (w.heap.size ≠ w.heap.size + 1) := Lib.hid (by omega)
  have HG2 : Hid (w.heap.size ≤ w.heap.size + 1) := Lib.hid (by omega)
  generalize w.heap.size + 1 = g2 at hx2 HN12 HG2 ⊢
  obtain ⟨g1, hG⟩ : ∃ G, w.heap.size = G := ⟨_, rfl⟩
  rw [hG] at hx1 HN12 HG2 ⊢
  have HG := Lib.hid hG
  have HB := Lib.hid hb1
  have HX1 := Lib.hid hx1
  have HX2 := Lib.hid hx2
  clear hb1 hx1 hx2 hG
  have k0 := cell_of_heap HX1.out 0
  have kf0 := frozen_of_heap HX1.out 0
  have k1 := cell_of_heap HX1.out 1
  have kf1 := frozen_of_heap HX1.out 1
  have k2 := cell_of_heap HX1.out 2
  have kf2 := frozen_of_heap HX1.out 2
  simp only [List.getElem?_toArray, List.getElem?_cons_zero, List.getElem?_cons_succ] at k0 k1 k2
  have z0 := cell_of_heap HX2.out 0
  have zf0 := frozen_of_heap HX2.out 0
  have z1 := cell_of_heap HX2.out 1
  have zf1 := frozen_of_heap HX2.out 1
  have z2 := cell_of_heap HX2.out 2
  have zf2 := frozen_of_heap HX2.out 2
  simp only [List.getElem?_toArray, List.getElem?_cons_zero, List.getElem?_cons_succ] at z0 z1 z2
  have HT : Hid ((isH m (h : Int) && isW m a) = true) := Lib.hid (by rw [HH.out, HW.out]; rfl)
  go_upto_region 4 with (first | (go_at_call 31; ((with_reducible refine (rthere_lit (HM.out.bel HB.out) HO.out HT.out _).mono ?_); rintro e wa ⟨rfl, hbz⟩; have HB := Lib.hid (HB.out.trans hbz); have HX1 := Lib.hid (hbz.stays HX1.out); have HX2 := Lib.hid (hbz.stays HX2.out); have k0 := cell_of_heap HX1.out 0; have kf0 := frozen_of_heap HX1.out 0; have k1 := cell_of_heap HX1.out 1; have kf1 := frozen_of_heap HX1.out 1; have k2 := cell_of_heap HX1.out 2; have kf2 := frozen_of_heap HX1.out 2; simp only [List.getElem?_toArray, List.getElem?_cons_zero, List.getElem?_cons_succ] at k0 k1 k2; have z0 := cell_of_heap HX2.out 0; have zf0 := frozen_of_heap HX2.out 0; have z1 := cell_of_heap HX2.out 1; have zf1 := frozen_of_heap HX2.out 1; have z2 := cell_of_heap HX2.out 2; have zf2 := frozen_of_heap HX2.out 2; simp only [List.getElem?_toArray, List.getElem?_cons_zero, List.getElem?_cons_succ] at z0 z1 z2; clear hbz)))
  obtain ⟨bp, csp, s0, ep, _, hhp, hlep, hltp, hcp, _, _, hrp⟩ := (HM.out.bel HB.out).hart HH.out
  have HEP := Lib.hid ep
  have hnp : s0.n = (row m (h : Int)).length := ERow.n hrp
  rw [ep] at k1
  have hlp : (h : Int) < v.p.n := by omega
  have hls : (0 : Int) < s0.n := by have := HLN.out; omega
  have hls2 : (s0.n : Int) > 0 := hls
  clear hhp hrp hnp
  go_wp2_with (fail)
  have hs3 : Svg g2 wa (((wa.setCell ⟨g2, 0, none⟩ (.slice none 0 0)).setCell ⟨g2, 1, none⟩ (.slice none 0 0)).setCell ⟨g2, 2, none⟩ (.slice none 0 0)) := set3_svg _ _ _ _ _
  have hh := set3_heap HX2.out (.slice none 0 0) (.slice none 0 0) (.slice none 0 0)
  exact bodyPost_ret (results_slot_cell_slot Try.results21 _ _ g2 _ _ _ _ _ _ rfl rfl rfl hh Try.underlying27 rfl (by kernel_rfl)) rfl ⟨nilM, rfl, hs3.bel HB.out (by have := HG.out; have := HG2.out; omega), MemAt.zero _ _⟩
set_option maxHeartbeats 4000000 in
set_option maxRecDepth 100000 in
set_option maxHeartbeats 2000000 in
theorem rcond_3 {w : World} {base : Nat} {v : Mv} {m : Mem} (hm : MemAt base w v m) (ho : Ok m) {h a : Nat} {n : Int} (hh : isH m (h : Int) = true) (hw : isW m (a : Int) = true) {b : Bool} {m' : Mem} (hl : (row m (h : Int)).length = 0) (hbv : decide (resN m (h : Int) = (a : Int)) = b) (hmp : setR (if resN m (h : Int) = (a : Int) then arr m h a (wrap32 n) else m) h (-1) = m') :
    Calls Try.prog 21 #[.agg #[.slice v.w.p v.w.n v.w.c, .slice v.p.p v.p.n v.p.c, .slice v.r.p v.r.n v.r.c], .int .i64 (h : Int), .int .i64 (a : Int), .int .i64 n] w (Told3 (.bool b) m' 0 w) := by
  obtain ⟨hb1, hx1, hx2⟩ := box2 w #[.slice v.w.p v.w.n v.w.c, .slice v.p.p v.p.n v.p.c, .slice v.r.p v.r.n v.r.c] 27 #[.slice none 0 0, .slice none 0 0, .slice none 0 0] 27
  have HM := Lib.hid hm
  have HO := Lib.hid ho
  have HH := Lib.hid hh
  have HW := Lib.hid hw
  have HLN := Lib.hid hl
  have HBV := Lib.hid hbv
  have HMP := Lib.hid hmp
  clear hm ho hh hw hl hbv hmp
  go_enter Try.func21, Try.ntmps21
  go_upto_region 1 with (fail)
  generalize hW1 : ((w.alloc (.cells #[.slice v.w.p v.w.n v.w.c, .slice v.p.p v.p.n v.p.c, .slice v.r.p v.r.n v.r.c] 27)).alloc (.cells #[.slice none 0 0, .slice none 0 0, .slice none 0 0] 27)) = W1 at hb1 hx1 hx2 ⊢
  clear hW1
  have HN12 : Hid (w.heap.size ≠ w.heap.size + 1) := Lib.hid (by omega)
  have HG2 : Hid (w.heap.size ≤ w.heap.size + 1) := Lib.hid (by omega)
  generalize w.heap.size + 1 = g2 at hx2 HN12 HG2 ⊢
  obtain ⟨g1, hG⟩ : ∃ G, w.heap.size = G := ⟨_, rfl⟩
  rw [hG] at hx1 HN12 HG2 ⊢
  have HG := Lib.hid hG
  have HB := Lib.hid hb1
  have HX1 := Lib.hid hx1
  have HX2 := Lib.hid hx2
  clear hb1 hx1 hx2 hG
  have k0 := cell_of_heap HX1.out 0
  have kf0 := frozen_of_heap HX1.out 0
  have k1 := cell_of_heap HX1.out 1
  have kf1 := frozen_of_heap HX1.out 1
  have k2 := cell_of_heap HX1.out 2
  have kf2 := frozen_of_heap HX1.out 2
  simp only [List.getElem?_toArray, List.getElem?_cons_zero, List.getElem?_cons_succ] at k0 k1 k2
  have z0 := cell_of_heap HX2.out 0
  have zf0 := frozen_of_heap HX2.out 0
  have z1 := cell_of_heap HX2.out 1
  have zf1 := frozen_of_heap HX2.out 1
  have z2 := cell_of_heap HX2.out 2
  have zf2 := frozen_of_heap HX2.out 2
  simp only [List.getElem?_toArray, List.getElem?_cons_zero, List.getElem?_cons_succ] at z0 z1 z2
  have HT : Hid ((isH m (h : Int) && isW m (a : Int)) = true) := Lib.hid (by rw [HH.out, HW.out]; rfl)
  go_upto_region 4 with (first | (go_at_call 31; ((with_reducible refine (rthere_lit (HM.out.bel HB.out) HO.out HT.out _).mono ?_); rintro e wa ⟨rfl, hbz⟩; have HB := Lib.hid (HB.out.trans hbz); have HX1 := Lib.hid (hbz.stays HX1.out); have HX2 := Lib.hid (hbz.stays HX2.out); have k0 := cell_of_heap HX1.out 0; have kf0 := frozen_of_heap HX1.out 0; have k1 := cell_of_heap HX1.out 1; have kf1 := frozen_of_heap HX1.out 1; have k2 := cell_of_heap HX1.out 2; have kf2 := frozen_of_heap HX1.out 2; simp only [List.getElem?_toArray, List.getElem?_cons_zero, List.getElem?_cons_succ] at k0 k1 k2; have z0 := cell_of_heap HX2.out 0; have zf0 := frozen_of_heap HX2.out 0; have z1 := cell_of_heap HX2.out 1; have zf1 := frozen_of_heap HX2.out 1; have z2 := cell_of_heap HX2.out 2; have zf2 := frozen_of_heap HX2.out 2; simp only [List.getElem?_toArray, List.getElem?_cons_zero, List.getElem?_cons_succ] at z0 z1 z2; clear hbz)))
  obtain ⟨bp, csp, s0, ep, _, hhp, hlep, hltp, hcp, _, _, hrp⟩ := (HM.out.bel HB.out).hart HH.out
  have HEP := Lib.hid ep
  have hnp : s0.n = (row m (h : Int)).length := ERow.n hrp
  rw [ep] at k1
  have hlp : (h : Int) < v.p.n := by omega
  have hls : ¬ (0 : Int) < s0.n := by have := HLN.out; omega
  have hls2 : ¬ (s0.n : Int) > 0 := hls
  clear hhp hrp hnp
  go_upto_region 6 with (fail)
  rw [← ep] at k1
  clear ep hcp hlep hltp hlp hls hls2
  obtain ⟨bq, csq, eq, _, _, hleq, hltq, cq, _⟩ := (HM.out.bel HB.out).resv HO.out HH.out
  rw [eq] at k2
  have hlq : (h : Int) < v.r.n := by omega
  have HY2 := HX2
  have HY1 := HX1
  by_cases hre : resN m (h : Int) = (a : Int)
  · have hre2 : (resN m (h : Int) == (a : Int)) = true := by simp [hre]
    obtain rfl : b = true := by rw [← HBV.out]; exact decide_eq_true hre
    have HME : Hid (setR (arr m h a (wrap32 n)) h (-1) = m') := Lib.hid (by have h0 := HMP.out; rwa [if_pos hre] at h0)
    rw [hre] at cq
    have haa : ((a : Int) == (a : Int)) = true := by simp
    go_upto_region 7 with (fail)
    rw [← eq] at k2
    clear eq cq hlq hltq hleq hre2 hre haa
    go_wp2_with fail
    refine (own_any (HM.out.bel HB.out) HO.out).mono ?_
    rintro e w2 ⟨⟨⟨uwp, uwn, uwc⟩, ⟨upp, upn, upc⟩, ⟨urp, urn, urc⟩, urows⟩, rfl, hbu, hmu⟩
    replace hmu := MemAt.mono hmu (show w.heap.size ≤ wa.heap.size from HB.out.size)
    simp only
    clear k0 k1 k2 kf0 kf1 kf2 z0 z1 z2 zf0 zf1 zf2
    obtain ⟨hb9, hx9⟩ := box1 w2 #[.slice uwp uwn uwc, .slice upp upn upc, .slice urp urn urc] 27
    have HMU := Lib.hid (hmu.bel hb9)
    have HX1 := Lib.hid ((hbu.trans hb9).stays HX1.out)
    have HX2 := Lib.hid ((hbu.trans hb9).stays HX2.out)
    have HX9 := Lib.hid hx9
    have HN29 : Hid (g2 ≠ w2.heap.size) := Lib.hid (by have := lt_of_heap ((hbu).stays HY2.out); omega)
    have HN19 : Hid (g1 ≠ w2.heap.size) := Lib.hid (by have := lt_of_heap ((hbu).stays HY1.out); omega)
    have HG9 : Hid (w.heap.size ≤ w2.heap.size) := Lib.hid (Nat.le_trans HB.out.size hbu.size)
    have HB := Lib.hid (HB.out.trans (hbu.trans hb9))
    clear hmu hbu hb9 hx9
    go_upto_region 9 with (fail)
    generalize hWW : w2.alloc (.cells #[.slice uwp uwn uwc, .slice upp upn upc, .slice urp urn urc] 27) = W5 at HMU HB HX9 HX1 HX2 ⊢
    clear hWW
    generalize w2.heap.size = g9 at HX9 HN29 HN19 HG9 ⊢
    generalize Value.bool (decide (0 < s0.n)) = vdd
    refine wp_region_held_drew (S := fun _ => True) (by kernel_rfl) trivial (fun _ => ?_)
    refine takeD 40 (i := 1) (v := ?v1) rfl rfl (by kernel_rfl) (by kernel_rfl) (by kernel_rfl) (fun _ _ _ h => h) (by kernel_rfl) ?hy1 trivial ?rest1
    case hy1 => (intro w0 hSw; first | (go_simp; done) | (go_simp; with_reducible rfl))
    try simp only [List.setIfInBounds_toArray, List.set_cons_zero, List.set_cons_succ]
    refine takeD 41 (i := 2) (v := ?v2) rfl rfl (by kernel_rfl) (by kernel_rfl) (by kernel_rfl) (fun _ _ _ h => h) (by kernel_rfl) ?hy2 trivial ?rest2
    case hy2 => (intro w0 hSw; first | (go_simp; done) | (go_simp; with_reducible rfl))
    try simp only [List.setIfInBounds_toArray, List.set_cons_zero, List.set_cons_succ]
    refine takeD 42 (i := 3) (v := ?v3) rfl rfl (by kernel_rfl) (by kernel_rfl) (by kernel_rfl) (fun _ _ _ h => h) (by kernel_rfl) ?hy3 trivial ?rest3
    case hy3 => (intro w0 hSw; first | (go_simp; done) | (go_simp; with_reducible rfl))
    try simp only [List.setIfInBounds_toArray, List.set_cons_zero, List.set_cons_succ]
    refine twoE 39 43 (i1 := 0) (i2 := 4) rfl rfl rfl rfl (by kernel_rfl) (by kernel_rfl) (by kernel_rfl) (fun K hK => ?_) (fun K hK => ?_)
    · try simp only [List.setIfInBounds_toArray, List.set_cons_zero, List.set_cons_succ] at hK
      have c0 := cell_of_heap ((Bel.refl W5).drew.stays HX1.out) 0
      have c1 := cell_of_heap ((Bel.refl W5).drew.stays HX1.out) 1
      have c2 := cell_of_heap ((Bel.refl W5).drew.stays HX1.out) 2
      simp only [List.getElem?_toArray, List.getElem?_cons_zero, List.getElem?_cons_succ] at c0 c1 c2
      go_simp
      clear c0 c1 c2
      refine hK _ _ trivial (fun _ => ?_)
      clear hK K
      refine onlyE 43 (i := 4) rfl rfl (by kernel_rfl) (by kernel_rfl) (fun K hK => ?_)
      try simp only [List.setIfInBounds_toArray, List.set_cons_zero, List.set_cons_succ] at hK
      go_simp
      go_at_call 35
      refine (rwrap_any n _).mono ?_
      rintro e wq ⟨rfl, rfl⟩
      refine hK _ _ trivial (fun _ => ?_)
      clear hK K
      refine onlyE 44 (i := 5) rfl rfl (by kernel_rfl) (by kernel_rfl) (fun K hK => ?_)
      try simp only [List.setIfInBounds_toArray, List.set_cons_zero, List.set_cons_succ] at hK
      go_simp
      go_at_call 41
      refine (goes_any (HM.out.bel (HB.out.trans (Bel.refl W5).drew)) HO.out HW.out HH.out (wrap32 n)).mono ?_
      rintro e w8 ⟨⟨⟨xwp, xwn, xwc⟩, ⟨xpp, xpn, xpc⟩, ⟨xrp, xrn, xrc⟩, xrows⟩, rfl, hb8, hm8⟩
      replace hm8 := MemAt.mono hm8 (show w.heap.size ≤ W5.drew.heap.size from HB.out.size)
      have HB8 : Hid (Bel W5 w8) := Lib.hid ((Bel.refl W5).drew.trans hb8)
      have HM8 := Lib.hid hm8
      clear hb8 hm8
      simp only
      refine hK _ _ trivial (fun _ => ?_)
      clear hK K
      refine onlyN (i := 6) rfl rfl (by kernel_rfl) (by kernel_rfl) (fun K hK => ?_)
      have hx := HB8.out.stays HX9.out
      have c0 := cell_of_heap hx 0
      have c1 := cell_of_heap hx 1
      have c2 := cell_of_heap hx 2
      have y0 := frozen_of_heap hx 0
      have y1 := frozen_of_heap hx 1
      have y2 := frozen_of_heap hx 2
      simp only [List.getElem?_toArray, List.getElem?_cons_zero, List.getElem?_cons_succ] at c0 c1 c2
      go_simp
      clear c0 c1 c2 y0 y1 y2 hx
      refine hK undef _ trivial (fun _ => ?_)
      clear hK K
      refine wpAnyH_done (by kernel_rfl) ?_ _
      have hs9 : Svg g9 w8 (((w8.setCell ⟨g9, 0, none⟩ (.slice xwp xwn xwc)).setCell ⟨g9, 1, none⟩ (.slice xpp xpn xpc)).setCell ⟨g9, 2, none⟩ (.slice xrp xrn xrc)) := set3_svg _ _ _ _ _
      have hx9 := set3_heap (HB8.out.stays HX9.out) (.slice xwp xwn xwc) (.slice xpp xpn xpc) (.slice xrp xrn xrc)
      generalize hWW : (((w8.setCell ⟨g9, 0, none⟩ (.slice xwp xwn xwc)).setCell ⟨g9, 1, none⟩ (.slice xpp xpn xpc)).setCell ⟨g9, 2, none⟩ (.slice xrp xrn xrc)) = W9 at hs9 hx9 ⊢
      clear hWW
      have HMU := Lib.hid (HM8.out.keep hs9 (HB8.out.stays HX9.out) (by decide) (by decide) (by decide))
      have HX2 := Lib.hid ((hs9.block g2 (lt_of_heap (HB8.out.stays HX2.out)) HN29.out).trans (HB8.out.stays HX2.out))
      have HX9 := Lib.hid hx9
      have HB := Lib.hid (hs9.bel (HB.out.trans HB8.out) HG9.out)
      clear hs9 hx9
      have HOM := Lib.hid (ok_arr HO.out h a (wrap32 n))
      have HHM : Hid (isH (arr m h a (wrap32 n)) h = true) := Lib.hid HH.out
      go_upto_region 10 with (fail)
      obtain ⟨br, csr, er, hbr, hgr, hler, hltr, cr, crf⟩ := HMU.out.resv HOM.out HHM.out
      simp only at er hler hltr
      subst er
      have hlr : (h : Int) < xrn := by omega
      have q2 := cell_of_heap HX9.out 2
      simp only [List.getElem?_toArray, List.getElem?_cons_zero, List.getElem?_cons_succ] at q2
      go_upto_region 11 with (fail)
      have hs6 : Ivg w.heap.size W9 (W9.setCell ⟨br, h, none⟩ (.int .i64 (-1))) := setInt_ivg hbr hgr _ _
      have hm6 := HMU.out.setRs rfl (a := h) (by have := HOM.out.pr; have := isH_iff.1 HHM.out; omega) (-1)
      have hx2 := hs6.stays HX2.out (by decide)
      have hx9 := hs6.stays HX9.out (by decide)
      have hb6 := hs6.bel HB.out (Nat.le_refl _)
      generalize W9.setCell ⟨br, h, none⟩ (.int .i64 (-1)) = W6 at hs6 hm6 hx2 hx9 hb6 ⊢
      have HX2 := Lib.hid hx2
      have HB := Lib.hid hb6
      have HM6 := Lib.hid hm6
      have q0 := cell_of_heap hx9 0
      have q1 := cell_of_heap hx9 1
      clear q2
      have q2 := cell_of_heap hx9 2
      simp only [List.getElem?_toArray, List.getElem?_cons_zero, List.getElem?_cons_succ] at q0 q1 q2
      have z0 := cell_of_heap HX2.out 0
      have zf0 := frozen_of_heap HX2.out 0
      have z1 := cell_of_heap HX2.out 1
      have zf1 := frozen_of_heap HX2.out 1
      have z2 := cell_of_heap HX2.out 2
      have zf2 := frozen_of_heap HX2.out 2
      simp only [List.getElem?_toArray, List.getElem?_cons_zero, List.getElem?_cons_succ] at z0 z1 z2
      clear hs6 hm6 hx2 hx9 hb6 cr crf hbr hgr hler hltr
      go_region
      go_wp2_with fail
      have hs3 : Svg g2 W6 (((W6.setCell ⟨g2, 0, none⟩ (.slice xwp xwn xwc)).setCell ⟨g2, 1, none⟩ (.slice xpp xpn xpc)).setCell ⟨g2, 2, none⟩ (.slice (some ⟨br, 0, none⟩) xrn xrc)).drew := (set3_svg _ _ _ _ _).trans ((Bel.refl _).drew.svg g2)
      have hh : (((W6.setCell ⟨g2, 0, none⟩ (.slice xwp xwn xwc)).setCell ⟨g2, 1, none⟩ (.slice xpp xpn xpc)).setCell ⟨g2, 2, none⟩ (.slice (some ⟨br, 0, none⟩) xrn xrc)).drew.heap[g2]? = some (.cells #[.slice xwp xwn xwc, .slice xpp xpn xpc, .slice (some ⟨br, 0, none⟩) xrn xrc] 27 (0, 0)) := set3_heap HX2.out _ _ _
      exact bodyPost_ret (results_slot_cell_slot Try.results21 _ _ g2 _ _ _ _ _ _ rfl rfl rfl hh Try.underlying27 rfl (by kernel_rfl)) rfl ⟨⟨⟨xwp, xwn, xwc⟩, ⟨xpp, xpn, xpc⟩, ⟨some ⟨br, 0, none⟩, xrn, xrc⟩, xrows⟩, rfl, hs3.bel HB.out (by have := HG.out; have := HG2.out; omega), ((show MemAt _ _ _ m' from by rw [← HME.out]; exact HM6.out)).keep hs3 HX2.out (by decide) (by decide) (by decide)⟩
    · try simp only [List.setIfInBounds_toArray, List.set_cons_zero, List.set_cons_succ] at hK
      go_simp
      go_at_call 35
      refine (rwrap_any n _).mono ?_
      rintro e wq ⟨rfl, rfl⟩
      refine hK _ _ trivial (fun _ => ?_)
      clear hK K
      refine onlyE 39 (i := 0) rfl rfl (by kernel_rfl) (by kernel_rfl) (fun K hK => ?_)
      try simp only [List.setIfInBounds_toArray, List.set_cons_zero, List.set_cons_succ] at hK
      have c0 := cell_of_heap ((Bel.refl W5).drew.stays HX1.out) 0
      have c1 := cell_of_heap ((Bel.refl W5).drew.stays HX1.out) 1
      have c2 := cell_of_heap ((Bel.refl W5).drew.stays HX1.out) 2
      simp only [List.getElem?_toArray, List.getElem?_cons_zero, List.getElem?_cons_succ] at c0 c1 c2
      go_simp
      clear c0 c1 c2
      refine hK _ _ trivial (fun _ => ?_)
      clear hK K
      refine onlyE 44 (i := 5) rfl rfl (by kernel_rfl) (by kernel_rfl) (fun K hK => ?_)
      try simp only [List.setIfInBounds_toArray, List.set_cons_zero, List.set_cons_succ] at hK
      go_simp
      go_at_call 41
      refine (goes_any (HM.out.bel (HB.out.trans (Bel.refl W5).drew)) HO.out HW.out HH.out (wrap32 n)).mono ?_
      rintro e w8 ⟨⟨⟨xwp, xwn, xwc⟩, ⟨xpp, xpn, xpc⟩, ⟨xrp, xrn, xrc⟩, xrows⟩, rfl, hb8, hm8⟩
      replace hm8 := MemAt.mono hm8 (show w.heap.size ≤ W5.drew.heap.size from HB.out.size)
      have HB8 : Hid (Bel W5 w8) := Lib.hid ((Bel.refl W5).drew.trans hb8)
      have HM8 := Lib.hid hm8
      clear hb8 hm8
      simp only
      refine hK _ _ trivial (fun _ => ?_)
      clear hK K
      refine onlyN (i := 6) rfl rfl (by kernel_rfl) (by kernel_rfl) (fun K hK => ?_)
      have hx := HB8.out.stays HX9.out
      have c0 := cell_of_heap hx 0
      have c1 := cell_of_heap hx 1
      have c2 := cell_of_heap hx 2
      have y0 := frozen_of_heap hx 0
      have y1 := frozen_of_heap hx 1
      have y2 := frozen_of_heap hx 2
      simp only [List.getElem?_toArray, List.getElem?_cons_zero, List.getElem?_cons_succ] at c0 c1 c2
      go_simp
      clear c0 c1 c2 y0 y1 y2 hx
      refine hK undef _ trivial (fun _ => ?_)
      clear hK K
      refine wpAnyH_done (by kernel_rfl) ?_ _
      have hs9 : Svg g9 w8 (((w8.setCell ⟨g9, 0, none⟩ (.slice xwp xwn xwc)).setCell ⟨g9, 1, none⟩ (.slice xpp xpn xpc)).setCell ⟨g9, 2, none⟩ (.slice xrp xrn xrc)) := set3_svg _ _ _ _ _
      have hx9 := set3_heap (HB8.out.stays HX9.out) (.slice xwp xwn xwc) (.slice xpp xpn xpc) (.slice xrp xrn xrc)
      generalize hWW : (((w8.setCell ⟨g9, 0, none⟩ (.slice xwp xwn xwc)).setCell ⟨g9, 1, none⟩ (.slice xpp xpn xpc)).setCell ⟨g9, 2, none⟩ (.slice xrp xrn xrc)) = W9 at hs9 hx9 ⊢
      clear hWW
      have HMU := Lib.hid (HM8.out.keep hs9 (HB8.out.stays HX9.out) (by decide) (by decide) (by decide))
      have HX2 := Lib.hid ((hs9.block g2 (lt_of_heap (HB8.out.stays HX2.out)) HN29.out).trans (HB8.out.stays HX2.out))
      have HX9 := Lib.hid hx9
      have HB := Lib.hid (hs9.bel (HB.out.trans HB8.out) HG9.out)
      clear hs9 hx9
      have HOM := Lib.hid (ok_arr HO.out h a (wrap32 n))
      have HHM : Hid (isH (arr m h a (wrap32 n)) h = true) := Lib.hid HH.out
      go_upto_region 10 with (fail)
      obtain ⟨br, csr, er, hbr, hgr, hler, hltr, cr, crf⟩ := HMU.out.resv HOM.out HHM.out
      simp only at er hler hltr
      subst er
      have hlr : (h : Int) < xrn := by omega
      have q2 := cell_of_heap HX9.out 2
      simp only [List.getElem?_toArray, List.getElem?_cons_zero, List.getElem?_cons_succ] at q2
      go_upto_region 11 with (fail)
      have hs6 : Ivg w.heap.size W9 (W9.setCell ⟨br, h, none⟩ (.int .i64 (-1))) := setInt_ivg hbr hgr _ _
      have hm6 := HMU.out.setRs rfl (a := h) (by have := HOM.out.pr; have := isH_iff.1 HHM.out; omega) (-1)
      have hx2 := hs6.stays HX2.out (by decide)
      have hx9 := hs6.stays HX9.out (by decide)
      have hb6 := hs6.bel HB.out (Nat.le_refl _)
      generalize W9.setCell ⟨br, h, none⟩ (.int .i64 (-1)) = W6 at hs6 hm6 hx2 hx9 hb6 ⊢
      have HX2 := Lib.hid hx2
      have HB := Lib.hid hb6
      have HM6 := Lib.hid hm6
      have q0 := cell_of_heap hx9 0
      have q1 := cell_of_heap hx9 1
      clear q2
      have q2 := cell_of_heap hx9 2
      simp only [List.getElem?_toArray, List.getElem?_cons_zero, List.getElem?_cons_succ] at q0 q1 q2
      have z0 := cell_of_heap HX2.out 0
      have zf0 := frozen_of_heap HX2.out 0
      have z1 := cell_of_heap HX2.out 1
      have zf1 := frozen_of_heap HX2.out 1
      have z2 := cell_of_heap HX2.out 2
      have zf2 := frozen_of_heap HX2.out 2
      simp only [List.getElem?_toArray, List.getElem?_cons_zero, List.getElem?_cons_succ] at z0 z1 z2
      clear hs6 hm6 hx2 hx9 hb6 cr crf hbr hgr hler hltr
      go_region
      go_wp2_with fail
      have hs3 : Svg g2 W6 (((W6.setCell ⟨g2, 0, none⟩ (.slice xwp xwn xwc)).setCell ⟨g2, 1, none⟩ (.slice xpp xpn xpc)).setCell ⟨g2, 2, none⟩ (.slice (some ⟨br, 0, none⟩) xrn xrc)).drew := (set3_svg _ _ _ _ _).trans ((Bel.refl _).drew.svg g2)
      have hh : (((W6.setCell ⟨g2, 0, none⟩ (.slice xwp xwn xwc)).setCell ⟨g2, 1, none⟩ (.slice xpp xpn xpc)).setCell ⟨g2, 2, none⟩ (.slice (some ⟨br, 0, none⟩) xrn xrc)).drew.heap[g2]? = some (.cells #[.slice xwp xwn xwc, .slice xpp xpn xpc, .slice (some ⟨br, 0, none⟩) xrn xrc] 27 (0, 0)) := set3_heap HX2.out _ _ _
      exact bodyPost_ret (results_slot_cell_slot Try.results21 _ _ g2 _ _ _ _ _ _ rfl rfl rfl hh Try.underlying27 rfl (by kernel_rfl)) rfl ⟨⟨⟨xwp, xwn, xwc⟩, ⟨xpp, xpn, xpc⟩, ⟨some ⟨br, 0, none⟩, xrn, xrc⟩, xrows⟩, rfl, hs3.bel HB.out (by have := HG.out; have := HG2.out; omega), ((show MemAt _ _ _ m' from by rw [← HME.out]; exact HM6.out)).keep hs3 HX2.out (by decide) (by decide) (by decide)⟩
  · have hre2 : (resN m (h : Int) == (a : Int)) = false := by simp [hre]
    obtain rfl : b = false := by rw [← HBV.out]; exact decide_eq_false hre
    have HME : Hid (setR m h (-1) = m') := Lib.hid (by have h0 := HMP.out; rwa [if_neg hre] at h0)
    generalize resN m (h : Int) = rr at cq hre2
    go_upto_region 7 with (fail)
    rw [← eq] at k2
    clear eq cq hlq hltq hleq hre2 hre
    go_wp2_with fail
    refine (own_any (HM.out.bel HB.out) HO.out).mono ?_
    rintro e w2 ⟨⟨⟨uwp, uwn, uwc⟩, ⟨upp, upn, upc⟩, ⟨urp, urn, urc⟩, urows⟩, rfl, hbu, hmu⟩
    replace hmu := MemAt.mono hmu (show w.heap.size ≤ wa.heap.size from HB.out.size)
    simp only
    clear k0 k1 k2 kf0 kf1 kf2 z0 z1 z2 zf0 zf1 zf2
    obtain ⟨hb9, hx9⟩ := box1 w2 #[.slice uwp uwn uwc, .slice upp upn upc, .slice urp urn urc] 27
    have HMU := Lib.hid (hmu.bel hb9)
    have HX1 := Lib.hid ((hbu.trans hb9).stays HX1.out)
    have HX2 := Lib.hid ((hbu.trans hb9).stays HX2.out)
    have HX9 := Lib.hid hx9
    have HN29 : Hid (g2 ≠ w2.heap.size) := Lib.hid (by have := lt_of_heap ((hbu).stays HY2.out); omega)
    have HN19 : Hid (g1 ≠ w2.heap.size) := Lib.hid (by have := lt_of_heap ((hbu).stays HY1.out); omega)
    have HG9 : Hid (w.heap.size ≤ w2.heap.size) := Lib.hid (Nat.le_trans HB.out.size hbu.size)
    have HB := Lib.hid (HB.out.trans (hbu.trans hb9))
    clear hmu hbu hb9 hx9
    go_upto_region 10 with (fail)
    generalize hWW : w2.alloc (.cells #[.slice uwp uwn uwc, .slice upp upn upc, .slice urp urn urc] 27) = W5 at HMU HB HX9 HX1 HX2 ⊢
    clear hWW
    generalize w2.heap.size = g9 at HX9 HN29 HN19 HG9 ⊢
    have HOM := Lib.hid HO.out
    have HHM := Lib.hid HH.out
    go_upto_region 10 with (fail)
    obtain ⟨br, csr, er, hbr, hgr, hler, hltr, cr, crf⟩ := HMU.out.resv HOM.out HHM.out
    simp only at er hler hltr
    subst er
    have hlr : (h : Int) < urn := by omega
    have q2 := cell_of_heap HX9.out 2
    simp only [List.getElem?_toArray, List.getElem?_cons_zero, List.getElem?_cons_succ] at q2
    go_upto_region 11 with (fail)
    have hs6 : Ivg w.heap.size W5 (W5.setCell ⟨br, h, none⟩ (.int .i64 (-1))) := setInt_ivg hbr hgr _ _
    have hm6 := HMU.out.setRs rfl (a := h) (by have := HOM.out.pr; have := isH_iff.1 HHM.out; omega) (-1)
    have hx2 := hs6.stays HX2.out (by decide)
    have hx9 := hs6.stays HX9.out (by decide)
    have hb6 := hs6.bel HB.out (Nat.le_refl _)
    generalize W5.setCell ⟨br, h, none⟩ (.int .i64 (-1)) = W6 at hs6 hm6 hx2 hx9 hb6 ⊢
    have HX2 := Lib.hid hx2
    have HB := Lib.hid hb6
    have HM6 := Lib.hid hm6
    have q0 := cell_of_heap hx9 0
    have q1 := cell_of_heap hx9 1
    clear q2
    have q2 := cell_of_heap hx9 2
    simp only [List.getElem?_toArray, List.getElem?_cons_zero, List.getElem?_cons_succ] at q0 q1 q2
    have z0 := cell_of_heap HX2.out 0
    have zf0 := frozen_of_heap HX2.out 0
    have z1 := cell_of_heap HX2.out 1
    have zf1 := frozen_of_heap HX2.out 1
    have z2 := cell_of_heap HX2.out 2
    have zf2 := frozen_of_heap HX2.out 2
    simp only [List.getElem?_toArray, List.getElem?_cons_zero, List.getElem?_cons_succ] at z0 z1 z2
    clear hs6 hm6 hx2 hx9 hb6 cr crf hbr hgr hler hltr
    go_region
    go_wp2_with fail
    have hs3 : Svg g2 W6 (((W6.setCell ⟨g2, 0, none⟩ (.slice uwp uwn uwc)).setCell ⟨g2, 1, none⟩ (.slice upp upn upc)).setCell ⟨g2, 2, none⟩ (.slice (some ⟨br, 0, none⟩) urn urc)).drew := (set3_svg _ _ _ _ _).trans ((Bel.refl _).drew.svg g2)
    have hh : (((W6.setCell ⟨g2, 0, none⟩ (.slice uwp uwn uwc)).setCell ⟨g2, 1, none⟩ (.slice upp upn upc)).setCell ⟨g2, 2, none⟩ (.slice (some ⟨br, 0, none⟩) urn urc)).drew.heap[g2]? = some (.cells #[.slice uwp uwn uwc, .slice upp upn upc, .slice (some ⟨br, 0, none⟩) urn urc] 27 (0, 0)) := set3_heap HX2.out _ _ _
    exact bodyPost_ret (results_slot_cell_slot Try.results21 _ _ g2 _ _ _ _ _ _ rfl rfl rfl hh Try.underlying27 rfl (by kernel_rfl)) rfl ⟨⟨⟨uwp, uwn, uwc⟩, ⟨upp, upn, upc⟩, ⟨some ⟨br, 0, none⟩, urn, urc⟩, urows⟩, rfl, hs3.bel HB.out (by have := HG.out; have := HG2.out; omega), ((show MemAt _ _ _ m' from by rw [← HME.out]; exact HM6.out)).keep hs3 HX2.out (by decide) (by decide) (by decide)⟩
end Go.Proofs.Ytobpoghophhphaa
