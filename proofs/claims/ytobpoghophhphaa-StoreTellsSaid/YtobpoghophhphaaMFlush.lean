/- store.Drain by its answer; store.Flush. -/
import Derived.Test.YtobpoghophhphaaMDrain
namespace Go.Proofs.Ytobpoghophhphaa
open Go.RowKit Mm
set_option linter.unusedVariables false
set_option linter.unusedSimpArgs false
theorem drain_lit {w : World} {base : Nat} {v : Mv} {m : Mem} (hm : MemAt base w v m) (ho : Ok m) {h k : Int} {m' : Mem} {r : Int} (hr : drainV m h k = (m', r)) :
    Calls Try.prog 14 #[.agg #[.slice v.w.p v.w.n v.w.c, .slice v.p.p v.p.n v.p.c, .slice v.r.p v.r.n v.r.c], .int .i64 h, .int .i64 k] w (Told m' r w) := by
  unfold drainV at hr
  cases hh : isH m h with
  | false => rw [hh] at hr; injection hr with h1 h2; rw [← h1, ← h2]; exact drain_1 hm ho hh
  | true =>
    rw [hh] at hr
    obtain ⟨hN, rfl⟩ : ∃ hN : Nat, h = hN := ⟨h.toNat, by have := isH_iff.1 hh; omega⟩
    by_cases h0 : 0 ≤ k
    · obtain ⟨kN, rfl⟩ : ∃ kN : Nat, k = kN := ⟨k.toNat, by omega⟩
      by_cases h1 : (kN : Int) < ((row m hN).length : Int)
      · have hkl : kN < (row m hN).length := by omega
        rw [decide_eq_true h0, decide_eq_true h1, if_pos (by rfl), Int.toNat_natCast] at hr
        obtain ⟨⟨x1, x2⟩, hx⟩ : ∃ x, (row m hN)[kN]? = some x := ⟨_, List.getElem?_eq_getElem hkl⟩
        have hg : (row m hN).getD kN (0, 0) = (x1, x2) := by rw [List.getD_eq_getElem?_getD, hx]; rfl
        rw [hg] at hr
        cases ha : ((row m hN).take kN).any (fun x => decide (x.1 = x1)) with
        | true => rw [ha, if_pos rfl] at hr; injection hr with h1 h2; rw [← h1, ← h2]; exact drain_4 hm ho hh hx ha
        | false =>
          rw [ha, if_neg (by decide)] at hr
          injection hr with h1 h2; rw [← h1, ← h2]
          exact drain_5 hm ho hh hx ha
      · rw [decide_eq_true h0, decide_eq_false h1, if_neg (by decide)] at hr
        injection hr with h1 h2; rw [← h1, ← h2]
        exact drain_3 hm ho hh (by omega)
    · rw [decide_eq_false h0, if_neg (by simp)] at hr
      injection hr with h1 h2; rw [← h1, ← h2]
      exact drain_2 hm ho hh (by omega)
theorem arrs_pend (m : Mem) (h : Int) (l : List (Int × Int)) : (arrs m h l).pend = m.pend := by
  induction l generalizing m with
  | nil => rfl
  | cons e l ih => exact ih (arr m h e.1 e.2)
theorem arrs_words (m : Mem) (h : Int) (l : List (Int × Int)) : (arrs m h l).words.length = m.words.length := by
  induction l generalizing m with
  | nil => rfl
  | cons e l ih => exact (ih (arr m h e.1 e.2)).trans (by show (m.words.set _ _).length = _; rw [List.length_set])
theorem arrs_snoc (m : Mem) (h : Int) (l : List (Int × Int)) (e : Int × Int) : arrs m h (l ++ [e]) = arr (arrs m h l) h e.1 e.2 := by
  unfold arrs
  rw [List.foldl_append]
  rfl
set_option maxRecDepth 100000 in
set_option maxHeartbeats 4000000 in
theorem flush_1 {w : World} {base : Nat} {v : Mv} {m : Mem} (hm : MemAt base w v m) (ho : Ok m) {h : Int} (hh : isH m h = false) :
    Calls Try.prog 16 #[.agg #[.slice v.w.p v.w.n v.w.c, .slice v.p.p v.p.n v.p.c, .slice v.r.p v.r.n v.r.c], .int .i64 h] w (Told zero 1 w) := by
  obtain ⟨hb1, hx1, hx2⟩ := box2 w #[.slice v.w.p v.w.n v.w.c, .slice v.p.p v.p.n v.p.c, .slice v.r.p v.r.n v.r.c] 27 #[.slice none 0 0, .slice none 0 0, .slice none 0 0] 27
  have HM := Lib.hid hm
  have HO := Lib.hid ho
  have HH := Lib.hid hh
  clear hm ho hh
  go_enter Try.func16, Try.ntmps16
  go_upto_region 1 with (fail)
  generalize hW1 : ((w.alloc (.cells #[.slice v.w.p v.w.n v.w.c, .slice v.p.p v.p.n v.p.c, .slice v.r.p v.r.n v.r.c] 27)).alloc (.cells #[.slice none 0 0, .slice none 0 0, .slice none 0 0] 27)) = W1 at hb1 hx1 hx2 ⊢
  clear hW1
  have HN12 : Hid (w.heap.size ≠ w.heap.size + 1) := Lib.hid (by omega)
  have HG2 : Hid (w.heap.size ≤ w.heap.size + 1) := Lib.hid (by omega)
  generalize w.heap.size + 1 = g2 at hx2 HN12 HG2 ⊢
  obtain ⟨g1, hG⟩ : ∃ G, w.heap.size = G := ⟨_, rfl⟩
  rw [hG] at hx1 HN12 HG2 ⊢
  have HG := Lib.hid hG
  have HB := Lib.hid hb1
  have HX1 := Lib.hid hx1
  have HX2 := Lib.hid hx2
  clear hb1 hx1 hx2 hG
  have k0 := cell_of_heap HX1.out 0
  have kf0 := frozen_of_heap HX1.out 0
  have k1 := cell_of_heap HX1.out 1
  have kf1 := frozen_of_heap HX1.out 1
  have k2 := cell_of_heap HX1.out 2
  have kf2 := frozen_of_heap HX1.out 2
  simp only [List.getElem?_toArray, List.getElem?_cons_zero, List.getElem?_cons_succ] at k0 k1 k2
  have z0 := cell_of_heap HX2.out 0
  have zf0 := frozen_of_heap HX2.out 0
  have z1 := cell_of_heap HX2.out 1
  have zf1 := frozen_of_heap HX2.out 1
  have z2 := cell_of_heap HX2.out 2
  have zf2 := frozen_of_heap HX2.out 2
  simp only [List.getElem?_toArray, List.getElem?_cons_zero, List.getElem?_cons_succ] at z0 z1 z2
  go_wp2_with (first | (go_at_call 28; ((with_reducible refine (isHart_lit HM.out HO.out HH.out _).mono ?_); rintro e wa ⟨rfl, hbz⟩; have HB := Lib.hid (HB.out.trans hbz); have HX1 := Lib.hid (hbz.stays HX1.out); have HX2 := Lib.hid (hbz.stays HX2.out); have k0 := cell_of_heap HX1.out 0; have kf0 := frozen_of_heap HX1.out 0; have k1 := cell_of_heap HX1.out 1; have kf1 := frozen_of_heap HX1.out 1; have k2 := cell_of_heap HX1.out 2; have kf2 := frozen_of_heap HX1.out 2; simp only [List.getElem?_toArray, List.getElem?_cons_zero, List.getElem?_cons_succ] at k0 k1 k2; have z0 := cell_of_heap HX2.out 0; have zf0 := frozen_of_heap HX2.out 0; have z1 := cell_of_heap HX2.out 1; have zf1 := frozen_of_heap HX2.out 1; have z2 := cell_of_heap HX2.out 2; have zf2 := frozen_of_heap HX2.out 2; simp only [List.getElem?_toArray, List.getElem?_cons_zero, List.getElem?_cons_succ] at z0 z1 z2; clear hbz)))
  have hs3 : Svg g2 wa (((wa.setCell ⟨g2, 0, none⟩ (.slice none 0 0)).setCell ⟨g2, 1, none⟩ (.slice none 0 0)).setCell ⟨g2, 2, none⟩ (.slice none 0 0)) := set3_svg _ _ _ _ _
  have hh := set3_heap HX2.out (.slice none 0 0) (.slice none 0 0) (.slice none 0 0)
  exact bodyPost_ret (results_cell_slot Try.results16 _ _ g2 _ _ _ _ _ rfl rfl hh Try.underlying27 rfl (by kernel_rfl)) rfl ⟨nilM, rfl, hs3.bel HB.out (by have := HG.out; have := HG2.out; omega), MemAt.zero _ _⟩
set_option maxRecDepth 100000 in
set_option maxHeartbeats 4000000 in
theorem flush_2 {w : World} {base : Nat} {v : Mv} {m : Mem} (hm : MemAt base w v m) (ho : Ok m) {h : Nat} (hh : isH m h = true) :
    Calls Try.prog 16 #[.agg #[.slice v.w.p v.w.n v.w.c, .slice v.p.p v.p.n v.p.c, .slice v.r.p v.r.n v.r.c], .int .i64 (h : Int)] w (Told (flushN m h) 0 w) := by
  obtain ⟨hb1, hx1, hx2⟩ := box2 w #[.slice v.w.p v.w.n v.w.c, .slice v.p.p v.p.n v.p.c, .slice v.r.p v.r.n v.r.c] 27 #[.slice none 0 0, .slice none 0 0, .slice none 0 0] 27
  have HM := Lib.hid hm
  have HO := Lib.hid ho
  have HH := Lib.hid hh
  clear hm ho hh
  go_enter Try.func16, Try.ntmps16
  go_upto_region 1 with (fail)
  generalize hW1 : ((w.alloc (.cells #[.slice v.w.p v.w.n v.w.c, .slice v.p.p v.p.n v.p.c, .slice v.r.p v.r.n v.r.c] 27)).alloc (.cells #[.slice none 0 0, .slice none 0 0, .slice none 0 0] 27)) = W1 at hb1 hx1 hx2 ⊢
  clear hW1
  have HN12 : Hid (w.heap.size ≠ w.heap.size + 1) := Lib.hid (by omega)
  have HG2 : Hid (w.heap.size ≤ w.heap.size + 1) := Lib.hid (by omega)
  generalize w.heap.size + 1 = g2 at hx2 HN12 HG2 ⊢
  obtain ⟨g1, hG⟩ : ∃ G, w.heap.size = G := ⟨_, rfl⟩
  rw [hG] at hx1 HN12 HG2 ⊢
  have HG := Lib.hid hG
  have HB := Lib.hid hb1
  have HX1 := Lib.hid hx1
  have HX2 := Lib.hid hx2
  clear hb1 hx1 hx2 hG
  have k0 := cell_of_heap HX1.out 0
  have kf0 := frozen_of_heap HX1.out 0
  have k1 := cell_of_heap HX1.out 1
  have kf1 := frozen_of_heap HX1.out 1
  have k2 := cell_of_heap HX1.out 2
  have kf2 := frozen_of_heap HX1.out 2
  simp only [List.getElem?_toArray, List.getElem?_cons_zero, List.getElem?_cons_succ] at k0 k1 k2
  have z0 := cell_of_heap HX2.out 0
  have zf0 := frozen_of_heap HX2.out 0
  have z1 := cell_of_heap HX2.out 1
  have zf1 := frozen_of_heap HX2.out 1
  have z2 := cell_of_heap HX2.out 2
  have zf2 := frozen_of_heap HX2.out 2
  simp only [List.getElem?_toArray, List.getElem?_cons_zero, List.getElem?_cons_succ] at z0 z1 z2
  go_upto_region 3 with (first | (go_at_call 28; ((with_reducible refine (isHart_lit HM.out HO.out HH.out _).mono ?_); rintro e wa ⟨rfl, hbz⟩; have HB := Lib.hid (HB.out.trans hbz); have HX1 := Lib.hid (hbz.stays HX1.out); have HX2 := Lib.hid (hbz.stays HX2.out); have k0 := cell_of_heap HX1.out 0; have kf0 := frozen_of_heap HX1.out 0; have k1 := cell_of_heap HX1.out 1; have kf1 := frozen_of_heap HX1.out 1; have k2 := cell_of_heap HX1.out 2; have kf2 := frozen_of_heap HX1.out 2; simp only [List.getElem?_toArray, List.getElem?_cons_zero, List.getElem?_cons_succ] at k0 k1 k2; have z0 := cell_of_heap HX2.out 0; have zf0 := frozen_of_heap HX2.out 0; have z1 := cell_of_heap HX2.out 1; have zf1 := frozen_of_heap HX2.out 1; have z2 := cell_of_heap HX2.out 2; have zf2 := frozen_of_heap HX2.out 2; simp only [List.getElem?_toArray, List.getElem?_cons_zero, List.getElem?_cons_succ] at z0 z1 z2; clear hbz)))
  skip
  go_upto_region 4 with (first | (go_at_call 32; ((with_reducible refine (copied_any (HM.out.bel HB.out) HO.out).mono ?_); rintro e wc ⟨u, rfl, hbz, hmu⟩; have HBC := Lib.hid (HB.out.trans hbz); have HY1 := Lib.hid (hbz.stays HX1.out); have HY2 := Lib.hid (hbz.stays HX2.out); have HBM := Lib.hid hmu; have HLB := Lib.hid hbz.size; have HMU := Lib.hid (hmu.mono (show w.heap.size ≤ _ from HB.out.size)); have k0 := cell_of_heap HY1.out 0; have kf0 := frozen_of_heap HY1.out 0; have k1 := cell_of_heap HY1.out 1; have kf1 := frozen_of_heap HY1.out 1; have k2 := cell_of_heap HY1.out 2; have kf2 := frozen_of_heap HY1.out 2; simp only [List.getElem?_toArray, List.getElem?_cons_zero, List.getElem?_cons_succ] at k0 k1 k2; have z0 := cell_of_heap HY2.out 0; have zf0 := frozen_of_heap HY2.out 0; have z1 := cell_of_heap HY2.out 1; have zf1 := frozen_of_heap HY2.out 1; have z2 := cell_of_heap HY2.out 2; have zf2 := frozen_of_heap HY2.out 2; simp only [List.getElem?_toArray, List.getElem?_cons_zero, List.getElem?_cons_succ] at z0 z1 z2; clear hbz hmu)))
  try clear k0 k1 k2 kf0 kf1 kf2 z0 z1 z2 zf0 zf1 zf2
  have hs3 : Svg g1 wc (((wc.setCell ⟨g1, 0, none⟩ (.slice u.w.p u.w.n u.w.c)).setCell ⟨g1, 1, none⟩ (.slice u.p.p u.p.n u.p.c)).setCell ⟨g1, 2, none⟩ (.slice u.r.p u.r.n u.r.c)) := set3_svg _ _ _ _ _
  have hx1 := set3_heap HY1.out (.slice u.w.p u.w.n u.w.c) (.slice u.p.p u.p.n u.p.c) (.slice u.r.p u.r.n u.r.c)
  generalize hWW : (((wc.setCell ⟨g1, 0, none⟩ (.slice u.w.p u.w.n u.w.c)).setCell ⟨g1, 1, none⟩ (.slice u.p.p u.p.n u.p.c)).setCell ⟨g1, 2, none⟩ (.slice u.r.p u.r.n u.r.c)) = W5 at hs3 hx1 ⊢
  clear hWW
  have HB := Lib.hid (hs3.bel HBC.out (by rw [HG.out]; exact Nat.le_refl _))
  have HX1 := Lib.hid hx1
  have HX2 := Lib.hid ((hs3.block g2 (lt_of_heap HY2.out) HN12.out.symm).trans HY2.out)
  have HMU := Lib.hid (HMU.out.keep hs3 HY1.out (by decide) (by decide) (by decide))
  clear hs3 hx1 HY1 HY2 HBC
  have k0 := cell_of_heap HX1.out 0
  have kf0 := frozen_of_heap HX1.out 0
  have k1 := cell_of_heap HX1.out 1
  have kf1 := frozen_of_heap HX1.out 1
  have k2 := cell_of_heap HX1.out 2
  have kf2 := frozen_of_heap HX1.out 2
  simp only [List.getElem?_toArray, List.getElem?_cons_zero, List.getElem?_cons_succ] at k0 k1 k2
  have z0 := cell_of_heap HX2.out 0
  have zf0 := frozen_of_heap HX2.out 0
  have z1 := cell_of_heap HX2.out 1
  have zf1 := frozen_of_heap HX2.out 1
  have z2 := cell_of_heap HX2.out 2
  have zf2 := frozen_of_heap HX2.out 2
  simp only [List.getElem?_toArray, List.getElem?_cons_zero, List.getElem?_cons_succ] at z0 z1 z2
  obtain ⟨bq, csq, t, eq, _, hgq, hleq, hltq, cq, cqf, hrs, hrq⟩ := HMU.out.hart HH.out
  obtain ⟨⟨uwp, uwn, uwc⟩, ⟨upp, upn, upc⟩, ⟨urp, urn, urc⟩, urows⟩ := u
  simp only at eq hleq hltq hrs
  subst eq
  have HRS := Lib.hid hrs
  have hn := hrq.n (s := t)
  have HL8 : Hid ((row m h).length ≤ 8) := Lib.hid (HO.out.p8 _ (row_mem HH.out))
  obtain ⟨L, hL⟩ : ∃ L, (row m h).length = L := ⟨_, rfl⟩
  rw [hL] at hn HL8
  have HL := Lib.hid hL
  obtain ⟨tp, tn, tc⟩ := t
  simp only at hn cq
  subst hn
  have h8 := HL8.out
  clear hrs hrq hgq hL cqf csq
  go_upto_region 5 with (fail)
  clear k0 k1 k2 kf0 kf1 kf2 z0 z1 z2 zf0 zf1 zf2 cq
  have HM0 : Hid (MemAt w.heap.size W5 ⟨⟨uwp, uwn, uwc⟩, ⟨some ⟨bq, 0, none⟩, upn, upc⟩, ⟨urp, urn, urc⟩, urows⟩ (arrs m h ((row m h).take 0))) := HMU
  go_loopw [21] (fun i wr => ∃ j : Nat, j ≤ tn ∧ i = .int .i64 j ∧ Hid (Bel w wr) ∧ Hid (wr.heap[g1]? = some (.cells #[.slice uwp uwn uwc, .slice (some ⟨bq, 0, none⟩) upn upc, .slice urp urn urc] 27 (0, 0))) ∧ Hid (wr.heap[g2]? = some (.cells #[.slice none 0 0, .slice none 0 0, .slice none 0 0] 27 (0, 0))) ∧ Hid (MemAt w.heap.size wr ⟨⟨uwp, uwn, uwc⟩, ⟨some ⟨bq, 0, none⟩, upn, upc⟩, ⟨urp, urn, urc⟩, urows⟩ (arrs m h ((row m h).take j)))) (fun i _ => tn - (intOf i).toNat)
  case atStart => exact ⟨0, Nat.zero_le _, rfl, HB, HX1, HX2, HM0⟩
  case round =>
    clear HB HX1 HX2 HM0 HMU
    obtain ⟨j, hj, rfl, HB, HX1, HX2, HMU⟩ := hrel
    by_cases hlt : j < tn
    · obtain ⟨⟨x1, x2⟩, hx⟩ : ∃ x, (row m h)[j]? = some x := ⟨_, List.getElem?_eq_getElem (by have := HL.out; omega)⟩
      have hpr : (arrs m h ((row m h).take j)).pend[h]? = some (row m h) := by rw [arrs_pend]; have := row_get HH.out; rwa [Int.toNat_natCast] at this
      obtain ⟨be, cse, ee, _, hge, hnn, hnc, hjn, _, hce⟩ := ERow.at (enc := encE) (k := 2) encE_len (HMU.out.ro h _ _ HRS.out hpr) hx
      simp only at ee hnc
      subst ee
      have c0 := hce 0 _ rfl
      have c1 := hce 1 _ rfl
      rw [Nat.add_zero] at c0
      have HXJ := Lib.hid hx
      have hlt2 : (j : Int) < tn := by omega
      clear hpr hge hce hx hjn hnn
      go_upto_region 7 with (fail)
      have hxe := heap_alloc_new wr (.cells #[.int .i64 x1, .int .i64 x2] 48)
      have hbe : Bel wr (wr.alloc (.cells #[.int .i64 x1, .int .i64 x2] 48)) := (Bel.refl wr).alloc _ _
      generalize wr.alloc (.cells #[.int .i64 x1, .int .i64 x2] 48) = W6 at hxe hbe ⊢
      generalize wr.heap.size = g3 at hxe ⊢
      have HX1 := Lib.hid (hbe.stays HX1.out)
      have HX2 := Lib.hid (hbe.stays HX2.out)
      have HB := Lib.hid (HB.out.trans hbe)
      have HM6 := Lib.hid (HMU.out.bel hbe)
      have y0 := cell_of_heap hxe 0
      have y1 := cell_of_heap hxe 1
      simp only [List.getElem?_toArray, List.getElem?_cons_zero, List.getElem?_cons_succ] at y0 y1
      have k0 := cell_of_heap HX1.out 0
      have k1 := cell_of_heap HX1.out 1
      have k2 := cell_of_heap HX1.out 2
      simp only [List.getElem?_toArray, List.getElem?_cons_zero, List.getElem?_cons_succ] at k0 k1 k2
      obtain ⟨xa, hxa⟩ : ∃ xa : Nat, x1 = (xa : Int) := ⟨x1.toNat, by have := HO.out.at_ _ (row_mem HH.out) _ (List.mem_of_getElem? HXJ.out); simp only at this; omega⟩
      subst hxa
      have HWX : Hid (isW (arrs m h ((row m h).take j)) (xa : Int) = true) := Lib.hid (isW_iff.2 (by rw [arrs_words]; exact HO.out.at_ _ (row_mem HH.out) _ (List.mem_of_getElem? HXJ.out)))
      have HO6 : Hid (Ok (arrs m h ((row m h).take j))) := Lib.hid (ok_arrs HO.out _ _)
      have HH6 : Hid (isH (arrs m h ((row m h).take j)) h = true) := Lib.hid (by rw [← HH.out]; unfold isH; rw [arrs_pend])
      clear hxe hbe c0 c1
      go_wp2_with (go_at_call 39; ((with_reducible refine (arrive_any HM6.out HO6.out HWX.out HH6.out x2).mono ?_); rintro e w7 ⟨rfl, hm7, hiv⟩; have HM7 := Lib.hid hm7; have HI7 := Lib.hid hiv; clear hm7 hiv))
      exact ⟨⟨j + 1, by omega, by go_num, Lib.hid (HI7.out.bel HB.out (Nat.le_refl _)), Lib.hid (HI7.out.stays HX1.out (by decide)), Lib.hid (HI7.out.stays HX2.out (by decide)), Lib.hid (by
        have e : (row m h).take (j + 1) = (row m h).take j ++ [((xa : Int), x2)] := by rw [List.take_add_one, HXJ.out]; rfl
        rw [e, arrs_snoc]
        exact HM7.out)⟩, by simp [intOf]; omega⟩
    · obtain rfl : j = tn := by omega
      have HT : (row m h).take j = row m h := List.take_of_length_le (by have := HL.out; omega)
      rw [HT] at HMU
      obtain ⟨hgq, hcq, hfq⟩ : (∃ cs, wr.heap[bq]? = some (.cells cs 46 (0, 0))) ∧ wr.cell? ⟨bq, h, none⟩ = some (.slice tp j tc) ∧ wr.frozen? ⟨bq, h, none⟩ = false := by
        obtain ⟨g', cs, e1, _, hg, _, _, hc, hf⟩ := ERow.at1 (enc := encS) (fun _ => rfl) HMU.out.pd HRS.out rfl
        injection e1 with e1
        injection e1 with e1
        subst e1
        exact ⟨⟨cs, hg⟩, hc, hf⟩
      obtain ⟨cs, hgq⟩ := hgq
      have HGQ := Lib.hid hgq
      clear hgq
      have k0 := cell_of_heap HX1.out 0
      have kf0 := frozen_of_heap HX1.out 0
      have k1 := cell_of_heap HX1.out 1
      have kf1 := frozen_of_heap HX1.out 1
      have k2 := cell_of_heap HX1.out 2
      have kf2 := frozen_of_heap HX1.out 2
      simp only [List.getElem?_toArray, List.getElem?_cons_zero, List.getElem?_cons_succ] at k0 k1 k2
      have z0 := cell_of_heap HX2.out 0
      have zf0 := frozen_of_heap HX2.out 0
      have z1 := cell_of_heap HX2.out 1
      have zf1 := frozen_of_heap HX2.out 1
      have z2 := cell_of_heap HX2.out 2
      have zf2 := frozen_of_heap HX2.out 2
      simp only [List.getElem?_toArray, List.getElem?_cons_zero, List.getElem?_cons_succ] at z0 z1 z2
      go_upto_region 10 with (fail)
      have hput := HMU.out.put (s := ⟨tp, j, tc⟩) (t := nilS) (l' := []) rfl (by rw [← HH.out]; unfold isH; rw [arrs_pend]) HRS.out ((Bel.refl wr).sv _) (ERow.nil _ _ _ _ _) (fun k hk => by cases hk)
      have hset : Svg bq wr (wr.setCell ⟨bq, h, none⟩ (.slice none 0 0)) := Svg.set _ _ _ _
      have hx1 := (hset.block g1 (lt_of_heap HX1.out) (ne_of_heap HX1.out HGQ.out (by decide))).trans HX1.out
      have hx2 := (hset.block g2 (lt_of_heap HX2.out) (ne_of_heap HX2.out HGQ.out (by decide))).trans HX2.out
      have hb6 := hset.bel HB.out ((HMU.out.pd.blk rfl).1)
      have hput : MemAt w.heap.size (wr.setCell ⟨bq, h, none⟩ (.slice none 0 0)) ⟨⟨uwp, uwn, uwc⟩, ⟨some ⟨bq, 0, none⟩, upn, upc⟩, ⟨urp, urn, urc⟩, urows.set h nilS⟩ (flushN m h) := hput
      generalize wr.setCell ⟨bq, h, none⟩ (.slice none 0 0) = W6 at hput hset hx1 hx2 hb6 ⊢
      have HX1 := Lib.hid hx1
      have HX2 := Lib.hid hx2
      have HB := Lib.hid hb6
      have HM6 := Lib.hid hput
      clear hput hset hx1 hx2 hb6 hcq hfq k0 k1 k2 kf0 kf1 kf2 z0 z1 z2 zf0 zf1 zf2
      have k0 := cell_of_heap HX1.out 0
      have kf0 := frozen_of_heap HX1.out 0
      have k1 := cell_of_heap HX1.out 1
      have kf1 := frozen_of_heap HX1.out 1
      have k2 := cell_of_heap HX1.out 2
      have kf2 := frozen_of_heap HX1.out 2
      simp only [List.getElem?_toArray, List.getElem?_cons_zero, List.getElem?_cons_succ] at k0 k1 k2
      have z0 := cell_of_heap HX2.out 0
      have zf0 := frozen_of_heap HX2.out 0
      have z1 := cell_of_heap HX2.out 1
      have zf1 := frozen_of_heap HX2.out 1
      have z2 := cell_of_heap HX2.out 2
      have zf2 := frozen_of_heap HX2.out 2
      simp only [List.getElem?_toArray, List.getElem?_cons_zero, List.getElem?_cons_succ] at z0 z1 z2
      go_wp2_with (fail)
      have hs3 : Svg g2 W6 (((W6.setCell ⟨g2, 0, none⟩ (.slice uwp uwn uwc)).setCell ⟨g2, 1, none⟩ (.slice (some ⟨bq, 0, none⟩) upn upc)).setCell ⟨g2, 2, none⟩ (.slice urp urn urc)) := set3_svg _ _ _ _ _
      have hh := set3_heap HX2.out (.slice uwp uwn uwc) (.slice (some ⟨bq, 0, none⟩) upn upc) (.slice urp urn urc)
      exact bodyPost_ret (results_cell_slot Try.results16 _ _ g2 _ _ _ _ _ rfl rfl hh Try.underlying27 rfl (by kernel_rfl)) rfl ⟨⟨⟨uwp, uwn, uwc⟩, ⟨some ⟨bq, 0, none⟩, upn, upc⟩, ⟨urp, urn, urc⟩, urows.set h nilS⟩, rfl, hs3.bel HB.out (by have := HG.out; have := HG2.out; omega), (HM6.out).keep hs3 HX2.out (by decide) (by decide) (by decide)⟩
theorem flush_lit {w : World} {base : Nat} {v : Mv} {m : Mem} (hm : MemAt base w v m) (ho : Ok m) {h : Int} {m' : Mem} {r : Int} (hr : flushV m h = (m', r)) :
    Calls Try.prog 16 #[.agg #[.slice v.w.p v.w.n v.w.c, .slice v.p.p v.p.n v.p.c, .slice v.r.p v.r.n v.r.c], .int .i64 h] w (Told m' r w) := by
  unfold flushV at hr
  cases hh : isH m h with
  | false => rw [hh] at hr; injection hr with h1 h2; rw [← h1, ← h2]; exact flush_1 hm ho hh
  | true =>
    rw [hh] at hr
    obtain ⟨hN, rfl⟩ : ∃ hN : Nat, h = hN := ⟨h.toNat, by have := isH_iff.1 hh; omega⟩
    injection hr with h1 h2
    rw [← h1, ← h2]
    exact flush_2 hm ho hh
end Go.Proofs.Ytobpoghophhphaa
