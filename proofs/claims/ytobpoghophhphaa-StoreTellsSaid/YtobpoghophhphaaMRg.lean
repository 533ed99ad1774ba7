/- The document's own goes: a number goes to memory. -/
import Derived.Test.YtobpoghophhphaaMArr
import Derived.Test.YtobpoghophhphaaMRo
namespace Go.Proofs.Ytobpoghophhphaa
open Go.RowKit Mm
set_option linter.unusedVariables false
set_option linter.unusedSimpArgs false
set_option maxRecDepth 100000 in
set_option maxHeartbeats 4000000 in
theorem goes_any {w : World} {base : Nat} {v : Mv} {m : Mem} (hm : MemAt base w v m) (ho : Ok m) {a hN : Nat} (hw : isW m a = true) (hh : isH m hN = true) (n : Int) :
    Calls Try.prog 41 #[.agg #[.slice v.w.p v.w.n v.w.c, .slice v.p.p v.p.n v.p.c, .slice v.r.p v.r.n v.r.c], .int .i64 (hN : Int), .int .i64 (a : Int), .int .i64 n] w fun e w' => ∃ u : Mv, e = .returned (.agg #[.slice u.w.p u.w.n u.w.c, .slice u.p.p u.p.n u.p.c, .slice u.r.p u.r.n u.r.c]) ∧ Bel w w' ∧ MemAt w.heap.size w' u (arr m hN a n) := by
  obtain ⟨hb1, hx1, hx2⟩ := box2 w #[.slice v.w.p v.w.n v.w.c, .slice v.p.p v.p.n v.p.c, .slice v.r.p v.r.n v.r.c] 27 #[.slice none 0 0, .slice none 0 0, .slice none 0 0] 27
  have HM0 := Lib.hid hm
  have HO := Lib.hid ho
  have HW := Lib.hid hw
  have HH := Lib.hid hh
  have HAL : Hid (a < m.words.length) := Lib.hid (by have := isW_iff.1 hw; omega)
  clear hm ho hw hh
  go_enter Try.func41, Try.ntmps41
  go_upto_region 1 with (fail)
  generalize hW1 : ((w.alloc (.cells #[.slice v.w.p v.w.n v.w.c, .slice v.p.p v.p.n v.p.c, .slice v.r.p v.r.n v.r.c] 27)).alloc (.cells #[.slice none 0 0, .slice none 0 0, .slice none 0 0] 27)) = W1 at hb1 hx1 hx2 ⊢
  clear hW1
  have HG2 : Hid (w.heap.size ≤ w.heap.size + 1) := Lib.hid (by omega)
  generalize w.heap.size + 1 = g2 at hx2 HG2 ⊢
  obtain ⟨B, hG⟩ : ∃ G, w.heap.size = G := ⟨_, rfl⟩
  rw [hG] at hx1 HG2 ⊢
  have HG := Lib.hid hG
  have HB := Lib.hid hb1
  have HX2 := Lib.hid hx2
  have k10 := cell_of_heap hx1 0
  have k11 := cell_of_heap hx1 1
  have k12 := cell_of_heap hx1 2
  simp only [List.getElem?_toArray, List.getElem?_cons_zero, List.getElem?_cons_succ] at k10 k11 k12
  clear hb1 hx1 hx2 hG
  go_wp2_with fail
  refine (own_any (HM0.out.bel HB.out) HO.out).mono ?_
  rintro e w2 ⟨⟨⟨wp, wn, wc⟩, ⟨pp, pn, pc⟩, ⟨rp, rn, rc⟩, rows⟩, rfl, hbu, hmu⟩
  replace hmu := MemAt.mono hmu (show B ≤ W1.heap.size by have := HB.out.size; have := HG.out; omega)
  have hrn : rn = m.res.length := hmu.rs.n
  simp only
  obtain ⟨bw, csw, e1, _, _, hle1, hlt1, _, _⟩ := hmu.word HW.out
  obtain ⟨br, csr, e2, _, _, hle2, hlt2, _, _⟩ := hmu.resv HO.out HH.out
  simp only at e1 e2 hle1 hle2 hlt1 hlt2
  subst e1 e2
  clear k10 k11 k12
  obtain ⟨hb9, hx9⟩ := box1 w2 #[.slice (some ⟨bw, 0, none⟩) wn wc, .slice pp pn pc, .slice (some ⟨br, 0, none⟩) rn rc] 27
  have HM9 := Lib.hid (hmu.bel hb9)
  have HB9 := Lib.hid (HB.out.trans (hbu.trans hb9))
  have HX9 := Lib.hid hx9
  have HX29 := Lib.hid ((hbu.trans hb9).stays HX2.out)
  have HRN := Lib.hid hrn
  clear hmu hbu hb9 hx9 hrn HM0 HB HX2
  go_upto_region 2 with (fail)
  generalize hW1 : w2.alloc (.cells #[.slice (some ⟨bw, 0, none⟩) wn wc, .slice pp pn pc, .slice (some ⟨br, 0, none⟩) rn rc] 27) = W3 at HM9 HB9 HX9 HX29 ⊢
  clear hW1
  generalize w2.heap.size = g at HX9 ⊢
  obtain ⟨bw', csw, ew, hbw, hgw, _, _, hcw, hfw⟩ := HM9.out.word HW.out
  injection ew with ew
  injection ew with ew
  subst ew
  have HGW := Lib.hid hgw
  have HBW := Lib.hid hbw
  clear hgw hbw
  have k0 := cell_of_heap HX9.out 0
  simp only [List.getElem?_toArray, List.getElem?_cons_zero, List.getElem?_cons_succ] at k0
  have hlw : (a : Int) < wn := by omega
  go_upto_region 3 with (fail)
  have hs3 : Ivg B W3 (W3.setCell ⟨bw, a, none⟩ (.int .i64 n)) := setInt_ivg HBW.out HGW.out _ _
  have hm3 : MemAt B (W3.setCell ⟨bw, a, none⟩ (.int .i64 n)) ⟨⟨some ⟨bw, 0, none⟩, wn, wc⟩, ⟨pp, pn, pc⟩, ⟨some ⟨br, 0, none⟩, rn, rc⟩, rows⟩ (arrK m hN a n 0) := by
    rw [arrK_zero]
    exact HM9.out.setW rfl HAL.out n
  have hx3 := hs3.stays HX9.out (by decide)
  have hx23 := hs3.stays HX29.out (by decide)
  generalize W3.setCell ⟨bw, a, none⟩ (.int .i64 n) = W4 at hs3 hm3 hx3 hx23 ⊢
  clear k0 hcw hfw
  have HM3 := Lib.hid hm3
  have HX3 := Lib.hid hx3
  have HX23 := Lib.hid hx23
  have HI3 := Lib.hid hs3
  clear HM9 HX9 HX29 HGW HBW hs3 hm3 hx3 hx23
  have h4 : rn ≤ 4 := by have := HRN.out; have := HO.out.p4; have := HO.out.pr; omega
  go_wp2
  go_loopw [10] (fun i wr => ∃ (k : Nat), k ≤ rn ∧ i = .int .i64 k ∧ Hid (wr.heap[g]? = some (.cells #[.slice (some ⟨bw, 0, none⟩) wn wc, .slice pp pn pc, .slice (some ⟨br, 0, none⟩) rn rc] 27 (0, 0))) ∧ Hid (wr.heap[g2]? = some (.cells #[.slice none 0 0, .slice none 0 0, .slice none 0 0] 27 (0, 0))) ∧ Hid (MemAt B wr ⟨⟨some ⟨bw, 0, none⟩, wn, wc⟩, ⟨pp, pn, pc⟩, ⟨some ⟨br, 0, none⟩, rn, rc⟩, rows⟩ (arrK m hN a n k)) ∧ Hid (Ivg B W3 wr)) (fun i _ => rn - (intOf i).toNat)
  case atStart => exact ⟨0, Nat.zero_le _, rfl, HX3, HX23, HM3, HI3⟩
  case round =>
    clear HX3 HX23 HM3 HI3
    obtain ⟨k, hk, rfl, HX3, HX23, HM3, HI3⟩ := hrel
    by_cases hlt : k < rn
    · obtain ⟨r, hr⟩ : ∃ r, m.res[k]? = some r := ⟨_, List.getElem?_eq_getElem (by have := HRN.out; omega)⟩
      have hr2 : (arrK m hN a n k).res[k]? = some r := by rw [arrK_get]; exact hr
      obtain ⟨br', csr, er, hbr, hgr, _, _, hcr, hfr⟩ := ERow.at1 (enc := encI) (fun _ => rfl) HM3.out.rs hr2 rfl
      simp only at er
      injection er with er
      injection er with er
      subst er
      have hlt3 : (k : Int) < rn := by omega
      have HGR := Lib.hid hgr
      have HBR := Lib.hid hbr
      have HR := Lib.hid hr
      have k2 := cell_of_heap HX3.out 2
      simp only [List.getElem?_toArray, List.getElem?_cons_zero, List.getElem?_cons_succ] at k2
      clear hr hr2 hgr hbr
      by_cases h1 : k = hN
      · have HS := Lib.hid (arrK_no m hN a n HR.out (fun c => c.1 (by rw [h1])))
        have e1 : ((k : Int) != (hN : Int)) = false := by simp [h1]
        clear h1
        go_wp2
        exact ⟨⟨k + 1, by omega, by go_num, HX3, HX23, by rw [HS.out]; exact HM3, HI3⟩, by simp [intOf]; omega⟩
      · by_cases h2 : r = (a : Int)
        · have HS := Lib.hid (arrK_yes m hN a n HR.out ⟨by omega, h2⟩)
          have e1 : ((k : Int) != (hN : Int)) = true := by simp; omega
          subst h2
          clear h1
          go_wp2
          have hs4 : Ivg B wr (wr.setCell ⟨br, k, none⟩ (.int .i64 (-1))) := setInt_ivg HBR.out HGR.out _ _
          exact ⟨⟨k + 1, by omega, by go_num, Lib.hid (hs4.stays HX3.out (by decide)), Lib.hid (hs4.stays HX23.out (by decide)), by rw [HS.out]; exact Lib.hid (HM3.out.setRs rfl (by rw [arrK_len]; have := HRN.out; omega) (-1)), Lib.hid (HI3.out.trans hs4)⟩, by simp [intOf]; omega⟩
        · have HS := Lib.hid (arrK_no m hN a n HR.out (fun c => h2 c.2))
          have e1 : ((k : Int) != (hN : Int)) = true := by simp; omega
          have e2 : (r == (a : Int)) = false := beq_eq_false_iff_ne.2 h2
          clear h1 h2
          go_wp2
          exact ⟨⟨k + 1, by omega, by go_num, HX3, HX23, by rw [HS.out]; exact HM3, HI3⟩, by simp [intOf]; omega⟩
    · have k0 := cell_of_heap HX3.out 0
      have k1 := cell_of_heap HX3.out 1
      have k2 := cell_of_heap HX3.out 2
      have y20 := frozen_of_heap HX23.out 0
      have y21 := frozen_of_heap HX23.out 1
      have y22 := frozen_of_heap HX23.out 2
      have c20 := cell_of_heap HX23.out 0
      have c21 := cell_of_heap HX23.out 1
      have c22 := cell_of_heap HX23.out 2
      simp only [List.getElem?_toArray, List.getElem?_cons_zero, List.getElem?_cons_succ] at k0 k1 k2 c20 c21 c22
      go_wp2
      have hs3 : Svg g2 wr (((wr.setCell ⟨g2, 0, none⟩ (.slice (some ⟨bw, 0, none⟩) wn wc)).setCell ⟨g2, 1, none⟩ (.slice pp pn pc)).setCell ⟨g2, 2, none⟩ (.slice (some ⟨br, 0, none⟩) rn rc)) := ((Svg.set _ _ _ _).trans (Svg.set _ _ _ _)).trans (Svg.set _ _ _ _)
      have hh : (((wr.setCell ⟨g2, 0, none⟩ (.slice (some ⟨bw, 0, none⟩) wn wc)).setCell ⟨g2, 1, none⟩ (.slice pp pn pc)).setCell ⟨g2, 2, none⟩ (.slice (some ⟨br, 0, none⟩) rn rc)).heap[g2]? = some (.cells #[.slice (some ⟨bw, 0, none⟩) wn wc, .slice pp pn pc, .slice (some ⟨br, 0, none⟩) rn rc] 27 (0, 0)) := heap_set (heap_set (heap_set HX23.out 0 _) 1 _) 2 _
      have hm2 : MemAt B wr ⟨⟨some ⟨bw, 0, none⟩, wn, wc⟩, ⟨pp, pn, pc⟩, ⟨some ⟨br, 0, none⟩, rn, rc⟩, rows⟩ (arr m hN a n) := by
        rw [← arrK_all m hN a n (k := k) (by have := HRN.out; omega)]
        exact HM3.out
      have hfin := hm2.keep hs3 HX23.out (by decide) (by decide) (by decide)
      have hbw : Bel w wr := HI3.out.bel HB9.out (by have := HG.out; omega)
      exact bodyPost_ret (results_cell1 Try.results41 _ _ g2 _ _ _ _ rfl hh Try.underlying27 rfl (by kernel_rfl)) rfl ⟨⟨⟨some ⟨bw, 0, none⟩, wn, wc⟩, ⟨pp, pn, pc⟩, ⟨some ⟨br, 0, none⟩, rn, rc⟩, rows⟩, rfl, hs3.bel hbw (by have := HG2.out; have := HG.out; omega), by rw [HG.out]; exact hfin⟩
end Go.Proofs.Ytobpoghophhphaa
