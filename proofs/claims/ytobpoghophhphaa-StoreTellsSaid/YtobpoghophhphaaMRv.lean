/- The document's own Store. -/
import Derived.Test.YtobpoghophhphaaMRs
import Derived.Test.YtobpoghophhphaaMStore
namespace Go.Proofs.Ytobpoghophhphaa
open Go.RowKit Mm
set_option linter.unusedVariables false
set_option linter.unusedSimpArgs false
set_option maxRecDepth 100000 in
set_option maxHeartbeats 2000000 in
theorem rst_1 {w : World} {base : Nat} {v : Mv} {m : Mem} (hm : MemAt base w v m) (ho : Ok m) {h a n : Int} (ht : (isH m h && isW m a) = false) :
    Calls Try.prog 13 #[.agg #[.slice v.w.p v.w.n v.w.c, .slice v.p.p v.p.n v.p.c, .slice v.r.p v.r.n v.r.c], .int .i64 h, .int .i64 a, .int .i64 n] w (Told zero 1 w) := by
  obtain ⟨hb1, hx1, hx2⟩ := box2 w #[.slice v.w.p v.w.n v.w.c, .slice v.p.p v.p.n v.p.c, .slice v.r.p v.r.n v.r.c] 27 #[.slice none 0 0, .slice none 0 0, .slice none 0 0] 27
  have HM := Lib.hid hm
  have HO := Lib.hid ho
  have HT := Lib.hid ht
  clear hm ho ht
  go_enter Try.func13, Try.ntmps13
  go_upto_region 1 with (fail)
  generalize hW1 : ((w.alloc (.cells #[.slice v.w.p v.w.n v.w.c, .slice v.p.p v.p.n v.p.c, .slice v.r.p v.r.n v.r.c] 27)).alloc (.cells #[.slice none 0 0, .slice none 0 0, .slice none 0 0] 27)) = W1 at hb1 hx1 hx2 ⊢
  clear hW1
  have HN12 : Hid (w.heap.size ≠ w.heap.size + 1) := Lib.hid (by omega)
  have HG2 : Hid (w.heap.size ≤ w.heap.size + 1) := Lib.hid (by omega)
  generalize w.heap.size + 1 = g2 at hx2 HN12 HG2 ⊢
  obtain ⟨g1, hG⟩ : ∃ G, w.heap.size = G := ⟨_, rfl⟩
  rw [hG] at hx1 HN12 HG2 ⊢
  have HG := Lib.hid hG
  have HB := Lib.hid hb1
  have HX1 := Lib.hid hx1
  have HX2 := Lib.hid hx2
  clear hb1 hx1 hx2 hG
  have k0 := cell_of_heap HX1.out 0
  have kf0 := frozen_of_heap HX1.out 0
  have k1 := cell_of_heap HX1.out 1
  have kf1 := frozen_of_heap HX1.out 1
  have k2 := cell_of_heap HX1.out 2
  have kf2 := frozen_of_heap HX1.out 2
  simp only [List.getElem?_toArray, List.getElem?_cons_zero, List.getElem?_cons_succ] at k0 k1 k2
  have z0 := cell_of_heap HX2.out 0
  have zf0 := frozen_of_heap HX2.out 0
  have z1 := cell_of_heap HX2.out 1
  have zf1 := frozen_of_heap HX2.out 1
  have z2 := cell_of_heap HX2.out 2
  have zf2 := frozen_of_heap HX2.out 2
  simp only [List.getElem?_toArray, List.getElem?_cons_zero, List.getElem?_cons_succ] at z0 z1 z2
  go_wp2_with (first | (go_at_call 31; ((with_reducible refine (rthere_lit (HM.out.bel HB.out) HO.out HT.out _).mono ?_); rintro e wa ⟨rfl, hbz⟩; have HB := Lib.hid (HB.out.trans hbz); have HX1 := Lib.hid (hbz.stays HX1.out); have HX2 := Lib.hid (hbz.stays HX2.out); have k0 := cell_of_heap HX1.out 0; have kf0 := frozen_of_heap HX1.out 0; have k1 := cell_of_heap HX1.out 1; have kf1 := frozen_of_heap HX1.out 1; have k2 := cell_of_heap HX1.out 2; have kf2 := frozen_of_heap HX1.out 2; simp only [List.getElem?_toArray, List.getElem?_cons_zero, List.getElem?_cons_succ] at k0 k1 k2; have z0 := cell_of_heap HX2.out 0; have zf0 := frozen_of_heap HX2.out 0; have z1 := cell_of_heap HX2.out 1; have zf1 := frozen_of_heap HX2.out 1; have z2 := cell_of_heap HX2.out 2; have zf2 := frozen_of_heap HX2.out 2; simp only [List.getElem?_toArray, List.getElem?_cons_zero, List.getElem?_cons_succ] at z0 z1 z2; clear hbz)))
  have hs3 : Svg g2 wa (((wa.setCell ⟨g2, 0, none⟩ (.slice none 0 0)).setCell ⟨g2, 1, none⟩ (.slice none 0 0)).setCell ⟨g2, 2, none⟩ (.slice none 0 0)) := set3_svg _ _ _ _ _
  have hh := set3_heap HX2.out (.slice none 0 0) (.slice none 0 0) (.slice none 0 0)
  exact bodyPost_ret (results_cell_slot Try.results13 _ _ g2 _ _ _ _ _ rfl rfl hh Try.underlying27 rfl (by kernel_rfl)) rfl ⟨nilM, rfl, hs3.bel HB.out (by have := HG.out; have := HG2.out; omega), MemAt.zero _ _⟩
set_option maxRecDepth 100000 in
set_option maxHeartbeats 2000000 in
theorem rst_2 {w : World} {base : Nat} {v : Mv} {m : Mem} (hm : MemAt base w v m) (ho : Ok m) {h : Nat} {a n : Int} (hh : isH m (h : Int) = true) (hw : isW m a = true) (hl : 8 ≤ (row m (h : Int)).length) :
    Calls Try.prog 13 #[.agg #[.slice v.w.p v.w.n v.w.c, .slice v.p.p v.p.n v.p.c, .slice v.r.p v.r.n v.r.c], .int .i64 (h : Int), .int .i64 a, .int .i64 n] w (Told zero 90 w) := by
  obtain ⟨hb1, hx1, hx2⟩ := box2 w #[.slice v.w.p v.w.n v.w.c, .slice v.p.p v.p.n v.p.c, .slice v.r.p v.r.n v.r.c] 27 #[.slice none 0 0, .slice none 0 0, .slice none 0 0] 27
  have HM := Lib.hid hm
  have HO := Lib.hid ho
  have HH := Lib.hid hh
  have HW := Lib.hid hw
  have HLN := Lib.hid hl
  clear hm ho hh hw hl
  go_enter Try.func13, Try.ntmps13
  go_upto_region 1 with (fail)
  generalize hW1 : ((w.alloc (.cells #[.slice v.w.p v.w.n v.w.c, .slice v.p.p v.p.n v.p.c, .slice v.r.p v.r.n v.r.c] 27)).alloc (.cells #[.slice none 0 0, .slice none 0 0, .slice none 0 0] 27)) = W1 at hb1 hx1 hx2 ⊢
  clear hW1
  have HN12 : Hid (w.heap.size ≠ w.heap.size + 1) := Lib.hid (by omega)
  have HG2 : Hid (w.heap.size ≤ w.heap.size + 1) := Lib.hid (by omega)
  generalize w.heap.size + 1 = g2 at hx2 HN12 HG2 ⊢
  obtain ⟨g1, hG⟩ : ∃ G, w.heap.size = G := ⟨_, rfl⟩
  rw [hG] at hx1 HN12 HG2 ⊢
  have HG := Lib.hid hG
  have HB := Lib.hid hb1
  have HX1 := Lib.hid hx1
  have HX2 := Lib.hid hx2
  clear hb1 hx1 hx2 hG
  have k0 := cell_of_heap HX1.out 0
  have kf0 := frozen_of_heap HX1.out 0
  have k1 := cell_of_heap HX1.out 1
  have kf1 := frozen_of_heap HX1.out 1
  have k2 := cell_of_heap HX1.out 2
  have kf2 := frozen_of_heap HX1.out 2
  simp only [List.getElem?_toArray, List.getElem?_cons_zero, List.getElem?_cons_succ] at k0 k1 k2
  have z0 := cell_of_heap HX2.out 0
  have zf0 := frozen_of_heap HX2.out 0
  have z1 := cell_of_heap HX2.out 1
  have zf1 := frozen_of_heap HX2.out 1
  have z2 := cell_of_heap HX2.out 2
  have zf2 := frozen_of_heap HX2.out 2
  simp only [List.getElem?_toArray, List.getElem?_cons_zero, List.getElem?_cons_succ] at z0 z1 z2
  have HT : Hid ((isH m (h : Int) && isW m a) = true) := Lib.hid (by rw [HH.out, HW.out]; rfl)
  go_upto_region 4 with (first | (go_at_call 31; ((with_reducible refine (rthere_lit (HM.out.bel HB.out) HO.out HT.out _).mono ?_); rintro e wa ⟨rfl, hbz⟩; have HB := Lib.hid (HB.out.trans hbz); have HX1 := Lib.hid (hbz.stays HX1.out); have HX2 := Lib.hid (hbz.stays HX2.out); have k0 := cell_of_heap HX1.out 0; have kf0 := frozen_of_heap HX1.out 0; have k1 := cell_of_heap HX1.out 1; have kf1 := frozen_of_heap HX1.out 1; have k2 := cell_of_heap HX1.out 2; have kf2 := frozen_of_heap HX1.out 2; simp only [List.getElem?_toArray, List.getElem?_cons_zero, List.getElem?_cons_succ] at k0 k1 k2; have z0 := cell_of_heap HX2.out 0; have zf0 := frozen_of_heap HX2.out 0; have z1 := cell_of_heap HX2.out 1; have zf1 := frozen_of_heap HX2.out 1; have z2 := cell_of_heap HX2.out 2; have zf2 := frozen_of_heap HX2.out 2; simp only [List.getElem?_toArray, List.getElem?_cons_zero, List.getElem?_cons_succ] at z0 z1 z2; clear hbz)))
  obtain ⟨bp, csp, s0, ep, _, hhp, hlep, hltp, hcp, _, _, hrp⟩ := (HM.out.bel HB.out).hart HH.out
  have HEP := Lib.hid ep
  have hnp : s0.n = (row m (h : Int)).length := ERow.n hrp
  rw [ep] at k1
  have hlp : (h : Int) < v.p.n := by omega
  have hls : (8 : Int) ≤ (s0.n : Int) := by have := HLN.out; omega
  clear hhp hrp hnp
  go_wp2_with (fail)
  have hs3 : Svg g2 wa (((wa.setCell ⟨g2, 0, none⟩ (.slice none 0 0)).setCell ⟨g2, 1, none⟩ (.slice none 0 0)).setCell ⟨g2, 2, none⟩ (.slice none 0 0)) := set3_svg _ _ _ _ _
  have hh := set3_heap HX2.out (.slice none 0 0) (.slice none 0 0) (.slice none 0 0)
  exact bodyPost_ret (results_cell_slot Try.results13 _ _ g2 _ _ _ _ _ rfl rfl hh Try.underlying27 rfl (by kernel_rfl)) rfl ⟨nilM, rfl, hs3.bel HB.out (by have := HG.out; have := HG2.out; omega), MemAt.zero _ _⟩
set_option maxHeartbeats 2000000 in
set_option maxRecDepth 100000 in
set_option maxHeartbeats 2000000 in
theorem rst_3 {w : World} {base : Nat} {v : Mv} {m : Mem} (hm : MemAt base w v m) (ho : Ok m) {h : Nat} {a n : Int} (hh : isH m (h : Int) = true) (hw : isW m a = true) (hl : ¬ 8 ≤ (row m (h : Int)).length) :
    Calls Try.prog 13 #[.agg #[.slice v.w.p v.w.n v.w.c, .slice v.p.p v.p.n v.p.c, .slice v.r.p v.r.n v.r.c], .int .i64 (h : Int), .int .i64 a, .int .i64 n] w (Told (setP m h (row m h ++ [(a, wrap32 n)])) 0 w) := by
  obtain ⟨hb1, hx1, hx2⟩ := box2 w #[.slice v.w.p v.w.n v.w.c, .slice v.p.p v.p.n v.p.c, .slice v.r.p v.r.n v.r.c] 27 #[.slice none 0 0, .slice none 0 0, .slice none 0 0] 27
  have HM := Lib.hid hm
  have HO := Lib.hid ho
  have HH := Lib.hid hh
  have HW := Lib.hid hw
  have HLN := Lib.hid hl
  clear hm ho hh hw hl
  go_enter Try.func13, Try.ntmps13
  go_upto_region 1 with (fail)
  generalize hW1 : ((w.alloc (.cells #[.slice v.w.p v.w.n v.w.c, .slice v.p.p v.p.n v.p.c, .slice v.r.p v.r.n v.r.c] 27)).alloc (.cells #[.slice none 0 0, .slice none 0 0, .slice none 0 0] 27)) = W1 at hb1 hx1 hx2 ⊢
  clear hW1
  have HN12 : Hid (w.heap.size ≠ w.heap.size + 1) := Lib.hid (by omega)
  have HG2 : Hid (w.heap.size ≤ w.heap.size + 1) := Lib.hid (by omega)
  generalize w.heap.size + 1 = g2 at hx2 HN12 HG2 ⊢
  obtain ⟨g1, hG⟩ : ∃ G, w.heap.size = G := ⟨_, rfl⟩
  rw [hG] at hx1 HN12 HG2 ⊢
  have HG := Lib.hid hG
  have HB := Lib.hid hb1
  have HX1 := Lib.hid hx1
  have HX2 := Lib.hid hx2
  clear hb1 hx1 hx2 hG
  have k0 := cell_of_heap HX1.out 0
  have kf0 := frozen_of_heap HX1.out 0
  have k1 := cell_of_heap HX1.out 1
  have kf1 := frozen_of_heap HX1.out 1
  have k2 := cell_of_heap HX1.out 2
  have kf2 := frozen_of_heap HX1.out 2
  simp only [List.getElem?_toArray, List.getElem?_cons_zero, List.getElem?_cons_succ] at k0 k1 k2
  have z0 := cell_of_heap HX2.out 0
  have zf0 := frozen_of_heap HX2.out 0
  have z1 := cell_of_heap HX2.out 1
  have zf1 := frozen_of_heap HX2.out 1
  have z2 := cell_of_heap HX2.out 2
  have zf2 := frozen_of_heap HX2.out 2
  simp only [List.getElem?_toArray, List.getElem?_cons_zero, List.getElem?_cons_succ] at z0 z1 z2
  have HT : Hid ((isH m (h : Int) && isW m a) = true) := Lib.hid (by rw [HH.out, HW.out]; rfl)
  go_upto_region 4 with (first | (go_at_call 31; ((with_reducible refine (rthere_lit (HM.out.bel HB.out) HO.out HT.out _).mono ?_); rintro e wa ⟨rfl, hbz⟩; have HB := Lib.hid (HB.out.trans hbz); have HX1 := Lib.hid (hbz.stays HX1.out); have HX2 := Lib.hid (hbz.stays HX2.out); have k0 := cell_of_heap HX1.out 0; have kf0 := frozen_of_heap HX1.out 0; have k1 := cell_of_heap HX1.out 1; have kf1 := frozen_of_heap HX1.out 1; have k2 := cell_of_heap HX1.out 2; have kf2 := frozen_of_heap HX1.out 2; simp only [List.getElem?_toArray, List.getElem?_cons_zero, List.getElem?_cons_succ] at k0 k1 k2; have z0 := cell_of_heap HX2.out 0; have zf0 := frozen_of_heap HX2.out 0; have z1 := cell_of_heap HX2.out 1; have zf1 := frozen_of_heap HX2.out 1; have z2 := cell_of_heap HX2.out 2; have zf2 := frozen_of_heap HX2.out 2; simp only [List.getElem?_toArray, List.getElem?_cons_zero, List.getElem?_cons_succ] at z0 z1 z2; clear hbz)))
  obtain ⟨bp, csp, s0, ep, _, hhp, hlep, hltp, hcp, _, _, hrp⟩ := (HM.out.bel HB.out).hart HH.out
  have HEP := Lib.hid ep
  have hnp : s0.n = (row m (h : Int)).length := ERow.n hrp
  rw [ep] at k1
  have hlp : (h : Int) < v.p.n := by omega
  have hls : ¬ (8 : Int) ≤ (s0.n : Int) := by have := HLN.out; omega
  clear hhp hrp hnp
  go_upto_region 6 with (fail)
  rw [← ep] at k1
  clear ep hcp hlep hltp hlp hls
  have HY2 := HX2
  have HY1 := HX1
  go_wp2_with fail
  refine (own_any (HM.out.bel HB.out) HO.out).mono ?_
  rintro e w2 ⟨⟨⟨uwp, uwn, uwc⟩, ⟨upp, upn, upc⟩, ⟨urp, urn, urc⟩, urows⟩, rfl, hbu, hmu⟩
  replace hmu := MemAt.mono hmu (show w.heap.size ≤ wa.heap.size from HB.out.size)
  simp only
  clear k0 k1 k2 kf0 kf1 kf2 z0 z1 z2 zf0 zf1 zf2
  obtain ⟨hb9, hx9⟩ := box1 w2 #[.slice uwp uwn uwc, .slice upp upn upc, .slice urp urn urc] 27
  have HMU := Lib.hid (hmu.bel hb9)
  have HX1 := Lib.hid ((hbu.trans hb9).stays HX1.out)
  have HX2 := Lib.hid ((hbu.trans hb9).stays HX2.out)
  have HX9 := Lib.hid hx9
  have HN29 : Hid (g2 ≠ w2.heap.size) := Lib.hid (by have := lt_of_heap ((hbu).stays HY2.out); omega)
  have HN19 : Hid (g1 ≠ w2.heap.size) := Lib.hid (by have := lt_of_heap ((hbu).stays HY1.out); omega)
  have HG9 : Hid (w.heap.size ≤ w2.heap.size) := Lib.hid (Nat.le_trans HB.out.size hbu.size)
  have HB := Lib.hid (HB.out.trans (hbu.trans hb9))
  clear hmu hbu hb9 hx9
  go_upto_region 7 with (fail)
  generalize hWW : w2.alloc (.cells #[.slice uwp uwn uwc, .slice upp upn upc, .slice urp urn urc] 27) = W5 at HMU HB HX9 HX1 HX2 ⊢
  clear hWW
  generalize w2.heap.size = g9 at HX9 HN29 HN19 HG9 ⊢
  try generalize Value.bool (decide (8 ≤ s0.n)) = vdd
  obtain ⟨bq, csq, t, eq, _, hgq, hleq, hltq, cq, cqf, hrs, hrq⟩ := HMU.out.hart HH.out
  simp only at eq hleq hltq hrs
  subst eq
  have hltq2 : (h : Int) < upn := by omega
  have HRS := Lib.hid hrs
  have HRQ := Lib.hid hrq
  have HGQ := Lib.hid hgq
  have HCQ := Lib.hid cq
  clear hrs hrq hgq
  have k1 := cell_of_heap HX9.out 1
  simp only [List.getElem?_toArray, List.getElem?_cons_zero, List.getElem?_cons_succ] at k1
  have HEN : Hid (∀ (X : World), Bel W5 X → ∃ (t' : Sl) (X' : World), (Builtin.append_ #[46, 46] 46 #[.slice t.p t.n t.c, .slice (some ⟨X.heap.size, 0, none⟩) 1 1]).run Try.prog (X.alloc (.cells #[.int .i64 a, .int .i64 (wrap32 n)] 48)) = .ok (.slice t'.p t'.n t'.c) X' ∧ ERow encE 48 2 X' w.heap.size t'.val (row m h ++ [(a, wrap32 n)]) ∧ Sv (fun k => t.val.ownBlock = some k) W5 X' ∧ (∀ k, t'.val.ownBlock = some k → t.val.ownBlock = some k ∨ W5.heap.size ≤ k) ∧ X'.cell? ⟨bq, h, none⟩ = some (.slice t.p t.n t.c) ∧ X'.frozen? ⟨bq, h, none⟩ = false ∧ X'.cell? ⟨g9, 1, none⟩ = some (.slice (some ⟨bq, 0, none⟩) upn upc)) := Lib.hid (fun X hX => by
    have hXa : Bel W5 (X.alloc (.cells #[.int .i64 a, .int .i64 (wrap32 n)] 48)) := hX.alloc _ _
    have hnew := heap_alloc_new X (.cells #[.int .i64 a, .int .i64 (wrap32 n)] 48)
    obtain ⟨t', X', h1, h2, h3, h4⟩ := ent_one (s := t) (HRQ.out.bel hXa) (B := X.heap.size) (y := (a, wrap32 n)) (cell_of_heap hnew 0) (cell_of_heap hnew 1) (by have := HLN.out; omega) (by have := HB.out.size; have := hXa.size; omega)
    have hsx : Sv (fun k => t.val.ownBlock = some k) W5 X' := (hXa.sv _).trans h3
    have hgx := (hsx.block bq (lt_of_heap HGQ.out) (ERow.off (v := t.val) HRQ.out HGQ.out (by decide))).trans HGQ.out
    exact ⟨t', X', h1, h2, hsx, fun k hk => (h4 k hk).imp id (fun h => by have := hXa.size; omega), (Sv.cell hsx (p := ⟨bq, h, none⟩) (lt_of_heap HGQ.out) (ERow.off (v := t.val) HRQ.out HGQ.out (by decide))).trans HCQ.out, frozen_of_heap hgx h, cell_of_heap ((hsx.block g9 (lt_of_heap HX9.out) (ERow.off (v := t.val) HRQ.out HX9.out (by decide))).trans HX9.out) 1⟩)
  refine Upto.begin (T := fun w' => w'.cell? ⟨g9, 1, none⟩ = some (.slice (some ⟨bq, 0, none⟩) upn upc) ∧ w'.cell? ⟨bq, h, none⟩ = some (.slice t.p t.n t.c)) (z := 15) (by kernel_rfl) ?_
  have HT1 : W5.drew.cell? ⟨g9, 1, none⟩ = some (.slice (some ⟨bq, 0, none⟩) upn upc) ∧ W5.drew.cell? ⟨bq, h, none⟩ = some (.slice t.p t.n t.c) := ⟨k1, HCQ.out⟩
  refine takeU 29 (i := 0) (v := ?v1) rfl rfl rfl (by kernel_rfl) (by kernel_rfl) (by kernel_rfl) (by kernel_rfl) (fun _ _ _ h => h) (by kernel_rfl) ?hy1 HT1 ?rest1
  case hy1 => (intro w0 hSw; obtain ⟨e1, e2⟩ := hSw; first | (go_simp; done) | (go_simp; with_reducible rfl))
  simp only [List.setIfInBounds_toArray, List.set_cons_zero, List.set_cons_succ]
  refine takeU 30 (i := 1) (v := ?v2) rfl rfl rfl (by kernel_rfl) (by kernel_rfl) (by kernel_rfl) (by kernel_rfl) (fun _ _ _ h => h) (by kernel_rfl) ?hy2 HT1 ?rest2
  case hy2 => (intro w0 hSw; obtain ⟨e1, e2⟩ := hSw; first | (go_simp; done) | (go_simp; with_reducible rfl))
  simp only [List.setIfInBounds_toArray, List.set_cons_zero, List.set_cons_succ]
  refine takeU 31 (i := 2) (v := ?v3) rfl rfl rfl (by kernel_rfl) (by kernel_rfl) (by kernel_rfl) (by kernel_rfl) (fun _ _ _ h => h) (by kernel_rfl) ?hy3 HT1 ?rest3
  case hy3 => (intro w0 hSw; obtain ⟨e1, e2⟩ := hSw; first | (go_simp; done) | (go_simp; with_reducible rfl))
  simp only [List.setIfInBounds_toArray, List.set_cons_zero, List.set_cons_succ]
  refine takeU 32 (i := 3) (v := ?v4) rfl rfl rfl (by kernel_rfl) (by kernel_rfl) (by kernel_rfl) (by kernel_rfl) (fun _ _ _ h => h) (by kernel_rfl) ?hy4 HT1 ?rest4
  case hy4 => (intro w0 hSw; obtain ⟨e1, e2⟩ := hSw; first | (go_simp; done) | (go_simp; with_reducible rfl))
  simp only [List.setIfInBounds_toArray, List.set_cons_zero, List.set_cons_succ]
  refine takeU 33 (i := 4) (v := ?v5) rfl rfl rfl (by kernel_rfl) (by kernel_rfl) (by kernel_rfl) (by kernel_rfl) (fun _ _ _ h => h) (by kernel_rfl) ?hy5 HT1 ?rest5
  case hy5 => (intro w0 hSw; obtain ⟨e1, e2⟩ := hSw; first | (go_simp; done) | (go_simp; with_reducible rfl))
  simp only [List.setIfInBounds_toArray, List.set_cons_zero, List.set_cons_succ]
  refine takeU 34 (i := 5) (v := ?v6) rfl rfl rfl (by kernel_rfl) (by kernel_rfl) (by kernel_rfl) (by kernel_rfl) (fun _ _ _ h => h) (by kernel_rfl) ?hy6 HT1 ?rest6
  case hy6 => (intro w0 hSw; obtain ⟨e1, e2⟩ := hSw; first | (go_simp; done) | (go_simp; with_reducible rfl))
  simp only [List.setIfInBounds_toArray, List.set_cons_zero, List.set_cons_succ]
  refine takeU 35 (i := 6) (v := ?v7) rfl rfl rfl (by kernel_rfl) (by kernel_rfl) (by kernel_rfl) (by kernel_rfl) (fun _ _ _ h => h) (by kernel_rfl) ?hy7 HT1 ?rest7
  case hy7 => (intro w0 hSw; obtain ⟨e1, e2⟩ := hSw; first | (go_simp; done) | (go_simp; with_reducible rfl))
  simp only [List.setIfInBounds_toArray, List.set_cons_zero, List.set_cons_succ]
  refine takeU 36 (i := 7) (v := ?v8) rfl rfl rfl (by kernel_rfl) (by kernel_rfl) (by kernel_rfl) (by kernel_rfl) (fun _ _ _ h => h) (by kernel_rfl) ?hy8 HT1 ?rest8
  case hy8 => (intro w0 hSw; obtain ⟨e1, e2⟩ := hSw; first | (go_simp; done) | (go_simp; with_reducible rfl))
  simp only [List.setIfInBounds_toArray, List.set_cons_zero, List.set_cons_succ]
  refine takeU 37 (i := 8) (v := ?v9) rfl rfl rfl (by kernel_rfl) (by kernel_rfl) (by kernel_rfl) (by kernel_rfl) (fun _ _ _ h => h) (by kernel_rfl) ?hy9 HT1 ?rest9
  case hy9 => (intro w0 hSw; obtain ⟨e1, e2⟩ := hSw; first | (go_simp; done) | (go_simp; with_reducible rfl))
  simp only [List.setIfInBounds_toArray, List.set_cons_zero, List.set_cons_succ]
  refine takeU 38 (i := 9) (v := ?v10) rfl rfl rfl (by kernel_rfl) (by kernel_rfl) (by kernel_rfl) (by kernel_rfl) (fun _ _ _ h => h) (by kernel_rfl) ?hy10 HT1 ?rest10
  case hy10 => (intro w0 hSw; obtain ⟨e1, e2⟩ := hSw; first | (go_simp; done) | (go_simp; with_reducible rfl))
  simp only [List.setIfInBounds_toArray, List.set_cons_zero, List.set_cons_succ]
  refine oneU 39 (i := 10) rfl rfl (by kernel_rfl) (by kernel_rfl) (fun K hK => ?_)
  go_simp
  refine (rwrap_any _ _).mono ?_
  rintro e wq ⟨rfl, rfl⟩
  refine hK.out _ _ HT1 (fun _ => ?_)
  clear hK K
  simp only [List.setIfInBounds_toArray, List.set_cons_zero, List.set_cons_succ]
  refine takeU 40 (i := 11) (v := ?v11) rfl rfl rfl (by kernel_rfl) (by kernel_rfl) (by kernel_rfl) (by kernel_rfl) (fun _ _ _ h => h) (by kernel_rfl) ?hy11 HT1 ?rest11
  case hy11 => (intro w0 hSw; obtain ⟨e1, e2⟩ := hSw; first | (go_simp; done) | (go_simp; with_reducible rfl))
  simp only [List.setIfInBounds_toArray, List.set_cons_zero, List.set_cons_succ]
  have HT2 : (W5.drew.alloc (.cells #[.int .i64 a, .int .i64 (wrap32 n)] 48)).cell? ⟨g9, 1, none⟩ = some (.slice (some ⟨bq, 0, none⟩) upn upc) ∧ (W5.drew.alloc (.cells #[.int .i64 a, .int .i64 (wrap32 n)] 48)).cell? ⟨bq, h, none⟩ = some (.slice t.p t.n t.c) := ⟨cell_of_heap (((Bel.refl W5).drew.alloc _ _).stays HX9.out) 1, (((Bel.refl W5).drew.alloc _ _).cell (p := ⟨bq, h, none⟩) (lt_of_heap HGQ.out)).trans HCQ.out⟩
  refine oneU 41 (i := 12) rfl rfl (by kernel_rfl) (by kernel_rfl) (fun K hK => ?_)
  go_simp
  refine hK.out _ _ HT2 (fun _ => ?_)
  clear hK K
  simp only [List.setIfInBounds_toArray, List.set_cons_zero, List.set_cons_succ]
  obtain ⟨t', X', hrun, hr', hsv', hown', xc, xf, xg⟩ := HEN.out _ (Bel.refl W5).drew
  refine oneU 42 (i := 13) rfl rfl (by kernel_rfl) (by kernel_rfl) (fun K hK => ?_)
  refine appU (.tmp 36) (.tmp 41) 46 rfl _ _ _ (by kernel_rfl) (by kernel_rfl) hrun ?_
  refine hK.out _ _ ⟨xg, xc⟩ (fun _ => ?_)
  clear hK K
  simp only [List.setIfInBounds_toArray, List.set_cons_zero, List.set_cons_succ]
  refine takeU 43 (i := 14) (v := ?v12) rfl rfl rfl (by kernel_rfl) (by kernel_rfl) (by kernel_rfl) (by kernel_rfl) (fun _ _ _ h => h) (by kernel_rfl) ?hy12 ⟨xg, xc⟩ ?rest12
  case hy12 => (intro w0 hSw; obtain ⟨e1, e2⟩ := hSw; first | (go_simp; done) | (go_simp; with_reducible rfl))
  simp only [List.setIfInBounds_toArray, List.set_cons_zero, List.set_cons_succ]
  refine lastU rfl rfl (by kernel_rfl) (by kernel_rfl) (fun K hK => ?_)
  go_simp
  refine hK.out undef _ ?_
  clear hK K
  refine Upto.done (by kernel_rfl) ?_ _
  skip
  have hput := HMU.out.put rfl HH.out HRS.out hsv' hr' hown'
  have hset : Svg bq X' (X'.setCell ⟨bq, h, none⟩ (.slice t'.p t'.n t'.c)) := Svg.set _ _ _ _
  have hgx := (hsv'.block bq (lt_of_heap HGQ.out) (ERow.off (v := t.val) HRQ.out HGQ.out (by decide))).trans HGQ.out
  have hx9 := (hset.block g9 (lt_of_heap ((hsv'.block g9 (lt_of_heap HX9.out) (ERow.off (v := t.val) HRQ.out HX9.out (by decide))).trans HX9.out)) (ne_of_heap ((hsv'.block g9 (lt_of_heap HX9.out) (ERow.off (v := t.val) HRQ.out HX9.out (by decide))).trans HX9.out) hgx (by decide))).trans ((hsv'.block g9 (lt_of_heap HX9.out) (ERow.off (v := t.val) HRQ.out HX9.out (by decide))).trans HX9.out)
  have hx2 := (hset.block g2 (lt_of_heap ((hsv'.block g2 (lt_of_heap HX2.out) (ERow.off (v := t.val) HRQ.out HX2.out (by decide))).trans HX2.out)) (ne_of_heap ((hsv'.block g2 (lt_of_heap HX2.out) (ERow.off (v := t.val) HRQ.out HX2.out (by decide))).trans HX2.out) hgx (by decide))).trans ((hsv'.block g2 (lt_of_heap HX2.out) (ERow.off (v := t.val) HRQ.out HX2.out (by decide))).trans HX2.out)
  have hbx : Bel w X' := Sv.bel hsv' HB.out fun k hk => (HRQ.out.blk (v := t.val) hk).1
  have hb6 := hset.bel hbx ((HMU.out.pd.blk rfl).1)
  go_upto_region 8 with (fail)
  generalize X'.setCell ⟨bq, h, none⟩ (.slice t'.p t'.n t'.c) = W6 at hput hset hx9 hx2 hb6 ⊢
  have HX9 := Lib.hid hx9
  have HX2 := Lib.hid hx2
  have HB := Lib.hid hb6
  have HM6 := Lib.hid hput
  clear HT1 HT2 xg hput hset hx9 hx2 hbx hb6 hgx hr' hsv' hown' xc xf hrun k1
  have k0 := cell_of_heap HX9.out 0
  have kf0 := frozen_of_heap HX9.out 0
  have k1 := cell_of_heap HX9.out 1
  have kf1 := frozen_of_heap HX9.out 1
  have k2 := cell_of_heap HX9.out 2
  have kf2 := frozen_of_heap HX9.out 2
  simp only [List.getElem?_toArray, List.getElem?_cons_zero, List.getElem?_cons_succ] at k0 k1 k2
  have z0 := cell_of_heap HX2.out 0
  have zf0 := frozen_of_heap HX2.out 0
  have z1 := cell_of_heap HX2.out 1
  have zf1 := frozen_of_heap HX2.out 1
  have z2 := cell_of_heap HX2.out 2
  have zf2 := frozen_of_heap HX2.out 2
  simp only [List.getElem?_toArray, List.getElem?_cons_zero, List.getElem?_cons_succ] at z0 z1 z2
  go_wp2_with (fail)
  have hs3 : Svg g2 W6 (((W6.setCell ⟨g2, 0, none⟩ (.slice uwp uwn uwc)).setCell ⟨g2, 1, none⟩ (.slice (some ⟨bq, 0, none⟩) upn upc)).setCell ⟨g2, 2, none⟩ (.slice urp urn urc)) := set3_svg _ _ _ _ _
  have hh := set3_heap HX2.out (.slice uwp uwn uwc) (.slice (some ⟨bq, 0, none⟩) upn upc) (.slice urp urn urc)
  exact bodyPost_ret (results_cell_slot Try.results13 _ _ g2 _ _ _ _ _ rfl rfl hh Try.underlying27 rfl (by kernel_rfl)) rfl ⟨⟨⟨uwp, uwn, uwc⟩, ⟨some ⟨bq, 0, none⟩, upn, upc⟩, ⟨urp, urn, urc⟩, urows.set h t'⟩, rfl, hs3.bel HB.out (by have := HG.out; have := HG2.out; omega), (HM6.out).keep hs3 HX2.out (by decide) (by decide) (by decide)⟩
theorem rstore_lit {w : World} {base : Nat} {v : Mv} {m : Mem} (hm : MemAt base w v m) (ho : Ok m) {h a n : Int} {m' : Mem} {r : Int} (hr : storeV m h a n = (m', r)) :
    Calls Try.prog 13 #[.agg #[.slice v.w.p v.w.n v.w.c, .slice v.p.p v.p.n v.p.c, .slice v.r.p v.r.n v.r.c], .int .i64 h, .int .i64 a, .int .i64 n] w (Told m' r w) := by
  unfold storeV at hr
  by_cases ht : (isH m h && isW m a) = true
  · rw [if_pos ht] at hr
    rw [Bool.and_eq_true] at ht
    obtain ⟨hN, rfl⟩ : ∃ hN : Nat, h = hN := ⟨h.toNat, by have := isH_iff.1 ht.1; omega⟩
    by_cases hc : 8 ≤ (row m hN).length
    · rw [if_pos hc] at hr; injection hr with h1 h2; rw [← h1, ← h2]; exact rst_2 hm ho ht.1 ht.2 hc
    · rw [if_neg hc] at hr; injection hr with h1 h2; rw [← h1, ← h2]; exact rst_3 hm ho ht.1 ht.2 hc
  · rw [if_neg ht] at hr; injection hr with h1 h2; rw [← h1, ← h2]; exact rst_1 hm ho (Bool.eq_false_iff.2 ht)
end Go.Proofs.Ytobpoghophhphaa
