/- store.copied: the same in new memory. -/
import Derived.Test.YtobpoghophhphaaMCopy
namespace Go.Proofs.Ytobpoghophhphaa
open Go.RowKit Mm
set_option linter.unusedVariables false
set_option linter.unusedSimpArgs false
set_option maxRecDepth 100000 in
theorem copied_any {w : World} {base : Nat} {v : Mv} {m : Mem} (hm : MemAt base w v m) (ho : Ok m) :
    Calls Try.prog 32 #[.agg #[.slice v.w.p v.w.n v.w.c, .slice v.p.p v.p.n v.p.c, .slice v.r.p v.r.n v.r.c]] w fun e w' => ∃ u : Mv, e = .returned (.agg #[.slice u.w.p u.w.n u.w.c, .slice u.p.p u.p.n u.p.c, .slice u.r.p u.r.n u.r.c]) ∧ Bel w w' ∧ MemAt w.heap.size w' u m := by
  obtain ⟨⟨wp, wn, wc⟩, ⟨pp, pn, pc⟩, ⟨rp, rn, rc⟩, rows⟩ := v
  have hpn : pn = m.pend.length := hm.pn
  simp only
  have hp4 := ho.p4
  have hmk := fun w => make_rows pn (by omega) w
  obtain ⟨hb1, hx1, hx2, hx3⟩ := box3 w #[.slice wp wn wc, .slice pp pn pc, .slice rp rn rc] 27 #[.slice none 0 0, .slice none 0 0, .slice none 0 0] 27 (Array.replicate pn (.slice none 0 0)) 46
  have hrow := rep_row (enc := encS) (x := nilS) (u := .slice none 0 0) rfl (base := w.heap.size) (by omega) (by unfold maxLen; omega) hx3
  have HM := Lib.hid hm
  have HO := Lib.hid ho
  have HPN := Lib.hid hpn
  clear hx3 hpn hp4
  go_enter Try.func32, Try.ntmps32
  go_upto_region 2 with (fail)
  generalize hW1 : (((w.alloc (.cells #[.slice wp wn wc, .slice pp pn pc, .slice rp rn rc] 27)).alloc (.cells #[.slice none 0 0, .slice none 0 0, .slice none 0 0] 27)).alloc (.cells (Array.replicate pn (.slice none 0 0)) 46)) = W1 at hb1 hx1 hx2 hrow ⊢
  clear hW1
  have hge : w.heap.size ≤ w.heap.size + 1 + 1 := by omega
  have HGE := Lib.hid hge
  have hg2 : w.heap.size ≤ w.heap.size + 1 := by omega
  have HG2 := Lib.hid hg2
  have HN1 : Hid (w.heap.size ≠ w.heap.size + 1 + 1) := Lib.hid (by omega)
  have HN2 : Hid (w.heap.size + 1 ≠ w.heap.size + 1 + 1) := Lib.hid (by omega)
  have HN3 : Hid (w.heap.size ≠ w.heap.size + 1) := Lib.hid (by omega)
  generalize w.heap.size + 1 + 1 = gP at hrow HGE HN1 HN2 ⊢
  generalize w.heap.size + 1 = g2 at hx2 HG2 HN2 HN3 ⊢
  obtain ⟨G, hG⟩ : ∃ G, w.heap.size = G := ⟨_, rfl⟩
  rw [hG] at hx1 hrow HGE HG2 HN1 HN3 ⊢
  have HG := Lib.hid hG
  have HX1 := Lib.hid hx1
  have HX2 := Lib.hid hx2
  have HB := Lib.hid hb1
  have HC : Hid (Cl G W1 gP pn m.pend 0 []) := Lib.hid ⟨rfl, hrow, fun i s l h => (by simp at h), fun i j s t b h => (by simp at h)⟩
  have k0 := cell_of_heap hx1 0
  have k1 := cell_of_heap hx1 1
  have k2 := cell_of_heap hx1 2
  simp only [List.getElem?_toArray, List.getElem?_cons_zero, List.getElem?_cons_succ] at k0 k1 k2
  clear hge hg2 hx1 hx2 hb1 hrow hG hm ho hmk
  go_wp2
  clear k0 k1 k2
  go_loopw [13] (fun i wr => ∃ (k : Nat) (ts : List Sl), k ≤ pn ∧ i = .int .i64 k ∧ Hid (Bel w wr) ∧ Hid (wr.heap[G]? = some (.cells #[.slice wp wn wc, .slice pp pn pc, .slice rp rn rc] 27 (0, 0))) ∧ Hid (wr.heap[g2]? = some (.cells #[.slice none 0 0, .slice none 0 0, .slice none 0 0] 27 (0, 0))) ∧ Hid (Cl G wr gP pn m.pend k ts)) (fun i _ => pn - (intOf i).toNat)
  case atStart => exact ⟨0, [], Nat.zero_le _, rfl, HB, HX1, HX2, HC⟩
  case round =>
    clear HB HX1 HX2 HC
    obtain ⟨k, ts, hk, rfl, HB, HX1, HX2, HC⟩ := hrel
    have h4 : pn ≤ 4 := by have := HPN.out; have := HO.out.p4; omega
    by_cases hlt : k < pn
    · have hH : isH m (k : Int) = true := isH_iff.2 ⟨by omega, by have := HPN.out; omega⟩
      obtain ⟨bp, cs, s, e1, hb2, hh, hle, hl2, hc, hf, hrs, hr⟩ := (HM.out.bel HB.out).hart hH
      simp only at e1 hle hl2
      subst e1
      have hlt2 : (k : Int) < pn := by omega
      have H8 : Hid ((row m (k : Int)).length ≤ 8) := Lib.hid (HO.out.p8 _ (row_mem hH))
      have HR := Lib.hid hr
      have HPD : Hid (m.pend[k]? = some (row m (k : Int))) := Lib.hid (by have := row_get hH; rwa [Int.toNat_natCast] at this)
      obtain ⟨⟨_, csP, hgP⟩⟩ : Nonempty (_ ∧ ∃ cs, wr.heap[gP]? = some (.cells cs 46 (0, 0))) := ⟨HC.out.row.blk rfl⟩
      have HGP := Lib.hid hgP
      obtain ⟨_, _, eP, _, _, _, _, hcP, hfP⟩ := ERow.at1 (enc := encS) (s := ⟨some ⟨gP, 0, none⟩, pn, pn⟩) (fun _ => rfl) HC.out.row (j := k) (x := nilS) (u := .slice none 0 0) (by rw [List.getElem?_append_right (by rw [HC.out.len]; exact Nat.le_refl _), HC.out.len, Nat.sub_self, List.getElem?_replicate, if_pos (by omega)]) rfl
      simp only at eP
      injection eP with eP
      injection eP with eP
      subst eP
      have HCP := Lib.hid hcP
      clear hcP hfP
      clear hH hb2 hh hrs hr hgP hf
      go_wp2_with (go_at_call 48; ((with_reducible refine (cloneE HR.out H8.out).mono ?_); rintro e w2 ⟨t, rfl, ht, hbt⟩; have HT := Lib.hid ht; have HBT := Lib.hid hbt; have hyP := frozen_of_heap (hbt.stays HGP.out) k; have hcP := (hbt.cell (p := ⟨gP, k, none⟩) (lt_of_heap HGP.out)).trans HCP.out; clear ht hbt))
      have hst := HC.out.step HPN.out.symm hlt HBT.out (by have := HB.out.size; have := HG.out; omega) HPD.out HT.out
      have hsv : Svg gP w2 (w2.setCell ⟨gP, k, none⟩ t.val) := Svg.set _ _ _ _
      have hb3 : Bel w w2 := HB.out.trans HBT.out
      exact ⟨⟨k + 1, ts ++ [t], by omega, by go_num, Lib.hid (hsv.bel hb3 (by have := HGE.out; have := HG.out; omega)), Lib.hid ((hsv.block _ (lt_of_heap (HBT.out.stays HX1.out)) HN1.out).trans (HBT.out.stays HX1.out)), Lib.hid ((hsv.block _ (lt_of_heap (HBT.out.stays HX2.out)) HN2.out).trans (HBT.out.stays HX2.out)), Lib.hid hst⟩, by simp [intOf]; omega⟩
    · obtain rfl : k = pn := by omega
      go_upto_region 7 with (fail)
      have HKEEP : Hid (∀ w', Bel wr w' → w'.cell? ⟨G, 0, none⟩ = some (.slice wp wn wc) ∧ w'.cell? ⟨G, 2, none⟩ = some (.slice rp rn rc)) := Lib.hid (fun w' h => by
        have h1 := h.stays HX1.out
        exact ⟨cell_of_heap h1 0, cell_of_heap h1 2⟩)
      have HKEEP2 : Hid (∀ w' w'', Bel wr w' → Svg g2 w' w'' → w''.cell? ⟨G, 0, none⟩ = some (.slice wp wn wc) ∧ w''.cell? ⟨G, 2, none⟩ = some (.slice rp rn rc)) := Lib.hid (fun w' w'' h hs => by
        have h1 := h.stays HX1.out
        have h2 := (hs.block _ (lt_of_heap h1) HN3.out).trans h1
        exact ⟨cell_of_heap h2 0, cell_of_heap h2 2⟩)
      have HBC : Hid (Bel wr wr.drew) := Lib.hid (Bel.refl wr).drew
      have HMW := Lib.hid ((HM.out.bel HB.out).wd)
      have HMR := Lib.hid ((HM.out.bel HB.out).rs)
      have HWL : Hid (m.words.length ≤ 5000) := Lib.hid (by have := HO.out.w; omega)
      have HRL : Hid (m.res.length ≤ 5000) := Lib.hid (by have := HO.out.p4; have := HO.out.pr; omega)
      go_region_held3 (fun w' => w'.cell? ⟨G, 0, none⟩ = some (.slice wp wn wc) ∧ w'.cell? ⟨G, 2, none⟩ = some (.slice rp rn rc))
        (first | exact HKEEP.out _ HBC.out | exact HKEEP.out _ (Bel.refl _) | exact HKEEP2.out _ _ HBC.out (((Svg.set _ _ _ _).trans (Svg.set _ _ _ _)).trans (Svg.set _ _ _ _)))
        (first | (go_at_call 49; ((with_reducible refine (cloneI (HMW.out.bel HBC.out) HWL.out).mono ?_); rintro e wz ⟨tw, rfl, hrw, hbz⟩; have HGL := Lib.hid hbz.size; have HRW := Lib.hid hrw; have HBC := Lib.hid (HBC.out.trans hbz); clear hbz hrw)) | (go_at_call 49; ((with_reducible refine (cloneI (HMR.out.bel HBC.out) HRL.out).mono ?_); rintro e wz ⟨tr, rfl, hrr, hbz⟩; have HNE := Lib.hid (blk_ne HRW.out hrr); have HRW := Lib.hid (HRW.out.bel hbz); have HRR := Lib.hid hrr; have HBC := Lib.hid (HBC.out.trans hbz); clear hbz hrr; have y0 := frozen_of_heap (HBC.out.stays HX2.out) 0; have y1 := frozen_of_heap (HBC.out.stays HX2.out) 1; have y2 := frozen_of_heap (HBC.out.stays HX2.out) 2; have z0 := cell_of_heap (HBC.out.stays HX2.out) 0; have z1 := cell_of_heap (HBC.out.stays HX2.out) 1; have z2 := cell_of_heap (HBC.out.stays HX2.out) 2; simp only [List.getElem?_toArray, List.getElem?_cons_zero, List.getElem?_cons_succ] at z0 z1 z2)))
      go_wp2
      have hbw : Bel w wz := HB.out.trans HBC.out
      have h2 := HBC.out.stays HX2.out
      have hs3 : Svg g2 wz (((wz.setCell ⟨g2, 0, none⟩ (.slice tw.p tw.n tw.c)).setCell ⟨g2, 1, none⟩ (.slice (some ⟨gP, 0, none⟩) k k)).setCell ⟨g2, 2, none⟩ (.slice tr.p tr.n tr.c)) := ((Svg.set _ _ _ _).trans (Svg.set _ _ _ _)).trans (Svg.set _ _ _ _)
      have hh : (((wz.setCell ⟨g2, 0, none⟩ (.slice tw.p tw.n tw.c)).setCell ⟨g2, 1, none⟩ (.slice (some ⟨gP, 0, none⟩) k k)).setCell ⟨g2, 2, none⟩ (.slice tr.p tr.n tr.c)).heap[g2]? = some (.cells #[.slice tw.p tw.n tw.c, .slice (some ⟨gP, 0, none⟩) k k, .slice tr.p tr.n tr.c] 27 (0, 0)) := heap_set (heap_set (heap_set h2 0 _) 1 _) 2 _
      have hcl := HC.out
      have hm2 : MemAt G wz ⟨tw, ⟨some ⟨gP, 0, none⟩, k, k⟩, tr, ts⟩ m := ⟨HRW.out.mono (by have := HB.out.size; have := HG.out; show G ≤ wr.heap.size; omega), by
          have h := hcl.row
          rw [Nat.sub_self, List.replicate_zero, List.append_nil] at h
          exact h.bel HBC.out, by rw [hcl.len]; exact HPN.out, fun i s l hs hl => (hcl.ro i s l hs hl).bel HBC.out, HRR.out.mono (by have h1 := HB.out.size; have h2 := HG.out; have h3 : wr.heap.size ≤ _ := HGL.out; omega), HNE.out, hcl.ap⟩
      have hfin := hm2.keep hs3 h2 (by decide) (by decide) (by decide)
      exact bodyPost_ret (results_cell1 Try.results32 _ _ g2 _ _ _ _ rfl hh Try.underlying27 rfl (by kernel_rfl)) rfl ⟨⟨tw, ⟨some ⟨gP, 0, none⟩, k, k⟩, tr, ts⟩, rfl, hs3.bel hbw (by have := HG2.out; have := HG.out; omega), by rw [HG.out]; exact hfin⟩
end Go.Proofs.Ytobpoghophhphaa
