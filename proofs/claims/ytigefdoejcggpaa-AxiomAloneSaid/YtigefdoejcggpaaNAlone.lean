/- AxiomAlone's walk. -/
import Derived.Test.YtigefdoejcggpaaNAlP
namespace Go.Proofs.Ytigefdoejcggpaa
open Go.RowKit Ax
set_option linter.unusedVariables false
set_option linter.unusedSimpArgs false
set_option maxRecDepth 100000 in
set_option maxHeartbeats 4000000 in
theorem alone_walk {w : World} {p : Option Addr} {raw : List Q4} {n c : Nat} (hl : LAt w p raw) (hn : raw.length = n) (hw : ∀ x ∈ raw, in4 x) {ah : Int} (hah : inInt ah) :
    Calls Try.prog 7 #[.slice p n c, .int .i64 ah] w (OneB true w) := by
  have HAH := Lib.hid hah
  clear hah
  have HL := Lib.hid hl
  have HN := Lib.hid hn
  have HW := Lib.hid hw
  clear hl hn hw
  go_enter Try.func7, Try.ntmps7
  go_wp2_with fail
  refine (awake_any _).mono ?_
  rintro e wa ⟨rfl, hba⟩
  have HBA := Lib.hid hba
  clear hba
  go_wp2_with fail
  refine (fit_lit (LAt.bel HL.out HBA.out) HN.out HW.out).mono ?_
  rintro e wf ⟨p2, n2, c2, rfl, hbf, hef⟩
  have HSM := Lib.hid (fit_small raw)
  generalize fitV raw = l at hef HSM
  have HWF := Lib.hid (HBA.out.trans hbf)
  have HE := Lib.hid hef
  have HN2 : Hid (l.length = n2) := Lib.hid (by have := ERow.n (s := ⟨p2, n2, c2⟩) hef; exact this.symm)
  have HC2 : Hid (n2 ≤ c2) := Lib.hid (ERow.c (s := ⟨p2, n2, c2⟩) hef)
  have hn6 : n2 ≤ 6 := by have := HN2.out; have := HSM.out.len; omega
  have HN5 : Hid (n2 ≤ 5000) := Lib.hid (by omega)
  have HL2 := Lib.hid (ERow.lat (s := ⟨p2, n2, c2⟩) hef)
  clear hbf hef HL HW HN
  obtain ⟨ya, hya⟩ : ∃ y, pick ah 4 = y := ⟨_, rfl⟩
  have hab := pick_bd ah (n := 4) (by decide)
  rw [hya] at hab
  have HYA := Lib.hid hya
  have HAB := Lib.hid hab
  clear hya hab
  obtain ⟨hb0, hx0⟩ := box1 wf #[.int .i64 0, .int .i64 0, .int .i64 0, .int .i64 0] 42
  go_upto_region 4 with (fail)
  generalize hWW : wf.alloc (.cells #[.int .i64 0, .int .i64 0, .int .i64 0, .int .i64 0] 42) = W0 at hb0 hx0 ⊢
  clear hWW
  have HGA : Hid (w.heap.size ≤ wf.heap.size) := Lib.hid HWF.out.size
  generalize wf.heap.size = ga at hx0 HGA ⊢
  have HB0 := Lib.hid (HWF.out.trans hb0)
  have HX0 : Hid (ABox W0 ga (Ax.seen l 0)) := Lib.hid hx0
  have HE0 := Lib.hid (ERow.mono (HE.out.bel hb0) HBA.out.size)
  clear hb0 hx0
  go_wp2
  go_loopw [9, 8] (fun i v wr => ∃ (j : Nat), j ≤ n2 ∧ i = .int .i64 j ∧ v = .bool (wantV l j) ∧ Hid (Bel w wr) ∧ Hid (ABox wr ga (Ax.seen l j)) ∧ Hid (ERow encQ 26 4 wr w.heap.size (.slice p2 n2 c2) (mixH ya l j))) (fun i _ _ => n2 - (intOf i).toNat)
  case atStart => exact ⟨0, Nat.zero_le _, rfl, rfl, Lib.hid HB0.out, Lib.hid HX0.out, Lib.hid HE0.out⟩
  case round =>
    obtain ⟨j, hj, rfl, rfl, HB, HA, HO⟩ := hrel
    by_cases hlt : j < n2
    · have hjl : j < l.length := by have := HN2.out; omega
      have hta : ((l.take j).map (setH ya)).length = j := by rw [List.length_map, List.length_take]; omega
      have hx := get_mid (l := l) hta (get_ev hjl)
      have HBD := Lib.hid (HSM.out.bd _ (List.mem_of_getElem? (get_ev hjl)))
      have HSTEP : Hid (∀ x, x = setH ya (ev l j) → (mixH ya l j).set j x = mixH ya l (j + 1)) := Lib.hid (fun x hx => by
        unfold mixH
        rw [set_mid hta x hjl, hx, List.take_add_one, get_ev hjl, List.map_append]
        rfl)
      have HX : Hid ((mixH ya l j)[j]? = some (ev l j)) := Lib.hid hx
      have HEV : Hid (ev l j = ev l j) := Lib.hid rfl
      have HWS := Lib.hid (wantV_succ l j)
      have HNO := Lib.hid (@seen_no l j)
      have HST : Hid (∀ (x0 t x3 : Int), ev l j = (x0, 2, t, x3) → ∀ a : Int, Ax.seen l (j + 1) a = if a = t then x3 else Ax.seen l j a) := Lib.hid (fun _ _ _ h => seen_st h)
      clear hx hta hjl
      generalize hee : ev l j = ee at HBD HX HSTEP HWS HNO HST
      have HEE := Lib.hid hee
      clear hee HEV
      obtain ⟨x0, x1, x2, x3⟩ := ee
      generalize mixH ya l j = m at HO HX HSTEP
      generalize hm' : mixH ya l (j + 1) = m' at HSTEP
      have HM' := Lib.hid hm'
      clear hm'
      generalize hwn : wantV l (j + 1) = wn at HWS
      have HWN := Lib.hid hwn
      clear hwn
      generalize wantV l j = wb at HWS
      generalize hfn : Ax.seen l (j + 1) = fn at HNO HST
      have HFN := Lib.hid hfn
      clear hfn
      generalize Ax.seen l j = fo at HA HNO HST HWS
      obtain ⟨g, cs, ep, hbg, hg, -, -, -, -, hcell⟩ := ERow.at (s := ⟨p2, n2, c2⟩) encQ_len HO.out HX.out
      have ep : p2 = some ⟨g, 0, none⟩ := ep
      subst ep
      obtain ⟨c0, c1, c2', c3'⟩ := at4 hcell
      try simp only at c0 c1 c2' c3'
      have f0 := frozen_of_heap hg (j * 4)
      have HBG := Lib.hid hbg
      have HNE : Hid (g ≠ ga) := Lib.hid (by
        rintro rfl
        have h2 : wr.heap[g]? = _ := HA.out
        rw [hg] at h2
        injection h2 with h2
        injection h2 with _ h2 _
        exact absurd h2 (by decide))
      have hjn : (j : Int) < n2 := by omega
      obtain ⟨a0, a1⟩ := HAB.out
      obtain ⟨h0, h1, h2, h3, -, -, hk3, hkk⟩ := HBD.out
      try simp only at h0 h1 h2 h3 hk3 hkk
      obtain ⟨t, rfl⟩ : ∃ t : Nat, x2 = t := ⟨x2.toNat, by omega⟩
      have ht3 : t < 3 := by omega
      have HT4 : Hid (t < 4) := Lib.hid (by omega)
      have htI : (t : Int) < 4 := by omega
      have HKK := Lib.hid hkk
      -- the hart is set
      have H1 := Lib.hid (ERow.setf encQ_len HO.out (x' := ((ya, x1, (t : Int), x3) : Ev)) HX.out (f := 0) (by decide) (u := .int .i64 ya) rfl)
      rw [Nat.add_zero] at H1
      have HX1 : Hid ((m.set j ((ya, x1, (t : Int), x3) : Ev))[j]? = some ((ya, x1, (t : Int), x3) : Ev)) := Lib.hid (by rw [List.getElem?_set_self (List.getElem?_eq_some_iff.1 HX.out).1])
      have HE9 : Hid (m.set j ((ya, x1, (t : Int), x3) : Ev) = m') := Lib.hid (HSTEP.out _ rfl)
      have hd1 : Bel w (wr.setCell ⟨g, j * 4, none⟩ (.int .i64 ya)) := Bel.setCell HB.out HBG.out _
      have hg1 := heap_set hg (j * 4) (.int .i64 ya)
      have ha1 : ABox (wr.setCell ⟨g, j * 4, none⟩ (.int .i64 ya)) ga fo := ((Svg.set g (j * 4) wr (.int .i64 ya)).block ga (lt_of_heap HA.out) (fun c => HNE.out c.symm)).trans HA.out
      clear a0 a1 h0 h1 h2 h3 hk3 hkk hbg hcell ht3
      go_upto_region 9 with (go_at_call 14; ((with_reducible refine (pick_lit HYA.out HAH.out (by decide) _).mono ?_); rintro e wq ⟨rfl, rfl⟩))
      have ho1 := H1.out
      generalize hWW : (wr.setCell ⟨g, j * 4, none⟩ (.int .i64 ya)) = W1 at hd1 hg1 ha1 ho1 ⊢
      clear hWW c0 c1 c2' c3' f0 hg H1
      obtain ⟨g', -, ep', -, -, -, -, -, -, hcell⟩ := ERow.at (s := ⟨some ⟨g, 0, none⟩, n2, c2⟩) encQ_len ho1 HX1.out
      cases ep'
      obtain ⟨c0, c1, c2', c3'⟩ := at4 hcell
      try simp only at c0 c1 c2' c3'
      have HB1 := Lib.hid hd1
      have HO1 := Lib.hid ho1
      have HA1 := Lib.hid ha1
      clear hcell hd1 ho1 hg1 ha1
      by_cases hk2 : x1 = 2
      · subst hk2
        have fa := frozen_of_heap HA1.out t
        have ka := ABox.cell HA1.out HT4.out
        have hFN := HST.out _ _ _ rfl
        have HA2 := Lib.hid (ABox.set HA1.out HT4.out hFN)
        have HB2 : Hid (Bel w (W1.setCell ⟨ga, t, none⟩ (.int .i64 x3))) := Lib.hid (Bel.setCell HB1.out HGA.out _)
        have HO2 := Lib.hid (ERow.sv HO1.out (Svg.set ga t W1 (.int .i64 x3)) (fun k hk c => HNE.out (by cases hk; exact c)))
        have HWE : Hid (wn = wb) := Lib.hid (by rw [HWS.out]; simp)
        have q1 := ((Svg.set ga t W1 (.int .i64 x3)).cell (p := ⟨g, j * 4 + 1, none⟩) (World.block_lt_of_cell? _ _ c1) HNE.out).trans c1
        clear hFN
        go_upto_region 10 with (fail)
        go_region
        have q1 : (W1.setCell ⟨ga, t, none⟩ (.int .i64 x3)).drew.cell? ⟨g, j * 4 + 1, none⟩ = _ := q1
        have hd2 := HB2.out.drew
        have ha2 : ABox (W1.setCell ⟨ga, t, none⟩ (.int .i64 x3)).drew ga fn := HA2.out
        have ho2 := HO2.out.bel (Bel.refl _).drew
        generalize hWW : (W1.setCell ⟨ga, t, none⟩ (.int .i64 x3)).drew = W2 at q1 hd2 ha2 ho2 ⊢
        clear hWW c0 c1 c2' c3' fa ka HA2 HB2 HO2
        have HA2 := Lib.hid ha2
        have HB2 := Lib.hid hd2
        have HO2 := Lib.hid ho2
        clear ha2 hd2 ho2
        go_wp2
        refine ⟨⟨j + 1, by omega, by go_num, by rw [HWN.out, HWE.out], Lib.hid HB2.out, Lib.hid ?_, Lib.hid ?_⟩, by simp [intOf]; omega⟩
        · rw [HFN.out]
          exact HA2.out
        · rw [HM'.out, ← HE9.out]
          exact HO2.out
      · have ek2 : (x1 == 2) = false := by simp [hk2]
        have HFE : Hid (fn = fo) := Lib.hid (HNO.out hk2)
        by_cases hk1 : x1 = 1
        · subst hk1
          have ka := ABox.cell HA1.out HT4.out
          have HWE : Hid (wn = (wb && decide (x3 = fo t))) := Lib.hid (by rw [HWS.out]; rfl)
          obtain ⟨q, hq⟩ : ∃ q, decide (x3 = fo t) = q := ⟨_, rfl⟩
          have eq1 : (x3 == fo t) = q := by rw [← hq]; by_cases h : x3 = fo t <;> simp [h]
          rw [hq] at HWE
          generalize fo t = y at ka eq1
          clear hq hk2
          cases wb
          · go_wp2
            go_quiet (fail)
            go_wp2
            refine ⟨⟨j + 1, by omega, by go_num, by rw [HWN.out, HWE.out]; rfl, Lib.hid (HB1.out.drewN _), Lib.hid ?_, Lib.hid ?_⟩, by simp [intOf]; omega⟩
            · rw [HFN.out, HFE.out]
              exact HA1.out
            · rw [HM'.out, ← HE9.out]
              exact HO1.out.bel ((Bel.refl _).drewN _)
          · go_wp2
            go_quiet (fail)
            go_wp2
            refine ⟨⟨j + 1, by omega, by go_num, by rw [HWN.out, HWE.out]; rfl, Lib.hid (HB1.out.drewN _), Lib.hid ?_, Lib.hid ?_⟩, by simp [intOf]; omega⟩
            · rw [HFN.out, HFE.out]
              exact HA1.out
            · rw [HM'.out, ← HE9.out]
              exact HO1.out.bel ((Bel.refl _).drewN _)
        · have ek1 : (x1 == 1) = false := by simp [hk1]
          have HWE : Hid (wn = wb) := Lib.hid (by rw [HWS.out, decide_eq_false hk1]; simp)
          clear hk2 hk1
          go_wp2
          refine ⟨⟨j + 1, by omega, by go_num, by rw [HWN.out, HWE.out], Lib.hid HB1.out, Lib.hid ?_, Lib.hid ?_⟩, by simp [intOf]; omega⟩
          · rw [HFN.out, HFE.out]
            exact HA1.out
          · rw [HM'.out, ← HE9.out]
            exact HO1.out
    · obtain rfl : j = n2 := by omega
      have HME : Hid (mixH ya l j = l.map (setH ya)) := Lib.hid (by unfold mixH; rw [List.take_of_length_le (by have := HN2.out; omega), List.drop_of_length_le (by have := HN2.out; omega), List.append_nil])
      have HLM : Hid (LAt wr p2 (l.map (setH ya))) := Lib.hid (by rw [← HME.out]; exact ERow.lat (s := ⟨p2, j, c2⟩) HO.out)
      have HNM : Hid ((l.map (setH ya)).length = j) := Lib.hid (by rw [List.length_map, HN2.out])
      have HAM : Hid (allowed (l.map (setH ya)) = wantV l j) := Lib.hid (by rw [want_allowed HSM.out HAB.out.1 HAB.out.2, HN2.out])
      generalize wantV l j = wb at HAM
      go_wp2_with fail
      refine (allowed_lit HLM.out HNM.out HC2.out HN5.out HAM.out).mono ?_
      rintro e w5 ⟨rfl, hb5⟩
      have HB5 := Lib.hid hb5
      clear hb5
      go_wp2
      go_ret
      exact ⟨rb (by cases wb <;> rfl), HB.out.trans HB5.out⟩
end Go.Proofs.Ytigefdoejcggpaa
