/- AxiomPlays' walk. -/
import Derived.Test.YtigefdoejcggpaaNAlP
import Derived.Test.YtigefdoejcggpaaNOrder
namespace Go.Proofs.Ytigefdoejcggpaa
open Go.RowKit Ax
set_option linter.unusedVariables false
set_option linter.unusedSimpArgs false
/-- an event that tells what was stored last -/
def playEv (l : List Ev) (i : Nat) : Ev := if (ev l i).2.1 = 1 then ((ev l i).1, (ev l i).2.1, (ev l i).2.2.1, Ax.seen l i (ev l i).2.2.1) else ev l i
def playL (l : List Ev) (j : Nat) : List Ev := (List.range j).map (playEv l)
def mixP (l : List Ev) (j : Nat) : List Ev := playL l j ++ l.drop j
theorem playL_len (l : List Ev) (j : Nat) : (playL l j).length = j := by unfold playL; simp
theorem playL_ev {l : List Ev} {j i : Nat} (hi : i < j) : ev (playL l j) i = playEv l i := ev_get (by unfold playL; rw [List.getElem?_map, List.getElem?_range hi]; rfl)
theorem mixP_yes {l : List Ev} {j : Nat} (hj : j < l.length) {x : Ev} (hx : x = playEv l j) : (mixP l j).set j x = mixP l (j + 1) := by
  unfold mixP
  rw [set_mid (playL_len l j) x hj, hx]
  unfold playL
  rw [List.range_succ, List.map_append]
  rfl
theorem mixP_no {l : List Ev} {j : Nat} (hj : j < l.length) (h : (ev l j).2.1 ≠ 1) : mixP l (j + 1) = mixP l j := by
  unfold mixP playL
  rw [List.range_succ, List.map_append, List.append_assoc]
  congr 1
  show [playEv l j] ++ _ = _
  unfold playEv
  rw [if_neg h, List.drop_eq_getElem_cons hj]
  have := get_ev hj
  rw [List.getElem?_eq_getElem hj] at this
  injection this with this
  rw [this]
  rfl
theorem seen_bd {l : List Ev} (hs : Small l) {i : Nat} (hi : i ≤ l.length) (a : Int) : 0 ≤ Ax.seen l i a ∧ Ax.seen l i a < 3 := by
  induction i with
  | zero => exact ⟨Int.le_refl 0, by show (0 : Int) < 3; decide⟩
  | succ i ih =>
    rw [seen_succ]
    split
    · obtain ⟨_, _, _, _, h4, h5, _⟩ := hs.bd _ (List.mem_of_getElem? (get_ev (show i < l.length by omega)))
      exact ⟨h4, h5⟩
    · exact ih (by omega)
theorem seen_play {l : List Ev} {n i : Nat} (hi : i ≤ n) (a : Int) : Ax.seen (playL l n) i a = Ax.seen l i a := by
  induction i with
  | zero => rfl
  | succ i ih =>
    rw [seen_succ, seen_succ, ih (by omega), playL_ev (by omega)]
    unfold playEv isSt
    by_cases hk : (ev l i).2.1 = 1
    · rw [if_pos hk]
      simp [hk]
    · rw [if_neg hk]
theorem play_ev_ok {l : List Ev} (hs : Small l) {i : Nat} (hi : i < l.length) : isEv (playEv l i) = true := by
  have h := hs.ev _ (List.mem_of_getElem? (get_ev hi))
  unfold playEv
  by_cases hk : (ev l i).2.1 = 1
  · rw [if_pos hk]
    have hb := seen_bd hs (Nat.le_of_lt hi) (ev l i).2.2.1
    unfold isEv isAcc at *
    simp only [Bool.and_eq_true, decide_eq_true_eq] at h ⊢
    rw [if_neg (by omega)] at h ⊢
    simp only [Bool.and_eq_true, decide_eq_true_eq, Bool.or_eq_true] at h ⊢
    exact ⟨h.1, ⟨h.2.1, by omega, by omega⟩⟩
  · rw [if_neg hk]; exact h
theorem play_right {l : List Ev} (hs : Small l) : right (playL l l.length) = true := by
  refine right_iff.2 ⟨by rw [playL_len]; have := hs.len; omega, fun e he => ?_⟩
  unfold playL at he
  obtain ⟨i, hi, rfl⟩ := List.mem_map.1 he
  exact play_ev_ok hs (List.mem_range.1 hi)
theorem play_holds {l : List Ev} (hs : Small l) : Holds (playL l l.length) (plain (playL l l.length)) := by
  refine plays_holds (play_right hs) fun i hi hk => ?_
  rw [playL_len] at hi
  rw [playL_ev hi] at hk ⊢
  rw [seen_play (by omega)]
  unfold playEv at hk ⊢
  split
  · rfl
  · rename_i hn
    rw [if_neg hn] at hk
    exact absurd hk hn
/-- of what is right, the places of what is no fence are those of accesses -/
theorem accs_plain {l : List Ev} (hr : right l = true) : accs l l.length = plain l := by
  unfold accs plain
  refine List.filter_congr fun i hi => ?_
  obtain ⟨n, hn, rfl⟩ := List.mem_map.1 hi
  have hn := List.mem_range.1 hn
  have := (right_iff.1 hr).2 _ (List.mem_of_getElem? (get_ev hn))
  show decide ((ev l (n : Int)).2.1 ≠ 3) = isAcc (ev l (n : Int))
  unfold isEv isAcc at *
  simp only [Bool.and_eq_true, decide_eq_true_eq] at this
  rw [Bool.eq_iff_iff]
  simp only [decide_eq_true_eq, Bool.or_eq_true]
  by_cases h3 : (ev l n).2.1 = 3
  · simp [h3]
  · rw [if_neg h3] at this
    simp only [Bool.and_eq_true, decide_eq_true_eq, Bool.or_eq_true] at this
    exact ⟨fun _ => this.2.1.1, fun _ => h3⟩
theorem ord_plain {l : List Ev} (hr : right l = true) : ordV l [] = plain l := by
  unfold ordV
  rw [ordGo_nil, accs_plain hr]
set_option maxRecDepth 100000 in
set_option maxHeartbeats 4000000 in
theorem plays_walk {w : World} {p : Option Addr} {raw : List Q4} {n c : Nat} (hl : LAt w p raw) (hn : raw.length = n) (hw : ∀ x ∈ raw, in4 x) :
    Calls Try.prog 5 #[.slice p n c] w (OneB true w) := by
  have HL := Lib.hid hl
  have HN := Lib.hid hn
  have HW := Lib.hid hw
  clear hl hn hw
  go_enter Try.func5, Try.ntmps5
  go_wp2_with fail
  refine (awake_any _).mono ?_
  rintro e wa ⟨rfl, hba⟩
  have HBA := Lib.hid hba
  clear hba
  go_wp2_with fail
  refine (fit_lit (LAt.bel HL.out HBA.out) HN.out HW.out).mono ?_
  rintro e wf ⟨p2, n2, c2, rfl, hbf, hef⟩
  have HSM := Lib.hid (fit_small raw)
  generalize fitV raw = l at hef HSM
  have HWF := Lib.hid (HBA.out.trans hbf)
  have HE := Lib.hid hef
  have HN2 : Hid (l.length = n2) := Lib.hid (by have := ERow.n (s := ⟨p2, n2, c2⟩) hef; exact this.symm)
  have HC2 : Hid (n2 ≤ c2) := Lib.hid (ERow.c (s := ⟨p2, n2, c2⟩) hef)
  have hn6 : n2 ≤ 6 := by have := HN2.out; have := HSM.out.len; omega
  have HN5 : Hid (n2 ≤ 5000) := Lib.hid (by omega)
  have HL2 := Lib.hid (ERow.lat (s := ⟨p2, n2, c2⟩) hef)
  clear hbf hef HL HW HN
  obtain ⟨hb0, hx0⟩ := box1 wf #[.int .i64 0, .int .i64 0, .int .i64 0, .int .i64 0] 42
  go_upto_region 4 with (fail)
  generalize hWW : wf.alloc (.cells #[.int .i64 0, .int .i64 0, .int .i64 0, .int .i64 0] 42) = W0 at hb0 hx0 ⊢
  clear hWW
  have HGA : Hid (w.heap.size ≤ wf.heap.size) := Lib.hid HWF.out.size
  generalize wf.heap.size = ga at hx0 HGA ⊢
  have HB0 := Lib.hid (HWF.out.trans hb0)
  have HX0 : Hid (ABox W0 ga (Ax.seen l 0)) := Lib.hid hx0
  have HE0 := Lib.hid (ERow.mono (HE.out.bel hb0) HBA.out.size)
  clear hb0 hx0
  go_wp2
  go_loopw [6] (fun i wr => ∃ (j : Nat), j ≤ n2 ∧ i = .int .i64 j ∧ Hid (Bel w wr) ∧ Hid (ABox wr ga (Ax.seen l j)) ∧ Hid (ERow encQ 26 4 wr w.heap.size (.slice p2 n2 c2) (mixP l j))) (fun i _ => n2 - (intOf i).toNat)
  case atStart => exact ⟨0, Nat.zero_le _, rfl, Lib.hid HB0.out, Lib.hid HX0.out, Lib.hid HE0.out⟩
  case round =>
    obtain ⟨j, hj, rfl, HB, HA, HO⟩ := hrel
    by_cases hlt : j < n2
    · have hjl : j < l.length := by have := HN2.out; omega
      have hx := get_mid (l := l) (playL_len l j) (get_ev hjl)
      have HBD := Lib.hid (HSM.out.bd _ (List.mem_of_getElem? (get_ev hjl)))
      have HSTEP : Hid (∀ x, x = playEv l j → (mixP l j).set j x = mixP l (j + 1)) := Lib.hid (fun x hx => mixP_yes hjl hx)
      have HSN : Hid ((ev l j).2.1 ≠ 1 → mixP l (j + 1) = mixP l j) := Lib.hid (fun h => mixP_no hjl h)
      have HPE : Hid ((ev l j).2.1 = 1 → playEv l j = ((ev l j).1, (ev l j).2.1, (ev l j).2.2.1, Ax.seen l j (ev l j).2.2.1)) := Lib.hid (fun h => by unfold playEv; rw [if_pos h])
      have HX : Hid ((mixP l j)[j]? = some (ev l j)) := Lib.hid hx
      have HNO := Lib.hid (@seen_no l j)
      have HST : Hid (∀ (x0 t x3 : Int), ev l j = (x0, 2, t, x3) → ∀ a : Int, Ax.seen l (j + 1) a = if a = t then x3 else Ax.seen l j a) := Lib.hid (fun _ _ _ h => seen_st h)
      clear hx hjl
      generalize hee : ev l j = ee at HBD HX HNO HST HSN HPE
      have HEE := Lib.hid hee
      clear hee
      obtain ⟨x0, x1, x2, x3⟩ := ee
      generalize mixP l j = m at HO HX HSTEP HSN
      generalize hm' : mixP l (j + 1) = m' at HSTEP HSN
      have HM' := Lib.hid hm'
      clear hm'
      generalize hfn : Ax.seen l (j + 1) = fn at HNO HST
      have HFN := Lib.hid hfn
      clear hfn
      generalize Ax.seen l j = fo at HA HNO HST HPE
      generalize playEv l j = pe at HSTEP HPE
      obtain ⟨g, cs, ep, hbg, hg, -, -, -, -, hcell⟩ := ERow.at (s := ⟨p2, n2, c2⟩) encQ_len HO.out HX.out
      have ep : p2 = some ⟨g, 0, none⟩ := ep
      subst ep
      obtain ⟨c0, c1, c2', c3'⟩ := at4 hcell
      try simp only at c0 c1 c2' c3'
      have f3 := frozen_of_heap hg (j * 4 + 3)
      have HBG := Lib.hid hbg
      have HNE : Hid (g ≠ ga) := Lib.hid (by
        rintro rfl
        have h2 : wr.heap[g]? = _ := HA.out
        rw [hg] at h2
        injection h2 with h2
        injection h2 with _ h2 _
        exact absurd h2 (by decide))
      have hjn : (j : Int) < n2 := by omega
      obtain ⟨h0, h1, h2, h3, -, -, hk3, hkk⟩ := HBD.out
      try simp only at h0 h1 h2 h3 hk3 hkk
      obtain ⟨t, rfl⟩ : ∃ t : Nat, x2 = t := ⟨x2.toNat, by omega⟩
      have HT4 : Hid (t < 4) := Lib.hid (by omega)
      have htI : (t : Int) < 4 := by omega
      clear h0 h1 h2 h3 hk3 hkk hbg hcell
      by_cases hk2 : x1 = 2
      · subst hk2
        have fa := frozen_of_heap HA.out t
        have ka := ABox.cell HA.out HT4.out
        have hFN := HST.out _ _ _ rfl
        have HME : Hid (m' = m) := Lib.hid (HSN.out (show (2 : Int) ≠ 1 by decide))
        have ha2 := ABox.set HA.out HT4.out hFN
        have hd2 : Bel w (wr.setCell ⟨ga, t, none⟩ (.int .i64 x3)) := Bel.setCell HB.out HGA.out _
        have ho2 := ERow.sv HO.out (Svg.set ga t wr (.int .i64 x3)) (fun k hk c => HNE.out (by cases hk; exact c))
        have q1 := ((Svg.set ga t wr (.int .i64 x3)).cell (p := ⟨g, j * 4 + 1, none⟩) (World.block_lt_of_cell? _ _ c1) HNE.out).trans c1
        clear hFN
        go_upto_region 8 with (fail)
        go_region
        have q1 : (wr.setCell ⟨ga, t, none⟩ (.int .i64 x3)).drew.cell? ⟨g, j * 4 + 1, none⟩ = _ := q1
        have hd2 := hd2.drew
        have ha2 : ABox (wr.setCell ⟨ga, t, none⟩ (.int .i64 x3)).drew ga fn := ha2
        have ho2 := ho2.bel (Bel.refl _).drew
        generalize hWW : (wr.setCell ⟨ga, t, none⟩ (.int .i64 x3)).drew = W2 at q1 hd2 ha2 ho2 ⊢
        clear hWW c0 c1 c2' c3' fa ka f3 hg
        have HA2 := Lib.hid ha2
        have HB2 := Lib.hid hd2
        have HO2 := Lib.hid ho2
        clear ha2 hd2 ho2
        go_wp2
        refine ⟨⟨j + 1, by omega, by go_num, Lib.hid HB2.out, Lib.hid ?_, Lib.hid ?_⟩, by simp [intOf]; omega⟩
        · rw [HFN.out]
          exact HA2.out
        · rw [HM'.out, HME.out]
          exact HO2.out
      · have ek2 : (x1 == 2) = false := by simp [hk2]
        have HFE : Hid (fn = fo) := Lib.hid (HNO.out hk2)
        by_cases hk1 : x1 = 1
        · subst hk1
          have ka := ABox.cell HA.out HT4.out
          have HE9 : Hid (m.set j ((x0, 1, (t : Int), fo t) : Ev) = m') := Lib.hid (HSTEP.out _ (HPE.out rfl).symm)
          have H1 := Lib.hid (ERow.setf encQ_len HO.out (x' := ((x0, 1, (t : Int), fo t) : Ev)) HX.out (f := 3) (by decide) (u := .int .i64 (fo t)) rfl)
          have HB1 : Hid (Bel w (wr.setCell ⟨g, j * 4 + 3, none⟩ (.int .i64 (fo t)))) := Lib.hid (Bel.setCell HB.out HBG.out _)
          have HA1 : Hid (ABox (wr.setCell ⟨g, j * 4 + 3, none⟩ (.int .i64 (fo t))) ga fo) := Lib.hid (((Svg.set g (j * 4 + 3) wr (.int .i64 (fo t))).block ga (lt_of_heap HA.out) (fun c => HNE.out c.symm)).trans HA.out)
          clear hk2 hg
          go_wp2
          refine ⟨⟨j + 1, by omega, by go_num, Lib.hid HB1.out, Lib.hid ?_, Lib.hid ?_⟩, by simp [intOf]; omega⟩
          · rw [HFN.out, HFE.out]
            exact HA1.out
          · rw [HM'.out, ← HE9.out]
            exact H1.out
        · have ek1 : (x1 == 1) = false := by simp [hk1]
          have HME : Hid (m' = m) := Lib.hid (HSN.out hk1)
          clear hk2 hk1
          go_wp2
          refine ⟨⟨j + 1, by omega, by go_num, HB, Lib.hid ?_, Lib.hid ?_⟩, by simp [intOf]; omega⟩
          · rw [HFN.out, HFE.out]
            exact HA.out
          · rw [HM'.out, HME.out]
            exact HO.out
    · obtain rfl : j = n2 := by omega
      have HME : Hid (mixP l j = playL l l.length) := Lib.hid (by unfold mixP; rw [HN2.out, List.drop_of_length_le (by have := HN2.out; omega), List.append_nil])
      have HLM : Hid (LAt wr p2 (playL l l.length)) := Lib.hid (by rw [← HME.out]; exact ERow.lat (s := ⟨p2, j, c2⟩) HO.out)
      have HNM : Hid ((playL l l.length).length = j) := Lib.hid (by rw [playL_len, HN2.out])
      have HH := Lib.hid (play_holds HSM.out)
      have HAM : Hid (allowed (playL l l.length) = true) := Lib.hid (allowed_iff.2 ⟨_, HH.out⟩)
      have HOV : Hid (ordV (playL l l.length) [] = plain (playL l l.length)) := Lib.hid (ord_plain (play_right HSM.out))
      have HHB : Hid (holdsB (playL l l.length) (ordV (playL l l.length) []) = true) := Lib.hid (by rw [HOV.out]; exact holds_iff.2 HH.out)
      have HON : Hid ((ordV (playL l l.length) []).length ≤ 5000) := Lib.hid (by
        rw [HOV.out]
        have := accs_len (playL l l.length) (playL l l.length).length
        rw [accs_plain (play_right HSM.out), HNM.out] at this
        omega)
      have HJ : Hid (j ≤ 100) := Lib.hid (by omega)
      generalize playL l l.length = L at HLM HNM HAM HHB HON
      go_wp2_with fail
      refine (allowed_lit HLM.out HNM.out HC2.out HN5.out HAM.out).mono ?_
      rintro e w5 ⟨rfl, hb5⟩
      have HB5 := Lib.hid hb5
      clear hb5
      go_wp2_with fail
      refine (order_any (q := none) (ps := []) (m := 0) (d := 0) (LAt.bel HLM.out HB5.out) HNM.out HJ.out (fun _ _ h => by simp at h) rfl (fun _ h => by simp at h)).mono ?_
      rintro e w6 ⟨p6, n6, c6, rfl, hb6, ho6⟩
      have HB6 := Lib.hid (HB5.out.trans hb6)
      have HO6 := Lib.hid (ERow.iat (s := ⟨p6, n6, c6⟩) ho6)
      have HN6 : Hid ((ordV L []).length = n6) := Lib.hid (ERow.n (s := ⟨p6, n6, c6⟩) ho6).symm
      have HC6 : Hid (n6 ≤ c6) := Lib.hid (ERow.c (s := ⟨p6, n6, c6⟩) ho6)
      have HM6 : Hid (n6 ≤ 5000) := Lib.hid (by rw [← HN6.out]; exact HON.out)
      clear hb6 ho6
      go_wp2_with fail
      refine (holds_lit (LAt.bel HLM.out HB6.out) HNM.out HC2.out HN5.out HO6.out HN6.out HC6.out HM6.out HHB.out).mono ?_
      rintro e w7 ⟨rfl, hb7⟩
      have HB7 := Lib.hid (HB6.out.trans hb7)
      clear hb7
      go_wp2
      go_ret
      exact ⟨rfl, HB.out.trans HB7.out⟩
end Go.Proofs.Ytigefdoejcggpaa
