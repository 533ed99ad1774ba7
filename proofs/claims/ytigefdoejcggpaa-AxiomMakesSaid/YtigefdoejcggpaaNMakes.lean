/- AxiomMakes' walk. -/
import Derived.Test.YtigefdoejcggpaaNKept
namespace Go.Proofs.Ytigefdoejcggpaa
open Go.RowKit Ax
set_option linter.unusedVariables false
set_option linter.unusedSimpArgs false
theorem holds_of {l : List Ev} {o : List Int} (hr : right l = true) (ho : Ordr l o) (hk : Keep l o) (ht : ∀ k ∈ o, (ev l k).2.1 = 1 → (ev l k).2.2.2 = val l o k) : Holds l o := by
  refine ⟨hr, ord_ordr.2 ho, fun p k hp => ⟨fun i hi => ?_, fun hl => ht k (List.mem_of_getElem? hp) hl⟩⟩
  have ed : o.drop p = k :: o.drop (p + 1) := drop_get hp
  rw [ed] at hi
  exact hk _ k _ (split_at hp) i hi
theorem tell_ok {l : List Ev} (hs : Small l) {o : List Int} (ho : Ordr l o) {j : Nat} (hj : j ≤ l.length) : right (tellL l o j) = true := by
  refine right_iff.2 ⟨by rw [tell_len hj]; have := hs.len; omega, fun e he => ?_⟩
  obtain ⟨q, hq⟩ := List.mem_iff_getElem?.1 he
  have hql : q < l.length := by have := (List.getElem?_eq_some_iff.1 hq).1; rwa [tell_len hj] at this
  have e1 := ev_get hq
  rw [tell_ev hj hql] at e1
  subst e1
  have h := hs.ev _ (List.mem_of_getElem? (get_ev hql))
  split
  · unfold tellEv
    by_cases hk : (ev l q).2.1 = 1
    · rw [if_pos hk]
      have hb := val_bd (l := l) (m := 3) (by decide) (fun e he => by obtain ⟨_, _, _, _, h4, h5, _⟩ := hs.bd e he; exact ⟨h4, h5⟩) (o := o) ho.plc q
      unfold isEv isAcc at *
      simp only [Bool.and_eq_true, decide_eq_true_eq] at h ⊢
      rw [if_neg (by omega)] at h ⊢
      simp only [Bool.and_eq_true, decide_eq_true_eq, Bool.or_eq_true] at h ⊢
      exact ⟨h.1, ⟨h.2.1, by omega, by omega⟩⟩
    · rw [if_neg hk]; exact h
  · exact h
theorem tell_value {l : List Ev} (hs : Small l) {o : List Int} (ho : Ordr l o) {j : Nat} (hj : j < l.length) (hl : (ev l j).2.1 = 1) : valueV (tellL l o j) o j = (val l o j, true) := by
  have S := tell_sim (o := o) (Nat.le_of_lt hj)
  have h1 : ordB (tellL l o j) o = true := ord_iff.2 (ord_ordr.2 (S.ordr ho))
  have h2 : plc (tellL l o j) j = true := by rw [S.plc]; exact plc_of hj (by unfold isAcc; simp [hl])
  unfold valueV
  rw [tell_ok hs ho (Nat.le_of_lt hj), h1, h2, S.k j hj, hl, S.val ho.plc hj]
  rfl
theorem tell_step {l : List Ev} {o : List Int} {j : Nat} (hj : j < l.length) {x : Ev} (hx : x = tellEv l o j) : (tellL l o j).set j x = tellL l o (j + 1) := by
  unfold tellL
  rw [set_mid (by simp) x hj, hx, List.range_succ, List.map_append]
  rfl
theorem tell_skip {l : List Ev} {o : List Int} {j : Nat} (hj : j < l.length) (h : (ev l j).2.1 ≠ 1) : tellL l o (j + 1) = tellL l o j := by
  unfold tellL
  rw [List.range_succ, List.map_append, List.append_assoc]
  congr 1
  show [tellEv l o j] ++ _ = _
  unfold tellEv
  rw [if_neg h, List.drop_eq_getElem_cons hj]
  have := get_ev hj
  rw [List.getElem?_eq_getElem hj] at this
  injection this with this
  rw [this]
  rfl
theorem tell_holds {l : List Ev} (hs : Small l) {o : List Int} (ho : Ordr l o) (hk : Keep l o) : Holds (tellL l o l.length) o := by
  have S := tell_sim (o := o) (Nat.le_refl l.length)
  refine holds_of (tell_ok hs ho (Nat.le_refl _)) (S.ordr ho) (S.keep ho hk) fun k hko hl => ?_
  obtain ⟨k0, k1, _⟩ := plc_acc (ho.plc k hko)
  obtain ⟨q, rfl⟩ : ∃ n : Nat, k = n := ⟨k.toNat, by omega⟩
  have hq : q < l.length := by omega
  rw [S.k q hq] at hl
  rw [S.val ho.plc hq, tell_ev (Nat.le_refl _) hq, if_pos hq]
  unfold tellEv
  rw [if_pos hl]
set_option maxRecDepth 100000 in
set_option maxHeartbeats 4000000 in
theorem makes_walk {w : World} {p : Option Addr} {raw : List Q4} {n c : Nat} (hl : LAt w p raw) (hn : raw.length = n) (hw : ∀ x ∈ raw, in4 x) {q : Option Addr} {ps : List Int} {m d : Nat} (hq : IAt w q ps) (hm : ps.length = m) (hwp : ∀ x ∈ ps, inInt x) :
    Calls Try.prog 4 #[.slice p n c, .slice q m d] w (OneB true w) := by
  have HQ := Lib.hid hq
  have HM := Lib.hid hm
  have HWP := Lib.hid hwp
  clear hq hm hwp
  have HL := Lib.hid hl
  have HN := Lib.hid hn
  have HW := Lib.hid hw
  clear hl hn hw
  go_enter Try.func4, Try.ntmps4
  go_wp2_with fail
  refine (awake_any _).mono ?_
  rintro e wa ⟨rfl, hba⟩
  have HBA := Lib.hid hba
  clear hba
  go_wp2_with fail
  refine (fit_lit (LAt.bel HL.out HBA.out) HN.out HW.out).mono ?_
  rintro e wf ⟨p2, n2, c2, rfl, hbf, hef⟩
  have HSM := Lib.hid (fit_small raw)
  generalize fitV raw = l at hef HSM
  have HWF := Lib.hid (HBA.out.trans hbf)
  have HE := Lib.hid hef
  have HN2 : Hid (l.length = n2) := Lib.hid (by have := ERow.n (s := ⟨p2, n2, c2⟩) hef; exact this.symm)
  have HC2 : Hid (n2 ≤ c2) := Lib.hid (ERow.c (s := ⟨p2, n2, c2⟩) hef)
  have hn6 : n2 ≤ 6 := by have := HN2.out; have := HSM.out.len; omega
  have HN5 : Hid (n2 ≤ 5000) := Lib.hid (by omega)
  have HL2 := Lib.hid (ERow.lat (s := ⟨p2, n2, c2⟩) hef)
  clear hbf hef HL HW HN
  go_wp2_with fail
  refine (kept_any (d := d) HSM.out.right HL2.out HN2.out HC2.out (IAt.bel HQ.out HWF.out) HM.out HWP.out).mono ?_
  rintro e wk ⟨p5, n5, c5, o, rfl, hbk, hok, ho1, ho2, ho8⟩
  have HBK := Lib.hid (HWF.out.trans hbk)
  have HO := Lib.hid hok
  have HOR := Lib.hid ho1
  have HKP := Lib.hid ho2
  have HO8 := Lib.hid ho8
  have HN5' : Hid (o.length = n5) := Lib.hid (ERow.n (s := ⟨p5, n5, c5⟩) hok).symm
  have HC5 : Hid (n5 ≤ c5) := Lib.hid (ERow.c (s := ⟨p5, n5, c5⟩) hok)
  have HM5 : Hid (n5 ≤ 5000) := Lib.hid (by have := HN5'.out; omega)
  have HEL := Lib.hid (ERow.mono (HE.out.bel hbk) HBA.out.size)
  have e0 := ext20
  have e1 := ext21
  have HBF : Hid (∀ g, p2 = some ⟨g, 0, none⟩ → 0 < n2 → g < wf.heap.size) := Lib.hid (fun g e hn => by
    rcases HE.out.2 with ⟨hv, _⟩ | ⟨g', cap, cur, hv, _, hg, _⟩
    · injection hv with _ hv _
      omega
    · injection hv with hv _ _
      rw [e] at hv
      injection hv with hv
      injection hv with hv
      subst hv
      exact lt_of_heap hg)
  clear hbk hok ho1 ho2 ho8
  go_wp2
  go_loopw [8] (fun i wr => ∃ (j : Nat), j ≤ n2 ∧ i = .int .i64 j ∧ Hid (Bel w wr) ∧ Hid (ERow encI 3 1 wr wf.heap.size (.slice p5 n5 c5) o) ∧ Hid (ERow encQ 26 4 wr w.heap.size (.slice p2 n2 c2) (tellL l o j))) (fun i _ => n2 - (intOf i).toNat)
  case atStart => exact ⟨0, Nat.zero_le _, rfl, Lib.hid HBK.out, HO, Lib.hid HEL.out⟩
  case round =>
    obtain ⟨j, hj, rfl, HB, HOO, HT⟩ := hrel
    by_cases hlt : j < n2
    · have hjl : j < l.length := by have := HN2.out; omega
      have hx := get_mid (l := l) (a := (List.range j).map (tellEv l o)) (by simp) (get_ev hjl)
      have HX : Hid ((tellL l o j)[j]? = some (ev l j)) := Lib.hid hx
      have HSTEP : Hid (∀ x, x = tellEv l o j → (tellL l o j).set j x = tellL l o (j + 1)) := Lib.hid (fun x hx => tell_step hjl hx)
      have HSK : Hid ((ev l j).2.1 ≠ 1 → tellL l o (j + 1) = tellL l o j) := Lib.hid (fun h => tell_skip hjl h)
      have HVA : Hid ((ev l j).2.1 = 1 → valueV (tellL l o j) o j = (val l o j, true)) := Lib.hid (fun h => tell_value HSM.out HOR.out hjl h)
      have HPE : Hid ((ev l j).2.1 = 1 → tellEv l o j = ((ev l j).1, (ev l j).2.1, (ev l j).2.2.1, val l o j)) := Lib.hid (fun h => by unfold tellEv; rw [if_pos h])
      have HNT : Hid ((tellL l o j).length = n2) := Lib.hid (by rw [tell_len (by omega), HN2.out])
      clear hx hjl
      generalize hee : ev l j = ee at HX HSK HVA HPE
      have HEE := Lib.hid hee
      clear hee
      obtain ⟨x0, x1, x2, x3⟩ := ee
      generalize tellL l o j = mm at HT HX HSTEP HSK HVA HNT
      generalize hm' : tellL l o (j + 1) = m' at HSTEP HSK
      have HM' := Lib.hid hm'
      clear hm'
      generalize val l o j = v at HVA HPE
      generalize tellEv l o j = pe at HSTEP HPE
      obtain ⟨g, cs, ep, hbg, hg, -, -, -, -, hcell⟩ := ERow.at (s := ⟨p2, n2, c2⟩) encQ_len HT.out HX.out
      have ep : p2 = some ⟨g, 0, none⟩ := ep
      have HGF : Hid (g < wf.heap.size) := Lib.hid (HBF.out g ep (by omega))
      subst ep
      obtain ⟨c0, c1, c2', c3'⟩ := at4 hcell
      try simp only at c0 c1 c2' c3'
      have HBG := Lib.hid hbg
      have hjn : (j : Int) < n2 := by omega
      have HTL : Hid (LAt wr (some ⟨g, 0, none⟩) mm) := Lib.hid (ERow.lat (s := ⟨some ⟨g, 0, none⟩, n2, c2⟩) HT.out)
      have HOI : Hid (IAt wr p5 o) := Lib.hid (ERow.iat (s := ⟨p5, n5, c5⟩) HOO.out)
      clear hbg hcell
      by_cases hk1 : x1 = 1
      · subst hk1
        have HV := Lib.hid (HVA.out rfl)
        have HE9 : Hid (mm.set j ((x0, 1, x2, v) : Ev) = m') := Lib.hid (HSTEP.out _ (HPE.out rfl).symm)
        clear hg
        go_wp2_with fail
        refine (valueV_lit HTL.out HNT.out HC2.out HN5.out HOI.out HN5'.out HC5.out HM5.out HV.out).mono ?_
        rintro e w5 ⟨rfl, hb5⟩
        have HB5 := Lib.hid (HB.out.trans hb5)
        have HO5 := Lib.hid (HOO.out.bel hb5)
        have HT5 := Lib.hid (HT.out.bel hb5)
        clear c0 c1 c2' c3' hb5
        obtain ⟨g', cs', ep', -, hg, -, -, -, -, hcell⟩ := ERow.at (s := ⟨some ⟨g, 0, none⟩, n2, c2⟩) encQ_len HT5.out HX.out
        cases ep'
        obtain ⟨c0, c1, c2', c3'⟩ := at4 hcell
        try simp only at c0 c1 c2' c3'
        have f3 := frozen_of_heap hg (j * 4 + 3)
        have H1 := Lib.hid (ERow.setf encQ_len HT5.out (x' := ((x0, 1, x2, v) : Ev)) HX.out (f := 3) (by decide) (u := .int .i64 v) rfl)
        have HB1 : Hid (Bel w (w5.setCell ⟨g, j * 4 + 3, none⟩ (.int .i64 v))) := Lib.hid (Bel.setCell HB5.out HBG.out _)
        have HO1 := Lib.hid (ERow.sv HO5.out (Svg.set g (j * 4 + 3) w5 (.int .i64 v)) (fun b hb c => by
          have h1 := (ERow.blk HO5.out hb).1
          have h2 := HGF.out
          rw [c] at h1
          omega))
        clear hcell hg
        go_wp2
        exact ⟨⟨j + 1, by omega, by go_num, HB1, HO1, Lib.hid (by rw [HM'.out, ← HE9.out]; exact H1.out)⟩, by simp [intOf]; omega⟩
      · have ek1 : (x1 != 1) = true := by simp [hk1]
        have HME : Hid (m' = mm) := Lib.hid (HSK.out hk1)
        clear hk1 hg
        go_wp2
        exact ⟨⟨j + 1, by omega, by go_num, HB, HOO, Lib.hid (by rw [HM'.out, HME.out]; exact HT.out)⟩, by simp [intOf]; omega⟩
    · obtain rfl : j = n2 := by omega
      have HH := Lib.hid (tell_holds HSM.out HOR.out HKP.out)
      have HLE : Hid (tellL l o j = tellL l o l.length) := Lib.hid (by rw [HN2.out])
      have HLM : Hid (LAt wr p2 (tellL l o l.length)) := Lib.hid (by rw [← HLE.out]; exact ERow.lat (s := ⟨p2, j, c2⟩) HT.out)
      have HNM : Hid ((tellL l o l.length).length = j) := Lib.hid (by rw [tell_len (Nat.le_refl _), HN2.out])
      have HAM : Hid (allowed (tellL l o l.length) = true) := Lib.hid (allowed_iff.2 ⟨_, HH.out⟩)
      have HHB : Hid (holdsB (tellL l o l.length) o = true) := Lib.hid (holds_iff.2 HH.out)
      have HOI : Hid (IAt wr p5 o) := Lib.hid (ERow.iat (s := ⟨p5, n5, c5⟩) HOO.out)
      generalize tellL l o l.length = L at HLM HNM HAM HHB
      go_wp2_with fail
      refine (holds_lit HLM.out HNM.out HC2.out HN5.out HOI.out HN5'.out HC5.out HM5.out HHB.out).mono ?_
      rintro e w7 ⟨rfl, hb7⟩
      have HB7 := Lib.hid hb7
      clear hb7
      go_wp2_with fail
      refine (allowed_lit (LAt.bel HLM.out HB7.out) HNM.out HC2.out HN5.out HAM.out).mono ?_
      rintro e w8 ⟨rfl, hb8⟩
      have HB8 := Lib.hid (HB7.out.trans hb8)
      clear hb8
      go_wp2
      go_ret
      exact ⟨rfl, HB.out.trans HB8.out⟩
end Go.Proofs.Ytigefdoejcggpaa
