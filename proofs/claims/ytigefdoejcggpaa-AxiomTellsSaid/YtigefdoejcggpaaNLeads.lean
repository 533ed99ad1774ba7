/- leads: the search, which keeps in a map what was found to lead nowhere. -/
import Derived.Test.YtigefdoejcggpaaNMap
namespace Go.Proofs.Ytigefdoejcggpaa
open Go.RowKit Ax
set_option linter.unusedVariables false
set_option linter.unusedSimpArgs false
theorem ext20 (x y : Value) (W : World) : (Instr.extract (.tuple #[x, y]) 0).run Try.prog W = .ok x W := by kernel_rfl
theorem ext21 (x y : Value) (W : World) : (Instr.extract (.tuple #[x, y]) 1).run Try.prog W = .ok y W := by kernel_rfl
theorem wpList_mapUpd {P : Program} {w w' : World} {ops : Array Oper} {rest : List Oper} {o : Oper} {a : Act} {Q : Exit → Act → World → Prop}
    (hg : o.guard = none) (m x v : Operand) (t : TypeId) (hop : o.op = Op.mapUpdate t m x v) (mv key val : Value)
    (hm : a.eval m = mv) (hx : a.eval x = key) (hv : a.eval v = val) (hrun : (Instr.mapUpdate t mv key val).run P w = .ok () w') (hK : wpList P ops Q rest (a.put o.dst undef) w') : wpList P ops Q (o :: rest) a w := by
  refine wpList_plain hg fun K' hK' => ?_
  unfold Oper.wp
  simp [execOp, hop, hm, hx, hv, hrun, Result.andThen]
  exact hK' _ _ hK
theorem Svg.stays {gm g : Nat} {w w' : World} {o : Obj} (h : Svg gm w w') (hx : w.heap[g]? = some o) (hne : g ≠ gm) : w'.heap[g]? = some o := (h.block g (lt_of_heap hx) hne).trans hx
theorem MapAt.ne {w : World} {gm g : Nat} {l : List Ev} {cs : Array Value} {t : TypeId} {fr : Nat × Nat} (h : MapAt w gm l) (hx : w.heap[g]? = some (.cells cs t fr)) : g ≠ gm := by
  rintro rfl
  obtain ⟨es, clock, hh, _⟩ := h
  rw [hx] at hh
  cases hh
theorem MapAt.bel {w w' : World} {gm : Nat} {l : List Ev} (h : MapAt w gm l) (hb : Bel w w') : MapAt w' gm l := by
  obtain ⟨es, clock, hh, hx⟩ := h
  exact ⟨es, clock, hb.stays hh, hx⟩
theorem MapAt.nec {w : World} {gm b o : Nat} {l : List Ev} {v : Value} (h : MapAt w gm l) (hx : w.cell? ⟨b, o, none⟩ = some v) : b ≠ gm := by
  rintro rfl
  obtain ⟨es, clock, hh, _⟩ := h
  unfold World.cell? at hx
  simp [hh] at hx
theorem LAt.svg {w w' : World} {p : Option Addr} {l : List Ev} {gm : Nat} {L : List Ev} (h : LAt w p l) (hm : MapAt w gm L) (hs : Svg gm w w') : LAt w' p l := fun j x hj => by
  obtain ⟨b, o, h1, h2, h3⟩ := h j x hj
  have hne : b ≠ gm := hm.nec (h3 0 _ rfl)
  exact ⟨b, o, h1, Nat.lt_of_lt_of_le h2 hs.size, fun i v hv => (Sv.cell (S := fun k => k = gm) hs (p := ⟨b, _, none⟩) h2 hne).trans (h3 i v hv)⟩
abbrev LeadsPost (r : Bool) (gm : Nat) (l : List Ev) (w : World) : Ending → World → Prop := fun e w' => e = .returned (.bool r) ∧ Svg gm w w' ∧ MapAt w' gm l
def LeadsAt (l : List Ev) (n c gm : Nat) (f : Nat) : Prop := ∀ (w : World) (p : Option Addr) (h : Nat) (a0 a1 a2 a3 : Int), LAt w p l → MapAt w gm l → h < 256 → (und l ⟨h, a0, a1, a2, a3⟩).length < f →
  Calls Try.prog 39 #[.agg #[.slice p n c, .map (some gm)], .agg #[.int .i64 (h : Int), .int .i64 a0, .int .i64 a1, .int .i64 a2, .int .i64 a3]] w (LeadsPost (leadsB l f ⟨h, a0, a1, a2, a3⟩) gm l w)
theorem LeadsAt.zero (l : List Ev) (n c gm : Nat) : LeadsAt l n c gm 0 := fun w p h a0 a1 a2 a3 _ _ _ h4 => absurd h4 (Nat.not_lt_zero _)
theorem leads_none {l : List Ev} {f : Nat} {s : St} (h : ∀ i : Nat, i < l.length → opn l s i = true → nextB l s i = true → leadsB l f (wth s i (ev l i)) = false) (hw : ∃ i : Nat, i < l.length ∧ opn l s i = true) : leadsB l (f + 1) s = false := by
  refine Bool.eq_false_iff.2 fun c => ?_
  unfold leadsB at c
  simp only [Bool.or_eq_true, List.all_eq_true, List.any_eq_true, List.mem_range, Bool.not_eq_true', Bool.and_eq_true] at c
  rcases c with c | ⟨i, hi, ⟨h1, h2⟩, h3⟩
  · obtain ⟨i, hi, h1⟩ := hw
    rw [c i hi] at h1
    cases h1
  · rw [h i hi h1 h2] at h3
    cases h3
theorem leads_some {l : List Ev} {f : Nat} {s : St} {i : Nat} (hi : i < l.length) (h1 : opn l s i = true) (h2 : nextB l s i = true) (h3 : leadsB l f (wth s i (ev l i)) = true) : leadsB l (f + 1) s = true := by
  unfold leadsB
  simp only [Bool.or_eq_true, List.all_eq_true, List.any_eq_true, List.mem_range, Bool.not_eq_true', Bool.and_eq_true]
  exact .inr ⟨i, hi, ⟨h1, h2⟩, h3⟩
theorem leads_whole {l : List Ev} {f : Nat} {s : St} (h : ∀ i : Nat, i < l.length → opn l s i = false) : leadsB l (f + 1) s = true := by
  unfold leadsB
  simp only [Bool.or_eq_true, List.all_eq_true, List.any_eq_true, List.mem_range, Bool.not_eq_true', Bool.and_eq_true]
  exact .inl h
set_option maxRecDepth 100000 in
set_option maxHeartbeats 4000000 in
theorem LeadsAt.succ {l : List Ev} {n c gm f : Nat} (hr : right l = true) (hn : l.length = n) (hnc : n ≤ c) (IH : LeadsAt l n c gm f) : LeadsAt l n c gm (f + 1) := by
  intro w p h a0 a1 a2 a3 hl hm hh hu
  obtain ⟨hb, hx2, hx3⟩ := box2 w #[.slice p n c, .map (some gm)] 55 #[.int .i64 (h : Int), .int .i64 a0, .int .i64 a1, .int .i64 a2, .int .i64 a3] 58
  have hn8 : n ≤ 8 := by unfold right at hr; simp only [Bool.and_eq_true, decide_eq_true_eq] at hr; omega
  obtain ⟨r, hlr⟩ : ∃ r, leadsB l (f + 1) ⟨h, a0, a1, a2, a3⟩ = r := ⟨_, rfl⟩
  rw [hlr]
  have HR := Lib.hid hlr
  have HRT := Lib.hid hr
  have HU := Lib.hid hu
  have HL := Lib.hid (LAt.bel hl hb)
  have HM := Lib.hid (hm.bel hb)
  have HN := Lib.hid hn
  have HN8 := Lib.hid hn8
  have HNC := Lib.hid hnc
  have HHH := Lib.hid hh
  have HX2 := Lib.hid hx2
  have HX3 := Lib.hid hx3
  have HB := Lib.hid hb
  have HIH := Lib.hid IH
  obtain ⟨bd, hlook0, hdead⟩ := lookup_st (hm.bel hb) ⟨h, a0, a1, a2, a3⟩
  have hlook : (Instr.lookup 53 (.map (some gm)) (.agg #[.int .i64 (h : Int), .int .i64 a0, .int .i64 a1, .int .i64 a2, .int .i64 a3]) true).run Try.prog ((w.alloc (.cells #[.slice p n c, .map (some gm)] 55)).alloc (.cells #[.int .i64 (h : Int), .int .i64 a0, .int .i64 a1, .int .i64 a2, .int .i64 a3] 58)) = .ok (.tuple #[.agg #[], .bool bd]) ((w.alloc (.cells #[.slice p n c, .map (some gm)] 55)).alloc (.cells #[.int .i64 (h : Int), .int .i64 a0, .int .i64 a1, .int .i64 a2, .int .i64 a3] 58)) := hlook0
  have HDD := Lib.hid hdead
  have e0 := ext20
  have e1 := ext21
  clear hl hm hh hu hx2 hx3 hb hr hn hn8 hnc IH hlr hlook0 hdead
  go_enter Try.func39, Try.ntmps39
  go_upto_region 1 with (fail)
  generalize hWW : ((w.alloc (.cells #[.slice p n c, .map (some gm)] 55)).alloc (.cells #[.int .i64 (h : Int), .int .i64 a0, .int .i64 a1, .int .i64 a2, .int .i64 a3] 58)) = W1 at *
  clear hWW
  generalize w.heap.size + 1 = g3 at HX3 ⊢
  generalize w.heap.size = g2 at HX2 ⊢
  have k20 := cell_of_heap HX2.out 0
  have k21 := cell_of_heap HX2.out 1
  have k30 := cell_of_heap HX3.out 0
  have k31 := cell_of_heap HX3.out 1
  have k32 := cell_of_heap HX3.out 2
  have k33 := cell_of_heap HX3.out 3
  have k34 := cell_of_heap HX3.out 4
  simp only [List.getElem?_toArray, List.getElem?_cons_zero, List.getElem?_cons_succ] at k20 k21 k30 k31 k32 k33 k34
  cases bd
  · go_upto_region 5 with (fail)
    have hb := (Bel.refl W1).alloc #[] 65
    generalize hWW : W1.alloc (.cells #[] 65) = W2 at hb ⊢
    clear hWW k20 k21 k30 k31 k32 k33 k34 hlook HDD
    have HX2 := Lib.hid (hb.stays HX2.out)
    have HX3 := Lib.hid (hb.stays HX3.out)
    have HL := Lib.hid (LAt.bel HL.out hb)
    have HM := Lib.hid (HM.out.bel hb)
    have HB := Lib.hid (HB.out.trans hb)
    have HE2 := Lib.hid (HM.out.ne HX2.out)
    have HE3 := Lib.hid (HM.out.ne HX3.out)
    clear hb
    have k20 := cell_of_heap HX2.out 0
    simp only [List.getElem?_toArray, List.getElem?_cons_zero] at k20
    go_wp2
    clear k20
    go_loopw [21, 7] (fun j v wr => ∃ (k : Nat) (z : Bool), k ≤ n ∧ j = .int .i64 k ∧ v = .bool z ∧ Hid (Svg gm W2 wr) ∧ Hid (MapAt wr gm l) ∧ Hid (z = true → ∀ i : Nat, i < k → opn l ⟨h, a0, a1, a2, a3⟩ i = false) ∧ Hid (z = false → ∃ i : Nat, i < k ∧ opn l ⟨h, a0, a1, a2, a3⟩ i = true) ∧ Hid (∀ i : Nat, i < k → opn l ⟨h, a0, a1, a2, a3⟩ i = true → nextB l ⟨h, a0, a1, a2, a3⟩ i = true → leadsB l f (wth ⟨h, a0, a1, a2, a3⟩ i (ev l i)) = false)) (fun j _ _ => n - (intOf j).toNat)
    case atStart => exact ⟨0, true, Nat.zero_le _, rfl, rfl, Lib.hid (Svg.refl _ _), Lib.hid HM.out, Lib.hid (fun _ i hi => by omega), Lib.hid (fun c => by cases c), Lib.hid (fun i hi => by omega)⟩
    case round =>
      obtain ⟨k, z, hk, rfl, rfl, HS, HMR, HZ1, HZ2, HNO⟩ := hrel
      have HX2 := Lib.hid (Svg.stays HS.out HX2.out HE2.out)
      have HX3 := Lib.hid (Svg.stays HS.out HX3.out HE3.out)
      have HLR := Lib.hid (LAt.svg HL.out HM.out HS.out)
      by_cases hlt : k < n
      · obtain ⟨b, ol, rfl, hbl, hcl⟩ := LAt.get HLR.out (i0 := k) (by have := HN.out; omega)
        obtain ⟨c0, c1, c2, c3⟩ := hcl k (by have := HN.out; omega)
        have HKN : Hid (k < n) := Lib.hid hlt
        have HK8 : Hid (k < 8) := Lib.hid (by have := HN8.out; omega)
        have hk2 : (k : Int) < n := by omega
        have hn8 : n ≤ 8 := HN8.out
        obtain ⟨u, hu⟩ : ∃ u, isAcc (ev l k) = u := ⟨_, rfl⟩
        obtain ⟨t, ht⟩ : ∃ t, h.testBit k = t := ⟨_, rfl⟩
        obtain ⟨nx, hnx⟩ : ∃ nx, nextB l ⟨h, a0, a1, a2, a3⟩ k = nx := ⟨_, rfl⟩
        obtain ⟨⟨h', a0', a1', a2', a3'⟩, hq⟩ : ∃ s', wth ⟨h, a0, a1, a2, a3⟩ k (ev l k) = s' := ⟨_, rfl⟩
        have HNX := Lib.hid hnx
        have HUU := Lib.hid hu
        have HT := Lib.hid ht
        have HOP : Hid (opn l ⟨h, a0, a1, a2, a3⟩ k = (u && !t)) := Lib.hid (by unfold opn; rw [hu, show bit ⟨h, a0, a1, a2, a3⟩ k = t from ht])
        have HU3 : Hid (isAcc ((ev l k).1, (ev l k).2.1, (ev l k).2.2.1, (ev l k).2.2.2) = u) := Lib.hid hu
        have HQ2 := Lib.hid hq
        have HQ : Hid (wth ⟨h, a0, a1, a2, a3⟩ k ((ev l k).1, (ev l k).2.1, (ev l k).2.2.1, (ev l k).2.2.2) = ⟨h', a0', a1', a2', a3'⟩) := Lib.hid hq
        have HH2 : Hid (h' < 256) := Lib.hid (by
          have : h' = h ||| 1 <<< k := by have := congrArg St.has hq; exact this.symm
          rw [this]
          exact has_lt HHH.out HK8.out)
        have HAT : Hid (u = true → 0 ≤ (ev l k).2.2.1 ∧ (ev l k).2.2.1 < 4) := Lib.hid (fun hut => acc_at (right_ev HRT.out (plc_of (by have := HN.out; omega) (hu.trans hut))) (hu.trans hut))
        have HAS : Hid ((ev l k).2.1 = 2 → 0 ≤ (ev l k).2.2.1 ∧ (ev l k).2.2.1 < 4) := Lib.hid (fun h2 => HAT.out (by rw [← hu]; unfold isAcc; simp [h2]))
        generalize hx0 : (ev l k).1 = x0 at c0 HU3 HQ
        generalize hx1 : (ev l k).2.1 = x1 at c1 HU3 HQ HAS
        generalize hx2 : (ev l k).2.2.1 = x2 at c2 HU3 HQ HAS
        generalize hx3 : (ev l k).2.2.2 = x3 at c3 HU3 HQ
        clear hx0 hx1 hx2 hx3
        obtain ⟨hb9, hx9⟩ := box1 wr #[.int .i64 x0, .int .i64 x1, .int .i64 x2, .int .i64 x3] 26
        have HX9 := Lib.hid hx9
        have HB9 := Lib.hid hb9
        clear hcl hbl hu ht hnx hq hx9 hb9
        go_upto_region 8 with (fail)
        generalize hWW : wr.alloc (.cells #[.int .i64 x0, .int .i64 x1, .int .i64 x2, .int .i64 x3] 26) = W5 at HB9 HX9 ⊢
        clear hWW c0 c1 c2 c3
        generalize wr.heap.size = g9 at HX9 ⊢
        have HM5 := Lib.hid (HMR.out.bel HB9.out)
        have HE9 := Lib.hid (HM5.out.ne HX9.out)
        have k90 := cell_of_heap HX9.out 0
        have k91 := cell_of_heap HX9.out 1
        have k92 := cell_of_heap HX9.out 2
        have k93 := cell_of_heap HX9.out 3
        simp only [List.getElem?_toArray, List.getElem?_cons_zero, List.getElem?_cons_succ] at k90 k91 k92 k93
        go_wp2_with fail
        refine (isAcc_lit HU3.out _).mono ?_
        rintro e W6 ⟨rfl, hb6⟩
        have HB6 := Lib.hid (HB9.out.trans hb6)
        have HX9 := Lib.hid (hb6.stays HX9.out)
        have HX2 := Lib.hid (HB6.out.stays HX2.out)
        have HX3 := Lib.hid (HB6.out.stays HX3.out)
        clear hb6 k90 k91 k92 k93
        have k30 := cell_of_heap HX3.out 0
        have k31 := cell_of_heap HX3.out 1
        have k32 := cell_of_heap HX3.out 2
        have k33 := cell_of_heap HX3.out 3
        have k34 := cell_of_heap HX3.out 4
        simp only [List.getElem?_toArray, List.getElem?_cons_zero, List.getElem?_cons_succ] at k30 k31 k32 k33 k34
        cases u
        · have HO : Hid (opn l ⟨h, a0, a1, a2, a3⟩ k = false) := Lib.hid (by rw [HOP.out]; rfl)
          go_wp2
          exact ⟨⟨k + 1, z, by omega, by go_num, rfl, Lib.hid (HS.out.trans (HB6.out.svg gm)), Lib.hid (HMR.out.bel HB6.out), Lib.hid (fun c i hi => by
            by_cases e : i = k
            · subst e; exact HO.out
            · exact HZ1.out c i (by omega)), Lib.hid (fun c => by
            obtain ⟨i, hi, ho⟩ := HZ2.out c
            exact ⟨i, by omega, ho⟩), Lib.hid (fun i hi ho => by
            by_cases e : i = k
            · subst e; rw [HO.out] at ho; cases ho
            · exact HNO.out i (by omega) ho)⟩, by simp [intOf]; omega⟩
        go_wp2_with fail
        refine (is_lit HHH.out HK8.out HT.out _).mono ?_
        rintro e W7 ⟨rfl, hb7⟩
        have HB7 := Lib.hid (HB6.out.trans hb7)
        have HX9 := Lib.hid (hb7.stays HX9.out)
        have HX2 := Lib.hid (hb7.stays HX2.out)
        have HX3 := Lib.hid (hb7.stays HX3.out)
        clear hb7 k30 k31 k32 k33 k34
        cases t
        · have HO : Hid (opn l ⟨h, a0, a1, a2, a3⟩ k = true) := Lib.hid (by rw [HOP.out]; rfl)
          have HL7 := Lib.hid (LAt.bel HLR.out HB7.out)
          have HM7 := Lib.hid (HMR.out.bel HB7.out)
          have HAT := Lib.hid (HAT.out (by trivial))
          have HU2 : Hid ((und l ⟨h', a0', a1', a2', a3'⟩).length < f) := Lib.hid (by
            have h1 := und_lt (s := ⟨h, a0, a1, a2, a3⟩) (i := k) (by have := HN.out; omega) HO.out (ev l k)
            rw [HQ2.out] at h1
            have := HU.out
            omega)
          have HKEEP : Hid (∀ w', Bel W7 w' → w'.cell? ⟨g2, 0, none⟩ = some (.slice (some ⟨b, ol, none⟩) n c) ∧ w'.cell? ⟨g2, 1, none⟩ = some (.map (some gm)) ∧ w'.cell? ⟨g3, 0, none⟩ = some (.int .i64 (h : Int)) ∧ w'.cell? ⟨g3, 1, none⟩ = some (.int .i64 a0) ∧ w'.cell? ⟨g3, 2, none⟩ = some (.int .i64 a1) ∧ w'.cell? ⟨g3, 3, none⟩ = some (.int .i64 a2) ∧ w'.cell? ⟨g3, 4, none⟩ = some (.int .i64 a3) ∧ w'.cell? ⟨g9, 0, none⟩ = some (.int .i64 x0) ∧ w'.cell? ⟨g9, 1, none⟩ = some (.int .i64 x1) ∧ w'.cell? ⟨g9, 2, none⟩ = some (.int .i64 x2) ∧ w'.cell? ⟨g9, 3, none⟩ = some (.int .i64 x3)) := Lib.hid (fun w' hk => ⟨cell_of_heap (hk.stays HX2.out) 0, cell_of_heap (hk.stays HX2.out) 1, cell_of_heap (hk.stays HX3.out) 0, cell_of_heap (hk.stays HX3.out) 1, cell_of_heap (hk.stays HX3.out) 2, cell_of_heap (hk.stays HX3.out) 3, cell_of_heap (hk.stays HX3.out) 4, cell_of_heap (hk.stays HX9.out) 0, cell_of_heap (hk.stays HX9.out) 1, cell_of_heap (hk.stays HX9.out) 2, cell_of_heap (hk.stays HX9.out) 3⟩)
          have HBC : Hid (Bel W7 W7.drew) := Lib.hid (Bel.refl W7).drew
          have HKEEP2 : Hid (∀ w' w'', Bel W7 w' → Svg gm w' w'' → w''.cell? ⟨g2, 0, none⟩ = some (.slice (some ⟨b, ol, none⟩) n c) ∧ w''.cell? ⟨g2, 1, none⟩ = some (.map (some gm)) ∧ w''.cell? ⟨g3, 0, none⟩ = some (.int .i64 (h : Int)) ∧ w''.cell? ⟨g3, 1, none⟩ = some (.int .i64 a0) ∧ w''.cell? ⟨g3, 2, none⟩ = some (.int .i64 a1) ∧ w''.cell? ⟨g3, 3, none⟩ = some (.int .i64 a2) ∧ w''.cell? ⟨g3, 4, none⟩ = some (.int .i64 a3) ∧ w''.cell? ⟨g9, 0, none⟩ = some (.int .i64 x0) ∧ w''.cell? ⟨g9, 1, none⟩ = some (.int .i64 x1) ∧ w''.cell? ⟨g9, 2, none⟩ = some (.int .i64 x2) ∧ w''.cell? ⟨g9, 3, none⟩ = some (.int .i64 x3)) := Lib.hid (fun w' w'' hk hs => ⟨cell_of_heap (Svg.stays hs (hk.stays HX2.out) HE2.out) 0, cell_of_heap (Svg.stays hs (hk.stays HX2.out) HE2.out) 1, cell_of_heap (Svg.stays hs (hk.stays HX3.out) HE3.out) 0, cell_of_heap (Svg.stays hs (hk.stays HX3.out) HE3.out) 1, cell_of_heap (Svg.stays hs (hk.stays HX3.out) HE3.out) 2, cell_of_heap (Svg.stays hs (hk.stays HX3.out) HE3.out) 3, cell_of_heap (Svg.stays hs (hk.stays HX3.out) HE3.out) 4, cell_of_heap (Svg.stays hs (hk.stays HX9.out) HE9.out) 0, cell_of_heap (Svg.stays hs (hk.stays HX9.out) HE9.out) 1, cell_of_heap (Svg.stays hs (hk.stays HX9.out) HE9.out) 2, cell_of_heap (Svg.stays hs (hk.stays HX9.out) HE9.out) 3⟩)
          cases nx
          · go_upto_region 10 with (fail)
            refine wp_region_held_drew (S := (fun w' => w'.cell? ⟨g2, 0, none⟩ = some (.slice (some ⟨b, ol, none⟩) n c) ∧ w'.cell? ⟨g2, 1, none⟩ = some (.map (some gm)) ∧ w'.cell? ⟨g3, 0, none⟩ = some (.int .i64 (h : Int)) ∧ w'.cell? ⟨g3, 1, none⟩ = some (.int .i64 a0) ∧ w'.cell? ⟨g3, 2, none⟩ = some (.int .i64 a1) ∧ w'.cell? ⟨g3, 3, none⟩ = some (.int .i64 a2) ∧ w'.cell? ⟨g3, 4, none⟩ = some (.int .i64 a3) ∧ w'.cell? ⟨g9, 0, none⟩ = some (.int .i64 x0) ∧ w'.cell? ⟨g9, 1, none⟩ = some (.int .i64 x1) ∧ w'.cell? ⟨g9, 2, none⟩ = some (.int .i64 x2) ∧ w'.cell? ⟨g9, 3, none⟩ = some (.int .i64 x3))) (by kernel_rfl) (HKEEP.out _ ((Bel.refl W7).drew)) (fun hS0 => ?_)
            refine takeD 34 (i := 0) (v := ?v1) rfl rfl (by kernel_rfl) (by kernel_rfl) (by kernel_rfl) (fun _ _ _ h => h) (by kernel_rfl) ?hy1 hS0 ?rest1
            case hy1 => (intro w0 hSw; obtain ⟨s0, s1, s2, s3, s4, s5, s6, s7, s8, s9, s10⟩ := hSw; first | (go_simp; done) | (go_simp; with_reducible rfl))
            simp only [List.setIfInBounds_toArray, List.set_cons_zero, List.set_cons_succ]
            refine takeD 35 (i := 1) (v := ?v2) rfl rfl (by kernel_rfl) (by kernel_rfl) (by kernel_rfl) (fun _ _ _ h => h) (by kernel_rfl) ?hy2 hS0 ?rest2
            case hy2 => (intro w0 hSw; obtain ⟨s0, s1, s2, s3, s4, s5, s6, s7, s8, s9, s10⟩ := hSw; first | (go_simp; done) | (go_simp; with_reducible rfl))
            simp only [List.setIfInBounds_toArray, List.set_cons_zero, List.set_cons_succ]
            refine takeD 36 (i := 2) (v := ?v3) rfl rfl (by kernel_rfl) (by kernel_rfl) (by kernel_rfl) (fun _ _ _ h => h) (by kernel_rfl) ?hy3 hS0 ?rest3
            case hy3 => (intro w0 hSw; obtain ⟨s0, s1, s2, s3, s4, s5, s6, s7, s8, s9, s10⟩ := hSw; first | (go_simp; done) | (go_simp; with_reducible rfl))
            simp only [List.setIfInBounds_toArray, List.set_cons_zero, List.set_cons_succ]
            refine onlyD 37 (i := 3) rfl rfl (by kernel_rfl) (by kernel_rfl) (fun K hK => ?_)
            go_simp
            go_at_call 50
            refine (may_lit (c := c) (gm := gm) (LAt.bel HL7.out ((Bel.refl W7).drew)) HN.out HNC.out HN8.out HHH.out HKN.out HAT.out HNX.out).mono ?_
            rintro e whb11 ⟨rfl, hb11⟩
            have hS1 := HKEEP.out _ (((Bel.refl W7).drew).trans hb11)
            refine hK.out _ _ hS1 (fun _ => ?_)
            clear hK K
            simp only [List.setIfInBounds_toArray, List.set_cons_zero, List.set_cons_succ]
            refine takeD 38 (i := 4) (v := ?v4) rfl rfl (by kernel_rfl) (by kernel_rfl) (by kernel_rfl) (fun _ _ _ h => h) (by kernel_rfl) ?hy4 hS1 ?rest4
            case hy4 => (intro w0 hSw; obtain ⟨s0, s1, s2, s3, s4, s5, s6, s7, s8, s9, s10⟩ := hSw; first | (go_simp; done) | (go_simp; with_reducible rfl))
            simp only [List.setIfInBounds_toArray, List.set_cons_zero, List.set_cons_succ]
            refine skipD 39 (i := 5) rfl rfl (by kernel_rfl) (by kernel_rfl) (by kernel_rfl) (fun _ _ _ h => h) (by kernel_rfl) hS1 ?_
            simp only [List.setIfInBounds_toArray, List.set_cons_zero, List.set_cons_succ]
            refine skipD 40 (i := 6) rfl rfl (by kernel_rfl) (by kernel_rfl) (by kernel_rfl) (fun _ _ _ h => h) (by kernel_rfl) hS1 ?_
            simp only [List.setIfInBounds_toArray, List.set_cons_zero, List.set_cons_succ]
            refine skipD 41 (i := 7) rfl rfl (by kernel_rfl) (by kernel_rfl) (by kernel_rfl) (fun _ _ _ h => h) (by kernel_rfl) hS1 ?_
            simp only [List.setIfInBounds_toArray, List.set_cons_zero, List.set_cons_succ]
            refine skipD 42 (i := 8) rfl rfl (by kernel_rfl) (by kernel_rfl) (by kernel_rfl) (fun _ _ _ h => h) (by kernel_rfl) hS1 ?_
            simp only [List.setIfInBounds_toArray, List.set_cons_zero, List.set_cons_succ]
            refine skipD 43 (i := 9) rfl rfl (by kernel_rfl) (by kernel_rfl) (by kernel_rfl) (fun _ _ _ h => h) (by kernel_rfl) hS1 ?_
            simp only [List.setIfInBounds_toArray, List.set_cons_zero, List.set_cons_succ]
            refine skipD 44 (i := 10) rfl rfl (by kernel_rfl) (by kernel_rfl) (by kernel_rfl) (fun _ _ _ h => h) (by kernel_rfl) hS1 ?_
            simp only [List.setIfInBounds_toArray, List.set_cons_zero, List.set_cons_succ]
            refine takeD 45 (i := 11) (v := ?v5) rfl rfl (by kernel_rfl) (by kernel_rfl) (by kernel_rfl) (fun _ _ _ h => h) (by kernel_rfl) ?hy5 hS1 ?rest5
            case hy5 => (intro w0 hSw; obtain ⟨s0, s1, s2, s3, s4, s5, s6, s7, s8, s9, s10⟩ := hSw; first | (go_simp; done) | (go_simp; with_reducible rfl))
            simp only [List.setIfInBounds_toArray, List.set_cons_zero, List.set_cons_succ]
            refine wpAnyH_done (by kernel_rfl) ?_ _
            have HBC := Lib.hid (((Bel.refl W7).drew).trans hb11)
            clear hb11 hS0 hS1
            go_wp2
            exact ⟨⟨k + 1, false, by omega, by go_num, rfl, Lib.hid (HS.out.trans ((HB7.out.trans HBC.out).svg gm)), Lib.hid (HMR.out.bel (HB7.out.trans HBC.out)), Lib.hid (fun c => by cases c), Lib.hid (fun _ => ⟨k, by omega, HO.out⟩), Lib.hid (fun i hi ho hx => by
              by_cases e : i = k
              · subst e; rw [HNX.out] at hx; cases hx
              · exact HNO.out i (by omega) ho hx)⟩, by simp [intOf]; omega⟩
          · go_upto_region 10 with (fail)
            obtain ⟨lv, hlv⟩ : ∃ v, leadsB l f ⟨h', a0', a1', a2', a3'⟩ = v := ⟨_, rfl⟩
            have HIH : Hid (∀ (w : World) (p : Option Addr) (h : Nat) (a0 a1 a2 a3 : Int), LAt w p l → MapAt w gm l → h < 256 → (und l ⟨h, a0, a1, a2, a3⟩).length < f → Calls Try.prog 39 #[.agg #[.slice p n c, .map (some gm)], .agg #[.int .i64 (h : Int), .int .i64 a0, .int .i64 a1, .int .i64 a2, .int .i64 a3]] w (LeadsPost (leadsB l f ⟨h, a0, a1, a2, a3⟩) gm l w)) := Lib.hid HIH.out
            have HLV := Lib.hid hlv
            clear hlv
            refine wp_region_held_drew (S := (fun w' => w'.cell? ⟨g2, 0, none⟩ = some (.slice (some ⟨b, ol, none⟩) n c) ∧ w'.cell? ⟨g2, 1, none⟩ = some (.map (some gm)) ∧ w'.cell? ⟨g3, 0, none⟩ = some (.int .i64 (h : Int)) ∧ w'.cell? ⟨g3, 1, none⟩ = some (.int .i64 a0) ∧ w'.cell? ⟨g3, 2, none⟩ = some (.int .i64 a1) ∧ w'.cell? ⟨g3, 3, none⟩ = some (.int .i64 a2) ∧ w'.cell? ⟨g3, 4, none⟩ = some (.int .i64 a3) ∧ w'.cell? ⟨g9, 0, none⟩ = some (.int .i64 x0) ∧ w'.cell? ⟨g9, 1, none⟩ = some (.int .i64 x1) ∧ w'.cell? ⟨g9, 2, none⟩ = some (.int .i64 x2) ∧ w'.cell? ⟨g9, 3, none⟩ = some (.int .i64 x3))) (by kernel_rfl) (HKEEP.out _ ((Bel.refl W7).drew)) (fun hS0 => ?_)
            refine takeD 34 (i := 0) (v := ?v6) rfl rfl (by kernel_rfl) (by kernel_rfl) (by kernel_rfl) (fun _ _ _ h => h) (by kernel_rfl) ?hy6 hS0 ?rest6
            case hy6 => (intro w0 hSw; obtain ⟨s0, s1, s2, s3, s4, s5, s6, s7, s8, s9, s10⟩ := hSw; first | (go_simp; done) | (go_simp; with_reducible rfl))
            simp only [List.setIfInBounds_toArray, List.set_cons_zero, List.set_cons_succ]
            refine takeD 35 (i := 1) (v := ?v7) rfl rfl (by kernel_rfl) (by kernel_rfl) (by kernel_rfl) (fun _ _ _ h => h) (by kernel_rfl) ?hy7 hS0 ?rest7
            case hy7 => (intro w0 hSw; obtain ⟨s0, s1, s2, s3, s4, s5, s6, s7, s8, s9, s10⟩ := hSw; first | (go_simp; done) | (go_simp; with_reducible rfl))
            simp only [List.setIfInBounds_toArray, List.set_cons_zero, List.set_cons_succ]
            refine takeD 36 (i := 2) (v := ?v8) rfl rfl (by kernel_rfl) (by kernel_rfl) (by kernel_rfl) (fun _ _ _ h => h) (by kernel_rfl) ?hy8 hS0 ?rest8
            case hy8 => (intro w0 hSw; obtain ⟨s0, s1, s2, s3, s4, s5, s6, s7, s8, s9, s10⟩ := hSw; first | (go_simp; done) | (go_simp; with_reducible rfl))
            simp only [List.setIfInBounds_toArray, List.set_cons_zero, List.set_cons_succ]
            refine onlyD 37 (i := 3) rfl rfl (by kernel_rfl) (by kernel_rfl) (fun K hK => ?_)
            go_simp
            go_at_call 50
            refine (may_lit (c := c) (gm := gm) (LAt.bel HL7.out ((Bel.refl W7).drew)) HN.out HNC.out HN8.out HHH.out HKN.out HAT.out HNX.out).mono ?_
            rintro e whb11 ⟨rfl, hb11⟩
            have hS1 := HKEEP.out _ (((Bel.refl W7).drew).trans hb11)
            refine hK.out _ _ hS1 (fun _ => ?_)
            clear hK K
            simp only [List.setIfInBounds_toArray, List.set_cons_zero, List.set_cons_succ]
            refine takeD 38 (i := 4) (v := ?v9) rfl rfl (by kernel_rfl) (by kernel_rfl) (by kernel_rfl) (fun _ _ _ h => h) (by kernel_rfl) ?hy9 hS1 ?rest9
            case hy9 => (intro w0 hSw; obtain ⟨s0, s1, s2, s3, s4, s5, s6, s7, s8, s9, s10⟩ := hSw; first | (go_simp; done) | (go_simp; with_reducible rfl))
            simp only [List.setIfInBounds_toArray, List.set_cons_zero, List.set_cons_succ]
            refine takeD 39 (i := 5) (v := ?v10) rfl rfl (by kernel_rfl) (by kernel_rfl) (by kernel_rfl) (fun _ _ _ h => h) (by kernel_rfl) ?hy10 hS1 ?rest10
            case hy10 => (intro w0 hSw; obtain ⟨s0, s1, s2, s3, s4, s5, s6, s7, s8, s9, s10⟩ := hSw; first | (go_simp; done) | (go_simp; with_reducible rfl))
            simp only [List.setIfInBounds_toArray, List.set_cons_zero, List.set_cons_succ]
            refine takeD 40 (i := 6) (v := ?v11) rfl rfl (by kernel_rfl) (by kernel_rfl) (by kernel_rfl) (fun _ _ _ h => h) (by kernel_rfl) ?hy11 hS1 ?rest11
            case hy11 => (intro w0 hSw; obtain ⟨s0, s1, s2, s3, s4, s5, s6, s7, s8, s9, s10⟩ := hSw; first | (go_simp; done) | (go_simp; with_reducible rfl))
            simp only [List.setIfInBounds_toArray, List.set_cons_zero, List.set_cons_succ]
            refine takeD 41 (i := 7) (v := ?v12) rfl rfl (by kernel_rfl) (by kernel_rfl) (by kernel_rfl) (fun _ _ _ h => h) (by kernel_rfl) ?hy12 hS1 ?rest12
            case hy12 => (intro w0 hSw; obtain ⟨s0, s1, s2, s3, s4, s5, s6, s7, s8, s9, s10⟩ := hSw; first | (go_simp; done) | (go_simp; with_reducible rfl))
            simp only [List.setIfInBounds_toArray, List.set_cons_zero, List.set_cons_succ]
            refine takeD 42 (i := 8) (v := ?v13) rfl rfl (by kernel_rfl) (by kernel_rfl) (by kernel_rfl) (fun _ _ _ h => h) (by kernel_rfl) ?hy13 hS1 ?rest13
            case hy13 => (intro w0 hSw; obtain ⟨s0, s1, s2, s3, s4, s5, s6, s7, s8, s9, s10⟩ := hSw; first | (go_simp; done) | (go_simp; with_reducible rfl))
            simp only [List.setIfInBounds_toArray, List.set_cons_zero, List.set_cons_succ]
            refine onlyD 43 (i := 9) rfl rfl (by kernel_rfl) (by kernel_rfl) (fun K hK => ?_)
            go_simp
            go_at_call 51
            refine (with_lit HHH.out HK8.out HAS.out HQ.out _).mono ?_
            rintro e whb12 ⟨rfl, hb12⟩
            have hS2 := HKEEP.out _ ((((Bel.refl W7).drew).trans hb11).trans hb12)
            refine hK.out _ _ hS2 (fun _ => ?_)
            clear hK K
            simp only [List.setIfInBounds_toArray, List.set_cons_zero, List.set_cons_succ]
            refine onlyD 44 (i := 10) rfl rfl (by kernel_rfl) (by kernel_rfl) (fun K hK => ?_)
            go_simp
            go_at_call 39
            refine (HIH.out _ _ h' a0' a1' a2' a3' (LAt.bel HL7.out ((((Bel.refl W7).drew).trans hb11).trans hb12)) (HM7.out.bel ((((Bel.refl W7).drew).trans hb11).trans hb12)) HH2.out HU2.out).mono ?_
            rintro e whb13 ⟨rfl, hb13, hm13⟩
            have hS3 := HKEEP2.out _ _ (((((Bel.refl W7).drew).trans hb11).trans hb12)) hb13
            refine hK.out _ _ hS3 (fun _ => ?_)
            clear hK K
            simp only [List.setIfInBounds_toArray, List.set_cons_zero, List.set_cons_succ]
            refine takeD 45 (i := 11) (v := ?v14) rfl rfl (by kernel_rfl) (by kernel_rfl) (by kernel_rfl) (fun _ _ _ h => h) (by kernel_rfl) ?hy14 hS3 ?rest14
            case hy14 => (intro w0 hSw; obtain ⟨s0, s1, s2, s3, s4, s5, s6, s7, s8, s9, s10⟩ := hSw; first | (go_simp; done) | (go_simp; with_reducible rfl))
            simp only [List.setIfInBounds_toArray, List.set_cons_zero, List.set_cons_succ]
            refine wpAnyH_done (by kernel_rfl) ?_ _
            have HSV := Lib.hid (Svg.trans (Bel.svg (((((Bel.refl W7).drew).trans hb11).trans hb12)) gm) hb13)
            have HM8 := Lib.hid hm13
            clear hb11 hb12 hb13 hS0 hS1 hS2 hS3 hm13
            have hlv := HLV.out
            rw [hlv]
            cases lv
            · clear hlv
              go_wp2
              exact ⟨⟨k + 1, false, by omega, by go_num, rfl, Lib.hid (HS.out.trans ((HB7.out.svg gm).trans HSV.out)), HM8, Lib.hid (fun c => by cases c), Lib.hid (fun _ => ⟨k, by omega, HO.out⟩), Lib.hid (fun i hi ho hx => by
                by_cases e : i = k
                · subst e; rw [HQ2.out]; exact HLV.out
                · exact HNO.out i (by omega) ho hx)⟩, by simp [intOf]; omega⟩
            · obtain rfl : r = true := by
                rw [← HR.out]
                exact leads_some (by have := HN.out; have := HKN.out; omega) HO.out HNX.out (by rw [HQ2.out]; exact hlv)
              clear hlv
              go_wp2
              go_ret
              exact ⟨rfl, ((HB.out.svg gm).trans HS.out).trans ((HB7.out.svg gm).trans HSV.out), HM8.out⟩
        · have HO : Hid (opn l ⟨h, a0, a1, a2, a3⟩ k = false) := Lib.hid (by rw [HOP.out]; rfl)
          go_wp2
          exact ⟨⟨k + 1, z, by omega, by go_num, rfl, Lib.hid (HS.out.trans (HB7.out.svg gm)), Lib.hid (HMR.out.bel HB7.out), Lib.hid (fun c i hi => by
            by_cases e : i = k
            · subst e; exact HO.out
            · exact HZ1.out c i (by omega)), Lib.hid (fun c => by
            obtain ⟨i, hi, ho⟩ := HZ2.out c
            exact ⟨i, by omega, ho⟩), Lib.hid (fun i hi ho => by
            by_cases e : i = k
            · subst e; rw [HO.out] at ho; cases ho
            · exact HNO.out i (by omega) ho)⟩, by simp [intOf]; omega⟩
      · obtain rfl : k = n := by omega
        have k21 := cell_of_heap HX2.out 1
        have k30 := cell_of_heap HX3.out 0
        have k31 := cell_of_heap HX3.out 1
        have k32 := cell_of_heap HX3.out 2
        have k33 := cell_of_heap HX3.out 3
        have k34 := cell_of_heap HX3.out 4
        simp only [List.getElem?_toArray, List.getElem?_cons_zero, List.getElem?_cons_succ] at k21 k30 k31 k32 k33 k34
        cases z
        · obtain rfl : r = false := by
            rw [← HR.out]
            refine leads_none (fun i hi => HNO.out i (by have := HN.out; omega)) ?_
            obtain ⟨i, hi, ho⟩ := HZ2.out (by trivial)
            exact ⟨i, by have := HN.out; omega, ho⟩
          have hdead : Dead l ⟨h, a0, a1, a2, a3⟩ := fun o ho => by
            have := (leads_fuel HU.out).2 ⟨o, ho⟩
            rw [HR.out] at this
            cases this
          obtain ⟨w9, hupd0, hm9, hs9⟩ := update_st HMR.out hdead
          have HM9 := Lib.hid hm9
          have HS9 := Lib.hid hs9
          have HUP : Hid ((Instr.mapUpdate 53 (.map (some gm)) (.agg #[.int .i64 (h : Int), .int .i64 a0, .int .i64 a1, .int .i64 a2, .int .i64 a3]) (.agg #[])).run Try.prog wr = .ok () w9) := Lib.hid hupd0
          clear hupd0 hm9 hs9 hdead
          go_wp2_with (at_mapUpdate; refine wpList_mapUpd rfl (.tmp 49) (.tmp 50) (.tmp 51) 53 rfl _ _ _ rfl rfl rfl HUP.out ?_)
          go_ret
          exact ⟨rfl, ((HB.out.svg gm).trans HS.out).trans HS9.out, HM9.out⟩
        · obtain rfl : r = true := by
            rw [← HR.out]
            exact leads_whole fun i hi => HZ1.out (by trivial) i (by have := HN.out; omega)
          go_wp2
          go_ret
          exact ⟨rfl, (HB.out.svg gm).trans HS.out, HMR.out⟩
  · obtain rfl : r = false := by
      rw [← HR.out]
      refine Bool.eq_false_iff.2 fun c => ?_
      obtain ⟨o, ho⟩ := run_of c
      exact HDD.out rfl o ho
    go_wp2
    go_ret
    exact ⟨rfl, ((HB.out.alloc _ _).svg _), HM.out.bel ((Bel.refl _).alloc _ _)⟩
end Go.Proofs.Ytigefdoejcggpaa
