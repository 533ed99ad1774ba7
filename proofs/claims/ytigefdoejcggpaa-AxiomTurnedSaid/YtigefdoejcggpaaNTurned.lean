/- AxiomTurned's walk. -/
import Derived.Test.YtigefdoejcggpaaNSet
namespace Go.Proofs.Ytigefdoejcggpaa
open Go.RowKit Ax
set_option linter.unusedVariables false
set_option linter.unusedSimpArgs false
def mixT (a b : Int) (l : List Ev) (j : Nat) : List Ev := (l.take j).map (tEv a b) ++ l.drop j
set_option maxRecDepth 100000 in
set_option maxHeartbeats 4000000 in
theorem turned_walk {w : World} {p : Option Addr} {raw : List Q4} {n c : Nat} (hl : LAt w p raw) (hn : raw.length = n) (hw : ∀ x ∈ raw, in4 x) {ah aw : Int} (hah : inInt ah) (haw : inInt aw) :
    Calls Try.prog 8 #[.slice p n c, .int .i64 ah, .int .i64 aw] w (OneB true w) := by
  have HAH := Lib.hid hah
  have HAW := Lib.hid haw
  clear hah haw
  have HL := Lib.hid hl
  have HN := Lib.hid hn
  have HW := Lib.hid hw
  clear hl hn hw
  go_enter Try.func8, Try.ntmps8
  go_wp2_with fail
  refine (awake_any _).mono ?_
  rintro e wa ⟨rfl, hba⟩
  have HBA := Lib.hid hba
  clear hba
  go_wp2_with fail
  refine (fit_lit (LAt.bel HL.out HBA.out) HN.out HW.out).mono ?_
  rintro e wf ⟨p2, n2, c2, rfl, hbf, hef⟩
  have HSM := Lib.hid (fit_small raw)
  generalize fitV raw = l at hef HSM
  have HWF := Lib.hid (HBA.out.trans hbf)
  have HE := Lib.hid hef
  have HN2 : Hid (l.length = n2) := Lib.hid (by have := ERow.n (s := ⟨p2, n2, c2⟩) hef; exact this.symm)
  have HC2 : Hid (n2 ≤ c2) := Lib.hid (ERow.c (s := ⟨p2, n2, c2⟩) hef)
  have hn6 : n2 ≤ 6 := by have := HN2.out; have := HSM.out.len; omega
  have HN5 : Hid (n2 ≤ 5000) := Lib.hid (by omega)
  have HL2 := Lib.hid (ERow.lat (s := ⟨p2, n2, c2⟩) hef)
  clear hbf hef HL HW HN
  obtain ⟨ya, hya⟩ : ∃ y, pick ah 4 = y := ⟨_, rfl⟩
  obtain ⟨yb, hyb⟩ : ∃ y, pick aw 4 = y := ⟨_, rfl⟩
  have hab := pick_bd ah (n := 4) (by decide)
  have hbb := pick_bd aw (n := 4) (by decide)
  rw [hya] at hab
  rw [hyb] at hbb
  have HYA := Lib.hid hya
  have HYB := Lib.hid hyb
  have HAB := Lib.hid hab
  have HBB := Lib.hid hbb
  clear hya hyb hab hbb
  obtain ⟨v3, w3, hr3, ho3, hb3⟩ := clone_new evTy (w := wf) (src := p2) (m := n2) (c := c2) HN2.out HL2.out (by omega)
  obtain ⟨p3, c3, e3, -, -⟩ := ERow.form encQ_len ho3
  rw [HN2.out] at e3
  subst e3
  have HR3 := Lib.hid hr3
  have HO3 := Lib.hid ho3
  have HB3 := Lib.hid hb3
  clear hr3 ho3 hb3
  go_wp2_with (at_builtin; refine wpList_app rfl (.const (.slice none 0 0)) (.tmp 14) 22 rfl _ _ _ (by rfl) (by rfl) HR3.out ?_)
  go_loopw [10] (fun i wr => ∃ j : Nat, j ≤ n2 ∧ i = .int .i64 j ∧ Hid (Bel wf wr) ∧ Hid (ERow encQ 26 4 wr wf.heap.size (.slice p3 n2 c3) (mixT ya yb l j))) (fun i _ => n2 - (intOf i).toNat)
  case atStart => exact ⟨0, Nat.zero_le _, rfl, Lib.hid HB3.out, Lib.hid HO3.out⟩
  case round =>
    obtain ⟨j, hj, rfl, HB, HO⟩ := hrel
    by_cases hlt : j < n2
    · have hjl : j < l.length := by have := HN2.out; omega
      have HJL := Lib.hid hjl
      have hta : ((l.take j).map (tEv ya yb)).length = j := by rw [List.length_map, List.length_take]; omega
      have hx := get_mid (l := l) hta (get_ev hjl)
      have HBD := Lib.hid (HSM.out.bd _ (List.mem_of_getElem? (get_ev hjl)))
      have HSTEP : Hid (∀ x, x = tEv ya yb (ev l j) → (mixT ya yb l j).set j x = mixT ya yb l (j + 1)) := Lib.hid (fun x hx => by
        unfold mixT
        rw [set_mid hta x hjl, hx, List.take_add_one, get_ev hjl, List.map_append]
        rfl)
      have HX : Hid ((mixT ya yb l j)[j]? = some (ev l j)) := Lib.hid hx
      clear hx hta hjl
      generalize ev l j = ee at HBD HX HSTEP
      obtain ⟨x0, x1, x2, x3⟩ := ee
      generalize mixT ya yb l j = m at HO HX HSTEP
      generalize hm' : mixT ya yb l (j + 1) = m' at HSTEP
      have HM' := Lib.hid hm'
      clear hm'
      obtain ⟨g, cs, ep, hbg, hg, -, -, -, -, hcell⟩ := ERow.at (s := ⟨p3, n2, c3⟩) encQ_len HO.out HX.out
      have ep : p3 = some ⟨g, 0, none⟩ := ep
      subst ep
      obtain ⟨c0, c1, c2', c3'⟩ := at4 hcell
      try simp only at c0 c1 c2' c3'
      have f0 := frozen_of_heap hg (j * 4)
      have f2 := frozen_of_heap hg (j * 4 + 2)
      have HBG := Lib.hid hbg
      have hjn : (j : Int) < n2 := by omega
      obtain ⟨a0, a1⟩ := HAB.out
      obtain ⟨b0, b1⟩ := HBB.out
      obtain ⟨h0, h1, h2, h3, -, -, hk3, hkk⟩ := HBD.out
      try simp only at h0 h1 h2 h3 hk3 hkk
      have hw0 : IntKind.i64.wrap (x0 + ya) = x0 + ya := IntWalk.i64_in _ (by omega)
      obtain ⟨z0, hz0⟩ : ∃ z, (x0 + ya).tmod 4 = z := ⟨_, rfl⟩
      have HZ0 : Hid (z0 = (x0 + ya) % 4) := Lib.hid (by rw [← hz0, Int.tmod_eq_emod_of_nonneg (by omega)])
      have hw2 : IntKind.i64.wrap (x2 + yb) = x2 + yb := IntWalk.i64_in _ (by omega)
      obtain ⟨z2, hz2⟩ : ∃ z, (x2 + yb).tmod 4 = z := ⟨_, rfl⟩
      have HZ2 : Hid (z2 = (x2 + yb) % 4) := Lib.hid (by rw [← hz2, Int.tmod_eq_emod_of_nonneg (by omega)])
      have HKK := Lib.hid hkk
      have H1 := Lib.hid (ERow.setf encQ_len HO.out (x' := ((z0, x1, x2, x3) : Ev)) HX.out (f := 0) (by decide) (u := .int .i64 z0) rfl)
      rw [Nat.add_zero] at H1
      have HX1 : Hid ((m.set j ((z0, x1, x2, x3) : Ev))[j]? = some ((z0, x1, x2, x3) : Ev)) := Lib.hid (by rw [List.getElem?_set_self (List.getElem?_eq_some_iff.1 HX.out).1])
      have HB1 : Hid (Bel wf (wr.setCell ⟨g, j * 4, none⟩ (.int .i64 z0))) := Lib.hid (Bel.setCell HB.out HBG.out _)
      have HG1 := Lib.hid (heap_set hg (j * 4) (.int .i64 z0))
      clear a0 a1 b0 b1 h0 h1 h2 h3 hk3 hkk hbg hcell
      go_upto_region 7 with (fail)
      refine wp_region_held_drew (S := fun _ => True) (by kernel_rfl) trivial (fun _ => ?_)
      refine takeD 22 (i := 0) (v := ?v1) rfl rfl (by kernel_rfl) (by kernel_rfl) (by kernel_rfl) (fun _ _ _ h => h) (by kernel_rfl) ?hy1 trivial ?rest1
      case hy1 => (intro w0 hSw; first | (go_simp; done) | (go_simp; with_reducible rfl))
      try simp only [List.setIfInBounds_toArray, List.set_cons_zero, List.set_cons_succ]
      refine takeD 23 (i := 1) (v := ?v2) rfl rfl (by kernel_rfl) (by kernel_rfl) (by kernel_rfl) (fun _ _ _ h => h) (by kernel_rfl) ?hy2 trivial ?rest2
      case hy2 => (intro w0 hSw; first | (go_simp; done) | (go_simp; with_reducible rfl))
      try simp only [List.setIfInBounds_toArray, List.set_cons_zero, List.set_cons_succ]
      refine takeD 24 (i := 2) (v := ?v3) rfl rfl (by kernel_rfl) (by kernel_rfl) (by kernel_rfl) (fun _ _ _ h => h) (by kernel_rfl) ?hy3 trivial ?rest3
      case hy3 => (intro w0 hSw; first | (go_simp; done) | (go_simp; with_reducible rfl))
      try simp only [List.setIfInBounds_toArray, List.set_cons_zero, List.set_cons_succ]
      refine takeD 25 (i := 3) (v := ?v4) rfl rfl (by kernel_rfl) (by kernel_rfl) (by kernel_rfl) (fun _ _ _ h => h) (by kernel_rfl) ?hy4 trivial ?rest4
      case hy4 => (intro w0 hSw; first | (go_simp; done) | (go_simp; with_reducible rfl))
      try simp only [List.setIfInBounds_toArray, List.set_cons_zero, List.set_cons_succ]
      refine takeD 26 (i := 4) (v := ?v5) rfl rfl (by kernel_rfl) (by kernel_rfl) (by kernel_rfl) (fun _ _ _ h => h) (by kernel_rfl) ?hy5 trivial ?rest5
      case hy5 => (intro w0 hSw; first | (go_simp; done) | (go_simp; with_reducible rfl))
      try simp only [List.setIfInBounds_toArray, List.set_cons_zero, List.set_cons_succ]
      refine takeD 27 (i := 5) (v := ?v6) rfl rfl (by kernel_rfl) (by kernel_rfl) (by kernel_rfl) (fun _ _ _ h => h) (by kernel_rfl) ?hy6 trivial ?rest6
      case hy6 => (intro w0 hSw; first | (go_simp; done) | (go_simp; with_reducible rfl))
      try simp only [List.setIfInBounds_toArray, List.set_cons_zero, List.set_cons_succ]
      refine takeD 29 (i := 7) (v := ?v7) rfl rfl (by kernel_rfl) (by kernel_rfl) (by kernel_rfl) (fun _ _ _ h => h) (by kernel_rfl) ?hy7 trivial ?rest7
      case hy7 => (intro w0 hSw; first | (go_simp; done) | (go_simp; with_reducible rfl))
      try simp only [List.setIfInBounds_toArray, List.set_cons_zero, List.set_cons_succ]
      refine twoE 28 30 (i1 := 6) (i2 := 8) rfl rfl rfl rfl (by kernel_rfl) (by kernel_rfl) (by kernel_rfl) (fun K hK => ?_) (fun K hK => ?_)
      · try simp only [List.setIfInBounds_toArray, List.set_cons_zero, List.set_cons_succ] at hK
        go_simp
        refine hK _ _ trivial (fun _ => ?_)
        clear hK K
        refine onlyE 30 (i := 8) rfl rfl (by kernel_rfl) (by kernel_rfl) (fun K hK => ?_)
        try simp only [List.setIfInBounds_toArray, List.set_cons_zero, List.set_cons_succ] at hK
        go_simp
        go_at_call 14
        refine (pick_lit HYA.out HAH.out (by decide) _).mono ?_
        rintro e wq ⟨rfl, rfl⟩
        refine hK _ _ trivial (fun _ => ?_)
        clear hK K
        refine takeD 31 (i := 9) (v := ?v8) rfl rfl (by kernel_rfl) (by kernel_rfl) (by kernel_rfl) (fun _ _ _ h => h) (by kernel_rfl) ?hy8 trivial ?rest8
        case hy8 => (intro w0 hSw; first | (go_simp; done) | (go_simp; with_reducible rfl))
        try simp only [List.setIfInBounds_toArray, List.set_cons_zero, List.set_cons_succ]
        refine takeD 32 (i := 10) (v := ?v9) rfl rfl (by kernel_rfl) (by kernel_rfl) (by kernel_rfl) (fun _ _ _ h => h) (by kernel_rfl) ?hy9 trivial ?rest9
        case hy9 => (intro w0 hSw; first | (go_simp; done) | (go_simp; with_reducible rfl))
        try simp only [List.setIfInBounds_toArray, List.set_cons_zero, List.set_cons_succ]
        refine takeD 33 (i := 11) (v := ?v10) rfl rfl (by kernel_rfl) (by kernel_rfl) (by kernel_rfl) (fun _ _ _ h => h) (by kernel_rfl) ?hy10 trivial ?rest10
        case hy10 => (intro w0 hSw; first | (go_simp; done) | (go_simp; with_reducible rfl))
        try simp only [List.setIfInBounds_toArray, List.set_cons_zero, List.set_cons_succ]
        refine takeD 34 (i := 12) (v := ?v11) rfl rfl (by kernel_rfl) (by kernel_rfl) (by kernel_rfl) (fun _ _ _ h => h) (by kernel_rfl) ?hy11 trivial ?rest11
        case hy11 => (intro w0 hSw; first | (go_simp; done) | (go_simp; with_reducible rfl))
        try simp only [List.setIfInBounds_toArray, List.set_cons_zero, List.set_cons_succ]
        refine onlyN (i := 13) rfl rfl (by kernel_rfl) (by kernel_rfl) (fun K hK => ?_)
        go_simp
        refine hK undef _ trivial (fun _ => ?_)
        clear hK K
        refine wpAnyH_done (by kernel_rfl) ?_ _
        have hg1 := HG1.out
        have hd1 : Bel wf (wr.setCell ⟨g, j * 4, none⟩ (.int .i64 z0)).drew := HB1.out.drew
        have ho1 : ERow encQ 26 4 (wr.setCell ⟨g, j * 4, none⟩ (.int .i64 z0)).drew wf.heap.size (.slice (some ⟨g, 0, none⟩) n2 c3) (m.set j ((z0, x1, x2, x3) : Ev)) := H1.out.bel (Bel.refl _).drew
        have hg1 : (wr.setCell ⟨g, j * 4, none⟩ (.int .i64 z0)).drew.heap[g]? = _ := HG1.out
        generalize hWW : (wr.setCell ⟨g, j * 4, none⟩ (.int .i64 z0)).drew = W1 at hd1 ho1 hg1 ⊢
        clear hWW c0 c1 c2' c3' f0 f2 hw0 hz0 hg H1 HB1 HG1
        obtain ⟨g', -, ep', -, -, -, -, -, -, hcell⟩ := ERow.at (s := ⟨some ⟨g, 0, none⟩, n2, c3⟩) encQ_len ho1 HX1.out
        cases ep'
        obtain ⟨c0, c1, c2', c3'⟩ := at4 hcell
        try simp only at c0 c1 c2' c3'
        have f2 := frozen_of_heap hg1 (j * 4 + 2)
        have HB1 := Lib.hid hd1
        have HO1 := Lib.hid ho1
        clear hcell hd1 ho1
        by_cases hk3 : x1 = 3
        · have ek : (x1 != 3) = false := by simp [hk3]
          have HE9 : Hid (m.set j ((z0, x1, x2, x3) : Ev) = m') := Lib.hid (HSTEP.out _ (by unfold tEv; rw [if_pos hk3, HZ0.out]))
          clear hk3
          go_wp2
          exact ⟨⟨j + 1, by omega, by go_num, HB1, Lib.hid (by rw [HM'.out, ← HE9.out]; exact HO1.out)⟩, by simp [intOf]; omega⟩
        · have ek : (x1 != 3) = true := by simp [hk3]
          have HE9 : Hid ((m.set j ((z0, x1, x2, x3) : Ev)).set j ((z0, x1, z2, x3) : Ev) = m') := Lib.hid (by rw [List.set_set]; exact HSTEP.out _ (by unfold tEv; rw [if_neg hk3, HZ0.out, HZ2.out]))
          have H2 := Lib.hid (ERow.setf encQ_len HO1.out (x' := ((z0, x1, z2, x3) : Ev)) HX1.out (f := 2) (by decide) (u := .int .i64 z2) rfl)
          have HB2 : Hid (Bel wf (W1.setCell ⟨g, j * 4 + 2, none⟩ (.int .i64 z2))) := Lib.hid (Bel.setCell HB1.out HBG.out _)
          clear hk3
          go_upto_region 9 with (fail)
          refine wp_region_held_drew (S := fun _ => True) (by kernel_rfl) trivial (fun _ => ?_)
          refine takeD 41 (i := 0) (v := ?v16) rfl rfl (by kernel_rfl) (by kernel_rfl) (by kernel_rfl) (fun _ _ _ h => h) (by kernel_rfl) ?hy16 trivial ?rest16
          case hy16 => (intro w0 hSw; first | (go_simp; done) | (go_simp; with_reducible rfl))
          try simp only [List.setIfInBounds_toArray, List.set_cons_zero, List.set_cons_succ]
          refine takeD 42 (i := 1) (v := ?v17) rfl rfl (by kernel_rfl) (by kernel_rfl) (by kernel_rfl) (fun _ _ _ h => h) (by kernel_rfl) ?hy17 trivial ?rest17
          case hy17 => (intro w0 hSw; first | (go_simp; done) | (go_simp; with_reducible rfl))
          try simp only [List.setIfInBounds_toArray, List.set_cons_zero, List.set_cons_succ]
          refine takeD 43 (i := 2) (v := ?v18) rfl rfl (by kernel_rfl) (by kernel_rfl) (by kernel_rfl) (fun _ _ _ h => h) (by kernel_rfl) ?hy18 trivial ?rest18
          case hy18 => (intro w0 hSw; first | (go_simp; done) | (go_simp; with_reducible rfl))
          try simp only [List.setIfInBounds_toArray, List.set_cons_zero, List.set_cons_succ]
          refine takeD 44 (i := 3) (v := ?v19) rfl rfl (by kernel_rfl) (by kernel_rfl) (by kernel_rfl) (fun _ _ _ h => h) (by kernel_rfl) ?hy19 trivial ?rest19
          case hy19 => (intro w0 hSw; first | (go_simp; done) | (go_simp; with_reducible rfl))
          try simp only [List.setIfInBounds_toArray, List.set_cons_zero, List.set_cons_succ]
          refine takeD 45 (i := 4) (v := ?v20) rfl rfl (by kernel_rfl) (by kernel_rfl) (by kernel_rfl) (fun _ _ _ h => h) (by kernel_rfl) ?hy20 trivial ?rest20
          case hy20 => (intro w0 hSw; first | (go_simp; done) | (go_simp; with_reducible rfl))
          try simp only [List.setIfInBounds_toArray, List.set_cons_zero, List.set_cons_succ]
          refine takeD 46 (i := 5) (v := ?v21) rfl rfl (by kernel_rfl) (by kernel_rfl) (by kernel_rfl) (fun _ _ _ h => h) (by kernel_rfl) ?hy21 trivial ?rest21
          case hy21 => (intro w0 hSw; first | (go_simp; done) | (go_simp; with_reducible rfl))
          try simp only [List.setIfInBounds_toArray, List.set_cons_zero, List.set_cons_succ]
          refine takeD 48 (i := 7) (v := ?v22) rfl rfl (by kernel_rfl) (by kernel_rfl) (by kernel_rfl) (fun _ _ _ h => h) (by kernel_rfl) ?hy22 trivial ?rest22
          case hy22 => (intro w0 hSw; first | (go_simp; done) | (go_simp; with_reducible rfl))
          try simp only [List.setIfInBounds_toArray, List.set_cons_zero, List.set_cons_succ]
          refine twoE 47 49 (i1 := 6) (i2 := 8) rfl rfl rfl rfl (by kernel_rfl) (by kernel_rfl) (by kernel_rfl) (fun K hK => ?_) (fun K hK => ?_)
          · try simp only [List.setIfInBounds_toArray, List.set_cons_zero, List.set_cons_succ] at hK
            go_simp
            refine hK _ _ trivial (fun _ => ?_)
            clear hK K
            refine onlyE 49 (i := 8) rfl rfl (by kernel_rfl) (by kernel_rfl) (fun K hK => ?_)
            try simp only [List.setIfInBounds_toArray, List.set_cons_zero, List.set_cons_succ] at hK
            go_simp
            go_at_call 14
            refine (pick_lit HYB.out HAW.out (by decide) _).mono ?_
            rintro e wq ⟨rfl, rfl⟩
            refine hK _ _ trivial (fun _ => ?_)
            clear hK K
            refine takeD 50 (i := 9) (v := ?v23) rfl rfl (by kernel_rfl) (by kernel_rfl) (by kernel_rfl) (fun _ _ _ h => h) (by kernel_rfl) ?hy23 trivial ?rest23
            case hy23 => (intro w0 hSw; first | (go_simp; done) | (go_simp; with_reducible rfl))
            try simp only [List.setIfInBounds_toArray, List.set_cons_zero, List.set_cons_succ]
            refine takeD 51 (i := 10) (v := ?v24) rfl rfl (by kernel_rfl) (by kernel_rfl) (by kernel_rfl) (fun _ _ _ h => h) (by kernel_rfl) ?hy24 trivial ?rest24
            case hy24 => (intro w0 hSw; first | (go_simp; done) | (go_simp; with_reducible rfl))
            try simp only [List.setIfInBounds_toArray, List.set_cons_zero, List.set_cons_succ]
            refine takeD 52 (i := 11) (v := ?v25) rfl rfl (by kernel_rfl) (by kernel_rfl) (by kernel_rfl) (fun _ _ _ h => h) (by kernel_rfl) ?hy25 trivial ?rest25
            case hy25 => (intro w0 hSw; first | (go_simp; done) | (go_simp; with_reducible rfl))
            try simp only [List.setIfInBounds_toArray, List.set_cons_zero, List.set_cons_succ]
            refine takeD 53 (i := 12) (v := ?v26) rfl rfl (by kernel_rfl) (by kernel_rfl) (by kernel_rfl) (fun _ _ _ h => h) (by kernel_rfl) ?hy26 trivial ?rest26
            case hy26 => (intro w0 hSw; first | (go_simp; done) | (go_simp; with_reducible rfl))
            try simp only [List.setIfInBounds_toArray, List.set_cons_zero, List.set_cons_succ]
            refine onlyN (i := 13) rfl rfl (by kernel_rfl) (by kernel_rfl) (fun K hK => ?_)
            go_simp
            refine hK undef _ trivial (fun _ => ?_)
            clear hK K
            refine wpAnyH_done (by kernel_rfl) ?_ _
            go_wp2
            exact ⟨⟨j + 1, by omega, by go_num, Lib.hid HB2.out.drew, Lib.hid (by rw [HM'.out, ← HE9.out]; exact H2.out.bel (Bel.refl _).drew)⟩, by simp [intOf]; omega⟩
          · try simp only [List.setIfInBounds_toArray, List.set_cons_zero, List.set_cons_succ] at hK
            go_simp
            go_at_call 14
            refine (pick_lit HYB.out HAW.out (by decide) _).mono ?_
            rintro e wq ⟨rfl, rfl⟩
            refine hK _ _ trivial (fun _ => ?_)
            clear hK K
            refine onlyE 47 (i := 6) rfl rfl (by kernel_rfl) (by kernel_rfl) (fun K hK => ?_)
            try simp only [List.setIfInBounds_toArray, List.set_cons_zero, List.set_cons_succ] at hK
            go_simp
            refine hK _ _ trivial (fun _ => ?_)
            clear hK K
            refine takeD 50 (i := 9) (v := ?v27) rfl rfl (by kernel_rfl) (by kernel_rfl) (by kernel_rfl) (fun _ _ _ h => h) (by kernel_rfl) ?hy27 trivial ?rest27
            case hy27 => (intro w0 hSw; first | (go_simp; done) | (go_simp; with_reducible rfl))
            try simp only [List.setIfInBounds_toArray, List.set_cons_zero, List.set_cons_succ]
            refine takeD 51 (i := 10) (v := ?v28) rfl rfl (by kernel_rfl) (by kernel_rfl) (by kernel_rfl) (fun _ _ _ h => h) (by kernel_rfl) ?hy28 trivial ?rest28
            case hy28 => (intro w0 hSw; first | (go_simp; done) | (go_simp; with_reducible rfl))
            try simp only [List.setIfInBounds_toArray, List.set_cons_zero, List.set_cons_succ]
            refine takeD 52 (i := 11) (v := ?v29) rfl rfl (by kernel_rfl) (by kernel_rfl) (by kernel_rfl) (fun _ _ _ h => h) (by kernel_rfl) ?hy29 trivial ?rest29
            case hy29 => (intro w0 hSw; first | (go_simp; done) | (go_simp; with_reducible rfl))
            try simp only [List.setIfInBounds_toArray, List.set_cons_zero, List.set_cons_succ]
            refine takeD 53 (i := 12) (v := ?v30) rfl rfl (by kernel_rfl) (by kernel_rfl) (by kernel_rfl) (fun _ _ _ h => h) (by kernel_rfl) ?hy30 trivial ?rest30
            case hy30 => (intro w0 hSw; first | (go_simp; done) | (go_simp; with_reducible rfl))
            try simp only [List.setIfInBounds_toArray, List.set_cons_zero, List.set_cons_succ]
            refine onlyN (i := 13) rfl rfl (by kernel_rfl) (by kernel_rfl) (fun K hK => ?_)
            go_simp
            refine hK undef _ trivial (fun _ => ?_)
            clear hK K
            refine wpAnyH_done (by kernel_rfl) ?_ _
            go_wp2
            exact ⟨⟨j + 1, by omega, by go_num, Lib.hid HB2.out.drew, Lib.hid (by rw [HM'.out, ← HE9.out]; exact H2.out.bel (Bel.refl _).drew)⟩, by simp [intOf]; omega⟩
      · try simp only [List.setIfInBounds_toArray, List.set_cons_zero, List.set_cons_succ] at hK
        go_simp
        go_at_call 14
        refine (pick_lit HYA.out HAH.out (by decide) _).mono ?_
        rintro e wq ⟨rfl, rfl⟩
        refine hK _ _ trivial (fun _ => ?_)
        clear hK K
        refine onlyE 28 (i := 6) rfl rfl (by kernel_rfl) (by kernel_rfl) (fun K hK => ?_)
        try simp only [List.setIfInBounds_toArray, List.set_cons_zero, List.set_cons_succ] at hK
        go_simp
        refine hK _ _ trivial (fun _ => ?_)
        clear hK K
        refine takeD 31 (i := 9) (v := ?v12) rfl rfl (by kernel_rfl) (by kernel_rfl) (by kernel_rfl) (fun _ _ _ h => h) (by kernel_rfl) ?hy12 trivial ?rest12
        case hy12 => (intro w0 hSw; first | (go_simp; done) | (go_simp; with_reducible rfl))
        try simp only [List.setIfInBounds_toArray, List.set_cons_zero, List.set_cons_succ]
        refine takeD 32 (i := 10) (v := ?v13) rfl rfl (by kernel_rfl) (by kernel_rfl) (by kernel_rfl) (fun _ _ _ h => h) (by kernel_rfl) ?hy13 trivial ?rest13
        case hy13 => (intro w0 hSw; first | (go_simp; done) | (go_simp; with_reducible rfl))
        try simp only [List.setIfInBounds_toArray, List.set_cons_zero, List.set_cons_succ]
        refine takeD 33 (i := 11) (v := ?v14) rfl rfl (by kernel_rfl) (by kernel_rfl) (by kernel_rfl) (fun _ _ _ h => h) (by kernel_rfl) ?hy14 trivial ?rest14
        case hy14 => (intro w0 hSw; first | (go_simp; done) | (go_simp; with_reducible rfl))
        try simp only [List.setIfInBounds_toArray, List.set_cons_zero, List.set_cons_succ]
        refine takeD 34 (i := 12) (v := ?v15) rfl rfl (by kernel_rfl) (by kernel_rfl) (by kernel_rfl) (fun _ _ _ h => h) (by kernel_rfl) ?hy15 trivial ?rest15
        case hy15 => (intro w0 hSw; first | (go_simp; done) | (go_simp; with_reducible rfl))
        try simp only [List.setIfInBounds_toArray, List.set_cons_zero, List.set_cons_succ]
        refine onlyN (i := 13) rfl rfl (by kernel_rfl) (by kernel_rfl) (fun K hK => ?_)
        go_simp
        refine hK undef _ trivial (fun _ => ?_)
        clear hK K
        refine wpAnyH_done (by kernel_rfl) ?_ _
        have hg1 := HG1.out
        have hd1 : Bel wf (wr.setCell ⟨g, j * 4, none⟩ (.int .i64 z0)).drew := HB1.out.drew
        have ho1 : ERow encQ 26 4 (wr.setCell ⟨g, j * 4, none⟩ (.int .i64 z0)).drew wf.heap.size (.slice (some ⟨g, 0, none⟩) n2 c3) (m.set j ((z0, x1, x2, x3) : Ev)) := H1.out.bel (Bel.refl _).drew
        have hg1 : (wr.setCell ⟨g, j * 4, none⟩ (.int .i64 z0)).drew.heap[g]? = _ := HG1.out
        generalize hWW : (wr.setCell ⟨g, j * 4, none⟩ (.int .i64 z0)).drew = W1 at hd1 ho1 hg1 ⊢
        clear hWW c0 c1 c2' c3' f0 f2 hw0 hz0 hg H1 HB1 HG1
        obtain ⟨g', -, ep', -, -, -, -, -, -, hcell⟩ := ERow.at (s := ⟨some ⟨g, 0, none⟩, n2, c3⟩) encQ_len ho1 HX1.out
        cases ep'
        obtain ⟨c0, c1, c2', c3'⟩ := at4 hcell
        try simp only at c0 c1 c2' c3'
        have f2 := frozen_of_heap hg1 (j * 4 + 2)
        have HB1 := Lib.hid hd1
        have HO1 := Lib.hid ho1
        clear hcell hd1 ho1
        by_cases hk3 : x1 = 3
        · have ek : (x1 != 3) = false := by simp [hk3]
          have HE9 : Hid (m.set j ((z0, x1, x2, x3) : Ev) = m') := Lib.hid (HSTEP.out _ (by unfold tEv; rw [if_pos hk3, HZ0.out]))
          clear hk3
          go_wp2
          exact ⟨⟨j + 1, by omega, by go_num, HB1, Lib.hid (by rw [HM'.out, ← HE9.out]; exact HO1.out)⟩, by simp [intOf]; omega⟩
        · have ek : (x1 != 3) = true := by simp [hk3]
          have HE9 : Hid ((m.set j ((z0, x1, x2, x3) : Ev)).set j ((z0, x1, z2, x3) : Ev) = m') := Lib.hid (by rw [List.set_set]; exact HSTEP.out _ (by unfold tEv; rw [if_neg hk3, HZ0.out, HZ2.out]))
          have H2 := Lib.hid (ERow.setf encQ_len HO1.out (x' := ((z0, x1, z2, x3) : Ev)) HX1.out (f := 2) (by decide) (u := .int .i64 z2) rfl)
          have HB2 : Hid (Bel wf (W1.setCell ⟨g, j * 4 + 2, none⟩ (.int .i64 z2))) := Lib.hid (Bel.setCell HB1.out HBG.out _)
          clear hk3
          go_upto_region 9 with (fail)
          refine wp_region_held_drew (S := fun _ => True) (by kernel_rfl) trivial (fun _ => ?_)
          refine takeD 41 (i := 0) (v := ?v31) rfl rfl (by kernel_rfl) (by kernel_rfl) (by kernel_rfl) (fun _ _ _ h => h) (by kernel_rfl) ?hy31 trivial ?rest31
          case hy31 => (intro w0 hSw; first | (go_simp; done) | (go_simp; with_reducible rfl))
          try simp only [List.setIfInBounds_toArray, List.set_cons_zero, List.set_cons_succ]
          refine takeD 42 (i := 1) (v := ?v32) rfl rfl (by kernel_rfl) (by kernel_rfl) (by kernel_rfl) (fun _ _ _ h => h) (by kernel_rfl) ?hy32 trivial ?rest32
          case hy32 => (intro w0 hSw; first | (go_simp; done) | (go_simp; with_reducible rfl))
          try simp only [List.setIfInBounds_toArray, List.set_cons_zero, List.set_cons_succ]
          refine takeD 43 (i := 2) (v := ?v33) rfl rfl (by kernel_rfl) (by kernel_rfl) (by kernel_rfl) (fun _ _ _ h => h) (by kernel_rfl) ?hy33 trivial ?rest33
          case hy33 => (intro w0 hSw; first | (go_simp; done) | (go_simp; with_reducible rfl))
          try simp only [List.setIfInBounds_toArray, List.set_cons_zero, List.set_cons_succ]
          refine takeD 44 (i := 3) (v := ?v34) rfl rfl (by kernel_rfl) (by kernel_rfl) (by kernel_rfl) (fun _ _ _ h => h) (by kernel_rfl) ?hy34 trivial ?rest34
          case hy34 => (intro w0 hSw; first | (go_simp; done) | (go_simp; with_reducible rfl))
          try simp only [List.setIfInBounds_toArray, List.set_cons_zero, List.set_cons_succ]
          refine takeD 45 (i := 4) (v := ?v35) rfl rfl (by kernel_rfl) (by kernel_rfl) (by kernel_rfl) (fun _ _ _ h => h) (by kernel_rfl) ?hy35 trivial ?rest35
          case hy35 => (intro w0 hSw; first | (go_simp; done) | (go_simp; with_reducible rfl))
          try simp only [List.setIfInBounds_toArray, List.set_cons_zero, List.set_cons_succ]
          refine takeD 46 (i := 5) (v := ?v36) rfl rfl (by kernel_rfl) (by kernel_rfl) (by kernel_rfl) (fun _ _ _ h => h) (by kernel_rfl) ?hy36 trivial ?rest36
          case hy36 => (intro w0 hSw; first | (go_simp; done) | (go_simp; with_reducible rfl))
          try simp only [List.setIfInBounds_toArray, List.set_cons_zero, List.set_cons_succ]
          refine takeD 48 (i := 7) (v := ?v37) rfl rfl (by kernel_rfl) (by kernel_rfl) (by kernel_rfl) (fun _ _ _ h => h) (by kernel_rfl) ?hy37 trivial ?rest37
          case hy37 => (intro w0 hSw; first | (go_simp; done) | (go_simp; with_reducible rfl))
          try simp only [List.setIfInBounds_toArray, List.set_cons_zero, List.set_cons_succ]
          refine twoE 47 49 (i1 := 6) (i2 := 8) rfl rfl rfl rfl (by kernel_rfl) (by kernel_rfl) (by kernel_rfl) (fun K hK => ?_) (fun K hK => ?_)
          · try simp only [List.setIfInBounds_toArray, List.set_cons_zero, List.set_cons_succ] at hK
            go_simp
            refine hK _ _ trivial (fun _ => ?_)
            clear hK K
            refine onlyE 49 (i := 8) rfl rfl (by kernel_rfl) (by kernel_rfl) (fun K hK => ?_)
            try simp only [List.setIfInBounds_toArray, List.set_cons_zero, List.set_cons_succ] at hK
            go_simp
            go_at_call 14
            refine (pick_lit HYB.out HAW.out (by decide) _).mono ?_
            rintro e wq ⟨rfl, rfl⟩
            refine hK _ _ trivial (fun _ => ?_)
            clear hK K
            refine takeD 50 (i := 9) (v := ?v38) rfl rfl (by kernel_rfl) (by kernel_rfl) (by kernel_rfl) (fun _ _ _ h => h) (by kernel_rfl) ?hy38 trivial ?rest38
            case hy38 => (intro w0 hSw; first | (go_simp; done) | (go_simp; with_reducible rfl))
            try simp only [List.setIfInBounds_toArray, List.set_cons_zero, List.set_cons_succ]
            refine takeD 51 (i := 10) (v := ?v39) rfl rfl (by kernel_rfl) (by kernel_rfl) (by kernel_rfl) (fun _ _ _ h => h) (by kernel_rfl) ?hy39 trivial ?rest39
            case hy39 => (intro w0 hSw; first | (go_simp; done) | (go_simp; with_reducible rfl))
            try simp only [List.setIfInBounds_toArray, List.set_cons_zero, List.set_cons_succ]
            refine takeD 52 (i := 11) (v := ?v40) rfl rfl (by kernel_rfl) (by kernel_rfl) (by kernel_rfl) (fun _ _ _ h => h) (by kernel_rfl) ?hy40 trivial ?rest40
            case hy40 => (intro w0 hSw; first | (go_simp; done) | (go_simp; with_reducible rfl))
            try simp only [List.setIfInBounds_toArray, List.set_cons_zero, List.set_cons_succ]
            refine takeD 53 (i := 12) (v := ?v41) rfl rfl (by kernel_rfl) (by kernel_rfl) (by kernel_rfl) (fun _ _ _ h => h) (by kernel_rfl) ?hy41 trivial ?rest41
            case hy41 => (intro w0 hSw; first | (go_simp; done) | (go_simp; with_reducible rfl))
            try simp only [List.setIfInBounds_toArray, List.set_cons_zero, List.set_cons_succ]
            refine onlyN (i := 13) rfl rfl (by kernel_rfl) (by kernel_rfl) (fun K hK => ?_)
            go_simp
            refine hK undef _ trivial (fun _ => ?_)
            clear hK K
            refine wpAnyH_done (by kernel_rfl) ?_ _
            go_wp2
            exact ⟨⟨j + 1, by omega, by go_num, Lib.hid HB2.out.drew, Lib.hid (by rw [HM'.out, ← HE9.out]; exact H2.out.bel (Bel.refl _).drew)⟩, by simp [intOf]; omega⟩
          · try simp only [List.setIfInBounds_toArray, List.set_cons_zero, List.set_cons_succ] at hK
            go_simp
            go_at_call 14
            refine (pick_lit HYB.out HAW.out (by decide) _).mono ?_
            rintro e wq ⟨rfl, rfl⟩
            refine hK _ _ trivial (fun _ => ?_)
            clear hK K
            refine onlyE 47 (i := 6) rfl rfl (by kernel_rfl) (by kernel_rfl) (fun K hK => ?_)
            try simp only [List.setIfInBounds_toArray, List.set_cons_zero, List.set_cons_succ] at hK
            go_simp
            refine hK _ _ trivial (fun _ => ?_)
            clear hK K
            refine takeD 50 (i := 9) (v := ?v42) rfl rfl (by kernel_rfl) (by kernel_rfl) (by kernel_rfl) (fun _ _ _ h => h) (by kernel_rfl) ?hy42 trivial ?rest42
            case hy42 => (intro w0 hSw; first | (go_simp; done) | (go_simp; with_reducible rfl))
            try simp only [List.setIfInBounds_toArray, List.set_cons_zero, List.set_cons_succ]
            refine takeD 51 (i := 10) (v := ?v43) rfl rfl (by kernel_rfl) (by kernel_rfl) (by kernel_rfl) (fun _ _ _ h => h) (by kernel_rfl) ?hy43 trivial ?rest43
            case hy43 => (intro w0 hSw; first | (go_simp; done) | (go_simp; with_reducible rfl))
            try simp only [List.setIfInBounds_toArray, List.set_cons_zero, List.set_cons_succ]
            refine takeD 52 (i := 11) (v := ?v44) rfl rfl (by kernel_rfl) (by kernel_rfl) (by kernel_rfl) (fun _ _ _ h => h) (by kernel_rfl) ?hy44 trivial ?rest44
            case hy44 => (intro w0 hSw; first | (go_simp; done) | (go_simp; with_reducible rfl))
            try simp only [List.setIfInBounds_toArray, List.set_cons_zero, List.set_cons_succ]
            refine takeD 53 (i := 12) (v := ?v45) rfl rfl (by kernel_rfl) (by kernel_rfl) (by kernel_rfl) (fun _ _ _ h => h) (by kernel_rfl) ?hy45 trivial ?rest45
            case hy45 => (intro w0 hSw; first | (go_simp; done) | (go_simp; with_reducible rfl))
            try simp only [List.setIfInBounds_toArray, List.set_cons_zero, List.set_cons_succ]
            refine onlyN (i := 13) rfl rfl (by kernel_rfl) (by kernel_rfl) (fun K hK => ?_)
            go_simp
            refine hK undef _ trivial (fun _ => ?_)
            clear hK K
            refine wpAnyH_done (by kernel_rfl) ?_ _
            go_wp2
            exact ⟨⟨j + 1, by omega, by go_num, Lib.hid HB2.out.drew, Lib.hid (by rw [HM'.out, ← HE9.out]; exact H2.out.bel (Bel.refl _).drew)⟩, by simp [intOf]; omega⟩
    · obtain rfl : j = n2 := by omega
      have HME : Hid (mixT ya yb l j = l.map (tEv ya yb)) := Lib.hid (by unfold mixT; rw [List.take_of_length_le (by have := HN2.out; omega), List.drop_of_length_le (by have := HN2.out; omega), List.append_nil])
      have HLM : Hid (LAt wr p3 (l.map (tEv ya yb))) := Lib.hid (by rw [← HME.out]; exact ERow.lat (s := ⟨p3, j, c3⟩) HO.out)
      have HNM : Hid ((l.map (tEv ya yb)).length = j) := Lib.hid (by rw [List.length_map, HN2.out])
      have HCM : Hid (j ≤ c3) := Lib.hid (ERow.c (s := ⟨p3, j, c3⟩) HO.out)
      obtain ⟨a, ha⟩ : ∃ a, allowed l = a := ⟨_, rfl⟩
      have HA := Lib.hid ha
      have HAM : Hid (allowed (l.map (tEv ya yb)) = a) := Lib.hid (by rw [turn_allowed HAB.out.1 HBB.out.1 HSM.out.right, ha])
      have HRM : Hid (right (l.map (tEv ya yb)) = true) := Lib.hid (turn_right HAB.out.1 HBB.out.1 HSM.out.right)
      clear ha
      go_wp2_with fail
      refine (right_lit HLM.out HNM.out HN5.out HRM.out).mono ?_
      rintro e w5 ⟨rfl, hb5⟩
      have HB5 := Lib.hid hb5
      clear hb5
      go_wp2_with fail
      refine (allowed_lit (LAt.bel HL2.out (HB.out.trans HB5.out)) HN2.out HC2.out HN5.out HA.out).mono ?_
      rintro e w6 ⟨rfl, hb6⟩
      have HB6 := Lib.hid (HB5.out.trans hb6)
      clear hb6
      go_wp2_with fail
      refine (allowed_lit (LAt.bel HLM.out HB6.out) HNM.out HCM.out HN5.out HAM.out).mono ?_
      rintro e w7 ⟨rfl, hb7⟩
      have HB7 := Lib.hid (HB6.out.trans hb7)
      clear hb7
      go_wp2
      go_ret
      exact ⟨rb (by cases a <;> rfl), HWF.out.trans (HB.out.trans HB7.out)⟩
end Go.Proofs.Ytigefdoejcggpaa
