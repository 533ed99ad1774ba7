/- Package syntax: a program is printed. -/
import Derived.Test.YthlnjnmomnpnpaaGreatDoorYTask
namespace Go.Proofs.YthlnjnmomnpnpaaGreatDoor
open Go.RowKit Tk Sy
set_option linter.unusedVariables false
set_option linter.unusedSimpArgs false
def devK (k : Nat) (d : Dev) : Bs := lineT k [[100, 101, 118, 105, 99, 101, 32], nm d.name, [32], kindT d.kind]
def rscK (k : Nat) (r : Rsc) : Bs := lineT k [[114, 101, 115, 111, 117, 114, 99, 101, 32], nm r.name, [32], numT r.words]
def prgK (d k : Nat) (p : Prg) : Bs := lineT k [[104, 97, 114, 116, 115, 32], numT p.harts] ++ p.devs.flatMap (devK k) ++ p.rscs.flatMap (rscK k) ++ p.tasks.flatMap (tskK d k)
theorem prg_eq (p : Prg) : prgT p = prgK 30 0 p := rfl
def SD (g9 : Nat) (s : ByteArray) (n : Int) (w' : World) : Prop := w'.cell? ⟨g9, 0, none⟩ = some (.string s) ∧ w'.cell? ⟨g9, 1, none⟩ = some (.int .i64 n)
structure PrgOk (d : Nat) (p : Prg) : Prop where
  harts : 0 ≤ p.harts ∧ p.harts ≤ 4
  rscs : ∀ r ∈ p.rscs, 0 ≤ r.words ∧ r.words ≤ 8
  tasks : ∀ t ∈ p.tasks, areS d t.body = true ∧ (0 ≤ t.hart ∧ t.hart ≤ 3) ∧ (1 ≤ t.prio ∧ t.prio ≤ 7) ∧ (0 ≤ t.line ∧ t.line ≤ 7)
theorem prgOk_of {p : Prg} (h : right p = true) : PrgOk 30 p := by
  unfold right within at h
  simp only [Bool.and_eq_true, decide_eq_true_eq, List.all_eq_true] at h
  obtain ⟨h1, _, _, _, h5, _, h7⟩ := h
  refine ⟨⟨by omega, h1.2⟩, fun r hr => ?_, fun t ht => ?_⟩
  · have := h5 r hr
    unfold isRsc within at this
    simp only [Bool.and_eq_true, decide_eq_true_eq] at this
    exact ⟨by omega, this.2.2⟩
  · have := h7 t ht
    unfold isTsk within at this
    simp only [Bool.and_eq_true, decide_eq_true_eq] at this
    obtain ⟨_, g1, g2, g3, g4⟩ := this
    refine ⟨g4, g1, g2, g3.1, ?_⟩
    have := g3.2
    split at this <;> omega
theorem kindText_bel {k : Int} {T : ByteArray} (h : str (kindT k) = T) (w : World) : Calls Tryz.prog 59 #[.int .i64 k] w fun e w' => e = .returned (.string T) ∧ Bel w w' := by
  refine (kindText_lit h w).mono ?_
  rintro e w' ⟨rfl, rfl⟩
  exact ⟨rfl, Bel.refl _⟩
set_option maxRecDepth 100000 in
set_option maxHeartbeats 16000000 in
theorem program_ok {d : Nat} (p : Prg) (hok : PrgOk d p) (W0 w : World) (q1 q2 q3 : Option Addr) (c1 c2 c3 b : Nat) (l : Bs) (k : Nat) (hE : PrgAt W0 q1 q2 q3 p) (hX : Texts W0) (hP : PowAt W0) (hST : StP W0 b l (k : Int) w) (hkd : k + 1 + d ≤ 1000) (hlen : l.length + (prgK d k p).length ≤ 70368744177664) :
    Calls Tryz.prog 25 #[.pointer (some ⟨b, 0, none⟩), prgV q1 c1 q2 c2 q3 c3 p] w fun r w' => r = .returned (.tuple #[]) ∧ StP W0 b (l ++ prgK d k p) (k : Int) w' ∧ Pv b w w' := by
  obtain ⟨U0, hU0⟩ : ∃ U, str (Lib.itoa p.harts) = U := ⟨_, rfl⟩
  have hD0 : U0.data.toList = numT p.harts := by rw [← hU0, str_list]; rfl
  have HU0 := Lib.hid hU0
  obtain ⟨A, hA⟩ : ∃ A, lineT k (pcs [⟨#[104, 97, 114, 116, 115, 32]⟩, U0]) = A := ⟨_, rfl⟩
  obtain ⟨D, hD⟩ : ∃ D, p.devs.flatMap (devK k) = D := ⟨_, rfl⟩
  obtain ⟨R, hR⟩ : ∃ R, p.rscs.flatMap (rscK k) = R := ⟨_, rfl⟩
  obtain ⟨T, hT⟩ : ∃ T, p.tasks.flatMap (tskK d k) = T := ⟨_, rfl⟩
  have hTXT : prgK d k p = A ++ D ++ R ++ T := by
    rw [← hA, ← hD, ← hR, ← hT]
    unfold prgK pcs
    simp only [List.map_cons, List.map_nil, hD0]
  rw [hTXT, List.length_append, List.length_append, List.length_append] at hlen
  rw [hTXT]
  have HA := Lib.hid hA
  have HD := Lib.hid hD
  have HR := Lib.hid hR
  have HT := Lib.hid hT
  have HOK := Lib.hid hok
  have HE := Lib.hid hE
  have HTX := Lib.hid hX
  have HP := Lib.hid hP
  have HKD := Lib.hid hkd
  have hl1 := hE.ld
  have hl2 := hE.lr
  have hl3 := hE.lt
  obtain ⟨n1, hn1⟩ : ∃ n, p.devs.length = n := ⟨_, rfl⟩
  obtain ⟨n2, hn2⟩ : ∃ n, p.rscs.length = n := ⟨_, rfl⟩
  obtain ⟨n3, hn3⟩ : ∃ n, p.tasks.length = n := ⟨_, rfl⟩
  show Calls Tryz.prog 25 #[.pointer (some ⟨b, 0, none⟩), .agg #[.int .i64 p.harts, .slice q1 p.devs.length c1, .slice q2 p.rscs.length c2, .slice q3 p.tasks.length c3]] w _
  rw [hn1, hn2, hn3]
  rw [hn1] at hl1
  rw [hn2] at hl2
  rw [hn3] at hl3
  have HN1 := Lib.hid hn1
  have HN2 := Lib.hid hn2
  have HN3 := Lib.hid hn3
  clear hTXT hA hD hR hT hok hE hX hP hkd hU0 hD0 hn1 hn2 hn3
  go_enter Tryz.func25, Tryz.ntmps25
  go_upto_region 1 with (fail)
  have hb9 := (Bel.refl w).alloc #[.int .i64 p.harts, .slice q1 n1 c1, .slice q2 n2 c2, .slice q3 n3 c3] 28
  have hx9 := heap_alloc_new w (.cells #[.int .i64 p.harts, .slice q1 n1 c1, .slice q2 n2 c2, .slice q3 n3 c3] 28)
  have hst := hST.keep hb9
  have hgb : w.heap.size ≠ b := by have := hST.ne.2.1; omega
  generalize w.alloc (.cells #[.int .i64 p.harts, .slice q1 n1 c1, .slice q2 n2 c2, .slice q3 n3 c3] 28) = W9 at hb9 hx9 hst ⊢
  generalize w.heap.size = g9 at hx9 hgb ⊢
  have HST := Lib.hid hst
  have HX := Lib.hid hx9
  have HGB := Lib.hid hgb
  have HPV := Lib.hid (hb9.pv b)
  clear hst hx9 hgb hb9 hST
  have m0 := cell_of_heap HX.out 0
  have m1 := cell_of_heap HX.out 1
  have m2 := cell_of_heap HX.out 2
  have m3 := cell_of_heap HX.out 3
  simp only [List.getElem?_toArray, List.getElem?_cons_zero, List.getElem?_cons_succ] at m0 m1 m2 m3
  go_wp2_with fail
  refine (itoa_lit HU0.out (by have := HOK.out.harts; omega) (by have := HOK.out.harts; omega) _ (HP.out.bel HST.out.bel)).mono ?_
  rintro r w1 ⟨rfl, hb⟩
  have HPV := Lib.hid (HPV.out.trans (hb.pv b))
  have HX := Lib.hid (hb.stays HX.out)
  have HST := Lib.hid (HST.out.keep hb)
  clear hb m0 m1 m2 m3
  have m0 := cell_of_heap HX.out 0
  have m1 := cell_of_heap HX.out 1
  have m2 := cell_of_heap HX.out 2
  have m3 := cell_of_heap HX.out 3
  simp only [List.getElem?_toArray, List.getElem?_cons_zero, List.getElem?_cons_succ] at m0 m1 m2 m3
  go_wp2_with fail
  refine (line_st [⟨#[104, 97, 114, 116, 115, 32]⟩, U0] W0 _ b _ _ l k (HST.out.keep ((Bel.refl _).alloc _ _)) (heap_alloc_new _ _) (by rw [HA.out]; omega) (by simp)).mono ?_
  rintro r w2 ⟨rfl, hst, hpv⟩
  rw [HA.out] at hst
  have HPV := Lib.hid (HPV.out.trans ((((Bel.refl _).alloc _ _).pv b).trans hpv))
  have HX := Lib.hid (((((Bel.refl _).alloc _ _).pv b).trans hpv).stays HX.out HGB.out (by decide))
  have HST := Lib.hid hst
  clear hst hpv m0 m1 m2 m3
  have m0 := cell_of_heap HX.out 0
  have m1 := cell_of_heap HX.out 1
  have m2 := cell_of_heap HX.out 2
  have m3 := cell_of_heap HX.out 3
  simp only [List.getElem?_toArray, List.getElem?_cons_zero, List.getElem?_cons_succ] at m0 m1 m2 m3
  go_wp2_with fail
  clear m0 m1 m2 m3
  go_loopg [19] n1 (fun gk jj wx => ∃ j : Nat, j + gk = n1 ∧ jj = .int .i64 j ∧ Hid (StP W0 b (l ++ A ++ (p.devs.take j).flatMap (devK k)) (k : Int) wx) ∧ Hid (Pv b w wx) ∧ Hid (wx.heap[g9]? = some (.cells #[.int .i64 p.harts, .slice q1 n1 c1, .slice q2 n2 c2, .slice q3 n3 c3] 28 (0, 0))))
  case atStart => exact ⟨0, by omega, rfl, by simpa using HST, HPV, HX⟩
  case round =>
    obtain ⟨j, hjg, rfl, HSj, HPj, HXj⟩ := hrel
    by_cases hlt : j < n1
    · obtain ⟨x, hx⟩ : ∃ x, p.devs[j]? = some x := ⟨_, List.getElem?_eq_getElem (by rw [HN1.out]; exact hlt)⟩
      have e1 := flatMap_take (devK k) hx
      have e2 := flatMap_le (devK k) p.devs (j + 1)
      rw [e1, List.length_append, HD.out] at e2
      have HE1 := Lib.hid e1
      have hk1 : (j : Int) < (n1 : Int) := by omega
      have HMX := Lib.hid (List.mem_of_getElem? hx)
      obtain ⟨hwx, bb, o, hq, hbl, z0, z1⟩ := HE.out.devs j x hx
      subst hq
      have z0 := (HSj.out.bel.cell (p := ⟨bb, o + j * 2, none⟩) hbl).trans z0
      have z1 := (HSj.out.bel.cell (p := ⟨bb, o + j * 2 + 1, none⟩) hbl).trans z1
      obtain ⟨T1, hT1⟩ : ∃ U, str (kindT x.kind) = U := ⟨_, rfl⟩
      have hD1 : T1.data.toList = kindT x.kind := by rw [← hT1, str_list]
      have HT1 := Lib.hid hT1
      clear hT1
      have hLL : lineT k (pcs [⟨#[100, 101, 118, 105, 99, 101, 32]⟩, x.name, ⟨#[32]⟩, T1]) = (devK k) x := by
        unfold pcs devK nm
        simp only [List.map_cons, List.map_nil, hD1]
      have HL := Lib.hid hLL
      clear hx e1 hLL
      go_upto_region 5 with (fail)
      have hb9 := (Bel.refl wr).alloc #[.string x.name, .int .i64 x.kind] 65
      have hx9 := heap_alloc_new wr (.cells #[.string x.name, .int .i64 x.kind] 65)
      have hgn : wr.heap.size ≠ b := by have := HSj.out.ne.2.1; omega
      generalize wr.alloc (.cells #[.string x.name, .int .i64 x.kind] 65) = W8 at hb9 hx9 ⊢
      generalize wr.heap.size = g8 at hx9 hgn ⊢
      have HX8 := Lib.hid hx9
      have HG8 := Lib.hid hgn
      have HSj := Lib.hid (HSj.out.keep hb9)
      have HPj := Lib.hid (HPj.out.trans (hb9.pv b))
      have HXj := Lib.hid (hb9.stays HXj.out)
      have HKEEP : Hid (∀ w', Pv b W8 w' → SD g8 x.name x.kind w') := Lib.hid (fun w' hv => ⟨cell_of_heap (hv.stays HX8.out HG8.out (by decide)) 0, cell_of_heap (hv.stays HX8.out HG8.out (by decide)) 1⟩)
      clear hb9 hx9 hgn z0 z1
      refine wp_region_held_drew (S := (SD g8 x.name x.kind)) (by kernel_rfl) (HKEEP.out _ (((Bel.refl W8).drew).pv b)) (fun hS0 => ?_)
      refine takeD 23 (i := 0) (v := ?v1) rfl rfl (by kernel_rfl) (by kernel_rfl) (by kernel_rfl) (fun _ _ _ h => h) (by kernel_rfl) ?hy1 hS0 ?rest1
      case hy1 => (intro w0 hSw; obtain ⟨s0, s1⟩ := hSw; first | (go_simp; done) | (go_simp; with_reducible rfl))
      simp only [List.setIfInBounds_toArray, List.set_cons_zero, List.set_cons_succ]
      refine takeD 24 (i := 1) (v := ?v2) rfl rfl (by kernel_rfl) (by kernel_rfl) (by kernel_rfl) (fun _ _ _ h => h) (by kernel_rfl) ?hy2 hS0 ?rest2
      case hy2 => (intro w0 hSw; obtain ⟨s0, s1⟩ := hSw; first | (go_simp; done) | (go_simp; with_reducible rfl))
      simp only [List.setIfInBounds_toArray, List.set_cons_zero, List.set_cons_succ]
      refine takeD 25 (i := 2) (v := ?v3) rfl rfl (by kernel_rfl) (by kernel_rfl) (by kernel_rfl) (fun _ _ _ h => h) (by kernel_rfl) ?hy3 hS0 ?rest3
      case hy3 => (intro w0 hSw; obtain ⟨s0, s1⟩ := hSw; first | (go_simp; done) | (go_simp; with_reducible rfl))
      simp only [List.setIfInBounds_toArray, List.set_cons_zero, List.set_cons_succ]
      refine takeD 26 (i := 3) (v := ?v4) rfl rfl (by kernel_rfl) (by kernel_rfl) (by kernel_rfl) (fun _ _ _ h => h) (by kernel_rfl) ?hy4 hS0 ?rest4
      case hy4 => (intro w0 hSw; obtain ⟨s0, s1⟩ := hSw; first | (go_simp; done) | (go_simp; with_reducible rfl))
      simp only [List.setIfInBounds_toArray, List.set_cons_zero, List.set_cons_succ]
      refine takeD 27 (i := 4) (v := ?v5) rfl rfl (by kernel_rfl) (by kernel_rfl) (by kernel_rfl) (fun _ _ _ h => h) (by kernel_rfl) ?hy5 hS0 ?rest5
      case hy5 => (intro w0 hSw; obtain ⟨s0, s1⟩ := hSw; first | (go_simp; done) | (go_simp; with_reducible rfl))
      simp only [List.setIfInBounds_toArray, List.set_cons_zero, List.set_cons_succ]
      refine onlyD 28 (i := 5) rfl rfl (by kernel_rfl) (by kernel_rfl) (fun K hK => ?_)
      go_simp
      go_at_call 59
      refine (kindText_bel HT1.out _).mono ?_
      rintro e whb11 ⟨rfl, hb11⟩
      have hS1 := HKEEP.out _ ((((Bel.refl W8).drew).trans hb11).pv b)
      refine hK.out _ _ hS1 (fun _ => ?_)
      clear hK K
      simp only [List.setIfInBounds_toArray, List.set_cons_zero, List.set_cons_succ]
      refine onlyD 29 (i := 6) rfl rfl (by kernel_rfl) (by kernel_rfl) (fun K hK => ?_)
      go_simp
      refine hK.out _ _ (HKEEP.out _ (((((Bel.refl W8).drew).trans hb11).alloc _ _).pv b)) (fun hM1 => ?_)
      clear hK K
      simp only [List.setIfInBounds_toArray, List.set_cons_zero, List.set_cons_succ]
      refine onlyD 30 (i := 7) rfl rfl (by kernel_rfl) (by kernel_rfl) (fun K hK => ?_)
      go_simp
      go_at_call 57
      refine (line_st [⟨#[100, 101, 118, 105, 99, 101, 32]⟩, x.name, ⟨#[32]⟩, T1] W0 _ b _ _ _ k (HSj.out.keep ((((Bel.refl W8).drew).trans hb11).alloc _ _)) (heap_alloc_new _ _) (by rw [HL.out, List.length_append, List.length_append]; omega) (by simp)).mono ?_
      rintro r w5 ⟨rfl, hst, hpv⟩
      have hS2 := HKEEP.out _ ((((((Bel.refl W8).drew).trans hb11).alloc _ _).pv b).trans hpv)
      refine hK.out _ _ hS2 (fun _ => ?_)
      clear hK K
      simp only [List.setIfInBounds_toArray, List.set_cons_zero, List.set_cons_succ]
      refine wpAnyH_done (by kernel_rfl) ?_ _
      rw [HL.out] at hst
      have HPj := Lib.hid (HPj.out.trans ((((((Bel.refl W8).drew).trans hb11).alloc _ _).pv b).trans hpv))
      have HXj := Lib.hid (((((((Bel.refl W8).drew).trans hb11).alloc _ _).pv b).trans hpv).stays HXj.out HGB.out (by decide))
      have hst' : StP W0 b (l ++ A ++ (p.devs.take (j + 1)).flatMap (devK k)) (k : Int) w5 := by rw [HE1.out, ← List.append_assoc]; exact hst
      have HSj := Lib.hid hst'
      clear hst hst' hpv HKEEP hb11 hS0 hS1 hS2 hM1
      go_wp2_with fail
      go_roundg (gk - 1)
      case measure => omega
      case rel => exact ⟨j + 1, by omega, by go_num, HSj, HPj, HXj⟩

    · obtain rfl : n1 = j := by omega
      have hfl : (p.devs.take n1).flatMap (devK k) = D := by rw [List.take_of_length_le (Nat.le_of_eq HN1.out)]; exact HD.out
      rw [hfl] at HSj
      have HST := HSj
      have HPV := HPj
      have HX := HXj
      clear hfl
      have m0 := cell_of_heap HX.out 0
      have m1 := cell_of_heap HX.out 1
      have m2 := cell_of_heap HX.out 2
      have m3 := cell_of_heap HX.out 3
      simp only [List.getElem?_toArray, List.getElem?_cons_zero, List.getElem?_cons_succ] at m0 m1 m2 m3
      go_wp2_with fail
      clear m0 m1 m2 m3
      obtain ⟨wq, hwq⟩ : ∃ W, wr = W := ⟨_, rfl⟩
      rw [hwq] at HST HPV HX ⊢
      clear hwq HSj HPj HXj
      go_loopg [35] n2 (fun gk jj wx => ∃ j : Nat, j + gk = n2 ∧ jj = .int .i64 j ∧ Hid (StP W0 b (l ++ A ++ D ++ (p.rscs.take j).flatMap (rscK k)) (k : Int) wx) ∧ Hid (Pv b w wx) ∧ Hid (wx.heap[g9]? = some (.cells #[.int .i64 p.harts, .slice q1 n1 c1, .slice q2 n2 c2, .slice q3 n3 c3] 28 (0, 0))))
      case atStart => exact ⟨0, by omega, rfl, by simpa using HST, HPV, HX⟩
      case round =>
        obtain ⟨j, hjg, rfl, HSj, HPj, HXj⟩ := hrel
        by_cases hlt : j < n2
        · obtain ⟨x, hx⟩ : ∃ x, p.rscs[j]? = some x := ⟨_, List.getElem?_eq_getElem (by rw [HN2.out]; exact hlt)⟩
          have e1 := flatMap_take (rscK k) hx
          have e2 := flatMap_le (rscK k) p.rscs (j + 1)
          rw [e1, List.length_append, HR.out] at e2
          have HE1 := Lib.hid e1
          have hk1 : (j : Int) < (n2 : Int) := by omega
          have HMX := Lib.hid (List.mem_of_getElem? hx)
          obtain ⟨hwx, bb, o, hq, hbl, z0, z1⟩ := HE.out.rscs j x hx
          subst hq
          have z0 := (HSj.out.bel.cell (p := ⟨bb, o + j * 2, none⟩) hbl).trans z0
          have z1 := (HSj.out.bel.cell (p := ⟨bb, o + j * 2 + 1, none⟩) hbl).trans z1
          obtain ⟨T1, hT1⟩ : ∃ U, str (Lib.itoa x.words) = U := ⟨_, rfl⟩
          have hD1 : T1.data.toList = numT x.words := by rw [← hT1, str_list]; rfl
          have HT1 := Lib.hid hT1
          have hbx := HOK.out.rscs x HMX.out
          clear hT1
          have hLL : lineT k (pcs [⟨#[114, 101, 115, 111, 117, 114, 99, 101, 32]⟩, x.name, ⟨#[32]⟩, T1]) = (rscK k) x := by
            unfold pcs rscK nm
            simp only [List.map_cons, List.map_nil, hD1]
          have HL := Lib.hid hLL
          clear hx e1 hLL
          go_upto_region 10 with (fail)
          have hb9 := (Bel.refl wr).alloc #[.string x.name, .int .i64 x.words] 67
          have hx9 := heap_alloc_new wr (.cells #[.string x.name, .int .i64 x.words] 67)
          have hgn : wr.heap.size ≠ b := by have := HSj.out.ne.2.1; omega
          generalize wr.alloc (.cells #[.string x.name, .int .i64 x.words] 67) = W8 at hb9 hx9 ⊢
          generalize wr.heap.size = g8 at hx9 hgn ⊢
          have HX8 := Lib.hid hx9
          have HG8 := Lib.hid hgn
          have HSj := Lib.hid (HSj.out.keep hb9)
          have HPj := Lib.hid (HPj.out.trans (hb9.pv b))
          have HXj := Lib.hid (hb9.stays HXj.out)
          have HKEEP : Hid (∀ w', Pv b W8 w' → SD g8 x.name x.words w') := Lib.hid (fun w' hv => ⟨cell_of_heap (hv.stays HX8.out HG8.out (by decide)) 0, cell_of_heap (hv.stays HX8.out HG8.out (by decide)) 1⟩)
          clear hb9 hx9 hgn z0 z1
          refine wp_region_held_drew (S := (SD g8 x.name x.words)) (by kernel_rfl) (HKEEP.out _ (((Bel.refl W8).drew).pv b)) (fun hS0 => ?_)
          refine takeD 39 (i := 0) (v := ?v6) rfl rfl (by kernel_rfl) (by kernel_rfl) (by kernel_rfl) (fun _ _ _ h => h) (by kernel_rfl) ?hy6 hS0 ?rest6
          case hy6 => (intro w0 hSw; obtain ⟨s0, s1⟩ := hSw; first | (go_simp; done) | (go_simp; with_reducible rfl))
          simp only [List.setIfInBounds_toArray, List.set_cons_zero, List.set_cons_succ]
          refine takeD 40 (i := 1) (v := ?v7) rfl rfl (by kernel_rfl) (by kernel_rfl) (by kernel_rfl) (fun _ _ _ h => h) (by kernel_rfl) ?hy7 hS0 ?rest7
          case hy7 => (intro w0 hSw; obtain ⟨s0, s1⟩ := hSw; first | (go_simp; done) | (go_simp; with_reducible rfl))
          simp only [List.setIfInBounds_toArray, List.set_cons_zero, List.set_cons_succ]
          refine takeD 41 (i := 2) (v := ?v8) rfl rfl (by kernel_rfl) (by kernel_rfl) (by kernel_rfl) (fun _ _ _ h => h) (by kernel_rfl) ?hy8 hS0 ?rest8
          case hy8 => (intro w0 hSw; obtain ⟨s0, s1⟩ := hSw; first | (go_simp; done) | (go_simp; with_reducible rfl))
          simp only [List.setIfInBounds_toArray, List.set_cons_zero, List.set_cons_succ]
          refine takeD 42 (i := 3) (v := ?v9) rfl rfl (by kernel_rfl) (by kernel_rfl) (by kernel_rfl) (fun _ _ _ h => h) (by kernel_rfl) ?hy9 hS0 ?rest9
          case hy9 => (intro w0 hSw; obtain ⟨s0, s1⟩ := hSw; first | (go_simp; done) | (go_simp; with_reducible rfl))
          simp only [List.setIfInBounds_toArray, List.set_cons_zero, List.set_cons_succ]
          refine takeD 43 (i := 4) (v := ?v10) rfl rfl (by kernel_rfl) (by kernel_rfl) (by kernel_rfl) (fun _ _ _ h => h) (by kernel_rfl) ?hy10 hS0 ?rest10
          case hy10 => (intro w0 hSw; obtain ⟨s0, s1⟩ := hSw; first | (go_simp; done) | (go_simp; with_reducible rfl))
          simp only [List.setIfInBounds_toArray, List.set_cons_zero, List.set_cons_succ]
          refine onlyD 44 (i := 5) rfl rfl (by kernel_rfl) (by kernel_rfl) (fun K hK => ?_)
          go_simp
          go_at_call 58
          refine (itoa_lit HT1.out (by omega) (by omega) _ (HP.out.bel (HSj.out.bel.trans ((Bel.refl W8).drew)))).mono ?_
          rintro e whb11 ⟨rfl, hb11⟩
          have hS1 := HKEEP.out _ ((((Bel.refl W8).drew).trans hb11).pv b)
          refine hK.out _ _ hS1 (fun _ => ?_)
          clear hK K
          simp only [List.setIfInBounds_toArray, List.set_cons_zero, List.set_cons_succ]
          refine onlyD 45 (i := 6) rfl rfl (by kernel_rfl) (by kernel_rfl) (fun K hK => ?_)
          go_simp
          refine hK.out _ _ (HKEEP.out _ (((((Bel.refl W8).drew).trans hb11).alloc _ _).pv b)) (fun hM2 => ?_)
          clear hK K
          simp only [List.setIfInBounds_toArray, List.set_cons_zero, List.set_cons_succ]
          refine onlyD 46 (i := 7) rfl rfl (by kernel_rfl) (by kernel_rfl) (fun K hK => ?_)
          go_simp
          go_at_call 57
          refine (line_st [⟨#[114, 101, 115, 111, 117, 114, 99, 101, 32]⟩, x.name, ⟨#[32]⟩, T1] W0 _ b _ _ _ k (HSj.out.keep ((((Bel.refl W8).drew).trans hb11).alloc _ _)) (heap_alloc_new _ _) (by rw [HL.out, List.length_append, List.length_append, List.length_append]; omega) (by simp)).mono ?_
          rintro r w5 ⟨rfl, hst, hpv⟩
          have hS2 := HKEEP.out _ ((((((Bel.refl W8).drew).trans hb11).alloc _ _).pv b).trans hpv)
          refine hK.out _ _ hS2 (fun _ => ?_)
          clear hK K
          simp only [List.setIfInBounds_toArray, List.set_cons_zero, List.set_cons_succ]
          refine wpAnyH_done (by kernel_rfl) ?_ _
          rw [HL.out] at hst
          have HPj := Lib.hid (HPj.out.trans ((((((Bel.refl W8).drew).trans hb11).alloc _ _).pv b).trans hpv))
          have HXj := Lib.hid (((((((Bel.refl W8).drew).trans hb11).alloc _ _).pv b).trans hpv).stays HXj.out HGB.out (by decide))
          have hst' : StP W0 b (l ++ A ++ D ++ (p.rscs.take (j + 1)).flatMap (rscK k)) (k : Int) w5 := by rw [HE1.out, ← List.append_assoc]; exact hst
          have HSj := Lib.hid hst'
          clear hst hst' hpv HKEEP hb11 hS0 hS1 hS2 hM2
          go_wp2_with fail
          go_roundg (gk - 1)
          case measure => omega
          case rel => exact ⟨j + 1, by omega, by go_num, HSj, HPj, HXj⟩

        · obtain rfl : n2 = j := by omega
          have hfl : (p.rscs.take n2).flatMap (rscK k) = R := by rw [List.take_of_length_le (Nat.le_of_eq HN2.out)]; exact HR.out
          rw [hfl] at HSj
          have HST := HSj
          have HPV := HPj
          have HX := HXj
          clear hfl
          have m0 := cell_of_heap HX.out 0
          have m1 := cell_of_heap HX.out 1
          have m2 := cell_of_heap HX.out 2
          have m3 := cell_of_heap HX.out 3
          simp only [List.getElem?_toArray, List.getElem?_cons_zero, List.getElem?_cons_succ] at m0 m1 m2 m3
          go_wp2_with fail
          clear m0 m1 m2 m3
          obtain ⟨wq, hwq⟩ : ∃ W, wr = W := ⟨_, rfl⟩
          rw [hwq] at HST HPV HX ⊢
          clear hwq HSj HPj HXj
          go_loopg [51] n3 (fun gk jj wx => ∃ j : Nat, j + gk = n3 ∧ jj = .int .i64 j ∧ Hid (StP W0 b (l ++ A ++ D ++ R ++ (p.tasks.take j).flatMap (tskK d k)) (k : Int) wx) ∧ Hid (Pv b w wx) ∧ Hid (wx.heap[g9]? = some (.cells #[.int .i64 p.harts, .slice q1 n1 c1, .slice q2 n2 c2, .slice q3 n3 c3] 28 (0, 0))))
          case atStart => exact ⟨0, by omega, rfl, by simpa using HST, HPV, HX⟩
          case round =>
            obtain ⟨j, hjg, rfl, HSj, HPj, HXj⟩ := hrel
            by_cases hlt : j < n3
            · obtain ⟨x, hx⟩ : ∃ x, p.tasks[j]? = some x := ⟨_, List.getElem?_eq_getElem (by rw [HN3.out]; exact hlt)⟩
              have e1 := flatMap_take (tskK d k) hx
              have e2 := flatMap_le (tskK d k) p.tasks (j + 1)
              rw [e1, List.length_append, HT.out] at e2
              have HE1 := Lib.hid e1
              have hk1 : (j : Int) < (n3 : Int) := by omega
              have HMX := Lib.hid (List.mem_of_getElem? hx)
              obtain ⟨hwx, bb, o, q', c', hq, hbl, z0, z1, z2, z3, z4, z5, hsx⟩ := HE.out.tasks j x hx
              subst hq
              have z0 := (HSj.out.bel.cell (p := ⟨bb, o + j * 6, none⟩) hbl).trans z0
              have z1 := (HSj.out.bel.cell (p := ⟨bb, o + j * 6 + 1, none⟩) hbl).trans z1
              have z2 := (HSj.out.bel.cell (p := ⟨bb, o + j * 6 + 2, none⟩) hbl).trans z2
              have z3 := (HSj.out.bel.cell (p := ⟨bb, o + j * 6 + 3, none⟩) hbl).trans z3
              have z4 := (HSj.out.bel.cell (p := ⟨bb, o + j * 6 + 4, none⟩) hbl).trans z4
              have z5 := (HSj.out.bel.cell (p := ⟨bb, o + j * 6 + 5, none⟩) hbl).trans z5
              have HSX := Lib.hid hsx
              have HWX := Lib.hid hwx
              have HTO := Lib.hid (HOK.out.tasks x HMX.out)
              clear hx e1 hsx hwx
              go_upto_region 15 with (fail)
              have hb9 := (Bel.refl wr).alloc (tkA x q' c') 54
              have hx9 := heap_alloc_new wr (.cells (tkA x q' c') 54)
              generalize wr.alloc (.cells (tkA x q' c') 54) = W8 at hb9 hx9 ⊢
              generalize wr.heap.size = g8 at hx9 ⊢
              have HSj := Lib.hid (HSj.out.keep hb9)
              have HPj := Lib.hid (HPj.out.trans (hb9.pv b))
              have HXj := Lib.hid (hb9.stays HXj.out)
              clear hb9 z0 z1 z2 z3 z4 z5
              have z0 := cell_of_heap hx9 0
              have z1 := cell_of_heap hx9 1
              have z2 := cell_of_heap hx9 2
              have z3 := cell_of_heap hx9 3
              have z4 := cell_of_heap hx9 4
              have z5 := cell_of_heap hx9 5
              simp only [List.getElem?_toArray, List.getElem?_cons_zero, List.getElem?_cons_succ] at z0 z1 z2 z3 z4 z5
              clear hx9
              go_wp2_with fail
              refine (task_ok x HTO.out.1 HTO.out.2.1 HTO.out.2.2.1 HTO.out.2.2.2 W0 _ q' c' b _ k HSX.out HWX.out HTX.out HP.out HSj.out HKD.out (by rw [List.length_append, List.length_append, List.length_append, List.length_append]; omega)).mono ?_
              rintro r w5 ⟨rfl, hst, hpv⟩
              have HPj := Lib.hid (HPj.out.trans hpv)
              have HXj := Lib.hid (hpv.stays HXj.out HGB.out (by decide))
              have hst' : StP W0 b (l ++ A ++ D ++ R ++ (p.tasks.take (j + 1)).flatMap (tskK d k)) (k : Int) w5 := by rw [HE1.out, ← List.append_assoc]; exact hst
              have HSj := Lib.hid hst'
              clear hst hst' hpv z0 z1 z2 z3 z4 z5
              go_wp2_with fail
              go_roundg (gk - 1)
              case measure => omega
              case rel => exact ⟨j + 1, by omega, by go_num, HSj, HPj, HXj⟩

            · obtain rfl : n3 = j := by omega
              have hfl : (p.tasks.take n3).flatMap (tskK d k) = T := by rw [List.take_of_length_le (Nat.le_of_eq HN3.out)]; exact HT.out
              rw [hfl] at HSj
              have HST := HSj
              have HPV := HPj
              have HX := HXj
              clear hfl
              go_wp2_with fail
              go_end0
              have hfin := HST.out
              rw [show l ++ A ++ D ++ R ++ T = l ++ (A ++ D ++ R ++ T) by simp only [List.append_assoc]] at hfin
              exact ⟨rfl, hfin, HPV.out⟩
end Go.Proofs.YthlnjnmomnpnpaaGreatDoor
