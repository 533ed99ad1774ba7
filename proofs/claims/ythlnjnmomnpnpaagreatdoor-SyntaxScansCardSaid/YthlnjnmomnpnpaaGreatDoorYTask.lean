/- Package syntax: a task is printed. -/
import Derived.Test.YthlnjnmomnpnpaaGreatDoorYStmt
import Derived.Test.YthlnjnmomnpnpaaGreatDoorYRight
namespace Go.Proofs.YthlnjnmomnpnpaaGreatDoor
open Go.RowKit Tk Sy
set_option linter.unusedVariables false
set_option linter.unusedSimpArgs false
def tskK (d k : Nat) (t : Tsk) : Bs := (if t.handler = true then lineT k [[104, 97, 110, 100, 108, 101, 114, 32], nm t.name, [32], numT t.hart, [32], numT t.prio, [32], numT t.line, [32, 123]] else lineT k [[116, 97, 115, 107, 32], nm t.name, [32], numT t.hart, [32], numT t.prio, [32, 123]]) ++ t.body.flatMap (stT d (k + 1)) ++ lineT k [[125]]
theorem tsk_eq (t : Tsk) : tskT t = tskK 30 0 t := rfl
abbrev tkA (x : Tsk) (q : Option Addr) (c : Nat) : Array Value := #[.string x.name, .bool x.handler, .int .i64 x.hart, .int .i64 x.prio, .int .i64 x.line, .slice q x.body.length c]
def ST6 (g9 : Nat) (q : Option Addr) (c : Nat) (x : Tsk) (w' : World) : Prop := w'.cell? ⟨g9, 0, none⟩ = some (.string x.name) ∧ w'.cell? ⟨g9, 1, none⟩ = some (.bool x.handler) ∧ w'.cell? ⟨g9, 2, none⟩ = some (.int .i64 x.hart) ∧ w'.cell? ⟨g9, 3, none⟩ = some (.int .i64 x.prio) ∧ w'.cell? ⟨g9, 4, none⟩ = some (.int .i64 x.line) ∧ w'.cell? ⟨g9, 5, none⟩ = some (.slice q x.body.length c)
set_option maxRecDepth 100000 in
set_option maxHeartbeats 16000000 in
theorem task_n {d : Nat} (x : Tsk) (hh : x.handler = false) (hbd : areS d x.body = true) (h1 : 0 ≤ x.hart ∧ x.hart ≤ 3) (h2 : 1 ≤ x.prio ∧ x.prio ≤ 7) (h3 : 0 ≤ x.line ∧ x.line ≤ 7) (W0 w : World) (q : Option Addr) (c b : Nat) (l : Bs) (k : Nat) (hE : SAt W0 q x.body) (hw : WfT x) (hX : Texts W0) (hP : PowAt W0) (hST : StP W0 b l (k : Int) w) (hkd : k + 1 + d ≤ 1000) (hlen : l.length + (tskK d k x).length ≤ 70368744177664) :
    Calls Tryz.prog 60 #[.pointer (some ⟨b, 0, none⟩), tskV q c x] w fun r w' => r = .returned (.tuple #[]) ∧ StP W0 b (l ++ tskK d k x) (k : Int) w' ∧ Pv b w w' := by
  obtain ⟨U1, hU1⟩ : ∃ U, str (Lib.itoa x.hart) = U := ⟨_, rfl⟩
  have hD1 : U1.data.toList = numT x.hart := by rw [← hU1, str_list]; rfl
  have HU1 := Lib.hid hU1
  obtain ⟨U2, hU2⟩ : ∃ U, str (Lib.itoa x.prio) = U := ⟨_, rfl⟩
  have hD2 : U2.data.toList = numT x.prio := by rw [← hU2, str_list]; rfl
  have HU2 := Lib.hid hU2
  obtain ⟨A, hA⟩ : ∃ A, lineT k (pcs [⟨#[116, 97, 115, 107, 32]⟩, x.name, ⟨#[32]⟩, U1, ⟨#[32]⟩, U2, ⟨#[32, 123]⟩]) = A := ⟨_, rfl⟩
  obtain ⟨C, hC⟩ : ∃ C, lineT k (pcs [⟨#[125]⟩]) = C := ⟨_, rfl⟩
  obtain ⟨S, hS⟩ : ∃ S, x.body.flatMap (stT d (k + 1)) = S := ⟨_, rfl⟩
  have hTXT : tskK d k x = A ++ S ++ C := by
    rw [← hA, ← hC, ← hS]
    unfold tskK pcs nm
    rw [if_neg (by rw [hh]; decide)]
    simp only [List.map_cons, List.map_nil, hD1, hD2]
  rw [hTXT, List.length_append, List.length_append] at hlen
  rw [hTXT]
  have HA := Lib.hid hA
  have HC := Lib.hid hC
  have HS := Lib.hid hS
  have HH := Lib.hid hh
  have HTN := Lib.hid hE
  have HTK := Lib.hid hbd
  have HLT := Lib.hid hw.body
  have HTX := Lib.hid hX
  have HP := Lib.hid hP
  have HKD := Lib.hid hkd
  have H1 := Lib.hid h1
  have H2 := Lib.hid h2
  have H3 := Lib.hid h3
  clear hTXT hA hC hS hh hE hbd hw hX hP hkd hU1 hU2 hD1 hD2 h1 h2 h3
  go_enter Tryz.func60, Tryz.ntmps60
  go_upto_region 1 with (fail)
  have hb9 := (Bel.refl w).alloc (tkA x q c) 54
  have hx9 := heap_alloc_new w (.cells (tkA x q c) 54)
  have hst := hST.keep hb9
  have hgb : w.heap.size ≠ b := by have := hST.ne.2.1; omega
  generalize w.alloc (.cells (tkA x q c) 54) = W9 at hb9 hx9 hst ⊢
  generalize w.heap.size = g9 at hx9 hgb ⊢
  have HST := Lib.hid hst
  have HX := Lib.hid hx9
  have HGB := Lib.hid hgb
  have HPV := Lib.hid (hb9.pv b)
  clear hst hx9 hgb hb9 hST
  have HKEEP : Hid (∀ w', Bel W9 w' → w'.cell? ⟨g9, 2, none⟩ = some (.int .i64 x.hart) ∧ w'.cell? ⟨g9, 3, none⟩ = some (.int .i64 x.prio)) := Lib.hid (fun w' hb => ⟨cell_of_heap (hb.stays HX.out) 2, cell_of_heap (hb.stays HX.out) 3⟩)
  go_region_held3 (fun w' => w'.cell? ⟨g9, 2, none⟩ = some (.int .i64 x.hart) ∧ w'.cell? ⟨g9, 3, none⟩ = some (.int .i64 x.prio))
    (first | exact HKEEP.out _ (((Bel.refl _).drew.trans hb11).trans hb12) | exact HKEEP.out _ ((Bel.refl _).drew.trans hb11) | exact HKEEP.out _ ((Bel.refl _).drew.trans hb12) | exact HKEEP.out _ (Bel.refl _).drew)
    (first
      | (go_at_call 58; with_reducible refine (itoa_lit HU1.out (by have := H1.out; omega) (by have := H1.out; omega) _ (HP.out.bel (HST.out.bel.trans (Bel.refl W9).drew))).mono ?_; rintro e' w0 ⟨rfl, hb11⟩)
      | (go_at_call 58; with_reducible refine (itoa_lit HU2.out (by have := H2.out; omega) (by have := H2.out; omega) _ (HP.out.bel (HST.out.bel.trans ((Bel.refl W9).drew.trans hb11)))).mono ?_; rintro e' w1 ⟨rfl, hb12⟩))
  have hbb := ((Bel.refl W9).drew.trans hb11).trans hb12
  have HPV := Lib.hid (HPV.out.trans (hbb.pv b))
  have HX := Lib.hid (hbb.stays HX.out)
  have HST := Lib.hid (HST.out.keep hbb)
  clear hb11 hb12 hbb HKEEP
  rename_i hh
  clear hh
  have m0 := cell_of_heap HX.out 0
  have m1 := cell_of_heap HX.out 1
  have m2 := cell_of_heap HX.out 2
  have m3 := cell_of_heap HX.out 3
  have m4 := cell_of_heap HX.out 4
  have m5 := cell_of_heap HX.out 5
  simp only [List.getElem?_toArray, List.getElem?_cons_zero, List.getElem?_cons_succ] at m0 m1 m2 m3 m4 m5
  rw [HH.out] at m1
  go_wp2_with fail
  refine (line_st [⟨#[116, 97, 115, 107, 32]⟩, x.name, ⟨#[32]⟩, U1, ⟨#[32]⟩, U2, ⟨#[32, 123]⟩] W0 _ b _ _ l k (HST.out.keep ((Bel.refl _).alloc _ _)) (heap_alloc_new _ _) (by rw [HA.out]; omega) (by simp)).mono ?_
  rintro r w1 ⟨rfl, hst, hpv⟩
  rw [HA.out] at hst
  have HPV := Lib.hid (HPV.out.trans ((((Bel.refl _).alloc _ _).pv b).trans hpv))
  have HX := Lib.hid (((((Bel.refl _).alloc _ _).pv b).trans hpv).stays HX.out HGB.out (by decide))
  have HST := Lib.hid hst
  clear hst hpv m0 m1 m2 m3 m4 m5
  have m0 := cell_of_heap HX.out 0
  have m1 := cell_of_heap HX.out 1
  have m2 := cell_of_heap HX.out 2
  have m3 := cell_of_heap HX.out 3
  have m4 := cell_of_heap HX.out 4
  have m5 := cell_of_heap HX.out 5
  simp only [List.getElem?_toArray, List.getElem?_cons_zero, List.getElem?_cons_succ] at m0 m1 m2 m3 m4 m5
  go_wp2_with fail
  refine (inner_ok (stmt_ok d) x.body W0 _ q c b (l ++ A) k S HS.out HTK.out HTN.out HLT.out HTX.out HP.out HST.out HKD.out (by rw [List.length_append]; omega)).mono ?_
  rintro r w1 ⟨rfl, hst, hpv⟩
  have HPV := Lib.hid (HPV.out.trans hpv)
  have HX := Lib.hid (hpv.stays HX.out HGB.out (by decide))
  have HST := Lib.hid hst
  clear hst hpv m0 m1 m2 m3 m4 m5
  have m0 := cell_of_heap HX.out 0
  have m1 := cell_of_heap HX.out 1
  have m2 := cell_of_heap HX.out 2
  have m3 := cell_of_heap HX.out 3
  have m4 := cell_of_heap HX.out 4
  have m5 := cell_of_heap HX.out 5
  simp only [List.getElem?_toArray, List.getElem?_cons_zero, List.getElem?_cons_succ] at m0 m1 m2 m3 m4 m5
  go_wp2_with fail
  refine (line_st [⟨#[125]⟩] W0 _ b _ _ (l ++ A ++ S) k (HST.out.keep ((Bel.refl _).alloc _ _)) (heap_alloc_new _ _) (by rw [HC.out, List.length_append, List.length_append]; omega) (by simp)).mono ?_
  rintro r w1 ⟨rfl, hst, hpv⟩
  rw [HC.out] at hst
  have HPV := Lib.hid (HPV.out.trans ((((Bel.refl _).alloc _ _).pv b).trans hpv))
  have HX := Lib.hid (((((Bel.refl _).alloc _ _).pv b).trans hpv).stays HX.out HGB.out (by decide))
  have HST := Lib.hid hst
  clear hst hpv m0 m1 m2 m3 m4 m5
  go_wp2_with fail
  go_end0
  have hfin := HST.out
  rw [show l ++ A ++ S ++ C = l ++ (A ++ S ++ C) by simp only [List.append_assoc]] at hfin
  exact ⟨rfl, hfin, HPV.out⟩
set_option maxRecDepth 100000 in
set_option maxHeartbeats 16000000 in
theorem task_y {d : Nat} (x : Tsk) (hh : x.handler = true) (hbd : areS d x.body = true) (h1 : 0 ≤ x.hart ∧ x.hart ≤ 3) (h2 : 1 ≤ x.prio ∧ x.prio ≤ 7) (h3 : 0 ≤ x.line ∧ x.line ≤ 7) (W0 w : World) (q : Option Addr) (c b : Nat) (l : Bs) (k : Nat) (hE : SAt W0 q x.body) (hw : WfT x) (hX : Texts W0) (hP : PowAt W0) (hST : StP W0 b l (k : Int) w) (hkd : k + 1 + d ≤ 1000) (hlen : l.length + (tskK d k x).length ≤ 70368744177664) :
    Calls Tryz.prog 60 #[.pointer (some ⟨b, 0, none⟩), tskV q c x] w fun r w' => r = .returned (.tuple #[]) ∧ StP W0 b (l ++ tskK d k x) (k : Int) w' ∧ Pv b w w' := by
  obtain ⟨U1, hU1⟩ : ∃ U, str (Lib.itoa x.hart) = U := ⟨_, rfl⟩
  have hD1 : U1.data.toList = numT x.hart := by rw [← hU1, str_list]; rfl
  have HU1 := Lib.hid hU1
  obtain ⟨U2, hU2⟩ : ∃ U, str (Lib.itoa x.prio) = U := ⟨_, rfl⟩
  have hD2 : U2.data.toList = numT x.prio := by rw [← hU2, str_list]; rfl
  have HU2 := Lib.hid hU2
  obtain ⟨U3, hU3⟩ : ∃ U, str (Lib.itoa x.line) = U := ⟨_, rfl⟩
  have hD3 : U3.data.toList = numT x.line := by rw [← hU3, str_list]; rfl
  have HU3 := Lib.hid hU3
  obtain ⟨A, hA⟩ : ∃ A, lineT k (pcs [⟨#[104, 97, 110, 100, 108, 101, 114, 32]⟩, x.name, ⟨#[32]⟩, U1, ⟨#[32]⟩, U2, ⟨#[32]⟩, U3, ⟨#[32, 123]⟩]) = A := ⟨_, rfl⟩
  obtain ⟨C, hC⟩ : ∃ C, lineT k (pcs [⟨#[125]⟩]) = C := ⟨_, rfl⟩
  obtain ⟨S, hS⟩ : ∃ S, x.body.flatMap (stT d (k + 1)) = S := ⟨_, rfl⟩
  have hTXT : tskK d k x = A ++ S ++ C := by
    rw [← hA, ← hC, ← hS]
    unfold tskK pcs nm
    rw [if_pos hh]
    simp only [List.map_cons, List.map_nil, hD1, hD2, hD3]
  rw [hTXT, List.length_append, List.length_append] at hlen
  rw [hTXT]
  have HA := Lib.hid hA
  have HC := Lib.hid hC
  have HS := Lib.hid hS
  have HH := Lib.hid hh
  have HTN := Lib.hid hE
  have HTK := Lib.hid hbd
  have HLT := Lib.hid hw.body
  have HTX := Lib.hid hX
  have HP := Lib.hid hP
  have HKD := Lib.hid hkd
  have H1 := Lib.hid h1
  have H2 := Lib.hid h2
  have H3 := Lib.hid h3
  clear hTXT hA hC hS hh hE hbd hw hX hP hkd hU1 hU2 hD1 hD2 h1 h2 h3 hU3 hD3
  go_enter Tryz.func60, Tryz.ntmps60
  go_upto_region 1 with (fail)
  have hb9 := (Bel.refl w).alloc (tkA x q c) 54
  have hx9 := heap_alloc_new w (.cells (tkA x q c) 54)
  have hst := hST.keep hb9
  have hgb : w.heap.size ≠ b := by have := hST.ne.2.1; omega
  generalize w.alloc (.cells (tkA x q c) 54) = W9 at hb9 hx9 hst ⊢
  generalize w.heap.size = g9 at hx9 hgb ⊢
  have HST := Lib.hid hst
  have HX := Lib.hid hx9
  have HGB := Lib.hid hgb
  have HPV := Lib.hid (hb9.pv b)
  clear hst hx9 hgb hb9 hST
  have HKEEP : Hid (∀ w', Bel W9 w' → w'.cell? ⟨g9, 2, none⟩ = some (.int .i64 x.hart) ∧ w'.cell? ⟨g9, 3, none⟩ = some (.int .i64 x.prio)) := Lib.hid (fun w' hb => ⟨cell_of_heap (hb.stays HX.out) 2, cell_of_heap (hb.stays HX.out) 3⟩)
  go_region_held3 (fun w' => w'.cell? ⟨g9, 2, none⟩ = some (.int .i64 x.hart) ∧ w'.cell? ⟨g9, 3, none⟩ = some (.int .i64 x.prio))
    (first | exact HKEEP.out _ (((Bel.refl _).drew.trans hb11).trans hb12) | exact HKEEP.out _ ((Bel.refl _).drew.trans hb11) | exact HKEEP.out _ ((Bel.refl _).drew.trans hb12) | exact HKEEP.out _ (Bel.refl _).drew)
    (first
      | (go_at_call 58; with_reducible refine (itoa_lit HU1.out (by have := H1.out; omega) (by have := H1.out; omega) _ (HP.out.bel (HST.out.bel.trans (Bel.refl W9).drew))).mono ?_; rintro e' w0 ⟨rfl, hb11⟩)
      | (go_at_call 58; with_reducible refine (itoa_lit HU2.out (by have := H2.out; omega) (by have := H2.out; omega) _ (HP.out.bel (HST.out.bel.trans ((Bel.refl W9).drew.trans hb11)))).mono ?_; rintro e' w1 ⟨rfl, hb12⟩))
  have hbb := ((Bel.refl W9).drew.trans hb11).trans hb12
  have HPV := Lib.hid (HPV.out.trans (hbb.pv b))
  have HX := Lib.hid (hbb.stays HX.out)
  have HST := Lib.hid (HST.out.keep hbb)
  clear hb11 hb12 hbb HKEEP
  rename_i hh
  clear hh
  obtain ⟨W8, hW8⟩ : ∃ W, W = w1 := ⟨_, rfl⟩
  rw [← hW8] at HPV HX HST ⊢
  clear hW8
  have m0 := cell_of_heap HX.out 0
  have m1 := cell_of_heap HX.out 1
  have m2 := cell_of_heap HX.out 2
  have m3 := cell_of_heap HX.out 3
  have m4 := cell_of_heap HX.out 4
  have m5 := cell_of_heap HX.out 5
  simp only [List.getElem?_toArray, List.getElem?_cons_zero, List.getElem?_cons_succ] at m0 m1 m2 m3 m4 m5
  rw [HH.out] at m1
  have HKEEP : Hid (∀ w', Pv b W8 w' → ST6 g9 q c x w') := Lib.hid (fun w' hv => ⟨cell_of_heap (hv.stays HX.out HGB.out (by decide)) 0, cell_of_heap (hv.stays HX.out HGB.out (by decide)) 1, cell_of_heap (hv.stays HX.out HGB.out (by decide)) 2, cell_of_heap (hv.stays HX.out HGB.out (by decide)) 3, cell_of_heap (hv.stays HX.out HGB.out (by decide)) 4, cell_of_heap (hv.stays HX.out HGB.out (by decide)) 5⟩)
  go_upto_region 3 with (fail)
  refine wp_region_held_drew (S := (ST6 g9 q c x)) (by kernel_rfl) (HKEEP.out _ (((Bel.refl W8).drew).pv b)) (fun hS0 => ?_)
  refine takeD 14 (i := 0) (v := ?v1) rfl rfl (by kernel_rfl) (by kernel_rfl) (by kernel_rfl) (fun _ _ _ h => h) (by kernel_rfl) ?hy1 hS0 ?rest1
  case hy1 => (intro w0 hSw; obtain ⟨s0, s1, s2, s3, s4, s5⟩ := hSw; first | (go_simp; done) | (go_simp; with_reducible rfl))
  simp only [List.setIfInBounds_toArray, List.set_cons_zero, List.set_cons_succ]
  refine takeD 15 (i := 1) (v := ?v2) rfl rfl (by kernel_rfl) (by kernel_rfl) (by kernel_rfl) (fun _ _ _ h => h) (by kernel_rfl) ?hy2 hS0 ?rest2
  case hy2 => (intro w0 hSw; obtain ⟨s0, s1, s2, s3, s4, s5⟩ := hSw; first | (go_simp; done) | (go_simp; with_reducible rfl))
  simp only [List.setIfInBounds_toArray, List.set_cons_zero, List.set_cons_succ]
  refine takeD 16 (i := 2) (v := ?v3) rfl rfl (by kernel_rfl) (by kernel_rfl) (by kernel_rfl) (fun _ _ _ h => h) (by kernel_rfl) ?hy3 hS0 ?rest3
  case hy3 => (intro w0 hSw; obtain ⟨s0, s1, s2, s3, s4, s5⟩ := hSw; first | (go_simp; done) | (go_simp; with_reducible rfl))
  simp only [List.setIfInBounds_toArray, List.set_cons_zero, List.set_cons_succ]
  refine takeD 17 (i := 3) (v := ?v4) rfl rfl (by kernel_rfl) (by kernel_rfl) (by kernel_rfl) (fun _ _ _ h => h) (by kernel_rfl) ?hy4 hS0 ?rest4
  case hy4 => (intro w0 hSw; obtain ⟨s0, s1, s2, s3, s4, s5⟩ := hSw; first | (go_simp; done) | (go_simp; with_reducible rfl))
  simp only [List.setIfInBounds_toArray, List.set_cons_zero, List.set_cons_succ]
  refine takeD 18 (i := 4) (v := ?v5) rfl rfl (by kernel_rfl) (by kernel_rfl) (by kernel_rfl) (fun _ _ _ h => h) (by kernel_rfl) ?hy5 hS0 ?rest5
  case hy5 => (intro w0 hSw; obtain ⟨s0, s1, s2, s3, s4, s5⟩ := hSw; first | (go_simp; done) | (go_simp; with_reducible rfl))
  simp only [List.setIfInBounds_toArray, List.set_cons_zero, List.set_cons_succ]
  refine takeD 19 (i := 5) (v := ?v6) rfl rfl (by kernel_rfl) (by kernel_rfl) (by kernel_rfl) (fun _ _ _ h => h) (by kernel_rfl) ?hy6 hS0 ?rest6
  case hy6 => (intro w0 hSw; obtain ⟨s0, s1, s2, s3, s4, s5⟩ := hSw; first | (go_simp; done) | (go_simp; with_reducible rfl))
  simp only [List.setIfInBounds_toArray, List.set_cons_zero, List.set_cons_succ]
  refine takeD 20 (i := 6) (v := ?v7) rfl rfl (by kernel_rfl) (by kernel_rfl) (by kernel_rfl) (fun _ _ _ h => h) (by kernel_rfl) ?hy7 hS0 ?rest7
  case hy7 => (intro w0 hSw; obtain ⟨s0, s1, s2, s3, s4, s5⟩ := hSw; first | (go_simp; done) | (go_simp; with_reducible rfl))
  simp only [List.setIfInBounds_toArray, List.set_cons_zero, List.set_cons_succ]
  refine onlyD 21 (i := 7) rfl rfl (by kernel_rfl) (by kernel_rfl) (fun K hK => ?_)
  go_simp
  go_at_call 58
  refine (itoa_lit HU3.out (by have := H3.out; omega) (by have := H3.out; omega) _ (HP.out.bel (HST.out.bel.trans ((Bel.refl W8).drew)))).mono ?_
  rintro e whb11 ⟨rfl, hb11⟩
  have hS1 := HKEEP.out _ ((((Bel.refl W8).drew).trans hb11).pv b)
  refine hK.out _ _ hS1 (fun _ => ?_)
  clear hK K
  simp only [List.setIfInBounds_toArray, List.set_cons_zero, List.set_cons_succ]
  refine onlyD 22 (i := 8) rfl rfl (by kernel_rfl) (by kernel_rfl) (fun K hK => ?_)
  go_simp
  refine hK.out _ _ (HKEEP.out _ (((((Bel.refl W8).drew).trans hb11).alloc _ _).pv b)) (fun hM1 => ?_)
  clear hK K
  simp only [List.setIfInBounds_toArray, List.set_cons_zero, List.set_cons_succ]
  refine onlyD 23 (i := 9) rfl rfl (by kernel_rfl) (by kernel_rfl) (fun K hK => ?_)
  go_simp
  go_at_call 57
  refine (line_st [⟨#[104, 97, 110, 100, 108, 101, 114, 32]⟩, x.name, ⟨#[32]⟩, U1, ⟨#[32]⟩, U2, ⟨#[32]⟩, U3, ⟨#[32, 123]⟩] W0 _ b _ _ l k (HST.out.keep ((((Bel.refl W8).drew).trans hb11).alloc _ _)) (heap_alloc_new _ _) (by rw [HA.out]; omega) (by simp)).mono ?_
  rintro r w1 ⟨rfl, hst, hpv⟩
  have hS2 := HKEEP.out _ ((((((Bel.refl W8).drew).trans hb11).alloc _ _).pv b).trans hpv)
  refine hK.out _ _ hS2 (fun _ => ?_)
  clear hK K
  simp only [List.setIfInBounds_toArray, List.set_cons_zero, List.set_cons_succ]
  refine wpAnyH_done (by kernel_rfl) ?_ _
  rw [HA.out] at hst
  have HPV := Lib.hid (HPV.out.trans ((((((Bel.refl W8).drew).trans hb11).alloc _ _).pv b).trans hpv))
  have HX := Lib.hid (((((((Bel.refl W8).drew).trans hb11).alloc _ _).pv b).trans hpv).stays HX.out HGB.out (by decide))
  have HST := Lib.hid hst
  clear hst hpv m0 m1 m2 m3 m4 m5 HKEEP hb11 hS0 hS1 hS2 hM1
  have m0 := cell_of_heap HX.out 0
  have m1 := cell_of_heap HX.out 1
  have m2 := cell_of_heap HX.out 2
  have m3 := cell_of_heap HX.out 3
  have m4 := cell_of_heap HX.out 4
  have m5 := cell_of_heap HX.out 5
  simp only [List.getElem?_toArray, List.getElem?_cons_zero, List.getElem?_cons_succ] at m0 m1 m2 m3 m4 m5
  go_wp2_with fail
  refine (inner_ok (stmt_ok d) x.body W0 _ q c b (l ++ A) k S HS.out HTK.out HTN.out HLT.out HTX.out HP.out HST.out HKD.out (by rw [List.length_append]; omega)).mono ?_
  rintro r w1 ⟨rfl, hst, hpv⟩
  have HPV := Lib.hid (HPV.out.trans hpv)
  have HX := Lib.hid (hpv.stays HX.out HGB.out (by decide))
  have HST := Lib.hid hst
  clear hst hpv m0 m1 m2 m3 m4 m5
  have m0 := cell_of_heap HX.out 0
  have m1 := cell_of_heap HX.out 1
  have m2 := cell_of_heap HX.out 2
  have m3 := cell_of_heap HX.out 3
  have m4 := cell_of_heap HX.out 4
  have m5 := cell_of_heap HX.out 5
  simp only [List.getElem?_toArray, List.getElem?_cons_zero, List.getElem?_cons_succ] at m0 m1 m2 m3 m4 m5
  go_wp2_with fail
  refine (line_st [⟨#[125]⟩] W0 _ b _ _ (l ++ A ++ S) k (HST.out.keep ((Bel.refl _).alloc _ _)) (heap_alloc_new _ _) (by rw [HC.out, List.length_append, List.length_append]; omega) (by simp)).mono ?_
  rintro r w1 ⟨rfl, hst, hpv⟩
  rw [HC.out] at hst
  have HPV := Lib.hid (HPV.out.trans ((((Bel.refl _).alloc _ _).pv b).trans hpv))
  have HX := Lib.hid (((((Bel.refl _).alloc _ _).pv b).trans hpv).stays HX.out HGB.out (by decide))
  have HST := Lib.hid hst
  clear hst hpv m0 m1 m2 m3 m4 m5
  go_wp2_with fail
  go_end0
  have hfin := HST.out
  rw [show l ++ A ++ S ++ C = l ++ (A ++ S ++ C) by simp only [List.append_assoc]] at hfin
  exact ⟨rfl, hfin, HPV.out⟩
theorem task_ok {d : Nat} (x : Tsk) (hbd : areS d x.body = true) (h1 : 0 ≤ x.hart ∧ x.hart ≤ 3) (h2 : 1 ≤ x.prio ∧ x.prio ≤ 7) (h3 : 0 ≤ x.line ∧ x.line ≤ 7) (W0 w : World) (q : Option Addr) (c b : Nat) (l : Bs) (k : Nat) (hE : SAt W0 q x.body) (hw : WfT x) (hX : Texts W0) (hP : PowAt W0) (hST : StP W0 b l (k : Int) w) (hkd : k + 1 + d ≤ 1000) (hlen : l.length + (tskK d k x).length ≤ 70368744177664) :
    Calls Tryz.prog 60 #[.pointer (some ⟨b, 0, none⟩), tskV q c x] w fun r w' => r = .returned (.tuple #[]) ∧ StP W0 b (l ++ tskK d k x) (k : Int) w' ∧ Pv b w w' := by
  cases hh : x.handler with
  | true => exact task_y x hh hbd h1 h2 h3 W0 w q c b l k hE hw hX hP hST hkd hlen
  | false => exact task_n x hh hbd h1 h2 h3 W0 w q c b l k hE hw hX hP hST hkd hlen
end Go.Proofs.YthlnjnmomnpnpaaGreatDoor
