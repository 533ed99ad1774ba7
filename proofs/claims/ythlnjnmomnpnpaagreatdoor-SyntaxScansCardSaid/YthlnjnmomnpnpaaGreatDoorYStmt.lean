/- Package syntax: statements are printed. -/
import Derived.Test.YthlnjnmomnpnpaaGreatDoorYInner
import Derived.Deep.RegionHeld3
namespace Go.Proofs.YthlnjnmomnpnpaaGreatDoor
open Go.RowKit Tk Sy
set_option linter.unusedVariables false
set_option linter.unusedSimpArgs false
theorem st_of {d : Nat} {x : St} (h : bodyS (d + 1) x = true) : fitsS (sShp x.kind) x = true ∧ (∀ (i : Nat) (a : Ex), x.args[i]? = some a → bodyE 30 a = true) ∧ areS d x.thn = true ∧ areS d x.els = true ∧ (x.kind = 1 ∨ x.kind = 2 ∨ x.kind = 3 ∨ x.kind = 4 ∨ x.kind = 5 ∨ x.kind = 6 ∨ x.kind = 7 ∨ x.kind = 8) := by
  have h' : (fitsS (sShp x.kind) x && (areE 30 x.args && (areS d x.thn && areS d x.els))) = true := h
  simp only [Bool.and_eq_true] at h'
  obtain ⟨hf, ha, ht, hl⟩ := h'
  refine ⟨hf, fun i a hi => ?_, ht, hl, ?_⟩
  · rw [areE_all, List.all_eq_true] at ha
    exact ha a (List.mem_of_getElem? hi)
  · by_cases hk : x.kind = 1 ∨ x.kind = 2 ∨ x.kind = 3 ∨ x.kind = 4 ∨ x.kind = 5 ∨ x.kind = 6 ∨ x.kind = 7 ∨ x.kind = 8
    · exact hk
    · have : sShp x.kind = noShp := by unfold sShp; rw [if_neg (by omega), if_neg (by omega), if_neg (by omega), if_neg (by omega), if_neg (by omega), if_neg (by omega), if_neg (by omega), if_neg (by omega)]
      rw [this] at hf
      simp [fitsS, noShp] at hf
theorem fitsS_parts {x : St} {s : Shp} (h : fitsS s x = true) : (x.args.length : Int) = s.args ∧ 0 ≤ x.n ∧ x.n ≤ s.most := by
  unfold fitsS within at h
  simp only [Bool.and_eq_true, decide_eq_true_eq] at h
  exact ⟨h.2.2.2.2.1, h.2.2.2.1.1, h.2.2.2.1.2⟩
theorem stT_1 {d k : Nat} {x : St} (h : x.kind = 1) : stT (d + 1) k x = lineT k [nm x.name, [32, 61, 32], exT 30 (argAt x.args 0), [59]] := by show (if _ then _ else _) = _; rw [if_pos h]
theorem stT_2 {d k : Nat} {x : St} (h : x.kind = 2) : stT (d + 1) k x = lineT k [nm x.name, [32, 61, 32], nm x.src, [46], numT x.n, [59]] := by show (if _ then _ else _) = _; rw [if_neg (by omega), if_pos h]
theorem stT_3 {d k : Nat} {x : St} (h : x.kind = 3) : stT (d + 1) k x = lineT k [nm x.name, [46], numT x.n, [32, 61, 32], exT 30 (argAt x.args 0), [59]] := by show (if _ then _ else _) = _; rw [if_neg (by omega), if_neg (by omega), if_pos h]
theorem stT_4 {d k : Nat} {x : St} (h : x.kind = 4) : stT (d + 1) k x = lineT k [nm x.name, [91], exT 30 (argAt x.args 0), [93, 32, 61, 32], exT 30 (argAt x.args 1), [59]] := by show (if _ then _ else _) = _; rw [if_neg (by omega), if_neg (by omega), if_neg (by omega), if_pos h]
theorem stT_5 {d k : Nat} {x : St} (h : x.kind = 5) : stT (d + 1) k x = lineT k [[108, 111, 99, 107, 32], nm x.name, [32, 123]] ++ x.thn.flatMap (stT d (k + 1)) ++ lineT k [[125]] := by show (if _ then _ else _) = _; rw [if_neg (by omega), if_neg (by omega), if_neg (by omega), if_neg (by omega), if_pos h]
theorem stT_6 {d k : Nat} {x : St} (h : x.kind = 6) : stT (d + 1) k x = lineT k [[105, 102, 32, 40], exT 30 (argAt x.args 0), [41, 32, 123]] ++ x.thn.flatMap (stT d (k + 1)) ++ (if 0 < x.els.length then lineT k [[125, 32, 101, 108, 115, 101, 32, 123]] ++ x.els.flatMap (stT d (k + 1)) else []) ++ lineT k [[125]] := by show (if _ then _ else _) = _; rw [if_neg (by omega), if_neg (by omega), if_neg (by omega), if_neg (by omega), if_neg (by omega), if_pos h]
theorem stT_7 {d k : Nat} {x : St} (h : x.kind = 7) : stT (d + 1) k x = lineT k [[114, 101, 112, 101, 97, 116, 32], numT x.n, [32, 123]] ++ x.thn.flatMap (stT d (k + 1)) ++ lineT k [[125]] := by show (if _ then _ else _) = _; rw [if_neg (by omega), if_neg (by omega), if_neg (by omega), if_neg (by omega), if_neg (by omega), if_neg (by omega), if_pos h]
theorem stT_8 {d k : Nat} {x : St} (h : x.kind = 8) : stT (d + 1) k x = lineT k [[104, 97, 108, 116, 59]] := by show (if _ then _ else _) = _; rw [if_neg (by omega), if_neg (by omega), if_neg (by omega), if_neg (by omega), if_neg (by omega), if_neg (by omega), if_neg (by omega), if_pos h]
def SB (g9 : Nat) (q : Option Addr) (c : Nat) (q1 : Option Addr) (c1 : Nat) (q2 : Option Addr) (c2 : Nat) (x : St) (w' : World) : Prop := w'.cell? ⟨g9, 0, none⟩ = some (.int .i64 x.kind) ∧ w'.cell? ⟨g9, 1, none⟩ = some (.string x.name) ∧ w'.cell? ⟨g9, 2, none⟩ = some (.string x.src) ∧ w'.cell? ⟨g9, 3, none⟩ = some (.int .i64 x.n) ∧ w'.cell? ⟨g9, 4, none⟩ = some (.slice q x.args.length c) ∧ w'.cell? ⟨g9, 5, none⟩ = some (.slice q1 x.thn.length c1) ∧ w'.cell? ⟨g9, 6, none⟩ = some (.slice q2 x.els.length c2)
def SX (b o : Nat) (qa : Option Addr) (ca : Nat) (a : Ex) (w' : World) : Prop := w'.cell? ⟨b, o, none⟩ = some (.int .i64 a.kind) ∧ w'.cell? ⟨b, o + 1, none⟩ = some (.int .i64 a.op) ∧ w'.cell? ⟨b, o + 2, none⟩ = some (.int .i64 a.n) ∧ w'.cell? ⟨b, o + 3, none⟩ = some (.string a.name) ∧ w'.cell? ⟨b, o + 4, none⟩ = some (.slice qa a.args.length ca)
def SX2 (b o : Nat) (qa : Option Addr) (ca : Nat) (a : Ex) (w' : World) : Prop := w'.cell? ⟨b, o + 5, none⟩ = some (.int .i64 a.kind) ∧ w'.cell? ⟨b, o + 6, none⟩ = some (.int .i64 a.op) ∧ w'.cell? ⟨b, o + 7, none⟩ = some (.int .i64 a.n) ∧ w'.cell? ⟨b, o + 8, none⟩ = some (.string a.name) ∧ w'.cell? ⟨b, o + 9, none⟩ = some (.slice qa a.args.length ca)
set_option maxRecDepth 100000 in
set_option maxHeartbeats 8000000 in
theorem stmt_1 {d : Nat} (IH : StOk d) (x : St) (hk : x.kind = 1) (W0 w : World) (q q1 q2 : Option Addr) (c c1 c2 b : Nat) (l : Bs) (k : Nat) (hok : bodyS (d + 1) x = true) (hE : EAt W0 q x.args) (hTn : SAt W0 q1 x.thn) (hEl : SAt W0 q2 x.els) (hw : WfS x) (hX : Texts W0) (hP : PowAt W0) (hST : StP W0 b l (k : Int) w) (hkd : k + (d + 1) ≤ 1000) (hlen : l.length + (stT (d + 1) k x).length ≤ 70368744177664) :
    Calls Tryz.prog 118 #[.pointer (some ⟨b, 0, none⟩), stV q c q1 c1 q2 c2 x] w fun r w' => r = .returned (.tuple #[]) ∧ StP W0 b (l ++ stT (d + 1) k x) (k : Int) w' ∧ Pv b w w' := by
  obtain ⟨hf, hsub, htn, hel, _⟩ := st_of hok
  rw [hk] at hf
  obtain ⟨hla, hn0, hn1⟩ := fitsS_parts hf
  have hla' : (x.args.length : Int) = 1 := by rw [hla]; rfl
  have hn1' : x.n ≤ 0 := Int.le_trans hn1 (Int.le_of_eq rfl)
  obtain ⟨a, ha⟩ : ∃ y, x.args[0]? = some y := ⟨_, List.getElem?_eq_getElem (by omega)⟩
  have HBa := Lib.hid (hsub 0 a ha)
  obtain ⟨hwa, ba, oa, qa, ca, rfl, hya, m0, m1, m2, m3, m4, hEa⟩ := hE.get ha
  have HCa : Hid (∀ w', Bel W0 w' → SX ba oa qa ca a w') := Lib.hid (fun w' hb => ⟨(hb.cell (p := ⟨ba, oa, none⟩) hya).trans m0, (hb.cell (p := ⟨ba, oa + 1, none⟩) hya).trans m1, (hb.cell (p := ⟨ba, oa + 2, none⟩) hya).trans m2, (hb.cell (p := ⟨ba, oa + 3, none⟩) hya).trans m3, (hb.cell (p := ⟨ba, oa + 4, none⟩) hya).trans m4⟩)
  have HWa := Lib.hid hwa
  have HEa := Lib.hid hEa
  have hAa := argAt_get ha
  obtain ⟨Ta, hTa⟩ : ∃ T, str (exT 30 a) = T := ⟨_, rfl⟩
  have hDa : Ta.data.toList = exT 30 a := by rw [← hTa, str_list]
  have HTa := Lib.hid hTa
  clear m0 m1 m2 m3 m4 hwa hEa ha hTa
  have hTXT : stT (d + 1) k x = lineT k (pcs [x.name, ⟨#[32, 61, 32]⟩, Ta, ⟨#[59]⟩]) := by
    rw [stT_1 hk, hAa]
    unfold pcs nm
    simp only [List.map_cons, List.map_nil, hDa]
  rw [hTXT] at hlen ⊢
  clear hTXT hAa hDa
  have HK := Lib.hid hk
  have HIH := Lib.hid IH
  have HTN := Lib.hid hTn
  have HEL := Lib.hid hEl
  have HTK := Lib.hid htn
  have HEK := Lib.hid hel
  have HLT := Lib.hid hw.thn
  have HLL := Lib.hid hw.els
  have HTX := Lib.hid hX
  have HP := Lib.hid hP
  have HKD := Lib.hid hkd
  clear hk IH hTn hEl hw hX hP hok hf hla hn1 hsub htn hel hE hkd
  go_enter Tryz.func118, Tryz.ntmps118
  go_upto_region 1 with (fail)
  have hb9 := (Bel.refl w).alloc (stA x (some ⟨ba, oa, none⟩) c q1 c1 q2 c2) 52
  have hx9 := heap_alloc_new w (.cells (stA x (some ⟨ba, oa, none⟩) c q1 c1 q2 c2) 52)
  have hst := hST.keep hb9
  have hgb : w.heap.size ≠ b := by have := hST.ne.2.1; omega
  generalize w.alloc (.cells (stA x (some ⟨ba, oa, none⟩) c q1 c1 q2 c2) 52) = W9 at hb9 hx9 hst ⊢
  generalize w.heap.size = g9 at hx9 hgb ⊢
  have HST := Lib.hid hst
  have HX := Lib.hid hx9
  have HGB := Lib.hid hgb
  have HPV := Lib.hid (hb9.pv b)
  clear hst hx9 hgb hb9 hST
  have m0 := cell_of_heap HX.out 0
  have m1 := cell_of_heap HX.out 1
  have m2 := cell_of_heap HX.out 2
  have m3 := cell_of_heap HX.out 3
  have m4 := cell_of_heap HX.out 4
  have m5 := cell_of_heap HX.out 5
  have m6 := cell_of_heap HX.out 6
  simp only [List.getElem?_toArray, List.getElem?_cons_zero, List.getElem?_cons_succ] at m0 m1 m2 m3 m4 m5 m6
  rw [HK.out] at m0
  have hk0 : (0 : Int) ≤ 0 := by omega
  have hk1 : (0 : Int) < x.args.length := by omega
  have HKEEP : Hid (∀ w', Pv b W9 w' → Bel W0 w' → SB g9 (some ⟨ba, oa, none⟩) c q1 c1 q2 c2 x w' ∧ SX ba oa qa ca a w') := Lib.hid (fun w' hv hb => ⟨⟨cell_of_heap (hv.stays HX.out HGB.out (by decide)) 0, cell_of_heap (hv.stays HX.out HGB.out (by decide)) 1, cell_of_heap (hv.stays HX.out HGB.out (by decide)) 2, cell_of_heap (hv.stays HX.out HGB.out (by decide)) 3, cell_of_heap (hv.stays HX.out HGB.out (by decide)) 4, cell_of_heap (hv.stays HX.out HGB.out (by decide)) 5, cell_of_heap (hv.stays HX.out HGB.out (by decide)) 6⟩, HCa.out w' hb⟩)
  go_upto_region 3 with (fail)
  refine wp_region_held_drew (S := (fun w' => SB g9 (some ⟨ba, oa, none⟩) c q1 c1 q2 c2 x w' ∧ SX ba oa qa ca a w')) (by kernel_rfl) (HKEEP.out _ (((Bel.refl W9).drew).pv b) (HST.out.bel.trans ((Bel.refl W9).drew))) (fun hS0 => ?_)
  refine takeD 8 (i := 0) (v := ?v1) rfl rfl (by kernel_rfl) (by kernel_rfl) (by kernel_rfl) (fun _ _ _ h => h) (by kernel_rfl) ?hy1 hS0 ?rest1
  case hy1 => (intro w0 hSw; obtain ⟨⟨s0, s1, s2, s3, s4, s5, s6⟩, u0, u1, u2, u3, u4⟩ := hSw; first | (go_simp; done) | (go_simp; with_reducible rfl))
  simp only [List.setIfInBounds_toArray, List.set_cons_zero, List.set_cons_succ]
  refine takeD 9 (i := 1) (v := ?v2) rfl rfl (by kernel_rfl) (by kernel_rfl) (by kernel_rfl) (fun _ _ _ h => h) (by kernel_rfl) ?hy2 hS0 ?rest2
  case hy2 => (intro w0 hSw; obtain ⟨⟨s0, s1, s2, s3, s4, s5, s6⟩, u0, u1, u2, u3, u4⟩ := hSw; first | (go_simp; done) | (go_simp; with_reducible rfl))
  simp only [List.setIfInBounds_toArray, List.set_cons_zero, List.set_cons_succ]
  refine takeD 10 (i := 2) (v := ?v3) rfl rfl (by kernel_rfl) (by kernel_rfl) (by kernel_rfl) (fun _ _ _ h => h) (by kernel_rfl) ?hy3 hS0 ?rest3
  case hy3 => (intro w0 hSw; obtain ⟨⟨s0, s1, s2, s3, s4, s5, s6⟩, u0, u1, u2, u3, u4⟩ := hSw; first | (go_simp; done) | (go_simp; with_reducible rfl))
  simp only [List.setIfInBounds_toArray, List.set_cons_zero, List.set_cons_succ]
  refine takeD 11 (i := 3) (v := ?v4) rfl rfl (by kernel_rfl) (by kernel_rfl) (by kernel_rfl) (fun _ _ _ h => h) (by kernel_rfl) ?hy4 hS0 ?rest4
  case hy4 => (intro w0 hSw; obtain ⟨⟨s0, s1, s2, s3, s4, s5, s6⟩, u0, u1, u2, u3, u4⟩ := hSw; first | (go_simp; done) | (go_simp; with_reducible rfl))
  simp only [List.setIfInBounds_toArray, List.set_cons_zero, List.set_cons_succ]
  refine takeD 12 (i := 4) (v := ?v5) rfl rfl (by kernel_rfl) (by kernel_rfl) (by kernel_rfl) (fun _ _ _ h => h) (by kernel_rfl) ?hy5 hS0 ?rest5
  case hy5 => (intro w0 hSw; obtain ⟨⟨s0, s1, s2, s3, s4, s5, s6⟩, u0, u1, u2, u3, u4⟩ := hSw; first | (go_simp; done) | (go_simp; with_reducible rfl))
  simp only [List.setIfInBounds_toArray, List.set_cons_zero, List.set_cons_succ]
  refine takeD 13 (i := 5) (v := ?v6) rfl rfl (by kernel_rfl) (by kernel_rfl) (by kernel_rfl) (fun _ _ _ h => h) (by kernel_rfl) ?hy6 hS0 ?rest6
  case hy6 => (intro w0 hSw; obtain ⟨⟨s0, s1, s2, s3, s4, s5, s6⟩, u0, u1, u2, u3, u4⟩ := hSw; first | (go_simp; done) | (go_simp; with_reducible rfl))
  simp only [List.setIfInBounds_toArray, List.set_cons_zero, List.set_cons_succ]
  refine takeD 14 (i := 6) (v := ?v7) rfl rfl (by kernel_rfl) (by kernel_rfl) (by kernel_rfl) (fun _ _ _ h => h) (by kernel_rfl) ?hy7 hS0 ?rest7
  case hy7 => (intro w0 hSw; obtain ⟨⟨s0, s1, s2, s3, s4, s5, s6⟩, u0, u1, u2, u3, u4⟩ := hSw; first | (go_simp; done) | (go_simp; with_reducible rfl))
  simp only [List.setIfInBounds_toArray, List.set_cons_zero, List.set_cons_succ]
  refine onlyD 15 (i := 7) rfl rfl (by kernel_rfl) (by kernel_rfl) (fun K hK => ?_)
  go_simp
  go_at_call 46
  refine (exprText_lit HTa.out HBa.out _ (HEa.out.bel (HST.out.bel.trans ((Bel.refl W9).drew))) HWa.out (HTX.out.bel (HST.out.bel.trans ((Bel.refl W9).drew))) (HP.out.bel (HST.out.bel.trans ((Bel.refl W9).drew)))).mono ?_
  rintro e whb11 ⟨rfl, hb11⟩
  have hS1 := HKEEP.out _ ((((Bel.refl W9).drew).trans hb11).pv b) (HST.out.bel.trans (((Bel.refl W9).drew).trans hb11))
  refine hK.out _ _ hS1 (fun _ => ?_)
  clear hK K
  simp only [List.setIfInBounds_toArray, List.set_cons_zero, List.set_cons_succ]
  refine onlyD 16 (i := 8) rfl rfl (by kernel_rfl) (by kernel_rfl) (fun K hK => ?_)
  go_simp
  refine hK.out _ _ (HKEEP.out _ (((((Bel.refl W9).drew).trans hb11).alloc _ _).pv b) (HST.out.bel.trans ((((Bel.refl W9).drew).trans hb11).alloc _ _))) (fun hM1 => ?_)
  clear hK K
  simp only [List.setIfInBounds_toArray, List.set_cons_zero, List.set_cons_succ]
  refine onlyD 17 (i := 9) rfl rfl (by kernel_rfl) (by kernel_rfl) (fun K hK => ?_)
  go_simp
  go_at_call 57
  refine (line_st [x.name, ⟨#[32, 61, 32]⟩, Ta, ⟨#[59]⟩] W0 _ b _ _ l k (HST.out.keep ((((Bel.refl W9).drew).trans hb11).alloc _ _)) (heap_alloc_new _ _) hlen (by simp)).mono ?_
  rintro r w1 ⟨rfl, hst, hpv⟩
  have hS2 := HKEEP.out _ ((((((Bel.refl W9).drew).trans hb11).alloc _ _).pv b).trans hpv) hst.bel
  refine hK.out _ _ hS2 (fun _ => ?_)
  clear hK K
  simp only [List.setIfInBounds_toArray, List.set_cons_zero, List.set_cons_succ]
  refine wpAnyH_done (by kernel_rfl) ?_ _
  have HPV := Lib.hid (HPV.out.trans ((((((Bel.refl W9).drew).trans hb11).alloc _ _).pv b).trans hpv))
  have HST := Lib.hid hst
  clear hst hpv m0 m1 m2 m3 m4 m5 m6 HKEEP hb11 hS0 hS1 hS2 hM1
  go_wp2_with fail
  go_end0
  exact ⟨rfl, HST.out, HPV.out⟩
set_option maxRecDepth 100000 in
set_option maxHeartbeats 8000000 in
theorem stmt_2 {d : Nat} (IH : StOk d) (x : St) (hk : x.kind = 2) (W0 w : World) (q q1 q2 : Option Addr) (c c1 c2 b : Nat) (l : Bs) (k : Nat) (hok : bodyS (d + 1) x = true) (hE : EAt W0 q x.args) (hTn : SAt W0 q1 x.thn) (hEl : SAt W0 q2 x.els) (hw : WfS x) (hX : Texts W0) (hP : PowAt W0) (hST : StP W0 b l (k : Int) w) (hkd : k + (d + 1) ≤ 1000) (hlen : l.length + (stT (d + 1) k x).length ≤ 70368744177664) :
    Calls Tryz.prog 118 #[.pointer (some ⟨b, 0, none⟩), stV q c q1 c1 q2 c2 x] w fun r w' => r = .returned (.tuple #[]) ∧ StP W0 b (l ++ stT (d + 1) k x) (k : Int) w' ∧ Pv b w w' := by
  obtain ⟨hf, hsub, htn, hel, _⟩ := st_of hok
  rw [hk] at hf
  obtain ⟨hla, hn0, hn1⟩ := fitsS_parts hf
  have hla' : (x.args.length : Int) = 0 := by rw [hla]; rfl
  have hn1' : x.n ≤ 3 := Int.le_trans hn1 (Int.le_of_eq rfl)
  obtain ⟨U, hU⟩ : ∃ U, str (Lib.itoa x.n) = U := ⟨_, rfl⟩
  have hUD : U.data.toList = numT x.n := by rw [← hU, str_list]; rfl
  have HU := Lib.hid hU
  clear hU
  have hTXT : stT (d + 1) k x = lineT k (pcs [x.name, ⟨#[32, 61, 32]⟩, x.src, ⟨#[46]⟩, U, ⟨#[59]⟩]) := by
    rw [stT_2 hk]
    unfold pcs nm
    simp only [List.map_cons, List.map_nil, hUD]
  rw [hTXT] at hlen ⊢
  clear hTXT hUD
  have HK := Lib.hid hk
  have HIH := Lib.hid IH
  have HTN := Lib.hid hTn
  have HEL := Lib.hid hEl
  have HTK := Lib.hid htn
  have HEK := Lib.hid hel
  have HLT := Lib.hid hw.thn
  have HLL := Lib.hid hw.els
  have HTX := Lib.hid hX
  have HP := Lib.hid hP
  have HKD := Lib.hid hkd
  clear hk IH hTn hEl hw hX hP hok hf hla hn1 hsub htn hel hE hkd
  go_enter Tryz.func118, Tryz.ntmps118
  go_upto_region 1 with (fail)
  have hb9 := (Bel.refl w).alloc (stA x q c q1 c1 q2 c2) 52
  have hx9 := heap_alloc_new w (.cells (stA x q c q1 c1 q2 c2) 52)
  have hst := hST.keep hb9
  have hgb : w.heap.size ≠ b := by have := hST.ne.2.1; omega
  generalize w.alloc (.cells (stA x q c q1 c1 q2 c2) 52) = W9 at hb9 hx9 hst ⊢
  generalize w.heap.size = g9 at hx9 hgb ⊢
  have HST := Lib.hid hst
  have HX := Lib.hid hx9
  have HGB := Lib.hid hgb
  have HPV := Lib.hid (hb9.pv b)
  clear hst hx9 hgb hb9 hST
  have m0 := cell_of_heap HX.out 0
  have m1 := cell_of_heap HX.out 1
  have m2 := cell_of_heap HX.out 2
  have m3 := cell_of_heap HX.out 3
  have m4 := cell_of_heap HX.out 4
  have m5 := cell_of_heap HX.out 5
  have m6 := cell_of_heap HX.out 6
  simp only [List.getElem?_toArray, List.getElem?_cons_zero, List.getElem?_cons_succ] at m0 m1 m2 m3 m4 m5 m6
  rw [HK.out] at m0
  have hk0 : (0 : Int) ≤ 0 := by omega
  have HKEEP : Hid (∀ w', Pv b W9 w' → Bel W0 w' → SB g9 q c q1 c1 q2 c2 x w') := Lib.hid (fun w' hv hb => ⟨cell_of_heap (hv.stays HX.out HGB.out (by decide)) 0, cell_of_heap (hv.stays HX.out HGB.out (by decide)) 1, cell_of_heap (hv.stays HX.out HGB.out (by decide)) 2, cell_of_heap (hv.stays HX.out HGB.out (by decide)) 3, cell_of_heap (hv.stays HX.out HGB.out (by decide)) 4, cell_of_heap (hv.stays HX.out HGB.out (by decide)) 5, cell_of_heap (hv.stays HX.out HGB.out (by decide)) 6⟩)
  go_upto_region 5 with (fail)
  refine wp_region_held_drew (S := (fun w' => SB g9 q c q1 c1 q2 c2 x w')) (by kernel_rfl) (HKEEP.out _ (((Bel.refl W9).drew).pv b) (HST.out.bel.trans ((Bel.refl W9).drew))) (fun hS0 => ?_)
  refine takeD 20 (i := 0) (v := ?v1) rfl rfl (by kernel_rfl) (by kernel_rfl) (by kernel_rfl) (fun _ _ _ h => h) (by kernel_rfl) ?hy1 hS0 ?rest1
  case hy1 => (intro w0 hSw; obtain ⟨s0, s1, s2, s3, s4, s5, s6⟩ := hSw; first | (go_simp; done) | (go_simp; with_reducible rfl))
  simp only [List.setIfInBounds_toArray, List.set_cons_zero, List.set_cons_succ]
  refine takeD 21 (i := 1) (v := ?v2) rfl rfl (by kernel_rfl) (by kernel_rfl) (by kernel_rfl) (fun _ _ _ h => h) (by kernel_rfl) ?hy2 hS0 ?rest2
  case hy2 => (intro w0 hSw; obtain ⟨s0, s1, s2, s3, s4, s5, s6⟩ := hSw; first | (go_simp; done) | (go_simp; with_reducible rfl))
  simp only [List.setIfInBounds_toArray, List.set_cons_zero, List.set_cons_succ]
  refine takeD 22 (i := 2) (v := ?v3) rfl rfl (by kernel_rfl) (by kernel_rfl) (by kernel_rfl) (fun _ _ _ h => h) (by kernel_rfl) ?hy3 hS0 ?rest3
  case hy3 => (intro w0 hSw; obtain ⟨s0, s1, s2, s3, s4, s5, s6⟩ := hSw; first | (go_simp; done) | (go_simp; with_reducible rfl))
  simp only [List.setIfInBounds_toArray, List.set_cons_zero, List.set_cons_succ]
  refine takeD 23 (i := 3) (v := ?v4) rfl rfl (by kernel_rfl) (by kernel_rfl) (by kernel_rfl) (fun _ _ _ h => h) (by kernel_rfl) ?hy4 hS0 ?rest4
  case hy4 => (intro w0 hSw; obtain ⟨s0, s1, s2, s3, s4, s5, s6⟩ := hSw; first | (go_simp; done) | (go_simp; with_reducible rfl))
  simp only [List.setIfInBounds_toArray, List.set_cons_zero, List.set_cons_succ]
  refine takeD 24 (i := 4) (v := ?v5) rfl rfl (by kernel_rfl) (by kernel_rfl) (by kernel_rfl) (fun _ _ _ h => h) (by kernel_rfl) ?hy5 hS0 ?rest5
  case hy5 => (intro w0 hSw; obtain ⟨s0, s1, s2, s3, s4, s5, s6⟩ := hSw; first | (go_simp; done) | (go_simp; with_reducible rfl))
  simp only [List.setIfInBounds_toArray, List.set_cons_zero, List.set_cons_succ]
  refine takeD 25 (i := 5) (v := ?v6) rfl rfl (by kernel_rfl) (by kernel_rfl) (by kernel_rfl) (fun _ _ _ h => h) (by kernel_rfl) ?hy6 hS0 ?rest6
  case hy6 => (intro w0 hSw; obtain ⟨s0, s1, s2, s3, s4, s5, s6⟩ := hSw; first | (go_simp; done) | (go_simp; with_reducible rfl))
  simp only [List.setIfInBounds_toArray, List.set_cons_zero, List.set_cons_succ]
  refine takeD 26 (i := 6) (v := ?v7) rfl rfl (by kernel_rfl) (by kernel_rfl) (by kernel_rfl) (fun _ _ _ h => h) (by kernel_rfl) ?hy7 hS0 ?rest7
  case hy7 => (intro w0 hSw; obtain ⟨s0, s1, s2, s3, s4, s5, s6⟩ := hSw; first | (go_simp; done) | (go_simp; with_reducible rfl))
  simp only [List.setIfInBounds_toArray, List.set_cons_zero, List.set_cons_succ]
  refine onlyD 27 (i := 7) rfl rfl (by kernel_rfl) (by kernel_rfl) (fun K hK => ?_)
  go_simp
  go_at_call 58
  refine (itoa_lit HU.out (by omega) (by omega) _ (HP.out.bel (HST.out.bel.trans ((Bel.refl W9).drew)))).mono ?_
  rintro e whb11 ⟨rfl, hb11⟩
  have hS1 := HKEEP.out _ ((((Bel.refl W9).drew).trans hb11).pv b) (HST.out.bel.trans (((Bel.refl W9).drew).trans hb11))
  refine hK.out _ _ hS1 (fun _ => ?_)
  clear hK K
  simp only [List.setIfInBounds_toArray, List.set_cons_zero, List.set_cons_succ]
  refine onlyD 28 (i := 8) rfl rfl (by kernel_rfl) (by kernel_rfl) (fun K hK => ?_)
  go_simp
  refine hK.out _ _ (HKEEP.out _ (((((Bel.refl W9).drew).trans hb11).alloc _ _).pv b) (HST.out.bel.trans ((((Bel.refl W9).drew).trans hb11).alloc _ _))) (fun hM1 => ?_)
  clear hK K
  simp only [List.setIfInBounds_toArray, List.set_cons_zero, List.set_cons_succ]
  refine onlyD 29 (i := 9) rfl rfl (by kernel_rfl) (by kernel_rfl) (fun K hK => ?_)
  go_simp
  go_at_call 57
  refine (line_st [x.name, ⟨#[32, 61, 32]⟩, x.src, ⟨#[46]⟩, U, ⟨#[59]⟩] W0 _ b _ _ l k (HST.out.keep ((((Bel.refl W9).drew).trans hb11).alloc _ _)) (heap_alloc_new _ _) hlen (by simp)).mono ?_
  rintro r w1 ⟨rfl, hst, hpv⟩
  have hS2 := HKEEP.out _ ((((((Bel.refl W9).drew).trans hb11).alloc _ _).pv b).trans hpv) hst.bel
  refine hK.out _ _ hS2 (fun _ => ?_)
  clear hK K
  simp only [List.setIfInBounds_toArray, List.set_cons_zero, List.set_cons_succ]
  refine wpAnyH_done (by kernel_rfl) ?_ _
  have HPV := Lib.hid (HPV.out.trans ((((((Bel.refl W9).drew).trans hb11).alloc _ _).pv b).trans hpv))
  have HST := Lib.hid hst
  clear hst hpv m0 m1 m2 m3 m4 m5 m6 HKEEP hb11 hS0 hS1 hS2 hM1
  go_wp2_with fail
  go_end0
  exact ⟨rfl, HST.out, HPV.out⟩
set_option maxRecDepth 100000 in
set_option maxHeartbeats 8000000 in
theorem stmt_3 {d : Nat} (IH : StOk d) (x : St) (hk : x.kind = 3) (W0 w : World) (q q1 q2 : Option Addr) (c c1 c2 b : Nat) (l : Bs) (k : Nat) (hok : bodyS (d + 1) x = true) (hE : EAt W0 q x.args) (hTn : SAt W0 q1 x.thn) (hEl : SAt W0 q2 x.els) (hw : WfS x) (hX : Texts W0) (hP : PowAt W0) (hST : StP W0 b l (k : Int) w) (hkd : k + (d + 1) ≤ 1000) (hlen : l.length + (stT (d + 1) k x).length ≤ 70368744177664) :
    Calls Tryz.prog 118 #[.pointer (some ⟨b, 0, none⟩), stV q c q1 c1 q2 c2 x] w fun r w' => r = .returned (.tuple #[]) ∧ StP W0 b (l ++ stT (d + 1) k x) (k : Int) w' ∧ Pv b w w' := by
  obtain ⟨hf, hsub, htn, hel, _⟩ := st_of hok
  rw [hk] at hf
  obtain ⟨hla, hn0, hn1⟩ := fitsS_parts hf
  have hla' : (x.args.length : Int) = 1 := by rw [hla]; rfl
  have hn1' : x.n ≤ 3 := Int.le_trans hn1 (Int.le_of_eq rfl)
  obtain ⟨U, hU⟩ : ∃ U, str (Lib.itoa x.n) = U := ⟨_, rfl⟩
  have hUD : U.data.toList = numT x.n := by rw [← hU, str_list]; rfl
  have HU := Lib.hid hU
  clear hU
  obtain ⟨a, ha⟩ : ∃ y, x.args[0]? = some y := ⟨_, List.getElem?_eq_getElem (by omega)⟩
  have HBa := Lib.hid (hsub 0 a ha)
  obtain ⟨hwa, ba, oa, qa, ca, rfl, hya, m0, m1, m2, m3, m4, hEa⟩ := hE.get ha
  have HCa : Hid (∀ w', Bel W0 w' → SX ba oa qa ca a w') := Lib.hid (fun w' hb => ⟨(hb.cell (p := ⟨ba, oa, none⟩) hya).trans m0, (hb.cell (p := ⟨ba, oa + 1, none⟩) hya).trans m1, (hb.cell (p := ⟨ba, oa + 2, none⟩) hya).trans m2, (hb.cell (p := ⟨ba, oa + 3, none⟩) hya).trans m3, (hb.cell (p := ⟨ba, oa + 4, none⟩) hya).trans m4⟩)
  have HWa := Lib.hid hwa
  have HEa := Lib.hid hEa
  have hAa := argAt_get ha
  obtain ⟨Ta, hTa⟩ : ∃ T, str (exT 30 a) = T := ⟨_, rfl⟩
  have hDa : Ta.data.toList = exT 30 a := by rw [← hTa, str_list]
  have HTa := Lib.hid hTa
  clear m0 m1 m2 m3 m4 hwa hEa ha hTa
  have hTXT : stT (d + 1) k x = lineT k (pcs [x.name, ⟨#[46]⟩, U, ⟨#[32, 61, 32]⟩, Ta, ⟨#[59]⟩]) := by
    rw [stT_3 hk, hAa]
    unfold pcs nm
    simp only [List.map_cons, List.map_nil, hUD, hDa]
  rw [hTXT] at hlen ⊢
  clear hTXT hAa hDa hUD
  have HK := Lib.hid hk
  have HIH := Lib.hid IH
  have HTN := Lib.hid hTn
  have HEL := Lib.hid hEl
  have HTK := Lib.hid htn
  have HEK := Lib.hid hel
  have HLT := Lib.hid hw.thn
  have HLL := Lib.hid hw.els
  have HTX := Lib.hid hX
  have HP := Lib.hid hP
  have HKD := Lib.hid hkd
  clear hk IH hTn hEl hw hX hP hok hf hla hn1 hsub htn hel hE hkd
  go_enter Tryz.func118, Tryz.ntmps118
  go_upto_region 1 with (fail)
  have hb9 := (Bel.refl w).alloc (stA x (some ⟨ba, oa, none⟩) c q1 c1 q2 c2) 52
  have hx9 := heap_alloc_new w (.cells (stA x (some ⟨ba, oa, none⟩) c q1 c1 q2 c2) 52)
  have hst := hST.keep hb9
  have hgb : w.heap.size ≠ b := by have := hST.ne.2.1; omega
  generalize w.alloc (.cells (stA x (some ⟨ba, oa, none⟩) c q1 c1 q2 c2) 52) = W9 at hb9 hx9 hst ⊢
  generalize w.heap.size = g9 at hx9 hgb ⊢
  have HST := Lib.hid hst
  have HX := Lib.hid hx9
  have HGB := Lib.hid hgb
  have HPV := Lib.hid (hb9.pv b)
  clear hst hx9 hgb hb9 hST
  have m0 := cell_of_heap HX.out 0
  have m1 := cell_of_heap HX.out 1
  have m2 := cell_of_heap HX.out 2
  have m3 := cell_of_heap HX.out 3
  have m4 := cell_of_heap HX.out 4
  have m5 := cell_of_heap HX.out 5
  have m6 := cell_of_heap HX.out 6
  simp only [List.getElem?_toArray, List.getElem?_cons_zero, List.getElem?_cons_succ] at m0 m1 m2 m3 m4 m5 m6
  rw [HK.out] at m0
  have hk0 : (0 : Int) ≤ 0 := by omega
  have hk1 : (0 : Int) < x.args.length := by omega
  have HKEEP : Hid (∀ w', Pv b W9 w' → Bel W0 w' → SB g9 (some ⟨ba, oa, none⟩) c q1 c1 q2 c2 x w' ∧ SX ba oa qa ca a w') := Lib.hid (fun w' hv hb => ⟨⟨cell_of_heap (hv.stays HX.out HGB.out (by decide)) 0, cell_of_heap (hv.stays HX.out HGB.out (by decide)) 1, cell_of_heap (hv.stays HX.out HGB.out (by decide)) 2, cell_of_heap (hv.stays HX.out HGB.out (by decide)) 3, cell_of_heap (hv.stays HX.out HGB.out (by decide)) 4, cell_of_heap (hv.stays HX.out HGB.out (by decide)) 5, cell_of_heap (hv.stays HX.out HGB.out (by decide)) 6⟩, HCa.out w' hb⟩)
  go_upto_region 7 with (fail)
  refine wp_region_held_drew (S := (fun w' => SB g9 (some ⟨ba, oa, none⟩) c q1 c1 q2 c2 x w' ∧ SX ba oa qa ca a w')) (by kernel_rfl) (HKEEP.out _ (((Bel.refl W9).drew).pv b) (HST.out.bel.trans ((Bel.refl W9).drew))) (fun hS0 => ?_)
  refine takeD 32 (i := 0) (v := ?v1) rfl rfl (by kernel_rfl) (by kernel_rfl) (by kernel_rfl) (fun _ _ _ h => h) (by kernel_rfl) ?hy1 hS0 ?rest1
  case hy1 => (intro w0 hSw; obtain ⟨⟨s0, s1, s2, s3, s4, s5, s6⟩, u0, u1, u2, u3, u4⟩ := hSw; first | (go_simp; done) | (go_simp; with_reducible rfl))
  simp only [List.setIfInBounds_toArray, List.set_cons_zero, List.set_cons_succ]
  refine takeD 33 (i := 1) (v := ?v2) rfl rfl (by kernel_rfl) (by kernel_rfl) (by kernel_rfl) (fun _ _ _ h => h) (by kernel_rfl) ?hy2 hS0 ?rest2
  case hy2 => (intro w0 hSw; obtain ⟨⟨s0, s1, s2, s3, s4, s5, s6⟩, u0, u1, u2, u3, u4⟩ := hSw; first | (go_simp; done) | (go_simp; with_reducible rfl))
  simp only [List.setIfInBounds_toArray, List.set_cons_zero, List.set_cons_succ]
  refine takeD 34 (i := 2) (v := ?v3) rfl rfl (by kernel_rfl) (by kernel_rfl) (by kernel_rfl) (fun _ _ _ h => h) (by kernel_rfl) ?hy3 hS0 ?rest3
  case hy3 => (intro w0 hSw; obtain ⟨⟨s0, s1, s2, s3, s4, s5, s6⟩, u0, u1, u2, u3, u4⟩ := hSw; first | (go_simp; done) | (go_simp; with_reducible rfl))
  simp only [List.setIfInBounds_toArray, List.set_cons_zero, List.set_cons_succ]
  refine takeD 35 (i := 3) (v := ?v4) rfl rfl (by kernel_rfl) (by kernel_rfl) (by kernel_rfl) (fun _ _ _ h => h) (by kernel_rfl) ?hy4 hS0 ?rest4
  case hy4 => (intro w0 hSw; obtain ⟨⟨s0, s1, s2, s3, s4, s5, s6⟩, u0, u1, u2, u3, u4⟩ := hSw; first | (go_simp; done) | (go_simp; with_reducible rfl))
  simp only [List.setIfInBounds_toArray, List.set_cons_zero, List.set_cons_succ]
  refine takeD 36 (i := 4) (v := ?v5) rfl rfl (by kernel_rfl) (by kernel_rfl) (by kernel_rfl) (fun _ _ _ h => h) (by kernel_rfl) ?hy5 hS0 ?rest5
  case hy5 => (intro w0 hSw; obtain ⟨⟨s0, s1, s2, s3, s4, s5, s6⟩, u0, u1, u2, u3, u4⟩ := hSw; first | (go_simp; done) | (go_simp; with_reducible rfl))
  simp only [List.setIfInBounds_toArray, List.set_cons_zero, List.set_cons_succ]
  refine takeD 38 (i := 6) (v := ?v6) rfl rfl (by kernel_rfl) (by kernel_rfl) (by kernel_rfl) (fun _ _ _ h => h) (by kernel_rfl) ?hy6 hS0 ?rest6
  case hy6 => (intro w0 hSw; obtain ⟨⟨s0, s1, s2, s3, s4, s5, s6⟩, u0, u1, u2, u3, u4⟩ := hSw; first | (go_simp; done) | (go_simp; with_reducible rfl))
  simp only [List.setIfInBounds_toArray, List.set_cons_zero, List.set_cons_succ]
  refine takeD 39 (i := 7) (v := ?v7) rfl rfl (by kernel_rfl) (by kernel_rfl) (by kernel_rfl) (fun _ _ _ h => h) (by kernel_rfl) ?hy7 hS0 ?rest7
  case hy7 => (intro w0 hSw; obtain ⟨⟨s0, s1, s2, s3, s4, s5, s6⟩, u0, u1, u2, u3, u4⟩ := hSw; first | (go_simp; done) | (go_simp; with_reducible rfl))
  simp only [List.setIfInBounds_toArray, List.set_cons_zero, List.set_cons_succ]
  refine takeD 40 (i := 8) (v := ?v8) rfl rfl (by kernel_rfl) (by kernel_rfl) (by kernel_rfl) (fun _ _ _ h => h) (by kernel_rfl) ?hy8 hS0 ?rest8
  case hy8 => (intro w0 hSw; obtain ⟨⟨s0, s1, s2, s3, s4, s5, s6⟩, u0, u1, u2, u3, u4⟩ := hSw; first | (go_simp; done) | (go_simp; with_reducible rfl))
  simp only [List.setIfInBounds_toArray, List.set_cons_zero, List.set_cons_succ]
  refine takeD 41 (i := 9) (v := ?v9) rfl rfl (by kernel_rfl) (by kernel_rfl) (by kernel_rfl) (fun _ _ _ h => h) (by kernel_rfl) ?hy9 hS0 ?rest9
  case hy9 => (intro w0 hSw; obtain ⟨⟨s0, s1, s2, s3, s4, s5, s6⟩, u0, u1, u2, u3, u4⟩ := hSw; first | (go_simp; done) | (go_simp; with_reducible rfl))
  simp only [List.setIfInBounds_toArray, List.set_cons_zero, List.set_cons_succ]
  refine onlyD 37 (i := 5) rfl rfl (by kernel_rfl) (by kernel_rfl) (fun K hK => ?_)
  go_simp
  go_at_call 58
  refine (itoa_lit HU.out (by omega) (by omega) _ (HP.out.bel (HST.out.bel.trans ((Bel.refl W9).drew)))).mono ?_
  rintro e whb11 ⟨rfl, hb11⟩
  have hS1 := HKEEP.out _ ((((Bel.refl W9).drew).trans hb11).pv b) (HST.out.bel.trans (((Bel.refl W9).drew).trans hb11))
  refine hK.out _ _ hS1 (fun _ => ?_)
  clear hK K
  simp only [List.setIfInBounds_toArray, List.set_cons_zero, List.set_cons_succ]
  refine onlyD 42 (i := 10) rfl rfl (by kernel_rfl) (by kernel_rfl) (fun K hK => ?_)
  go_simp
  go_at_call 46
  refine (exprText_lit HTa.out HBa.out _ (HEa.out.bel (HST.out.bel.trans (((Bel.refl W9).drew).trans hb11))) HWa.out (HTX.out.bel (HST.out.bel.trans (((Bel.refl W9).drew).trans hb11))) (HP.out.bel (HST.out.bel.trans (((Bel.refl W9).drew).trans hb11)))).mono ?_
  rintro e whb12 ⟨rfl, hb12⟩
  have hS2 := HKEEP.out _ (((((Bel.refl W9).drew).trans hb11).trans hb12).pv b) (HST.out.bel.trans ((((Bel.refl W9).drew).trans hb11).trans hb12))
  refine hK.out _ _ hS2 (fun _ => ?_)
  clear hK K
  simp only [List.setIfInBounds_toArray, List.set_cons_zero, List.set_cons_succ]
  refine onlyD 43 (i := 11) rfl rfl (by kernel_rfl) (by kernel_rfl) (fun K hK => ?_)
  go_simp
  refine hK.out _ _ (HKEEP.out _ ((((((Bel.refl W9).drew).trans hb11).trans hb12).alloc _ _).pv b) (HST.out.bel.trans (((((Bel.refl W9).drew).trans hb11).trans hb12).alloc _ _))) (fun hM1 => ?_)
  clear hK K
  simp only [List.setIfInBounds_toArray, List.set_cons_zero, List.set_cons_succ]
  refine onlyD 44 (i := 12) rfl rfl (by kernel_rfl) (by kernel_rfl) (fun K hK => ?_)
  go_simp
  go_at_call 57
  refine (line_st [x.name, ⟨#[46]⟩, U, ⟨#[32, 61, 32]⟩, Ta, ⟨#[59]⟩] W0 _ b _ _ l k (HST.out.keep (((((Bel.refl W9).drew).trans hb11).trans hb12).alloc _ _)) (heap_alloc_new _ _) hlen (by simp)).mono ?_
  rintro r w1 ⟨rfl, hst, hpv⟩
  have hS3 := HKEEP.out _ (((((((Bel.refl W9).drew).trans hb11).trans hb12).alloc _ _).pv b).trans hpv) hst.bel
  refine hK.out _ _ hS3 (fun _ => ?_)
  clear hK K
  simp only [List.setIfInBounds_toArray, List.set_cons_zero, List.set_cons_succ]
  refine wpAnyH_done (by kernel_rfl) ?_ _
  have HPV := Lib.hid (HPV.out.trans (((((((Bel.refl W9).drew).trans hb11).trans hb12).alloc _ _).pv b).trans hpv))
  have HST := Lib.hid hst
  clear hst hpv m0 m1 m2 m3 m4 m5 m6 HKEEP hb11 hb12 hS0 hS1 hS2 hS3 hM1
  go_wp2_with fail
  go_end0
  exact ⟨rfl, HST.out, HPV.out⟩
set_option maxRecDepth 100000 in
set_option maxHeartbeats 8000000 in
theorem stmt_4 {d : Nat} (IH : StOk d) (x : St) (hk : x.kind = 4) (W0 w : World) (q q1 q2 : Option Addr) (c c1 c2 b : Nat) (l : Bs) (k : Nat) (hok : bodyS (d + 1) x = true) (hE : EAt W0 q x.args) (hTn : SAt W0 q1 x.thn) (hEl : SAt W0 q2 x.els) (hw : WfS x) (hX : Texts W0) (hP : PowAt W0) (hST : StP W0 b l (k : Int) w) (hkd : k + (d + 1) ≤ 1000) (hlen : l.length + (stT (d + 1) k x).length ≤ 70368744177664) :
    Calls Tryz.prog 118 #[.pointer (some ⟨b, 0, none⟩), stV q c q1 c1 q2 c2 x] w fun r w' => r = .returned (.tuple #[]) ∧ StP W0 b (l ++ stT (d + 1) k x) (k : Int) w' ∧ Pv b w w' := by
  obtain ⟨hf, hsub, htn, hel, _⟩ := st_of hok
  rw [hk] at hf
  obtain ⟨hla, hn0, hn1⟩ := fitsS_parts hf
  have hla' : (x.args.length : Int) = 2 := by rw [hla]; rfl
  have hn1' : x.n ≤ 0 := Int.le_trans hn1 (Int.le_of_eq rfl)
  obtain ⟨a, ha⟩ : ∃ y, x.args[0]? = some y := ⟨_, List.getElem?_eq_getElem (by omega)⟩
  have HBa := Lib.hid (hsub 0 a ha)
  obtain ⟨hwa, ba, oa, qa, ca, rfl, hya, m0, m1, m2, m3, m4, hEa⟩ := hE.get ha
  have HCa : Hid (∀ w', Bel W0 w' → SX ba oa qa ca a w') := Lib.hid (fun w' hb => ⟨(hb.cell (p := ⟨ba, oa, none⟩) hya).trans m0, (hb.cell (p := ⟨ba, oa + 1, none⟩) hya).trans m1, (hb.cell (p := ⟨ba, oa + 2, none⟩) hya).trans m2, (hb.cell (p := ⟨ba, oa + 3, none⟩) hya).trans m3, (hb.cell (p := ⟨ba, oa + 4, none⟩) hya).trans m4⟩)
  have HWa := Lib.hid hwa
  have HEa := Lib.hid hEa
  have hAa := argAt_get ha
  obtain ⟨Ta, hTa⟩ : ∃ T, str (exT 30 a) = T := ⟨_, rfl⟩
  have hDa : Ta.data.toList = exT 30 a := by rw [← hTa, str_list]
  have HTa := Lib.hid hTa
  clear m0 m1 m2 m3 m4 hwa hEa ha hTa
  obtain ⟨z, hz⟩ : ∃ y, x.args[1]? = some y := ⟨_, List.getElem?_eq_getElem (by omega)⟩
  have HBz := Lib.hid (hsub 1 z hz)
  obtain ⟨hwz, bz, oz, qz, cz, hqz, hyz, m0, m1, m2, m3, m4, hEz⟩ := hE.get hz
  obtain ⟨rfl, rfl⟩ : ba = bz ∧ oa = oz := by simpa using hqz
  have HCz : Hid (∀ w', Bel W0 w' → SX2 ba oa qz cz z w') := Lib.hid (fun w' hb => ⟨(hb.cell (p := ⟨ba, oa + 5, none⟩) hyz).trans m0, (hb.cell (p := ⟨ba, oa + 6, none⟩) hyz).trans m1, (hb.cell (p := ⟨ba, oa + 7, none⟩) hyz).trans m2, (hb.cell (p := ⟨ba, oa + 8, none⟩) hyz).trans m3, (hb.cell (p := ⟨ba, oa + 9, none⟩) hyz).trans m4⟩)
  have HWz := Lib.hid hwz
  have HEz := Lib.hid hEz
  have hAz := argAt_get hz
  obtain ⟨Tz, hTz⟩ : ∃ T, str (exT 30 z) = T := ⟨_, rfl⟩
  have hDz : Tz.data.toList = exT 30 z := by rw [← hTz, str_list]
  have HTz := Lib.hid hTz
  clear m0 m1 m2 m3 m4 hwz hEz hz hTz
  have hTXT : stT (d + 1) k x = lineT k (pcs [x.name, ⟨#[91]⟩, Ta, ⟨#[93, 32, 61, 32]⟩, Tz, ⟨#[59]⟩]) := by
    rw [stT_4 hk, hAa, hAz]
    unfold pcs nm
    simp only [List.map_cons, List.map_nil, hDa, hDz]
  rw [hTXT] at hlen ⊢
  clear hTXT hAa hDa hAz hDz
  have HK := Lib.hid hk
  have HIH := Lib.hid IH
  have HTN := Lib.hid hTn
  have HEL := Lib.hid hEl
  have HTK := Lib.hid htn
  have HEK := Lib.hid hel
  have HLT := Lib.hid hw.thn
  have HLL := Lib.hid hw.els
  have HTX := Lib.hid hX
  have HP := Lib.hid hP
  have HKD := Lib.hid hkd
  clear hk IH hTn hEl hw hX hP hok hf hla hn1 hsub htn hel hE hkd
  go_enter Tryz.func118, Tryz.ntmps118
  go_upto_region 1 with (fail)
  have hb9 := (Bel.refl w).alloc (stA x (some ⟨ba, oa, none⟩) c q1 c1 q2 c2) 52
  have hx9 := heap_alloc_new w (.cells (stA x (some ⟨ba, oa, none⟩) c q1 c1 q2 c2) 52)
  have hst := hST.keep hb9
  have hgb : w.heap.size ≠ b := by have := hST.ne.2.1; omega
  generalize w.alloc (.cells (stA x (some ⟨ba, oa, none⟩) c q1 c1 q2 c2) 52) = W9 at hb9 hx9 hst ⊢
  generalize w.heap.size = g9 at hx9 hgb ⊢
  have HST := Lib.hid hst
  have HX := Lib.hid hx9
  have HGB := Lib.hid hgb
  have HPV := Lib.hid (hb9.pv b)
  clear hst hx9 hgb hb9 hST
  have m0 := cell_of_heap HX.out 0
  have m1 := cell_of_heap HX.out 1
  have m2 := cell_of_heap HX.out 2
  have m3 := cell_of_heap HX.out 3
  have m4 := cell_of_heap HX.out 4
  have m5 := cell_of_heap HX.out 5
  have m6 := cell_of_heap HX.out 6
  simp only [List.getElem?_toArray, List.getElem?_cons_zero, List.getElem?_cons_succ] at m0 m1 m2 m3 m4 m5 m6
  rw [HK.out] at m0
  have hk0 : (0 : Int) ≤ 0 := by omega
  have hk1 : (0 : Int) < x.args.length := by omega
  have hk2 : (1 : Int) < x.args.length := by omega
  have HKEEP : Hid (∀ w', Pv b W9 w' → Bel W0 w' → SB g9 (some ⟨ba, oa, none⟩) c q1 c1 q2 c2 x w' ∧ SX ba oa qa ca a w' ∧ SX2 ba oa qz cz z w') := Lib.hid (fun w' hv hb => ⟨⟨cell_of_heap (hv.stays HX.out HGB.out (by decide)) 0, cell_of_heap (hv.stays HX.out HGB.out (by decide)) 1, cell_of_heap (hv.stays HX.out HGB.out (by decide)) 2, cell_of_heap (hv.stays HX.out HGB.out (by decide)) 3, cell_of_heap (hv.stays HX.out HGB.out (by decide)) 4, cell_of_heap (hv.stays HX.out HGB.out (by decide)) 5, cell_of_heap (hv.stays HX.out HGB.out (by decide)) 6⟩, HCa.out w' hb, HCz.out w' hb⟩)
  go_upto_region 9 with (fail)
  refine wp_region_held_drew (S := (fun w' => SB g9 (some ⟨ba, oa, none⟩) c q1 c1 q2 c2 x w' ∧ SX ba oa qa ca a w' ∧ SX2 ba oa qz cz z w')) (by kernel_rfl) (HKEEP.out _ (((Bel.refl W9).drew).pv b) (HST.out.bel.trans ((Bel.refl W9).drew))) (fun hS0 => ?_)
  refine takeD 47 (i := 0) (v := ?v1) rfl rfl (by kernel_rfl) (by kernel_rfl) (by kernel_rfl) (fun _ _ _ h => h) (by kernel_rfl) ?hy1 hS0 ?rest1
  case hy1 => (intro w0 hSw; obtain ⟨⟨s0, s1, s2, s3, s4, s5, s6⟩, ⟨u0, u1, u2, u3, u4⟩, v0, v1, v2, v3, v4⟩ := hSw; first | (go_simp; done) | (go_simp; with_reducible rfl))
  simp only [List.setIfInBounds_toArray, List.set_cons_zero, List.set_cons_succ]
  refine takeD 48 (i := 1) (v := ?v2) rfl rfl (by kernel_rfl) (by kernel_rfl) (by kernel_rfl) (fun _ _ _ h => h) (by kernel_rfl) ?hy2 hS0 ?rest2
  case hy2 => (intro w0 hSw; obtain ⟨⟨s0, s1, s2, s3, s4, s5, s6⟩, ⟨u0, u1, u2, u3, u4⟩, v0, v1, v2, v3, v4⟩ := hSw; first | (go_simp; done) | (go_simp; with_reducible rfl))
  simp only [List.setIfInBounds_toArray, List.set_cons_zero, List.set_cons_succ]
  refine takeD 49 (i := 2) (v := ?v3) rfl rfl (by kernel_rfl) (by kernel_rfl) (by kernel_rfl) (fun _ _ _ h => h) (by kernel_rfl) ?hy3 hS0 ?rest3
  case hy3 => (intro w0 hSw; obtain ⟨⟨s0, s1, s2, s3, s4, s5, s6⟩, ⟨u0, u1, u2, u3, u4⟩, v0, v1, v2, v3, v4⟩ := hSw; first | (go_simp; done) | (go_simp; with_reducible rfl))
  simp only [List.setIfInBounds_toArray, List.set_cons_zero, List.set_cons_succ]
  refine takeD 50 (i := 3) (v := ?v4) rfl rfl (by kernel_rfl) (by kernel_rfl) (by kernel_rfl) (fun _ _ _ h => h) (by kernel_rfl) ?hy4 hS0 ?rest4
  case hy4 => (intro w0 hSw; obtain ⟨⟨s0, s1, s2, s3, s4, s5, s6⟩, ⟨u0, u1, u2, u3, u4⟩, v0, v1, v2, v3, v4⟩ := hSw; first | (go_simp; done) | (go_simp; with_reducible rfl))
  simp only [List.setIfInBounds_toArray, List.set_cons_zero, List.set_cons_succ]
  refine takeD 51 (i := 4) (v := ?v5) rfl rfl (by kernel_rfl) (by kernel_rfl) (by kernel_rfl) (fun _ _ _ h => h) (by kernel_rfl) ?hy5 hS0 ?rest5
  case hy5 => (intro w0 hSw; obtain ⟨⟨s0, s1, s2, s3, s4, s5, s6⟩, ⟨u0, u1, u2, u3, u4⟩, v0, v1, v2, v3, v4⟩ := hSw; first | (go_simp; done) | (go_simp; with_reducible rfl))
  simp only [List.setIfInBounds_toArray, List.set_cons_zero, List.set_cons_succ]
  refine takeD 52 (i := 5) (v := ?v6) rfl rfl (by kernel_rfl) (by kernel_rfl) (by kernel_rfl) (fun _ _ _ h => h) (by kernel_rfl) ?hy6 hS0 ?rest6
  case hy6 => (intro w0 hSw; obtain ⟨⟨s0, s1, s2, s3, s4, s5, s6⟩, ⟨u0, u1, u2, u3, u4⟩, v0, v1, v2, v3, v4⟩ := hSw; first | (go_simp; done) | (go_simp; with_reducible rfl))
  simp only [List.setIfInBounds_toArray, List.set_cons_zero, List.set_cons_succ]
  refine takeD 53 (i := 6) (v := ?v7) rfl rfl (by kernel_rfl) (by kernel_rfl) (by kernel_rfl) (fun _ _ _ h => h) (by kernel_rfl) ?hy7 hS0 ?rest7
  case hy7 => (intro w0 hSw; obtain ⟨⟨s0, s1, s2, s3, s4, s5, s6⟩, ⟨u0, u1, u2, u3, u4⟩, v0, v1, v2, v3, v4⟩ := hSw; first | (go_simp; done) | (go_simp; with_reducible rfl))
  simp only [List.setIfInBounds_toArray, List.set_cons_zero, List.set_cons_succ]
  refine takeD 55 (i := 8) (v := ?v8) rfl rfl (by kernel_rfl) (by kernel_rfl) (by kernel_rfl) (fun _ _ _ h => h) (by kernel_rfl) ?hy8 hS0 ?rest8
  case hy8 => (intro w0 hSw; obtain ⟨⟨s0, s1, s2, s3, s4, s5, s6⟩, ⟨u0, u1, u2, u3, u4⟩, v0, v1, v2, v3, v4⟩ := hSw; first | (go_simp; done) | (go_simp; with_reducible rfl))
  simp only [List.setIfInBounds_toArray, List.set_cons_zero, List.set_cons_succ]
  refine takeD 56 (i := 9) (v := ?v9) rfl rfl (by kernel_rfl) (by kernel_rfl) (by kernel_rfl) (fun _ _ _ h => h) (by kernel_rfl) ?hy9 hS0 ?rest9
  case hy9 => (intro w0 hSw; obtain ⟨⟨s0, s1, s2, s3, s4, s5, s6⟩, ⟨u0, u1, u2, u3, u4⟩, v0, v1, v2, v3, v4⟩ := hSw; first | (go_simp; done) | (go_simp; with_reducible rfl))
  simp only [List.setIfInBounds_toArray, List.set_cons_zero, List.set_cons_succ]
  refine takeD 57 (i := 10) (v := ?v10) rfl rfl (by kernel_rfl) (by kernel_rfl) (by kernel_rfl) (fun _ _ _ h => h) (by kernel_rfl) ?hy10 hS0 ?rest10
  case hy10 => (intro w0 hSw; obtain ⟨⟨s0, s1, s2, s3, s4, s5, s6⟩, ⟨u0, u1, u2, u3, u4⟩, v0, v1, v2, v3, v4⟩ := hSw; first | (go_simp; done) | (go_simp; with_reducible rfl))
  simp only [List.setIfInBounds_toArray, List.set_cons_zero, List.set_cons_succ]
  refine takeD 58 (i := 11) (v := ?v11) rfl rfl (by kernel_rfl) (by kernel_rfl) (by kernel_rfl) (fun _ _ _ h => h) (by kernel_rfl) ?hy11 hS0 ?rest11
  case hy11 => (intro w0 hSw; obtain ⟨⟨s0, s1, s2, s3, s4, s5, s6⟩, ⟨u0, u1, u2, u3, u4⟩, v0, v1, v2, v3, v4⟩ := hSw; first | (go_simp; done) | (go_simp; with_reducible rfl))
  simp only [List.setIfInBounds_toArray, List.set_cons_zero, List.set_cons_succ]
  refine onlyD 54 (i := 7) rfl rfl (by kernel_rfl) (by kernel_rfl) (fun K hK => ?_)
  go_simp
  go_at_call 46
  refine (exprText_lit HTa.out HBa.out _ (HEa.out.bel (HST.out.bel.trans ((Bel.refl W9).drew))) HWa.out (HTX.out.bel (HST.out.bel.trans ((Bel.refl W9).drew))) (HP.out.bel (HST.out.bel.trans ((Bel.refl W9).drew)))).mono ?_
  rintro e whb11 ⟨rfl, hb11⟩
  have hS1 := HKEEP.out _ ((((Bel.refl W9).drew).trans hb11).pv b) (HST.out.bel.trans (((Bel.refl W9).drew).trans hb11))
  refine hK.out _ _ hS1 (fun _ => ?_)
  clear hK K
  simp only [List.setIfInBounds_toArray, List.set_cons_zero, List.set_cons_succ]
  refine onlyD 59 (i := 12) rfl rfl (by kernel_rfl) (by kernel_rfl) (fun K hK => ?_)
  go_simp
  go_at_call 46
  refine (exprText_lit HTz.out HBz.out _ (HEz.out.bel (HST.out.bel.trans (((Bel.refl W9).drew).trans hb11))) HWz.out (HTX.out.bel (HST.out.bel.trans (((Bel.refl W9).drew).trans hb11))) (HP.out.bel (HST.out.bel.trans (((Bel.refl W9).drew).trans hb11)))).mono ?_
  rintro e whb12 ⟨rfl, hb12⟩
  have hS2 := HKEEP.out _ (((((Bel.refl W9).drew).trans hb11).trans hb12).pv b) (HST.out.bel.trans ((((Bel.refl W9).drew).trans hb11).trans hb12))
  refine hK.out _ _ hS2 (fun _ => ?_)
  clear hK K
  simp only [List.setIfInBounds_toArray, List.set_cons_zero, List.set_cons_succ]
  refine onlyD 60 (i := 13) rfl rfl (by kernel_rfl) (by kernel_rfl) (fun K hK => ?_)
  go_simp
  refine hK.out _ _ (HKEEP.out _ ((((((Bel.refl W9).drew).trans hb11).trans hb12).alloc _ _).pv b) (HST.out.bel.trans (((((Bel.refl W9).drew).trans hb11).trans hb12).alloc _ _))) (fun hM1 => ?_)
  clear hK K
  simp only [List.setIfInBounds_toArray, List.set_cons_zero, List.set_cons_succ]
  refine onlyD 61 (i := 14) rfl rfl (by kernel_rfl) (by kernel_rfl) (fun K hK => ?_)
  go_simp
  go_at_call 57
  refine (line_st [x.name, ⟨#[91]⟩, Ta, ⟨#[93, 32, 61, 32]⟩, Tz, ⟨#[59]⟩] W0 _ b _ _ l k (HST.out.keep (((((Bel.refl W9).drew).trans hb11).trans hb12).alloc _ _)) (heap_alloc_new _ _) hlen (by simp)).mono ?_
  rintro r w1 ⟨rfl, hst, hpv⟩
  have hS3 := HKEEP.out _ (((((((Bel.refl W9).drew).trans hb11).trans hb12).alloc _ _).pv b).trans hpv) hst.bel
  refine hK.out _ _ hS3 (fun _ => ?_)
  clear hK K
  simp only [List.setIfInBounds_toArray, List.set_cons_zero, List.set_cons_succ]
  refine wpAnyH_done (by kernel_rfl) ?_ _
  have HPV := Lib.hid (HPV.out.trans (((((((Bel.refl W9).drew).trans hb11).trans hb12).alloc _ _).pv b).trans hpv))
  have HST := Lib.hid hst
  clear hst hpv m0 m1 m2 m3 m4 m5 m6 HKEEP hb11 hb12 hS0 hS1 hS2 hS3 hM1
  go_wp2_with fail
  go_end0
  exact ⟨rfl, HST.out, HPV.out⟩
set_option maxRecDepth 100000 in
set_option maxHeartbeats 8000000 in
theorem stmt_5 {d : Nat} (IH : StOk d) (x : St) (hk : x.kind = 5) (W0 w : World) (q q1 q2 : Option Addr) (c c1 c2 b : Nat) (l : Bs) (k : Nat) (hok : bodyS (d + 1) x = true) (hE : EAt W0 q x.args) (hTn : SAt W0 q1 x.thn) (hEl : SAt W0 q2 x.els) (hw : WfS x) (hX : Texts W0) (hP : PowAt W0) (hST : StP W0 b l (k : Int) w) (hkd : k + (d + 1) ≤ 1000) (hlen : l.length + (stT (d + 1) k x).length ≤ 70368744177664) :
    Calls Tryz.prog 118 #[.pointer (some ⟨b, 0, none⟩), stV q c q1 c1 q2 c2 x] w fun r w' => r = .returned (.tuple #[]) ∧ StP W0 b (l ++ stT (d + 1) k x) (k : Int) w' ∧ Pv b w w' := by
  obtain ⟨hf, hsub, htn, hel, _⟩ := st_of hok
  rw [hk] at hf
  obtain ⟨hla, hn0, hn1⟩ := fitsS_parts hf
  have hla' : (x.args.length : Int) = 0 := by rw [hla]; rfl
  have hn1' : x.n ≤ 0 := Int.le_trans hn1 (Int.le_of_eq rfl)
  obtain ⟨A, hA⟩ : ∃ A, lineT k (pcs [⟨#[108, 111, 99, 107, 32]⟩, x.name, ⟨#[32, 123]⟩]) = A := ⟨_, rfl⟩
  obtain ⟨C, hC⟩ : ∃ C, lineT k (pcs [⟨#[125]⟩]) = C := ⟨_, rfl⟩
  obtain ⟨S, hS⟩ : ∃ S, x.thn.flatMap (stT d (k + 1)) = S := ⟨_, rfl⟩
  have hTXT : stT (d + 1) k x = A ++ S ++ C := by
    rw [stT_5 hk, ← hA, ← hC, ← hS]
    unfold pcs
    (try unfold nm)
    simp only [List.map_cons, List.map_nil]
  rw [hTXT, List.length_append, List.length_append] at hlen
  rw [hTXT]
  have HA := Lib.hid hA
  have HC := Lib.hid hC
  have HS := Lib.hid hS
  clear hTXT hA hC hS
  have HK := Lib.hid hk
  have HIH := Lib.hid IH
  have HTN := Lib.hid hTn
  have HEL := Lib.hid hEl
  have HTK := Lib.hid htn
  have HEK := Lib.hid hel
  have HLT := Lib.hid hw.thn
  have HLL := Lib.hid hw.els
  have HTX := Lib.hid hX
  have HP := Lib.hid hP
  have HKD := Lib.hid hkd
  clear hk IH hTn hEl hw hX hP hok hf hla hn1 hsub htn hel hE hkd
  go_enter Tryz.func118, Tryz.ntmps118
  go_upto_region 1 with (fail)
  have hb9 := (Bel.refl w).alloc (stA x q c q1 c1 q2 c2) 52
  have hx9 := heap_alloc_new w (.cells (stA x q c q1 c1 q2 c2) 52)
  have hst := hST.keep hb9
  have hgb : w.heap.size ≠ b := by have := hST.ne.2.1; omega
  generalize w.alloc (.cells (stA x q c q1 c1 q2 c2) 52) = W9 at hb9 hx9 hst ⊢
  generalize w.heap.size = g9 at hx9 hgb ⊢
  have HST := Lib.hid hst
  have HX := Lib.hid hx9
  have HGB := Lib.hid hgb
  have HPV := Lib.hid (hb9.pv b)
  clear hst hx9 hgb hb9 hST
  have m0 := cell_of_heap HX.out 0
  have m1 := cell_of_heap HX.out 1
  have m2 := cell_of_heap HX.out 2
  have m3 := cell_of_heap HX.out 3
  have m4 := cell_of_heap HX.out 4
  have m5 := cell_of_heap HX.out 5
  have m6 := cell_of_heap HX.out 6
  simp only [List.getElem?_toArray, List.getElem?_cons_zero, List.getElem?_cons_succ] at m0 m1 m2 m3 m4 m5 m6
  rw [HK.out] at m0
  go_wp2_with fail
  refine (line_st [⟨#[108, 111, 99, 107, 32]⟩, x.name, ⟨#[32, 123]⟩] W0 _ b _ _ l k (HST.out.keep ((Bel.refl _).alloc _ _)) (heap_alloc_new _ _) (by rw [HA.out]; omega) (by simp)).mono ?_
  rintro r w1 ⟨rfl, hst, hpv⟩
  rw [HA.out] at hst
  have HPV := Lib.hid (HPV.out.trans ((((Bel.refl _).alloc _ _).pv b).trans hpv))
  have HX := Lib.hid (((((Bel.refl _).alloc _ _).pv b).trans hpv).stays HX.out HGB.out (by decide))
  have HST := Lib.hid hst
  clear hst hpv m0 m1 m2 m3 m4 m5 m6
  have m0 := cell_of_heap HX.out 0
  have m1 := cell_of_heap HX.out 1
  have m2 := cell_of_heap HX.out 2
  have m3 := cell_of_heap HX.out 3
  have m4 := cell_of_heap HX.out 4
  have m5 := cell_of_heap HX.out 5
  have m6 := cell_of_heap HX.out 6
  simp only [List.getElem?_toArray, List.getElem?_cons_zero, List.getElem?_cons_succ] at m0 m1 m2 m3 m4 m5 m6
  go_wp2_with fail
  refine (inner_ok HIH.out x.thn W0 _ q1 c1 b (l ++ A) k S HS.out HTK.out HTN.out HLT.out HTX.out HP.out HST.out (by have := HKD.out; omega) (by rw [List.length_append]; omega)).mono ?_
  rintro r w1 ⟨rfl, hst, hpv⟩
  have HPV := Lib.hid (HPV.out.trans hpv)
  have HX := Lib.hid (hpv.stays HX.out HGB.out (by decide))
  have HST := Lib.hid hst
  clear hst hpv m0 m1 m2 m3 m4 m5 m6
  have m0 := cell_of_heap HX.out 0
  have m1 := cell_of_heap HX.out 1
  have m2 := cell_of_heap HX.out 2
  have m3 := cell_of_heap HX.out 3
  have m4 := cell_of_heap HX.out 4
  have m5 := cell_of_heap HX.out 5
  have m6 := cell_of_heap HX.out 6
  simp only [List.getElem?_toArray, List.getElem?_cons_zero, List.getElem?_cons_succ] at m0 m1 m2 m3 m4 m5 m6
  go_wp2_with fail
  refine (line_st [⟨#[125]⟩] W0 _ b _ _ (l ++ A ++ S) k (HST.out.keep ((Bel.refl _).alloc _ _)) (heap_alloc_new _ _) (by rw [HC.out, List.length_append, List.length_append]; omega) (by simp)).mono ?_
  rintro r w1 ⟨rfl, hst, hpv⟩
  rw [HC.out] at hst
  have HPV := Lib.hid (HPV.out.trans ((((Bel.refl _).alloc _ _).pv b).trans hpv))
  have HX := Lib.hid (((((Bel.refl _).alloc _ _).pv b).trans hpv).stays HX.out HGB.out (by decide))
  have HST := Lib.hid hst
  clear hst hpv m0 m1 m2 m3 m4 m5 m6
  go_wp2_with fail
  go_end0
  have hfin := HST.out
  rw [show l ++ A ++ S ++ C = l ++ (A ++ S ++ C) by simp only [List.append_assoc]] at hfin
  exact ⟨rfl, hfin, HPV.out⟩
set_option maxRecDepth 100000 in
set_option maxHeartbeats 8000000 in
theorem stmt_6n {d : Nat} (IH : StOk d) (x : St) (hk : x.kind = 6) (he : ¬ 0 < x.els.length) (W0 w : World) (q q1 q2 : Option Addr) (c c1 c2 b : Nat) (l : Bs) (k : Nat) (hok : bodyS (d + 1) x = true) (hE : EAt W0 q x.args) (hTn : SAt W0 q1 x.thn) (hEl : SAt W0 q2 x.els) (hw : WfS x) (hX : Texts W0) (hP : PowAt W0) (hST : StP W0 b l (k : Int) w) (hkd : k + (d + 1) ≤ 1000) (hlen : l.length + (stT (d + 1) k x).length ≤ 70368744177664) :
    Calls Tryz.prog 118 #[.pointer (some ⟨b, 0, none⟩), stV q c q1 c1 q2 c2 x] w fun r w' => r = .returned (.tuple #[]) ∧ StP W0 b (l ++ stT (d + 1) k x) (k : Int) w' ∧ Pv b w w' := by
  obtain ⟨hf, hsub, htn, hel, _⟩ := st_of hok
  rw [hk] at hf
  obtain ⟨hla, hn0, hn1⟩ := fitsS_parts hf
  have hla' : (x.args.length : Int) = 1 := by rw [hla]; rfl
  have hn1' : x.n ≤ 0 := Int.le_trans hn1 (Int.le_of_eq rfl)
  obtain ⟨a, ha⟩ : ∃ y, x.args[0]? = some y := ⟨_, List.getElem?_eq_getElem (by omega)⟩
  have HBa := Lib.hid (hsub 0 a ha)
  obtain ⟨hwa, ba, oa, qa, ca, rfl, hya, m0, m1, m2, m3, m4, hEa⟩ := hE.get ha
  have HCa : Hid (∀ w', Bel W0 w' → SX ba oa qa ca a w') := Lib.hid (fun w' hb => ⟨(hb.cell (p := ⟨ba, oa, none⟩) hya).trans m0, (hb.cell (p := ⟨ba, oa + 1, none⟩) hya).trans m1, (hb.cell (p := ⟨ba, oa + 2, none⟩) hya).trans m2, (hb.cell (p := ⟨ba, oa + 3, none⟩) hya).trans m3, (hb.cell (p := ⟨ba, oa + 4, none⟩) hya).trans m4⟩)
  have HWa := Lib.hid hwa
  have HEa := Lib.hid hEa
  have hAa := argAt_get ha
  obtain ⟨Ta, hTa⟩ : ∃ T, str (exT 30 a) = T := ⟨_, rfl⟩
  have hDa : Ta.data.toList = exT 30 a := by rw [← hTa, str_list]
  have HTa := Lib.hid hTa
  clear m0 m1 m2 m3 m4 hwa hEa ha hTa
  obtain ⟨A, hA⟩ : ∃ A, lineT k (pcs [⟨#[105, 102, 32, 40]⟩, Ta, ⟨#[41, 32, 123]⟩]) = A := ⟨_, rfl⟩
  obtain ⟨C, hC⟩ : ∃ C, lineT k (pcs [⟨#[125]⟩]) = C := ⟨_, rfl⟩
  obtain ⟨S, hS⟩ : ∃ S, x.thn.flatMap (stT d (k + 1)) = S := ⟨_, rfl⟩
  obtain ⟨E, hE2⟩ : ∃ E, lineT k (pcs [⟨#[125, 32, 101, 108, 115, 101, 32, 123]⟩]) = E := ⟨_, rfl⟩
  obtain ⟨S2, hS2⟩ : ∃ S, x.els.flatMap (stT d (k + 1)) = S := ⟨_, rfl⟩
  have hTXT : stT (d + 1) k x = A ++ S ++ (if 0 < x.els.length then E ++ S2 else []) ++ C := by
    rw [stT_6 hk, hAa, ← hA, ← hC, ← hS, ← hE2, ← hS2]
    unfold pcs
    simp only [List.map_cons, List.map_nil, hDa]
  rw [hTXT] at hlen ⊢
  rw [if_neg he] at hlen ⊢
  have he' : (x.els.length : Int) ≤ 0 := by omega
  simp only [List.length_append, List.length_nil] at hlen
  clear he
  have HA := Lib.hid hA
  have HC := Lib.hid hC
  have HS := Lib.hid hS
  have HE2 := Lib.hid hE2
  have HS2 := Lib.hid hS2
  clear hTXT hA hC hS hAa hDa hE2 hS2
  have HK := Lib.hid hk
  have HIH := Lib.hid IH
  have HTN := Lib.hid hTn
  have HEL := Lib.hid hEl
  have HTK := Lib.hid htn
  have HEK := Lib.hid hel
  have HLT := Lib.hid hw.thn
  have HLL := Lib.hid hw.els
  have HTX := Lib.hid hX
  have HP := Lib.hid hP
  have HKD := Lib.hid hkd
  clear hk IH hTn hEl hw hX hP hok hf hla hn1 hsub htn hel hE hkd
  go_enter Tryz.func118, Tryz.ntmps118
  go_upto_region 1 with (fail)
  have hb9 := (Bel.refl w).alloc (stA x (some ⟨ba, oa, none⟩) c q1 c1 q2 c2) 52
  have hx9 := heap_alloc_new w (.cells (stA x (some ⟨ba, oa, none⟩) c q1 c1 q2 c2) 52)
  have hst := hST.keep hb9
  have hgb : w.heap.size ≠ b := by have := hST.ne.2.1; omega
  generalize w.alloc (.cells (stA x (some ⟨ba, oa, none⟩) c q1 c1 q2 c2) 52) = W9 at hb9 hx9 hst ⊢
  generalize w.heap.size = g9 at hx9 hgb ⊢
  have HST := Lib.hid hst
  have HX := Lib.hid hx9
  have HGB := Lib.hid hgb
  have HPV := Lib.hid (hb9.pv b)
  clear hst hx9 hgb hb9 hST
  have m0 := cell_of_heap HX.out 0
  have m1 := cell_of_heap HX.out 1
  have m2 := cell_of_heap HX.out 2
  have m3 := cell_of_heap HX.out 3
  have m4 := cell_of_heap HX.out 4
  have m5 := cell_of_heap HX.out 5
  have m6 := cell_of_heap HX.out 6
  simp only [List.getElem?_toArray, List.getElem?_cons_zero, List.getElem?_cons_succ] at m0 m1 m2 m3 m4 m5 m6
  rw [HK.out] at m0
  have hk1 : (0 : Int) < x.args.length := by omega
  obtain ⟨u0, u1, u2, u3, u4⟩ := HCa.out _ HST.out.bel
  go_wp2_with fail
  refine (exprText_lit HTa.out HBa.out _ (HEa.out.bel HST.out.bel) HWa.out (HTX.out.bel HST.out.bel) (HP.out.bel HST.out.bel)).mono ?_
  rintro r w1 ⟨rfl, hb⟩
  have HPV := Lib.hid (HPV.out.trans (hb.pv b))
  have HX := Lib.hid (hb.stays HX.out)
  have HST := Lib.hid (HST.out.keep hb)
  clear hb m0 m1 m2 m3 m4 m5 m6
  clear u0 u1 u2 u3 u4
  have m0 := cell_of_heap HX.out 0
  have m1 := cell_of_heap HX.out 1
  have m2 := cell_of_heap HX.out 2
  have m3 := cell_of_heap HX.out 3
  have m4 := cell_of_heap HX.out 4
  have m5 := cell_of_heap HX.out 5
  have m6 := cell_of_heap HX.out 6
  simp only [List.getElem?_toArray, List.getElem?_cons_zero, List.getElem?_cons_succ] at m0 m1 m2 m3 m4 m5 m6
  go_wp2_with fail
  refine (line_st [⟨#[105, 102, 32, 40]⟩, Ta, ⟨#[41, 32, 123]⟩] W0 _ b _ _ l k (HST.out.keep ((Bel.refl _).alloc _ _)) (heap_alloc_new _ _) (by rw [HA.out]; omega) (by simp)).mono ?_
  rintro r w1 ⟨rfl, hst, hpv⟩
  rw [HA.out] at hst
  have HPV := Lib.hid (HPV.out.trans ((((Bel.refl _).alloc _ _).pv b).trans hpv))
  have HX := Lib.hid (((((Bel.refl _).alloc _ _).pv b).trans hpv).stays HX.out HGB.out (by decide))
  have HST := Lib.hid hst
  clear hst hpv m0 m1 m2 m3 m4 m5 m6
  have m0 := cell_of_heap HX.out 0
  have m1 := cell_of_heap HX.out 1
  have m2 := cell_of_heap HX.out 2
  have m3 := cell_of_heap HX.out 3
  have m4 := cell_of_heap HX.out 4
  have m5 := cell_of_heap HX.out 5
  have m6 := cell_of_heap HX.out 6
  simp only [List.getElem?_toArray, List.getElem?_cons_zero, List.getElem?_cons_succ] at m0 m1 m2 m3 m4 m5 m6
  go_wp2_with fail
  refine (inner_ok HIH.out x.thn W0 _ q1 c1 b (l ++ A) k S HS.out HTK.out HTN.out HLT.out HTX.out HP.out HST.out (by have := HKD.out; omega) (by rw [List.length_append]; omega)).mono ?_
  rintro r w1 ⟨rfl, hst, hpv⟩
  have HPV := Lib.hid (HPV.out.trans hpv)
  have HX := Lib.hid (hpv.stays HX.out HGB.out (by decide))
  have HST := Lib.hid hst
  clear hst hpv m0 m1 m2 m3 m4 m5 m6
  have m0 := cell_of_heap HX.out 0
  have m1 := cell_of_heap HX.out 1
  have m2 := cell_of_heap HX.out 2
  have m3 := cell_of_heap HX.out 3
  have m4 := cell_of_heap HX.out 4
  have m5 := cell_of_heap HX.out 5
  have m6 := cell_of_heap HX.out 6
  simp only [List.getElem?_toArray, List.getElem?_cons_zero, List.getElem?_cons_succ] at m0 m1 m2 m3 m4 m5 m6
  go_wp2_with fail
  refine (line_st [⟨#[125]⟩] W0 _ b _ _ (l ++ A ++ S) k (HST.out.keep ((Bel.refl _).alloc _ _)) (heap_alloc_new _ _) (by rw [HC.out, List.length_append, List.length_append]; omega) (by simp)).mono ?_
  rintro r w1 ⟨rfl, hst, hpv⟩
  rw [HC.out] at hst
  have HPV := Lib.hid (HPV.out.trans ((((Bel.refl _).alloc _ _).pv b).trans hpv))
  have HX := Lib.hid (((((Bel.refl _).alloc _ _).pv b).trans hpv).stays HX.out HGB.out (by decide))
  have HST := Lib.hid hst
  clear hst hpv m0 m1 m2 m3 m4 m5 m6
  go_wp2_with fail
  go_end0
  have hfin := HST.out
  rw [show l ++ A ++ S ++ C = l ++ (A ++ S ++ [] ++ C) by simp only [List.append_assoc, List.nil_append]] at hfin
  exact ⟨rfl, hfin, HPV.out⟩
set_option maxRecDepth 100000 in
set_option maxHeartbeats 8000000 in
theorem stmt_6y {d : Nat} (IH : StOk d) (x : St) (hk : x.kind = 6) (he : 0 < x.els.length) (W0 w : World) (q q1 q2 : Option Addr) (c c1 c2 b : Nat) (l : Bs) (k : Nat) (hok : bodyS (d + 1) x = true) (hE : EAt W0 q x.args) (hTn : SAt W0 q1 x.thn) (hEl : SAt W0 q2 x.els) (hw : WfS x) (hX : Texts W0) (hP : PowAt W0) (hST : StP W0 b l (k : Int) w) (hkd : k + (d + 1) ≤ 1000) (hlen : l.length + (stT (d + 1) k x).length ≤ 70368744177664) :
    Calls Tryz.prog 118 #[.pointer (some ⟨b, 0, none⟩), stV q c q1 c1 q2 c2 x] w fun r w' => r = .returned (.tuple #[]) ∧ StP W0 b (l ++ stT (d + 1) k x) (k : Int) w' ∧ Pv b w w' := by
  obtain ⟨hf, hsub, htn, hel, _⟩ := st_of hok
  rw [hk] at hf
  obtain ⟨hla, hn0, hn1⟩ := fitsS_parts hf
  have hla' : (x.args.length : Int) = 1 := by rw [hla]; rfl
  have hn1' : x.n ≤ 0 := Int.le_trans hn1 (Int.le_of_eq rfl)
  obtain ⟨a, ha⟩ : ∃ y, x.args[0]? = some y := ⟨_, List.getElem?_eq_getElem (by omega)⟩
  have HBa := Lib.hid (hsub 0 a ha)
  obtain ⟨hwa, ba, oa, qa, ca, rfl, hya, m0, m1, m2, m3, m4, hEa⟩ := hE.get ha
  have HCa : Hid (∀ w', Bel W0 w' → SX ba oa qa ca a w') := Lib.hid (fun w' hb => ⟨(hb.cell (p := ⟨ba, oa, none⟩) hya).trans m0, (hb.cell (p := ⟨ba, oa + 1, none⟩) hya).trans m1, (hb.cell (p := ⟨ba, oa + 2, none⟩) hya).trans m2, (hb.cell (p := ⟨ba, oa + 3, none⟩) hya).trans m3, (hb.cell (p := ⟨ba, oa + 4, none⟩) hya).trans m4⟩)
  have HWa := Lib.hid hwa
  have HEa := Lib.hid hEa
  have hAa := argAt_get ha
  obtain ⟨Ta, hTa⟩ : ∃ T, str (exT 30 a) = T := ⟨_, rfl⟩
  have hDa : Ta.data.toList = exT 30 a := by rw [← hTa, str_list]
  have HTa := Lib.hid hTa
  clear m0 m1 m2 m3 m4 hwa hEa ha hTa
  obtain ⟨A, hA⟩ : ∃ A, lineT k (pcs [⟨#[105, 102, 32, 40]⟩, Ta, ⟨#[41, 32, 123]⟩]) = A := ⟨_, rfl⟩
  obtain ⟨C, hC⟩ : ∃ C, lineT k (pcs [⟨#[125]⟩]) = C := ⟨_, rfl⟩
  obtain ⟨S, hS⟩ : ∃ S, x.thn.flatMap (stT d (k + 1)) = S := ⟨_, rfl⟩
  obtain ⟨E, hE2⟩ : ∃ E, lineT k (pcs [⟨#[125, 32, 101, 108, 115, 101, 32, 123]⟩]) = E := ⟨_, rfl⟩
  obtain ⟨S2, hS2⟩ : ∃ S, x.els.flatMap (stT d (k + 1)) = S := ⟨_, rfl⟩
  have hTXT : stT (d + 1) k x = A ++ S ++ (if 0 < x.els.length then E ++ S2 else []) ++ C := by
    rw [stT_6 hk, hAa, ← hA, ← hC, ← hS, ← hE2, ← hS2]
    unfold pcs
    simp only [List.map_cons, List.map_nil, hDa]
  rw [hTXT] at hlen ⊢
  rw [if_pos he] at hlen ⊢
  have he' : (0 : Int) < x.els.length := by omega
  simp only [List.length_append, List.length_nil] at hlen
  clear he
  have HA := Lib.hid hA
  have HC := Lib.hid hC
  have HS := Lib.hid hS
  have HE2 := Lib.hid hE2
  have HS2 := Lib.hid hS2
  clear hTXT hA hC hS hAa hDa hE2 hS2
  have HK := Lib.hid hk
  have HIH := Lib.hid IH
  have HTN := Lib.hid hTn
  have HEL := Lib.hid hEl
  have HTK := Lib.hid htn
  have HEK := Lib.hid hel
  have HLT := Lib.hid hw.thn
  have HLL := Lib.hid hw.els
  have HTX := Lib.hid hX
  have HP := Lib.hid hP
  have HKD := Lib.hid hkd
  clear hk IH hTn hEl hw hX hP hok hf hla hn1 hsub htn hel hE hkd
  go_enter Tryz.func118, Tryz.ntmps118
  go_upto_region 1 with (fail)
  have hb9 := (Bel.refl w).alloc (stA x (some ⟨ba, oa, none⟩) c q1 c1 q2 c2) 52
  have hx9 := heap_alloc_new w (.cells (stA x (some ⟨ba, oa, none⟩) c q1 c1 q2 c2) 52)
  have hst := hST.keep hb9
  have hgb : w.heap.size ≠ b := by have := hST.ne.2.1; omega
  generalize w.alloc (.cells (stA x (some ⟨ba, oa, none⟩) c q1 c1 q2 c2) 52) = W9 at hb9 hx9 hst ⊢
  generalize w.heap.size = g9 at hx9 hgb ⊢
  have HST := Lib.hid hst
  have HX := Lib.hid hx9
  have HGB := Lib.hid hgb
  have HPV := Lib.hid (hb9.pv b)
  clear hst hx9 hgb hb9 hST
  have m0 := cell_of_heap HX.out 0
  have m1 := cell_of_heap HX.out 1
  have m2 := cell_of_heap HX.out 2
  have m3 := cell_of_heap HX.out 3
  have m4 := cell_of_heap HX.out 4
  have m5 := cell_of_heap HX.out 5
  have m6 := cell_of_heap HX.out 6
  simp only [List.getElem?_toArray, List.getElem?_cons_zero, List.getElem?_cons_succ] at m0 m1 m2 m3 m4 m5 m6
  rw [HK.out] at m0
  have hk1 : (0 : Int) < x.args.length := by omega
  obtain ⟨u0, u1, u2, u3, u4⟩ := HCa.out _ HST.out.bel
  go_wp2_with fail
  refine (exprText_lit HTa.out HBa.out _ (HEa.out.bel HST.out.bel) HWa.out (HTX.out.bel HST.out.bel) (HP.out.bel HST.out.bel)).mono ?_
  rintro r w1 ⟨rfl, hb⟩
  have HPV := Lib.hid (HPV.out.trans (hb.pv b))
  have HX := Lib.hid (hb.stays HX.out)
  have HST := Lib.hid (HST.out.keep hb)
  clear hb m0 m1 m2 m3 m4 m5 m6
  clear u0 u1 u2 u3 u4
  have m0 := cell_of_heap HX.out 0
  have m1 := cell_of_heap HX.out 1
  have m2 := cell_of_heap HX.out 2
  have m3 := cell_of_heap HX.out 3
  have m4 := cell_of_heap HX.out 4
  have m5 := cell_of_heap HX.out 5
  have m6 := cell_of_heap HX.out 6
  simp only [List.getElem?_toArray, List.getElem?_cons_zero, List.getElem?_cons_succ] at m0 m1 m2 m3 m4 m5 m6
  go_wp2_with fail
  refine (line_st [⟨#[105, 102, 32, 40]⟩, Ta, ⟨#[41, 32, 123]⟩] W0 _ b _ _ l k (HST.out.keep ((Bel.refl _).alloc _ _)) (heap_alloc_new _ _) (by rw [HA.out]; omega) (by simp)).mono ?_
  rintro r w1 ⟨rfl, hst, hpv⟩
  rw [HA.out] at hst
  have HPV := Lib.hid (HPV.out.trans ((((Bel.refl _).alloc _ _).pv b).trans hpv))
  have HX := Lib.hid (((((Bel.refl _).alloc _ _).pv b).trans hpv).stays HX.out HGB.out (by decide))
  have HST := Lib.hid hst
  clear hst hpv m0 m1 m2 m3 m4 m5 m6
  have m0 := cell_of_heap HX.out 0
  have m1 := cell_of_heap HX.out 1
  have m2 := cell_of_heap HX.out 2
  have m3 := cell_of_heap HX.out 3
  have m4 := cell_of_heap HX.out 4
  have m5 := cell_of_heap HX.out 5
  have m6 := cell_of_heap HX.out 6
  simp only [List.getElem?_toArray, List.getElem?_cons_zero, List.getElem?_cons_succ] at m0 m1 m2 m3 m4 m5 m6
  go_wp2_with fail
  refine (inner_ok HIH.out x.thn W0 _ q1 c1 b (l ++ A) k S HS.out HTK.out HTN.out HLT.out HTX.out HP.out HST.out (by have := HKD.out; omega) (by rw [List.length_append]; omega)).mono ?_
  rintro r w1 ⟨rfl, hst, hpv⟩
  have HPV := Lib.hid (HPV.out.trans hpv)
  have HX := Lib.hid (hpv.stays HX.out HGB.out (by decide))
  have HST := Lib.hid hst
  clear hst hpv m0 m1 m2 m3 m4 m5 m6
  have m0 := cell_of_heap HX.out 0
  have m1 := cell_of_heap HX.out 1
  have m2 := cell_of_heap HX.out 2
  have m3 := cell_of_heap HX.out 3
  have m4 := cell_of_heap HX.out 4
  have m5 := cell_of_heap HX.out 5
  have m6 := cell_of_heap HX.out 6
  simp only [List.getElem?_toArray, List.getElem?_cons_zero, List.getElem?_cons_succ] at m0 m1 m2 m3 m4 m5 m6
  go_wp2_with fail
  refine (line_st [⟨#[125, 32, 101, 108, 115, 101, 32, 123]⟩] W0 _ b _ _ (l ++ A ++ S) k (HST.out.keep ((Bel.refl _).alloc _ _)) (heap_alloc_new _ _) (by rw [HE2.out, List.length_append, List.length_append]; omega) (by simp)).mono ?_
  rintro r w1 ⟨rfl, hst, hpv⟩
  rw [HE2.out] at hst
  have HPV := Lib.hid (HPV.out.trans ((((Bel.refl _).alloc _ _).pv b).trans hpv))
  have HX := Lib.hid (((((Bel.refl _).alloc _ _).pv b).trans hpv).stays HX.out HGB.out (by decide))
  have HST := Lib.hid hst
  clear hst hpv m0 m1 m2 m3 m4 m5 m6
  have m0 := cell_of_heap HX.out 0
  have m1 := cell_of_heap HX.out 1
  have m2 := cell_of_heap HX.out 2
  have m3 := cell_of_heap HX.out 3
  have m4 := cell_of_heap HX.out 4
  have m5 := cell_of_heap HX.out 5
  have m6 := cell_of_heap HX.out 6
  simp only [List.getElem?_toArray, List.getElem?_cons_zero, List.getElem?_cons_succ] at m0 m1 m2 m3 m4 m5 m6
  go_wp2_with fail
  refine (inner_ok HIH.out x.els W0 _ q2 c2 b (l ++ A ++ S ++ E) k S2 HS2.out HEK.out HEL.out HLL.out HTX.out HP.out HST.out (by have := HKD.out; omega) (by rw [List.length_append, List.length_append, List.length_append]; omega)).mono ?_
  rintro r w1 ⟨rfl, hst, hpv⟩
  have HPV := Lib.hid (HPV.out.trans hpv)
  have HX := Lib.hid (hpv.stays HX.out HGB.out (by decide))
  have HST := Lib.hid hst
  clear hst hpv m0 m1 m2 m3 m4 m5 m6
  have m0 := cell_of_heap HX.out 0
  have m1 := cell_of_heap HX.out 1
  have m2 := cell_of_heap HX.out 2
  have m3 := cell_of_heap HX.out 3
  have m4 := cell_of_heap HX.out 4
  have m5 := cell_of_heap HX.out 5
  have m6 := cell_of_heap HX.out 6
  simp only [List.getElem?_toArray, List.getElem?_cons_zero, List.getElem?_cons_succ] at m0 m1 m2 m3 m4 m5 m6
  go_wp2_with fail
  refine (line_st [⟨#[125]⟩] W0 _ b _ _ (l ++ A ++ S ++ E ++ S2) k (HST.out.keep ((Bel.refl _).alloc _ _)) (heap_alloc_new _ _) (by rw [HC.out, List.length_append, List.length_append, List.length_append, List.length_append]; omega) (by simp)).mono ?_
  rintro r w1 ⟨rfl, hst, hpv⟩
  rw [HC.out] at hst
  have HPV := Lib.hid (HPV.out.trans ((((Bel.refl _).alloc _ _).pv b).trans hpv))
  have HX := Lib.hid (((((Bel.refl _).alloc _ _).pv b).trans hpv).stays HX.out HGB.out (by decide))
  have HST := Lib.hid hst
  clear hst hpv m0 m1 m2 m3 m4 m5 m6
  go_wp2_with fail
  go_end0
  have hfin := HST.out
  rw [show l ++ A ++ S ++ E ++ S2 ++ C = l ++ (A ++ S ++ (E ++ S2) ++ C) by simp only [List.append_assoc]] at hfin
  exact ⟨rfl, hfin, HPV.out⟩
set_option maxRecDepth 100000 in
set_option maxHeartbeats 8000000 in
theorem stmt_7 {d : Nat} (IH : StOk d) (x : St) (hk : x.kind = 7) (W0 w : World) (q q1 q2 : Option Addr) (c c1 c2 b : Nat) (l : Bs) (k : Nat) (hok : bodyS (d + 1) x = true) (hE : EAt W0 q x.args) (hTn : SAt W0 q1 x.thn) (hEl : SAt W0 q2 x.els) (hw : WfS x) (hX : Texts W0) (hP : PowAt W0) (hST : StP W0 b l (k : Int) w) (hkd : k + (d + 1) ≤ 1000) (hlen : l.length + (stT (d + 1) k x).length ≤ 70368744177664) :
    Calls Tryz.prog 118 #[.pointer (some ⟨b, 0, none⟩), stV q c q1 c1 q2 c2 x] w fun r w' => r = .returned (.tuple #[]) ∧ StP W0 b (l ++ stT (d + 1) k x) (k : Int) w' ∧ Pv b w w' := by
  obtain ⟨hf, hsub, htn, hel, _⟩ := st_of hok
  rw [hk] at hf
  obtain ⟨hla, hn0, hn1⟩ := fitsS_parts hf
  have hla' : (x.args.length : Int) = 0 := by rw [hla]; rfl
  have hn1' : x.n ≤ 20 := Int.le_trans hn1 (Int.le_of_eq rfl)
  obtain ⟨U, hU⟩ : ∃ U, str (Lib.itoa x.n) = U := ⟨_, rfl⟩
  have hUD : U.data.toList = numT x.n := by rw [← hU, str_list]; rfl
  have HU := Lib.hid hU
  clear hU
  obtain ⟨A, hA⟩ : ∃ A, lineT k (pcs [⟨#[114, 101, 112, 101, 97, 116, 32]⟩, U, ⟨#[32, 123]⟩]) = A := ⟨_, rfl⟩
  obtain ⟨C, hC⟩ : ∃ C, lineT k (pcs [⟨#[125]⟩]) = C := ⟨_, rfl⟩
  obtain ⟨S, hS⟩ : ∃ S, x.thn.flatMap (stT d (k + 1)) = S := ⟨_, rfl⟩
  have hTXT : stT (d + 1) k x = A ++ S ++ C := by
    rw [stT_7 hk, ← hA, ← hC, ← hS]
    unfold pcs
    (try unfold nm)
    simp only [List.map_cons, List.map_nil, hUD]
  rw [hTXT, List.length_append, List.length_append] at hlen
  rw [hTXT]
  have HA := Lib.hid hA
  have HC := Lib.hid hC
  have HS := Lib.hid hS
  clear hTXT hA hC hS
  have HK := Lib.hid hk
  have HIH := Lib.hid IH
  have HTN := Lib.hid hTn
  have HEL := Lib.hid hEl
  have HTK := Lib.hid htn
  have HEK := Lib.hid hel
  have HLT := Lib.hid hw.thn
  have HLL := Lib.hid hw.els
  have HTX := Lib.hid hX
  have HP := Lib.hid hP
  have HKD := Lib.hid hkd
  clear hk IH hTn hEl hw hX hP hok hf hla hn1 hsub htn hel hE hkd
  go_enter Tryz.func118, Tryz.ntmps118
  go_upto_region 1 with (fail)
  have hb9 := (Bel.refl w).alloc (stA x q c q1 c1 q2 c2) 52
  have hx9 := heap_alloc_new w (.cells (stA x q c q1 c1 q2 c2) 52)
  have hst := hST.keep hb9
  have hgb : w.heap.size ≠ b := by have := hST.ne.2.1; omega
  generalize w.alloc (.cells (stA x q c q1 c1 q2 c2) 52) = W9 at hb9 hx9 hst ⊢
  generalize w.heap.size = g9 at hx9 hgb ⊢
  have HST := Lib.hid hst
  have HX := Lib.hid hx9
  have HGB := Lib.hid hgb
  have HPV := Lib.hid (hb9.pv b)
  clear hst hx9 hgb hb9 hST
  have m0 := cell_of_heap HX.out 0
  have m1 := cell_of_heap HX.out 1
  have m2 := cell_of_heap HX.out 2
  have m3 := cell_of_heap HX.out 3
  have m4 := cell_of_heap HX.out 4
  have m5 := cell_of_heap HX.out 5
  have m6 := cell_of_heap HX.out 6
  simp only [List.getElem?_toArray, List.getElem?_cons_zero, List.getElem?_cons_succ] at m0 m1 m2 m3 m4 m5 m6
  rw [HK.out] at m0
  go_wp2_with fail
  refine (itoa_lit HU.out (by omega) (by omega) _ (HP.out.bel HST.out.bel)).mono ?_
  rintro r w1 ⟨rfl, hb⟩
  have HPV := Lib.hid (HPV.out.trans (hb.pv b))
  have HX := Lib.hid (hb.stays HX.out)
  have HST := Lib.hid (HST.out.keep hb)
  clear hb m0 m1 m2 m3 m4 m5 m6
  have m0 := cell_of_heap HX.out 0
  have m1 := cell_of_heap HX.out 1
  have m2 := cell_of_heap HX.out 2
  have m3 := cell_of_heap HX.out 3
  have m4 := cell_of_heap HX.out 4
  have m5 := cell_of_heap HX.out 5
  have m6 := cell_of_heap HX.out 6
  simp only [List.getElem?_toArray, List.getElem?_cons_zero, List.getElem?_cons_succ] at m0 m1 m2 m3 m4 m5 m6
  go_wp2_with fail
  refine (line_st [⟨#[114, 101, 112, 101, 97, 116, 32]⟩, U, ⟨#[32, 123]⟩] W0 _ b _ _ l k (HST.out.keep ((Bel.refl _).alloc _ _)) (heap_alloc_new _ _) (by rw [HA.out]; omega) (by simp)).mono ?_
  rintro r w1 ⟨rfl, hst, hpv⟩
  rw [HA.out] at hst
  have HPV := Lib.hid (HPV.out.trans ((((Bel.refl _).alloc _ _).pv b).trans hpv))
  have HX := Lib.hid (((((Bel.refl _).alloc _ _).pv b).trans hpv).stays HX.out HGB.out (by decide))
  have HST := Lib.hid hst
  clear hst hpv m0 m1 m2 m3 m4 m5 m6
  have m0 := cell_of_heap HX.out 0
  have m1 := cell_of_heap HX.out 1
  have m2 := cell_of_heap HX.out 2
  have m3 := cell_of_heap HX.out 3
  have m4 := cell_of_heap HX.out 4
  have m5 := cell_of_heap HX.out 5
  have m6 := cell_of_heap HX.out 6
  simp only [List.getElem?_toArray, List.getElem?_cons_zero, List.getElem?_cons_succ] at m0 m1 m2 m3 m4 m5 m6
  go_wp2_with fail
  refine (inner_ok HIH.out x.thn W0 _ q1 c1 b (l ++ A) k S HS.out HTK.out HTN.out HLT.out HTX.out HP.out HST.out (by have := HKD.out; omega) (by rw [List.length_append]; omega)).mono ?_
  rintro r w1 ⟨rfl, hst, hpv⟩
  have HPV := Lib.hid (HPV.out.trans hpv)
  have HX := Lib.hid (hpv.stays HX.out HGB.out (by decide))
  have HST := Lib.hid hst
  clear hst hpv m0 m1 m2 m3 m4 m5 m6
  have m0 := cell_of_heap HX.out 0
  have m1 := cell_of_heap HX.out 1
  have m2 := cell_of_heap HX.out 2
  have m3 := cell_of_heap HX.out 3
  have m4 := cell_of_heap HX.out 4
  have m5 := cell_of_heap HX.out 5
  have m6 := cell_of_heap HX.out 6
  simp only [List.getElem?_toArray, List.getElem?_cons_zero, List.getElem?_cons_succ] at m0 m1 m2 m3 m4 m5 m6
  go_wp2_with fail
  refine (line_st [⟨#[125]⟩] W0 _ b _ _ (l ++ A ++ S) k (HST.out.keep ((Bel.refl _).alloc _ _)) (heap_alloc_new _ _) (by rw [HC.out, List.length_append, List.length_append]; omega) (by simp)).mono ?_
  rintro r w1 ⟨rfl, hst, hpv⟩
  rw [HC.out] at hst
  have HPV := Lib.hid (HPV.out.trans ((((Bel.refl _).alloc _ _).pv b).trans hpv))
  have HX := Lib.hid (((((Bel.refl _).alloc _ _).pv b).trans hpv).stays HX.out HGB.out (by decide))
  have HST := Lib.hid hst
  clear hst hpv m0 m1 m2 m3 m4 m5 m6
  go_wp2_with fail
  go_end0
  have hfin := HST.out
  rw [show l ++ A ++ S ++ C = l ++ (A ++ S ++ C) by simp only [List.append_assoc]] at hfin
  exact ⟨rfl, hfin, HPV.out⟩
set_option maxRecDepth 100000 in
set_option maxHeartbeats 8000000 in
theorem stmt_8 {d : Nat} (IH : StOk d) (x : St) (hk : x.kind = 8) (W0 w : World) (q q1 q2 : Option Addr) (c c1 c2 b : Nat) (l : Bs) (k : Nat) (hok : bodyS (d + 1) x = true) (hE : EAt W0 q x.args) (hTn : SAt W0 q1 x.thn) (hEl : SAt W0 q2 x.els) (hw : WfS x) (hX : Texts W0) (hP : PowAt W0) (hST : StP W0 b l (k : Int) w) (hkd : k + (d + 1) ≤ 1000) (hlen : l.length + (stT (d + 1) k x).length ≤ 70368744177664) :
    Calls Tryz.prog 118 #[.pointer (some ⟨b, 0, none⟩), stV q c q1 c1 q2 c2 x] w fun r w' => r = .returned (.tuple #[]) ∧ StP W0 b (l ++ stT (d + 1) k x) (k : Int) w' ∧ Pv b w w' := by
  obtain ⟨hf, hsub, htn, hel, _⟩ := st_of hok
  rw [hk] at hf
  obtain ⟨hla, hn0, hn1⟩ := fitsS_parts hf
  have hla' : (x.args.length : Int) = 0 := by rw [hla]; rfl
  have hn1' : x.n ≤ 0 := Int.le_trans hn1 (Int.le_of_eq rfl)
  have hTXT : stT (d + 1) k x = lineT k (pcs [⟨#[104, 97, 108, 116, 59]⟩]) := by rw [stT_8 hk]; rfl
  rw [hTXT] at hlen ⊢
  obtain ⟨A, hA⟩ : ∃ A, lineT k (pcs [⟨#[104, 97, 108, 116, 59]⟩]) = A := ⟨_, rfl⟩
  rw [hA] at hlen ⊢
  have HA := Lib.hid hA
  clear hTXT hA
  have HK := Lib.hid hk
  have HIH := Lib.hid IH
  have HTN := Lib.hid hTn
  have HEL := Lib.hid hEl
  have HTK := Lib.hid htn
  have HEK := Lib.hid hel
  have HLT := Lib.hid hw.thn
  have HLL := Lib.hid hw.els
  have HTX := Lib.hid hX
  have HP := Lib.hid hP
  have HKD := Lib.hid hkd
  clear hk IH hTn hEl hw hX hP hok hf hla hn1 hsub htn hel hE hkd
  go_enter Tryz.func118, Tryz.ntmps118
  go_upto_region 1 with (fail)
  have hb9 := (Bel.refl w).alloc (stA x q c q1 c1 q2 c2) 52
  have hx9 := heap_alloc_new w (.cells (stA x q c q1 c1 q2 c2) 52)
  have hst := hST.keep hb9
  have hgb : w.heap.size ≠ b := by have := hST.ne.2.1; omega
  generalize w.alloc (.cells (stA x q c q1 c1 q2 c2) 52) = W9 at hb9 hx9 hst ⊢
  generalize w.heap.size = g9 at hx9 hgb ⊢
  have HST := Lib.hid hst
  have HX := Lib.hid hx9
  have HGB := Lib.hid hgb
  have HPV := Lib.hid (hb9.pv b)
  clear hst hx9 hgb hb9 hST
  have m0 := cell_of_heap HX.out 0
  have m1 := cell_of_heap HX.out 1
  have m2 := cell_of_heap HX.out 2
  have m3 := cell_of_heap HX.out 3
  have m4 := cell_of_heap HX.out 4
  have m5 := cell_of_heap HX.out 5
  have m6 := cell_of_heap HX.out 6
  simp only [List.getElem?_toArray, List.getElem?_cons_zero, List.getElem?_cons_succ] at m0 m1 m2 m3 m4 m5 m6
  rw [HK.out] at m0
  go_wp2_with fail
  refine (line_st [⟨#[104, 97, 108, 116, 59]⟩] W0 _ b _ _ l k (HST.out.keep ((Bel.refl _).alloc _ _)) (heap_alloc_new _ _) (by rw [HA.out]; exact hlen) (by simp)).mono ?_
  rintro r w1 ⟨rfl, hst, hpv⟩
  rw [HA.out] at hst
  have HPV := Lib.hid (HPV.out.trans ((((Bel.refl _).alloc _ _).pv b).trans hpv))
  have HX := Lib.hid (((((Bel.refl _).alloc _ _).pv b).trans hpv).stays HX.out HGB.out (by decide))
  have HST := Lib.hid hst
  clear hst hpv m0 m1 m2 m3 m4 m5 m6
  go_wp2_with fail
  go_end0
  exact ⟨rfl, HST.out, HPV.out⟩
theorem stmt_ok : ∀ d : Nat, StOk d := by
  intro d
  induction d with
  | zero =>
    intro x W0 w q q1 q2 c c1 c2 b l k hok
    cases hok
  | succ d ih =>
    intro x W0 w q q1 q2 c c1 c2 b l k hok hE hT hL hw hX hP hST hkd hlen
    rcases (st_of hok).2.2.2.2 with hk | hk | hk | hk | hk | hk | hk | hk
    · exact stmt_1 ih x hk W0 w q q1 q2 c c1 c2 b l k hok hE hT hL hw hX hP hST hkd hlen
    · exact stmt_2 ih x hk W0 w q q1 q2 c c1 c2 b l k hok hE hT hL hw hX hP hST hkd hlen
    · exact stmt_3 ih x hk W0 w q q1 q2 c c1 c2 b l k hok hE hT hL hw hX hP hST hkd hlen
    · exact stmt_4 ih x hk W0 w q q1 q2 c c1 c2 b l k hok hE hT hL hw hX hP hST hkd hlen
    · exact stmt_5 ih x hk W0 w q q1 q2 c c1 c2 b l k hok hE hT hL hw hX hP hST hkd hlen
    · by_cases he : 0 < x.els.length
      · exact stmt_6y ih x hk he W0 w q q1 q2 c c1 c2 b l k hok hE hT hL hw hX hP hST hkd hlen
      · exact stmt_6n ih x hk he W0 w q q1 q2 c c1 c2 b l k hok hE hT hL hw hX hP hST hkd hlen
    · exact stmt_7 ih x hk W0 w q q1 q2 c c1 c2 b l k hok hE hT hL hw hX hP hST hkd hlen
    · exact stmt_8 ih x hk W0 w q q1 q2 c c1 c2 b l k hok hE hT hL hw hX hP hST hkd hlen
end Go.Proofs.YthlnjnmomnpnpaaGreatDoor
