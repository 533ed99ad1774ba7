/- Package syntax: expressions are printed. -/
import Derived.Test.YthlnjnmomnpnpaaGreatDoorYItoa
import Derived.Test.YthlnjnmomnpnpaaGreatDoorYExprs
import Derived.Test.YthlnjnmomnpnpaaGreatDoorYText
import Derived.StillTailTactics
namespace Go.Proofs.YthlnjnmomnpnpaaGreatDoor
open Go.RowKit Tk Sy
set_option linter.unusedVariables false
set_option linter.unusedSimpArgs false
theorem Texts.bel {w w' : World} (h : Texts w) (hb : Bel w w') : Texts w' := fun k hk => by
  have e := h k hk
  refine (hb.cell (p := ⟨2, k, none⟩) ?_).trans e
  refine Nat.lt_of_not_le fun hge => ?_
  unfold World.cell? at e
  rw [Array.getElem?_eq_none hge] at e
  cases e
theorem exT_1 {k : Nat} {e : Ex} (h : e.kind = 1) : exT (k + 1) e = numT e.n := by show (if _ then _ else _) = _; rw [if_pos h]
theorem exT_2 {k : Nat} {e : Ex} (h : e.kind = 2) : exT (k + 1) e = nm e.name := by show (if _ then _ else _) = _; rw [if_neg (by omega), if_pos h]
theorem exT_5 {k : Nat} {e : Ex} (h : e.kind = 5) : exT (k + 1) e = nm e.name ++ [91] ++ exT k (argAt e.args 0) ++ [93] := by show (if _ then _ else _) = _; rw [if_neg (by omega), if_neg (by omega), if_pos h]
theorem exT_3 {k : Nat} {e : Ex} (h : e.kind = 3) : exT (k + 1) e = opT e.op ++ par (low (argAt e.args 0) 9223372036854775807) (exT k (argAt e.args 0)) := by show (if _ then _ else _) = _; rw [if_neg (by omega), if_neg (by omega), if_neg (by omega), if_pos h]
theorem exT_4 {k : Nat} {e : Ex} (h : e.kind = 4) : exT (k + 1) e = par (low (argAt e.args 0) (level e.op)) (exT k (argAt e.args 0)) ++ ([32] ++ opT e.op ++ [32]) ++ par (low (argAt e.args 1) (level e.op + 1)) (exT k (argAt e.args 1)) := by show (if _ then _ else _) = _; rw [if_neg (by omega), if_neg (by omega), if_neg (by omega), if_neg (by omega), if_pos h]
theorem level_bds (op : Int) : 0 ≤ level op ∧ level op ≤ 8 := by
  rcases (show op = 1 ∨ op = 2 ∨ op = 3 ∨ op = 4 ∨ op = 5 ∨ op = 6 ∨ op = 7 ∨ op = 8 ∨ op = 9 ∨ op = 10 ∨ op = 11 ∨ op = 12 ∨ op = 13 ∨ op = 14 ∨ op = 15 ∨ op = 16 ∨ op = 17 ∨ (op < 1 ∨ 17 < op) by omega) with rfl | rfl | rfl | rfl | rfl | rfl | rfl | rfl | rfl | rfl | rfl | rfl | rfl | rfl | rfl | rfl | rfl | h
  all_goals first | (constructor <;> decide) | (show 0 ≤ Plain.level op ∧ Plain.level op ≤ 8; rw [Plain.level_out op (by omega)]; omega)
theorem opT_len (op : Int) : (opT op).length ≤ 2 := by
  rcases (show op = 1 ∨ op = 2 ∨ op = 3 ∨ op = 4 ∨ op = 5 ∨ op = 6 ∨ op = 7 ∨ op = 8 ∨ op = 9 ∨ op = 10 ∨ op = 11 ∨ op = 12 ∨ op = 13 ∨ op = 14 ∨ op = 15 ∨ op = 16 ∨ op = 17 ∨ (op < 1 ∨ 17 < op) by omega) with rfl | rfl | rfl | rfl | rfl | rfl | rfl | rfl | rfl | rfl | rfl | rfl | rfl | rfl | rfl | rfl | rfl | h
  all_goals first | decide | (show (Plain.text op).length ≤ 2; rw [Plain.text_out op h]; decide)
theorem argAt_get {l : List Ex} {i : Nat} {a : Ex} (h : l[i]? = some a) : argAt l i = a := by unfold argAt; rw [List.getD_eq_getElem?_getD, h]; rfl
/-- what a right expression has, by its kind -/
theorem kind_of {k : Nat} {e : Ex} (h : bodyE (k + 1) e = true) : fitsE (eShp e.kind) e = true ∧ (∀ (i : Nat) (a : Ex), e.args[i]? = some a → bodyE k a = true) ∧ (e.kind = 1 ∨ e.kind = 2 ∨ e.kind = 3 ∨ e.kind = 4 ∨ e.kind = 5) := by
  have h' : (fitsE (eShp e.kind) e && areE k e.args) = true := h
  rw [Bool.and_eq_true] at h'
  refine ⟨h'.1, fun i a ha => ?_, ?_⟩
  · have := h'.2
    rw [areE_all, List.all_eq_true] at this
    exact this a (List.mem_of_getElem? ha)
  · have hf := h'.1
    by_cases hk : e.kind = 1 ∨ e.kind = 2 ∨ e.kind = 3 ∨ e.kind = 4 ∨ e.kind = 5
    · exact hk
    · have : eShp e.kind = noShp := by unfold eShp; rw [if_neg (by omega), if_neg (by omega), if_neg (by omega), if_neg (by omega), if_neg (by omega)]
      rw [this] at hf
      simp [fitsE, noShp] at hf
theorem fits_args {e : Ex} {s : Shp} (h : fitsE s e = true) : (e.args.length : Int) = s.args ∧ 0 ≤ e.n ∧ e.n ≤ s.most ∧ numbersV e.op = s.op := by
  unfold fitsE within at h
  simp only [Bool.and_eq_true, decide_eq_true_eq] at h
  exact ⟨h.2.2.2.2, h.2.2.1.1, h.2.2.1.2, h.2.1⟩
theorem fits_name {e : Ex} {s : Shp} (h : fitsE s e = true) (hs : s.nm = true) : e.name.size ≤ 20 := by
  unfold fitsE nameIf at h
  simp only [Bool.and_eq_true, hs, if_true] at h
  have h2 := h.2.2.2.1
  unfold isName at h2
  simp only [Bool.and_eq_true, decide_eq_true_eq] at h2
  have := h2.1.1.1
  rw [size_list] at this
  omega
abbrev exA (q : Option Addr) (c : Nat) (e : Ex) : Array Value := #[.int .i64 e.kind, .int .i64 e.op, .int .i64 e.n, .string e.name, .slice q e.args.length c]
def ExprOk (k : Nat) : Prop := ∀ (e : Ex) (W0 w : World) (q : Option Addr) (c b : Nat) (l : Bs) (t : Int), bodyE k e = true → EAt W0 q e.args → WfE e → Texts W0 → PowAt W0 → StP W0 b l t w → l.length + (exT k e).length ≤ 70368744177664 →
  Calls Tryz.prog 77 #[.pointer (some ⟨b, 0, none⟩), exV q c e] w fun r w' => r = .returned (.tuple #[]) ∧ StP W0 b (l ++ exT k e) t w' ∧ Pv b w w'
set_option maxRecDepth 100000 in
set_option maxHeartbeats 8000000 in
theorem arg_ok {k : Nat} (IH : ExprOk k) (e : Ex) (least : Int) (W0 w : World) (q : Option Addr) (c b : Nat) (l : Bs) (t : Int) (S : Bs) (hS : par (low e least) (exT k e) = S) (hok : bodyE k e = true) (hE : EAt W0 q e.args) (hw : WfE e) (hX : Texts W0) (hP : PowAt W0) (hST : StP W0 b l t w) (hlen : l.length + S.length ≤ 70368744177664) :
    Calls Tryz.prog 106 #[.pointer (some ⟨b, 0, none⟩), exV q c e, .int .i64 least] w fun r w' => r = .returned (.tuple #[]) ∧ StP W0 b (l ++ S) t w' ∧ Pv b w w' := by
  have HIH := Lib.hid IH
  have HOK := Lib.hid hok
  have HE := Lib.hid hE
  have HW := Lib.hid hw
  have HTX := Lib.hid hX
  have HP := Lib.hid hP
  obtain ⟨lv, hlv⟩ : ∃ n, level e.op = n := ⟨_, rfl⟩
  have HLV := Lib.hid hlv
  obtain ⟨T, hT⟩ : ∃ T, exT k e = T := ⟨_, rfl⟩
  rw [hT] at hS
  have HT := Lib.hid hT
  have hcase : (e.kind ≠ 4 ∧ S = T) ∨ (e.kind = 4 ∧ least ≤ lv ∧ S = T) ∨ (e.kind = 4 ∧ lv < least ∧ S = [40] ++ T ++ [41]) := by
    rw [← hS]
    unfold par low
    by_cases h4 : e.kind = 4
    · by_cases hl : lv < least
      · exact .inr (.inr ⟨h4, hl, by rw [decide_eq_true h4, hlv, decide_eq_true hl]; rfl⟩)
      · exact .inr (.inl ⟨h4, by omega, by rw [decide_eq_true h4, hlv, decide_eq_false hl]; rfl⟩)
    · exact .inl ⟨h4, by rw [decide_eq_false h4]; rfl⟩
  clear IH hok hE hw hX hP hlv hS hT
  go_enter Tryz.func106, Tryz.ntmps106
  go_upto_region 1 with (fail)
  have hb9 := (Bel.refl w).alloc (exA q c e) 40
  have hx9 := heap_alloc_new w (.cells (exA q c e) 40)
  have hst := hST.keep hb9
  have hgb : w.heap.size ≠ b := by have := hST.ne.2.1; omega
  generalize w.alloc (.cells (exA q c e) 40) = W9 at hb9 hx9 hst ⊢
  generalize w.heap.size = g9 at hx9 hgb ⊢
  have HST := Lib.hid hst
  have HX := Lib.hid hx9
  have HGB := Lib.hid hgb
  have HPV := Lib.hid (hb9.pv b)
  clear hst hx9 hgb hb9 hST
  have k0 := cell_of_heap HX.out 0
  have k1 := cell_of_heap HX.out 1
  have k2 := cell_of_heap HX.out 2
  have k3 := cell_of_heap HX.out 3
  have k4 := cell_of_heap HX.out 4
  simp only [List.getElem?_toArray, List.getElem?_cons_zero, List.getElem?_cons_succ] at k0 k1 k2 k3 k4
  rcases hcase with ⟨h4, rfl⟩ | ⟨h4, hl, rfl⟩ | ⟨h4, hl, rfl⟩
  · have q1 : (e.kind != 4) = true := by simp [h4]
    clear h4
    go_wp2_with fail
    refine (HIH.out e W0 _ q c b l t HOK.out HE.out HW.out HTX.out HP.out HST.out (by rw [HT.out]; exact hlen)).mono ?_
    rintro r w1 ⟨rfl, hst, hpv⟩
    rw [HT.out] at hst
    have HPV := Lib.hid (HPV.out.trans hpv)
    have HST := Lib.hid hst
    clear hst hpv k0 k1 k2 k3 k4
    go_wp2_with fail
    exact bodyPost_ret (results_none rfl _ _ _) rfl ⟨rfl, HST.out, HPV.out⟩
  · have q1 : (e.kind != 4) = false := by simp [h4]
    clear h4
    go_wp2_with (go_at_call 107; ((with_reducible refine (level_lit HLV.out _).mono ?_); rintro e w' ⟨rfl, rfl⟩))
    refine (HIH.out e W0 _ q c b l t HOK.out HE.out HW.out HTX.out HP.out HST.out (by rw [HT.out]; exact hlen)).mono ?_
    rintro r w1 ⟨rfl, hst, hpv⟩
    rw [HT.out] at hst
    have HPV := Lib.hid (HPV.out.trans hpv)
    have HST := Lib.hid hst
    clear hst hpv k0 k1 k2 k3 k4
    go_wp2_with fail
    exact bodyPost_ret (results_none rfl _ _ _) rfl ⟨rfl, HST.out, HPV.out⟩
  · have q1 : (e.kind != 4) = false := by simp [h4]
    clear h4
    have hlen' : l.length + (T.length + 1 + 1) ≤ 70368744177664 := by simpa using hlen
    go_wp2_with (go_at_call 107; ((with_reducible refine (level_lit HLV.out _).mono ?_); rintro e w' ⟨rfl, rfl⟩))
    refine (wb_st 40 rfl HST.out (by omega)).mono ?_
    rintro r w1 ⟨rfl, hst, hpv⟩
    have HPV := Lib.hid (HPV.out.trans hpv)
    have HX := Lib.hid (hpv.stays HX.out HGB.out (by decide))
    have HST := Lib.hid hst
    clear hst hpv k0 k1 k2 k3 k4
    have k0 := cell_of_heap HX.out 0
    have k1 := cell_of_heap HX.out 1
    have k2 := cell_of_heap HX.out 2
    have k3 := cell_of_heap HX.out 3
    have k4 := cell_of_heap HX.out 4
    simp only [List.getElem?_toArray, List.getElem?_cons_zero, List.getElem?_cons_succ] at k0 k1 k2 k3 k4
    go_wp2_with fail
    refine (HIH.out e W0 _ q c b (l ++ [40]) t HOK.out HE.out HW.out HTX.out HP.out HST.out (by rw [HT.out, List.length_append]; simp; omega)).mono ?_
    rintro r w2 ⟨rfl, hst, hpv⟩
    rw [HT.out] at hst
    have HPV := Lib.hid (HPV.out.trans hpv)
    have HX := Lib.hid (hpv.stays HX.out HGB.out (by decide))
    have HST := Lib.hid hst
    clear hst hpv k0 k1 k2 k3 k4
    have k0 := cell_of_heap HX.out 0
    have k1 := cell_of_heap HX.out 1
    have k2 := cell_of_heap HX.out 2
    have k3 := cell_of_heap HX.out 3
    have k4 := cell_of_heap HX.out 4
    simp only [List.getElem?_toArray, List.getElem?_cons_zero, List.getElem?_cons_succ] at k0 k1 k2 k3 k4
    go_wp2_with fail
    refine (wb_st 41 rfl HST.out (by simp; omega)).mono ?_
    rintro r w3 ⟨rfl, hst, hpv⟩
    have HPV := Lib.hid (HPV.out.trans hpv)
    have hst' : StP W0 b (l ++ ([40] ++ T ++ [41])) t w3 := by rw [show l ++ ([40] ++ T ++ [41]) = l ++ [40] ++ T ++ [41] by simp]; exact hst
    have HST := Lib.hid hst'
    clear hst hst' hpv k0 k1 k2 k3 k4
    go_wp2_with fail
    go_end0
    exact ⟨rfl, HST.out, HPV.out⟩
set_option maxRecDepth 100000 in
set_option maxHeartbeats 8000000 in
theorem expr_2 {k : Nat} (IH : ExprOk k) (e : Ex) (hk : e.kind = 2) (W0 w : World) (q : Option Addr) (c b : Nat) (l : Bs) (t : Int) (hok : bodyE (k + 1) e = true) (hE : EAt W0 q e.args) (hw : WfE e) (hX : Texts W0) (hP : PowAt W0) (hST : StP W0 b l t w) (hlen : l.length + (exT (k + 1) e).length ≤ 70368744177664) :
    Calls Tryz.prog 77 #[.pointer (some ⟨b, 0, none⟩), exV q c e] w fun r w' => r = .returned (.tuple #[]) ∧ StP W0 b (l ++ exT (k + 1) e) t w' ∧ Pv b w w' := by
  obtain ⟨hf, hsub, _⟩ := kind_of hok
  rw [hk] at hf
  obtain ⟨hla, hn0, hn1, hop⟩ := fits_args hf
  have hla' : (e.args.length : Int) = 0 := by rw [hla]; rfl
  have hn1' : e.n ≤ 0 := Int.le_trans hn1 (Int.le_of_eq rfl)
  rw [exT_2 hk] at hlen ⊢
  have HK := Lib.hid hk
  clear hk
  obtain ⟨O, hO⟩ : ∃ O, (⟨(Plain.text e.op).toArray⟩ : ByteArray) = O := ⟨_, rfl⟩
  obtain ⟨ob, hob⟩ : ∃ ob, Plain.isSign e.op = ob := ⟨_, rfl⟩
  have HO := Lib.hid hO
  have HOB := Lib.hid hob
  have hOl : opT e.op = O.data.toList := by rw [← hO]
  have HIH := Lib.hid IH
  have HE := Lib.hid hE
  have HW := Lib.hid hw
  have HTX := Lib.hid hX
  have HP := Lib.hid hP
  have HSUB := Lib.hid hsub
  have HOL := Lib.hid hOl
  have hlc := hw.args
  clear IH hok hE hw hX hP hsub hO hob hOl hf hla hn1 hop
  go_enter Tryz.func77, Tryz.ntmps77
  go_upto_region 1 with (fail)
  have hb9 := (Bel.refl w).alloc #[.int .i64 e.kind, .int .i64 e.op, .int .i64 e.n, .string e.name, .slice q e.args.length c] 40
  have hx9 := heap_alloc_new w (.cells #[.int .i64 e.kind, .int .i64 e.op, .int .i64 e.n, .string e.name, .slice q e.args.length c] 40)
  have hst := hST.keep hb9
  have hgb : w.heap.size ≠ b := by have := hST.ne.2.1; omega
  generalize w.alloc (.cells #[.int .i64 e.kind, .int .i64 e.op, .int .i64 e.n, .string e.name, .slice q e.args.length c] 40) = W9 at hb9 hx9 hst ⊢
  generalize w.heap.size = g9 at hx9 hgb ⊢
  have HST := Lib.hid hst
  have HX := Lib.hid hx9
  have HGB := Lib.hid hgb
  have HPV := Lib.hid (hb9.pv b)
  clear hst hx9 hgb hb9 hST
  have k0 := cell_of_heap HX.out 0
  have k1 := cell_of_heap HX.out 1
  have k2 := cell_of_heap HX.out 2
  have k3 := cell_of_heap HX.out 3
  have k4 := cell_of_heap HX.out 4
  simp only [List.getElem?_toArray, List.getElem?_cons_zero, List.getElem?_cons_succ] at k0 k1 k2 k3 k4
  rw [HK.out] at k0
  go_wp2_with (go_at_call 105; (refine (sign_lit HO.out HOB.out _ (HTX.out.bel HST.out.bel)).mono ?_); rintro e w' ⟨rfl, rfl⟩)
  have HKEEP : Hid (∀ w', Pv b W9 w' → w'.cell? ⟨g9, 0, none⟩ = some (.int .i64 e.kind) ∧ w'.cell? ⟨g9, 2, none⟩ = some (.int .i64 e.n) ∧ w'.cell? ⟨g9, 3, none⟩ = some (.string e.name)) := Lib.hid (fun w' hv => ⟨cell_of_heap (hv.stays HX.out HGB.out (by decide)) 0, cell_of_heap (hv.stays HX.out HGB.out (by decide)) 2, cell_of_heap (hv.stays HX.out HGB.out (by decide)) 3⟩)
  go_upto_region 6 with (fail)
  go_region_held3 (fun w' => w'.cell? ⟨g9, 3, none⟩ = some (.string e.name)) (first | exact (HKEEP.out _ (((Bel.refl W9).drew.pv b).trans hpv)).2.2 | exact (HKEEP.out _ ((Bel.refl W9).drew.pv b)).2.2)
    (first | (go_at_call 94; refine (ws_st (S := nm e.name) rfl (HST.out.keep (Bel.refl W9).drew) hlen).mono ?_; rintro e' w1 ⟨rfl, hst, hpv⟩))
  have HPV := Lib.hid (HPV.out.trans (((Bel.refl W9).drew.pv b).trans hpv))
  have HST := Lib.hid hst
  clear hst hpv k0 k1 k2 k3 k4
  rename_i hh
  clear hh
  go_wp2_with fail
  go_end0
  exact ⟨rfl, HST.out, HPV.out⟩
set_option maxRecDepth 100000 in
set_option maxHeartbeats 8000000 in
theorem expr_1 {k : Nat} (IH : ExprOk k) (e : Ex) (hk : e.kind = 1) (W0 w : World) (q : Option Addr) (c b : Nat) (l : Bs) (t : Int) (hok : bodyE (k + 1) e = true) (hE : EAt W0 q e.args) (hw : WfE e) (hX : Texts W0) (hP : PowAt W0) (hST : StP W0 b l t w) (hlen : l.length + (exT (k + 1) e).length ≤ 70368744177664) :
    Calls Tryz.prog 77 #[.pointer (some ⟨b, 0, none⟩), exV q c e] w fun r w' => r = .returned (.tuple #[]) ∧ StP W0 b (l ++ exT (k + 1) e) t w' ∧ Pv b w w' := by
  obtain ⟨hf, hsub, _⟩ := kind_of hok
  rw [hk] at hf
  obtain ⟨hla, hn0, hn1, hop⟩ := fits_args hf
  have hla' : (e.args.length : Int) = 0 := by rw [hla]; rfl
  have hn1' : e.n ≤ 4294967295 := Int.le_trans hn1 (Int.le_of_eq rfl)
  obtain ⟨U, hU⟩ : ∃ U, str (Lib.itoa e.n) = U := ⟨_, rfl⟩
  have hUl : numT e.n = U.data.toList := by rw [← hU, str_list]; rfl
  have HU := Lib.hid hU
  have HUL := Lib.hid hUl
  clear hU hUl
  rw [exT_1 hk] at hlen ⊢
  have HK := Lib.hid hk
  clear hk
  obtain ⟨O, hO⟩ : ∃ O, (⟨(Plain.text e.op).toArray⟩ : ByteArray) = O := ⟨_, rfl⟩
  obtain ⟨ob, hob⟩ : ∃ ob, Plain.isSign e.op = ob := ⟨_, rfl⟩
  have HO := Lib.hid hO
  have HOB := Lib.hid hob
  have hOl : opT e.op = O.data.toList := by rw [← hO]
  have HIH := Lib.hid IH
  have HE := Lib.hid hE
  have HW := Lib.hid hw
  have HTX := Lib.hid hX
  have HP := Lib.hid hP
  have HSUB := Lib.hid hsub
  have HOL := Lib.hid hOl
  have hlc := hw.args
  clear IH hok hE hw hX hP hsub hO hob hOl hf hla hn1 hop
  go_enter Tryz.func77, Tryz.ntmps77
  go_upto_region 1 with (fail)
  have hb9 := (Bel.refl w).alloc #[.int .i64 e.kind, .int .i64 e.op, .int .i64 e.n, .string e.name, .slice q e.args.length c] 40
  have hx9 := heap_alloc_new w (.cells #[.int .i64 e.kind, .int .i64 e.op, .int .i64 e.n, .string e.name, .slice q e.args.length c] 40)
  have hst := hST.keep hb9
  have hgb : w.heap.size ≠ b := by have := hST.ne.2.1; omega
  generalize w.alloc (.cells #[.int .i64 e.kind, .int .i64 e.op, .int .i64 e.n, .string e.name, .slice q e.args.length c] 40) = W9 at hb9 hx9 hst ⊢
  generalize w.heap.size = g9 at hx9 hgb ⊢
  have HST := Lib.hid hst
  have HX := Lib.hid hx9
  have HGB := Lib.hid hgb
  have HPV := Lib.hid (hb9.pv b)
  clear hst hx9 hgb hb9 hST
  have k0 := cell_of_heap HX.out 0
  have k1 := cell_of_heap HX.out 1
  have k2 := cell_of_heap HX.out 2
  have k3 := cell_of_heap HX.out 3
  have k4 := cell_of_heap HX.out 4
  simp only [List.getElem?_toArray, List.getElem?_cons_zero, List.getElem?_cons_succ] at k0 k1 k2 k3 k4
  rw [HK.out] at k0
  go_wp2_with (go_at_call 105; (refine (sign_lit HO.out HOB.out _ (HTX.out.bel HST.out.bel)).mono ?_); rintro e w' ⟨rfl, rfl⟩)
  have HKEEP : Hid (∀ w', Pv b W9 w' → w'.cell? ⟨g9, 0, none⟩ = some (.int .i64 e.kind) ∧ w'.cell? ⟨g9, 2, none⟩ = some (.int .i64 e.n) ∧ w'.cell? ⟨g9, 3, none⟩ = some (.string e.name)) := Lib.hid (fun w' hv => ⟨cell_of_heap (hv.stays HX.out HGB.out (by decide)) 0, cell_of_heap (hv.stays HX.out HGB.out (by decide)) 2, cell_of_heap (hv.stays HX.out HGB.out (by decide)) 3⟩)
  go_upto_region 4 with (fail)
  go_region_held3 (fun w' => w'.cell? ⟨g9, 2, none⟩ = some (.int .i64 e.n)) (first | exact (HKEEP.out _ ((((Bel.refl W9).drew.trans hb).pv b).trans hpv)).2.1 | exact (HKEEP.out _ (((Bel.refl W9).drew.trans hb).pv b)).2.1 | exact (HKEEP.out _ ((Bel.refl W9).drew.pv b)).2.1)
    (first
      | (go_at_call 58; refine (itoa_lit HU.out (by omega) (by omega) _ (HP.out.bel (HST.out.bel.trans (Bel.refl W9).drew))).mono ?_; rintro e' w0 ⟨rfl, hb⟩)
      | (go_at_call 94; refine (ws_st (S := numT e.n) HUL.out (HST.out.keep ((Bel.refl W9).drew.trans hb)) hlen).mono ?_; rintro e' w1 ⟨rfl, hst, hpv⟩))
  have HPV := Lib.hid (HPV.out.trans ((((Bel.refl W9).drew.trans hb).pv b).trans hpv))
  have HST := Lib.hid hst
  clear hst hpv hb k0 k1 k2 k3 k4
  rename_i hh
  clear hh
  go_wp2_with fail
  go_end0
  exact ⟨rfl, HST.out, HPV.out⟩
set_option maxRecDepth 100000 in
set_option maxHeartbeats 8000000 in
theorem expr_3 {k : Nat} (IH : ExprOk k) (e : Ex) (hk : e.kind = 3) (W0 w : World) (q : Option Addr) (c b : Nat) (l : Bs) (t : Int) (hok : bodyE (k + 1) e = true) (hE : EAt W0 q e.args) (hw : WfE e) (hX : Texts W0) (hP : PowAt W0) (hST : StP W0 b l t w) (hlen : l.length + (exT (k + 1) e).length ≤ 70368744177664) :
    Calls Tryz.prog 77 #[.pointer (some ⟨b, 0, none⟩), exV q c e] w fun r w' => r = .returned (.tuple #[]) ∧ StP W0 b (l ++ exT (k + 1) e) t w' ∧ Pv b w w' := by
  obtain ⟨hf, hsub, _⟩ := kind_of hok
  rw [hk] at hf
  obtain ⟨hla, hn0, hn1, hop⟩ := fits_args hf
  have hla' : (e.args.length : Int) = 1 := by rw [hla]; rfl
  have hn1' : e.n ≤ 0 := Int.le_trans hn1 (Int.le_of_eq rfl)
  obtain ⟨a, ha⟩ : ∃ x, e.args[0]? = some x := ⟨_, List.getElem?_eq_getElem (by omega)⟩
  have hba := hsub 0 a ha
  obtain ⟨hwa, ba, oa, qa, ca, rfl, hla, m0, m1, m2, m3, m4, hEa⟩ := hE.get ha
  have HCa : Hid (∀ w', Bel W0 w' → w'.cell? ⟨ba, oa, none⟩ = some (.int .i64 a.kind) ∧ w'.cell? ⟨ba, oa + 1, none⟩ = some (.int .i64 a.op) ∧ w'.cell? ⟨ba, oa + 2, none⟩ = some (.int .i64 a.n) ∧ w'.cell? ⟨ba, oa + 3, none⟩ = some (.string a.name) ∧ w'.cell? ⟨ba, oa + 4, none⟩ = some (.slice qa a.args.length ca)) := Lib.hid (fun w' hb => ⟨(hb.cell (p := ⟨ba, oa, none⟩) hla).trans m0, (hb.cell (p := ⟨ba, oa + 1, none⟩) hla).trans m1, (hb.cell (p := ⟨ba, oa + 2, none⟩) hla).trans m2, (hb.cell (p := ⟨ba, oa + 3, none⟩) hla).trans m3, (hb.cell (p := ⟨ba, oa + 4, none⟩) hla).trans m4⟩)
  have HBa := Lib.hid hba
  have HWa := Lib.hid hwa
  have HEa := Lib.hid hEa
  have hAa := argAt_get ha
  clear m0 m1 m2 m3 m4 hba hwa hEa
  obtain ⟨A, hA⟩ : ∃ A, par (low a 9223372036854775807) (exT k a) = A := ⟨_, rfl⟩
  have HA := Lib.hid hA
  rw [exT_3 hk, hAa, hA] at hlen ⊢
  rw [List.length_append] at hlen
  clear hA hAa ha
  have HK := Lib.hid hk
  clear hk
  obtain ⟨O, hO⟩ : ∃ O, (⟨(Plain.text e.op).toArray⟩ : ByteArray) = O := ⟨_, rfl⟩
  obtain ⟨ob, hob⟩ : ∃ ob, Plain.isSign e.op = ob := ⟨_, rfl⟩
  have HO := Lib.hid hO
  have HOB := Lib.hid hob
  have hOl : opT e.op = O.data.toList := by rw [← hO]
  have HIH := Lib.hid IH
  have HE := Lib.hid hE
  have HW := Lib.hid hw
  have HTX := Lib.hid hX
  have HP := Lib.hid hP
  have HSUB := Lib.hid hsub
  have HOL := Lib.hid hOl
  have hlc := hw.args
  clear IH hok hE hw hX hP hsub hO hob hOl hf hla hn1 hop
  go_enter Tryz.func77, Tryz.ntmps77
  go_upto_region 1 with (fail)
  have hb9 := (Bel.refl w).alloc #[.int .i64 e.kind, .int .i64 e.op, .int .i64 e.n, .string e.name, .slice (some ⟨ba, oa, none⟩) e.args.length c] 40
  have hx9 := heap_alloc_new w (.cells #[.int .i64 e.kind, .int .i64 e.op, .int .i64 e.n, .string e.name, .slice (some ⟨ba, oa, none⟩) e.args.length c] 40)
  have hst := hST.keep hb9
  have hgb : w.heap.size ≠ b := by have := hST.ne.2.1; omega
  generalize w.alloc (.cells #[.int .i64 e.kind, .int .i64 e.op, .int .i64 e.n, .string e.name, .slice (some ⟨ba, oa, none⟩) e.args.length c] 40) = W9 at hb9 hx9 hst ⊢
  generalize w.heap.size = g9 at hx9 hgb ⊢
  have HST := Lib.hid hst
  have HX := Lib.hid hx9
  have HGB := Lib.hid hgb
  have HPV := Lib.hid (hb9.pv b)
  clear hst hx9 hgb hb9 hST
  have k0 := cell_of_heap HX.out 0
  have k1 := cell_of_heap HX.out 1
  have k2 := cell_of_heap HX.out 2
  have k3 := cell_of_heap HX.out 3
  have k4 := cell_of_heap HX.out 4
  simp only [List.getElem?_toArray, List.getElem?_cons_zero, List.getElem?_cons_succ] at k0 k1 k2 k3 k4
  rw [HK.out] at k0
  go_wp2_with (go_at_call 105; (refine (sign_lit HO.out HOB.out _ (HTX.out.bel HST.out.bel)).mono ?_); rintro e w' ⟨rfl, rfl⟩)
  refine (ws_st (S := opT e.op) HOL.out HST.out (by omega)).mono ?_
  rintro r w1 ⟨rfl, hst, hpv⟩
  have HPV := Lib.hid (HPV.out.trans hpv)
  have HX := Lib.hid (hpv.stays HX.out HGB.out (by decide))
  have HST := Lib.hid hst
  clear hst hpv k0 k1 k2 k3 k4
  have k0 := cell_of_heap HX.out 0
  have k1 := cell_of_heap HX.out 1
  have k2 := cell_of_heap HX.out 2
  have k3 := cell_of_heap HX.out 3
  have k4 := cell_of_heap HX.out 4
  simp only [List.getElem?_toArray, List.getElem?_cons_zero, List.getElem?_cons_succ] at k0 k1 k2 k3 k4
  obtain ⟨m0a, m1a, m2a, m3a, m4a⟩ := HCa.out _ HST.out.bel
  have hk1 : (0 : Int) < e.args.length := by omega
  go_wp2_with fail
  refine (arg_ok HIH.out a _ W0 _ qa ca b _ t A HA.out HBa.out HEa.out HWa.out HTX.out HP.out HST.out (by rw [List.length_append]; omega)).mono ?_
  rintro r w2 ⟨rfl, hst, hpv⟩
  have HPV := Lib.hid (HPV.out.trans hpv)
  rw [List.append_assoc] at hst
  have HST := Lib.hid hst
  clear hst hpv k0 k1 k2 k3 k4
  go_wp2_with fail
  go_end0
  exact ⟨rfl, HST.out, HPV.out⟩
set_option maxRecDepth 100000 in
set_option maxHeartbeats 8000000 in
theorem expr_5 {k : Nat} (IH : ExprOk k) (e : Ex) (hk : e.kind = 5) (W0 w : World) (q : Option Addr) (c b : Nat) (l : Bs) (t : Int) (hok : bodyE (k + 1) e = true) (hE : EAt W0 q e.args) (hw : WfE e) (hX : Texts W0) (hP : PowAt W0) (hST : StP W0 b l t w) (hlen : l.length + (exT (k + 1) e).length ≤ 70368744177664) :
    Calls Tryz.prog 77 #[.pointer (some ⟨b, 0, none⟩), exV q c e] w fun r w' => r = .returned (.tuple #[]) ∧ StP W0 b (l ++ exT (k + 1) e) t w' ∧ Pv b w w' := by
  obtain ⟨hf, hsub, _⟩ := kind_of hok
  rw [hk] at hf
  obtain ⟨hla, hn0, hn1, hop⟩ := fits_args hf
  have hla' : (e.args.length : Int) = 1 := by rw [hla]; rfl
  have hn1' : e.n ≤ 0 := Int.le_trans hn1 (Int.le_of_eq rfl)
  obtain ⟨a, ha⟩ : ∃ x, e.args[0]? = some x := ⟨_, List.getElem?_eq_getElem (by omega)⟩
  have hba := hsub 0 a ha
  obtain ⟨hwa, ba, oa, qa, ca, rfl, hla, m0, m1, m2, m3, m4, hEa⟩ := hE.get ha
  have HCa : Hid (∀ w', Bel W0 w' → w'.cell? ⟨ba, oa, none⟩ = some (.int .i64 a.kind) ∧ w'.cell? ⟨ba, oa + 1, none⟩ = some (.int .i64 a.op) ∧ w'.cell? ⟨ba, oa + 2, none⟩ = some (.int .i64 a.n) ∧ w'.cell? ⟨ba, oa + 3, none⟩ = some (.string a.name) ∧ w'.cell? ⟨ba, oa + 4, none⟩ = some (.slice qa a.args.length ca)) := Lib.hid (fun w' hb => ⟨(hb.cell (p := ⟨ba, oa, none⟩) hla).trans m0, (hb.cell (p := ⟨ba, oa + 1, none⟩) hla).trans m1, (hb.cell (p := ⟨ba, oa + 2, none⟩) hla).trans m2, (hb.cell (p := ⟨ba, oa + 3, none⟩) hla).trans m3, (hb.cell (p := ⟨ba, oa + 4, none⟩) hla).trans m4⟩)
  have HBa := Lib.hid hba
  have HWa := Lib.hid hwa
  have HEa := Lib.hid hEa
  have hAa := argAt_get ha
  clear m0 m1 m2 m3 m4 hba hwa hEa
  obtain ⟨A, hA⟩ : ∃ A, exT k a = A := ⟨_, rfl⟩
  have HA := Lib.hid hA
  rw [exT_5 hk, hAa, hA] at hlen ⊢
  have e1 : (nm e.name ++ [91]).length = (nm e.name).length + 1 := List.length_append
  have hlen' : l.length + ((nm e.name).length + 1 + A.length + 1) ≤ 70368744177664 := by
    have h2 := hlen
    rw [List.length_append, List.length_append, e1] at h2
    exact h2
  have hsz : e.name.size + (⟨#[91]⟩ : ByteArray).size ≤ 9223372036854775807 := by
    have h1 := fits_name hf rfl
    show e.name.size + 1 ≤ 9223372036854775807
    omega
  have hsz2 : e.name.size < 9223372036854775807 := hsz
  have hsz3 : e.name.size ≤ 9223372036854775806 := Nat.le_of_lt_succ hsz
  have hNB : Hid (nm e.name ++ [91] = (e.name ++ ⟨#[91]⟩ : ByteArray).data.toList) := Lib.hid (by simp [nm])
  clear hA hAa ha
  have HK := Lib.hid hk
  clear hk
  obtain ⟨O, hO⟩ : ∃ O, (⟨(Plain.text e.op).toArray⟩ : ByteArray) = O := ⟨_, rfl⟩
  obtain ⟨ob, hob⟩ : ∃ ob, Plain.isSign e.op = ob := ⟨_, rfl⟩
  have HO := Lib.hid hO
  have HOB := Lib.hid hob
  have hOl : opT e.op = O.data.toList := by rw [← hO]
  have HIH := Lib.hid IH
  have HE := Lib.hid hE
  have HW := Lib.hid hw
  have HTX := Lib.hid hX
  have HP := Lib.hid hP
  have HSUB := Lib.hid hsub
  have HOL := Lib.hid hOl
  have hlc := hw.args
  clear IH hok hE hw hX hP hsub hO hob hOl hf hla hn1 hop
  go_enter Tryz.func77, Tryz.ntmps77
  go_upto_region 1 with (fail)
  have hb9 := (Bel.refl w).alloc #[.int .i64 e.kind, .int .i64 e.op, .int .i64 e.n, .string e.name, .slice (some ⟨ba, oa, none⟩) e.args.length c] 40
  have hx9 := heap_alloc_new w (.cells #[.int .i64 e.kind, .int .i64 e.op, .int .i64 e.n, .string e.name, .slice (some ⟨ba, oa, none⟩) e.args.length c] 40)
  have hst := hST.keep hb9
  have hgb : w.heap.size ≠ b := by have := hST.ne.2.1; omega
  generalize w.alloc (.cells #[.int .i64 e.kind, .int .i64 e.op, .int .i64 e.n, .string e.name, .slice (some ⟨ba, oa, none⟩) e.args.length c] 40) = W9 at hb9 hx9 hst ⊢
  generalize w.heap.size = g9 at hx9 hgb ⊢
  have HST := Lib.hid hst
  have HX := Lib.hid hx9
  have HGB := Lib.hid hgb
  have HPV := Lib.hid (hb9.pv b)
  clear hst hx9 hgb hb9 hST
  have k0 := cell_of_heap HX.out 0
  have k1 := cell_of_heap HX.out 1
  have k2 := cell_of_heap HX.out 2
  have k3 := cell_of_heap HX.out 3
  have k4 := cell_of_heap HX.out 4
  simp only [List.getElem?_toArray, List.getElem?_cons_zero, List.getElem?_cons_succ] at k0 k1 k2 k3 k4
  rw [HK.out] at k0
  go_wp2_with (go_at_call 105; (refine (sign_lit HO.out HOB.out _ (HTX.out.bel HST.out.bel)).mono ?_); rintro e w' ⟨rfl, rfl⟩)
  have HKEEP : Hid (∀ w', Pv b W9 w' → w'.cell? ⟨g9, 0, none⟩ = some (.int .i64 e.kind) ∧ w'.cell? ⟨g9, 2, none⟩ = some (.int .i64 e.n) ∧ w'.cell? ⟨g9, 3, none⟩ = some (.string e.name)) := Lib.hid (fun w' hv => ⟨cell_of_heap (hv.stays HX.out HGB.out (by decide)) 0, cell_of_heap (hv.stays HX.out HGB.out (by decide)) 2, cell_of_heap (hv.stays HX.out HGB.out (by decide)) 3⟩)
  go_upto_region 8 with (fail)
  have HKQ : Hid (∀ w', Pv b W9 w' → w'.cell? ⟨g9, 3, none⟩ = some (.string e.name)) := Lib.hid (fun w' hv => (HKEEP.out w' hv).2.2)
  refine wp_region_held_drew (S := (fun w' => w'.cell? ⟨g9, 3, none⟩ = some (.string e.name))) (by kernel_rfl) (HKQ.out _ ((Bel.refl W9).drew.pv b)) (fun hS0 => ?_)
  refine takeD 34 (i := 0) (v := ?v1) rfl rfl (by kernel_rfl) (by kernel_rfl) (by kernel_rfl) (fun _ _ _ h => h) (by kernel_rfl) ?hy1 hS0 ?rest1
  case hy1 => (intro w0 hSw; obtain s0 := hSw; first | (go_simp; done) | (go_simp; with_reducible rfl))
  simp only [List.setIfInBounds_toArray, List.set_cons_zero, List.set_cons_succ]
  refine takeD 35 (i := 1) (v := ?v2) rfl rfl (by kernel_rfl) (by kernel_rfl) (by kernel_rfl) (fun _ _ _ h => h) (by kernel_rfl) ?hy2 hS0 ?rest2
  case hy2 => (intro w0 hSw; obtain s0 := hSw; first | (go_simp; done) | (go_simp; with_reducible rfl))
  simp only [List.setIfInBounds_toArray, List.set_cons_zero, List.set_cons_succ]
  refine takeD 36 (i := 2) (v := ?v3) rfl rfl (by kernel_rfl) (by kernel_rfl) (by kernel_rfl) (fun _ _ _ h => h) (by kernel_rfl) ?hy3 hS0 ?rest3
  case hy3 => (intro w0 hSw; obtain s0 := hSw; first | (go_simp; done) | (go_simp; with_reducible rfl))
  simp only [List.setIfInBounds_toArray, List.set_cons_zero, List.set_cons_succ]
  refine takeD 37 (i := 3) (v := ?v4) rfl rfl (by kernel_rfl) (by kernel_rfl) (by kernel_rfl) (fun _ _ _ h => h) (by kernel_rfl) ?hy4 hS0 ?rest4
  case hy4 => (intro w0 hSw; obtain s0 := hSw; first | (go_simp; done) | (go_simp; with_reducible rfl))
  simp only [List.setIfInBounds_toArray, List.set_cons_zero, List.set_cons_succ]
  refine takeD 38 (i := 4) (v := ?v5) rfl rfl (by kernel_rfl) (by kernel_rfl) (by kernel_rfl) (fun _ _ _ h => h) (by kernel_rfl) ?hy5 hS0 ?rest5
  case hy5 => (intro w0 hSw; obtain s0 := hSw; first | (go_simp; done) | (go_simp; with_reducible rfl))
  simp only [List.setIfInBounds_toArray, List.set_cons_zero, List.set_cons_succ]
  refine takeD 39 (i := 5) (v := .string (e.name ++ ⟨#[91]⟩)) rfl rfl (by kernel_rfl) (by kernel_rfl) (by kernel_rfl) (fun _ _ _ h => h) (by kernel_rfl) ?hy6 hS0 ?rest6
  case hy6 => (intro w0 hSw; go_simp)
  simp only [List.setIfInBounds_toArray, List.set_cons_zero, List.set_cons_succ]
  refine onlyD 40 (i := 6) rfl rfl (by kernel_rfl) (by kernel_rfl) (fun K hK => ?_)
  go_simp
  go_at_call 94
  refine (ws_st (S := nm e.name ++ [91]) hNB.out (HST.out.keep (Bel.refl W9).drew) (by omega)).mono ?_
  rintro e' w1 ⟨rfl, hst, hpv⟩
  have hS1 := HKQ.out _ (((Bel.refl W9).drew.pv b).trans hpv)
  refine hK.out _ _ hS1 (fun _ => ?_)
  clear hK K
  simp only [List.setIfInBounds_toArray, List.set_cons_zero, List.set_cons_succ]
  refine wpAnyH_done (by kernel_rfl) ?_ _
  clear hS0 hS1 HKQ
  have HPV := Lib.hid (HPV.out.trans (((Bel.refl W9).drew.pv b).trans hpv))
  have HX := Lib.hid (hpv.stays ((Bel.refl W9).drew.stays HX.out) HGB.out (by decide))
  have HST := Lib.hid hst
  clear hst hpv k0 k1 k2 k3 k4 HKEEP
  have k0 := cell_of_heap HX.out 0
  have k1 := cell_of_heap HX.out 1
  have k2 := cell_of_heap HX.out 2
  have k3 := cell_of_heap HX.out 3
  have k4 := cell_of_heap HX.out 4
  simp only [List.getElem?_toArray, List.getElem?_cons_zero, List.getElem?_cons_succ] at k0 k1 k2 k3 k4
  obtain ⟨m0a, m1a, m2a, m3a, m4a⟩ := HCa.out _ HST.out.bel
  have hk1 : (0 : Int) < e.args.length := by omega
  go_wp2_with fail
  refine (HIH.out a W0 _ qa ca b _ t HBa.out HEa.out HWa.out HTX.out HP.out HST.out (by rw [HA.out, List.length_append]; omega)).mono ?_
  rintro r w2 ⟨rfl, hst, hpv⟩
  have HPV := Lib.hid (HPV.out.trans hpv)
  rw [HA.out] at hst
  have HST := Lib.hid hst
  clear hst hpv k0 k1 k2 k3 k4 m0a m1a m2a m3a m4a
  go_wp2_with fail
  refine (wb_st 93 rfl HST.out (by rw [List.length_append, List.length_append]; omega)).mono ?_
  rintro r w3 ⟨rfl, hst, hpv⟩
  have HPV := Lib.hid (HPV.out.trans hpv)
  have hst' : StP W0 b (l ++ (nm e.name ++ [91] ++ A ++ [93])) t w3 := by rw [show l ++ (nm e.name ++ [91] ++ A ++ [93]) = l ++ (nm e.name ++ [91]) ++ A ++ [93] by simp]; exact hst
  have HST := Lib.hid hst'
  clear hst hst' hpv
  go_wp2_with fail
  go_end0
  exact ⟨rfl, HST.out, HPV.out⟩
set_option maxRecDepth 100000 in
set_option maxHeartbeats 8000000 in
theorem expr_4 {k : Nat} (IH : ExprOk k) (e : Ex) (hk : e.kind = 4) (W0 w : World) (q : Option Addr) (c b : Nat) (l : Bs) (t : Int) (hok : bodyE (k + 1) e = true) (hE : EAt W0 q e.args) (hw : WfE e) (hX : Texts W0) (hP : PowAt W0) (hST : StP W0 b l t w) (hlen : l.length + (exT (k + 1) e).length ≤ 70368744177664) :
    Calls Tryz.prog 77 #[.pointer (some ⟨b, 0, none⟩), exV q c e] w fun r w' => r = .returned (.tuple #[]) ∧ StP W0 b (l ++ exT (k + 1) e) t w' ∧ Pv b w w' := by
  obtain ⟨hf, hsub, _⟩ := kind_of hok
  rw [hk] at hf
  obtain ⟨hla, hn0, hn1, hop⟩ := fits_args hf
  have hla' : (e.args.length : Int) = 2 := by rw [hla]; rfl
  have hn1' : e.n ≤ 0 := Int.le_trans hn1 (Int.le_of_eq rfl)
  obtain ⟨a, ha⟩ : ∃ x, e.args[0]? = some x := ⟨_, List.getElem?_eq_getElem (by omega)⟩
  have hba := hsub 0 a ha
  obtain ⟨hwa, ba, oa, qa, ca, rfl, hla, m0, m1, m2, m3, m4, hEa⟩ := hE.get ha
  have HCa : Hid (∀ w', Bel W0 w' → w'.cell? ⟨ba, oa, none⟩ = some (.int .i64 a.kind) ∧ w'.cell? ⟨ba, oa + 1, none⟩ = some (.int .i64 a.op) ∧ w'.cell? ⟨ba, oa + 2, none⟩ = some (.int .i64 a.n) ∧ w'.cell? ⟨ba, oa + 3, none⟩ = some (.string a.name) ∧ w'.cell? ⟨ba, oa + 4, none⟩ = some (.slice qa a.args.length ca)) := Lib.hid (fun w' hb => ⟨(hb.cell (p := ⟨ba, oa, none⟩) hla).trans m0, (hb.cell (p := ⟨ba, oa + 1, none⟩) hla).trans m1, (hb.cell (p := ⟨ba, oa + 2, none⟩) hla).trans m2, (hb.cell (p := ⟨ba, oa + 3, none⟩) hla).trans m3, (hb.cell (p := ⟨ba, oa + 4, none⟩) hla).trans m4⟩)
  have HBa := Lib.hid hba
  have HWa := Lib.hid hwa
  have HEa := Lib.hid hEa
  have hAa := argAt_get ha
  clear m0 m1 m2 m3 m4 hba hwa hEa
  obtain ⟨z, hz⟩ : ∃ x, e.args[1]? = some x := ⟨_, List.getElem?_eq_getElem (by omega)⟩
  have hbz := hsub 1 z hz
  obtain ⟨hwz, bz, oz, qz, cz, hqz, hlz, m0, m1, m2, m3, m4, hEz⟩ := hE.get hz
  obtain ⟨rfl, rfl⟩ : ba = bz ∧ oa = oz := by simpa using hqz
  have HCz : Hid (∀ w', Bel W0 w' → w'.cell? ⟨ba, oa + 5, none⟩ = some (.int .i64 z.kind) ∧ w'.cell? ⟨ba, oa + 6, none⟩ = some (.int .i64 z.op) ∧ w'.cell? ⟨ba, oa + 7, none⟩ = some (.int .i64 z.n) ∧ w'.cell? ⟨ba, oa + 8, none⟩ = some (.string z.name) ∧ w'.cell? ⟨ba, oa + 9, none⟩ = some (.slice qz z.args.length cz)) := Lib.hid (fun w' hb => ⟨(hb.cell (p := ⟨ba, oa + 5, none⟩) hlz).trans m0, (hb.cell (p := ⟨ba, oa + 6, none⟩) hlz).trans m1, (hb.cell (p := ⟨ba, oa + 7, none⟩) hlz).trans m2, (hb.cell (p := ⟨ba, oa + 8, none⟩) hlz).trans m3, (hb.cell (p := ⟨ba, oa + 9, none⟩) hlz).trans m4⟩)
  have HBz := Lib.hid hbz
  have HWz := Lib.hid hwz
  have HEz := Lib.hid hEz
  have hAz := argAt_get hz
  clear m0 m1 m2 m3 m4 hbz hwz hEz
  obtain ⟨A, hA⟩ : ∃ A, par (low a (level e.op)) (exT k a) = A := ⟨_, rfl⟩
  obtain ⟨Z, hZ⟩ : ∃ Z, par (low z (level e.op + 1)) (exT k z) = Z := ⟨_, rfl⟩
  rw [exT_4 hk, hAa, hAz, hA, hZ] at hlen ⊢
  obtain ⟨lv, hlv⟩ : ∃ n, level e.op = n := ⟨_, rfl⟩
  rw [hlv] at hA hZ
  have HA := Lib.hid hA
  have HZ := Lib.hid hZ
  have HLV := Lib.hid hlv
  have hlb : 0 ≤ lv ∧ lv ≤ 8 := by rw [← hlv]; exact level_bds e.op
  have hlen' : l.length + (A.length + ((opT e.op).length + 2) + Z.length) ≤ 70368744177664 := by
    have : l.length + (A.length + (([32] ++ opT e.op ++ [32]).length) + Z.length) ≤ 70368744177664 := by rw [List.length_append, List.length_append] at hlen; exact hlen
    simp only [List.length_append, List.length_cons, List.length_nil] at this
    omega
  have hoz : (opT e.op).length ≤ 2 := opT_len e.op
  clear hA hZ hlv hAa hAz ha hz
  have HK := Lib.hid hk
  clear hk
  obtain ⟨O, hO⟩ : ∃ O, (⟨(Plain.text e.op).toArray⟩ : ByteArray) = O := ⟨_, rfl⟩
  obtain ⟨ob, hob⟩ : ∃ ob, Plain.isSign e.op = ob := ⟨_, rfl⟩
  have HO := Lib.hid hO
  have HOB := Lib.hid hob
  have hOl : opT e.op = O.data.toList := by rw [← hO]
  have HIH := Lib.hid IH
  have HE := Lib.hid hE
  have HW := Lib.hid hw
  have HTX := Lib.hid hX
  have HP := Lib.hid hP
  have HSUB := Lib.hid hsub
  have HOL := Lib.hid hOl
  have hlc := hw.args
  clear IH hok hE hw hX hP hsub hO hob hOl hf hla hn1 hop
  go_enter Tryz.func77, Tryz.ntmps77
  go_upto_region 1 with (fail)
  have hb9 := (Bel.refl w).alloc #[.int .i64 e.kind, .int .i64 e.op, .int .i64 e.n, .string e.name, .slice (some ⟨ba, oa, none⟩) e.args.length c] 40
  have hx9 := heap_alloc_new w (.cells #[.int .i64 e.kind, .int .i64 e.op, .int .i64 e.n, .string e.name, .slice (some ⟨ba, oa, none⟩) e.args.length c] 40)
  have hst := hST.keep hb9
  have hgb : w.heap.size ≠ b := by have := hST.ne.2.1; omega
  generalize w.alloc (.cells #[.int .i64 e.kind, .int .i64 e.op, .int .i64 e.n, .string e.name, .slice (some ⟨ba, oa, none⟩) e.args.length c] 40) = W9 at hb9 hx9 hst ⊢
  generalize w.heap.size = g9 at hx9 hgb ⊢
  have HST := Lib.hid hst
  have HX := Lib.hid hx9
  have HGB := Lib.hid hgb
  have HPV := Lib.hid (hb9.pv b)
  clear hst hx9 hgb hb9 hST
  have k0 := cell_of_heap HX.out 0
  have k1 := cell_of_heap HX.out 1
  have k2 := cell_of_heap HX.out 2
  have k3 := cell_of_heap HX.out 3
  have k4 := cell_of_heap HX.out 4
  simp only [List.getElem?_toArray, List.getElem?_cons_zero, List.getElem?_cons_succ] at k0 k1 k2 k3 k4
  rw [HK.out] at k0
  go_wp2_with (go_at_call 105; (refine (sign_lit HO.out HOB.out _ (HTX.out.bel HST.out.bel)).mono ?_); rintro e w' ⟨rfl, rfl⟩)
  obtain ⟨m0a, m1a, m2a, m3a, m4a⟩ := HCa.out _ HST.out.bel
  have hk1 : (0 : Int) < e.args.length := by omega
  go_wp2_with (go_at_call 107; ((with_reducible refine (level_lit HLV.out _).mono ?_); rintro e w' ⟨rfl, rfl⟩))
  refine (arg_ok HIH.out a _ W0 _ qa ca b _ t A HA.out HBa.out HEa.out HWa.out HTX.out HP.out HST.out (by omega)).mono ?_
  rintro r w1 ⟨rfl, hst, hpv⟩
  have HPV := Lib.hid (HPV.out.trans hpv)
  have HX := Lib.hid (hpv.stays HX.out HGB.out (by decide))
  have HST := Lib.hid hst
  clear hst hpv k0 k1 k2 k3 k4
  have k0 := cell_of_heap HX.out 0
  have k1 := cell_of_heap HX.out 1
  have k2 := cell_of_heap HX.out 2
  have k3 := cell_of_heap HX.out 3
  have k4 := cell_of_heap HX.out 4
  simp only [List.getElem?_toArray, List.getElem?_cons_zero, List.getElem?_cons_succ] at k0 k1 k2 k3 k4
  clear m0a m1a m2a m3a m4a
  have hs1 : (⟨#[32]⟩ : ByteArray).size + O.size ≤ 9223372036854775807 := by
    have h1 : O.size = (opT e.op).length := by rw [HOL.out, size_list]
    show 1 + O.size ≤ _
    omega
  have hs2 : ((⟨#[32]⟩ : ByteArray) ++ O).size + (⟨#[32]⟩ : ByteArray).size ≤ 9223372036854775807 := by
    have h1 : O.size = (opT e.op).length := by rw [HOL.out, size_list]
    rw [ByteArray.size_append]
    show 1 + O.size + 1 ≤ _
    omega
  have HOS : Hid ([32] ++ opT e.op ++ [32] = ((⟨#[32]⟩ : ByteArray) ++ O ++ ⟨#[32]⟩).data.toList) := Lib.hid (by rw [HOL.out]; simp)
  go_wp2_with fail
  refine (ws_st (S := [32] ++ opT e.op ++ [32]) HOS.out HST.out (by simp only [List.length_append, List.length_cons, List.length_nil]; omega)).mono ?_
  rintro r w2 ⟨rfl, hst, hpv⟩
  have HPV := Lib.hid (HPV.out.trans hpv)
  have HX := Lib.hid (hpv.stays HX.out HGB.out (by decide))
  have HST := Lib.hid hst
  clear hst hpv k0 k1 k2 k3 k4
  have k0 := cell_of_heap HX.out 0
  have k1 := cell_of_heap HX.out 1
  have k2 := cell_of_heap HX.out 2
  have k3 := cell_of_heap HX.out 3
  have k4 := cell_of_heap HX.out 4
  simp only [List.getElem?_toArray, List.getElem?_cons_zero, List.getElem?_cons_succ] at k0 k1 k2 k3 k4
  obtain ⟨m0z, m1z, m2z, m3z, m4z⟩ := HCz.out _ HST.out.bel
  have hk2 : (1 : Int) < e.args.length := by omega
  have hlw : IntKind.i64.wrap (lv + 1) = lv + 1 := IntWalk.i64_in _ (by constructor <;> omega)
  go_wp2_with fail
  refine (arg_ok HIH.out z _ W0 _ qz cz b _ t Z HZ.out HBz.out HEz.out HWz.out HTX.out HP.out HST.out (by simp only [List.length_append, List.length_cons, List.length_nil]; omega)).mono ?_
  rintro r w3 ⟨rfl, hst, hpv⟩
  have HPV := Lib.hid (HPV.out.trans hpv)
  have hst' : StP W0 b (l ++ (A ++ ([32] ++ opT e.op ++ [32]) ++ Z)) t w3 := by rw [show l ++ (A ++ ([32] ++ opT e.op ++ [32]) ++ Z) = l ++ A ++ ([32] ++ opT e.op ++ [32]) ++ Z by simp]; exact hst
  have HST := Lib.hid hst'
  clear hst hst' hpv k0 k1 k2 k3 k4
  go_wp2_with fail
  go_end0
  exact ⟨rfl, HST.out, HPV.out⟩
theorem expr_ok : ∀ k : Nat, ExprOk k := by
  intro k
  induction k with
  | zero =>
    intro e W0 w q c b l t hok
    cases hok
  | succ k ih =>
    intro e W0 w q c b l t hok hE hw hX hP hST hlen
    rcases (kind_of hok).2.2 with hk | hk | hk | hk | hk
    · exact expr_1 ih e hk W0 w q c b l t hok hE hw hX hP hST hlen
    · exact expr_2 ih e hk W0 w q c b l t hok hE hw hX hP hST hlen
    · exact expr_3 ih e hk W0 w q c b l t hok hE hw hX hP hST hlen
    · exact expr_4 ih e hk W0 w q c b l t hok hE hw hX hP hST hlen
    · exact expr_5 ih e hk W0 w q c b l t hok hE hw hX hP hST hlen
end Go.Proofs.YthlnjnmomnpnpaaGreatDoor
