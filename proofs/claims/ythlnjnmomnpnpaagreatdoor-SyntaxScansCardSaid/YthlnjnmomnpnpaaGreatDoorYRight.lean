/- Package syntax: is a program right? -/
import Derived.Test.YthlnjnmomnpnpaaGreatDoorYStmts
namespace Go.Proofs.YthlnjnmomnpnpaaGreatDoor
open Go.RowKit Tk Sy
set_option linter.unusedVariables false
set_option linter.unusedSimpArgs false
structure WfD (d : Dev) : Prop where
  name : d.name.size ≤ maxLen
  kind : inI d.kind
def DevsAt (w : World) (p : Option Addr) (l : List Dev) : Prop := ∀ (j : Nat) (x : Dev), l[j]? = some x → WfD x ∧ ∃ b o, p = some ⟨b, o, none⟩ ∧ b < w.heap.size ∧ w.cell? ⟨b, o + j * 2, none⟩ = some (.string x.name) ∧ w.cell? ⟨b, o + j * 2 + 1, none⟩ = some (.int .i64 x.kind)
theorem DevsAt.bel {w w' : World} {p : Option Addr} {l : List Dev} (h : DevsAt w p l) (hb : Bel w w') : DevsAt w' p l := fun j x hj => by
  obtain ⟨hw, b, o, hp, hl, c0, c1⟩ := h j x hj
  exact ⟨hw, b, o, hp, Nat.lt_of_lt_of_le hl hb.size, (hb.cell (p := ⟨b, o + j * 2, none⟩) hl).trans c0, (hb.cell (p := ⟨b, o + j * 2 + 1, none⟩) hl).trans c1⟩
structure WfR (d : Rsc) : Prop where
  name : d.name.size ≤ maxLen
  words : inI d.words
def RscsAt (w : World) (p : Option Addr) (l : List Rsc) : Prop := ∀ (j : Nat) (x : Rsc), l[j]? = some x → WfR x ∧ ∃ b o, p = some ⟨b, o, none⟩ ∧ b < w.heap.size ∧ w.cell? ⟨b, o + j * 2, none⟩ = some (.string x.name) ∧ w.cell? ⟨b, o + j * 2 + 1, none⟩ = some (.int .i64 x.words)
theorem RscsAt.bel {w w' : World} {p : Option Addr} {l : List Rsc} (h : RscsAt w p l) (hb : Bel w w') : RscsAt w' p l := fun j x hj => by
  obtain ⟨hw, b, o, hp, hl, c0, c1⟩ := h j x hj
  exact ⟨hw, b, o, hp, Nat.lt_of_lt_of_le hl hb.size, (hb.cell (p := ⟨b, o + j * 2, none⟩) hl).trans c0, (hb.cell (p := ⟨b, o + j * 2 + 1, none⟩) hl).trans c1⟩
structure WfT (t : Tsk) : Prop where
  name : t.name.size ≤ maxLen
  hart : inI t.hart
  prio : inI t.prio
  line : inI t.line
  body : t.body.length ≤ 9223372036854775807
def TsksAt (w : World) (p : Option Addr) (l : List Tsk) : Prop := ∀ (j : Nat) (x : Tsk), l[j]? = some x → WfT x ∧ ∃ b o q c, p = some ⟨b, o, none⟩ ∧ b < w.heap.size ∧ w.cell? ⟨b, o + j * 6, none⟩ = some (.string x.name) ∧ w.cell? ⟨b, o + j * 6 + 1, none⟩ = some (.bool x.handler) ∧ w.cell? ⟨b, o + j * 6 + 2, none⟩ = some (.int .i64 x.hart) ∧ w.cell? ⟨b, o + j * 6 + 3, none⟩ = some (.int .i64 x.prio) ∧ w.cell? ⟨b, o + j * 6 + 4, none⟩ = some (.int .i64 x.line) ∧ w.cell? ⟨b, o + j * 6 + 5, none⟩ = some (.slice q x.body.length c) ∧ SAt w q x.body
theorem TsksAt.bel {w w' : World} {p : Option Addr} {l : List Tsk} (h : TsksAt w p l) (hb : Bel w w') : TsksAt w' p l := fun j x hj => by
  obtain ⟨hw, b, o, q, c, hp, hl, c0, c1, c2, c3, c4, c5, hs⟩ := h j x hj
  exact ⟨hw, b, o, q, c, hp, Nat.lt_of_lt_of_le hl hb.size, (hb.cell (p := ⟨b, o + j * 6, none⟩) hl).trans c0, (hb.cell (p := ⟨b, o + j * 6 + 1, none⟩) hl).trans c1, (hb.cell (p := ⟨b, o + j * 6 + 2, none⟩) hl).trans c2, (hb.cell (p := ⟨b, o + j * 6 + 3, none⟩) hl).trans c3, (hb.cell (p := ⟨b, o + j * 6 + 4, none⟩) hl).trans c4, (hb.cell (p := ⟨b, o + j * 6 + 5, none⟩) hl).trans c5, hs.bel hb⟩
abbrev tskV (q : Option Addr) (c : Nat) (t : Tsk) : Value := .agg #[.string t.name, .bool t.handler, .int .i64 t.hart, .int .i64 t.prio, .int .i64 t.line, .slice q t.body.length c]
set_option maxHeartbeats 4000000 in
theorem isDev_lit {d : Dev} {r : Bool} (h : isDev d = r) (hw : WfD d) (w : World) : Calls Tryz.prog 31 #[.agg #[.string d.name, .int .i64 d.kind]] w fun e w' => e = .returned (.bool r) ∧ Bel w w' := by
  obtain ⟨b1, hb1⟩ : ∃ b, isName d.name.data.toList = b := ⟨_, rfl⟩
  obtain ⟨T, hT⟩ : ∃ T, str (kindT d.kind) = T := ⟨_, rfl⟩
  have hTe : T.toList.isEmpty = (kindT d.kind).isEmpty := by rw [← hT, ByteArray.toList_eq, str_list]
  have HV : Hid ((b1 && !T.toList.isEmpty) = r) := Lib.hid (by rw [← h]; unfold isDev; rw [hb1, hTe])
  have HN := Lib.hid hb1
  have HT := Lib.hid hT
  have HNM := Lib.hid hw.name
  clear hb1 hT hTe h hw
  obtain ⟨b2, hb2⟩ : ∃ b, T.toList.isEmpty = b := ⟨_, rfl⟩
  rw [hb2] at HV
  go_enter Tryz.func31, Tryz.ntmps31
  cases b1 with
  | true =>
    go_wp2_with (first | (go_at_call 62; ((with_reducible refine (name_lit HN.out HNM.out _).mono ?_); rintro e w' ⟨rfl, rfl⟩)) | (go_at_call 59; ((with_reducible refine (kindText_lit HT.out _).mono ?_); rintro e w' ⟨rfl, rfl⟩)))
    go_ret
    exact ⟨rb (by rw [← HV.out]; rfl), (Bel.refl w).alloc _ _⟩
  | false =>
    go_wp2_with (first | (go_at_call 62; ((with_reducible refine (name_lit HN.out HNM.out _).mono ?_); rintro e w' ⟨rfl, rfl⟩)))
    go_ret
    exact ⟨rb (by rw [← HV.out]; rfl), (Bel.refl w).alloc _ _⟩
set_option maxHeartbeats 4000000 in
theorem isRsc_lit {d : Rsc} {r : Bool} (h : isRsc d = r) (hw : WfR d) (w : World) : Calls Tryz.prog 33 #[.agg #[.string d.name, .int .i64 d.words]] w fun e w' => e = .returned (.bool r) ∧ Bel w w' := by
  obtain ⟨b1, hb1⟩ : ∃ b, isName d.name.data.toList = b := ⟨_, rfl⟩
  obtain ⟨b2, hb2⟩ : ∃ b, within d.words 1 8 = b := ⟨_, rfl⟩
  have HV : Hid ((b1 && b2) = r) := Lib.hid (by rw [← h]; unfold isRsc; rw [hb1, hb2])
  have HN := Lib.hid hb1
  have HT := Lib.hid hb2
  have HNM := Lib.hid hw.name
  clear hb1 hb2 h hw
  go_enter Tryz.func33, Tryz.ntmps33
  cases b1 with
  | true =>
    go_wp2_with (first | (go_at_call 62; ((with_reducible refine (name_lit HN.out HNM.out _).mono ?_); rintro e w' ⟨rfl, rfl⟩)) | (go_at_call 29; ((with_reducible refine (within_lit HT.out _).mono ?_); rintro e w' ⟨rfl, rfl⟩)))
    go_ret
    exact ⟨rb (by rw [← HV.out]; rfl), (Bel.refl w).alloc _ _⟩
  | false =>
    go_wp2_with (first | (go_at_call 62; ((with_reducible refine (name_lit HN.out HNM.out _).mono ?_); rintro e w' ⟨rfl, rfl⟩)))
    go_ret
    exact ⟨rb (by rw [← HV.out]; rfl), (Bel.refl w).alloc _ _⟩
set_option maxHeartbeats 8000000 in
theorem isTsk_lit {t : Tsk} {q : Option Addr} {c : Nat} {r : Bool} (h : isTsk t = r) (hw : WfT t) (w : World) (hs : SAt w q t.body) : Calls Tryz.prog 35 #[tskV q c t] w fun e w' => e = .returned (.bool r) ∧ Bel w w' := by
  obtain ⟨b1, hb1⟩ : ∃ b, isName t.name.data.toList = b := ⟨_, rfl⟩
  obtain ⟨b2, hb2⟩ : ∃ b, within t.hart 0 3 = b := ⟨_, rfl⟩
  obtain ⟨b3, hb3⟩ : ∃ b, within t.prio 1 7 = b := ⟨_, rfl⟩
  obtain ⟨ln, hln⟩ : ∃ n : Int, (if t.handler = true then 7 else 0) = n := ⟨_, rfl⟩
  obtain ⟨b4, hb4⟩ : ∃ b, within t.line 0 ln = b := ⟨_, rfl⟩
  obtain ⟨b5, hb5⟩ : ∃ b, areS 30 t.body = b := ⟨_, rfl⟩
  have HV : Hid ((b1 && (b2 && (b3 && (b4 && b5)))) = r) := Lib.hid (by rw [← h]; unfold isTsk; rw [hb1, hb2, hb3, hln, hb4, hb5])
  have H1 := Lib.hid hb1
  have H2 := Lib.hid hb2
  have H3 := Lib.hid hb3
  have H4 := Lib.hid hb4
  have H5 := Lib.hid hb5
  have HNM := Lib.hid hw.name
  have HBL := Lib.hid hw.body
  have HS := Lib.hid hs
  have HLN := Lib.hid hln
  clear hb1 hb2 hb3 hb4 hb5 h hw hs hln
  have HEA : Hid (∀ (w : World) (p : Option Addr) (c : Nat) (l : List St) (b : Bool), areS 30 l = b → SAt w p l → l.length ≤ 9223372036854775807 → Calls Tryz.prog 63 #[.slice p l.length c, .int .i64 30] w fun e w' => e = .returned (.bool b) ∧ Bel w w') := Lib.hid (fun w p c l b hb h1 h2 => by subst hb; exact areStmts_any 30 (by decide) w p c l h1 h2)
  obtain ⟨tn, th, thr, tp, tl, tb⟩ := t
  simp only at H1 H2 H3 H4 H5 HNM HBL HS HLN
  show Calls Tryz.prog 35 #[.agg #[.string tn, .bool th, .int .i64 thr, .int .i64 tp, .int .i64 tl, .slice q tb.length c]] w _
  go_enter Tryz.func35, Tryz.ntmps35
  have hb9 := (Bel.refl w).alloc #[.string tn, .bool th, .int .i64 thr, .int .i64 tp, .int .i64 tl, .slice q tb.length c] 54
  have hx9 := heap_alloc_new w (.cells #[.string tn, .bool th, .int .i64 thr, .int .i64 tp, .int .i64 tl, .slice q tb.length c] 54)
  go_upto_region 1 with (fail)
  generalize w.alloc (.cells #[.string tn, .bool th, .int .i64 thr, .int .i64 tp, .int .i64 tl, .slice q tb.length c] 54) = W9 at hb9 hx9 ⊢
  generalize w.heap.size = g9 at hx9 ⊢
  have HB := Lib.hid hb9
  have HS9 := Lib.hid (HS.out.bel hb9)
  have k0 := cell_of_heap hx9 0
  have k1 := cell_of_heap hx9 1
  have k2 := cell_of_heap hx9 2
  have k3 := cell_of_heap hx9 3
  have k4 := cell_of_heap hx9 4
  have k5 := cell_of_heap hx9 5
  simp only [List.getElem?_toArray, List.getElem?_cons_zero, List.getElem?_cons_succ] at k0 k1 k2 k3 k4 k5
  clear hb9 hx9 HS
  have hq : b1 = false ∨ (b1 = true ∧ b2 = false) ∨ (b1 = true ∧ b2 = true ∧ b3 = false) ∨ (b1 = true ∧ b2 = true ∧ b3 = true ∧ b4 = false) ∨ (b1 = true ∧ b2 = true ∧ b3 = true ∧ b4 = true) := by cases b1 <;> cases b2 <;> cases b3 <;> cases b4 <;> simp
  cases th with
  | true =>
    obtain rfl : (7 : Int) = ln := by have := HLN.out; simpa using this
    rcases hq with rfl | ⟨rfl, rfl⟩ | ⟨rfl, rfl, rfl⟩ | ⟨rfl, rfl, rfl, rfl⟩ | ⟨rfl, rfl, rfl, rfl⟩
    all_goals
      go_wp2_with (first | (go_at_call 62; ((with_reducible refine (name_lit H1.out HNM.out _).mono ?_); rintro e w' ⟨rfl, rfl⟩)) | (go_at_call 29; ((with_reducible refine (within_lit H2.out _).mono ?_); rintro e w' ⟨rfl, rfl⟩)) | (go_at_call 29; ((with_reducible refine (within_lit H3.out _).mono ?_); rintro e w' ⟨rfl, rfl⟩)) | (go_at_call 29; ((with_reducible refine (within_lit H4.out _).mono ?_); rintro e w' ⟨rfl, rfl⟩)) | (go_at_call 63; refine (HEA.out _ q c tb _ H5.out HS9.out HBL.out).mono ?_; rintro e w' ⟨rfl, hb11⟩; have HB := Lib.hid (HB.out.trans hb11)))
      go_ret
      exact ⟨rb (by rw [← HV.out]; rfl), HB.out⟩
  | false =>
    obtain rfl : (0 : Int) = ln := by have := HLN.out; simpa using this
    rcases hq with rfl | ⟨rfl, rfl⟩ | ⟨rfl, rfl, rfl⟩ | ⟨rfl, rfl, rfl, rfl⟩ | ⟨rfl, rfl, rfl, rfl⟩
    all_goals
      go_wp2_with (first | (go_at_call 62; ((with_reducible refine (name_lit H1.out HNM.out _).mono ?_); rintro e w' ⟨rfl, rfl⟩)) | (go_at_call 29; ((with_reducible refine (within_lit H2.out _).mono ?_); rintro e w' ⟨rfl, rfl⟩)) | (go_at_call 29; ((with_reducible refine (within_lit H3.out _).mono ?_); rintro e w' ⟨rfl, rfl⟩)) | (go_at_call 29; ((with_reducible refine (within_lit H4.out _).mono ?_); rintro e w' ⟨rfl, rfl⟩)) | (go_at_call 63; refine (HEA.out _ q c tb _ H5.out HS9.out HBL.out).mono ?_; rintro e w' ⟨rfl, hb11⟩; have HB := Lib.hid (HB.out.trans hb11)))
      go_ret
      exact ⟨rb (by rw [← HV.out]; rfl), HB.out⟩
set_option maxRecDepth 100000 in
set_option maxHeartbeats 8000000 in
theorem allD_any (w : World) (q0 : Option Addr) (c0 : Nat) (l : List Dev) (h : DevsAt w q0 l) (hl : l.length ≤ 9223372036854775807) :
    Calls Tryz.prog 30 #[.slice q0 l.length c0, .func (.func 31) #[] #[]] w fun e w' => e = .returned (.bool (l.all isDev)) ∧ Bel w w' := by
  have HE := Lib.hid h
  obtain ⟨n, hn⟩ : ∃ n, l.length = n := ⟨_, rfl⟩
  rw [hn] at hl ⊢
  have HN := Lib.hid hn
  clear h hn
  go_enter Tryz.func30, Tryz.ntmps30
  go_wp2_with fail
  go_loopg [9] n (fun gk ii wr => ∃ i : Nat, i + gk = n ∧ ii = .int .i64 i ∧ Hid ((l.take i).all isDev = true) ∧ Hid (Bel w wr))
  case atStart => exact ⟨0, by omega, rfl, Lib.hid (by simp), Lib.hid (Bel.refl _)⟩
  case round =>
    obtain ⟨i, hig, rfl, HA, HB⟩ := hrel
    by_cases hlt : i < n
    · obtain ⟨x, hx⟩ : ∃ x, l[i]? = some x := ⟨_, List.getElem?_eq_getElem (by rw [HN.out]; exact hlt)⟩
      obtain ⟨hw, b, o, rfl, hbl, k0, k1⟩ := (HE.out.bel HB.out) i x hx
      have HW := Lib.hid hw
      have HX := Lib.hid hx
      have hk1 : (i : Int) < n := by omega
      clear hw hx
      go_upto_region 4 with (fail)
      have hb9 := (Bel.refl wr).alloc #[.string x.name, .int .i64 x.kind] 65
      have hx9 := heap_alloc_new wr (.cells #[.string x.name, .int .i64 x.kind] 65)
      generalize wr.alloc (.cells #[.string x.name, .int .i64 x.kind] 65) = W9 at hb9 hx9 ⊢
      have HB := Lib.hid (HB.out.trans hb9)
      have HB9 := Lib.hid hb9
      generalize wr.heap.size = g9 at hx9 ⊢
      clear k0 k1 hb9
      have k0 := cell_of_heap hx9 0
      have k1 := cell_of_heap hx9 1
      simp only [List.getElem?_toArray, List.getElem?_cons_zero, List.getElem?_cons_succ] at k0 k1
      clear hx9
      obtain ⟨r, hr⟩ : ∃ r, isDev x = r := ⟨_, rfl⟩
      have HR := Lib.hid hr
      clear hr
      go_wp2_with (go_at_call 31; refine (isDev_lit HR.out HW.out _).mono ?_)
      rintro e W2 ⟨rfl, hb⟩
      have HB := Lib.hid (HB.out.trans hb)
      clear hb k0 k1
      cases r with
      | true =>
        go_wp2_with fail
        go_roundg (gk - 1)
        case measure => omega
        case rel => exact ⟨i + 1, by omega, by go_num, Lib.hid (by rw [all_step HX.out, HA.out, HR.out]; rfl), HB⟩
      | false =>
        go_wp2_with fail
        go_ret
        exact ⟨rb (all_no HX.out HR.out).symm, HB.out⟩
    · obtain rfl : i = n := by omega
      go_wp2_with fail
      go_ret
      have ha := HA.out
      rw [List.take_of_length_le (Nat.le_of_eq HN.out)] at ha
      exact ⟨rb ha.symm, HB.out⟩
set_option maxRecDepth 100000 in
set_option maxHeartbeats 8000000 in
theorem allR_any (w : World) (q0 : Option Addr) (c0 : Nat) (l : List Rsc) (h : RscsAt w q0 l) (hl : l.length ≤ 9223372036854775807) :
    Calls Tryz.prog 32 #[.slice q0 l.length c0, .func (.func 33) #[] #[]] w fun e w' => e = .returned (.bool (l.all isRsc)) ∧ Bel w w' := by
  have HE := Lib.hid h
  obtain ⟨n, hn⟩ : ∃ n, l.length = n := ⟨_, rfl⟩
  rw [hn] at hl ⊢
  have HN := Lib.hid hn
  clear h hn
  go_enter Tryz.func32, Tryz.ntmps32
  go_wp2_with fail
  go_loopg [9] n (fun gk ii wr => ∃ i : Nat, i + gk = n ∧ ii = .int .i64 i ∧ Hid ((l.take i).all isRsc = true) ∧ Hid (Bel w wr))
  case atStart => exact ⟨0, by omega, rfl, Lib.hid (by simp), Lib.hid (Bel.refl _)⟩
  case round =>
    obtain ⟨i, hig, rfl, HA, HB⟩ := hrel
    by_cases hlt : i < n
    · obtain ⟨x, hx⟩ : ∃ x, l[i]? = some x := ⟨_, List.getElem?_eq_getElem (by rw [HN.out]; exact hlt)⟩
      obtain ⟨hw, b, o, rfl, hbl, k0, k1⟩ := (HE.out.bel HB.out) i x hx
      have HW := Lib.hid hw
      have HX := Lib.hid hx
      have hk1 : (i : Int) < n := by omega
      clear hw hx
      go_upto_region 4 with (fail)
      have hb9 := (Bel.refl wr).alloc #[.string x.name, .int .i64 x.words] 67
      have hx9 := heap_alloc_new wr (.cells #[.string x.name, .int .i64 x.words] 67)
      generalize wr.alloc (.cells #[.string x.name, .int .i64 x.words] 67) = W9 at hb9 hx9 ⊢
      have HB := Lib.hid (HB.out.trans hb9)
      have HB9 := Lib.hid hb9
      generalize wr.heap.size = g9 at hx9 ⊢
      clear k0 k1 hb9
      have k0 := cell_of_heap hx9 0
      have k1 := cell_of_heap hx9 1
      simp only [List.getElem?_toArray, List.getElem?_cons_zero, List.getElem?_cons_succ] at k0 k1
      clear hx9
      obtain ⟨r, hr⟩ : ∃ r, isRsc x = r := ⟨_, rfl⟩
      have HR := Lib.hid hr
      clear hr
      go_wp2_with (go_at_call 33; refine (isRsc_lit HR.out HW.out _).mono ?_)
      rintro e W2 ⟨rfl, hb⟩
      have HB := Lib.hid (HB.out.trans hb)
      clear hb k0 k1
      cases r with
      | true =>
        go_wp2_with fail
        go_roundg (gk - 1)
        case measure => omega
        case rel => exact ⟨i + 1, by omega, by go_num, Lib.hid (by rw [all_step HX.out, HA.out, HR.out]; rfl), HB⟩
      | false =>
        go_wp2_with fail
        go_ret
        exact ⟨rb (all_no HX.out HR.out).symm, HB.out⟩
    · obtain rfl : i = n := by omega
      go_wp2_with fail
      go_ret
      have ha := HA.out
      rw [List.take_of_length_le (Nat.le_of_eq HN.out)] at ha
      exact ⟨rb ha.symm, HB.out⟩
set_option maxRecDepth 100000 in
set_option maxHeartbeats 8000000 in
theorem allT_any (w : World) (q0 : Option Addr) (c0 : Nat) (l : List Tsk) (h : TsksAt w q0 l) (hl : l.length ≤ 9223372036854775807) :
    Calls Tryz.prog 34 #[.slice q0 l.length c0, .func (.func 35) #[] #[]] w fun e w' => e = .returned (.bool (l.all isTsk)) ∧ Bel w w' := by
  have HE := Lib.hid h
  obtain ⟨n, hn⟩ : ∃ n, l.length = n := ⟨_, rfl⟩
  rw [hn] at hl ⊢
  have HN := Lib.hid hn
  clear h hn
  go_enter Tryz.func34, Tryz.ntmps34
  go_wp2_with fail
  go_loopg [9] n (fun gk ii wr => ∃ i : Nat, i + gk = n ∧ ii = .int .i64 i ∧ Hid ((l.take i).all isTsk = true) ∧ Hid (Bel w wr))
  case atStart => exact ⟨0, by omega, rfl, Lib.hid (by simp), Lib.hid (Bel.refl _)⟩
  case round =>
    obtain ⟨i, hig, rfl, HA, HB⟩ := hrel
    by_cases hlt : i < n
    · obtain ⟨x, hx⟩ : ∃ x, l[i]? = some x := ⟨_, List.getElem?_eq_getElem (by rw [HN.out]; exact hlt)⟩
      obtain ⟨hw, b, o, q, c, rfl, hbl, k0, k1, k2, k3, k4, k5, hs⟩ := (HE.out.bel HB.out) i x hx
      have HW := Lib.hid hw
      have HX := Lib.hid hx
      have HS := Lib.hid hs
      have hk1 : (i : Int) < n := by omega
      clear hw hx hs
      go_upto_region 4 with (fail)
      have hb9 := (Bel.refl wr).alloc #[.string x.name, .bool x.handler, .int .i64 x.hart, .int .i64 x.prio, .int .i64 x.line, .slice q x.body.length c] 54
      have hx9 := heap_alloc_new wr (.cells #[.string x.name, .bool x.handler, .int .i64 x.hart, .int .i64 x.prio, .int .i64 x.line, .slice q x.body.length c] 54)
      generalize wr.alloc (.cells #[.string x.name, .bool x.handler, .int .i64 x.hart, .int .i64 x.prio, .int .i64 x.line, .slice q x.body.length c] 54) = W9 at hb9 hx9 ⊢
      have HB := Lib.hid (HB.out.trans hb9)
      have HB9 := Lib.hid hb9
      generalize wr.heap.size = g9 at hx9 ⊢
      clear k0 k1 k2 k3 k4 k5 hb9
      have k0 := cell_of_heap hx9 0
      have k1 := cell_of_heap hx9 1
      have k2 := cell_of_heap hx9 2
      have k3 := cell_of_heap hx9 3
      have k4 := cell_of_heap hx9 4
      have k5 := cell_of_heap hx9 5
      simp only [List.getElem?_toArray, List.getElem?_cons_zero, List.getElem?_cons_succ] at k0 k1 k2 k3 k4 k5
      clear hx9
      obtain ⟨r, hr⟩ : ∃ r, isTsk x = r := ⟨_, rfl⟩
      have HR := Lib.hid hr
      clear hr
      go_wp2_with (go_at_call 35; refine (isTsk_lit (q := q) (c := c) HR.out HW.out _ (HS.out.bel HB9.out)).mono ?_)
      rintro e W2 ⟨rfl, hb⟩
      have HB := Lib.hid (HB.out.trans hb)
      clear hb k0 k1 k2 k3 k4 k5
      cases r with
      | true =>
        go_wp2_with fail
        go_roundg (gk - 1)
        case measure => omega
        case rel => exact ⟨i + 1, by omega, by go_num, Lib.hid (by rw [all_step HX.out, HA.out, HR.out]; rfl), HB⟩
      | false =>
        go_wp2_with fail
        go_ret
        exact ⟨rb (all_no HX.out HR.out).symm, HB.out⟩
    · obtain rfl : i = n := by omega
      go_wp2_with fail
      go_ret
      have ha := HA.out
      rw [List.take_of_length_le (Nat.le_of_eq HN.out)] at ha
      exact ⟨rb ha.symm, HB.out⟩
abbrev prgV (q1 : Option Addr) (c1 : Nat) (q2 : Option Addr) (c2 : Nat) (q3 : Option Addr) (c3 : Nat) (p : Prg) : Value := .agg #[.int .i64 p.harts, .slice q1 p.devs.length c1, .slice q2 p.rscs.length c2, .slice q3 p.tasks.length c3]
abbrev prgA (q1 : Option Addr) (c1 : Nat) (q2 : Option Addr) (c2 : Nat) (q3 : Option Addr) (c3 : Nat) (p : Prg) : Array Value := #[.int .i64 p.harts, .slice q1 p.devs.length c1, .slice q2 p.rscs.length c2, .slice q3 p.tasks.length c3]
/-- a program in memory -/
structure PrgAt (w : World) (q1 q2 q3 : Option Addr) (p : Prg) : Prop where
  devs : DevsAt w q1 p.devs
  rscs : RscsAt w q2 p.rscs
  tasks : TsksAt w q3 p.tasks
  harts : inI p.harts
  ld : p.devs.length ≤ 9223372036854775807
  lr : p.rscs.length ≤ 9223372036854775807
  lt : p.tasks.length ≤ 9223372036854775807
theorem PrgAt.bel {w w' : World} {q1 q2 q3 : Option Addr} {p : Prg} (h : PrgAt w q1 q2 q3 p) (hb : Bel w w') : PrgAt w' q1 q2 q3 p := ⟨h.devs.bel hb, h.rscs.bel hb, h.tasks.bel hb, h.harts, h.ld, h.lr, h.lt⟩
set_option maxRecDepth 100000 in
set_option maxHeartbeats 8000000 in
theorem right_lit {p : Prg} {q1 q2 q3 : Option Addr} {c1 c2 c3 : Nat} {r : Bool} (h : right p = r) (w : World) (H : Hid (PrgAt w q1 q2 q3 p)) :
    Calls Tryz.prog 10 #[prgV q1 c1 q2 c2 q3 c3 p] w fun e w' => e = .returned (.bool r) ∧ Bel w w' := by
  obtain ⟨b1, hb1⟩ : ∃ b, within p.harts 1 4 = b := ⟨_, rfl⟩
  obtain ⟨b2, hb2⟩ : ∃ b, decide ((p.devs.length : Int) ≤ 8) = b := ⟨_, rfl⟩
  obtain ⟨b3, hb3⟩ : ∃ b, p.devs.all isDev = b := ⟨_, rfl⟩
  obtain ⟨b4, hb4⟩ : ∃ b, decide ((p.rscs.length : Int) ≤ 8) = b := ⟨_, rfl⟩
  obtain ⟨b5, hb5⟩ : ∃ b, p.rscs.all isRsc = b := ⟨_, rfl⟩
  obtain ⟨b6, hb6⟩ : ∃ b, decide ((p.tasks.length : Int) ≤ 16) = b := ⟨_, rfl⟩
  obtain ⟨b7, hb7⟩ : ∃ b, p.tasks.all isTsk = b := ⟨_, rfl⟩
  have HV : Hid ((b1 && (b2 && (b3 && (b4 && (b5 && (b6 && b7)))))) = r) := Lib.hid (by
    rw [← h]
    unfold right
    rw [hb1, hb3, hb5, hb7, ← hb2, ← hb4, ← hb6]
    congr 1
    congr 1
    · rw [Bool.eq_iff_iff, decide_eq_true_eq, decide_eq_true_eq]; omega
    congr 1
    congr 1
    · rw [Bool.eq_iff_iff, decide_eq_true_eq, decide_eq_true_eq]; omega
    congr 1
    congr 1
    rw [Bool.eq_iff_iff, decide_eq_true_eq, decide_eq_true_eq]; omega)
  have H1 := Lib.hid hb1
  have H3 := Lib.hid hb3
  have H5 := Lib.hid hb5
  have H7 := Lib.hid hb7
  clear hb1 hb3 hb5 hb7 h
  have hb2' : (p.devs.length : Int) ≤ 8 ↔ b2 = true := by rw [← hb2]; simp
  have hb4' : (p.rscs.length : Int) ≤ 8 ↔ b4 = true := by rw [← hb4]; simp
  have hb6' : (p.tasks.length : Int) ≤ 16 ↔ b6 = true := by rw [← hb6]; simp
  go_enter Tryz.func10, Tryz.ntmps10
  have hb9 := (Bel.refl w).alloc (prgA q1 c1 q2 c2 q3 c3 p) 28
  have hx9 := heap_alloc_new w (.cells (prgA q1 c1 q2 c2 q3 c3 p) 28)
  go_upto_region 1 with (fail)
  generalize w.alloc (.cells (prgA q1 c1 q2 c2 q3 c3 p) 28) = W9 at hb9 hx9 ⊢
  generalize w.heap.size = g9 at hx9 ⊢
  have HB := Lib.hid hb9
  have HP := Lib.hid (H.out.bel hb9)
  have HX := Lib.hid hx9
  have k0 := cell_of_heap hx9 0
  have k1 := cell_of_heap hx9 1
  have k2 := cell_of_heap hx9 2
  have k3 := cell_of_heap hx9 3
  simp only [List.getElem?_toArray, List.getElem?_cons_zero, List.getElem?_cons_succ] at k0 k1 k2 k3
  clear hb9 hx9
  have HLD := Lib.hid HP.out.ld
  have HLR := Lib.hid HP.out.lr
  have HLT := Lib.hid HP.out.lt
  have HD := Lib.hid HP.out.devs
  have HR := Lib.hid HP.out.rscs
  have HT := Lib.hid HP.out.tasks
  have hq : b1 = false ∨ (b1 = true ∧ b2 = false) ∨ (b1 = true ∧ b2 = true ∧ b3 = false) ∨ (b1 = true ∧ b2 = true ∧ b3 = true ∧ b4 = false) ∨ (b1 = true ∧ b2 = true ∧ b3 = true ∧ b4 = true ∧ b5 = false) ∨ (b1 = true ∧ b2 = true ∧ b3 = true ∧ b4 = true ∧ b5 = true ∧ b6 = false) ∨ (b1 = true ∧ b2 = true ∧ b3 = true ∧ b4 = true ∧ b5 = true ∧ b6 = true) := by clear hb2 hb4 hb6 hb2' hb4' hb6'; cases b1 <;> cases b2 <;> cases b3 <;> cases b4 <;> cases b5 <;> cases b6 <;> simp
  clear hb2 hb4 hb6
  rcases hq with rfl | ⟨rfl, rfl⟩ | ⟨rfl, rfl, rfl⟩ | ⟨rfl, rfl, rfl, rfl⟩ | ⟨rfl, rfl, rfl, rfl, rfl⟩ | ⟨rfl, rfl, rfl, rfl, rfl, rfl⟩ | ⟨rfl, rfl, rfl, rfl, rfl, rfl⟩
  all_goals
    (try simp only [Bool.false_eq_true, iff_false, iff_true] at hb2')
    (try simp only [Bool.false_eq_true, iff_false, iff_true] at hb4')
    (try simp only [Bool.false_eq_true, iff_false, iff_true] at hb6')
    go_wp2_with (first
      | (go_at_call 29; ((with_reducible refine (within_lit H1.out _).mono ?_); rintro e w' ⟨rfl, rfl⟩))
      | (go_at_call 30; refine (allD_any _ q1 c1 p.devs HD.out HLD.out).mono ?_; rintro e w1 ⟨rfl, hb11⟩; rw [H3.out]; have HR := Lib.hid (HR.out.bel hb11); have HT := Lib.hid (HT.out.bel hb11); have HB := Lib.hid (HB.out.trans hb11); have HX := Lib.hid (hb11.stays HX.out); have m2 : w1.cell? ⟨g9, 2, none⟩ = some (.slice q2 p.rscs.length c2) := cell_of_heap HX.out 2; have m3 : w1.cell? ⟨g9, 3, none⟩ = some (.slice q3 p.tasks.length c3) := cell_of_heap HX.out 3; clear hb11 k0 k1 k2 k3)
      | (go_at_call 32; refine (allR_any _ q2 c2 p.rscs HR.out HLR.out).mono ?_; rintro e w2 ⟨rfl, hb12⟩; rw [H5.out]; have HT := Lib.hid (HT.out.bel hb12); have HB := Lib.hid (HB.out.trans hb12); have HX := Lib.hid (hb12.stays HX.out); have n3 : w2.cell? ⟨g9, 3, none⟩ = some (.slice q3 p.tasks.length c3) := cell_of_heap HX.out 3; clear hb12 m2 m3)
      | (go_at_call 34; refine (allT_any _ q3 c3 p.tasks HT.out HLT.out).mono ?_; rintro e w3 ⟨rfl, hb13⟩; rw [H7.out]; have HB := Lib.hid (HB.out.trans hb13); clear hb13))
    go_ret
    exact ⟨rb (by rw [← HV.out]; rfl), HB.out⟩
end Go.Proofs.YthlnjnmomnpnpaaGreatDoor
