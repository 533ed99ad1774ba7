/- Package syntax: are expressions right? -/
import Derived.Test.YthlnjnmomnpnpaaGreatDoorYFits
import Derived.Deep.RegionHeld3
import Derived.Deep.LoopGhost
namespace Go.Proofs.YthlnjnmomnpnpaaGreatDoor
open Go.RowKit Tk Sy
set_option linter.unusedVariables false
set_option linter.unusedSimpArgs false
def bodyE : Nat → Ex → Bool
  | 0, _ => false
  | d + 1, e => fitsE (eShp e.kind) e && areE d e.args
theorem areE_all (d : Nat) (l : List Ex) : areE d l = l.all (bodyE d) := by
  cases d with
  | zero => cases l <;> simp [areE, bodyE]
  | succ d => rfl
/-- what a round of a walk over an expression reads -/
def SE (g9 Bd : Nat) (q : Option Addr) (c : Nat) (e : Ex) (v : Int) (w' : World) : Prop := w'.cell? ⟨g9, 0, none⟩ = some (.int .i64 e.kind) ∧ w'.cell? ⟨g9, 1, none⟩ = some (.int .i64 e.op) ∧ w'.cell? ⟨g9, 2, none⟩ = some (.int .i64 e.n) ∧ w'.cell? ⟨g9, 3, none⟩ = some (.string e.name) ∧ w'.cell? ⟨g9, 4, none⟩ = some (.slice q e.args.length c) ∧ w'.cell? ⟨Bd, 0, none⟩ = some (.int .i64 v)
def AreAt (d : Nat) : Prop := ∀ (w : World) (p : Option Addr) (c : Nat) (l : List Ex), EAt w p l → l.length ≤ 9223372036854775807 → Calls Tryz.prog 45 #[.slice p l.length c, .int .i64 (d : Int)] w fun e w' => e = .returned (.bool (areE d l)) ∧ Bel w w'
theorem all_step {α : Type} {p : α → Bool} {l : List α} {i : Nat} {x : α} (h : l[i]? = some x) : (l.take (i + 1)).all p = ((l.take i).all p && p x) := by
  rw [List.take_add_one, h, List.all_append]
  simp
theorem all_no {α : Type} {p : α → Bool} {l : List α} {i : Nat} {x : α} (h : l[i]? = some x) (hp : p x = false) : l.all p = false := by
  cases hh : l.all p with
  | false => rfl
  | true =>
    have := List.all_eq_true.1 hh x (List.mem_of_getElem? h)
    rw [hp] at this
    cases this
set_option maxRecDepth 100000 in
set_option maxHeartbeats 8000000 in
theorem allE_any {p : Ex → Bool} {cap : Array Value} (w : World) (q : Option Addr) (c : Nat) (l : List Ex) (h : EAt w q l) (hl : l.length ≤ 9223372036854775807)
    (hcl : ∀ (e : Ex) (q' : Option Addr) (c' : Nat) (w' : World), Bel w w' → WfE e → EAt w' q' e.args → Calls Tryz.prog 74 (#[exV q' c' e] ++ cap) w' fun r w'' => r = .returned (.bool (p e)) ∧ Bel w' w'') :
    Calls Tryz.prog 73 #[.slice q l.length c, .func (.func 74) #[] cap] w fun e w' => e = .returned (.bool (l.all p)) ∧ Bel w w' := by
  have HCL := Lib.hid hcl
  have HE := Lib.hid h
  obtain ⟨n, hn⟩ : ∃ n, l.length = n := ⟨_, rfl⟩
  rw [hn] at hl ⊢
  have HN := Lib.hid hn
  clear hcl h hn
  go_enter Tryz.func73, Tryz.ntmps73
  go_wp2_with fail
  go_loopg [9] n (fun gk ii wr => ∃ i : Nat, i + gk = n ∧ ii = .int .i64 i ∧ Hid ((l.take i).all p = true) ∧ Hid (Bel w wr))
  case atStart => exact ⟨0, by omega, rfl, Lib.hid (by simp), Lib.hid (Bel.refl _)⟩
  case round =>
    obtain ⟨i, hig, rfl, HA, HB⟩ := hrel
    by_cases hlt : i < n
    · obtain ⟨x, hx⟩ : ∃ x, l[i]? = some x := ⟨_, List.getElem?_eq_getElem (by rw [HN.out]; exact hlt)⟩
      obtain ⟨hw, b, o, q', c', rfl, hbl, c0, c1, c2, c3, c4, hE⟩ := (HE.out.bel HB.out).get hx
      have HW := Lib.hid hw
      have HEX := Lib.hid hE
      have HX := Lib.hid hx
      have hk1 : (i : Int) < n := by omega
      clear hw hE hx
      go_upto_region 4 with (fail)
      have hb9 := (Bel.refl wr).alloc #[.int .i64 x.kind, .int .i64 x.op, .int .i64 x.n, .string x.name, .slice q' x.args.length c'] 40
      have hx9 := heap_alloc_new wr (.cells #[.int .i64 x.kind, .int .i64 x.op, .int .i64 x.n, .string x.name, .slice q' x.args.length c'] 40)
      generalize wr.alloc (.cells #[.int .i64 x.kind, .int .i64 x.op, .int .i64 x.n, .string x.name, .slice q' x.args.length c'] 40) = W9 at hb9 hx9 ⊢
      have HB := Lib.hid (HB.out.trans hb9)
      have HEX := Lib.hid (HEX.out.bel hb9)
      generalize wr.heap.size = g9 at hx9 ⊢
      clear c0 c1 c2 c3 c4 hb9
      have c0 := cell_of_heap hx9 0
      have c1 := cell_of_heap hx9 1
      have c2 := cell_of_heap hx9 2
      have c3 := cell_of_heap hx9 3
      have c4 := cell_of_heap hx9 4
      simp only [List.getElem?_toArray, List.getElem?_cons_zero, List.getElem?_cons_succ] at c0 c1 c2 c3 c4
      clear hx9
      obtain ⟨r, hr⟩ : ∃ r, p x = r := ⟨_, rfl⟩
      have HR := Lib.hid hr
      clear hr
      go_wp2_with (go_at_call 74; refine (HCL.out x q' c' _ HB.out HW.out HEX.out).mono ?_)
      rintro e W2 ⟨rfl, hb⟩
      rw [HR.out]
      have HB := Lib.hid (HB.out.trans hb)
      clear hb c0 c1 c2 c3 c4
      cases r with
      | true =>
        go_wp2_with fail
        go_roundg (gk - 1)
        case measure => omega
        case rel => exact ⟨i + 1, by omega, by go_num, Lib.hid (by rw [all_step HX.out, HA.out, HR.out]; rfl), HB⟩
      | false =>
        go_wp2_with fail
        go_ret
        exact ⟨rb (all_no HX.out HR.out).symm, HB.out⟩
    · obtain rfl : i = n := by omega
      go_wp2_with fail
      go_ret
      have ha := HA.out
      rw [List.take_of_length_le (Nat.le_of_eq HN.out)] at ha
      exact ⟨rb ha.symm, HB.out⟩
set_option maxRecDepth 100000 in
set_option maxHeartbeats 8000000 in
theorem cloE_zero {e : Ex} {q : Option Addr} {c Bd : Nat} (w : World) (hd : w.heap[Bd]? = some (.cells #[.int .i64 0] 3 (0, 0))) :
    Calls Tryz.prog 74 #[exV q c e, .pointer (some ⟨Bd, 0, none⟩)] w fun r w'' => r = .returned (.bool false) ∧ Bel w w'' := by
  go_enter Tryz.func74, Tryz.ntmps74
  go_upto_region 1 with (fail)
  have hb9 := (Bel.refl w).alloc #[.int .i64 e.kind, .int .i64 e.op, .int .i64 e.n, .string e.name, .slice q e.args.length c] 40
  have d0 := cell_of_heap (hb9.stays hd) 0
  simp only [List.getElem?_toArray, List.getElem?_cons_zero, List.getElem?_cons_succ] at d0
  generalize w.alloc (.cells #[.int .i64 e.kind, .int .i64 e.op, .int .i64 e.n, .string e.name, .slice q e.args.length c] 40) = W9 at hb9 d0 ⊢
  go_quiet (fail)
  go_wp2
  go_ret
  exact ⟨rfl, hb9.drewN _⟩
set_option maxRecDepth 100000 in
set_option maxHeartbeats 8000000 in
theorem cloE_succ {k : Nat} (hk : k ≤ 1000) (IH : AreAt k) {e : Ex} {q : Option Addr} {c Bd : Nat} (w : World) (hw : WfE e) (h : EAt w q e.args) (hd : w.heap[Bd]? = some (.cells #[.int .i64 ((k : Int) + 1)] 3 (0, 0))) :
    Calls Tryz.prog 74 #[exV q c e, .pointer (some ⟨Bd, 0, none⟩)] w fun r w'' => r = .returned (.bool (bodyE (k + 1) e)) ∧ Bel w w'' := by
  obtain ⟨sh, hsh⟩ : ∃ sh, eShp e.kind = sh := ⟨_, rfl⟩
  obtain ⟨b1, hb1⟩ : ∃ b, fitsE sh e = b := ⟨_, rfl⟩
  obtain ⟨b2, hb2⟩ : ∃ b, areE k e.args = b := ⟨_, rfl⟩
  have HV : Hid (bodyE (k + 1) e = (b1 && b2)) := Lib.hid (by show (fitsE (eShp e.kind) e && areE k e.args) = _; rw [hsh, hb1, hb2])
  have HSH := Lib.hid hsh
  have HF := Lib.hid hb1
  have HA := Lib.hid hb2
  have HW := Lib.hid hw
  have HLE := Lib.hid hw.args
  have HIH := Lib.hid IH
  clear hsh hb1 hb2 hw IH
  go_enter Tryz.func74, Tryz.ntmps74
  go_upto_region 1 with (fail)
  have hb9 := (Bel.refl w).alloc #[.int .i64 e.kind, .int .i64 e.op, .int .i64 e.n, .string e.name, .slice q e.args.length c] 40
  have hx9 := heap_alloc_new w (.cells #[.int .i64 e.kind, .int .i64 e.op, .int .i64 e.n, .string e.name, .slice q e.args.length c] 40)
  have hd9 := hb9.stays hd
  have hE9 := h.bel hb9
  generalize w.alloc (.cells #[.int .i64 e.kind, .int .i64 e.op, .int .i64 e.n, .string e.name, .slice q e.args.length c] 40) = W9 at hb9 hx9 hd9 hE9 ⊢
  generalize w.heap.size = g9 at hx9 ⊢
  have HE := Lib.hid hE9
  have HB := Lib.hid hb9
  have HX := Lib.hid hx9
  have HD := Lib.hid hd9
  clear hd h hb9 hx9 hd9 hE9
  have hgt : (0 : Int) < (k : Int) + 1 := by omega
  have hsub : IntKind.i64.wrap (k : Int) = k := IntWalk.i64_in _ (by constructor <;> omega)
  have HKEEP : Hid (∀ w', Bel W9 w' → w'.cell? ⟨g9, 0, none⟩ = some (.int .i64 e.kind) ∧ w'.cell? ⟨g9, 1, none⟩ = some (.int .i64 e.op) ∧ w'.cell? ⟨g9, 2, none⟩ = some (.int .i64 e.n) ∧ w'.cell? ⟨g9, 3, none⟩ = some (.string e.name) ∧ w'.cell? ⟨g9, 4, none⟩ = some (.slice q e.args.length c) ∧ w'.cell? ⟨Bd, 0, none⟩ = some (.int .i64 ((k : Int) + 1))) := Lib.hid (fun w' hb =>
    ⟨cell_of_heap (hb.stays HX.out) 0, cell_of_heap (hb.stays HX.out) 1, cell_of_heap (hb.stays HX.out) 2, cell_of_heap (hb.stays HX.out) 3, cell_of_heap (hb.stays HX.out) 4, cell_of_heap (hb.stays HD.out) 0⟩)
  cases b1 with
  | true =>
    have hV : bodyE (k + 1) e = areE k e.args := by rw [HV.out, HA.out]; rfl
    go_region_held3 (fun w' => w'.cell? ⟨g9, 0, none⟩ = some (.int .i64 e.kind) ∧ w'.cell? ⟨g9, 1, none⟩ = some (.int .i64 e.op) ∧ w'.cell? ⟨g9, 2, none⟩ = some (.int .i64 e.n) ∧ w'.cell? ⟨g9, 3, none⟩ = some (.string e.name) ∧ w'.cell? ⟨g9, 4, none⟩ = some (.slice q e.args.length c) ∧ w'.cell? ⟨Bd, 0, none⟩ = some (.int .i64 ((k : Int) + 1)))
      (first | exact HKEEP.out _ (((((Bel.refl _).drew).trans hb11).trans hb12).trans hb13) | exact HKEEP.out _ ((((Bel.refl _).drew).trans hb11).trans hb12) | exact HKEEP.out _ (((Bel.refl _).drew).trans hb11) | exact HKEEP.out _ ((Bel.refl _).drew))
      (first
        | (go_at_call 75; refine (eShape_lit HSH.out _).mono ?_; rintro e w' ⟨rfl, hb11⟩)
        | (go_at_call 76; refine (fitsE_lit (q := q) (c := c) HF.out HW.out _).mono ?_; rintro e w' ⟨rfl, hb12⟩)
        | (go_at_call 45; refine (HIH.out _ q c e.args (HE.out.bel ((((Bel.refl _).drew).trans hb11).trans hb12)) HLE.out).mono ?_; rintro e w' ⟨rfl, hb13⟩))
    have HB := Lib.hid (HB.out.trans (((((Bel.refl _).drew).trans hb11).trans hb12).trans hb13))
    clear hb11 hb12 hb13
    rename_i hh
    clear hh
    go_wp2
    go_ret
    exact ⟨rb hV.symm, HB.out⟩
  | false =>
    refine wp_region_held_drew (S := (SE g9 Bd q c e ((k : Int) + 1))) (by kernel_rfl) (HKEEP.out _ ((Bel.refl W9).drew)) (fun hS0 => ?_)
    refine takeD 4 (i := 0) (v := ?v1) rfl rfl (by kernel_rfl) (by kernel_rfl) (by kernel_rfl) (fun _ _ _ h => h) (by kernel_rfl) ?hy1 hS0 ?rest1
    case hy1 => (intro w0 hSw; obtain ⟨s0, s1, s2, s3, s4, s5⟩ := hSw; first | (go_simp; done) | (go_simp; with_reducible rfl))
    simp only [List.setIfInBounds_toArray, List.set_cons_zero, List.set_cons_succ]
    refine takeD 5 (i := 1) (v := ?v2) rfl rfl (by kernel_rfl) (by kernel_rfl) (by kernel_rfl) (fun _ _ _ h => h) (by kernel_rfl) ?hy2 hS0 ?rest2
    case hy2 => (intro w0 hSw; obtain ⟨s0, s1, s2, s3, s4, s5⟩ := hSw; first | (go_simp; done) | (go_simp; with_reducible rfl))
    simp only [List.setIfInBounds_toArray, List.set_cons_zero, List.set_cons_succ]
    refine takeD 6 (i := 2) (v := ?v3) rfl rfl (by kernel_rfl) (by kernel_rfl) (by kernel_rfl) (fun _ _ _ h => h) (by kernel_rfl) ?hy3 hS0 ?rest3
    case hy3 => (intro w0 hSw; obtain ⟨s0, s1, s2, s3, s4, s5⟩ := hSw; first | (go_simp; done) | (go_simp; with_reducible rfl))
    simp only [List.setIfInBounds_toArray, List.set_cons_zero, List.set_cons_succ]
    refine takeD 7 (i := 3) (v := ?v4) rfl rfl (by kernel_rfl) (by kernel_rfl) (by kernel_rfl) (fun _ _ _ h => h) (by kernel_rfl) ?hy4 hS0 ?rest4
    case hy4 => (intro w0 hSw; obtain ⟨s0, s1, s2, s3, s4, s5⟩ := hSw; first | (go_simp; done) | (go_simp; with_reducible rfl))
    simp only [List.setIfInBounds_toArray, List.set_cons_zero, List.set_cons_succ]
    refine takeD 8 (i := 4) (v := ?v5) rfl rfl (by kernel_rfl) (by kernel_rfl) (by kernel_rfl) (fun _ _ _ h => h) (by kernel_rfl) ?hy5 hS0 ?rest5
    case hy5 => (intro w0 hSw; obtain ⟨s0, s1, s2, s3, s4, s5⟩ := hSw; first | (go_simp; done) | (go_simp; with_reducible rfl))
    simp only [List.setIfInBounds_toArray, List.set_cons_zero, List.set_cons_succ]
    refine takeD 10 (i := 6) (v := ?v6) rfl rfl (by kernel_rfl) (by kernel_rfl) (by kernel_rfl) (fun _ _ _ h => h) (by kernel_rfl) ?hy6 hS0 ?rest6
    case hy6 => (intro w0 hSw; obtain ⟨s0, s1, s2, s3, s4, s5⟩ := hSw; first | (go_simp; done) | (go_simp; with_reducible rfl))
    simp only [List.setIfInBounds_toArray, List.set_cons_zero, List.set_cons_succ]
    refine onlyD 9 (i := 5) rfl rfl (by kernel_rfl) (by kernel_rfl) (fun K hK => ?_)
    go_simp
    go_at_call 75
    refine (eShape_lit HSH.out _).mono ?_
    rintro e whb11 ⟨rfl, hb11⟩
    have hS1 := HKEEP.out _ (((Bel.refl W9).drew).trans hb11)
    refine hK.out _ _ hS1 (fun _ => ?_)
    clear hK K
    simp only [List.setIfInBounds_toArray, List.set_cons_zero, List.set_cons_succ]
    refine onlyD 11 (i := 7) rfl rfl (by kernel_rfl) (by kernel_rfl) (fun K hK => ?_)
    go_simp
    go_at_call 76
    refine (fitsE_lit (q := q) (c := c) HF.out HW.out _).mono ?_
    rintro e whb12 ⟨rfl, hb12⟩
    have hS2 := HKEEP.out _ ((((Bel.refl W9).drew).trans hb11).trans hb12)
    refine hK.out _ _ hS2 (fun _ => ?_)
    clear hK K
    simp only [List.setIfInBounds_toArray, List.set_cons_zero, List.set_cons_succ]
    refine takeD 12 (i := 8) (v := ?v7) rfl rfl (by kernel_rfl) (by kernel_rfl) (by kernel_rfl) (fun _ _ _ h => h) (by kernel_rfl) ?hy7 hS2 ?rest7
    case hy7 => (intro w0 hSw; obtain ⟨s0, s1, s2, s3, s4, s5⟩ := hSw; first | (go_simp; done) | (go_simp; with_reducible rfl))
    simp only [List.setIfInBounds_toArray, List.set_cons_zero, List.set_cons_succ]
    refine takeD 13 (i := 9) (v := ?v8) rfl rfl (by kernel_rfl) (by kernel_rfl) (by kernel_rfl) (fun _ _ _ h => h) (by kernel_rfl) ?hy8 hS2 ?rest8
    case hy8 => (intro w0 hSw; obtain ⟨s0, s1, s2, s3, s4, s5⟩ := hSw; first | (go_simp; done) | (go_simp; with_reducible rfl))
    simp only [List.setIfInBounds_toArray, List.set_cons_zero, List.set_cons_succ]
    refine skipD 14 (i := 10) rfl rfl (by kernel_rfl) (by kernel_rfl) (by kernel_rfl) (fun _ _ _ h => h) (by kernel_rfl) hS2 ?_
    simp only [List.setIfInBounds_toArray, List.set_cons_zero, List.set_cons_succ]
    refine skipD 15 (i := 11) rfl rfl (by kernel_rfl) (by kernel_rfl) (by kernel_rfl) (fun _ _ _ h => h) (by kernel_rfl) hS2 ?_
    simp only [List.setIfInBounds_toArray, List.set_cons_zero, List.set_cons_succ]
    refine skipD 16 (i := 12) rfl rfl (by kernel_rfl) (by kernel_rfl) (by kernel_rfl) (fun _ _ _ h => h) (by kernel_rfl) hS2 ?_
    simp only [List.setIfInBounds_toArray, List.set_cons_zero, List.set_cons_succ]
    refine skipD 17 (i := 13) rfl rfl (by kernel_rfl) (by kernel_rfl) (by kernel_rfl) (fun _ _ _ h => h) (by kernel_rfl) hS2 ?_
    simp only [List.setIfInBounds_toArray, List.set_cons_zero, List.set_cons_succ]
    refine skipD 18 (i := 14) rfl rfl (by kernel_rfl) (by kernel_rfl) (by kernel_rfl) (fun _ _ _ h => h) (by kernel_rfl) hS2 ?_
    simp only [List.setIfInBounds_toArray, List.set_cons_zero, List.set_cons_succ]
    refine takeD 19 (i := 15) (v := ?v9) rfl rfl (by kernel_rfl) (by kernel_rfl) (by kernel_rfl) (fun _ _ _ h => h) (by kernel_rfl) ?hy9 hS2 ?rest9
    case hy9 => (intro w0 hSw; obtain ⟨s0, s1, s2, s3, s4, s5⟩ := hSw; first | (go_simp; done) | (go_simp; with_reducible rfl))
    simp only [List.setIfInBounds_toArray, List.set_cons_zero, List.set_cons_succ]
    refine takeD 3 (i := 16) (v := ?v10) rfl rfl (by kernel_rfl) (by kernel_rfl) (by kernel_rfl) (fun _ _ _ h => h) (by kernel_rfl) ?hy10 hS2 ?rest10
    case hy10 => (intro w0 hSw; obtain ⟨s0, s1, s2, s3, s4, s5⟩ := hSw; first | (go_simp; done) | (go_simp; with_reducible rfl))
    simp only [List.setIfInBounds_toArray, List.set_cons_zero, List.set_cons_succ]
    refine wpAnyH_done (by kernel_rfl) ?_ _
    have HB := Lib.hid (HB.out.trans ((((Bel.refl W9).drew).trans hb11).trans hb12))
    clear hb11 hb12 hS0 hS1 hS2
    go_wp2
    go_ret
    exact ⟨rb (by rw [HV.out]; rfl), HB.out⟩
set_option maxRecDepth 100000 in
theorem areExprs_any : ∀ d : Nat, d ≤ 1000 → AreAt d := by
  intro d
  induction d with
  | zero =>
    intro _ w p c l h hl
    rw [areE_all]
    go_enter Tryz.func45, Tryz.ntmps45
    have hmf : ∀ (fn : Fn) (first cap : Array Value) (w : World), (Instr.makeFunc fn first cap).run Tryz.prog w = .ok (.func fn first cap) w := fun _ _ _ _ => rfl
    go_wp2_with (go_at_call 73; refine (allE_any (p := bodyE 0) (cap := #[.pointer (some ⟨w.heap.size, 0, none⟩)]) _ p c l (h.bel ((Bel.refl w).alloc _ _)) hl (fun e q' c' w' hb hw hE => cloE_zero w' (hb.stays (heap_alloc_new w _)))).mono ?_)
    rintro e W2 ⟨rfl, hb⟩
    have HB := Lib.hid (((Bel.refl w).alloc #[.int .i64 0] 3).trans hb)
    go_wp2_with fail
    go_ret
    exact ⟨rfl, HB.out⟩
  | succ k ih =>
    intro hk w p c l h hl
    rw [areE_all]
    have IH := Lib.hid (ih (by omega))
    have hc : ((k + 1 : Nat) : Int) = (k : Int) + 1 := by omega
    rw [hc]
    clear ih hc
    go_enter Tryz.func45, Tryz.ntmps45
    have hmf : ∀ (fn : Fn) (first cap : Array Value) (w : World), (Instr.makeFunc fn first cap).run Tryz.prog w = .ok (.func fn first cap) w := fun _ _ _ _ => rfl
    go_wp2_with (go_at_call 73; refine (allE_any (p := bodyE (k + 1)) (cap := #[.pointer (some ⟨w.heap.size, 0, none⟩)]) _ p c l (h.bel ((Bel.refl w).alloc _ _)) hl (fun e q' c' w' hb hw hE => cloE_succ (by omega) IH.out w' hw hE (hb.stays (heap_alloc_new w _)))).mono ?_)
    rintro e W2 ⟨rfl, hb⟩
    have HB := Lib.hid (((Bel.refl w).alloc #[.int .i64 ((k : Int) + 1)] 3).trans hb)
    go_wp2_with fail
    go_ret
    exact ⟨rfl, HB.out⟩
end Go.Proofs.YthlnjnmomnpnpaaGreatDoor
