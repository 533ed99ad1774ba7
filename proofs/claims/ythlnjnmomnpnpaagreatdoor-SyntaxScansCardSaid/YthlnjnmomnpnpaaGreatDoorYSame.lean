/- Package syntax: are two the same? -/
import Derived.Test.YthlnjnmomnpnpaaGreatDoorYRight
import Derived.Deep.LoopGhost
namespace Go.Proofs.YthlnjnmomnpnpaaGreatDoor
open Go.RowKit Tk Sy
set_option linter.unusedVariables false
set_option linter.unusedSimpArgs false
/-- are two equal? -/
noncomputable def eqv {α : Type} (a b : α) : Bool := @decide (a = b) (Classical.propDecidable _)
theorem eqv_iff {α : Type} {a b : α} : eqv a b = true ↔ a = b := by unfold eqv; simp
theorem eqv_no {α : Type} {a b : α} (h : a ≠ b) : eqv a b = false := by
  cases hh : eqv a b with
  | false => rfl
  | true => exact absurd (eqv_iff.1 hh) h
theorem eqv_list {α : Type} {l m : List α} (hl : l.length = m.length) (h : ∀ (j : Nat) (x y : α), l[j]? = some x → m[j]? = some y → x = y) : l = m := by
  apply List.ext_getElem?
  intro j
  by_cases hj : j < l.length
  · rw [List.getElem?_eq_getElem hj, List.getElem?_eq_getElem (by omega)]
    exact congrArg some (h j _ _ (List.getElem?_eq_getElem hj) (List.getElem?_eq_getElem (by omega)))
  · rw [List.getElem?_eq_none (by omega), List.getElem?_eq_none (by omega)]
theorem str_beq (s t : ByteArray) : (s.toList == t.toList) = eqv s t := by
  rw [Bool.eq_iff_iff, beq_iff_eq, eqv_iff, ByteArray.toList_eq, ByteArray.toList_eq]
  constructor
  · intro h
    rw [← str_of s, ← str_of t, h]
  · intro h
    rw [h]
theorem eqv_ex (e f : Ex) : eqv e f = ((e.kind == f.kind) && ((e.op == f.op) && ((e.n == f.n) && ((e.name.toList == f.name.toList) && eqv e.args f.args)))) := by
  obtain ⟨a1, a2, a3, a4, a5⟩ := e
  obtain ⟨b1, b2, b3, b4, b5⟩ := f
  rw [str_beq, Bool.eq_iff_iff]
  simp only [Bool.and_eq_true, beq_iff_eq, eqv_iff, Ex.kind, Ex.op, Ex.n, Ex.name, Ex.args]
  constructor
  · intro h
    injection h with h1 h2 h3 h4 h5
    exact ⟨h1, h2, h3, h4, h5⟩
  · rintro ⟨rfl, rfl, rfl, rfl, rfl⟩
    rfl
def EqF (k : Nat) : Prop := ∀ (w : World) (p q : Option Addr) (c c' : Nat) (l m : List Ex) (r : Bool), eqv l m = r → ExsAt k w p l → EAt w q m → l.length ≤ 9223372036854775807 → m.length ≤ 9223372036854775807 →
  Calls Tryz.prog 101 #[.slice p l.length c, .slice q m.length c', .func (.func 102) #[] #[]] w fun e w' => e = .returned (.bool r) ∧ Bel w w'
def SmE (k : Nat) : Prop := ∀ (w : World) (p q : Option Addr) (c c' : Nat) (e f : Ex) (r : Bool), eqv e f = r → ExsAt k w p e.args → EAt w q f.args → WfE e → WfE f →
  Calls Tryz.prog 102 #[exV p c e, exV q c' f] w fun e w' => e = .returned (.bool r) ∧ Bel w w'
set_option maxRecDepth 100000 in
set_option maxHeartbeats 8000000 in
theorem smE_of {k : Nat} (H : EqF k) : SmE k := by
  intro w p q c c' e f r hr hE hF hwe hwf
  rw [eqv_ex] at hr
  have hl1 := hwe.args
  have hl2 := hwf.args
  obtain ⟨b5, hb5⟩ : ∃ b, eqv e.args f.args = b := ⟨_, rfl⟩
  rw [hb5] at hr
  have HC : Hid (∀ w', Bel w w' → Calls Tryz.prog 101 #[.slice p e.args.length c, .slice q f.args.length c', .func (.func 102) #[] #[]] w' fun e w'' => e = .returned (.bool b5) ∧ Bel w' w'') := Lib.hid (fun w' hb => H w' p q c c' e.args f.args b5 hb5 (ExsAt.bel hb _ _ _ hE) (hF.bel hb) hl1 hl2)
  obtain ⟨n1, hn1⟩ : ∃ n, e.args.length = n := ⟨_, rfl⟩
  obtain ⟨n2, hn2⟩ : ∃ n, f.args.length = n := ⟨_, rfl⟩
  rw [hn1, hn2] at HC
  rw [hn1] at hl1
  rw [hn2] at hl2
  show Calls Tryz.prog 102 #[.agg #[.int .i64 e.kind, .int .i64 e.op, .int .i64 e.n, .string e.name, .slice p e.args.length c], .agg #[.int .i64 f.kind, .int .i64 f.op, .int .i64 f.n, .string f.name, .slice q f.args.length c']] w _
  rw [hn1, hn2]
  generalize e.kind = e1 at hr ⊢
  generalize e.op = e2 at hr ⊢
  generalize e.n = e3 at hr ⊢
  generalize e.name = e4 at hr ⊢
  generalize f.kind = f1 at hr ⊢
  generalize f.op = f2 at hr ⊢
  generalize f.n = f3 at hr ⊢
  generalize f.name = f4 at hr ⊢
  clear hb5 hE hF hwe hwf hn1 hn2
  obtain ⟨b1, hb1⟩ : ∃ b, (e1 == f1) = b := ⟨_, rfl⟩
  obtain ⟨b2, hb2⟩ : ∃ b, (e2 == f2) = b := ⟨_, rfl⟩
  obtain ⟨b3, hb3⟩ : ∃ b, (e3 == f3) = b := ⟨_, rfl⟩
  obtain ⟨b4, hb4⟩ : ∃ b, (e4.toList == f4.toList) = b := ⟨_, rfl⟩
  rw [hb1, hb2, hb3, hb4] at hr
  have HR := Lib.hid hr
  clear hr
  have hq : b1 = false ∨ (b1 = true ∧ b2 = false) ∨ (b1 = true ∧ b2 = true ∧ b3 = false) ∨ (b1 = true ∧ b2 = true ∧ b3 = true ∧ b4 = false) ∨ (b1 = true ∧ b2 = true ∧ b3 = true ∧ b4 = true) := by clear hb1 hb2 hb3 hb4; cases b1 <;> cases b2 <;> cases b3 <;> cases b4 <;> simp
  rcases hq with rfl | ⟨rfl, rfl⟩ | ⟨rfl, rfl, rfl⟩ | ⟨rfl, rfl, rfl, rfl⟩ | ⟨rfl, rfl, rfl, rfl⟩
  all_goals
    go_enter Tryz.func102, Tryz.ntmps102
    have hb0 := ((Bel.refl w).alloc #[.int .i64 e1, .int .i64 e2, .int .i64 e3, .string e4, .slice p n1 c] 40).alloc #[.int .i64 f1, .int .i64 f2, .int .i64 f3, .string f4, .slice q n2 c'] 40
    go_wp2_with (go_at_call 101; refine (HC.out _ hb0).mono ?_; rintro r' w' ⟨rfl, hb11⟩; have hb0 := hb0.trans hb11)
    go_ret
    exact ⟨rb (by rw [← HR.out]; rfl), hb0⟩
set_option maxRecDepth 100000 in
set_option maxHeartbeats 8000000 in
theorem eqF_succ {k : Nat} (H : SmE k) (w : World) (p0 q0 : Option Addr) (c c' : Nat) (l m : List Ex) (r : Bool) (hr : eqv l m = r) (hE : ExsAt (k + 1) w p0 l) (hF : EAt w q0 m) (hl1 : l.length ≤ 9223372036854775807) (hl2 : m.length ≤ 9223372036854775807) :
    Calls Tryz.prog 101 #[.slice p0 l.length c, .slice q0 m.length c', .func (.func 102) #[] #[]] w fun e w' => e = .returned (.bool r) ∧ Bel w w' := by
  obtain ⟨n1, hn1⟩ : ∃ n, l.length = n := ⟨_, rfl⟩
  obtain ⟨n2, hn2⟩ : ∃ n, m.length = n := ⟨_, rfl⟩
  rw [hn1] at hl1 ⊢
  rw [hn2] at hl2 ⊢
  by_cases hnn : n1 = n2
  · subst hnn
    have HH := Lib.hid H
    have HE := Lib.hid hE
    have HF := Lib.hid hF
    have HR := Lib.hid hr
    have HN1 := Lib.hid hn1
    have HN2 := Lib.hid hn2
    have q1 : ((n1 : Int) != (n1 : Int)) = false := bne_self_eq_false _
    clear H hE hF hr hn1 hn2
    go_enter Tryz.func101, Tryz.ntmps101
    go_wp2_with fail
    go_loopg [17] n1 (fun gk ii wr => ∃ i : Nat, i + gk = n1 ∧ ii = .int .i64 i ∧ Hid (∀ (j : Nat) (x y : Ex), j < i → l[j]? = some x → m[j]? = some y → x = y) ∧ Hid (Bel w wr))
    case atStart => exact ⟨0, by omega, rfl, Lib.hid (fun j x y h => by omega), Lib.hid (Bel.refl _)⟩
    case round =>
      obtain ⟨i, hig, rfl, HA, HB⟩ := hrel
      by_cases hlt : i < n1
      · obtain ⟨x, hx⟩ : ∃ x, l[i]? = some x := ⟨_, List.getElem?_eq_getElem (by rw [HN1.out]; exact hlt)⟩
        obtain ⟨y, hy⟩ : ∃ x, m[i]? = some x := ⟨_, List.getElem?_eq_getElem (by rw [HN2.out]; exact hlt)⟩
        obtain ⟨hwx, bx2, o, qx, cx, rfl, hbl, k0, k1, k2, k3, k4, hEx⟩ := ExsAt.bel HB.out _ _ _ HE.out i x hx
        obtain ⟨hwy, by2, o2, qy, cy, rfl, hbl2, z0, z1, z2, z3, z4, hEy⟩ := (HF.out.bel HB.out).get hy
        have HX := Lib.hid hx
        have HY := Lib.hid hy
        have HWX := Lib.hid hwx
        have HEX := Lib.hid hEx
        have HWY := Lib.hid hwy
        have HEY := Lib.hid hEy
        clear hwx hwy hEx hEy
        have hk1 : (i : Int) < n1 := by omega
        clear hx hy
        go_upto_region 6 with (fail)
        have hb9 := (Bel.refl wr).alloc (#[.int .i64 x.kind, .int .i64 x.op, .int .i64 x.n, .string x.name, .slice qx x.args.length cx] : Array Value) 40
        have hx9 := heap_alloc_new wr (.cells (#[.int .i64 x.kind, .int .i64 x.op, .int .i64 x.n, .string x.name, .slice qx x.args.length cx] : Array Value) 40)
        have y9 := fun (u : Nat) (v : Value) (h : wr.cell? ⟨by2, u, none⟩ = some v) => (hb9.cell (p := ⟨by2, u, none⟩) hbl2).trans h
        have z0' := y9 _ _ z0
        have z1' := y9 _ _ z1
        have z2' := y9 _ _ z2
        have z3' := y9 _ _ z3
        have z4' := y9 _ _ z4
        generalize wr.alloc (.cells #[.int .i64 x.kind, .int .i64 x.op, .int .i64 x.n, .string x.name, .slice qx x.args.length cx] 40) = W8 at hb9 hx9 z0' z1' z2' z3' z4' ⊢
        have HB8 := Lib.hid (HB.out.trans hb9)
        have HR8 := Lib.hid hb9
        generalize wr.heap.size = g8 at hx9 ⊢
        have HX8 := Lib.hid hx9
        clear k0 k1 k2 k3 k4 z0 z1 z2 z3 z4 hb9 hx9 y9
        go_upto_region 7 with (fail)
        have hb9 := (Bel.refl W8).alloc (#[.int .i64 y.kind, .int .i64 y.op, .int .i64 y.n, .string y.name, .slice qy y.args.length cy] : Array Value) 40
        have hy9 := heap_alloc_new W8 (.cells (#[.int .i64 y.kind, .int .i64 y.op, .int .i64 y.n, .string y.name, .slice qy y.args.length cy] : Array Value) 40)
        generalize W8.alloc (.cells #[.int .i64 y.kind, .int .i64 y.op, .int .i64 y.n, .string y.name, .slice qy y.args.length cy] 40) = W7 at hb9 hy9 ⊢
        generalize W8.heap.size = g7 at hy9 ⊢
        have HB7 := Lib.hid (HB8.out.trans hb9)
        have HR7 := Lib.hid (HR8.out.trans hb9)
        have hx9 := hb9.stays HX8.out
        clear hb9 z0' z1' z2' z3' z4'
        have k0 := cell_of_heap hx9 0
        have k1 := cell_of_heap hx9 1
        have k2 := cell_of_heap hx9 2
        have k3 := cell_of_heap hx9 3
        have k4 := cell_of_heap hx9 4
        have z0 := cell_of_heap hy9 0
        have z1 := cell_of_heap hy9 1
        have z2 := cell_of_heap hy9 2
        have z3 := cell_of_heap hy9 3
        have z4 := cell_of_heap hy9 4
        simp only [List.getElem?_toArray, List.getElem?_cons_zero, List.getElem?_cons_succ] at k0 k1 k2 k3 k4 z0 z1 z2 z3 z4
        clear hx9 hy9
        obtain ⟨rb', hrb⟩ : ∃ b, eqv x y = b := ⟨_, rfl⟩
        have HRB := Lib.hid hrb
        clear hrb
        go_wp2_with (go_at_call 102; refine (HH.out _ qx qy cx cy x y rb' HRB.out (ExsAt.bel HR7.out _ _ _ HEX.out) (HEY.out.bel HR7.out) HWX.out HWY.out).mono ?_)
        rintro r' w2 ⟨rfl, hb⟩
        have HB := Lib.hid (HB7.out.trans hb)
        clear hb k0 k1 k2 k3 k4 z0 z1 z2 z3 z4
        cases rb' with
        | true =>
          have hxy := eqv_iff.1 HRB.out
          have HA' : Hid (∀ (j : Nat) (x y : Ex), j < i + 1 → l[j]? = some x → m[j]? = some y → x = y) := Lib.hid (fun j x' y' hj h1 h2 => by
            by_cases hji : j = i
            · subst hji
              rw [HX.out] at h1
              rw [HY.out] at h2
              rw [← Option.some.inj h1, ← Option.some.inj h2]
              exact hxy
            · exact HA.out j x' y' (by omega) h1 h2)
          clear hxy
          go_wp2_with fail
          go_roundg (gk - 1)
          case measure => omega
          case rel => exact ⟨i + 1, by omega, by go_num, HA', HB⟩
        | false =>
          have hne : r = false := by
            rw [← HR.out]
            apply eqv_no
            intro hlm
            subst hlm
            have h1 := HX.out
            rw [HY.out] at h1
            have h2 := Option.some.inj h1
            have h3 := HRB.out
            rw [h2, eqv_iff.2 rfl] at h3
            cases h3
          have HNE := Lib.hid hne
          clear hne
          go_wp2_with fail
          go_ret
          exact ⟨rb HNE.out.symm, HB.out⟩
      · obtain rfl : n1 = i := by omega
        have hrt : r = true := by
          rw [← HR.out]
          exact eqv_iff.2 (eqv_list (by rw [HN1.out, HN2.out]) (fun j x y h1 h2 => HA.out j x y (by have := (List.getElem?_eq_some_iff.1 h1).1; rw [HN1.out] at this; exact this) h1 h2))
        have HRT := Lib.hid hrt
        clear hrt
        go_wp2_with fail
        go_ret
        exact ⟨rb HRT.out.symm, HB.out⟩
  · have hne : r = false := by
      rw [← hr]
      apply eqv_no
      intro hlm
      exact hnn (by rw [← hn1, ← hn2, hlm])
    have HNE := Lib.hid hne
    have q1 : ((n1 : Int) != (n2 : Int)) = true := by rw [bne_iff_ne]; omega
    clear hr hE hF hn1 hn2 H hne
    go_enter Tryz.func101, Tryz.ntmps101
    go_wp2_with fail
    go_ret
    exact ⟨rb HNE.out.symm, Bel.refl w⟩
theorem eqF_zero : EqF 0 := by
  intro w p q c c' l m r hr hE hF hl1 hl2
  obtain rfl : l = [] := hE
  obtain ⟨n2, hn2⟩ : ∃ n, m.length = n := ⟨_, rfl⟩
  have HR := Lib.hid hr
  show Calls Tryz.prog 101 #[.slice p 0 c, .slice q m.length c', .func (.func 102) #[] #[]] w _
  rw [hn2] at hl2 ⊢
  by_cases h0 : n2 = 0
  · subst h0
    have hrt : r = true := by rw [← HR.out]; exact eqv_iff.2 (List.length_eq_zero_iff.1 hn2).symm
    have HRT := Lib.hid hrt
    clear hr hF hn2 hrt hl1
    go_enter Tryz.func101, Tryz.ntmps101
    go_wp2_with fail
    refine wp_loop_rounds 1 ?_
    rw [rounds_succ]
    go_wp2_with fail
    go_ret
    exact ⟨rb HRT.out.symm, Bel.refl w⟩
  · have hrf : r = false := by
      rw [← HR.out]
      apply eqv_no
      intro hlm
      rw [← hlm] at hn2
      exact h0 hn2.symm
    have HRF := Lib.hid hrf
    have q1 : ((0 : Int) != (n2 : Int)) = true := by rw [bne_iff_ne]; omega
    clear hr hF hn2 hrf hl1
    go_enter Tryz.func101, Tryz.ntmps101
    go_wp2_with fail
    go_ret
    exact ⟨rb HRF.out.symm, Bel.refl w⟩
theorem eqF_any : ∀ k : Nat, EqF k := by
  intro k
  induction k with
  | zero => exact eqF_zero
  | succ k ih => exact fun w p q c c' l m r hr hE hF h1 h2 => eqF_succ (smE_of ih) w p q c c' l m r hr hE hF h1 h2
theorem eqE_at {w : World} {p q : Option Addr} {c c' : Nat} {l m : List Ex} {r : Bool} (hr : eqv l m = r) (hE : EAt w p l) (hF : EAt w q m) (h1 : l.length ≤ 9223372036854775807) (h2 : m.length ≤ 9223372036854775807) :
    Calls Tryz.prog 101 #[.slice p l.length c, .slice q m.length c', .func (.func 102) #[] #[]] w fun e w' => e = .returned (.bool r) ∧ Bel w w' := by
  obtain ⟨k, hE⟩ := hE
  exact eqF_any k w p q c c' l m r hr hE hF h1 h2
end Go.Proofs.YthlnjnmomnpnpaaGreatDoor
