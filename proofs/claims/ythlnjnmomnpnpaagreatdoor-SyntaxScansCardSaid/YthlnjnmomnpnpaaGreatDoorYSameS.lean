/- Package syntax: are two statements the same? -/
import Derived.Test.YthlnjnmomnpnpaaGreatDoorYSame
namespace Go.Proofs.YthlnjnmomnpnpaaGreatDoor
open Go.RowKit Tk Sy
set_option linter.unusedVariables false
set_option linter.unusedSimpArgs false
theorem eqv_st (e f : St) : eqv e f = ((e.kind == f.kind) && ((e.name.toList == f.name.toList) && ((e.src.toList == f.src.toList) && ((e.n == f.n) && (eqv e.args f.args && (eqv e.thn f.thn && eqv e.els f.els)))))) := by
  obtain ⟨a1, a2, a3, a4, a5, a6, a7⟩ := e
  obtain ⟨b1, b2, b3, b4, b5, b6, b7⟩ := f
  rw [str_beq, str_beq, Bool.eq_iff_iff]
  simp only [Bool.and_eq_true, beq_iff_eq, eqv_iff, St.kind, St.name, St.src, St.n, St.args, St.thn, St.els]
  constructor
  · intro h
    injection h with h1 h2 h3 h4 h5 h6 h7
    exact ⟨h1, h2, h3, h4, h5, h6, h7⟩
  · rintro ⟨rfl, rfl, rfl, rfl, rfl, rfl, rfl⟩
    rfl
def EqS (k : Nat) : Prop := ∀ (w : World) (p q : Option Addr) (c c' : Nat) (l m : List St) (r : Bool), eqv l m = r → StsAt k w p l → SAt w q m → l.length ≤ 9223372036854775807 → m.length ≤ 9223372036854775807 →
  Calls Tryz.prog 68 #[.slice p l.length c, .slice q m.length c', .func (.func 69) #[] #[]] w fun e w' => e = .returned (.bool r) ∧ Bel w w'
def SmS (k : Nat) : Prop := ∀ (w : World) (p p1 p2 q q1 q2 : Option Addr) (c c1 c2 d d1 d2 : Nat) (e f : St) (r : Bool), eqv e f = r → EAt w p e.args → StsAt k w p1 e.thn → StsAt k w p2 e.els → EAt w q f.args → SAt w q1 f.thn → SAt w q2 f.els → WfS e → WfS f →
  Calls Tryz.prog 69 #[stV p c p1 c1 p2 c2 e, stV q d q1 d1 q2 d2 f] w fun e w' => e = .returned (.bool r) ∧ Bel w w'
set_option maxRecDepth 100000 in
set_option maxHeartbeats 16000000 in
theorem smS_of {k : Nat} (H : EqS k) : SmS k := by
  intro w p p1 p2 q q1 q2 c c1 c2 d d1 d2 e f r hr hE hT hL hE' hT' hL' hwe hwf
  rw [eqv_st] at hr
  have hl1 := hwe.args
  have hl2 := hwf.args
  have hl3 := hwe.thn
  have hl4 := hwf.thn
  have hl5 := hwe.els
  have hl6 := hwf.els
  obtain ⟨b5, hb5⟩ : ∃ b, eqv e.args f.args = b := ⟨_, rfl⟩
  obtain ⟨b6, hb6⟩ : ∃ b, eqv e.thn f.thn = b := ⟨_, rfl⟩
  obtain ⟨b7, hb7⟩ : ∃ b, eqv e.els f.els = b := ⟨_, rfl⟩
  rw [hb5, hb6, hb7] at hr
  have HC1 : Hid (∀ w', Bel w w' → Calls Tryz.prog 101 #[.slice p e.args.length c, .slice q f.args.length d, .func (.func 102) #[] #[]] w' fun e w'' => e = .returned (.bool b5) ∧ Bel w' w'') := Lib.hid (fun w' hb => eqE_at hb5 (hE.bel hb) (hE'.bel hb) hl1 hl2)
  have HC2 : Hid (∀ w', Bel w w' → Calls Tryz.prog 68 #[.slice p1 e.thn.length c1, .slice q1 f.thn.length d1, .func (.func 69) #[] #[]] w' fun e w'' => e = .returned (.bool b6) ∧ Bel w' w'') := Lib.hid (fun w' hb => H w' p1 q1 c1 d1 e.thn f.thn b6 hb6 (StsAt.bel hb _ _ _ hT) (hT'.bel hb) hl3 hl4)
  have HC3 : Hid (∀ w', Bel w w' → Calls Tryz.prog 68 #[.slice p2 e.els.length c2, .slice q2 f.els.length d2, .func (.func 69) #[] #[]] w' fun e w'' => e = .returned (.bool b7) ∧ Bel w' w'') := Lib.hid (fun w' hb => H w' p2 q2 c2 d2 e.els f.els b7 hb7 (StsAt.bel hb _ _ _ hL) (hL'.bel hb) hl5 hl6)
  show Calls Tryz.prog 69 #[.agg #[.int .i64 e.kind, .string e.name, .string e.src, .int .i64 e.n, .slice p e.args.length c, .slice p1 e.thn.length c1, .slice p2 e.els.length c2], .agg #[.int .i64 f.kind, .string f.name, .string f.src, .int .i64 f.n, .slice q f.args.length d, .slice q1 f.thn.length d1, .slice q2 f.els.length d2]] w _
  generalize e.args.length = n1 at HC1 hl1 ⊢
  generalize f.args.length = n2 at HC1 hl2 ⊢
  generalize e.thn.length = n3 at HC2 hl3 ⊢
  generalize f.thn.length = n4 at HC2 hl4 ⊢
  generalize e.els.length = n5 at HC3 hl5 ⊢
  generalize f.els.length = n6 at HC3 hl6 ⊢
  generalize e.kind = e1 at hr ⊢
  generalize e.name = e2 at hr ⊢
  generalize e.src = e3 at hr ⊢
  generalize e.n = e4 at hr ⊢
  generalize f.kind = f1 at hr ⊢
  generalize f.name = f2 at hr ⊢
  generalize f.src = f3 at hr ⊢
  generalize f.n = f4 at hr ⊢
  clear hb5 hb6 hb7 hE hT hL hE' hT' hL' hwe hwf
  obtain ⟨b1, hb1⟩ : ∃ b, (e1 == f1) = b := ⟨_, rfl⟩
  obtain ⟨b2, hb2⟩ : ∃ b, (e2.toList == f2.toList) = b := ⟨_, rfl⟩
  obtain ⟨b3, hb3⟩ : ∃ b, (e3.toList == f3.toList) = b := ⟨_, rfl⟩
  obtain ⟨b4, hb4⟩ : ∃ b, (e4 == f4) = b := ⟨_, rfl⟩
  rw [hb1, hb2, hb3, hb4] at hr
  have HR := Lib.hid hr
  clear hr
  have hq : b1 = false ∨ (b1 = true ∧ b2 = false) ∨ (b1 = true ∧ b2 = true ∧ b3 = false) ∨ (b1 = true ∧ b2 = true ∧ b3 = true ∧ b4 = false) ∨ (b1 = true ∧ b2 = true ∧ b3 = true ∧ b4 = true ∧ b5 = false) ∨ (b1 = true ∧ b2 = true ∧ b3 = true ∧ b4 = true ∧ b5 = true ∧ b6 = false) ∨ (b1 = true ∧ b2 = true ∧ b3 = true ∧ b4 = true ∧ b5 = true ∧ b6 = true) := by clear hb1 hb2 hb3 hb4 HC1 HC2 HC3 HR; cases b1 <;> cases b2 <;> cases b3 <;> cases b4 <;> cases b5 <;> cases b6 <;> simp
  rcases hq with rfl | ⟨rfl, rfl⟩ | ⟨rfl, rfl, rfl⟩ | ⟨rfl, rfl, rfl, rfl⟩ | ⟨rfl, rfl, rfl, rfl, rfl⟩ | ⟨rfl, rfl, rfl, rfl, rfl, rfl⟩ | ⟨rfl, rfl, rfl, rfl, rfl, rfl⟩
  all_goals
    go_enter Tryz.func69, Tryz.ntmps69
    go_upto_region 1 with (fail)
    have hA := (heap_alloc_old (w.alloc (.cells #[.int .i64 e1, .string e2, .string e3, .int .i64 e4, .slice p n1 c, .slice p1 n3 c1, .slice p2 n5 c2] 52)) (.cells #[.int .i64 f1, .string f2, .string f3, .int .i64 f4, .slice q n2 d, .slice q1 n4 d1, .slice q2 n6 d2] 52) (lt_of_heap (heap_alloc_new w _))).trans (heap_alloc_new w (.cells #[.int .i64 e1, .string e2, .string e3, .int .i64 e4, .slice p n1 c, .slice p1 n3 c1, .slice p2 n5 c2] 52))
    have hB := heap_alloc_new (w.alloc (.cells #[.int .i64 e1, .string e2, .string e3, .int .i64 e4, .slice p n1 c, .slice p1 n3 c1, .slice p2 n5 c2] 52)) (.cells #[.int .i64 f1, .string f2, .string f3, .int .i64 f4, .slice q n2 d, .slice q1 n4 d1, .slice q2 n6 d2] 52)
    have hz : (w.alloc (.cells #[.int .i64 e1, .string e2, .string e3, .int .i64 e4, .slice p n1 c, .slice p1 n3 c1, .slice p2 n5 c2] 52)).heap.size = w.heap.size + 1 := by unfold World.alloc; exact Array.size_push _
    rw [hz] at hB
    have hb0 := ((Bel.refl w).alloc #[.int .i64 e1, .string e2, .string e3, .int .i64 e4, .slice p n1 c, .slice p1 n3 c1, .slice p2 n5 c2] 52).alloc #[.int .i64 f1, .string f2, .string f3, .int .i64 f4, .slice q n2 d, .slice q1 n4 d1, .slice q2 n6 d2] 52
    generalize (w.alloc (.cells #[.int .i64 e1, .string e2, .string e3, .int .i64 e4, .slice p n1 c, .slice p1 n3 c1, .slice p2 n5 c2] 52)).alloc (.cells #[.int .i64 f1, .string f2, .string f3, .int .i64 f4, .slice q n2 d, .slice q1 n4 d1, .slice q2 n6 d2] 52) = W at hA hB hb0 ⊢
    clear hz
    have HXA := Lib.hid hA
    have HXB := Lib.hid hB
    have HB0 := Lib.hid hb0
    have u0 := cell_of_heap hA 0
    have u1 := cell_of_heap hA 1
    have u2 := cell_of_heap hA 2
    have u3 := cell_of_heap hA 3
    have u4 := cell_of_heap hA 4
    have x0 := cell_of_heap hB 0
    have x1 := cell_of_heap hB 1
    have x2 := cell_of_heap hB 2
    have x3 := cell_of_heap hB 3
    have x4 := cell_of_heap hB 4
    simp only [List.getElem?_toArray, List.getElem?_cons_zero, List.getElem?_cons_succ] at u0 u1 u2 u3 u4 x0 x1 x2 x3 x4
    clear hA hB hb0
    go_wp2_with (first
      | (go_at_call 101; refine (HC1.out _ HB0.out).mono ?_; rintro r' w1 ⟨rfl, hb11⟩; have HB0 := Lib.hid (HB0.out.trans hb11); have HXA := Lib.hid (hb11.stays HXA.out); have HXB := Lib.hid (hb11.stays HXB.out); have u5 : w1.cell? ⟨w.heap.size, 5, none⟩ = some (.slice p1 n3 c1) := cell_of_heap HXA.out 5; have x5 : w1.cell? ⟨w.heap.size + 1, 5, none⟩ = some (.slice q1 n4 d1) := cell_of_heap HXB.out 5; clear hb11 u0 u1 u2 u3 u4 x0 x1 x2 x3 x4)
      | (go_at_call 68; (with_reducible refine (HC2.out _ HB0.out).mono ?_); rintro r' w2 ⟨rfl, hb12⟩; have HB0 := Lib.hid (HB0.out.trans hb12); have HXA := Lib.hid (hb12.stays HXA.out); have HXB := Lib.hid (hb12.stays HXB.out); have u6 : w2.cell? ⟨w.heap.size, 6, none⟩ = some (.slice p2 n5 c2) := cell_of_heap HXA.out 6; have x6 : w2.cell? ⟨w.heap.size + 1, 6, none⟩ = some (.slice q2 n6 d2) := cell_of_heap HXB.out 6; clear hb12 u5 x5)
      | (go_at_call 68; (with_reducible refine (HC3.out _ HB0.out).mono ?_); rintro r' w3 ⟨rfl, hb13⟩; have HB0 := Lib.hid (HB0.out.trans hb13); clear hb13 u6 x6))
    go_ret
    exact ⟨rb (by rw [← HR.out]; rfl), HB0.out⟩
set_option maxRecDepth 100000 in
set_option maxHeartbeats 8000000 in
theorem eqS_succ {k : Nat} (H : SmS k) (w : World) (p0 q0 : Option Addr) (c c' : Nat) (l m : List St) (r : Bool) (hr : eqv l m = r) (hE : StsAt (k + 1) w p0 l) (hF : SAt w q0 m) (hl1 : l.length ≤ 9223372036854775807) (hl2 : m.length ≤ 9223372036854775807) :
    Calls Tryz.prog 68 #[.slice p0 l.length c, .slice q0 m.length c', .func (.func 69) #[] #[]] w fun e w' => e = .returned (.bool r) ∧ Bel w w' := by
  obtain ⟨n1, hn1⟩ : ∃ n, l.length = n := ⟨_, rfl⟩
  obtain ⟨n2, hn2⟩ : ∃ n, m.length = n := ⟨_, rfl⟩
  rw [hn1] at hl1 ⊢
  rw [hn2] at hl2 ⊢
  by_cases hnn : n1 = n2
  · subst hnn
    have HH := Lib.hid H
    have HE := Lib.hid hE
    have HF := Lib.hid hF
    have HR := Lib.hid hr
    have HN1 := Lib.hid hn1
    have HN2 := Lib.hid hn2
    have q1 : ((n1 : Int) != (n1 : Int)) = false := bne_self_eq_false _
    clear H hE hF hr hn1 hn2
    go_enter Tryz.func68, Tryz.ntmps68
    go_wp2_with fail
    go_loopg [17] n1 (fun gk ii wr => ∃ i : Nat, i + gk = n1 ∧ ii = .int .i64 i ∧ Hid (∀ (j : Nat) (x y : St), j < i → l[j]? = some x → m[j]? = some y → x = y) ∧ Hid (Bel w wr))
    case atStart => exact ⟨0, by omega, rfl, Lib.hid (fun j x y h => by omega), Lib.hid (Bel.refl _)⟩
    case round =>
      obtain ⟨i, hig, rfl, HA, HB⟩ := hrel
      by_cases hlt : i < n1
      · obtain ⟨x, hx⟩ : ∃ x, l[i]? = some x := ⟨_, List.getElem?_eq_getElem (by rw [HN1.out]; exact hlt)⟩
        obtain ⟨y, hy⟩ : ∃ x, m[i]? = some x := ⟨_, List.getElem?_eq_getElem (by rw [HN2.out]; exact hlt)⟩
        obtain ⟨hwx, bx2, o, qx, cx, qx1, cx1, qx2, cx2, rfl, hbl, ⟨k0, k1, k2, k3, k4, k5, k6⟩, hEx, hTx, hLx⟩ := StsAt.bel HB.out _ _ _ HE.out i x hx
        obtain ⟨hwy, by2, o2, qy, cy, qy1, cy1, qy2, cy2, rfl, hbl2, ⟨z0, z1, z2, z3, z4, z5, z6⟩, hEy, hTy, hLy⟩ := (HF.out.bel HB.out).get hy
        have HX := Lib.hid hx
        have HY := Lib.hid hy
        have HWX := Lib.hid hwx
        have HEX := Lib.hid hEx
        have HTX := Lib.hid hTx
        have HLX := Lib.hid hLx
        have HWY := Lib.hid hwy
        have HEY := Lib.hid hEy
        have HTY := Lib.hid hTy
        have HLY := Lib.hid hLy
        clear hwx hwy hEx hEy hTx hTy hLx hLy
        have hk1 : (i : Int) < n1 := by omega
        clear hx hy
        go_upto_region 6 with (fail)
        have hb9 := (Bel.refl wr).alloc (#[.int .i64 x.kind, .string x.name, .string x.src, .int .i64 x.n, .slice qx x.args.length cx, .slice qx1 x.thn.length cx1, .slice qx2 x.els.length cx2] : Array Value) 52
        have hx9 := heap_alloc_new wr (.cells (#[.int .i64 x.kind, .string x.name, .string x.src, .int .i64 x.n, .slice qx x.args.length cx, .slice qx1 x.thn.length cx1, .slice qx2 x.els.length cx2] : Array Value) 52)
        have y9 := fun (u : Nat) (v : Value) (h : wr.cell? ⟨by2, u, none⟩ = some v) => (hb9.cell (p := ⟨by2, u, none⟩) hbl2).trans h
        have z0' := y9 _ _ z0
        have z1' := y9 _ _ z1
        have z2' := y9 _ _ z2
        have z3' := y9 _ _ z3
        have z4' := y9 _ _ z4
        have z5' := y9 _ _ z5
        have z6' := y9 _ _ z6
        generalize wr.alloc (.cells #[.int .i64 x.kind, .string x.name, .string x.src, .int .i64 x.n, .slice qx x.args.length cx, .slice qx1 x.thn.length cx1, .slice qx2 x.els.length cx2] 52) = W8 at hb9 hx9 z0' z1' z2' z3' z4' z5' z6' ⊢
        have HB8 := Lib.hid (HB.out.trans hb9)
        have HR8 := Lib.hid hb9
        generalize wr.heap.size = g8 at hx9 ⊢
        have HX8 := Lib.hid hx9
        clear k0 k1 k2 k3 k4 k5 k6 z0 z1 z2 z3 z4 z5 z6 hb9 hx9 y9
        go_upto_region 7 with (fail)
        have hb9 := (Bel.refl W8).alloc (#[.int .i64 y.kind, .string y.name, .string y.src, .int .i64 y.n, .slice qy y.args.length cy, .slice qy1 y.thn.length cy1, .slice qy2 y.els.length cy2] : Array Value) 52
        have hy9 := heap_alloc_new W8 (.cells (#[.int .i64 y.kind, .string y.name, .string y.src, .int .i64 y.n, .slice qy y.args.length cy, .slice qy1 y.thn.length cy1, .slice qy2 y.els.length cy2] : Array Value) 52)
        generalize W8.alloc (.cells #[.int .i64 y.kind, .string y.name, .string y.src, .int .i64 y.n, .slice qy y.args.length cy, .slice qy1 y.thn.length cy1, .slice qy2 y.els.length cy2] 52) = W7 at hb9 hy9 ⊢
        generalize W8.heap.size = g7 at hy9 ⊢
        have HB7 := Lib.hid (HB8.out.trans hb9)
        have HR7 := Lib.hid (HR8.out.trans hb9)
        have hx9 := hb9.stays HX8.out
        clear hb9 z0' z1' z2' z3' z4' z5' z6'
        have k0 := cell_of_heap hx9 0
        have k1 := cell_of_heap hx9 1
        have k2 := cell_of_heap hx9 2
        have k3 := cell_of_heap hx9 3
        have k4 := cell_of_heap hx9 4
        have k5 := cell_of_heap hx9 5
        have k6 := cell_of_heap hx9 6
        have z0 := cell_of_heap hy9 0
        have z1 := cell_of_heap hy9 1
        have z2 := cell_of_heap hy9 2
        have z3 := cell_of_heap hy9 3
        have z4 := cell_of_heap hy9 4
        have z5 := cell_of_heap hy9 5
        have z6 := cell_of_heap hy9 6
        simp only [List.getElem?_toArray, List.getElem?_cons_zero, List.getElem?_cons_succ] at k0 k1 k2 k3 k4 k5 k6 z0 z1 z2 z3 z4 z5 z6
        clear hx9 hy9
        obtain ⟨rb', hrb⟩ : ∃ b, eqv x y = b := ⟨_, rfl⟩
        have HRB := Lib.hid hrb
        clear hrb
        go_wp2_with (go_at_call 69; refine (HH.out _ qx qx1 qx2 qy qy1 qy2 cx cx1 cx2 cy cy1 cy2 x y rb' HRB.out (HEX.out.bel HR7.out) (StsAt.bel HR7.out _ _ _ HTX.out) (StsAt.bel HR7.out _ _ _ HLX.out) (HEY.out.bel HR7.out) (HTY.out.bel HR7.out) (HLY.out.bel HR7.out) HWX.out HWY.out).mono ?_)
        rintro r' w2 ⟨rfl, hb⟩
        have HB := Lib.hid (HB7.out.trans hb)
        clear hb k0 k1 k2 k3 k4 k5 k6 z0 z1 z2 z3 z4 z5 z6
        cases rb' with
        | true =>
          have hxy := eqv_iff.1 HRB.out
          have HA' : Hid (∀ (j : Nat) (x y : St), j < i + 1 → l[j]? = some x → m[j]? = some y → x = y) := Lib.hid (fun j x' y' hj h1 h2 => by
            by_cases hji : j = i
            · subst hji
              rw [HX.out] at h1
              rw [HY.out] at h2
              rw [← Option.some.inj h1, ← Option.some.inj h2]
              exact hxy
            · exact HA.out j x' y' (by omega) h1 h2)
          clear hxy
          go_wp2_with fail
          go_roundg (gk - 1)
          case measure => omega
          case rel => exact ⟨i + 1, by omega, by go_num, HA', HB⟩
        | false =>
          have hne : r = false := by
            rw [← HR.out]
            apply eqv_no
            intro hlm
            subst hlm
            have h1 := HX.out
            rw [HY.out] at h1
            have h2 := Option.some.inj h1
            have h3 := HRB.out
            rw [h2, eqv_iff.2 rfl] at h3
            cases h3
          have HNE := Lib.hid hne
          clear hne
          go_wp2_with fail
          go_ret
          exact ⟨rb HNE.out.symm, HB.out⟩
      · obtain rfl : n1 = i := by omega
        have hrt : r = true := by
          rw [← HR.out]
          exact eqv_iff.2 (eqv_list (by rw [HN1.out, HN2.out]) (fun j x y h1 h2 => HA.out j x y (by have := (List.getElem?_eq_some_iff.1 h1).1; rw [HN1.out] at this; exact this) h1 h2))
        have HRT := Lib.hid hrt
        clear hrt
        go_wp2_with fail
        go_ret
        exact ⟨rb HRT.out.symm, HB.out⟩
  · have hne : r = false := by
      rw [← hr]
      apply eqv_no
      intro hlm
      exact hnn (by rw [← hn1, ← hn2, hlm])
    have HNE := Lib.hid hne
    have q1 : ((n1 : Int) != (n2 : Int)) = true := by rw [bne_iff_ne]; omega
    clear hr hE hF hn1 hn2 H hne
    go_enter Tryz.func68, Tryz.ntmps68
    go_wp2_with fail
    go_ret
    exact ⟨rb HNE.out.symm, Bel.refl w⟩
theorem eqS_zero : EqS 0 := by
  intro w p q c c' l m r hr hE hF hl1 hl2
  obtain rfl : l = [] := hE
  obtain ⟨n2, hn2⟩ : ∃ n, m.length = n := ⟨_, rfl⟩
  have HR := Lib.hid hr
  show Calls Tryz.prog 68 #[.slice p 0 c, .slice q m.length c', .func (.func 69) #[] #[]] w _
  rw [hn2] at hl2 ⊢
  by_cases h0 : n2 = 0
  · subst h0
    have hrt : r = true := by rw [← HR.out]; exact eqv_iff.2 (List.length_eq_zero_iff.1 hn2).symm
    have HRT := Lib.hid hrt
    clear hr hF hn2 hrt hl1
    go_enter Tryz.func68, Tryz.ntmps68
    go_wp2_with fail
    refine wp_loop_rounds 1 ?_
    rw [rounds_succ]
    go_wp2_with fail
    go_ret
    exact ⟨rb HRT.out.symm, Bel.refl w⟩
  · have hrf : r = false := by
      rw [← HR.out]
      apply eqv_no
      intro hlm
      rw [← hlm] at hn2
      exact h0 hn2.symm
    have HRF := Lib.hid hrf
    have q1 : ((0 : Int) != (n2 : Int)) = true := by rw [bne_iff_ne]; omega
    clear hr hF hn2 hrf hl1
    go_enter Tryz.func68, Tryz.ntmps68
    go_wp2_with fail
    go_ret
    exact ⟨rb HRF.out.symm, Bel.refl w⟩
theorem eqS_any : ∀ k : Nat, EqS k := by
  intro k
  induction k with
  | zero => exact eqS_zero
  | succ k ih => exact fun w p q c c' l m r hr hE hF h1 h2 => eqS_succ (smS_of ih) w p q c c' l m r hr hE hF h1 h2
theorem eqSt_at {w : World} {p q : Option Addr} {c c' : Nat} {l m : List St} {r : Bool} (hr : eqv l m = r) (hE : SAt w p l) (hF : SAt w q m) (h1 : l.length ≤ 9223372036854775807) (h2 : m.length ≤ 9223372036854775807) :
    Calls Tryz.prog 68 #[.slice p l.length c, .slice q m.length c', .func (.func 69) #[] #[]] w fun e w' => e = .returned (.bool r) ∧ Bel w w' := by
  obtain ⟨k, hE⟩ := hE
  exact eqS_any k w p q c c' l m r hr hE hF h1 h2
end Go.Proofs.YthlnjnmomnpnpaaGreatDoor
