/- Package syntax: how many parts there are. -/
import Derived.Test.YthlnjnmomnpnpaaGreatDoorYRight
import Derived.Deep.RegionHeld3
namespace Go.Proofs.YthlnjnmomnpnpaaGreatDoor
open Go.RowKit Tk Sy
set_option linter.unusedVariables false
set_option linter.unusedSimpArgs false
namespace Sy
mutual
def cntE : Ex → Nat
  | .mk _ _ _ _ l => 1 + cntEs l
def cntEs : List Ex → Nat
  | [] => 0
  | e :: l => cntE e + cntEs l
end
mutual
def cntS : St → Nat
  | .mk _ _ _ _ a t l => 1 + cntEs a + cntSs t + cntSs l
def cntSs : List St → Nat
  | [] => 0
  | s :: l => cntS s + cntSs l
end
def restE (e : Ex) : Nat := cntEs e.args
def restS (s : St) : Nat := cntEs s.args + cntSs s.thn + cntSs s.els
def size (p : Prg) : Nat := (p.tasks.map fun t => cntSs t.body).sum
theorem cntE_eq (e : Ex) : cntE e = 1 + restE e := by cases e; rfl
theorem cntS_eq (s : St) : cntS s = 1 + restS s := by
  obtain ⟨k, a, b, n, u, v, x⟩ := s
  show 1 + cntEs u + cntSs v + cntSs x = 1 + (cntEs u + cntSs v + cntSs x)
  omega
theorem cntEs_eq (l : List Ex) : cntEs l = l.length + (l.map restE).sum := by
  induction l with
  | nil => rfl
  | cons e l ih =>
    show cntE e + cntEs l = _
    rw [ih, cntE_eq, List.map_cons, List.sum_cons, List.length_cons]
    omega
theorem cntSs_eq (l : List St) : cntSs l = l.length + (l.map restS).sum := by
  induction l with
  | nil => rfl
  | cons e l ih =>
    show cntS e + cntSs l = _
    rw [ih, cntS_eq, List.map_cons, List.sum_cons, List.length_cons]
    omega
end Sy
theorem sum_take {α : Type} (f : α → Nat) {l : List α} {j : Nat} {x : α} (h : l[j]? = some x) : ((l.take (j + 1)).map f).sum = ((l.take j).map f).sum + f x := by
  rw [List.take_add_one, h, List.map_append, List.sum_append]
  simp
theorem w64_add (a b : Int) : wrap64 (wrap64 a + wrap64 b) = wrap64 (a + b) := by unfold wrap64; omega
theorem w64_4 (a b c d : Int) : wrap64 (wrap64 a + wrap64 (wrap64 (wrap64 b + wrap64 c) + wrap64 d)) = wrap64 (a + (b + c + d)) := by
  rw [w64_add b c, w64_add (b + c) d, w64_add a]
def CntAt (k : Nat) : Prop := ∀ (w : World) (p : Option Addr) (c : Nat) (l : List Ex), ExsAt k w p l → l.length ≤ 9223372036854775807 → Calls Tryz.prog 71 #[.slice p l.length c] w fun e w' => e = .returned (.int .i64 (wrap64 (cntEs l))) ∧ Bel w w'
set_option maxRecDepth 100000 in
set_option maxHeartbeats 8000000 in
theorem countE_any : ∀ k : Nat, CntAt k := by
  intro k
  induction k with
  | zero =>
    intro w p c l h hl
    obtain rfl : l = [] := h
    go_enter Tryz.func71, Tryz.ntmps71
    go_wp2_with fail
    refine wp_loop_rounds 1 ?_
    rw [rounds_succ]
    go_wp2_with fail
    go_ret
    exact ⟨ri (by unfold wrap64; decide), Bel.refl w⟩
  | succ k ih =>
    intro w p c l h hl
    have IH := Lib.hid ih
    have HE := Lib.hid h
    have hcn := cntEs_eq l
    obtain ⟨n, hn⟩ : ∃ n, l.length = n := ⟨_, rfl⟩
    rw [hn] at hl hcn ⊢
    have HN := Lib.hid hn
    have HCN := Lib.hid hcn
    have HW0 : Hid ((n : Int) = wrap64 (n : Int)) := Lib.hid (by unfold wrap64; omega)
    clear ih h hn hcn
    go_enter Tryz.func71, Tryz.ntmps71
    go_wp2_with fail
    go_loopg [3, 10] n (fun gk aa ii wr => ∃ i : Nat, ∃ av : Int, i + gk = n ∧ aa = .int .i64 av ∧ ii = .int .i64 i ∧ Hid (av = wrap64 ((n : Int) + (((l.take i).map restE).sum : Nat))) ∧ Hid (Bel w wr))
    case atStart => exact ⟨0, n, by omega, rfl, rfl, Lib.hid (by simpa using HW0.out), Lib.hid (Bel.refl _)⟩
    case round =>
      obtain ⟨i, av, hig, rfl, rfl, HA, HB⟩ := hrel
      by_cases hlt : i < n
      · obtain ⟨x, hx⟩ : ∃ x, l[i]? = some x := ⟨_, List.getElem?_eq_getElem (by rw [HN.out]; exact hlt)⟩
        obtain ⟨hw, b, o, q, c', rfl, hbl, c0, c1, c2, c3, c4, hE⟩ := ExsAt.bel HB.out _ _ _ HE.out i x hx
        have HEX := Lib.hid hE
        have HLE := Lib.hid hw.args
        have HSM := Lib.hid (sum_take restE hx)
        have hk1 : (i : Int) < n := by omega
        clear hw hE hx
        go_upto_region 5 with (fail)
        have hb9 := (Bel.refl wr).alloc (#[.int .i64 x.kind, .int .i64 x.op, .int .i64 x.n, .string x.name, .slice q x.args.length c'] : Array Value) 40
        have hx9 := heap_alloc_new wr (.cells (#[.int .i64 x.kind, .int .i64 x.op, .int .i64 x.n, .string x.name, .slice q x.args.length c'] : Array Value) 40)
        generalize wr.alloc (.cells #[.int .i64 x.kind, .int .i64 x.op, .int .i64 x.n, .string x.name, .slice q x.args.length c'] 40) = W9 at hb9 hx9 ⊢
        have HB := Lib.hid (HB.out.trans hb9)
        have HEX := Lib.hid (ExsAt.bel hb9 _ _ _ HEX.out)
        generalize wr.heap.size = g9 at hx9 ⊢
        clear c0 c1 c2 c3 c4 hb9
        have c4 := cell_of_heap hx9 4
        simp only [List.getElem?_toArray, List.getElem?_cons_zero, List.getElem?_cons_succ] at c4
        clear hx9
        go_wp2_with fail
        refine (IH.out _ q c' x.args HEX.out HLE.out).mono ?_
        rintro r w1 ⟨rfl, hb⟩
        have HB := Lib.hid (HB.out.trans hb)
        obtain ⟨cv, hcv⟩ : ∃ cv, wrap64 (cntEs x.args : Int) = cv := ⟨_, rfl⟩
        rw [hcv]
        have HCV := Lib.hid hcv
        clear hb c4 hcv
        go_wp2_with fail
        go_roundg (gk - 1)
        case measure => omega
        case rel => exact ⟨i + 1, _, by omega, rfl, by go_num, Lib.hid (by
          rw [HSM.out, HA.out, ← HCV.out]
          show wrap64 (_ + _) = _
          rw [w64_add]
          unfold restE
          congr 1
          omega), HB⟩
      · obtain rfl : n = i := by omega
        have hfin : av = wrap64 (cntEs l : Int) := by
          rw [HA.out, HCN.out, List.take_of_length_le (Nat.le_of_eq HN.out)]
          congr 1
        have HF := Lib.hid hfin
        clear hfin
        go_wp2_with fail
        go_ret
        exact ⟨ri HF.out, HB.out⟩
theorem countE_at {w : World} {p : Option Addr} {c : Nat} {l : List Ex} {v : Int} (h : EAt w p l) (hl : l.length ≤ 9223372036854775807) (hv : wrap64 (cntEs l : Int) = v) : Calls Tryz.prog 71 #[.slice p l.length c] w fun e w' => e = .returned (.int .i64 v) ∧ Bel w w' := by
  subst hv
  obtain ⟨k, h⟩ := h
  exact countE_any k w p c l h hl
def CntSt (k : Nat) : Prop := ∀ (w : World) (p : Option Addr) (c : Nat) (l : List St) (v : Int), StsAt k w p l → l.length ≤ 9223372036854775807 → wrap64 (cntSs l : Int) = v → Calls Tryz.prog 43 #[.slice p l.length c] w fun e w' => e = .returned (.int .i64 v) ∧ Bel w w'
set_option maxRecDepth 100000 in
set_option maxHeartbeats 16000000 in
theorem countS_any : ∀ k : Nat, CntSt k := by
  intro k
  induction k with
  | zero =>
    intro w p c l v h hl hv
    obtain rfl : l = [] := h
    subst hv
    go_enter Tryz.func43, Tryz.ntmps43
    go_wp2_with fail
    refine wp_loop_rounds 1 ?_
    rw [rounds_succ]
    go_wp2_with fail
    go_ret
    exact ⟨ri (by unfold wrap64; decide), Bel.refl w⟩
  | succ k ih =>
    intro w p c l v h hl hv
    have IH : Hid (∀ (w : World) (p : Option Addr) (c : Nat) (l : List St) (v : Int), StsAt k w p l → l.length ≤ 9223372036854775807 → wrap64 (cntSs l : Int) = v → Calls Tryz.prog 43 #[.slice p l.length c] w fun e w' => e = .returned (.int .i64 v) ∧ Bel w w') := Lib.hid ih
    have HE := Lib.hid h
    have hcn := cntSs_eq l
    obtain ⟨n, hn⟩ : ∃ n, l.length = n := ⟨_, rfl⟩
    rw [hn] at hl hcn ⊢
    have HN := Lib.hid hn
    have HCN := Lib.hid hcn
    have HVV := Lib.hid hv
    have HW0 : Hid ((n : Int) = wrap64 (n : Int)) := Lib.hid (by unfold wrap64; omega)
    clear ih h hn hcn hv
    go_enter Tryz.func43, Tryz.ntmps43
    go_wp2_with fail
    go_loopg [3, 10] n (fun gk aa ii wr => ∃ i : Nat, ∃ av : Int, i + gk = n ∧ aa = .int .i64 av ∧ ii = .int .i64 i ∧ Hid (av = wrap64 ((n : Int) + (((l.take i).map restS).sum : Nat))) ∧ Hid (Bel w wr))
    case atStart => exact ⟨0, n, by omega, rfl, rfl, Lib.hid (by simpa using HW0.out), Lib.hid (Bel.refl _)⟩
    case round =>
      obtain ⟨i, av, hig, rfl, rfl, HA, HB⟩ := hrel
      by_cases hlt : i < n
      · obtain ⟨x, hx⟩ : ∃ x, l[i]? = some x := ⟨_, List.getElem?_eq_getElem (by rw [HN.out]; exact hlt)⟩
        obtain ⟨hw, b, o, q, c', q1, c1, q2, c2, rfl, hbl, ⟨k0, k1, k2, k3, k4, k5, k6⟩, hE, hT, hL⟩ := StsAt.bel HB.out _ _ _ HE.out i x hx
        have HEX := Lib.hid hE
        have HTX := Lib.hid hT
        have HLX := Lib.hid hL
        have HLE := Lib.hid hw.args
        have HLT := Lib.hid hw.thn
        have HLL := Lib.hid hw.els
        have HSM := Lib.hid (sum_take restS hx)
        have hk1 : (i : Int) < n := by omega
        obtain ⟨v1, hv1⟩ : ∃ v, wrap64 (cntEs x.args : Int) = v := ⟨_, rfl⟩
        obtain ⟨v2, hv2⟩ : ∃ v, wrap64 (cntSs x.thn : Int) = v := ⟨_, rfl⟩
        obtain ⟨v3, hv3⟩ : ∃ v, wrap64 (cntSs x.els : Int) = v := ⟨_, rfl⟩
        have HV1 := Lib.hid hv1
        have HV2 := Lib.hid hv2
        have HV3 := Lib.hid hv3
        clear hw hE hT hL hx hv1 hv2 hv3
        go_upto_region 5 with (fail)
        have hb9 := (Bel.refl wr).alloc (stA x q c' q1 c1 q2 c2) 52
        have hx9 := heap_alloc_new wr (.cells (stA x q c' q1 c1 q2 c2) 52)
        generalize wr.alloc (.cells (stA x q c' q1 c1 q2 c2) 52) = W9 at hb9 hx9 ⊢
        have HB := Lib.hid (HB.out.trans hb9)
        have HEX := Lib.hid (HEX.out.bel hb9)
        have HTX := Lib.hid (StsAt.bel hb9 _ _ _ HTX.out)
        have HLX := Lib.hid (StsAt.bel hb9 _ _ _ HLX.out)
        generalize wr.heap.size = g9 at hx9 ⊢
        clear k0 k1 k2 k3 k4 k5 k6 hb9
        have HX9 := Lib.hid hx9
        clear hx9
        have HKEEP : Hid (∀ w', Bel W9 w' → w'.cell? ⟨g9, 4, none⟩ = some (.slice q x.args.length c') ∧ w'.cell? ⟨g9, 5, none⟩ = some (.slice q1 x.thn.length c1) ∧ w'.cell? ⟨g9, 6, none⟩ = some (.slice q2 x.els.length c2)) := Lib.hid (fun w' hb => ⟨cell_of_heap (hb.stays HX9.out) 4, cell_of_heap (hb.stays HX9.out) 5, cell_of_heap (hb.stays HX9.out) 6⟩)
        go_region_held3 (fun w' => w'.cell? ⟨g9, 4, none⟩ = some (.slice q x.args.length c') ∧ w'.cell? ⟨g9, 5, none⟩ = some (.slice q1 x.thn.length c1) ∧ w'.cell? ⟨g9, 6, none⟩ = some (.slice q2 x.els.length c2))
          (first | exact HKEEP.out _ (((((Bel.refl _).drew).trans hb11).trans hb12).trans hb13) | exact HKEEP.out _ ((((Bel.refl _).drew).trans hb11).trans hb12) | exact HKEEP.out _ (((Bel.refl _).drew).trans hb11) | exact HKEEP.out _ ((Bel.refl _).drew))
          (first
            | (go_at_call 71; refine (countE_at (HEX.out.bel ((Bel.refl _).drew)) HLE.out HV1.out).mono ?_; rintro e w' ⟨rfl, hb11⟩)
            | (go_at_call 43; with_reducible refine (IH.out _ q1 c1 x.thn v2 (StsAt.bel (((Bel.refl _).drew).trans hb11) _ _ _ HTX.out) HLT.out HV2.out).mono ?_; rintro e w' ⟨rfl, hb12⟩)
            | (go_at_call 43; with_reducible refine (IH.out _ q2 c2 x.els v3 (StsAt.bel ((((Bel.refl _).drew).trans hb11).trans hb12) _ _ _ HLX.out) HLL.out HV3.out).mono ?_; rintro e w' ⟨rfl, hb13⟩))
        have HB := Lib.hid (HB.out.trans (((((Bel.refl _).drew).trans hb11).trans hb12).trans hb13))
        clear hb11 hb12 hb13 HKEEP
        rename_i hh
        clear hh
        go_wp2_with fail
        go_roundg (gk - 1)
        case measure => omega
        case rel => exact ⟨i + 1, _, by omega, rfl, by go_num, Lib.hid (by
          rw [HSM.out, HA.out, ← HV1.out, ← HV2.out, ← HV3.out]
          have kw : ∀ y : Int, IntKind.i64.wrap y = wrap64 y := fun y => IntWalk.i64_left y
          simp only [kw]
          rw [w64_4]
          unfold restS
          congr 1
          omega), HB⟩
      · obtain rfl : n = i := by omega
        have hfin : av = v := by
          rw [← HVV.out, HA.out, HCN.out, List.take_of_length_le (Nat.le_of_eq HN.out)]
          congr 1
        have HF := Lib.hid hfin
        clear hfin
        go_wp2_with fail
        go_ret
        exact ⟨ri HF.out, HB.out⟩
theorem countS_at {w : World} {p : Option Addr} {c : Nat} {l : List St} {v : Int} (h : SAt w p l) (hl : l.length ≤ 9223372036854775807) (hv : wrap64 (cntSs l : Int) = v) : Calls Tryz.prog 43 #[.slice p l.length c] w fun e w' => e = .returned (.int .i64 v) ∧ Bel w w' := by
  obtain ⟨k, h⟩ := h
  exact countS_any k w p c l v h hl hv
set_option maxRecDepth 100000 in
set_option maxHeartbeats 16000000 in
theorem size_any {p : Prg} {v : Int} (hv : wrap64 (size p : Int) = v) (w : World) {q1 q2 q3 : Option Addr} {c1 c2 c3 : Nat} (hE : PrgAt w q1 q2 q3 p) :
    Calls Tryz.prog 14 #[prgV q1 c1 q2 c2 q3 c3 p] w fun r w' => r = .returned (.int .i64 v) ∧ Bel w w' := by
  have HE := Lib.hid hE.tasks
  have hl := hE.lt
  have hcn : size p = (p.tasks.map fun t => cntSs t.body).sum := rfl
  obtain ⟨f, hf⟩ : ∃ f : Tsk → Nat, (fun t => cntSs t.body) = f := ⟨_, rfl⟩
  rw [hf] at hcn
  have HFF : Hid (∀ t, f t = cntSs t.body) := Lib.hid (fun t => by rw [← hf])
  have HVV := Lib.hid hv
  have HCN := Lib.hid hcn
  obtain ⟨n, hn⟩ : ∃ n, p.tasks.length = n := ⟨_, rfl⟩
  show Calls Tryz.prog 14 #[.agg #[.int .i64 p.harts, .slice q1 p.devs.length c1, .slice q2 p.rscs.length c2, .slice q3 p.tasks.length c3]] w _
  rw [hn] at hl ⊢
  have HN := Lib.hid hn
  have HW0 : Hid ((0 : Int) = wrap64 0) := Lib.hid (by unfold wrap64; decide)
  clear hE hv hf hcn hn
  go_enter Tryz.func14, Tryz.ntmps14
  go_wp2_with fail
  have hb0 := (Bel.refl w).alloc #[.int .i64 p.harts, .slice q1 p.devs.length c1, .slice q2 p.rscs.length c2, .slice q3 n c3] 28
  generalize w.alloc (.cells #[.int .i64 p.harts, .slice q1 p.devs.length c1, .slice q2 p.rscs.length c2, .slice q3 n c3] 28) = W0 at hb0 ⊢
  have HB0 := Lib.hid hb0
  clear hb0
  go_loopg [3, 9] n (fun gk aa ii wr => ∃ i : Nat, ∃ av : Int, i + gk = n ∧ aa = .int .i64 av ∧ ii = .int .i64 i ∧ Hid (av = wrap64 (((p.tasks.take i).map f).sum : Nat)) ∧ Hid (Bel w wr))
  case atStart => exact ⟨0, 0, by omega, rfl, rfl, Lib.hid (by simpa using HW0.out), HB0⟩
  case round =>
    obtain ⟨i, av, hig, rfl, rfl, HA, HB⟩ := hrel
    by_cases hlt : i < n
    · obtain ⟨x, hx⟩ : ∃ x, p.tasks[i]? = some x := ⟨_, List.getElem?_eq_getElem (by rw [HN.out]; exact hlt)⟩
      obtain ⟨hw, b, o, q, c', rfl, hbl, k0, k1, k2, k3, k4, k5, hs⟩ := (HE.out.bel HB.out) i x hx
      have HS := Lib.hid hs
      have HLB := Lib.hid hw.body
      have HSM := Lib.hid (sum_take f hx)
      have hk1 : (i : Int) < n := by omega
      obtain ⟨v1, hv1⟩ : ∃ v, wrap64 (cntSs x.body : Int) = v := ⟨_, rfl⟩
      have HV1 := Lib.hid hv1
      clear hw hs hx hv1
      go_upto_region 5 with (fail)
      have hb9 := (Bel.refl wr).alloc (#[.string x.name, .bool x.handler, .int .i64 x.hart, .int .i64 x.prio, .int .i64 x.line, .slice q x.body.length c'] : Array Value) 54
      have hx9 := heap_alloc_new wr (.cells (#[.string x.name, .bool x.handler, .int .i64 x.hart, .int .i64 x.prio, .int .i64 x.line, .slice q x.body.length c'] : Array Value) 54)
      generalize wr.alloc (.cells #[.string x.name, .bool x.handler, .int .i64 x.hart, .int .i64 x.prio, .int .i64 x.line, .slice q x.body.length c'] 54) = W9 at hb9 hx9 ⊢
      have HB := Lib.hid (HB.out.trans hb9)
      have HS := Lib.hid (HS.out.bel hb9)
      generalize wr.heap.size = g9 at hx9 ⊢
      clear k0 k1 k2 k3 k4 k5 hb9
      have k5 := cell_of_heap hx9 5
      simp only [List.getElem?_toArray, List.getElem?_cons_zero, List.getElem?_cons_succ] at k5
      clear hx9
      go_wp2_with fail
      refine (countS_at HS.out HLB.out HV1.out).mono ?_
      rintro r w1 ⟨rfl, hb⟩
      have HB := Lib.hid (HB.out.trans hb)
      clear hb k5
      go_wp2_with fail
      go_roundg (gk - 1)
      case measure => omega
      case rel => exact ⟨i + 1, _, by omega, rfl, by go_num, Lib.hid (by
        rw [HSM.out, HA.out, ← HV1.out]
        show wrap64 (_ + _) = _
        rw [w64_add, HFF.out]
        congr 1), HB⟩
    · obtain rfl : n = i := by omega
      have hfin : av = v := by
        rw [← HVV.out, HA.out, HCN.out, List.take_of_length_le (Nat.le_of_eq HN.out)]
      have HF := Lib.hid hfin
      clear hfin
      go_wp2_with fail
      go_ret
      exact ⟨ri HF.out, HB.out⟩
end Go.Proofs.YthlnjnmomnpnpaaGreatDoor
