/- Package syntax: are two programs the same? -/
import Derived.Test.YthlnjnmomnpnpaaGreatDoorYSameS
namespace Go.Proofs.YthlnjnmomnpnpaaGreatDoor
open Go.RowKit Tk Sy
set_option linter.unusedVariables false
set_option linter.unusedSimpArgs false
theorem bytes_l {s t : ByteArray} (h : s.toList = t.toList) : s = t := by
  rw [ByteArray.toList_eq, ByteArray.toList_eq] at h
  rw [← str_of s, ← str_of t, h]
theorem neq_sameDv (s : ByteArray) (n : Int) (w : World) : (binOp .neq 65 (.agg #[.string s, .int .i64 n]) (.agg #[.string s, .int .i64 n])).run Tryz.prog w = .ok (.bool false) w := by
  go_simp
theorem neq_otherDv (s s' : ByteArray) (n n' : Int) (hne : ¬ (s = s' ∧ n = n')) (w : World) : (binOp .neq 65 (.agg #[.string s, .int .i64 n]) (.agg #[.string s', .int .i64 n'])).run Tryz.prog w = .ok (.bool true) w := by
  go_simp
  intro h1 h2
  exact hne ⟨bytes_l h1, h2⟩
set_option maxHeartbeats 4000000 in
theorem eqDv_lit {p q : Option Addr} {c d : Nat} {xs ys : List Dev} {r : Bool} (h : eqv xs ys = r) (hx : xs.length ≤ 9223372036854775807) (hy : ys.length ≤ 9223372036854775807) (w : World) (H1 : Hid (DevsAt w p xs)) (H2 : Hid (DevsAt w q ys)) :
    Calls Tryz.prog 38 #[.slice p xs.length c, .slice q ys.length d] w fun e w' => e = .returned (.bool r) ∧ Bel w w' := by
  by_cases hlen : xs.length = ys.length
  · have HR := Lib.hid h
    have HLEN := Lib.hid hlen
    have e1 : ((xs.length : Int) != (ys.length : Int)) = false := by simp [hlen]
    clear h hlen
    go_enter Tryz.func38, Tryz.ntmps38
    go_wp2_with fail
    clear e1
    go_loopw [13] (fun i wr => ∃ k : Nat, k ≤ xs.length ∧ i = .int .i64 k ∧ Hid (Bel w wr ∧ ∀ j : Nat, j < k → xs[j]? = ys[j]?)) (fun i _ => xs.length - (intOf i).toNat)
    case atStart => exact ⟨0, Nat.zero_le _, rfl, Bel.refl _, fun j hj => by omega⟩
    case round =>
      obtain ⟨k, hk, rfl, HA⟩ := hrel
      by_cases hlt : k < xs.length
      · obtain ⟨⟨s, n⟩, hxk⟩ : ∃ x, xs[k]? = some x := ⟨_, List.getElem?_eq_getElem hlt⟩
        obtain ⟨⟨s', n'⟩, hyk⟩ : ∃ y, ys[k]? = some y := ⟨_, List.getElem?_eq_getElem (by rw [← HLEN.out]; exact hlt)⟩
        obtain ⟨_, b1, o1, hp, _, e1, e1'⟩ := (H1.out.bel HA.out.1) k _ hxk
        obtain ⟨_, b2, o2, hq, _, e2, e2'⟩ := (H2.out.bel HA.out.1) k _ hyk
        subst hp
        subst hq
        simp only at e1 e1' e2 e2'
        have hk' : (k : Int) < (xs.length : Int) := by omega
        have hk2 : (k : Int) < (ys.length : Int) := by have := HLEN.out; omega
        have HLT := Lib.hid hlt
        by_cases hxy : s = s' ∧ n = n'
        · have HN : Hid (∀ j : Nat, j < k + 1 → xs[j]? = ys[j]?) := Lib.hid (fun j hj => by
            by_cases e : j = k
            · rw [e, hxk, hyk, hxy.1, hxy.2]
            · exact HA.out.2 j (by omega))
          obtain ⟨rfl, rfl⟩ := hxy
          have v1 := neq_sameDv s n
          clear hxk hyk hlt
          go_wp2_with fail
          go_quiet (fail)
          go_wp2_with fail
          go_roundw
          case rel => exact ⟨k + 1, HLT.out, by go_num, HA.out.1.drewN _, HN.out⟩
          case measure => simp [intOf]; have := HLT.out; omega
        · have hne : ¬ xs = ys := fun e => hxy (by rw [e, hyk] at hxk; have h := Option.some.inj hxk; injection h with h1 h2; exact ⟨h1.symm, h2.symm⟩)
          have hrf : r = false := by rw [← HR.out]; exact eqv_no hne
          have HRF := Lib.hid hrf
          have v1 := neq_otherDv s s' n n' hxy
          clear hxk hyk hlt hne hxy hrf
          go_wp2_with fail
          go_quiet (fail)
          go_wp2_with fail
          go_ret
          exact ⟨congrArg (fun b => Ending.returned (.bool b)) HRF.out.symm, HA.out.1.drewN _⟩
      · obtain rfl : k = xs.length := by omega
        have hrt : r = true := by rw [← HR.out]; exact eqv_iff.2 (List.ext_getElem? fun j => by by_cases hj : j < xs.length; exact HA.out.2 j hj; rw [List.getElem?_eq_none (by omega), List.getElem?_eq_none (by have := HLEN.out; omega)])
        have HRT := Lib.hid hrt
        clear hrt hlt
        go_wp2_with fail
        go_ret
        exact ⟨congrArg (fun b => Ending.returned (.bool b)) HRT.out.symm, HA.out.1⟩
  · have hrf : r = false := by rw [← h]; exact eqv_no (fun e => hlen (by rw [e]))
    subst hrf
    have e1 : ((xs.length : Int) != (ys.length : Int)) = true := by simp; omega
    clear h hlen
    go_enter Tryz.func38, Tryz.ntmps38
    go_wp2_with fail
    go_ret
    exact ⟨rfl, Bel.refl _⟩
theorem neq_sameRs (s : ByteArray) (n : Int) (w : World) : (binOp .neq 67 (.agg #[.string s, .int .i64 n]) (.agg #[.string s, .int .i64 n])).run Tryz.prog w = .ok (.bool false) w := by
  go_simp
theorem neq_otherRs (s s' : ByteArray) (n n' : Int) (hne : ¬ (s = s' ∧ n = n')) (w : World) : (binOp .neq 67 (.agg #[.string s, .int .i64 n]) (.agg #[.string s', .int .i64 n'])).run Tryz.prog w = .ok (.bool true) w := by
  go_simp
  intro h1 h2
  exact hne ⟨bytes_l h1, h2⟩
set_option maxHeartbeats 4000000 in
theorem eqRs_lit {p q : Option Addr} {c d : Nat} {xs ys : List Rsc} {r : Bool} (h : eqv xs ys = r) (hx : xs.length ≤ 9223372036854775807) (hy : ys.length ≤ 9223372036854775807) (w : World) (H1 : Hid (RscsAt w p xs)) (H2 : Hid (RscsAt w q ys)) :
    Calls Tryz.prog 39 #[.slice p xs.length c, .slice q ys.length d] w fun e w' => e = .returned (.bool r) ∧ Bel w w' := by
  by_cases hlen : xs.length = ys.length
  · have HR := Lib.hid h
    have HLEN := Lib.hid hlen
    have e1 : ((xs.length : Int) != (ys.length : Int)) = false := by simp [hlen]
    clear h hlen
    go_enter Tryz.func39, Tryz.ntmps39
    go_wp2_with fail
    clear e1
    go_loopw [13] (fun i wr => ∃ k : Nat, k ≤ xs.length ∧ i = .int .i64 k ∧ Hid (Bel w wr ∧ ∀ j : Nat, j < k → xs[j]? = ys[j]?)) (fun i _ => xs.length - (intOf i).toNat)
    case atStart => exact ⟨0, Nat.zero_le _, rfl, Bel.refl _, fun j hj => by omega⟩
    case round =>
      obtain ⟨k, hk, rfl, HA⟩ := hrel
      by_cases hlt : k < xs.length
      · obtain ⟨⟨s, n⟩, hxk⟩ : ∃ x, xs[k]? = some x := ⟨_, List.getElem?_eq_getElem hlt⟩
        obtain ⟨⟨s', n'⟩, hyk⟩ : ∃ y, ys[k]? = some y := ⟨_, List.getElem?_eq_getElem (by rw [← HLEN.out]; exact hlt)⟩
        obtain ⟨_, b1, o1, hp, _, e1, e1'⟩ := (H1.out.bel HA.out.1) k _ hxk
        obtain ⟨_, b2, o2, hq, _, e2, e2'⟩ := (H2.out.bel HA.out.1) k _ hyk
        subst hp
        subst hq
        simp only at e1 e1' e2 e2'
        have hk' : (k : Int) < (xs.length : Int) := by omega
        have hk2 : (k : Int) < (ys.length : Int) := by have := HLEN.out; omega
        have HLT := Lib.hid hlt
        by_cases hxy : s = s' ∧ n = n'
        · have HN : Hid (∀ j : Nat, j < k + 1 → xs[j]? = ys[j]?) := Lib.hid (fun j hj => by
            by_cases e : j = k
            · rw [e, hxk, hyk, hxy.1, hxy.2]
            · exact HA.out.2 j (by omega))
          obtain ⟨rfl, rfl⟩ := hxy
          have v1 := neq_sameRs s n
          clear hxk hyk hlt
          go_wp2_with fail
          go_quiet (fail)
          go_wp2_with fail
          go_roundw
          case rel => exact ⟨k + 1, HLT.out, by go_num, HA.out.1.drewN _, HN.out⟩
          case measure => simp [intOf]; have := HLT.out; omega
        · have hne : ¬ xs = ys := fun e => hxy (by rw [e, hyk] at hxk; have h := Option.some.inj hxk; injection h with h1 h2; exact ⟨h1.symm, h2.symm⟩)
          have hrf : r = false := by rw [← HR.out]; exact eqv_no hne
          have HRF := Lib.hid hrf
          have v1 := neq_otherRs s s' n n' hxy
          clear hxk hyk hlt hne hxy hrf
          go_wp2_with fail
          go_quiet (fail)
          go_wp2_with fail
          go_ret
          exact ⟨congrArg (fun b => Ending.returned (.bool b)) HRF.out.symm, HA.out.1.drewN _⟩
      · obtain rfl : k = xs.length := by omega
        have hrt : r = true := by rw [← HR.out]; exact eqv_iff.2 (List.ext_getElem? fun j => by by_cases hj : j < xs.length; exact HA.out.2 j hj; rw [List.getElem?_eq_none (by omega), List.getElem?_eq_none (by have := HLEN.out; omega)])
        have HRT := Lib.hid hrt
        clear hrt hlt
        go_wp2_with fail
        go_ret
        exact ⟨congrArg (fun b => Ending.returned (.bool b)) HRT.out.symm, HA.out.1⟩
  · have hrf : r = false := by rw [← h]; exact eqv_no (fun e => hlen (by rw [e]))
    subst hrf
    have e1 : ((xs.length : Int) != (ys.length : Int)) = true := by simp; omega
    clear h hlen
    go_enter Tryz.func39, Tryz.ntmps39
    go_wp2_with fail
    go_ret
    exact ⟨rfl, Bel.refl _⟩
theorem eqv_tsk (e f : Tsk) : eqv e f = ((e.name.toList == f.name.toList) && ((e.handler == f.handler) && ((e.hart == f.hart) && ((e.prio == f.prio) && ((e.line == f.line) && eqv e.body f.body))))) := by
  obtain ⟨a1, a2, a3, a4, a5, a6⟩ := e
  obtain ⟨b1, b2, b3, b4, b5, b6⟩ := f
  rw [str_beq, Bool.eq_iff_iff]
  simp only [Bool.and_eq_true, beq_iff_eq, eqv_iff]
  constructor
  · intro h
    injection h with h1 h2 h3 h4 h5 h6
    exact ⟨h1, h2, h3, h4, h5, h6⟩
  · rintro ⟨rfl, rfl, rfl, rfl, rfl, rfl⟩
    rfl
def SmT (k : Nat) : Prop := ∀ (w : World) (p q : Option Addr) (c c' : Nat) (e f : Tsk) (r : Bool), eqv e f = r → SAt w p e.body → SAt w q f.body → WfT e → WfT f →
  Calls Tryz.prog 41 #[tskV p c e, tskV q c' f] w fun e w' => e = .returned (.bool r) ∧ Bel w w'
set_option maxRecDepth 100000 in
set_option maxHeartbeats 16000000 in
theorem smT_any (k : Nat) : SmT k := by
  intro w p q c c' e f r hr hE hF hwe hwf
  rw [eqv_tsk] at hr
  have hl1 := hwe.body
  have hl2 := hwf.body
  obtain ⟨b6, hb6⟩ : ∃ b, eqv e.body f.body = b := ⟨_, rfl⟩
  rw [hb6] at hr
  have HC : Hid (∀ w', Bel w w' → Calls Tryz.prog 68 #[.slice p e.body.length c, .slice q f.body.length c', .func (.func 69) #[] #[]] w' fun e w'' => e = .returned (.bool b6) ∧ Bel w' w'') := Lib.hid (fun w' hb => eqSt_at hb6 (hE.bel hb) (hF.bel hb) hl1 hl2)
  obtain ⟨e1, e2, e3, e4, e5, e6⟩ := e
  obtain ⟨f1, f2, f3, f4, f5, f6⟩ := f
  simp only at hr HC hl1 hl2
  show Calls Tryz.prog 41 #[.agg #[.string e1, .bool e2, .int .i64 e3, .int .i64 e4, .int .i64 e5, .slice p e6.length c], .agg #[.string f1, .bool f2, .int .i64 f3, .int .i64 f4, .int .i64 f5, .slice q f6.length c']] w _
  generalize e6.length = n1 at HC hl1 ⊢
  generalize f6.length = n2 at HC hl2 ⊢
  clear hb6 hE hF hwe hwf
  obtain ⟨b1, hb1⟩ : ∃ b, (e1.toList == f1.toList) = b := ⟨_, rfl⟩
  obtain ⟨b2, hb2⟩ : ∃ b, (e2 == f2) = b := ⟨_, rfl⟩
  obtain ⟨b3, hb3⟩ : ∃ b, (e3 == f3) = b := ⟨_, rfl⟩
  obtain ⟨b4, hb4⟩ : ∃ b, (e4 == f4) = b := ⟨_, rfl⟩
  obtain ⟨b5, hb5⟩ : ∃ b, (e5 == f5) = b := ⟨_, rfl⟩
  rw [hb1, hb2, hb3, hb4, hb5] at hr
  have HR := Lib.hid hr
  clear hr
  have hq : b1 = false ∨ (b1 = true ∧ b2 = false) ∨ (b1 = true ∧ b2 = true ∧ b3 = false) ∨ (b1 = true ∧ b2 = true ∧ b3 = true ∧ b4 = false) ∨ (b1 = true ∧ b2 = true ∧ b3 = true ∧ b4 = true ∧ b5 = false) ∨ (b1 = true ∧ b2 = true ∧ b3 = true ∧ b4 = true ∧ b5 = true) := by clear hb1 hb2 hb3 hb4 hb5 HC HR; cases b1 <;> cases b2 <;> cases b3 <;> cases b4 <;> cases b5 <;> simp
  rcases hq with rfl | ⟨rfl, rfl⟩ | ⟨rfl, rfl, rfl⟩ | ⟨rfl, rfl, rfl, rfl⟩ | ⟨rfl, rfl, rfl, rfl, rfl⟩ | ⟨rfl, rfl, rfl, rfl, rfl⟩
  all_goals
    go_enter Tryz.func41, Tryz.ntmps41
    have hb0 := ((Bel.refl w).alloc #[.string e1, .bool e2, .int .i64 e3, .int .i64 e4, .int .i64 e5, .slice p n1 c] 54).alloc #[.string f1, .bool f2, .int .i64 f3, .int .i64 f4, .int .i64 f5, .slice q n2 c'] 54
    go_wp2_with (go_at_call 68; refine (HC.out _ hb0).mono ?_; rintro r' w' ⟨rfl, hb11⟩; have hb0 := hb0.trans hb11)
    go_ret
    exact ⟨rb (by rw [← HR.out]; rfl), hb0⟩
set_option maxRecDepth 100000 in
set_option maxHeartbeats 8000000 in
theorem eqT_any {k : Nat} (H : SmT k) (w : World) (p0 q0 : Option Addr) (c c' : Nat) (l m : List Tsk) (r : Bool) (hr : eqv l m = r) (hE : TsksAt w p0 l) (hF : TsksAt w q0 m) (hl1 : l.length ≤ 9223372036854775807) (hl2 : m.length ≤ 9223372036854775807) :
    Calls Tryz.prog 40 #[.slice p0 l.length c, .slice q0 m.length c', .func (.func 41) #[] #[]] w fun e w' => e = .returned (.bool r) ∧ Bel w w' := by
  obtain ⟨n1, hn1⟩ : ∃ n, l.length = n := ⟨_, rfl⟩
  obtain ⟨n2, hn2⟩ : ∃ n, m.length = n := ⟨_, rfl⟩
  rw [hn1] at hl1 ⊢
  rw [hn2] at hl2 ⊢
  by_cases hnn : n1 = n2
  · subst hnn
    have HH := Lib.hid H
    have HE := Lib.hid hE
    have HF := Lib.hid hF
    have HR := Lib.hid hr
    have HN1 := Lib.hid hn1
    have HN2 := Lib.hid hn2
    have q1 : ((n1 : Int) != (n1 : Int)) = false := bne_self_eq_false _
    clear H hE hF hr hn1 hn2
    go_enter Tryz.func40, Tryz.ntmps40
    go_wp2_with fail
    go_loopg [17] n1 (fun gk ii wr => ∃ i : Nat, i + gk = n1 ∧ ii = .int .i64 i ∧ Hid (∀ (j : Nat) (x y : Tsk), j < i → l[j]? = some x → m[j]? = some y → x = y) ∧ Hid (Bel w wr))
    case atStart => exact ⟨0, by omega, rfl, Lib.hid (fun j x y h => by omega), Lib.hid (Bel.refl _)⟩
    case round =>
      obtain ⟨i, hig, rfl, HA, HB⟩ := hrel
      by_cases hlt : i < n1
      · obtain ⟨x, hx⟩ : ∃ x, l[i]? = some x := ⟨_, List.getElem?_eq_getElem (by rw [HN1.out]; exact hlt)⟩
        obtain ⟨y, hy⟩ : ∃ x, m[i]? = some x := ⟨_, List.getElem?_eq_getElem (by rw [HN2.out]; exact hlt)⟩
        obtain ⟨hwx, bx2, o, qx, cx, rfl, hbl, k0, k1, k2, k3, k4, k5, hEx⟩ := (HE.out.bel HB.out) i x hx
        obtain ⟨hwy, by2, o2, qy, cy, rfl, hbl2, z0, z1, z2, z3, z4, z5, hEy⟩ := (HF.out.bel HB.out) i y hy
        have HX := Lib.hid hx
        have HY := Lib.hid hy
        have HWX := Lib.hid hwx
        have HEX := Lib.hid hEx
        have HWY := Lib.hid hwy
        have HEY := Lib.hid hEy
        clear hwx hwy hEx hEy
        have hk1 : (i : Int) < n1 := by omega
        clear hx hy
        go_upto_region 6 with (fail)
        have hb9 := (Bel.refl wr).alloc (#[.string x.name, .bool x.handler, .int .i64 x.hart, .int .i64 x.prio, .int .i64 x.line, .slice qx x.body.length cx] : Array Value) 54
        have hx9 := heap_alloc_new wr (.cells (#[.string x.name, .bool x.handler, .int .i64 x.hart, .int .i64 x.prio, .int .i64 x.line, .slice qx x.body.length cx] : Array Value) 54)
        have y9 := fun (u : Nat) (v : Value) (h : wr.cell? ⟨by2, u, none⟩ = some v) => (hb9.cell (p := ⟨by2, u, none⟩) hbl2).trans h
        have z0' := y9 _ _ z0
        have z1' := y9 _ _ z1
        have z2' := y9 _ _ z2
        have z3' := y9 _ _ z3
        have z4' := y9 _ _ z4
        have z5' := y9 _ _ z5
        generalize wr.alloc (.cells #[.string x.name, .bool x.handler, .int .i64 x.hart, .int .i64 x.prio, .int .i64 x.line, .slice qx x.body.length cx] 54) = W8 at hb9 hx9 z0' z1' z2' z3' z4' z5' ⊢
        have HB8 := Lib.hid (HB.out.trans hb9)
        have HR8 := Lib.hid hb9
        generalize wr.heap.size = g8 at hx9 ⊢
        have HX8 := Lib.hid hx9
        clear k0 k1 k2 k3 k4 k5 z0 z1 z2 z3 z4 z5 hb9 hx9 y9
        go_upto_region 7 with (fail)
        have hb9 := (Bel.refl W8).alloc (#[.string y.name, .bool y.handler, .int .i64 y.hart, .int .i64 y.prio, .int .i64 y.line, .slice qy y.body.length cy] : Array Value) 54
        have hy9 := heap_alloc_new W8 (.cells (#[.string y.name, .bool y.handler, .int .i64 y.hart, .int .i64 y.prio, .int .i64 y.line, .slice qy y.body.length cy] : Array Value) 54)
        generalize W8.alloc (.cells #[.string y.name, .bool y.handler, .int .i64 y.hart, .int .i64 y.prio, .int .i64 y.line, .slice qy y.body.length cy] 54) = W7 at hb9 hy9 ⊢
        generalize W8.heap.size = g7 at hy9 ⊢
        have HB7 := Lib.hid (HB8.out.trans hb9)
        have HR7 := Lib.hid (HR8.out.trans hb9)
        have hx9 := hb9.stays HX8.out
        clear hb9 z0' z1' z2' z3' z4' z5'
        have k0 := cell_of_heap hx9 0
        have k1 := cell_of_heap hx9 1
        have k2 := cell_of_heap hx9 2
        have k3 := cell_of_heap hx9 3
        have k4 := cell_of_heap hx9 4
        have k5 := cell_of_heap hx9 5
        have z0 := cell_of_heap hy9 0
        have z1 := cell_of_heap hy9 1
        have z2 := cell_of_heap hy9 2
        have z3 := cell_of_heap hy9 3
        have z4 := cell_of_heap hy9 4
        have z5 := cell_of_heap hy9 5
        simp only [List.getElem?_toArray, List.getElem?_cons_zero, List.getElem?_cons_succ] at k0 k1 k2 k3 k4 k5 z0 z1 z2 z3 z4 z5
        clear hx9 hy9
        obtain ⟨rb', hrb⟩ : ∃ b, eqv x y = b := ⟨_, rfl⟩
        have HRB := Lib.hid hrb
        clear hrb
        go_wp2_with (go_at_call 41; refine (HH.out _ qx qy cx cy x y rb' HRB.out (HEX.out.bel HR7.out) (HEY.out.bel HR7.out) HWX.out HWY.out).mono ?_)
        rintro r' w2 ⟨rfl, hb⟩
        have HB := Lib.hid (HB7.out.trans hb)
        clear hb k0 k1 k2 k3 k4 k5 z0 z1 z2 z3 z4 z5
        cases rb' with
        | true =>
          have hxy := eqv_iff.1 HRB.out
          have HA' : Hid (∀ (j : Nat) (x y : Tsk), j < i + 1 → l[j]? = some x → m[j]? = some y → x = y) := Lib.hid (fun j x' y' hj h1 h2 => by
            by_cases hji : j = i
            · subst hji
              rw [HX.out] at h1
              rw [HY.out] at h2
              rw [← Option.some.inj h1, ← Option.some.inj h2]
              exact hxy
            · exact HA.out j x' y' (by omega) h1 h2)
          clear hxy
          go_wp2_with fail
          go_roundg (gk - 1)
          case measure => omega
          case rel => exact ⟨i + 1, by omega, by go_num, HA', HB⟩
        | false =>
          have hne : r = false := by
            rw [← HR.out]
            apply eqv_no
            intro hlm
            subst hlm
            have h1 := HX.out
            rw [HY.out] at h1
            have h2 := Option.some.inj h1
            have h3 := HRB.out
            rw [h2, eqv_iff.2 rfl] at h3
            cases h3
          have HNE := Lib.hid hne
          clear hne
          go_wp2_with fail
          go_ret
          exact ⟨rb HNE.out.symm, HB.out⟩
      · obtain rfl : n1 = i := by omega
        have hrt : r = true := by
          rw [← HR.out]
          exact eqv_iff.2 (eqv_list (by rw [HN1.out, HN2.out]) (fun j x y h1 h2 => HA.out j x y (by have := (List.getElem?_eq_some_iff.1 h1).1; rw [HN1.out] at this; exact this) h1 h2))
        have HRT := Lib.hid hrt
        clear hrt
        go_wp2_with fail
        go_ret
        exact ⟨rb HRT.out.symm, HB.out⟩
  · have hne : r = false := by
      rw [← hr]
      apply eqv_no
      intro hlm
      exact hnn (by rw [← hn1, ← hn2, hlm])
    have HNE := Lib.hid hne
    have q1 : ((n1 : Int) != (n2 : Int)) = true := by rw [bne_iff_ne]; omega
    clear hr hE hF hn1 hn2 H hne
    go_enter Tryz.func40, Tryz.ntmps40
    go_wp2_with fail
    go_ret
    exact ⟨rb HNE.out.symm, Bel.refl w⟩
theorem eqv_prg (e f : Prg) : eqv e f = ((e.harts == f.harts) && (eqv e.devs f.devs && (eqv e.rscs f.rscs && eqv e.tasks f.tasks))) := by
  obtain ⟨a1, a2, a3, a4⟩ := e
  obtain ⟨b1, b2, b3, b4⟩ := f
  rw [Bool.eq_iff_iff]
  simp only [Bool.and_eq_true, beq_iff_eq, eqv_iff]
  constructor
  · intro h
    injection h with h1 h2 h3 h4
    exact ⟨h1, h2, h3, h4⟩
  · rintro ⟨rfl, rfl, rfl, rfl⟩
    rfl
set_option maxRecDepth 100000 in
set_option maxHeartbeats 16000000 in
theorem same_lit {e f : Prg} {r : Bool} (hr : eqv e f = r) (w : World) {p1 p2 p3 q1 q2 q3 : Option Addr} {c1 c2 c3 d1 d2 d3 : Nat} (hE : PrgAt w p1 p2 p3 e) (hF : PrgAt w q1 q2 q3 f) :
    Calls Tryz.prog 12 #[prgV p1 c1 p2 c2 p3 c3 e, prgV q1 d1 q2 d2 q3 d3 f] w fun e w' => e = .returned (.bool r) ∧ Bel w w' := by
  rw [eqv_prg] at hr
  obtain ⟨b2, hb2⟩ : ∃ b, eqv e.devs f.devs = b := ⟨_, rfl⟩
  obtain ⟨b3, hb3⟩ : ∃ b, eqv e.rscs f.rscs = b := ⟨_, rfl⟩
  obtain ⟨b4, hb4⟩ : ∃ b, eqv e.tasks f.tasks = b := ⟨_, rfl⟩
  rw [hb2, hb3, hb4] at hr
  have HC1 : Hid (∀ w', Bel w w' → Calls Tryz.prog 38 #[.slice p1 e.devs.length c1, .slice q1 f.devs.length d1] w' fun e w'' => e = .returned (.bool b2) ∧ Bel w' w'') := Lib.hid (fun w' hb => eqDv_lit hb2 hE.ld hF.ld w' (Lib.hid (hE.devs.bel hb)) (Lib.hid (hF.devs.bel hb)))
  have HC2 : Hid (∀ w', Bel w w' → Calls Tryz.prog 39 #[.slice p2 e.rscs.length c2, .slice q2 f.rscs.length d2] w' fun e w'' => e = .returned (.bool b3) ∧ Bel w' w'') := Lib.hid (fun w' hb => eqRs_lit hb3 hE.lr hF.lr w' (Lib.hid (hE.rscs.bel hb)) (Lib.hid (hF.rscs.bel hb)))
  have HC3 : Hid (∀ w', Bel w w' → Calls Tryz.prog 40 #[.slice p3 e.tasks.length c3, .slice q3 f.tasks.length d3, .func (.func 41) #[] #[]] w' fun e w'' => e = .returned (.bool b4) ∧ Bel w' w'') := Lib.hid (fun w' hb => eqT_any (smT_any 0) w' p3 q3 c3 d3 e.tasks f.tasks b4 hb4 (hE.tasks.bel hb) (hF.tasks.bel hb) hE.lt hF.lt)
  obtain ⟨e1, e2, e3, e4⟩ := e
  obtain ⟨f1, f2, f3, f4⟩ := f
  simp only at hr HC1 HC2 HC3
  show Calls Tryz.prog 12 #[.agg #[.int .i64 e1, .slice p1 e2.length c1, .slice p2 e3.length c2, .slice p3 e4.length c3], .agg #[.int .i64 f1, .slice q1 f2.length d1, .slice q2 f3.length d2, .slice q3 f4.length d3]] w _
  generalize e2.length = n1 at HC1 ⊢
  generalize f2.length = m1 at HC1 ⊢
  generalize e3.length = n2 at HC2 ⊢
  generalize f3.length = m2 at HC2 ⊢
  generalize e4.length = n3 at HC3 ⊢
  generalize f4.length = m3 at HC3 ⊢
  clear hb2 hb3 hb4 hE hF
  obtain ⟨b1, hb1⟩ : ∃ b, (e1 == f1) = b := ⟨_, rfl⟩
  rw [hb1] at hr
  have HR := Lib.hid hr
  clear hr
  have hq : b1 = false ∨ (b1 = true ∧ b2 = false) ∨ (b1 = true ∧ b2 = true ∧ b3 = false) ∨ (b1 = true ∧ b2 = true ∧ b3 = true) := by clear hb1 HC1 HC2 HC3 HR; cases b1 <;> cases b2 <;> cases b3 <;> simp
  rcases hq with rfl | ⟨rfl, rfl⟩ | ⟨rfl, rfl, rfl⟩ | ⟨rfl, rfl, rfl⟩
  all_goals
    go_enter Tryz.func12, Tryz.ntmps12
    go_upto_region 1 with (fail)
    have hA := (heap_alloc_old (w.alloc (.cells #[.int .i64 e1, .slice p1 n1 c1, .slice p2 n2 c2, .slice p3 n3 c3] 28)) (.cells #[.int .i64 f1, .slice q1 m1 d1, .slice q2 m2 d2, .slice q3 m3 d3] 28) (lt_of_heap (heap_alloc_new w _))).trans (heap_alloc_new w (.cells #[.int .i64 e1, .slice p1 n1 c1, .slice p2 n2 c2, .slice p3 n3 c3] 28))
    have hB := heap_alloc_new (w.alloc (.cells #[.int .i64 e1, .slice p1 n1 c1, .slice p2 n2 c2, .slice p3 n3 c3] 28)) (.cells #[.int .i64 f1, .slice q1 m1 d1, .slice q2 m2 d2, .slice q3 m3 d3] 28)
    have hz : (w.alloc (.cells #[.int .i64 e1, .slice p1 n1 c1, .slice p2 n2 c2, .slice p3 n3 c3] 28)).heap.size = w.heap.size + 1 := by unfold World.alloc; exact Array.size_push _
    rw [hz] at hB
    have hb0 := ((Bel.refl w).alloc #[.int .i64 e1, .slice p1 n1 c1, .slice p2 n2 c2, .slice p3 n3 c3] 28).alloc #[.int .i64 f1, .slice q1 m1 d1, .slice q2 m2 d2, .slice q3 m3 d3] 28
    generalize (w.alloc (.cells #[.int .i64 e1, .slice p1 n1 c1, .slice p2 n2 c2, .slice p3 n3 c3] 28)).alloc (.cells #[.int .i64 f1, .slice q1 m1 d1, .slice q2 m2 d2, .slice q3 m3 d3] 28) = W at hA hB hb0 ⊢
    clear hz
    have HXA := Lib.hid hA
    have HXB := Lib.hid hB
    have HB0 := Lib.hid hb0
    have u0 := cell_of_heap hA 0
    have u1 := cell_of_heap hA 1
    have x0 := cell_of_heap hB 0
    have x1 := cell_of_heap hB 1
    simp only [List.getElem?_toArray, List.getElem?_cons_zero, List.getElem?_cons_succ] at u0 u1 x0 x1
    clear hA hB hb0
    go_wp2_with (first
      | (go_at_call 38; refine (HC1.out _ HB0.out).mono ?_; rintro r' w1 ⟨rfl, hb11⟩; have HB0 := Lib.hid (HB0.out.trans hb11); have HXA := Lib.hid (hb11.stays HXA.out); have HXB := Lib.hid (hb11.stays HXB.out); have u2 : w1.cell? ⟨w.heap.size, 2, none⟩ = some (.slice p2 n2 c2) := cell_of_heap HXA.out 2; have x2 : w1.cell? ⟨w.heap.size + 1, 2, none⟩ = some (.slice q2 m2 d2) := cell_of_heap HXB.out 2; clear hb11 u0 u1 x0 x1)
      | (go_at_call 39; refine (HC2.out _ HB0.out).mono ?_; rintro r' w2 ⟨rfl, hb12⟩; have HB0 := Lib.hid (HB0.out.trans hb12); have HXA := Lib.hid (hb12.stays HXA.out); have HXB := Lib.hid (hb12.stays HXB.out); have u3 : w2.cell? ⟨w.heap.size, 3, none⟩ = some (.slice p3 n3 c3) := cell_of_heap HXA.out 3; have x3 : w2.cell? ⟨w.heap.size + 1, 3, none⟩ = some (.slice q3 m3 d3) := cell_of_heap HXB.out 3; clear hb12 u2 x2)
      | (go_at_call 40; refine (HC3.out _ HB0.out).mono ?_; rintro r' w3 ⟨rfl, hb13⟩; have HB0 := Lib.hid (HB0.out.trans hb13); clear hb13 u3 x3))
    go_ret
    exact ⟨rb (by rw [← HR.out]; rfl), HB0.out⟩
end Go.Proofs.YthlnjnmomnpnpaaGreatDoor
