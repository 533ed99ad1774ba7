/- What Writes and Reads of package code answer. -/
import Derived.Test.YtphnagkicboglaaDRightW
namespace Go.Proofs.Ytphnagkicboglaa
open Go.RowKit Rv
set_option linter.unusedVariables false
theorem right_val {op d a b n : Int} {r : Bool} (hw : Ins.wf ⟨op, d, a, b, n⟩) (h : right ⟨op, d, a, b, n⟩ = r) (w : World) :
    Calls Try.prog 15 #[.agg #[.int .i64 op, .int .i64 d, .int .i64 a, .int .i64 b, .int .i64 n]] w fun e w' => e = .returned (.bool r) ∧ Both w w' := right_lit right_is hw h w
set_option maxHeartbeats 4000000 in
theorem writes_is : WritesIs := by
  intro i w hi
  obtain ⟨op, d, a, b, n⟩ := i
  have HW := Lib.hid hi
  clear hi
  show Calls _ _ #[.agg #[.int .i64 op, .int .i64 d, .int .i64 a, .int .i64 b, .int .i64 n]] w fun e w' => e = .returned (.int .i64 (if right ⟨op, d, a, b, n⟩ then d else 0)) ∧ Both w w'
  obtain ⟨r, hr⟩ : ∃ r, right ⟨op, d, a, b, n⟩ = r := ⟨_, rfl⟩
  rw [hr]
  have HR := Lib.hid hr
  clear hr
  cases r
  · rw [if_neg (by decide)]
    go_enter Try.func22, Try.ntmps22
    go_wp2_with fail
    refine (right_val HW.out HR.out _).mono ?_
    rintro e W1 ⟨rfl, hb1⟩
    have HB1 := Lib.hid (((Both.refl w).alloc _ _).trans hb1)
    clear hb1
    go_wp2
    go_ret
    exact ⟨rfl, HB1.out⟩
  · rw [if_pos rfl]
    go_enter Try.func22, Try.ntmps22
    go_wp2_with fail
    refine (right_val HW.out HR.out _).mono ?_
    rintro e W1 ⟨rfl, hb1⟩
    have hri := (hb1.1.block w.heap.size (by simp)).trans (heap_alloc_new _ _)
    have c1 := cell_of_heap hri 1
    simp only [List.getElem?_toArray, List.getElem?_cons_zero, List.getElem?_cons_succ] at c1
    have HB1 := Lib.hid (((Both.refl w).alloc _ _).trans hb1)
    clear hb1 hri
    go_wp2
    go_ret
    exact ⟨rfl, HB1.out⟩
theorem wpList_append_run {P : Program} {w w' : World} {ops : Array Oper} {rest : List Oper} {o : Oper} {a : Act} {Q : Exit → Act → World → Prop} (hgd : o.guard = none) (s x : Operand) (t : TypeId)
    (ho : o.op = .call { callee := .builtin .append, args := #[s, x], argTypes := #[t, t] }) (sv xv r : Value) (hs : a.eval s = sv) (hx : a.eval x = xv)
    (hrun : (Builtin.append_ #[t, t] o.type #[sv, xv]).run P w = .ok r w') (h : wpList P ops Q rest (a.put o.dst r) w') : wpList P ops Q (o :: rest) a w := by
  refine wpList_plain hgd fun K hK => ?_
  unfold Oper.wp
  simp [execOp, ho, resolve, invoke, builtin, hs, hx, hrun, Result.andThen]
  exact hK _ _ h
theorem int_info : ∃ i : TypeInfo, Try.prog.info? 3 = some i ∧ i.zero = some (.int .i64 0) ∧ i.size = 1 ∧ i.bytes = 8 := ⟨(Try.prog.info? 3).get (by kernel_rfl), by kernel_rfl, by kernel_rfl, by kernel_rfl, by kernel_rfl⟩
/-- an int goes behind one that lies in a row of the call's own -/
theorem append_two (W : World) (B c : Nat) (a b : Int) (ty : TypeId) (h1 : 1 ≤ c) (xb : Nat) (hB : W.heap[B]? = some (.cells (#[.int .i64 a] ++ Builtin.zeroCells #[.int .i64 0] (c - 1)) 3 (0, 0))) (hx : W.cell? ⟨xb, 0, none⟩ = some (.int .i64 b)) (w : World) (hw : Both w W) (hwB : w.heap.size ≤ B) :
    ∃ p c' W', (Builtin.append_ #[33, 33] ty #[.slice (some ⟨B, 0, none⟩) 1 c, .slice (some ⟨xb, 0, none⟩) 1 1]).run Try.prog W = .ok (.slice (some p) 2 c') W' ∧ p.spot = none ∧ W'.cell? ⟨p.block, p.off + 0, none⟩ = some (.int .i64 a) ∧ W'.cell? ⟨p.block, p.off + 1, none⟩ = some (.int .i64 b) ∧ Both w W' := by
  obtain ⟨i, hi, hz, hs, hby⟩ := int_info
  have hnews : ∀ j u, [Value.int .i64 b][j]? = some u → W.cell? ((⟨xb, 0, none⟩ : Addr).add j) = some u := by
    intro j u hj
    match j, hj with
    | 0, hj => rw [← hj]; exact hx
  have hc0 : W.cell? ⟨B, 0, none⟩ = some (.int .i64 a) := by
    rw [cell_of_heap hB]
    exact Array.getElem?_append_left (by show 0 < 1; omega)
  by_cases h2 : 2 ≤ c
  · have hsz : (Builtin.zeroCells #[Value.int .i64 0] (c - 1)).size = c - 1 := by rw [size_zeroCells]; simp
    have hc1 : ∃ u, W.cell? ⟨B, 1, none⟩ = some u := by
      rw [cell_of_heap hB]
      refine ⟨_, Array.getElem?_eq_getElem ?_⟩
      simp only [Array.size_append, hsz]
      show 1 < 1 + (c - 1)
      omega
    obtain ⟨u, hu⟩ := hc1
    have hrun := run_append_room_cells (P := Try.prog) (w := W) 33 ty 3 i Try.underlying33 hi B 0 1 c ⟨xb, 0, none⟩ 1 1 [.int .i64 b] (by rw [hs]; rfl) hnews (by intro u hu; simp at hu; subst hu; rfl) (by omega)
      (by intro j hj; rw [hs]; have : j = 0 := by simpa using hj
          subst this; simp only [Nat.zero_add, Nat.one_mul, Nat.add_zero]; rw [hu]; rfl)
      (by intro j hj; exact frozen_of_heap hB _)
    rw [hs] at hrun
    refine ⟨_, _, _, hrun, rfl, ?_, ?_, ?_⟩
    · show (W.setCell ⟨B, 0 + 1 * 1, none⟩ (.int .i64 b)).cell? ⟨B, 0, none⟩ = _
      rw [World.cell?_setCell_other _ _ _ _ (by intro h; cases h)]
      exact hc0
    · show (W.setCell ⟨B, 1, none⟩ (.int .i64 b)).cell? ⟨B, 1, none⟩ = _
      exact World.cell?_setCell_same _ _ _ hu
    · show Both w (W.setCell ⟨B, 0 + 1 * 1, none⟩ (.int .i64 b))
      exact hw.setCell hwB _
  · obtain rfl : c = 1 := by omega
    have hrun := run_append_grow (P := Try.prog) (w := W) 33 ty 3 i (.int .i64 0) Try.underlying33 hi hz ⟨B, 0, none⟩ 1 1 [.int .i64 a] (by rw [hs]; rfl)
      (by intro j u hj
          match j, hj with
          | 0, hj => rw [← hj]; exact hc0)
      ⟨xb, 0, none⟩ 1 1 [.int .i64 b] (by rw [hs]; rfl) hnews (by omega) (by omega) (by rw [hby]; decide)
    refine ⟨_, _, _, hrun, rfl, ?_, ?_, ?_⟩
    · exact (World.cell?_alloc_new W.drew _ _ 0).trans (Array.getElem?_append_left (by show 0 < 2; omega))
    · exact (World.cell?_alloc_new W.drew _ _ 1).trans (Array.getElem?_append_left (by show 1 < 2; omega))
    · exact hw.drew.alloc _ _
theorem row_of_two {a b : Int} {w W' : World} {p : Addr} {c : Nat} (hs : p.spot = none) (h0 : W'.cell? ⟨p.block, p.off + 0, none⟩ = some (.int .i64 a)) (h1 : W'.cell? ⟨p.block, p.off + 1, none⟩ = some (.int .i64 b)) (hb : Both w W') : IntRow [a, b] w (.returned (.slice (some p) 2 c)) W' := by
  refine ⟨some p, c, rfl, ?_, hb⟩
  intro j x hj
  refine ⟨p.block, p.off, by cases p; simp only at hs; subst hs; rfl, ?_⟩
  match j, hj with
  | 0, hj => obtain rfl := Option.some.inj hj; exact h0
  | 1, hj => obtain rfl := Option.some.inj hj; exact h1
theorem row_of_one {a : Int} {w W' : World} {B c : Nat} (h0 : W'.cell? ⟨B, 0, none⟩ = some (.int .i64 a)) (hb : Both w W') : IntRow [a] w (.returned (.slice (some ⟨B, 0, none⟩) 1 c)) W' := by
  refine ⟨_, c, rfl, ?_, hb⟩
  intro j x hj
  refine ⟨B, 0, rfl, ?_⟩
  match j, hj with
  | 0, hj => obtain rfl := Option.some.inj hj; exact h0
theorem row_of_none {w W' : World} (hb : Both w W') : IntRow [] w (.returned (.slice none 0 0)) W' := ⟨none, 0, rfl, fun j x hj => by simp at hj, hb⟩
set_option maxHeartbeats 4000000 in
theorem reads_wrong (op d a b n : Int) (hi : Ins.wf ⟨op, d, a, b, n⟩) (hr : right ⟨op, d, a, b, n⟩ = false) (w : World) :
    Calls Try.prog 20 #[.agg #[.int .i64 op, .int .i64 d, .int .i64 a, .int .i64 b, .int .i64 n]] w (IntRow [] w) := by
  have HW := Lib.hid hi
  have HR := Lib.hid hr
  clear hi hr
  go_enter Try.func20, Try.ntmps20
  go_wp2_with fail
  refine (right_val HW.out HR.out _).mono ?_
  rintro e W1 ⟨rfl, hb1⟩
  have HB1 := Lib.hid (((Both.refl w).alloc _ _).trans hb1)
  clear hb1
  go_wp2
  go_ret
  exact row_of_none HB1.out
set_option maxHeartbeats 4000000 in
theorem reads_empty (op d a b n : Int) (hi : Ins.wf ⟨op, d, a, b, n⟩) (hr : right ⟨op, d, a, b, n⟩ = true) (ha : (a != 0) = false) (hb : (b != 0) = false) (w : World) :
    Calls Try.prog 20 #[.agg #[.int .i64 op, .int .i64 d, .int .i64 a, .int .i64 b, .int .i64 n]] w (IntRow [] w) := by
  have HW := Lib.hid hi
  have HR := Lib.hid hr
  clear hi hr
  go_enter Try.func20, Try.ntmps20
  go_wp2_with fail
  refine (right_val HW.out HR.out _).mono ?_
  rintro e W1 ⟨rfl, hb1⟩
  have hri := (hb1.1.block w.heap.size (by simp)).trans (heap_alloc_new _ _)
  have hli : w.heap.size < W1.heap.size := by have := hb1.1.size; simp at this; omega
  have c2 := cell_of_heap hri 2
  have c3 := cell_of_heap hri 3
  simp only [List.getElem?_toArray, List.getElem?_cons_zero, List.getElem?_cons_succ] at c2 c3
  have HB1 := Lib.hid (((Both.refl w).alloc _ _).trans hb1)
  clear hb1 hri
  go_wp2
  go_ret
  exact row_of_none HB1.out
set_option maxHeartbeats 4000000 in
theorem reads_a (op d a b n : Int) (hi : Ins.wf ⟨op, d, a, b, n⟩) (hr : right ⟨op, d, a, b, n⟩ = true) (ha : (a != 0) = true) (hb : (b != 0) = false) (w : World) :
    Calls Try.prog 20 #[.agg #[.int .i64 op, .int .i64 d, .int .i64 a, .int .i64 b, .int .i64 n]] w (IntRow [a] w) := by
  have HW := Lib.hid hi
  have HR := Lib.hid hr
  clear hi hr
  go_enter Try.func20, Try.ntmps20
  go_wp2_with fail
  refine (right_val HW.out HR.out _).mono ?_
  rintro e W1 ⟨rfl, hb1⟩
  have hri := (hb1.1.block w.heap.size (by simp)).trans (heap_alloc_new _ _)
  have hli : w.heap.size < W1.heap.size := by have := hb1.1.size; simp at this; omega
  have c2 := cell_of_heap hri 2
  have c3 := cell_of_heap hri 3
  simp only [List.getElem?_toArray, List.getElem?_cons_zero, List.getElem?_cons_succ] at c2 c3
  have HB1 := Lib.hid (((Both.refl w).alloc _ _).trans hb1)
  clear hb1 hri
  go_wp2
  go_ret
  generalize hcap : (Question.appendCap 1 0 3).cut (W1.tape W1.drawn (Question.appendCap 1 0 3)) = c
  clear hcap
  have hm : (((W1.alloc (.cells #[.int .i64 a] 3)).alloc (.cells (#[.int .i64 a] ++ Builtin.zeroCells #[.int .i64 0] (c - 1)) 3)).drew).cell? ⟨W1.heap.size + 1, 0, none⟩ = some (.int .i64 a) := by
    have s1 : (W1.alloc (.cells #[.int .i64 a] 3)).heap.size = W1.heap.size + 1 := by simp
    rw [← s1]
    exact (World.cell?_alloc_new (W1.alloc (.cells #[.int .i64 a] 3)) _ _ 0).trans (Array.getElem?_append_left (by show 0 < 1; omega))
  exact row_of_one hm (((HB1.out.alloc _ _).alloc _ _).drew)
set_option maxHeartbeats 4000000 in
theorem reads_aa (op d a b n : Int) (hi : Ins.wf ⟨op, d, a, b, n⟩) (hr : right ⟨op, d, a, b, n⟩ = true) (ha : (a != 0) = true) (hb : (b != 0) = true) (hab : (b != a) = false) (w : World) :
    Calls Try.prog 20 #[.agg #[.int .i64 op, .int .i64 d, .int .i64 a, .int .i64 b, .int .i64 n]] w (IntRow [a] w) := by
  have HW := Lib.hid hi
  have HR := Lib.hid hr
  clear hi hr
  go_enter Try.func20, Try.ntmps20
  go_wp2_with fail
  refine (right_val HW.out HR.out _).mono ?_
  rintro e W1 ⟨rfl, hb1⟩
  have hri := (hb1.1.block w.heap.size (by simp)).trans (heap_alloc_new _ _)
  have hli : w.heap.size < W1.heap.size := by have := hb1.1.size; simp at this; omega
  have c2 := cell_of_heap hri 2
  have c3 := cell_of_heap hri 3
  simp only [List.getElem?_toArray, List.getElem?_cons_zero, List.getElem?_cons_succ] at c2 c3
  have HB1 := Lib.hid (((Both.refl w).alloc _ _).trans hb1)
  clear hb1 hri
  go_wp2
  go_ret
  generalize hcap : (Question.appendCap 1 0 3).cut (W1.tape W1.drawn (Question.appendCap 1 0 3)) = c
  clear hcap
  have hm : (((W1.alloc (.cells #[.int .i64 a] 3)).alloc (.cells (#[.int .i64 a] ++ Builtin.zeroCells #[.int .i64 0] (c - 1)) 3)).drew).cell? ⟨W1.heap.size + 1, 0, none⟩ = some (.int .i64 a) := by
    have s1 : (W1.alloc (.cells #[.int .i64 a] 3)).heap.size = W1.heap.size + 1 := by simp
    rw [← s1]
    exact (World.cell?_alloc_new (W1.alloc (.cells #[.int .i64 a] 3)) _ _ 0).trans (Array.getElem?_append_left (by show 0 < 1; omega))
  exact row_of_one hm (((HB1.out.alloc _ _).alloc _ _).drew)
set_option maxHeartbeats 4000000 in
theorem reads_b (op d a b n : Int) (hi : Ins.wf ⟨op, d, a, b, n⟩) (hr : right ⟨op, d, a, b, n⟩ = true) (ha : (a != 0) = false) (hb : (b != 0) = true) (hab : (b != a) = true) (w : World) :
    Calls Try.prog 20 #[.agg #[.int .i64 op, .int .i64 d, .int .i64 a, .int .i64 b, .int .i64 n]] w (IntRow [b] w) := by
  have HW := Lib.hid hi
  have HR := Lib.hid hr
  clear hi hr
  go_enter Try.func20, Try.ntmps20
  go_wp2_with fail
  refine (right_val HW.out HR.out _).mono ?_
  rintro e W1 ⟨rfl, hb1⟩
  have hri := (hb1.1.block w.heap.size (by simp)).trans (heap_alloc_new _ _)
  have hli : w.heap.size < W1.heap.size := by have := hb1.1.size; simp at this; omega
  have c2 := cell_of_heap hri 2
  have c3 := cell_of_heap hri 3
  simp only [List.getElem?_toArray, List.getElem?_cons_zero, List.getElem?_cons_succ] at c2 c3
  have HB1 := Lib.hid (((Both.refl w).alloc _ _).trans hb1)
  clear hb1 hri
  go_wp2
  go_ret
  generalize hcap : (Question.appendCap 1 0 3).cut (W1.tape W1.drawn (Question.appendCap 1 0 3)) = c
  clear hcap
  have hm : (((W1.alloc (.cells #[.int .i64 b] 3)).alloc (.cells (#[.int .i64 b] ++ Builtin.zeroCells #[.int .i64 0] (c - 1)) 3)).drew).cell? ⟨W1.heap.size + 1, 0, none⟩ = some (.int .i64 b) := by
    have s1 : (W1.alloc (.cells #[.int .i64 b] 3)).heap.size = W1.heap.size + 1 := by simp
    rw [← s1]
    exact (World.cell?_alloc_new (W1.alloc (.cells #[.int .i64 b] 3)) _ _ 0).trans (Array.getElem?_append_left (by show 0 < 1; omega))
  exact row_of_one hm (((HB1.out.alloc _ _).alloc _ _).drew)
set_option maxHeartbeats 4000000 in
theorem reads_ab (op d a b n : Int) (hi : Ins.wf ⟨op, d, a, b, n⟩) (hr : right ⟨op, d, a, b, n⟩ = true) (ha : (a != 0) = true) (hb : (b != 0) = true) (hab : (b != a) = true) (w : World) :
    Calls Try.prog 20 #[.agg #[.int .i64 op, .int .i64 d, .int .i64 a, .int .i64 b, .int .i64 n]] w (IntRow [a, b] w) := by
  have HW := Lib.hid hi
  have HR := Lib.hid hr
  clear hi hr
  go_enter Try.func20, Try.ntmps20
  go_wp2_with fail
  refine (right_val HW.out HR.out _).mono ?_
  rintro e W1 ⟨rfl, hb1⟩
  have hri := (hb1.1.block w.heap.size (by simp)).trans (heap_alloc_new _ _)
  have hli : w.heap.size < W1.heap.size := by have := hb1.1.size; simp at this; omega
  have c2 := cell_of_heap hri 2
  have c3 := cell_of_heap hri 3
  simp only [List.getElem?_toArray, List.getElem?_cons_zero, List.getElem?_cons_succ] at c2 c3
  have HB1 := Lib.hid (((Both.refl w).alloc _ _).trans hb1)
  clear hb1 hri
  go_upto_region 7 with (fail)
  rename_i K hK
  have h1c : 1 ≤ (Question.appendCap 1 0 3).cut (W1.tape W1.drawn (Question.appendCap 1 0 3)) := grownCap_ge W1 1 0 3
  generalize (Question.appendCap 1 0 3).cut (W1.tape W1.drawn (Question.appendCap 1 0 3)) = c at h1c ⊢
  have s1 : (W1.alloc (.cells #[.int .i64 a] 3)).heap.size = W1.heap.size + 1 := by simp
  have hB : (((W1.alloc (.cells #[.int .i64 a] 3)).alloc (.cells (#[.int .i64 a] ++ Builtin.zeroCells #[.int .i64 0] (c - 1)) 3)).drew).heap[W1.heap.size + 1]? = some (.cells (#[.int .i64 a] ++ Builtin.zeroCells #[.int .i64 0] (c - 1)) 3 (0, 0)) := by
    rw [← s1]
    exact heap_alloc_new _ _
  have hBW : Both W1 ((W1.alloc (.cells #[.int .i64 a] 3)).alloc (.cells (#[.int .i64 a] ++ Builtin.zeroCells #[.int .i64 0] (c - 1)) 3)).drew := (((Both.refl W1).alloc _ _).alloc _ _).drew
  generalize ((W1.alloc (.cells #[.int .i64 a] 3)).alloc (.cells (#[.int .i64 a] ++ Builtin.zeroCells #[.int .i64 0] (c - 1)) 3)).drew = W3 at hB hBW ⊢
  have c3' := (hBW.cell (p := ⟨w.heap.size, 3, none⟩) hli).trans c3
  have hWB : w.heap.size ≤ W1.heap.size + 1 := by omega
  have hBB := HB1.out.trans hBW
  clear c2 c3 hBW s1 HB1
  generalize W1.heap.size + 1 = B at hB hWB ⊢
  have hsB : B < W3.heap.size := by
    refine Nat.lt_of_not_le fun hge => ?_
    rw [Array.getElem?_eq_none hge] at hB
    cases hB
  refine wp_region_list ?_
  refine wpList_one rfl (w' := W3) (v := .slice (some ⟨B, 0, none⟩) 1 c) rfl ?_
  refine wpList_one rfl (w' := W3) (v := .pointer (some ⟨w.heap.size, 3, none⟩)) (by kernel_rfl) ?_
  have HBk := Lib.hid hB
  clear hB
  refine wpList_plain rfl fun K5 hK5 => ?_
  go_simp
  refine hK5 _ _ ?_
  clear hK5 K5
  refine wpList_one rfl (w' := W3.alloc (.cells #[.int .i64 b] 3)) (v := .slice (some ⟨W3.heap.size, 0, none⟩) 1 1) (by kernel_rfl) ?_
  obtain ⟨q, c', W5, hrun, hq, q0, q1, hb5⟩ := append_two (W3.alloc (.cells #[.int .i64 b] 3)) B c a b 33 h1c W3.heap.size ((heap_alloc_old _ _ hsB).trans HBk.out) (World.cell?_alloc_new W3 #[.int .i64 b] 3 0) w (hBB.alloc _ _) hWB
  refine wpList_append_run rfl (.tmp 25) (.tmp 28) 33 rfl _ _ _ rfl rfl hrun ?_
  refine wpList_one rfl (w' := W5) (v := .slice (some q) 2 c') rfl ?_
  refine wpList_nil ?_
  refine hK _ _ ?_
  have Q0 := Lib.hid q0
  have Q1 := Lib.hid q1
  have Q2 := Lib.hid hq
  have HB5 := Lib.hid hb5
  clear q0 q1 hq hb5 hrun hBB c3' ha hb hab hK
  go_wp2
  go_ret
  exact row_of_two Q2.out Q0.out Q1.out HB5.out
theorem reads_is : ReadsIs := by
  intro i w hi
  obtain ⟨op, d, a, b, n⟩ := i
  show Calls _ _ #[.agg #[.int .i64 op, .int .i64 d, .int .i64 a, .int .i64 b, .int .i64 n]] w (IntRow (readsL ⟨op, d, a, b, n⟩) w)
  cases hr : right ⟨op, d, a, b, n⟩ with
  | false =>
    have e : readsL ⟨op, d, a, b, n⟩ = [] := by unfold readsL; rw [hr]; rfl
    rw [e]
    exact reads_wrong op d a b n hi hr w
  | true =>
    obtain ⟨_, _, ⟨a0, _⟩, ⟨b0, _⟩, _⟩ := right_bd hr
    simp only at a0 b0
    have e : readsL ⟨op, d, a, b, n⟩ = (if 0 < a then [a] else []) ++ (if 0 < b ∧ b ≠ a then [b] else []) := by unfold readsL; rw [hr]; rfl
    rw [e]
    by_cases ha : a = 0
    · have hA : (a != 0) = false := by simp [ha]
      rw [if_neg (by omega)]
      by_cases hb : b = 0
      · rw [if_neg (by omega)]
        exact reads_empty op d a b n hi hr hA (by simp [hb]) w
      · rw [if_pos (by omega)]
        exact reads_b op d a b n hi hr hA (by simp [hb]) (by simp; omega) w
    · have hA : (a != 0) = true := by simp [ha]
      rw [if_pos (by omega)]
      by_cases hb : b = 0
      · rw [if_neg (by omega)]
        exact reads_a op d a b n hi hr hA (by simp [hb]) w
      · by_cases hab : b = a
        · rw [if_neg (by omega)]
          exact reads_aa op d a b n hi hr hA (by simp [hb]) (by simp [hab]) w
        · rw [if_pos (by omega)]
          exact reads_ab op d a b n hi hr hA (by simp [hb]) (by simp [hab]) w
end Go.Proofs.Ytphnagkicboglaa
