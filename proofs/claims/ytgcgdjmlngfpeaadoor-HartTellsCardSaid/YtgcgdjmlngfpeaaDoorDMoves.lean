/- What Writes and Reads of package code answer. -/
import Derived.Test.YtgcgdjmlngfpeaaDoorDRightW
import Derived.Test.YtgcgdjmlngfpeaaDoorCCodeN
namespace Go.Proofs.YtgcgdjmlngfpeaaDoor
open Go.RowKit Rv
set_option linter.unusedVariables false
theorem frozen_of_heap {w : World} {g : Nat} {cs : Array Value} {t : TypeId} (h : w.heap[g]? = some (.cells cs t (0, 0))) (o : Nat) : w.frozen? ⟨g, o, none⟩ = false := by
  rw [frozen_marks, h]
  simp [marks]
set_option maxHeartbeats 4000000 in
theorem writes_is : WritesIs := by
  intro i w hi
  obtain ⟨op, d, a, b, n⟩ := i
  have HW := Lib.hid hi
  clear hi
  show Calls _ _ #[.agg #[.int .i64 op, .int .i64 d, .int .i64 a, .int .i64 b, .int .i64 n]] w fun e w' => e = .returned (.int .i64 (if right ⟨op, d, a, b, n⟩ then d else 0)) ∧ Both w w'
  obtain ⟨r, hr⟩ : ∃ r, right ⟨op, d, a, b, n⟩ = r := ⟨_, rfl⟩
  rw [hr]
  have HR := Lib.hid hr
  clear hr
  cases r
  · rw [if_neg (by decide)]
    go_enter Tryd.func24, Tryd.ntmps24
    go_wp2_with fail
    refine (right_val HW.out HR.out _).mono ?_
    rintro e W1 ⟨rfl, hb1⟩
    have HB1 := Lib.hid (((Both.refl w).alloc _ _).trans hb1)
    clear hb1
    go_wp2
    go_ret
    exact ⟨rfl, HB1.out⟩
  · rw [if_pos rfl]
    go_enter Tryd.func24, Tryd.ntmps24
    go_wp2_with fail
    refine (right_val HW.out HR.out _).mono ?_
    rintro e W1 ⟨rfl, hb1⟩
    have hri := (hb1.1.block w.heap.size (by simp)).trans (heap_alloc_new _ _)
    have c1 := cell_of_heap hri 1
    simp only [List.getElem?_toArray, List.getElem?_cons_zero, List.getElem?_cons_succ] at c1
    have HB1 := Lib.hid (((Both.refl w).alloc _ _).trans hb1)
    clear hb1 hri
    go_wp2
    go_ret
    exact ⟨rfl, HB1.out⟩
theorem wpList_append_run {P : Program} {w w' : World} {ops : Array Oper} {rest : List Oper} {o : Oper} {a : Act} {Q : Exit → Act → World → Prop} (hgd : o.guard = none) (s x : Operand) (t : TypeId)
    (ho : o.op = .call { callee := .builtin .append, args := #[s, x], argTypes := #[t, t] }) (sv xv r : Value) (hs : a.eval s = sv) (hx : a.eval x = xv)
    (hrun : (Builtin.append_ #[t, t] o.type #[sv, xv]).run P w = .ok r w') (h : wpList P ops Q rest (a.put o.dst r) w') : wpList P ops Q (o :: rest) a w := by
  refine wpList_plain hgd fun K hK => ?_
  unfold Oper.wp
  simp [execOp, ho, resolve, invoke, builtin, hs, hx, hrun, Result.andThen]
  exact hK _ _ h
theorem int_info : ∃ i : TypeInfo, Tryd.prog.info? 3 = some i ∧ i.zero = some (.int .i64 0) ∧ i.size = 1 ∧ i.bytes = 8 := ⟨(Tryd.prog.info? 3).get (by kernel_rfl), by kernel_rfl, by kernel_rfl, by kernel_rfl, by kernel_rfl⟩
/-- an int goes behind one that lies in a row of the call's own -/
theorem append_two (W : World) (B c : Nat) (a b : Int) (ty : TypeId) (h1 : 1 ≤ c) (xb : Nat) (hB : W.heap[B]? = some (.cells (#[.int .i64 a] ++ Builtin.zeroCells #[.int .i64 0] (c - 1)) 3 (0, 0))) (hx : W.cell? ⟨xb, 0, none⟩ = some (.int .i64 b)) (w : World) (hw : Both w W) (hwB : w.heap.size ≤ B) :
    ∃ p c' W', (Builtin.append_ #[22, 22] ty #[.slice (some ⟨B, 0, none⟩) 1 c, .slice (some ⟨xb, 0, none⟩) 1 1]).run Tryd.prog W = .ok (.slice (some p) 2 c') W' ∧ p.spot = none ∧ W'.cell? ⟨p.block, p.off + 0, none⟩ = some (.int .i64 a) ∧ W'.cell? ⟨p.block, p.off + 1, none⟩ = some (.int .i64 b) ∧ Both w W' := by
  obtain ⟨i, hi, hz, hs, hby⟩ := int_info
  have hnews : ∀ j u, [Value.int .i64 b][j]? = some u → W.cell? ((⟨xb, 0, none⟩ : Addr).add j) = some u := by
    intro j u hj
    match j, hj with
    | 0, hj => rw [← hj]; exact hx
  have hc0 : W.cell? ⟨B, 0, none⟩ = some (.int .i64 a) := by
    rw [cell_of_heap hB]
    exact Array.getElem?_append_left (by show 0 < 1; omega)
  by_cases h2 : 2 ≤ c
  · have hsz : (Builtin.zeroCells #[Value.int .i64 0] (c - 1)).size = c - 1 := by rw [size_zeroCells]; simp
    have hc1 : ∃ u, W.cell? ⟨B, 1, none⟩ = some u := by
      rw [cell_of_heap hB]
      refine ⟨_, Array.getElem?_eq_getElem ?_⟩
      simp only [Array.size_append, hsz]
      show 1 < 1 + (c - 1)
      omega
    obtain ⟨u, hu⟩ := hc1
    have hrun := run_append_room_cells (P := Tryd.prog) (w := W) 22 ty 3 i Tryd.underlying22 hi B 0 1 c ⟨xb, 0, none⟩ 1 1 [.int .i64 b] (by rw [hs]; rfl) hnews (by intro u hu; simp at hu; subst hu; rfl) (by omega)
      (by intro j hj; rw [hs]; have : j = 0 := by simpa using hj
          subst this; simp only [Nat.zero_add, Nat.one_mul, Nat.add_zero]; rw [hu]; rfl)
      (by intro j hj; exact frozen_of_heap hB _)
    rw [hs] at hrun
    refine ⟨_, _, _, hrun, rfl, ?_, ?_, ?_⟩
    · show (W.setCell ⟨B, 0 + 1 * 1, none⟩ (.int .i64 b)).cell? ⟨B, 0, none⟩ = _
      rw [World.cell?_setCell_other _ _ _ _ (by intro h; cases h)]
      exact hc0
    · show (W.setCell ⟨B, 1, none⟩ (.int .i64 b)).cell? ⟨B, 1, none⟩ = _
      exact World.cell?_setCell_same _ _ _ hu
    · show Both w (W.setCell ⟨B, 0 + 1 * 1, none⟩ (.int .i64 b))
      exact hw.setCell hwB _
  · obtain rfl : c = 1 := by omega
    have hrun := run_append_grow (P := Tryd.prog) (w := W) 22 ty 3 i (.int .i64 0) Tryd.underlying22 hi hz ⟨B, 0, none⟩ 1 1 [.int .i64 a] (by rw [hs]; rfl)
      (by intro j u hj
          match j, hj with
          | 0, hj => rw [← hj]; exact hc0)
      ⟨xb, 0, none⟩ 1 1 [.int .i64 b] (by rw [hs]; rfl) hnews (by omega) (by omega) (by rw [hby]; decide)
    refine ⟨_, _, _, hrun, rfl, ?_, ?_, ?_⟩
    · exact (World.cell?_alloc_new W.drew _ _ 0).trans (Array.getElem?_append_left (by show 0 < 2; omega))
    · exact (World.cell?_alloc_new W.drew _ _ 1).trans (Array.getElem?_append_left (by show 1 < 2; omega))
    · exact hw.drew.alloc _ _
theorem row_of_two {a b : Int} {w W' : World} {p : Addr} {c : Nat} (hs : p.spot = none) (h0 : W'.cell? ⟨p.block, p.off + 0, none⟩ = some (.int .i64 a)) (h1 : W'.cell? ⟨p.block, p.off + 1, none⟩ = some (.int .i64 b)) (hb : Both w W') : IntRow [a, b] w (.returned (.slice (some p) 2 c)) W' := by
  refine ⟨some p, c, rfl, ?_, hb⟩
  intro j x hj
  refine ⟨p.block, p.off, by cases p; simp only at hs; subst hs; rfl, ?_⟩
  match j, hj with
  | 0, hj => obtain rfl := Option.some.inj hj; exact h0
  | 1, hj => obtain rfl := Option.some.inj hj; exact h1
theorem row_of_one {a : Int} {w W' : World} {B c : Nat} (h0 : W'.cell? ⟨B, 0, none⟩ = some (.int .i64 a)) (hb : Both w W') : IntRow [a] w (.returned (.slice (some ⟨B, 0, none⟩) 1 c)) W' := by
  refine ⟨_, c, rfl, ?_, hb⟩
  intro j x hj
  refine ⟨B, 0, rfl, ?_⟩
  match j, hj with
  | 0, hj => obtain rfl := Option.some.inj hj; exact h0
theorem row_of_none {w W' : World} (hb : Both w W') : IntRow [] w (.returned (.slice none 0 0)) W' := ⟨none, 0, rfl, fun j x hj => by simp at hj, hb⟩
end Go.Proofs.YtgcgdjmlngfpeaaDoor
