/- What Right, Name and Writes of the document's own answer answer. -/
import Derived.Test.YtjjbfeoidceiiaaFNum
namespace Go.Proofs.Ytjjbfeoidceiiaa
open Go.RowKit Rv
set_option linter.unusedVariables false
set_option linter.unusedSimpArgs false
theorem has_D' {f : Int} {b : Bool} (hf : formOk f) (hb : hasD f = b) (w : World) : Calls Try.prog 73 #[.int .u8 f, .int .u8 68] w fun e w' => e = .returned (.bool b) ∧ w' = w := by
  subst hb
  exact (has_D f hf w).mono fun _ _ ⟨h1, h2⟩ => ⟨h1, h2.symm⟩
theorem has_A' {f : Int} {b : Bool} (hf : formOk f) (hb : hasA f = b) (w : World) : Calls Try.prog 73 #[.int .u8 f, .int .u8 65] w fun e w' => e = .returned (.bool b) ∧ w' = w := by
  subst hb
  exact (has_A f hf w).mono fun _ _ ⟨h1, h2⟩ => ⟨h1, h2.symm⟩
theorem has_B' {f : Int} {b : Bool} (hf : formOk f) (hb : hasB f = b) (w : World) : Calls Try.prog 73 #[.int .u8 f, .int .u8 66] w fun e w' => e = .returned (.bool b) ∧ w' = w := by
  subst hb
  exact (has_B f hf w).mono fun _ _ ⟨h1, h2⟩ => ⟨h1, h2.symm⟩
theorem register' {n : Int} {b r : Bool} (h : reg n b = r) (w : World) : Calls Try.prog 72 #[.int .i64 n, .bool b] w fun e w' => e = .returned (.bool r) ∧ w' = w := by
  subst h
  exact (register_any n b w).mono fun _ _ ⟨h1, h2⟩ => ⟨h1, h2.symm⟩
theorem number' {f n : Int} {r : Bool} (hf : formOk f) (h : num f n = r) (w : World) : Calls Try.prog 74 #[.int .u8 f, .int .i64 n] w fun e w' => e = .returned (.bool r) ∧ w' = w := by
  subst h
  exact (numR_any f n hf w).mono fun _ _ ⟨h1, h2⟩ => ⟨h1, h2.symm⟩
set_option maxRecDepth 100000 in
set_option maxHeartbeats 8000000 in
theorem rightR_in (op d a b n f lo mi hi : Int) (s : ByteArray) (r bd ba bb qd qa qb qn : Bool) (Hf : Hid (form op = f)) (HOK : Hid (formOk f)) (Hv : Hid (rowVals op = [.string s, .int .u8 f, .int .i64 lo, .int .i64 mi, .int .i64 hi])) (t1 : s.toList.isEmpty = false) (t2 : ¬ s.toList = [])
    (Hd : Hid (hasD f = bd)) (Ha : Hid (hasA f = ba)) (Hb : Hid (hasB f = bb)) (Hqd : Hid (reg d bd = qd)) (Hqa : Hid (reg a ba = qa)) (Hqb : Hid (reg b bb = qb)) (Hqn : Hid (num f n = qn)) (HR : Hid ((qd && qa && qb && qn) = r)) (w : World) :
    Calls Try.prog 45 #[.agg #[.int .i64 op, .int .i64 d, .int .i64 a, .int .i64 b, .int .i64 n]] w fun e w' => e = .returned (.bool r) ∧ Both w w' := by
  go_enter Try.func45, Try.ntmps45
  go_wp2_with fail
  refine (rowof_lit Hv.out _).mono ?_
  rintro e W1 ⟨rfl, hb1⟩
  have hri := (hb1.1.block w.heap.size (by simp)).trans (heap_alloc_new _ _)
  have hli : w.heap.size < W1.heap.size := by have := hb1.1.size; simp at this; omega
  have HB1 := Lib.hid (((Both.refl w).alloc _ _).trans hb1)
  have HRI := Lib.hid ((heap_alloc_old W1 (.cells #[.string s, .int .u8 f, .int .i64 lo, .int .i64 mi, .int .i64 hi] 90) hli).trans hri)
  clear hb1 hri
  go_upto_region 4 with (fail)
  have HB2 : Hid (Both w (W1.alloc (.cells #[.string s, .int .u8 f, .int .i64 lo, .int .i64 mi, .int .i64 hi] 90))) := HB1.out.alloc _ _
  have r1 : (W1.alloc (.cells #[.string s, .int .u8 f, .int .i64 lo, .int .i64 mi, .int .i64 hi] 90)).cell? ⟨W1.heap.size, 1, none⟩ = some (.int .u8 f) := World.cell?_alloc_new W1 _ _ 1
  generalize W1.alloc (.cells #[.string s, .int .u8 f, .int .i64 lo, .int .i64 mi, .int .i64 hi] 90) = W2 at HB2 HRI r1 ⊢
  have c1 : W2.cell? ⟨w.heap.size, 1, none⟩ = some (.int .i64 d) := cell_of_heap HRI.out 1
  have c2 : W2.cell? ⟨w.heap.size, 2, none⟩ = some (.int .i64 a) := cell_of_heap HRI.out 2
  have c3 : W2.cell? ⟨w.heap.size, 3, none⟩ = some (.int .i64 b) := cell_of_heap HRI.out 3
  have c4 : W2.cell? ⟨w.heap.size, 4, none⟩ = some (.int .i64 n) := cell_of_heap HRI.out 4
  clear hli t1 t2
  have HRR := HR
  clear HR
  have hq : qd = false ∨ (qd = true ∧ qa = false) ∨ (qd = true ∧ qa = true ∧ qb = false) ∨ (qd = true ∧ qa = true ∧ qb = true) := by cases qd <;> cases qa <;> cases qb <;> simp
  rcases hq with rfl | ⟨rfl, rfl⟩ | ⟨rfl, rfl, rfl⟩ | ⟨rfl, rfl, rfl⟩
  all_goals
    go_quiet ((first
      | (go_at_call 73; with_reducible refine Calls.quiet_of_same (has_D' HOK.out Hd.out _))
      | (go_at_call 73; with_reducible refine Calls.quiet_of_same (has_A' HOK.out Ha.out _))
      | (go_at_call 73; with_reducible refine Calls.quiet_of_same (has_B' HOK.out Hb.out _))
      | (go_at_call 72; with_reducible refine Calls.quiet_of_same (register' Hqd.out _))
      | (go_at_call 72; with_reducible refine Calls.quiet_of_same (register' Hqa.out _))
      | (go_at_call 72; with_reducible refine Calls.quiet_of_same (register' Hqb.out _))
      | (go_at_call 74; with_reducible refine Calls.quiet_of_same (number' HOK.out Hqn.out _))))
    go_wp2
    go_ret
    exact ⟨by have e := HRR.out; subst e; rfl, HB2.out.drewN _⟩
set_option maxRecDepth 100000 in
set_option maxHeartbeats 4000000 in
theorem rightR_out (op d a b n : Int) (h : ¬ (1 ≤ op ∧ op ≤ 49)) (w : World) :
    Calls Try.prog 45 #[.agg #[.int .i64 op, .int .i64 d, .int .i64 a, .int .i64 b, .int .i64 n]] w fun e w' => e = .returned (.bool false) ∧ Both w w' := by
  have hv := Lib.hid (vals_out op (by omega))
  clear h
  go_enter Try.func45, Try.ntmps45
  go_wp2_with fail
  refine (rowof_lit hv.out _).mono ?_
  rintro e W1 ⟨rfl, hb1⟩
  have HB1 := Lib.hid (((Both.refl w).alloc _ _).trans hb1)
  clear hb1
  go_wp2
  go_ret
  exact ⟨rfl, HB1.out.alloc _ _⟩
theorem rightR_val {op d a b n : Int} {r : Bool} (h : right ⟨op, d, a, b, n⟩ = r) (w : World) :
    Calls Try.prog 45 #[.agg #[.int .i64 op, .int .i64 d, .int .i64 a, .int .i64 b, .int .i64 n]] w fun e w' => e = .returned (.bool r) ∧ Both w w' := by
  subst h
  by_cases h : 1 ≤ op ∧ op ≤ 49
  · have t1 := decName_full h.1 h.2
    have t2 : ¬ (⟨(name op).toArray⟩ : ByteArray).toList = [] := by
      intro h
      rw [h] at t1
      cases t1
    refine rightR_in op d a b n _ _ _ _ _ _ _ _ _ _ _ _ _ rfl (form_ok h.1 h.2) rfl t1 t2 rfl rfl rfl rfl rfl rfl rfl ?_ w
    show _ = _
    unfold right
    rw [decide_eq_true h, Bool.true_and]
  · have e : right ⟨op, d, a, b, n⟩ = false := by
      unfold right
      rw [decide_eq_false h]
      rfl
    rw [e]
    exact rightR_out op d a b n h w
end Go.Proofs.Ytjjbfeoidceiiaa
