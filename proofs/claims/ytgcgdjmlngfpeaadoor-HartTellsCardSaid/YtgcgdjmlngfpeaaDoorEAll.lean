/- What has, number and register of the document's own answer answer. -/
import Derived.Test.YtgcgdjmlngfpeaaDoorCFitAny
import Derived.Handy
import Derived.Test.YtgcgdjmlngfpeaaDoorDRightW
section
namespace Go.Proofs.YtgcgdjmlngfpeaaDoor
open Go.RowKit Rv
set_option linter.unusedVariables false
def formOk (f : Int) : Prop := f = 82 ∨ f = 73 ∨ f = 67 ∨ f = 72 ∨ f = 83 ∨ f = 66 ∨ f = 85 ∨ f = 74 ∨ f = 70 ∨ f = 90 ∨ f = 76 ∨ f = 65
set_option maxHeartbeats 4000000 in
theorem has_D (f : Int) (hf : formOk f) (w : World) : Calls Tryd.prog 66 #[.int .u8 f, .int .u8 68] w fun e w' => e = .returned (.bool (hasD f)) ∧ w = w' := by
  rcases hf with rfl | rfl | rfl | rfl | rfl | rfl | rfl | rfl | rfl | rfl | rfl | rfl
  all_goals
    go_enter Tryd.func66, Tryd.ntmps66
    go_wp2
    go_rounds 6
    go_ret
    exact ⟨rfl, rfl⟩
set_option maxHeartbeats 4000000 in
theorem has_A (f : Int) (hf : formOk f) (w : World) : Calls Tryd.prog 66 #[.int .u8 f, .int .u8 65] w fun e w' => e = .returned (.bool (hasA f)) ∧ w = w' := by
  rcases hf with rfl | rfl | rfl | rfl | rfl | rfl | rfl | rfl | rfl | rfl | rfl | rfl
  all_goals
    go_enter Tryd.func66, Tryd.ntmps66
    go_wp2
    go_rounds 6
    go_ret
    exact ⟨rfl, rfl⟩
set_option maxHeartbeats 4000000 in
theorem has_B (f : Int) (hf : formOk f) (w : World) : Calls Tryd.prog 66 #[.int .u8 f, .int .u8 66] w fun e w' => e = .returned (.bool (hasB f)) ∧ w = w' := by
  rcases hf with rfl | rfl | rfl | rfl | rfl | rfl | rfl | rfl | rfl | rfl | rfl | rfl
  all_goals
    go_enter Tryd.func66, Tryd.ntmps66
    go_wp2
    go_rounds 6
    go_ret
    exact ⟨rfl, rfl⟩
theorem ret_bool {a b : Bool} (h : a = b) : Ending.returned (.bool a) = .returned (.bool b) := by rw [h]
theorem register_any (n : Int) (b : Bool) (w : World) : Calls Tryd.prog 65 #[.int .i64 n, .bool b] w fun e w' => e = .returned (.bool (reg n b)) ∧ w = w' := by
  have hk : n < 0 ∨ n = 0 ∨ (0 < n ∧ n < 32) ∨ 32 ≤ n := by omega
  rcases hk with h | rfl | ⟨h, h'⟩ | h
  all_goals
    cases b
    all_goals
      go_enter Tryd.func65, Tryd.ntmps65
      go_wp2
      go_ret
      exact ⟨ret_bool (by rw [Bool.eq_iff_iff]; simp [reg]; try omega), rfl⟩
end Go.Proofs.YtgcgdjmlngfpeaaDoor
end
section
namespace Go.Proofs.YtgcgdjmlngfpeaaDoor
open Go.RowKit Rv
set_option linter.unusedVariables false
set_option linter.unusedSimpArgs false
theorem tmod2_is (n : Int) : (n.tmod 2 == 0) = decide (n % 2 = 0) := by
  rw [Bool.eq_iff_iff, beq_iff_eq, decide_eq_true_eq]
  exact ⟨fun h => by have := Int.emod_add_mul_ediv n 2; have := Int.mul_tdiv_add_tmod n 2; omega, fun h => Int.tmod_eq_zero_of_dvd (Int.dvd_of_emod_eq_zero h)⟩
set_option maxHeartbeats 4000000 in
theorem rnum_any (f n : Int) (hf : formOk f) (w : World) : Calls Tryd.prog 67 #[.int .u8 f, .int .i64 n] w fun e w' => e = .returned (.bool (num f n)) ∧ w = w' := by
  have ht := Lib.hid (tmod2_is n)
  rcases hf with rfl | rfl | rfl | rfl | rfl | rfl | rfl | rfl | rfl | rfl | rfl | rfl
  all_goals
    go_enter Tryd.func67, Tryd.ntmps67
    go_wp2
    all_goals
      go_ret
      refine ⟨ret_bool ?_, rfl⟩
      have := ht.out
      first
        | (simp [num, *]; done)
        | (simp [num, *]; omega)
        | (rw [Bool.eq_iff_iff]; simp [num, *]; done)
        | (rw [Bool.eq_iff_iff]; simp [num, *]; omega)
theorem form_ok {op : Int} (h1 : 1 ≤ op) (h2 : op ≤ 49) : formOk (form op) := form_is h1 h2
end Go.Proofs.YtgcgdjmlngfpeaaDoor
end
section
namespace Go.Proofs.YtgcgdjmlngfpeaaDoor
open Go.RowKit Rv
set_option linter.unusedVariables false
set_option linter.unusedSimpArgs false
theorem decName_some {op : Int} (h1 : 1 ≤ op) (h2 : op ≤ 49) : name op ≠ [] := by
  have := of_table (p := fun op => !(name op).isEmpty) (by decide +kernel) h1 h2
  intro h
  rw [h] at this
  cases this
theorem decName_full {op : Int} (h1 : 1 ≤ op) (h2 : op ≤ 49) : (⟨(name op).toArray⟩ : ByteArray).toList.isEmpty = false := by
  have := of_table (p := fun op => !(⟨(name op).toArray⟩ : ByteArray).toList.isEmpty) (by decide +kernel) h1 h2
  simpa using this
theorem has_D' {f : Int} {b : Bool} (hf : formOk f) (hb : hasD f = b) (w : World) : Calls Tryd.prog 66 #[.int .u8 f, .int .u8 68] w fun e w' => e = .returned (.bool b) ∧ w' = w := by
  subst hb
  exact (has_D f hf w).mono fun _ _ ⟨h1, h2⟩ => ⟨h1, h2.symm⟩
theorem has_A' {f : Int} {b : Bool} (hf : formOk f) (hb : hasA f = b) (w : World) : Calls Tryd.prog 66 #[.int .u8 f, .int .u8 65] w fun e w' => e = .returned (.bool b) ∧ w' = w := by
  subst hb
  exact (has_A f hf w).mono fun _ _ ⟨h1, h2⟩ => ⟨h1, h2.symm⟩
theorem has_B' {f : Int} {b : Bool} (hf : formOk f) (hb : hasB f = b) (w : World) : Calls Tryd.prog 66 #[.int .u8 f, .int .u8 66] w fun e w' => e = .returned (.bool b) ∧ w' = w := by
  subst hb
  exact (has_B f hf w).mono fun _ _ ⟨h1, h2⟩ => ⟨h1, h2.symm⟩
theorem register' {n : Int} {b r : Bool} (h : reg n b = r) (w : World) : Calls Tryd.prog 65 #[.int .i64 n, .bool b] w fun e w' => e = .returned (.bool r) ∧ w' = w := by
  subst h
  exact (register_any n b w).mono fun _ _ ⟨h1, h2⟩ => ⟨h1, h2.symm⟩
theorem number' {f n : Int} {r : Bool} (hf : formOk f) (h : num f n = r) (w : World) : Calls Tryd.prog 67 #[.int .u8 f, .int .i64 n] w fun e w' => e = .returned (.bool r) ∧ w' = w := by
  subst h
  exact (rnum_any f n hf w).mono fun _ _ ⟨h1, h2⟩ => ⟨h1, h2.symm⟩
set_option maxRecDepth 100000 in
set_option maxHeartbeats 8000000 in
theorem rightR_in (op d a b n f lo mi hi : Int) (s : ByteArray) (r bd ba bb qd qa qb qn : Bool) (Hf : Hid (form op = f)) (HOK : Hid (formOk f)) (Hv : Hid (rowVals op = [.string s, .int .u8 f, .int .i64 lo, .int .i64 mi, .int .i64 hi])) (t1 : s.toList.isEmpty = false) (t2 : ¬ s.toList = [])
    (Hd : Hid (hasD f = bd)) (Ha : Hid (hasA f = ba)) (Hb : Hid (hasB f = bb)) (Hqd : Hid (reg d bd = qd)) (Hqa : Hid (reg a ba = qa)) (Hqb : Hid (reg b bb = qb)) (Hqn : Hid (num f n = qn)) (HR : Hid ((qd && qa && qb && qn) = r)) (w : World) :
    Calls Tryd.prog 40 #[.agg #[.int .i64 op, .int .i64 d, .int .i64 a, .int .i64 b, .int .i64 n]] w fun e w' => e = .returned (.bool r) ∧ Both w w' := by
  go_enter Tryd.func40, Tryd.ntmps40
  go_wp2_with fail
  refine (rowof_lit Hv.out _).mono ?_
  rintro e W1 ⟨rfl, hb1⟩
  have hri := (hb1.1.block w.heap.size (by simp)).trans (heap_alloc_new _ _)
  have hli : w.heap.size < W1.heap.size := by have := hb1.1.size; simp at this; omega
  have HB1 := Lib.hid (((Both.refl w).alloc _ _).trans hb1)
  have HRI := Lib.hid ((heap_alloc_old W1 (.cells #[.string s, .int .u8 f, .int .i64 lo, .int .i64 mi, .int .i64 hi] 54) hli).trans hri)
  clear hb1 hri
  go_upto_region 4 with (fail)
  have HB2 : Hid (Both w (W1.alloc (.cells #[.string s, .int .u8 f, .int .i64 lo, .int .i64 mi, .int .i64 hi] 54))) := HB1.out.alloc _ _
  have r1 : (W1.alloc (.cells #[.string s, .int .u8 f, .int .i64 lo, .int .i64 mi, .int .i64 hi] 54)).cell? ⟨W1.heap.size, 1, none⟩ = some (.int .u8 f) := World.cell?_alloc_new W1 _ _ 1
  generalize W1.alloc (.cells #[.string s, .int .u8 f, .int .i64 lo, .int .i64 mi, .int .i64 hi] 54) = W2 at HB2 HRI r1 ⊢
  have c1 : W2.cell? ⟨w.heap.size, 1, none⟩ = some (.int .i64 d) := cell_of_heap HRI.out 1
  have c2 : W2.cell? ⟨w.heap.size, 2, none⟩ = some (.int .i64 a) := cell_of_heap HRI.out 2
  have c3 : W2.cell? ⟨w.heap.size, 3, none⟩ = some (.int .i64 b) := cell_of_heap HRI.out 3
  have c4 : W2.cell? ⟨w.heap.size, 4, none⟩ = some (.int .i64 n) := cell_of_heap HRI.out 4
  clear hli t1 t2
  have HRR := HR
  clear HR
  have hq : qd = false ∨ (qd = true ∧ qa = false) ∨ (qd = true ∧ qa = true ∧ qb = false) ∨ (qd = true ∧ qa = true ∧ qb = true) := by cases qd <;> cases qa <;> cases qb <;> simp
  rcases hq with rfl | ⟨rfl, rfl⟩ | ⟨rfl, rfl, rfl⟩ | ⟨rfl, rfl, rfl⟩
  all_goals
    go_quiet ((first
      | (go_at_call 66; with_reducible refine Calls.quiet_of_same (has_D' HOK.out Hd.out _))
      | (go_at_call 66; with_reducible refine Calls.quiet_of_same (has_A' HOK.out Ha.out _))
      | (go_at_call 66; with_reducible refine Calls.quiet_of_same (has_B' HOK.out Hb.out _))
      | (go_at_call 65; with_reducible refine Calls.quiet_of_same (register' Hqd.out _))
      | (go_at_call 65; with_reducible refine Calls.quiet_of_same (register' Hqa.out _))
      | (go_at_call 65; with_reducible refine Calls.quiet_of_same (register' Hqb.out _))
      | (go_at_call 67; with_reducible refine Calls.quiet_of_same (number' HOK.out Hqn.out _))))
    go_wp2
    go_ret
    exact ⟨by have e := HRR.out; subst e; rfl, HB2.out.drewN _⟩
set_option maxRecDepth 100000 in
set_option maxHeartbeats 4000000 in
theorem rightR_out (op d a b n : Int) (h : ¬ (1 ≤ op ∧ op ≤ 49)) (w : World) :
    Calls Tryd.prog 40 #[.agg #[.int .i64 op, .int .i64 d, .int .i64 a, .int .i64 b, .int .i64 n]] w fun e w' => e = .returned (.bool false) ∧ Both w w' := by
  have hv := Lib.hid (vals_out op (by omega))
  clear h
  go_enter Tryd.func40, Tryd.ntmps40
  go_wp2_with fail
  refine (rowof_lit hv.out _).mono ?_
  rintro e W1 ⟨rfl, hb1⟩
  have HB1 := Lib.hid (((Both.refl w).alloc _ _).trans hb1)
  clear hb1
  go_wp2
  go_ret
  exact ⟨rfl, HB1.out.alloc _ _⟩
theorem rightR_val {op d a b n : Int} {r : Bool} (h : right ⟨op, d, a, b, n⟩ = r) (w : World) :
    Calls Tryd.prog 40 #[.agg #[.int .i64 op, .int .i64 d, .int .i64 a, .int .i64 b, .int .i64 n]] w fun e w' => e = .returned (.bool r) ∧ Both w w' := by
  subst h
  by_cases h : 1 ≤ op ∧ op ≤ 49
  · have t1 := decName_full h.1 h.2
    have t2 : ¬ (⟨(name op).toArray⟩ : ByteArray).toList = [] := by
      intro h
      rw [h] at t1
      cases t1
    refine rightR_in op d a b n _ _ _ _ _ _ _ _ _ _ _ _ _ rfl (form_ok h.1 h.2) rfl t1 t2 rfl rfl rfl rfl rfl rfl rfl ?_ w
    show _ = _
    unfold right
    rw [decide_eq_true h, Bool.true_and]
  · have e : right ⟨op, d, a, b, n⟩ = false := by
      unfold right
      rw [decide_eq_false h]
      rfl
    rw [e]
    exact rightR_out op d a b n h w
end Go.Proofs.YtgcgdjmlngfpeaaDoor
end
