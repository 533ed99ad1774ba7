/- What Encode of the document's own answer answers. -/
import Derived.Test.YtjjbfeoidceiiaaERef
import Derived.Test.YtjjbfeoidceiiaaFRight
namespace Go.Proofs.Ytjjbfeoidceiiaa
open Go.RowKit Rv
set_option linter.unusedVariables false
set_option linter.unusedSimpArgs false
set_option maxRecDepth 100000 in
set_option maxHeartbeats 4000000 in
theorem encR_no (op d a b n : Int) (HR : Hid (right ⟨op, d, a, b, n⟩ = false)) (w : World) :
    Calls Try.prog 39 #[.agg #[.int .i64 op, .int .i64 d, .int .i64 a, .int .i64 b, .int .i64 n]] w fun e w' => e = .returned (.tuple #[.int .i64 0, .int .i64 1]) ∧ Both w w' := by
  go_enter Try.func39, Try.ntmps39
  go_wp2_with fail
  refine (rightR_val HR.out _).mono ?_
  rintro e W1 ⟨rfl, hb1⟩
  have HB1 := Lib.hid (((Both.refl w).alloc _ _).trans hb1)
  clear hb1
  go_wp2
  go_ret2
  exact ⟨rfl, HB1.out⟩
set_option maxRecDepth 100000 in
set_option maxHeartbeats 8000000 in
theorem encR_R (op d a b n lo mi hi v : Int) (s : ByteArray) (d0 : 0 ≤ d) (d1 : d < 32) (a0 : 0 ≤ a) (a1 : a < 32) (b0 : 0 ≤ b) (b1 : b < 32) (n0 : -4294967296 < n) (n1 : n < 4294967296) (l0 : 0 ≤ lo) (l1 : lo < 128) (m0 : 0 ≤ mi) (m1 : mi < 8) (h0 : 0 ≤ hi) (h1 : hi < 128) (HR : Hid (right ⟨op, d, a, b, n⟩ = true)) (Hv : Hid (rowVals op = [.string s, .int .u8 82, .int .i64 lo, .int .i64 mi, .int .i64 hi])) (HRES : Hid (lo + mi * 4096 + a * 32768 + d * 128 + b * 1048576 + hi * 33554432 = v)) (w : World) :
    Calls Try.prog 39 #[.agg #[.int .i64 op, .int .i64 d, .int .i64 a, .int .i64 b, .int .i64 n]] w fun e w' => e = .returned (.tuple #[.int .i64 v, .int .i64 0]) ∧ Both w w' := by
  go_enter Try.func39, Try.ntmps39
  go_wp2_with fail
  refine (rightR_val HR.out _).mono ?_
  rintro e W1 ⟨rfl, hb1⟩
  have HRI := Lib.hid ((hb1.1.block w.heap.size (by simp)).trans (heap_alloc_new _ _))
  have hli : w.heap.size < W1.heap.size := by have := hb1.1.size; simp at this; omega
  have c0 : W1.cell? ⟨w.heap.size, 0, none⟩ = some (.int .i64 op) := cell_of_heap HRI.out 0
  have HB1 := Lib.hid (((Both.refl w).alloc _ _).trans hb1)
  clear hb1
  go_wp2_with fail
  clear c0
  refine (rowof_lit Hv.out _).mono ?_
  rintro e W2 ⟨rfl, hb2⟩
  have hli2 : w.heap.size < W2.heap.size := Nat.lt_of_lt_of_le hli hb2.1.size
  have HRI2 := Lib.hid ((hb2.1.block w.heap.size hli).trans HRI.out)
  have HB2 := Lib.hid (HB1.out.trans hb2)
  clear hb2 HB1 HRI
  rename_i hK2 K hK
  refine hK _ _ ?_
  clear hK K
  refine wpList_one rfl (w' := W2.alloc (.cells rowZero 90)) (v := .pointer (some ⟨W2.heap.size, 0, none⟩)) (by kernel_rfl) ?_
  refine wpList_store_row rfl 90 (.tmp 5) (.tmp 14) rfl W2.heap.size #[.string s, .int .u8 82, .int .i64 lo, .int .i64 mi, .int .i64 hi] (by kernel_rfl) (by kernel_rfl) _ _ (heap_alloc_new _ _) row_size rfl (by kernel_rfl) ?_
  have HRO := Lib.hid (setRow_heap _ _ _ #[.string s, .int .u8 82, .int .i64 lo, .int .i64 mi, .int .i64 hi] _ _ (heap_alloc_new W2 (.cells rowZero 90)))
  have HB3 := Lib.hid ((HB2.out.alloc rowZero 90).setRow (g := W2.heap.size) (Nat.le_of_lt hli2) #[.string s, .int .u8 82, .int .i64 lo, .int .i64 mi, .int .i64 hi])
  have HRI3 : Hid (((W2.alloc (.cells rowZero 90)).setRow W2.heap.size #[.string s, .int .u8 82, .int .i64 lo, .int .i64 mi, .int .i64 hi]).heap[w.heap.size]? = some (.cells #[.int .i64 op, .int .i64 d, .int .i64 a, .int .i64 b, .int .i64 n] 24 (0, 0))) := by
    show _ = _
    rw [setRow_other _ _ _ _ (by omega)]
    exact (heap_alloc_old _ _ hli2).trans HRI2.out
  generalize (W2.alloc (.cells rowZero 90)).setRow W2.heap.size #[.string s, .int .u8 82, .int .i64 lo, .int .i64 mi, .int .i64 hi] = W3 at HRO HB3 HRI3 ⊢
  generalize W2.heap.size = g at HRO ⊢
  clear HB2 HRI2 hli2 hli
  have r1 : W3.cell? ⟨g, 1, none⟩ = some (.int .u8 82) := cell_of_heap HRO.out 1
  have r2 : W3.cell? ⟨g, 2, none⟩ = some (.int .i64 lo) := cell_of_heap HRO.out 2
  have r3 : W3.cell? ⟨g, 3, none⟩ = some (.int .i64 mi) := cell_of_heap HRO.out 3
  have r4 : W3.cell? ⟨g, 4, none⟩ = some (.int .i64 hi) := cell_of_heap HRO.out 4
  have c0 : W3.cell? ⟨w.heap.size, 0, none⟩ = some (.int .i64 op) := cell_of_heap HRI3.out 0
  have c1 : W3.cell? ⟨w.heap.size, 1, none⟩ = some (.int .i64 d) := cell_of_heap HRI3.out 1
  have c2 : W3.cell? ⟨w.heap.size, 2, none⟩ = some (.int .i64 a) := cell_of_heap HRI3.out 2
  have c3 : W3.cell? ⟨w.heap.size, 3, none⟩ = some (.int .i64 b) := cell_of_heap HRI3.out 3
  have c4 : W3.cell? ⟨w.heap.size, 4, none⟩ = some (.int .i64 n) := cell_of_heap HRI3.out 4
  refine wpList_nil ?_
  refine hK2 _ _ ?_
  clear hK2
  go_wp2
  go_ret2
  exact ⟨by have e := HRES.out; subst e; rfl, HB3.out⟩
set_option maxRecDepth 100000 in
set_option maxHeartbeats 8000000 in
theorem encR_I (op d a b n lo mi hi v r0 : Int) (s : ByteArray) (d0 : 0 ≤ d) (d1 : d < 32) (a0 : 0 ≤ a) (a1 : a < 32) (b0 : 0 ≤ b) (b1 : b < 32) (n0 : -4294967296 < n) (n1 : n < 4294967296) (l0 : 0 ≤ lo) (l1 : lo < 128) (m0 : 0 ≤ mi) (m1 : mi < 8) (h0 : 0 ≤ hi) (h1 : hi < 128) (HR : Hid (right ⟨op, d, a, b, n⟩ = true)) (Hv : Hid (rowVals op = [.string s, .int .u8 73, .int .i64 lo, .int .i64 mi, .int .i64 hi])) (Q0 : Hid (n / 1 % 4096 = r0)) (r00 : 0 ≤ r0) (r01 : r0 < 4096) (HRES : Hid (lo + mi * 4096 + a * 32768 + d * 128 + r0 * 1048576 = v)) (w : World) :
    Calls Try.prog 39 #[.agg #[.int .i64 op, .int .i64 d, .int .i64 a, .int .i64 b, .int .i64 n]] w fun e w' => e = .returned (.tuple #[.int .i64 v, .int .i64 0]) ∧ Both w w' := by
  go_enter Try.func39, Try.ntmps39
  go_wp2_with fail
  refine (rightR_val HR.out _).mono ?_
  rintro e W1 ⟨rfl, hb1⟩
  have HRI := Lib.hid ((hb1.1.block w.heap.size (by simp)).trans (heap_alloc_new _ _))
  have hli : w.heap.size < W1.heap.size := by have := hb1.1.size; simp at this; omega
  have c0 : W1.cell? ⟨w.heap.size, 0, none⟩ = some (.int .i64 op) := cell_of_heap HRI.out 0
  have HB1 := Lib.hid (((Both.refl w).alloc _ _).trans hb1)
  clear hb1
  go_wp2_with fail
  clear c0
  refine (rowof_lit Hv.out _).mono ?_
  rintro e W2 ⟨rfl, hb2⟩
  have hli2 : w.heap.size < W2.heap.size := Nat.lt_of_lt_of_le hli hb2.1.size
  have HRI2 := Lib.hid ((hb2.1.block w.heap.size hli).trans HRI.out)
  have HB2 := Lib.hid (HB1.out.trans hb2)
  clear hb2 HB1 HRI
  rename_i hK2 K hK
  refine hK _ _ ?_
  clear hK K
  refine wpList_one rfl (w' := W2.alloc (.cells rowZero 90)) (v := .pointer (some ⟨W2.heap.size, 0, none⟩)) (by kernel_rfl) ?_
  refine wpList_store_row rfl 90 (.tmp 5) (.tmp 14) rfl W2.heap.size #[.string s, .int .u8 73, .int .i64 lo, .int .i64 mi, .int .i64 hi] (by kernel_rfl) (by kernel_rfl) _ _ (heap_alloc_new _ _) row_size rfl (by kernel_rfl) ?_
  have HRO := Lib.hid (setRow_heap _ _ _ #[.string s, .int .u8 73, .int .i64 lo, .int .i64 mi, .int .i64 hi] _ _ (heap_alloc_new W2 (.cells rowZero 90)))
  have HB3 := Lib.hid ((HB2.out.alloc rowZero 90).setRow (g := W2.heap.size) (Nat.le_of_lt hli2) #[.string s, .int .u8 73, .int .i64 lo, .int .i64 mi, .int .i64 hi])
  have HRI3 : Hid (((W2.alloc (.cells rowZero 90)).setRow W2.heap.size #[.string s, .int .u8 73, .int .i64 lo, .int .i64 mi, .int .i64 hi]).heap[w.heap.size]? = some (.cells #[.int .i64 op, .int .i64 d, .int .i64 a, .int .i64 b, .int .i64 n] 24 (0, 0))) := by
    show _ = _
    rw [setRow_other _ _ _ _ (by omega)]
    exact (heap_alloc_old _ _ hli2).trans HRI2.out
  generalize (W2.alloc (.cells rowZero 90)).setRow W2.heap.size #[.string s, .int .u8 73, .int .i64 lo, .int .i64 mi, .int .i64 hi] = W3 at HRO HB3 HRI3 ⊢
  generalize W2.heap.size = g at HRO ⊢
  clear HB2 HRI2 hli2 hli
  have r1 : W3.cell? ⟨g, 1, none⟩ = some (.int .u8 73) := cell_of_heap HRO.out 1
  have r2 : W3.cell? ⟨g, 2, none⟩ = some (.int .i64 lo) := cell_of_heap HRO.out 2
  have r3 : W3.cell? ⟨g, 3, none⟩ = some (.int .i64 mi) := cell_of_heap HRO.out 3
  have r4 : W3.cell? ⟨g, 4, none⟩ = some (.int .i64 hi) := cell_of_heap HRO.out 4
  have c0 : W3.cell? ⟨w.heap.size, 0, none⟩ = some (.int .i64 op) := cell_of_heap HRI3.out 0
  have c1 : W3.cell? ⟨w.heap.size, 1, none⟩ = some (.int .i64 d) := cell_of_heap HRI3.out 1
  have c2 : W3.cell? ⟨w.heap.size, 2, none⟩ = some (.int .i64 a) := cell_of_heap HRI3.out 2
  have c3 : W3.cell? ⟨w.heap.size, 3, none⟩ = some (.int .i64 b) := cell_of_heap HRI3.out 3
  have c4 : W3.cell? ⟨w.heap.size, 4, none⟩ = some (.int .i64 n) := cell_of_heap HRI3.out 4
  refine wpList_nil ?_
  refine hK2 _ _ ?_
  clear hK2
  have hgl : g < W3.heap.size := by
    refine Nat.lt_of_not_le fun hge => ?_
    have := HRO.out
    rw [Array.getElem?_eq_none hge] at this
    cases this
  have hil : w.heap.size < W3.heap.size := by
    refine Nat.lt_of_not_le fun hge => ?_
    have := HRI3.out
    rw [Array.getElem?_eq_none hge] at this
    cases this
  have hkeep : ∀ w', Both W3 w' → w'.cell? ⟨w.heap.size, 1, none⟩ = some (.int .i64 d) ∧ w'.cell? ⟨w.heap.size, 3, none⟩ = some (.int .i64 b) ∧ w'.cell? ⟨g, 2, none⟩ = some (.int .i64 lo) := fun w' h =>
    ⟨(h.cell (p := ⟨w.heap.size, 1, none⟩) hil).trans c1, (h.cell (p := ⟨w.heap.size, 3, none⟩) hil).trans c3, (h.cell (p := ⟨g, 2, none⟩) hgl).trans r2⟩
  have HKEEP := Lib.hid hkeep
  clear hkeep hgl hil
  go_upto_region 13 with (fail)
  clear r1 r2 r3 r4 c0 c1 c2 c3 c4
  go_region_held3 (fun w' => w'.cell? ⟨w.heap.size, 1, none⟩ = some (.int .i64 d) ∧ w'.cell? ⟨w.heap.size, 3, none⟩ = some (.int .i64 b) ∧ w'.cell? ⟨g, 2, none⟩ = some (.int .i64 lo))
    (first | exact HKEEP.out _ (((Both.refl _).drew).trans hb3) | exact HKEEP.out _ ((Both.refl _).drew))
    (first
      | (go_at_call 70; ((with_reducible refine (bits_0_12 n0 n1 Q0.out _).mono ?_); rintro e w' ⟨rfl, hb3⟩)))
  have HB6 := Lib.hid (HB3.out.trans (((Both.refl _).drew).trans hb3))
  clear hb3
  rename_i hh
  clear hh
  go_wp2
  go_ret2
  exact ⟨by have e := HRES.out; subst e; first | rfl | (refine congrArg (fun x => Ending.returned (Value.tuple #[Value.int .i64 x, Value.int .i64 0])) ?_; simp only [IntKind.wrap_i64, wrap64]; omega), HB6.out⟩
set_option maxRecDepth 100000 in
set_option maxHeartbeats 8000000 in
theorem encR_C (op d a b n lo mi hi v r0 : Int) (s : ByteArray) (d0 : 0 ≤ d) (d1 : d < 32) (a0 : 0 ≤ a) (a1 : a < 32) (b0 : 0 ≤ b) (b1 : b < 32) (n0 : -4294967296 < n) (n1 : n < 4294967296) (l0 : 0 ≤ lo) (l1 : lo < 128) (m0 : 0 ≤ mi) (m1 : mi < 8) (h0 : 0 ≤ hi) (h1 : hi < 128) (HR : Hid (right ⟨op, d, a, b, n⟩ = true)) (Hv : Hid (rowVals op = [.string s, .int .u8 67, .int .i64 lo, .int .i64 mi, .int .i64 hi])) (Q0 : Hid (n / 1 % 4096 = r0)) (r00 : 0 ≤ r0) (r01 : r0 < 4096) (HRES : Hid (lo + mi * 4096 + a * 32768 + d * 128 + r0 * 1048576 = v)) (w : World) :
    Calls Try.prog 39 #[.agg #[.int .i64 op, .int .i64 d, .int .i64 a, .int .i64 b, .int .i64 n]] w fun e w' => e = .returned (.tuple #[.int .i64 v, .int .i64 0]) ∧ Both w w' := by
  go_enter Try.func39, Try.ntmps39
  go_wp2_with fail
  refine (rightR_val HR.out _).mono ?_
  rintro e W1 ⟨rfl, hb1⟩
  have HRI := Lib.hid ((hb1.1.block w.heap.size (by simp)).trans (heap_alloc_new _ _))
  have hli : w.heap.size < W1.heap.size := by have := hb1.1.size; simp at this; omega
  have c0 : W1.cell? ⟨w.heap.size, 0, none⟩ = some (.int .i64 op) := cell_of_heap HRI.out 0
  have HB1 := Lib.hid (((Both.refl w).alloc _ _).trans hb1)
  clear hb1
  go_wp2_with fail
  clear c0
  refine (rowof_lit Hv.out _).mono ?_
  rintro e W2 ⟨rfl, hb2⟩
  have hli2 : w.heap.size < W2.heap.size := Nat.lt_of_lt_of_le hli hb2.1.size
  have HRI2 := Lib.hid ((hb2.1.block w.heap.size hli).trans HRI.out)
  have HB2 := Lib.hid (HB1.out.trans hb2)
  clear hb2 HB1 HRI
  rename_i hK2 K hK
  refine hK _ _ ?_
  clear hK K
  refine wpList_one rfl (w' := W2.alloc (.cells rowZero 90)) (v := .pointer (some ⟨W2.heap.size, 0, none⟩)) (by kernel_rfl) ?_
  refine wpList_store_row rfl 90 (.tmp 5) (.tmp 14) rfl W2.heap.size #[.string s, .int .u8 67, .int .i64 lo, .int .i64 mi, .int .i64 hi] (by kernel_rfl) (by kernel_rfl) _ _ (heap_alloc_new _ _) row_size rfl (by kernel_rfl) ?_
  have HRO := Lib.hid (setRow_heap _ _ _ #[.string s, .int .u8 67, .int .i64 lo, .int .i64 mi, .int .i64 hi] _ _ (heap_alloc_new W2 (.cells rowZero 90)))
  have HB3 := Lib.hid ((HB2.out.alloc rowZero 90).setRow (g := W2.heap.size) (Nat.le_of_lt hli2) #[.string s, .int .u8 67, .int .i64 lo, .int .i64 mi, .int .i64 hi])
  have HRI3 : Hid (((W2.alloc (.cells rowZero 90)).setRow W2.heap.size #[.string s, .int .u8 67, .int .i64 lo, .int .i64 mi, .int .i64 hi]).heap[w.heap.size]? = some (.cells #[.int .i64 op, .int .i64 d, .int .i64 a, .int .i64 b, .int .i64 n] 24 (0, 0))) := by
    show _ = _
    rw [setRow_other _ _ _ _ (by omega)]
    exact (heap_alloc_old _ _ hli2).trans HRI2.out
  generalize (W2.alloc (.cells rowZero 90)).setRow W2.heap.size #[.string s, .int .u8 67, .int .i64 lo, .int .i64 mi, .int .i64 hi] = W3 at HRO HB3 HRI3 ⊢
  generalize W2.heap.size = g at HRO ⊢
  clear HB2 HRI2 hli2 hli
  have r1 : W3.cell? ⟨g, 1, none⟩ = some (.int .u8 67) := cell_of_heap HRO.out 1
  have r2 : W3.cell? ⟨g, 2, none⟩ = some (.int .i64 lo) := cell_of_heap HRO.out 2
  have r3 : W3.cell? ⟨g, 3, none⟩ = some (.int .i64 mi) := cell_of_heap HRO.out 3
  have r4 : W3.cell? ⟨g, 4, none⟩ = some (.int .i64 hi) := cell_of_heap HRO.out 4
  have c0 : W3.cell? ⟨w.heap.size, 0, none⟩ = some (.int .i64 op) := cell_of_heap HRI3.out 0
  have c1 : W3.cell? ⟨w.heap.size, 1, none⟩ = some (.int .i64 d) := cell_of_heap HRI3.out 1
  have c2 : W3.cell? ⟨w.heap.size, 2, none⟩ = some (.int .i64 a) := cell_of_heap HRI3.out 2
  have c3 : W3.cell? ⟨w.heap.size, 3, none⟩ = some (.int .i64 b) := cell_of_heap HRI3.out 3
  have c4 : W3.cell? ⟨w.heap.size, 4, none⟩ = some (.int .i64 n) := cell_of_heap HRI3.out 4
  refine wpList_nil ?_
  refine hK2 _ _ ?_
  clear hK2
  have hgl : g < W3.heap.size := by
    refine Nat.lt_of_not_le fun hge => ?_
    have := HRO.out
    rw [Array.getElem?_eq_none hge] at this
    cases this
  have hil : w.heap.size < W3.heap.size := by
    refine Nat.lt_of_not_le fun hge => ?_
    have := HRI3.out
    rw [Array.getElem?_eq_none hge] at this
    cases this
  have hkeep : ∀ w', Both W3 w' → w'.cell? ⟨w.heap.size, 1, none⟩ = some (.int .i64 d) ∧ w'.cell? ⟨w.heap.size, 3, none⟩ = some (.int .i64 b) ∧ w'.cell? ⟨g, 2, none⟩ = some (.int .i64 lo) := fun w' h =>
    ⟨(h.cell (p := ⟨w.heap.size, 1, none⟩) hil).trans c1, (h.cell (p := ⟨w.heap.size, 3, none⟩) hil).trans c3, (h.cell (p := ⟨g, 2, none⟩) hgl).trans r2⟩
  have HKEEP := Lib.hid hkeep
  clear hkeep hgl hil
  go_upto_region 13 with (fail)
  clear r1 r2 r3 r4 c0 c1 c2 c3 c4
  go_region_held3 (fun w' => w'.cell? ⟨w.heap.size, 1, none⟩ = some (.int .i64 d) ∧ w'.cell? ⟨w.heap.size, 3, none⟩ = some (.int .i64 b) ∧ w'.cell? ⟨g, 2, none⟩ = some (.int .i64 lo))
    (first | exact HKEEP.out _ (((Both.refl _).drew).trans hb3) | exact HKEEP.out _ ((Both.refl _).drew))
    (first
      | (go_at_call 70; ((with_reducible refine (bits_0_12 n0 n1 Q0.out _).mono ?_); rintro e w' ⟨rfl, hb3⟩)))
  have HB6 := Lib.hid (HB3.out.trans (((Both.refl _).drew).trans hb3))
  clear hb3
  rename_i hh
  clear hh
  go_wp2
  go_ret2
  exact ⟨by have e := HRES.out; subst e; first | rfl | (refine congrArg (fun x => Ending.returned (Value.tuple #[Value.int .i64 x, Value.int .i64 0])) ?_; simp only [IntKind.wrap_i64, wrap64]; omega), HB6.out⟩
set_option maxRecDepth 100000 in
set_option maxHeartbeats 8000000 in
theorem encR_H (op d a b n lo mi hi v : Int) (s : ByteArray) (d0 : 0 ≤ d) (d1 : d < 32) (a0 : 0 ≤ a) (a1 : a < 32) (b0 : 0 ≤ b) (b1 : b < 32) (n0 : 0 ≤ n) (n1 : n < 32) (l0 : 0 ≤ lo) (l1 : lo < 128) (m0 : 0 ≤ mi) (m1 : mi < 8) (h0 : 0 ≤ hi) (h1 : hi < 128) (HR : Hid (right ⟨op, d, a, b, n⟩ = true)) (Hv : Hid (rowVals op = [.string s, .int .u8 72, .int .i64 lo, .int .i64 mi, .int .i64 hi])) (HRES : Hid (lo + mi * 4096 + a * 32768 + d * 128 + n * 1048576 + hi * 33554432 = v)) (w : World) :
    Calls Try.prog 39 #[.agg #[.int .i64 op, .int .i64 d, .int .i64 a, .int .i64 b, .int .i64 n]] w fun e w' => e = .returned (.tuple #[.int .i64 v, .int .i64 0]) ∧ Both w w' := by
  go_enter Try.func39, Try.ntmps39
  go_wp2_with fail
  refine (rightR_val HR.out _).mono ?_
  rintro e W1 ⟨rfl, hb1⟩
  have HRI := Lib.hid ((hb1.1.block w.heap.size (by simp)).trans (heap_alloc_new _ _))
  have hli : w.heap.size < W1.heap.size := by have := hb1.1.size; simp at this; omega
  have c0 : W1.cell? ⟨w.heap.size, 0, none⟩ = some (.int .i64 op) := cell_of_heap HRI.out 0
  have HB1 := Lib.hid (((Both.refl w).alloc _ _).trans hb1)
  clear hb1
  go_wp2_with fail
  clear c0
  refine (rowof_lit Hv.out _).mono ?_
  rintro e W2 ⟨rfl, hb2⟩
  have hli2 : w.heap.size < W2.heap.size := Nat.lt_of_lt_of_le hli hb2.1.size
  have HRI2 := Lib.hid ((hb2.1.block w.heap.size hli).trans HRI.out)
  have HB2 := Lib.hid (HB1.out.trans hb2)
  clear hb2 HB1 HRI
  rename_i hK2 K hK
  refine hK _ _ ?_
  clear hK K
  refine wpList_one rfl (w' := W2.alloc (.cells rowZero 90)) (v := .pointer (some ⟨W2.heap.size, 0, none⟩)) (by kernel_rfl) ?_
  refine wpList_store_row rfl 90 (.tmp 5) (.tmp 14) rfl W2.heap.size #[.string s, .int .u8 72, .int .i64 lo, .int .i64 mi, .int .i64 hi] (by kernel_rfl) (by kernel_rfl) _ _ (heap_alloc_new _ _) row_size rfl (by kernel_rfl) ?_
  have HRO := Lib.hid (setRow_heap _ _ _ #[.string s, .int .u8 72, .int .i64 lo, .int .i64 mi, .int .i64 hi] _ _ (heap_alloc_new W2 (.cells rowZero 90)))
  have HB3 := Lib.hid ((HB2.out.alloc rowZero 90).setRow (g := W2.heap.size) (Nat.le_of_lt hli2) #[.string s, .int .u8 72, .int .i64 lo, .int .i64 mi, .int .i64 hi])
  have HRI3 : Hid (((W2.alloc (.cells rowZero 90)).setRow W2.heap.size #[.string s, .int .u8 72, .int .i64 lo, .int .i64 mi, .int .i64 hi]).heap[w.heap.size]? = some (.cells #[.int .i64 op, .int .i64 d, .int .i64 a, .int .i64 b, .int .i64 n] 24 (0, 0))) := by
    show _ = _
    rw [setRow_other _ _ _ _ (by omega)]
    exact (heap_alloc_old _ _ hli2).trans HRI2.out
  generalize (W2.alloc (.cells rowZero 90)).setRow W2.heap.size #[.string s, .int .u8 72, .int .i64 lo, .int .i64 mi, .int .i64 hi] = W3 at HRO HB3 HRI3 ⊢
  generalize W2.heap.size = g at HRO ⊢
  clear HB2 HRI2 hli2 hli
  have r1 : W3.cell? ⟨g, 1, none⟩ = some (.int .u8 72) := cell_of_heap HRO.out 1
  have r2 : W3.cell? ⟨g, 2, none⟩ = some (.int .i64 lo) := cell_of_heap HRO.out 2
  have r3 : W3.cell? ⟨g, 3, none⟩ = some (.int .i64 mi) := cell_of_heap HRO.out 3
  have r4 : W3.cell? ⟨g, 4, none⟩ = some (.int .i64 hi) := cell_of_heap HRO.out 4
  have c0 : W3.cell? ⟨w.heap.size, 0, none⟩ = some (.int .i64 op) := cell_of_heap HRI3.out 0
  have c1 : W3.cell? ⟨w.heap.size, 1, none⟩ = some (.int .i64 d) := cell_of_heap HRI3.out 1
  have c2 : W3.cell? ⟨w.heap.size, 2, none⟩ = some (.int .i64 a) := cell_of_heap HRI3.out 2
  have c3 : W3.cell? ⟨w.heap.size, 3, none⟩ = some (.int .i64 b) := cell_of_heap HRI3.out 3
  have c4 : W3.cell? ⟨w.heap.size, 4, none⟩ = some (.int .i64 n) := cell_of_heap HRI3.out 4
  refine wpList_nil ?_
  refine hK2 _ _ ?_
  clear hK2
  go_wp2
  go_ret2
  exact ⟨by have e := HRES.out; subst e; rfl, HB3.out⟩
set_option maxRecDepth 100000 in
set_option maxHeartbeats 8000000 in
theorem encR_S (op d a b n lo mi hi v r0 r1 : Int) (s : ByteArray) (d0 : 0 ≤ d) (d1 : d < 32) (a0 : 0 ≤ a) (a1 : a < 32) (b0 : 0 ≤ b) (b1 : b < 32) (n0 : -4294967296 < n) (n1 : n < 4294967296) (l0 : 0 ≤ lo) (l1 : lo < 128) (m0 : 0 ≤ mi) (m1 : mi < 8) (h0 : 0 ≤ hi) (h1 : hi < 128) (HR : Hid (right ⟨op, d, a, b, n⟩ = true)) (Hv : Hid (rowVals op = [.string s, .int .u8 83, .int .i64 lo, .int .i64 mi, .int .i64 hi])) (Q0 : Hid (n / 1 % 32 = r0)) (r00 : 0 ≤ r0) (r01 : r0 < 32) (Q1 : Hid (n / 32 % 128 = r1)) (r10 : 0 ≤ r1) (r11 : r1 < 128) (HRES : Hid (lo + mi * 4096 + a * 32768 + r0 * 128 + b * 1048576 + r1 * 33554432 = v)) (w : World) :
    Calls Try.prog 39 #[.agg #[.int .i64 op, .int .i64 d, .int .i64 a, .int .i64 b, .int .i64 n]] w fun e w' => e = .returned (.tuple #[.int .i64 v, .int .i64 0]) ∧ Both w w' := by
  go_enter Try.func39, Try.ntmps39
  go_wp2_with fail
  refine (rightR_val HR.out _).mono ?_
  rintro e W1 ⟨rfl, hb1⟩
  have HRI := Lib.hid ((hb1.1.block w.heap.size (by simp)).trans (heap_alloc_new _ _))
  have hli : w.heap.size < W1.heap.size := by have := hb1.1.size; simp at this; omega
  have c0 : W1.cell? ⟨w.heap.size, 0, none⟩ = some (.int .i64 op) := cell_of_heap HRI.out 0
  have HB1 := Lib.hid (((Both.refl w).alloc _ _).trans hb1)
  clear hb1
  go_wp2_with fail
  clear c0
  refine (rowof_lit Hv.out _).mono ?_
  rintro e W2 ⟨rfl, hb2⟩
  have hli2 : w.heap.size < W2.heap.size := Nat.lt_of_lt_of_le hli hb2.1.size
  have HRI2 := Lib.hid ((hb2.1.block w.heap.size hli).trans HRI.out)
  have HB2 := Lib.hid (HB1.out.trans hb2)
  clear hb2 HB1 HRI
  rename_i hK2 K hK
  refine hK _ _ ?_
  clear hK K
  refine wpList_one rfl (w' := W2.alloc (.cells rowZero 90)) (v := .pointer (some ⟨W2.heap.size, 0, none⟩)) (by kernel_rfl) ?_
  refine wpList_store_row rfl 90 (.tmp 5) (.tmp 14) rfl W2.heap.size #[.string s, .int .u8 83, .int .i64 lo, .int .i64 mi, .int .i64 hi] (by kernel_rfl) (by kernel_rfl) _ _ (heap_alloc_new _ _) row_size rfl (by kernel_rfl) ?_
  have HRO := Lib.hid (setRow_heap _ _ _ #[.string s, .int .u8 83, .int .i64 lo, .int .i64 mi, .int .i64 hi] _ _ (heap_alloc_new W2 (.cells rowZero 90)))
  have HB3 := Lib.hid ((HB2.out.alloc rowZero 90).setRow (g := W2.heap.size) (Nat.le_of_lt hli2) #[.string s, .int .u8 83, .int .i64 lo, .int .i64 mi, .int .i64 hi])
  have HRI3 : Hid (((W2.alloc (.cells rowZero 90)).setRow W2.heap.size #[.string s, .int .u8 83, .int .i64 lo, .int .i64 mi, .int .i64 hi]).heap[w.heap.size]? = some (.cells #[.int .i64 op, .int .i64 d, .int .i64 a, .int .i64 b, .int .i64 n] 24 (0, 0))) := by
    show _ = _
    rw [setRow_other _ _ _ _ (by omega)]
    exact (heap_alloc_old _ _ hli2).trans HRI2.out
  generalize (W2.alloc (.cells rowZero 90)).setRow W2.heap.size #[.string s, .int .u8 83, .int .i64 lo, .int .i64 mi, .int .i64 hi] = W3 at HRO HB3 HRI3 ⊢
  generalize W2.heap.size = g at HRO ⊢
  clear HB2 HRI2 hli2 hli
  have r1 : W3.cell? ⟨g, 1, none⟩ = some (.int .u8 83) := cell_of_heap HRO.out 1
  have r2 : W3.cell? ⟨g, 2, none⟩ = some (.int .i64 lo) := cell_of_heap HRO.out 2
  have r3 : W3.cell? ⟨g, 3, none⟩ = some (.int .i64 mi) := cell_of_heap HRO.out 3
  have r4 : W3.cell? ⟨g, 4, none⟩ = some (.int .i64 hi) := cell_of_heap HRO.out 4
  have c0 : W3.cell? ⟨w.heap.size, 0, none⟩ = some (.int .i64 op) := cell_of_heap HRI3.out 0
  have c1 : W3.cell? ⟨w.heap.size, 1, none⟩ = some (.int .i64 d) := cell_of_heap HRI3.out 1
  have c2 : W3.cell? ⟨w.heap.size, 2, none⟩ = some (.int .i64 a) := cell_of_heap HRI3.out 2
  have c3 : W3.cell? ⟨w.heap.size, 3, none⟩ = some (.int .i64 b) := cell_of_heap HRI3.out 3
  have c4 : W3.cell? ⟨w.heap.size, 4, none⟩ = some (.int .i64 n) := cell_of_heap HRI3.out 4
  refine wpList_nil ?_
  refine hK2 _ _ ?_
  clear hK2
  have hgl : g < W3.heap.size := by
    refine Nat.lt_of_not_le fun hge => ?_
    have := HRO.out
    rw [Array.getElem?_eq_none hge] at this
    cases this
  have hil : w.heap.size < W3.heap.size := by
    refine Nat.lt_of_not_le fun hge => ?_
    have := HRI3.out
    rw [Array.getElem?_eq_none hge] at this
    cases this
  have hkeep : ∀ w', Both W3 w' → w'.cell? ⟨w.heap.size, 1, none⟩ = some (.int .i64 d) ∧ w'.cell? ⟨w.heap.size, 3, none⟩ = some (.int .i64 b) ∧ w'.cell? ⟨g, 2, none⟩ = some (.int .i64 lo) := fun w' h =>
    ⟨(h.cell (p := ⟨w.heap.size, 1, none⟩) hil).trans c1, (h.cell (p := ⟨w.heap.size, 3, none⟩) hil).trans c3, (h.cell (p := ⟨g, 2, none⟩) hgl).trans r2⟩
  have HKEEP := Lib.hid hkeep
  clear hkeep hgl hil
  go_upto_region 17 with (fail)
  clear r1 r2 r3 r4 c0 c1 c2 c3 c4
  go_region_held3 (fun w' => w'.cell? ⟨w.heap.size, 1, none⟩ = some (.int .i64 d) ∧ w'.cell? ⟨w.heap.size, 3, none⟩ = some (.int .i64 b) ∧ w'.cell? ⟨g, 2, none⟩ = some (.int .i64 lo))
    (first | exact HKEEP.out _ ((((Both.refl _).drew).trans hb3).trans hb4) | exact HKEEP.out _ (((Both.refl _).drew).trans hb3) | exact HKEEP.out _ ((Both.refl _).drew))
    (first
      | (go_at_call 70; ((with_reducible refine (bits_0_5 n0 n1 Q0.out _).mono ?_); rintro e w' ⟨rfl, hb3⟩))
      | (go_at_call 70; ((with_reducible refine (bits_5_7 n0 n1 Q1.out _).mono ?_); rintro e w' ⟨rfl, hb4⟩)))
  have HB6 := Lib.hid (HB3.out.trans ((((Both.refl _).drew).trans hb3).trans hb4))
  clear hb3 hb4
  rename_i hh
  clear hh
  go_wp2
  go_ret2
  exact ⟨by have e := HRES.out; subst e; first | rfl | (refine congrArg (fun x => Ending.returned (Value.tuple #[Value.int .i64 x, Value.int .i64 0])) ?_; simp only [IntKind.wrap_i64, wrap64]; omega), HB6.out⟩
set_option maxRecDepth 100000 in
set_option maxHeartbeats 8000000 in
theorem encR_B (op d a b n lo mi hi v r0 r1 r2 r3 : Int) (s : ByteArray) (d0 : 0 ≤ d) (d1 : d < 32) (a0 : 0 ≤ a) (a1 : a < 32) (b0 : 0 ≤ b) (b1 : b < 32) (n0 : -4294967296 < n) (n1 : n < 4294967296) (l0 : 0 ≤ lo) (l1 : lo < 128) (m0 : 0 ≤ mi) (m1 : mi < 8) (h0 : 0 ≤ hi) (h1 : hi < 128) (HR : Hid (right ⟨op, d, a, b, n⟩ = true)) (Hv : Hid (rowVals op = [.string s, .int .u8 66, .int .i64 lo, .int .i64 mi, .int .i64 hi])) (Q0 : Hid (n / 2048 % 2 = r0)) (r00 : 0 ≤ r0) (r01 : r0 < 2) (Q1 : Hid (n / 2 % 16 = r1)) (r10 : 0 ≤ r1) (r11 : r1 < 16) (Q2 : Hid (n / 32 % 64 = r2)) (r20 : 0 ≤ r2) (r21 : r2 < 64) (Q3 : Hid (n / 4096 % 2 = r3)) (r30 : 0 ≤ r3) (r31 : r3 < 2) (HRES : Hid (lo + mi * 4096 + a * 32768 + r0 * 128 + r1 * 256 + b * 1048576 + r2 * 33554432 + r3 * 2147483648 = v)) (w : World) :
    Calls Try.prog 39 #[.agg #[.int .i64 op, .int .i64 d, .int .i64 a, .int .i64 b, .int .i64 n]] w fun e w' => e = .returned (.tuple #[.int .i64 v, .int .i64 0]) ∧ Both w w' := by
  go_enter Try.func39, Try.ntmps39
  go_wp2_with fail
  refine (rightR_val HR.out _).mono ?_
  rintro e W1 ⟨rfl, hb1⟩
  have HRI := Lib.hid ((hb1.1.block w.heap.size (by simp)).trans (heap_alloc_new _ _))
  have hli : w.heap.size < W1.heap.size := by have := hb1.1.size; simp at this; omega
  have c0 : W1.cell? ⟨w.heap.size, 0, none⟩ = some (.int .i64 op) := cell_of_heap HRI.out 0
  have HB1 := Lib.hid (((Both.refl w).alloc _ _).trans hb1)
  clear hb1
  go_wp2_with fail
  clear c0
  refine (rowof_lit Hv.out _).mono ?_
  rintro e W2 ⟨rfl, hb2⟩
  have hli2 : w.heap.size < W2.heap.size := Nat.lt_of_lt_of_le hli hb2.1.size
  have HRI2 := Lib.hid ((hb2.1.block w.heap.size hli).trans HRI.out)
  have HB2 := Lib.hid (HB1.out.trans hb2)
  clear hb2 HB1 HRI
  rename_i hK2 K hK
  refine hK _ _ ?_
  clear hK K
  refine wpList_one rfl (w' := W2.alloc (.cells rowZero 90)) (v := .pointer (some ⟨W2.heap.size, 0, none⟩)) (by kernel_rfl) ?_
  refine wpList_store_row rfl 90 (.tmp 5) (.tmp 14) rfl W2.heap.size #[.string s, .int .u8 66, .int .i64 lo, .int .i64 mi, .int .i64 hi] (by kernel_rfl) (by kernel_rfl) _ _ (heap_alloc_new _ _) row_size rfl (by kernel_rfl) ?_
  have HRO := Lib.hid (setRow_heap _ _ _ #[.string s, .int .u8 66, .int .i64 lo, .int .i64 mi, .int .i64 hi] _ _ (heap_alloc_new W2 (.cells rowZero 90)))
  have HB3 := Lib.hid ((HB2.out.alloc rowZero 90).setRow (g := W2.heap.size) (Nat.le_of_lt hli2) #[.string s, .int .u8 66, .int .i64 lo, .int .i64 mi, .int .i64 hi])
  have HRI3 : Hid (((W2.alloc (.cells rowZero 90)).setRow W2.heap.size #[.string s, .int .u8 66, .int .i64 lo, .int .i64 mi, .int .i64 hi]).heap[w.heap.size]? = some (.cells #[.int .i64 op, .int .i64 d, .int .i64 a, .int .i64 b, .int .i64 n] 24 (0, 0))) := by
    show _ = _
    rw [setRow_other _ _ _ _ (by omega)]
    exact (heap_alloc_old _ _ hli2).trans HRI2.out
  generalize (W2.alloc (.cells rowZero 90)).setRow W2.heap.size #[.string s, .int .u8 66, .int .i64 lo, .int .i64 mi, .int .i64 hi] = W3 at HRO HB3 HRI3 ⊢
  generalize W2.heap.size = g at HRO ⊢
  clear HB2 HRI2 hli2 hli
  have r1 : W3.cell? ⟨g, 1, none⟩ = some (.int .u8 66) := cell_of_heap HRO.out 1
  have r2 : W3.cell? ⟨g, 2, none⟩ = some (.int .i64 lo) := cell_of_heap HRO.out 2
  have r3 : W3.cell? ⟨g, 3, none⟩ = some (.int .i64 mi) := cell_of_heap HRO.out 3
  have r4 : W3.cell? ⟨g, 4, none⟩ = some (.int .i64 hi) := cell_of_heap HRO.out 4
  have c0 : W3.cell? ⟨w.heap.size, 0, none⟩ = some (.int .i64 op) := cell_of_heap HRI3.out 0
  have c1 : W3.cell? ⟨w.heap.size, 1, none⟩ = some (.int .i64 d) := cell_of_heap HRI3.out 1
  have c2 : W3.cell? ⟨w.heap.size, 2, none⟩ = some (.int .i64 a) := cell_of_heap HRI3.out 2
  have c3 : W3.cell? ⟨w.heap.size, 3, none⟩ = some (.int .i64 b) := cell_of_heap HRI3.out 3
  have c4 : W3.cell? ⟨w.heap.size, 4, none⟩ = some (.int .i64 n) := cell_of_heap HRI3.out 4
  refine wpList_nil ?_
  refine hK2 _ _ ?_
  clear hK2
  have hgl : g < W3.heap.size := by
    refine Nat.lt_of_not_le fun hge => ?_
    have := HRO.out
    rw [Array.getElem?_eq_none hge] at this
    cases this
  have hil : w.heap.size < W3.heap.size := by
    refine Nat.lt_of_not_le fun hge => ?_
    have := HRI3.out
    rw [Array.getElem?_eq_none hge] at this
    cases this
  have hkeep : ∀ w', Both W3 w' → w'.cell? ⟨w.heap.size, 1, none⟩ = some (.int .i64 d) ∧ w'.cell? ⟨w.heap.size, 3, none⟩ = some (.int .i64 b) ∧ w'.cell? ⟨g, 2, none⟩ = some (.int .i64 lo) := fun w' h =>
    ⟨(h.cell (p := ⟨w.heap.size, 1, none⟩) hil).trans c1, (h.cell (p := ⟨w.heap.size, 3, none⟩) hil).trans c3, (h.cell (p := ⟨g, 2, none⟩) hgl).trans r2⟩
  have HKEEP := Lib.hid hkeep
  clear hkeep hgl hil
  go_upto_region 19 with (fail)
  clear r1 r2 r3 r4 c0 c1 c2 c3 c4
  go_region_held3 (fun w' => w'.cell? ⟨w.heap.size, 1, none⟩ = some (.int .i64 d) ∧ w'.cell? ⟨w.heap.size, 3, none⟩ = some (.int .i64 b) ∧ w'.cell? ⟨g, 2, none⟩ = some (.int .i64 lo))
    (first | exact HKEEP.out _ ((((((Both.refl _).drew).trans hb3).trans hb4).trans hb5).trans hb6) | exact HKEEP.out _ (((((Both.refl _).drew).trans hb3).trans hb4).trans hb5) | exact HKEEP.out _ ((((Both.refl _).drew).trans hb3).trans hb4) | exact HKEEP.out _ (((Both.refl _).drew).trans hb3) | exact HKEEP.out _ ((Both.refl _).drew))
    (first
      | (go_at_call 70; ((with_reducible refine (bits_11_1 n0 n1 Q0.out _).mono ?_); rintro e w' ⟨rfl, hb3⟩))
      | (go_at_call 70; ((with_reducible refine (bits_1_4 n0 n1 Q1.out _).mono ?_); rintro e w' ⟨rfl, hb4⟩))
      | (go_at_call 70; ((with_reducible refine (bits_5_6 n0 n1 Q2.out _).mono ?_); rintro e w' ⟨rfl, hb5⟩))
      | (go_at_call 70; ((with_reducible refine (bits_12_1 n0 n1 Q3.out _).mono ?_); rintro e w' ⟨rfl, hb6⟩)))
  have HB6 := Lib.hid (HB3.out.trans ((((((Both.refl _).drew).trans hb3).trans hb4).trans hb5).trans hb6))
  clear hb3 hb4 hb5 hb6
  rename_i hh
  clear hh
  go_wp2
  go_ret2
  exact ⟨by have e := HRES.out; subst e; first | rfl | (refine congrArg (fun x => Ending.returned (Value.tuple #[Value.int .i64 x, Value.int .i64 0])) ?_; simp only [IntKind.wrap_i64, wrap64]; omega), HB6.out⟩
set_option maxRecDepth 100000 in
set_option maxHeartbeats 8000000 in
theorem encR_U (op d a b n lo mi hi v : Int) (s : ByteArray) (d0 : 0 ≤ d) (d1 : d < 32) (a0 : 0 ≤ a) (a1 : a < 32) (b0 : 0 ≤ b) (b1 : b < 32) (n0 : 0 ≤ n) (n1 : n < 1048576) (l0 : 0 ≤ lo) (l1 : lo < 128) (m0 : 0 ≤ mi) (m1 : mi < 8) (h0 : 0 ≤ hi) (h1 : hi < 128) (HR : Hid (right ⟨op, d, a, b, n⟩ = true)) (Hv : Hid (rowVals op = [.string s, .int .u8 85, .int .i64 lo, .int .i64 mi, .int .i64 hi])) (HRES : Hid (lo + d * 128 + n * 4096 = v)) (w : World) :
    Calls Try.prog 39 #[.agg #[.int .i64 op, .int .i64 d, .int .i64 a, .int .i64 b, .int .i64 n]] w fun e w' => e = .returned (.tuple #[.int .i64 v, .int .i64 0]) ∧ Both w w' := by
  go_enter Try.func39, Try.ntmps39
  go_wp2_with fail
  refine (rightR_val HR.out _).mono ?_
  rintro e W1 ⟨rfl, hb1⟩
  have HRI := Lib.hid ((hb1.1.block w.heap.size (by simp)).trans (heap_alloc_new _ _))
  have hli : w.heap.size < W1.heap.size := by have := hb1.1.size; simp at this; omega
  have c0 : W1.cell? ⟨w.heap.size, 0, none⟩ = some (.int .i64 op) := cell_of_heap HRI.out 0
  have HB1 := Lib.hid (((Both.refl w).alloc _ _).trans hb1)
  clear hb1
  go_wp2_with fail
  clear c0
  refine (rowof_lit Hv.out _).mono ?_
  rintro e W2 ⟨rfl, hb2⟩
  have hli2 : w.heap.size < W2.heap.size := Nat.lt_of_lt_of_le hli hb2.1.size
  have HRI2 := Lib.hid ((hb2.1.block w.heap.size hli).trans HRI.out)
  have HB2 := Lib.hid (HB1.out.trans hb2)
  clear hb2 HB1 HRI
  rename_i hK2 K hK
  refine hK _ _ ?_
  clear hK K
  refine wpList_one rfl (w' := W2.alloc (.cells rowZero 90)) (v := .pointer (some ⟨W2.heap.size, 0, none⟩)) (by kernel_rfl) ?_
  refine wpList_store_row rfl 90 (.tmp 5) (.tmp 14) rfl W2.heap.size #[.string s, .int .u8 85, .int .i64 lo, .int .i64 mi, .int .i64 hi] (by kernel_rfl) (by kernel_rfl) _ _ (heap_alloc_new _ _) row_size rfl (by kernel_rfl) ?_
  have HRO := Lib.hid (setRow_heap _ _ _ #[.string s, .int .u8 85, .int .i64 lo, .int .i64 mi, .int .i64 hi] _ _ (heap_alloc_new W2 (.cells rowZero 90)))
  have HB3 := Lib.hid ((HB2.out.alloc rowZero 90).setRow (g := W2.heap.size) (Nat.le_of_lt hli2) #[.string s, .int .u8 85, .int .i64 lo, .int .i64 mi, .int .i64 hi])
  have HRI3 : Hid (((W2.alloc (.cells rowZero 90)).setRow W2.heap.size #[.string s, .int .u8 85, .int .i64 lo, .int .i64 mi, .int .i64 hi]).heap[w.heap.size]? = some (.cells #[.int .i64 op, .int .i64 d, .int .i64 a, .int .i64 b, .int .i64 n] 24 (0, 0))) := by
    show _ = _
    rw [setRow_other _ _ _ _ (by omega)]
    exact (heap_alloc_old _ _ hli2).trans HRI2.out
  generalize (W2.alloc (.cells rowZero 90)).setRow W2.heap.size #[.string s, .int .u8 85, .int .i64 lo, .int .i64 mi, .int .i64 hi] = W3 at HRO HB3 HRI3 ⊢
  generalize W2.heap.size = g at HRO ⊢
  clear HB2 HRI2 hli2 hli
  have r1 : W3.cell? ⟨g, 1, none⟩ = some (.int .u8 85) := cell_of_heap HRO.out 1
  have r2 : W3.cell? ⟨g, 2, none⟩ = some (.int .i64 lo) := cell_of_heap HRO.out 2
  have r3 : W3.cell? ⟨g, 3, none⟩ = some (.int .i64 mi) := cell_of_heap HRO.out 3
  have r4 : W3.cell? ⟨g, 4, none⟩ = some (.int .i64 hi) := cell_of_heap HRO.out 4
  have c0 : W3.cell? ⟨w.heap.size, 0, none⟩ = some (.int .i64 op) := cell_of_heap HRI3.out 0
  have c1 : W3.cell? ⟨w.heap.size, 1, none⟩ = some (.int .i64 d) := cell_of_heap HRI3.out 1
  have c2 : W3.cell? ⟨w.heap.size, 2, none⟩ = some (.int .i64 a) := cell_of_heap HRI3.out 2
  have c3 : W3.cell? ⟨w.heap.size, 3, none⟩ = some (.int .i64 b) := cell_of_heap HRI3.out 3
  have c4 : W3.cell? ⟨w.heap.size, 4, none⟩ = some (.int .i64 n) := cell_of_heap HRI3.out 4
  refine wpList_nil ?_
  refine hK2 _ _ ?_
  clear hK2
  go_wp2
  go_ret2
  exact ⟨by have e := HRES.out; subst e; rfl, HB3.out⟩
set_option maxRecDepth 100000 in
set_option maxHeartbeats 8000000 in
theorem encR_J (op d a b n lo mi hi v r0 r1 r2 r3 : Int) (s : ByteArray) (d0 : 0 ≤ d) (d1 : d < 32) (a0 : 0 ≤ a) (a1 : a < 32) (b0 : 0 ≤ b) (b1 : b < 32) (n0 : -4294967296 < n) (n1 : n < 4294967296) (l0 : 0 ≤ lo) (l1 : lo < 128) (m0 : 0 ≤ mi) (m1 : mi < 8) (h0 : 0 ≤ hi) (h1 : hi < 128) (HR : Hid (right ⟨op, d, a, b, n⟩ = true)) (Hv : Hid (rowVals op = [.string s, .int .u8 74, .int .i64 lo, .int .i64 mi, .int .i64 hi])) (Q0 : Hid (n / 4096 % 256 = r0)) (r00 : 0 ≤ r0) (r01 : r0 < 256) (Q1 : Hid (n / 2048 % 2 = r1)) (r10 : 0 ≤ r1) (r11 : r1 < 2) (Q2 : Hid (n / 2 % 1024 = r2)) (r20 : 0 ≤ r2) (r21 : r2 < 1024) (Q3 : Hid (n / 1048576 % 2 = r3)) (r30 : 0 ≤ r3) (r31 : r3 < 2) (HRES : Hid (lo + d * 128 + r0 * 4096 + r1 * 1048576 + r2 * 2097152 + r3 * 2147483648 = v)) (w : World) :
    Calls Try.prog 39 #[.agg #[.int .i64 op, .int .i64 d, .int .i64 a, .int .i64 b, .int .i64 n]] w fun e w' => e = .returned (.tuple #[.int .i64 v, .int .i64 0]) ∧ Both w w' := by
  go_enter Try.func39, Try.ntmps39
  go_wp2_with fail
  refine (rightR_val HR.out _).mono ?_
  rintro e W1 ⟨rfl, hb1⟩
  have HRI := Lib.hid ((hb1.1.block w.heap.size (by simp)).trans (heap_alloc_new _ _))
  have hli : w.heap.size < W1.heap.size := by have := hb1.1.size; simp at this; omega
  have c0 : W1.cell? ⟨w.heap.size, 0, none⟩ = some (.int .i64 op) := cell_of_heap HRI.out 0
  have HB1 := Lib.hid (((Both.refl w).alloc _ _).trans hb1)
  clear hb1
  go_wp2_with fail
  clear c0
  refine (rowof_lit Hv.out _).mono ?_
  rintro e W2 ⟨rfl, hb2⟩
  have hli2 : w.heap.size < W2.heap.size := Nat.lt_of_lt_of_le hli hb2.1.size
  have HRI2 := Lib.hid ((hb2.1.block w.heap.size hli).trans HRI.out)
  have HB2 := Lib.hid (HB1.out.trans hb2)
  clear hb2 HB1 HRI
  rename_i hK2 K hK
  refine hK _ _ ?_
  clear hK K
  refine wpList_one rfl (w' := W2.alloc (.cells rowZero 90)) (v := .pointer (some ⟨W2.heap.size, 0, none⟩)) (by kernel_rfl) ?_
  refine wpList_store_row rfl 90 (.tmp 5) (.tmp 14) rfl W2.heap.size #[.string s, .int .u8 74, .int .i64 lo, .int .i64 mi, .int .i64 hi] (by kernel_rfl) (by kernel_rfl) _ _ (heap_alloc_new _ _) row_size rfl (by kernel_rfl) ?_
  have HRO := Lib.hid (setRow_heap _ _ _ #[.string s, .int .u8 74, .int .i64 lo, .int .i64 mi, .int .i64 hi] _ _ (heap_alloc_new W2 (.cells rowZero 90)))
  have HB3 := Lib.hid ((HB2.out.alloc rowZero 90).setRow (g := W2.heap.size) (Nat.le_of_lt hli2) #[.string s, .int .u8 74, .int .i64 lo, .int .i64 mi, .int .i64 hi])
  have HRI3 : Hid (((W2.alloc (.cells rowZero 90)).setRow W2.heap.size #[.string s, .int .u8 74, .int .i64 lo, .int .i64 mi, .int .i64 hi]).heap[w.heap.size]? = some (.cells #[.int .i64 op, .int .i64 d, .int .i64 a, .int .i64 b, .int .i64 n] 24 (0, 0))) := by
    show _ = _
    rw [setRow_other _ _ _ _ (by omega)]
    exact (heap_alloc_old _ _ hli2).trans HRI2.out
  generalize (W2.alloc (.cells rowZero 90)).setRow W2.heap.size #[.string s, .int .u8 74, .int .i64 lo, .int .i64 mi, .int .i64 hi] = W3 at HRO HB3 HRI3 ⊢
  generalize W2.heap.size = g at HRO ⊢
  clear HB2 HRI2 hli2 hli
  have r1 : W3.cell? ⟨g, 1, none⟩ = some (.int .u8 74) := cell_of_heap HRO.out 1
  have r2 : W3.cell? ⟨g, 2, none⟩ = some (.int .i64 lo) := cell_of_heap HRO.out 2
  have r3 : W3.cell? ⟨g, 3, none⟩ = some (.int .i64 mi) := cell_of_heap HRO.out 3
  have r4 : W3.cell? ⟨g, 4, none⟩ = some (.int .i64 hi) := cell_of_heap HRO.out 4
  have c0 : W3.cell? ⟨w.heap.size, 0, none⟩ = some (.int .i64 op) := cell_of_heap HRI3.out 0
  have c1 : W3.cell? ⟨w.heap.size, 1, none⟩ = some (.int .i64 d) := cell_of_heap HRI3.out 1
  have c2 : W3.cell? ⟨w.heap.size, 2, none⟩ = some (.int .i64 a) := cell_of_heap HRI3.out 2
  have c3 : W3.cell? ⟨w.heap.size, 3, none⟩ = some (.int .i64 b) := cell_of_heap HRI3.out 3
  have c4 : W3.cell? ⟨w.heap.size, 4, none⟩ = some (.int .i64 n) := cell_of_heap HRI3.out 4
  refine wpList_nil ?_
  refine hK2 _ _ ?_
  clear hK2
  have hgl : g < W3.heap.size := by
    refine Nat.lt_of_not_le fun hge => ?_
    have := HRO.out
    rw [Array.getElem?_eq_none hge] at this
    cases this
  have hil : w.heap.size < W3.heap.size := by
    refine Nat.lt_of_not_le fun hge => ?_
    have := HRI3.out
    rw [Array.getElem?_eq_none hge] at this
    cases this
  have hkeep : ∀ w', Both W3 w' → w'.cell? ⟨w.heap.size, 1, none⟩ = some (.int .i64 d) ∧ w'.cell? ⟨w.heap.size, 3, none⟩ = some (.int .i64 b) ∧ w'.cell? ⟨g, 2, none⟩ = some (.int .i64 lo) := fun w' h =>
    ⟨(h.cell (p := ⟨w.heap.size, 1, none⟩) hil).trans c1, (h.cell (p := ⟨w.heap.size, 3, none⟩) hil).trans c3, (h.cell (p := ⟨g, 2, none⟩) hgl).trans r2⟩
  have HKEEP := Lib.hid hkeep
  clear hkeep hgl hil
  go_upto_region 23 with (fail)
  clear r1 r2 r3 r4 c0 c1 c2 c3 c4
  go_region_held3 (fun w' => w'.cell? ⟨w.heap.size, 1, none⟩ = some (.int .i64 d) ∧ w'.cell? ⟨w.heap.size, 3, none⟩ = some (.int .i64 b) ∧ w'.cell? ⟨g, 2, none⟩ = some (.int .i64 lo))
    (first | exact HKEEP.out _ ((((((Both.refl _).drew).trans hb3).trans hb4).trans hb5).trans hb6) | exact HKEEP.out _ (((((Both.refl _).drew).trans hb3).trans hb4).trans hb5) | exact HKEEP.out _ ((((Both.refl _).drew).trans hb3).trans hb4) | exact HKEEP.out _ (((Both.refl _).drew).trans hb3) | exact HKEEP.out _ ((Both.refl _).drew))
    (first
      | (go_at_call 70; ((with_reducible refine (bits_12_8 n0 n1 Q0.out _).mono ?_); rintro e w' ⟨rfl, hb3⟩))
      | (go_at_call 70; ((with_reducible refine (bits_11_1 n0 n1 Q1.out _).mono ?_); rintro e w' ⟨rfl, hb4⟩))
      | (go_at_call 70; ((with_reducible refine (bits_1_10 n0 n1 Q2.out _).mono ?_); rintro e w' ⟨rfl, hb5⟩))
      | (go_at_call 70; ((with_reducible refine (bits_20_1 n0 n1 Q3.out _).mono ?_); rintro e w' ⟨rfl, hb6⟩)))
  have HB6 := Lib.hid (HB3.out.trans ((((((Both.refl _).drew).trans hb3).trans hb4).trans hb5).trans hb6))
  clear hb3 hb4 hb5 hb6
  rename_i hh
  clear hh
  go_wp2
  go_ret2
  exact ⟨by have e := HRES.out; subst e; first | rfl | (refine congrArg (fun x => Ending.returned (Value.tuple #[Value.int .i64 x, Value.int .i64 0])) ?_; simp only [IntKind.wrap_i64, wrap64]; omega), HB6.out⟩
set_option maxRecDepth 100000 in
set_option maxHeartbeats 8000000 in
theorem encR_F (op d a b n lo mi hi v : Int) (s : ByteArray) (d0 : 0 ≤ d) (d1 : d < 32) (a0 : 0 ≤ a) (a1 : a < 32) (b0 : 0 ≤ b) (b1 : b < 32) (n0 : 0 ≤ n) (n1 : n < 256) (l0 : 0 ≤ lo) (l1 : lo < 128) (m0 : 0 ≤ mi) (m1 : mi < 8) (h0 : 0 ≤ hi) (h1 : hi < 128) (HR : Hid (right ⟨op, d, a, b, n⟩ = true)) (Hv : Hid (rowVals op = [.string s, .int .u8 70, .int .i64 lo, .int .i64 mi, .int .i64 hi])) (HRES : Hid (lo + mi * 4096 + a * 32768 + n * 1048576 = v)) (w : World) :
    Calls Try.prog 39 #[.agg #[.int .i64 op, .int .i64 d, .int .i64 a, .int .i64 b, .int .i64 n]] w fun e w' => e = .returned (.tuple #[.int .i64 v, .int .i64 0]) ∧ Both w w' := by
  go_enter Try.func39, Try.ntmps39
  go_wp2_with fail
  refine (rightR_val HR.out _).mono ?_
  rintro e W1 ⟨rfl, hb1⟩
  have HRI := Lib.hid ((hb1.1.block w.heap.size (by simp)).trans (heap_alloc_new _ _))
  have hli : w.heap.size < W1.heap.size := by have := hb1.1.size; simp at this; omega
  have c0 : W1.cell? ⟨w.heap.size, 0, none⟩ = some (.int .i64 op) := cell_of_heap HRI.out 0
  have HB1 := Lib.hid (((Both.refl w).alloc _ _).trans hb1)
  clear hb1
  go_wp2_with fail
  clear c0
  refine (rowof_lit Hv.out _).mono ?_
  rintro e W2 ⟨rfl, hb2⟩
  have hli2 : w.heap.size < W2.heap.size := Nat.lt_of_lt_of_le hli hb2.1.size
  have HRI2 := Lib.hid ((hb2.1.block w.heap.size hli).trans HRI.out)
  have HB2 := Lib.hid (HB1.out.trans hb2)
  clear hb2 HB1 HRI
  rename_i hK2 K hK
  refine hK _ _ ?_
  clear hK K
  refine wpList_one rfl (w' := W2.alloc (.cells rowZero 90)) (v := .pointer (some ⟨W2.heap.size, 0, none⟩)) (by kernel_rfl) ?_
  refine wpList_store_row rfl 90 (.tmp 5) (.tmp 14) rfl W2.heap.size #[.string s, .int .u8 70, .int .i64 lo, .int .i64 mi, .int .i64 hi] (by kernel_rfl) (by kernel_rfl) _ _ (heap_alloc_new _ _) row_size rfl (by kernel_rfl) ?_
  have HRO := Lib.hid (setRow_heap _ _ _ #[.string s, .int .u8 70, .int .i64 lo, .int .i64 mi, .int .i64 hi] _ _ (heap_alloc_new W2 (.cells rowZero 90)))
  have HB3 := Lib.hid ((HB2.out.alloc rowZero 90).setRow (g := W2.heap.size) (Nat.le_of_lt hli2) #[.string s, .int .u8 70, .int .i64 lo, .int .i64 mi, .int .i64 hi])
  have HRI3 : Hid (((W2.alloc (.cells rowZero 90)).setRow W2.heap.size #[.string s, .int .u8 70, .int .i64 lo, .int .i64 mi, .int .i64 hi]).heap[w.heap.size]? = some (.cells #[.int .i64 op, .int .i64 d, .int .i64 a, .int .i64 b, .int .i64 n] 24 (0, 0))) := by
    show _ = _
    rw [setRow_other _ _ _ _ (by omega)]
    exact (heap_alloc_old _ _ hli2).trans HRI2.out
  generalize (W2.alloc (.cells rowZero 90)).setRow W2.heap.size #[.string s, .int .u8 70, .int .i64 lo, .int .i64 mi, .int .i64 hi] = W3 at HRO HB3 HRI3 ⊢
  generalize W2.heap.size = g at HRO ⊢
  clear HB2 HRI2 hli2 hli
  have r1 : W3.cell? ⟨g, 1, none⟩ = some (.int .u8 70) := cell_of_heap HRO.out 1
  have r2 : W3.cell? ⟨g, 2, none⟩ = some (.int .i64 lo) := cell_of_heap HRO.out 2
  have r3 : W3.cell? ⟨g, 3, none⟩ = some (.int .i64 mi) := cell_of_heap HRO.out 3
  have r4 : W3.cell? ⟨g, 4, none⟩ = some (.int .i64 hi) := cell_of_heap HRO.out 4
  have c0 : W3.cell? ⟨w.heap.size, 0, none⟩ = some (.int .i64 op) := cell_of_heap HRI3.out 0
  have c1 : W3.cell? ⟨w.heap.size, 1, none⟩ = some (.int .i64 d) := cell_of_heap HRI3.out 1
  have c2 : W3.cell? ⟨w.heap.size, 2, none⟩ = some (.int .i64 a) := cell_of_heap HRI3.out 2
  have c3 : W3.cell? ⟨w.heap.size, 3, none⟩ = some (.int .i64 b) := cell_of_heap HRI3.out 3
  have c4 : W3.cell? ⟨w.heap.size, 4, none⟩ = some (.int .i64 n) := cell_of_heap HRI3.out 4
  refine wpList_nil ?_
  refine hK2 _ _ ?_
  clear hK2
  go_wp2
  go_ret2
  exact ⟨by have e := HRES.out; subst e; rfl, HB3.out⟩
set_option maxRecDepth 100000 in
set_option maxHeartbeats 8000000 in
theorem encR_L (op d a b n lo mi hi v : Int) (s : ByteArray) (d0 : 0 ≤ d) (d1 : d < 32) (a0 : 0 ≤ a) (a1 : a < 32) (b0 : 0 ≤ b) (b1 : b < 32) (n0 : 0 ≤ n) (n1 : n < 4) (l0 : 0 ≤ lo) (l1 : lo < 128) (m0 : 0 ≤ mi) (m1 : mi < 8) (h0 : 0 ≤ hi) (h1 : hi < 128) (HR : Hid (right ⟨op, d, a, b, n⟩ = true)) (Hv : Hid (rowVals op = [.string s, .int .u8 76, .int .i64 lo, .int .i64 mi, .int .i64 hi])) (HRES : Hid (lo + mi * 4096 + a * 32768 + d * 128 + b * 1048576 + (hi + n) * 33554432 = v)) (w : World) :
    Calls Try.prog 39 #[.agg #[.int .i64 op, .int .i64 d, .int .i64 a, .int .i64 b, .int .i64 n]] w fun e w' => e = .returned (.tuple #[.int .i64 v, .int .i64 0]) ∧ Both w w' := by
  go_enter Try.func39, Try.ntmps39
  go_wp2_with fail
  refine (rightR_val HR.out _).mono ?_
  rintro e W1 ⟨rfl, hb1⟩
  have HRI := Lib.hid ((hb1.1.block w.heap.size (by simp)).trans (heap_alloc_new _ _))
  have hli : w.heap.size < W1.heap.size := by have := hb1.1.size; simp at this; omega
  have c0 : W1.cell? ⟨w.heap.size, 0, none⟩ = some (.int .i64 op) := cell_of_heap HRI.out 0
  have HB1 := Lib.hid (((Both.refl w).alloc _ _).trans hb1)
  clear hb1
  go_wp2_with fail
  clear c0
  refine (rowof_lit Hv.out _).mono ?_
  rintro e W2 ⟨rfl, hb2⟩
  have hli2 : w.heap.size < W2.heap.size := Nat.lt_of_lt_of_le hli hb2.1.size
  have HRI2 := Lib.hid ((hb2.1.block w.heap.size hli).trans HRI.out)
  have HB2 := Lib.hid (HB1.out.trans hb2)
  clear hb2 HB1 HRI
  rename_i hK2 K hK
  refine hK _ _ ?_
  clear hK K
  refine wpList_one rfl (w' := W2.alloc (.cells rowZero 90)) (v := .pointer (some ⟨W2.heap.size, 0, none⟩)) (by kernel_rfl) ?_
  refine wpList_store_row rfl 90 (.tmp 5) (.tmp 14) rfl W2.heap.size #[.string s, .int .u8 76, .int .i64 lo, .int .i64 mi, .int .i64 hi] (by kernel_rfl) (by kernel_rfl) _ _ (heap_alloc_new _ _) row_size rfl (by kernel_rfl) ?_
  have HRO := Lib.hid (setRow_heap _ _ _ #[.string s, .int .u8 76, .int .i64 lo, .int .i64 mi, .int .i64 hi] _ _ (heap_alloc_new W2 (.cells rowZero 90)))
  have HB3 := Lib.hid ((HB2.out.alloc rowZero 90).setRow (g := W2.heap.size) (Nat.le_of_lt hli2) #[.string s, .int .u8 76, .int .i64 lo, .int .i64 mi, .int .i64 hi])
  have HRI3 : Hid (((W2.alloc (.cells rowZero 90)).setRow W2.heap.size #[.string s, .int .u8 76, .int .i64 lo, .int .i64 mi, .int .i64 hi]).heap[w.heap.size]? = some (.cells #[.int .i64 op, .int .i64 d, .int .i64 a, .int .i64 b, .int .i64 n] 24 (0, 0))) := by
    show _ = _
    rw [setRow_other _ _ _ _ (by omega)]
    exact (heap_alloc_old _ _ hli2).trans HRI2.out
  generalize (W2.alloc (.cells rowZero 90)).setRow W2.heap.size #[.string s, .int .u8 76, .int .i64 lo, .int .i64 mi, .int .i64 hi] = W3 at HRO HB3 HRI3 ⊢
  generalize W2.heap.size = g at HRO ⊢
  clear HB2 HRI2 hli2 hli
  have r1 : W3.cell? ⟨g, 1, none⟩ = some (.int .u8 76) := cell_of_heap HRO.out 1
  have r2 : W3.cell? ⟨g, 2, none⟩ = some (.int .i64 lo) := cell_of_heap HRO.out 2
  have r3 : W3.cell? ⟨g, 3, none⟩ = some (.int .i64 mi) := cell_of_heap HRO.out 3
  have r4 : W3.cell? ⟨g, 4, none⟩ = some (.int .i64 hi) := cell_of_heap HRO.out 4
  have c0 : W3.cell? ⟨w.heap.size, 0, none⟩ = some (.int .i64 op) := cell_of_heap HRI3.out 0
  have c1 : W3.cell? ⟨w.heap.size, 1, none⟩ = some (.int .i64 d) := cell_of_heap HRI3.out 1
  have c2 : W3.cell? ⟨w.heap.size, 2, none⟩ = some (.int .i64 a) := cell_of_heap HRI3.out 2
  have c3 : W3.cell? ⟨w.heap.size, 3, none⟩ = some (.int .i64 b) := cell_of_heap HRI3.out 3
  have c4 : W3.cell? ⟨w.heap.size, 4, none⟩ = some (.int .i64 n) := cell_of_heap HRI3.out 4
  refine wpList_nil ?_
  refine hK2 _ _ ?_
  clear hK2
  go_wp2
  go_ret2
  exact ⟨by have e := HRES.out; subst e; rfl, HB3.out⟩
set_option maxRecDepth 100000 in
set_option maxHeartbeats 8000000 in
theorem encR_A (op d a b n lo mi hi v : Int) (s : ByteArray) (d0 : 0 ≤ d) (d1 : d < 32) (a0 : 0 ≤ a) (a1 : a < 32) (b0 : 0 ≤ b) (b1 : b < 32) (n0 : 0 ≤ n) (n1 : n < 4) (l0 : 0 ≤ lo) (l1 : lo < 128) (m0 : 0 ≤ mi) (m1 : mi < 8) (h0 : 0 ≤ hi) (h1 : hi < 128) (HR : Hid (right ⟨op, d, a, b, n⟩ = true)) (Hv : Hid (rowVals op = [.string s, .int .u8 65, .int .i64 lo, .int .i64 mi, .int .i64 hi])) (HRES : Hid (lo + mi * 4096 + a * 32768 + d * 128 + b * 1048576 + (hi + n) * 33554432 = v)) (w : World) :
    Calls Try.prog 39 #[.agg #[.int .i64 op, .int .i64 d, .int .i64 a, .int .i64 b, .int .i64 n]] w fun e w' => e = .returned (.tuple #[.int .i64 v, .int .i64 0]) ∧ Both w w' := by
  go_enter Try.func39, Try.ntmps39
  go_wp2_with fail
  refine (rightR_val HR.out _).mono ?_
  rintro e W1 ⟨rfl, hb1⟩
  have HRI := Lib.hid ((hb1.1.block w.heap.size (by simp)).trans (heap_alloc_new _ _))
  have hli : w.heap.size < W1.heap.size := by have := hb1.1.size; simp at this; omega
  have c0 : W1.cell? ⟨w.heap.size, 0, none⟩ = some (.int .i64 op) := cell_of_heap HRI.out 0
  have HB1 := Lib.hid (((Both.refl w).alloc _ _).trans hb1)
  clear hb1
  go_wp2_with fail
  clear c0
  refine (rowof_lit Hv.out _).mono ?_
  rintro e W2 ⟨rfl, hb2⟩
  have hli2 : w.heap.size < W2.heap.size := Nat.lt_of_lt_of_le hli hb2.1.size
  have HRI2 := Lib.hid ((hb2.1.block w.heap.size hli).trans HRI.out)
  have HB2 := Lib.hid (HB1.out.trans hb2)
  clear hb2 HB1 HRI
  rename_i hK2 K hK
  refine hK _ _ ?_
  clear hK K
  refine wpList_one rfl (w' := W2.alloc (.cells rowZero 90)) (v := .pointer (some ⟨W2.heap.size, 0, none⟩)) (by kernel_rfl) ?_
  refine wpList_store_row rfl 90 (.tmp 5) (.tmp 14) rfl W2.heap.size #[.string s, .int .u8 65, .int .i64 lo, .int .i64 mi, .int .i64 hi] (by kernel_rfl) (by kernel_rfl) _ _ (heap_alloc_new _ _) row_size rfl (by kernel_rfl) ?_
  have HRO := Lib.hid (setRow_heap _ _ _ #[.string s, .int .u8 65, .int .i64 lo, .int .i64 mi, .int .i64 hi] _ _ (heap_alloc_new W2 (.cells rowZero 90)))
  have HB3 := Lib.hid ((HB2.out.alloc rowZero 90).setRow (g := W2.heap.size) (Nat.le_of_lt hli2) #[.string s, .int .u8 65, .int .i64 lo, .int .i64 mi, .int .i64 hi])
  have HRI3 : Hid (((W2.alloc (.cells rowZero 90)).setRow W2.heap.size #[.string s, .int .u8 65, .int .i64 lo, .int .i64 mi, .int .i64 hi]).heap[w.heap.size]? = some (.cells #[.int .i64 op, .int .i64 d, .int .i64 a, .int .i64 b, .int .i64 n] 24 (0, 0))) := by
    show _ = _
    rw [setRow_other _ _ _ _ (by omega)]
    exact (heap_alloc_old _ _ hli2).trans HRI2.out
  generalize (W2.alloc (.cells rowZero 90)).setRow W2.heap.size #[.string s, .int .u8 65, .int .i64 lo, .int .i64 mi, .int .i64 hi] = W3 at HRO HB3 HRI3 ⊢
  generalize W2.heap.size = g at HRO ⊢
  clear HB2 HRI2 hli2 hli
  have r1 : W3.cell? ⟨g, 1, none⟩ = some (.int .u8 65) := cell_of_heap HRO.out 1
  have r2 : W3.cell? ⟨g, 2, none⟩ = some (.int .i64 lo) := cell_of_heap HRO.out 2
  have r3 : W3.cell? ⟨g, 3, none⟩ = some (.int .i64 mi) := cell_of_heap HRO.out 3
  have r4 : W3.cell? ⟨g, 4, none⟩ = some (.int .i64 hi) := cell_of_heap HRO.out 4
  have c0 : W3.cell? ⟨w.heap.size, 0, none⟩ = some (.int .i64 op) := cell_of_heap HRI3.out 0
  have c1 : W3.cell? ⟨w.heap.size, 1, none⟩ = some (.int .i64 d) := cell_of_heap HRI3.out 1
  have c2 : W3.cell? ⟨w.heap.size, 2, none⟩ = some (.int .i64 a) := cell_of_heap HRI3.out 2
  have c3 : W3.cell? ⟨w.heap.size, 3, none⟩ = some (.int .i64 b) := cell_of_heap HRI3.out 3
  have c4 : W3.cell? ⟨w.heap.size, 4, none⟩ = some (.int .i64 n) := cell_of_heap HRI3.out 4
  refine wpList_nil ?_
  refine hK2 _ _ ?_
  clear hK2
  go_wp2
  go_ret2
  exact ⟨by have e := HRES.out; subst e; rfl, HB3.out⟩
set_option maxRecDepth 100000 in
set_option maxHeartbeats 8000000 in
theorem encR_Z44 (d a b n lo mi hi v : Int) (s : ByteArray) (d0 : 0 ≤ d) (d1 : d < 32) (a0 : 0 ≤ a) (a1 : a < 32) (b0 : 0 ≤ b) (b1 : b < 32) (n0 : -4294967296 < n) (n1 : n < 4294967296) (l0 : 0 ≤ lo) (l1 : lo < 128) (m0 : 0 ≤ mi) (m1 : mi < 8) (h0 : 0 ≤ hi) (h1 : hi < 128) (HR : Hid (right ⟨44, d, a, b, n⟩ = true)) (Hv : Hid (rowVals 44 = [.string s, .int .u8 90, .int .i64 lo, .int .i64 mi, .int .i64 hi])) (HRES : Hid (lo + mi * 4096 + a * 32768 + hi * 33554432 + 2097152 = v)) (w : World) :
    Calls Try.prog 39 #[.agg #[.int .i64 44, .int .i64 d, .int .i64 a, .int .i64 b, .int .i64 n]] w fun e w' => e = .returned (.tuple #[.int .i64 v, .int .i64 0]) ∧ Both w w' := by
  go_enter Try.func39, Try.ntmps39
  go_wp2_with fail
  refine (rightR_val HR.out _).mono ?_
  rintro e W1 ⟨rfl, hb1⟩
  have HRI := Lib.hid ((hb1.1.block w.heap.size (by simp)).trans (heap_alloc_new _ _))
  have hli : w.heap.size < W1.heap.size := by have := hb1.1.size; simp at this; omega
  have c0 : W1.cell? ⟨w.heap.size, 0, none⟩ = some (.int .i64 44) := cell_of_heap HRI.out 0
  have HB1 := Lib.hid (((Both.refl w).alloc _ _).trans hb1)
  clear hb1
  go_wp2_with fail
  clear c0
  refine (rowof_lit Hv.out _).mono ?_
  rintro e W2 ⟨rfl, hb2⟩
  have hli2 : w.heap.size < W2.heap.size := Nat.lt_of_lt_of_le hli hb2.1.size
  have HRI2 := Lib.hid ((hb2.1.block w.heap.size hli).trans HRI.out)
  have HB2 := Lib.hid (HB1.out.trans hb2)
  clear hb2 HB1 HRI
  rename_i hK2 K hK
  refine hK _ _ ?_
  clear hK K
  refine wpList_one rfl (w' := W2.alloc (.cells rowZero 90)) (v := .pointer (some ⟨W2.heap.size, 0, none⟩)) (by kernel_rfl) ?_
  refine wpList_store_row rfl 90 (.tmp 5) (.tmp 14) rfl W2.heap.size #[.string s, .int .u8 90, .int .i64 lo, .int .i64 mi, .int .i64 hi] (by kernel_rfl) (by kernel_rfl) _ _ (heap_alloc_new _ _) row_size rfl (by kernel_rfl) ?_
  have HRO := Lib.hid (setRow_heap _ _ _ #[.string s, .int .u8 90, .int .i64 lo, .int .i64 mi, .int .i64 hi] _ _ (heap_alloc_new W2 (.cells rowZero 90)))
  have HB3 := Lib.hid ((HB2.out.alloc rowZero 90).setRow (g := W2.heap.size) (Nat.le_of_lt hli2) #[.string s, .int .u8 90, .int .i64 lo, .int .i64 mi, .int .i64 hi])
  have HRI3 : Hid (((W2.alloc (.cells rowZero 90)).setRow W2.heap.size #[.string s, .int .u8 90, .int .i64 lo, .int .i64 mi, .int .i64 hi]).heap[w.heap.size]? = some (.cells #[.int .i64 44, .int .i64 d, .int .i64 a, .int .i64 b, .int .i64 n] 24 (0, 0))) := by
    show _ = _
    rw [setRow_other _ _ _ _ (by omega)]
    exact (heap_alloc_old _ _ hli2).trans HRI2.out
  generalize (W2.alloc (.cells rowZero 90)).setRow W2.heap.size #[.string s, .int .u8 90, .int .i64 lo, .int .i64 mi, .int .i64 hi] = W3 at HRO HB3 HRI3 ⊢
  generalize W2.heap.size = g at HRO ⊢
  clear HB2 HRI2 hli2 hli
  have r1 : W3.cell? ⟨g, 1, none⟩ = some (.int .u8 90) := cell_of_heap HRO.out 1
  have r2 : W3.cell? ⟨g, 2, none⟩ = some (.int .i64 lo) := cell_of_heap HRO.out 2
  have r3 : W3.cell? ⟨g, 3, none⟩ = some (.int .i64 mi) := cell_of_heap HRO.out 3
  have r4 : W3.cell? ⟨g, 4, none⟩ = some (.int .i64 hi) := cell_of_heap HRO.out 4
  have c0 : W3.cell? ⟨w.heap.size, 0, none⟩ = some (.int .i64 44) := cell_of_heap HRI3.out 0
  have c1 : W3.cell? ⟨w.heap.size, 1, none⟩ = some (.int .i64 d) := cell_of_heap HRI3.out 1
  have c2 : W3.cell? ⟨w.heap.size, 2, none⟩ = some (.int .i64 a) := cell_of_heap HRI3.out 2
  have c3 : W3.cell? ⟨w.heap.size, 3, none⟩ = some (.int .i64 b) := cell_of_heap HRI3.out 3
  have c4 : W3.cell? ⟨w.heap.size, 4, none⟩ = some (.int .i64 n) := cell_of_heap HRI3.out 4
  refine wpList_nil ?_
  refine hK2 _ _ ?_
  clear hK2
  go_wp2
  go_ret2
  exact ⟨by have e := HRES.out; subst e; rfl, HB3.out⟩
set_option maxRecDepth 100000 in
set_option maxHeartbeats 8000000 in
theorem encR_Z45 (d a b n lo mi hi v : Int) (s : ByteArray) (d0 : 0 ≤ d) (d1 : d < 32) (a0 : 0 ≤ a) (a1 : a < 32) (b0 : 0 ≤ b) (b1 : b < 32) (n0 : -4294967296 < n) (n1 : n < 4294967296) (l0 : 0 ≤ lo) (l1 : lo < 128) (m0 : 0 ≤ mi) (m1 : mi < 8) (h0 : 0 ≤ hi) (h1 : hi < 128) (HR : Hid (right ⟨45, d, a, b, n⟩ = true)) (Hv : Hid (rowVals 45 = [.string s, .int .u8 90, .int .i64 lo, .int .i64 mi, .int .i64 hi])) (HRES : Hid (lo + mi * 4096 + a * 32768 + hi * 33554432 + 5242880 = v)) (w : World) :
    Calls Try.prog 39 #[.agg #[.int .i64 45, .int .i64 d, .int .i64 a, .int .i64 b, .int .i64 n]] w fun e w' => e = .returned (.tuple #[.int .i64 v, .int .i64 0]) ∧ Both w w' := by
  go_enter Try.func39, Try.ntmps39
  go_wp2_with fail
  refine (rightR_val HR.out _).mono ?_
  rintro e W1 ⟨rfl, hb1⟩
  have HRI := Lib.hid ((hb1.1.block w.heap.size (by simp)).trans (heap_alloc_new _ _))
  have hli : w.heap.size < W1.heap.size := by have := hb1.1.size; simp at this; omega
  have c0 : W1.cell? ⟨w.heap.size, 0, none⟩ = some (.int .i64 45) := cell_of_heap HRI.out 0
  have HB1 := Lib.hid (((Both.refl w).alloc _ _).trans hb1)
  clear hb1
  go_wp2_with fail
  clear c0
  refine (rowof_lit Hv.out _).mono ?_
  rintro e W2 ⟨rfl, hb2⟩
  have hli2 : w.heap.size < W2.heap.size := Nat.lt_of_lt_of_le hli hb2.1.size
  have HRI2 := Lib.hid ((hb2.1.block w.heap.size hli).trans HRI.out)
  have HB2 := Lib.hid (HB1.out.trans hb2)
  clear hb2 HB1 HRI
  rename_i hK2 K hK
  refine hK _ _ ?_
  clear hK K
  refine wpList_one rfl (w' := W2.alloc (.cells rowZero 90)) (v := .pointer (some ⟨W2.heap.size, 0, none⟩)) (by kernel_rfl) ?_
  refine wpList_store_row rfl 90 (.tmp 5) (.tmp 14) rfl W2.heap.size #[.string s, .int .u8 90, .int .i64 lo, .int .i64 mi, .int .i64 hi] (by kernel_rfl) (by kernel_rfl) _ _ (heap_alloc_new _ _) row_size rfl (by kernel_rfl) ?_
  have HRO := Lib.hid (setRow_heap _ _ _ #[.string s, .int .u8 90, .int .i64 lo, .int .i64 mi, .int .i64 hi] _ _ (heap_alloc_new W2 (.cells rowZero 90)))
  have HB3 := Lib.hid ((HB2.out.alloc rowZero 90).setRow (g := W2.heap.size) (Nat.le_of_lt hli2) #[.string s, .int .u8 90, .int .i64 lo, .int .i64 mi, .int .i64 hi])
  have HRI3 : Hid (((W2.alloc (.cells rowZero 90)).setRow W2.heap.size #[.string s, .int .u8 90, .int .i64 lo, .int .i64 mi, .int .i64 hi]).heap[w.heap.size]? = some (.cells #[.int .i64 45, .int .i64 d, .int .i64 a, .int .i64 b, .int .i64 n] 24 (0, 0))) := by
    show _ = _
    rw [setRow_other _ _ _ _ (by omega)]
    exact (heap_alloc_old _ _ hli2).trans HRI2.out
  generalize (W2.alloc (.cells rowZero 90)).setRow W2.heap.size #[.string s, .int .u8 90, .int .i64 lo, .int .i64 mi, .int .i64 hi] = W3 at HRO HB3 HRI3 ⊢
  generalize W2.heap.size = g at HRO ⊢
  clear HB2 HRI2 hli2 hli
  have r1 : W3.cell? ⟨g, 1, none⟩ = some (.int .u8 90) := cell_of_heap HRO.out 1
  have r2 : W3.cell? ⟨g, 2, none⟩ = some (.int .i64 lo) := cell_of_heap HRO.out 2
  have r3 : W3.cell? ⟨g, 3, none⟩ = some (.int .i64 mi) := cell_of_heap HRO.out 3
  have r4 : W3.cell? ⟨g, 4, none⟩ = some (.int .i64 hi) := cell_of_heap HRO.out 4
  have c0 : W3.cell? ⟨w.heap.size, 0, none⟩ = some (.int .i64 45) := cell_of_heap HRI3.out 0
  have c1 : W3.cell? ⟨w.heap.size, 1, none⟩ = some (.int .i64 d) := cell_of_heap HRI3.out 1
  have c2 : W3.cell? ⟨w.heap.size, 2, none⟩ = some (.int .i64 a) := cell_of_heap HRI3.out 2
  have c3 : W3.cell? ⟨w.heap.size, 3, none⟩ = some (.int .i64 b) := cell_of_heap HRI3.out 3
  have c4 : W3.cell? ⟨w.heap.size, 4, none⟩ = some (.int .i64 n) := cell_of_heap HRI3.out 4
  refine wpList_nil ?_
  refine hK2 _ _ ?_
  clear hK2
  go_wp2
  go_ret2
  exact ⟨by have e := HRES.out; subst e; rfl, HB3.out⟩
set_option maxRecDepth 100000 in
set_option maxHeartbeats 8000000 in
theorem encR_Z (op d a b n lo mi hi v : Int) (s : ByteArray) (d0 : 0 ≤ d) (d1 : d < 32) (a0 : 0 ≤ a) (a1 : a < 32) (b0 : 0 ≤ b) (b1 : b < 32) (n0 : -4294967296 < n) (n1 : n < 4294967296) (z1 : (op == 44) = false) (z2 : (op == 45) = false) (l0 : 0 ≤ lo) (l1 : lo < 128) (m0 : 0 ≤ mi) (m1 : mi < 8) (h0 : 0 ≤ hi) (h1 : hi < 128) (HR : Hid (right ⟨op, d, a, b, n⟩ = true)) (Hv : Hid (rowVals op = [.string s, .int .u8 90, .int .i64 lo, .int .i64 mi, .int .i64 hi])) (HRES : Hid (lo + mi * 4096 + a * 32768 + hi * 33554432 = v)) (w : World) :
    Calls Try.prog 39 #[.agg #[.int .i64 op, .int .i64 d, .int .i64 a, .int .i64 b, .int .i64 n]] w fun e w' => e = .returned (.tuple #[.int .i64 v, .int .i64 0]) ∧ Both w w' := by
  go_enter Try.func39, Try.ntmps39
  go_wp2_with fail
  refine (rightR_val HR.out _).mono ?_
  rintro e W1 ⟨rfl, hb1⟩
  have HRI := Lib.hid ((hb1.1.block w.heap.size (by simp)).trans (heap_alloc_new _ _))
  have hli : w.heap.size < W1.heap.size := by have := hb1.1.size; simp at this; omega
  have c0 : W1.cell? ⟨w.heap.size, 0, none⟩ = some (.int .i64 op) := cell_of_heap HRI.out 0
  have HB1 := Lib.hid (((Both.refl w).alloc _ _).trans hb1)
  clear hb1
  go_wp2_with fail
  clear c0
  refine (rowof_lit Hv.out _).mono ?_
  rintro e W2 ⟨rfl, hb2⟩
  have hli2 : w.heap.size < W2.heap.size := Nat.lt_of_lt_of_le hli hb2.1.size
  have HRI2 := Lib.hid ((hb2.1.block w.heap.size hli).trans HRI.out)
  have HB2 := Lib.hid (HB1.out.trans hb2)
  clear hb2 HB1 HRI
  rename_i hK2 K hK
  refine hK _ _ ?_
  clear hK K
  refine wpList_one rfl (w' := W2.alloc (.cells rowZero 90)) (v := .pointer (some ⟨W2.heap.size, 0, none⟩)) (by kernel_rfl) ?_
  refine wpList_store_row rfl 90 (.tmp 5) (.tmp 14) rfl W2.heap.size #[.string s, .int .u8 90, .int .i64 lo, .int .i64 mi, .int .i64 hi] (by kernel_rfl) (by kernel_rfl) _ _ (heap_alloc_new _ _) row_size rfl (by kernel_rfl) ?_
  have HRO := Lib.hid (setRow_heap _ _ _ #[.string s, .int .u8 90, .int .i64 lo, .int .i64 mi, .int .i64 hi] _ _ (heap_alloc_new W2 (.cells rowZero 90)))
  have HB3 := Lib.hid ((HB2.out.alloc rowZero 90).setRow (g := W2.heap.size) (Nat.le_of_lt hli2) #[.string s, .int .u8 90, .int .i64 lo, .int .i64 mi, .int .i64 hi])
  have HRI3 : Hid (((W2.alloc (.cells rowZero 90)).setRow W2.heap.size #[.string s, .int .u8 90, .int .i64 lo, .int .i64 mi, .int .i64 hi]).heap[w.heap.size]? = some (.cells #[.int .i64 op, .int .i64 d, .int .i64 a, .int .i64 b, .int .i64 n] 24 (0, 0))) := by
    show _ = _
    rw [setRow_other _ _ _ _ (by omega)]
    exact (heap_alloc_old _ _ hli2).trans HRI2.out
  generalize (W2.alloc (.cells rowZero 90)).setRow W2.heap.size #[.string s, .int .u8 90, .int .i64 lo, .int .i64 mi, .int .i64 hi] = W3 at HRO HB3 HRI3 ⊢
  generalize W2.heap.size = g at HRO ⊢
  clear HB2 HRI2 hli2 hli
  have r1 : W3.cell? ⟨g, 1, none⟩ = some (.int .u8 90) := cell_of_heap HRO.out 1
  have r2 : W3.cell? ⟨g, 2, none⟩ = some (.int .i64 lo) := cell_of_heap HRO.out 2
  have r3 : W3.cell? ⟨g, 3, none⟩ = some (.int .i64 mi) := cell_of_heap HRO.out 3
  have r4 : W3.cell? ⟨g, 4, none⟩ = some (.int .i64 hi) := cell_of_heap HRO.out 4
  have c0 : W3.cell? ⟨w.heap.size, 0, none⟩ = some (.int .i64 op) := cell_of_heap HRI3.out 0
  have c1 : W3.cell? ⟨w.heap.size, 1, none⟩ = some (.int .i64 d) := cell_of_heap HRI3.out 1
  have c2 : W3.cell? ⟨w.heap.size, 2, none⟩ = some (.int .i64 a) := cell_of_heap HRI3.out 2
  have c3 : W3.cell? ⟨w.heap.size, 3, none⟩ = some (.int .i64 b) := cell_of_heap HRI3.out 3
  have c4 : W3.cell? ⟨w.heap.size, 4, none⟩ = some (.int .i64 n) := cell_of_heap HRI3.out 4
  refine wpList_nil ?_
  refine hK2 _ _ ?_
  clear hK2
  go_wp2
  go_ret2
  exact ⟨by have e := HRES.out; subst e; rfl, HB3.out⟩
theorem encR_any {op d a b n : Int} (h : right ⟨op, d, a, b, n⟩ = true) {v : Int} (hv : enc ⟨op, d, a, b, n⟩ = v) (w : World) :
    Calls Try.prog 39 #[.agg #[.int .i64 op, .int .i64 d, .int .i64 a, .int .i64 b, .int .i64 n]] w fun e w' => e = .returned (.tuple #[.int .i64 v, .int .i64 0]) ∧ Both w w' := by
  subst hv
  obtain ⟨⟨h1, h2⟩, ⟨d0, d1⟩, ⟨a0, a1⟩, ⟨b0, b1⟩, n0, n1⟩ := right_bd h
  simp only at h1 h2 d0 d1 a0 a1 b0 b1 n0 n1
  obtain ⟨l0, l1, m0, m1, i0, i1, _, _, x9, _⟩ := bounds h1 h2
  have hn := (right_parts h).2.2.2.2.2
  simp only at hn
  have ha := (right_parts h).2.2.2.1
  have hd := (right_parts h).2.2.1
  simp only at ha hd
  rcases form_is h1 h2 with hf | hf | hf | hf | hf | hf | hf | hf | hf | hf | hf | hf
  · 
    refine encR_R op d a b n _ _ _ _ _ d0 d1 a0 a1 b0 b1 (by omega) (by omega) l0 l1 m0 m1 i0 i1 h (by rw [← hf]; rfl) ?_ w
    show _ = _
    simp [enc, hf]
    try omega
  · 
    refine encR_I op d a b n _ _ _ _ _ _ d0 d1 a0 a1 b0 b1 (by omega) (by omega) l0 l1 m0 m1 i0 i1 h (by rw [← hf]; rfl) rfl (by omega) (by omega) ?_ w
    show _ = _
    simp [enc, hf]
    try omega
  · 
    refine encR_C op d a b n _ _ _ _ _ _ d0 d1 a0 a1 b0 b1 (by omega) (by omega) l0 l1 m0 m1 i0 i1 h (by rw [← hf]; rfl) rfl (by omega) (by omega) ?_ w
    show _ = _
    simp [enc, hf]
    try omega
  · 
    rw [hf] at hn
    simp [num] at hn
    refine encR_H op d a b n _ _ _ _ _ d0 d1 a0 a1 b0 b1 (by omega) (by omega) l0 l1 m0 m1 i0 i1 h (by rw [← hf]; rfl) ?_ w
    show _ = _
    simp [enc, hf]
    try omega
  · 
    refine encR_S op d a b n _ _ _ _ _ _ _ d0 d1 a0 a1 b0 b1 (by omega) (by omega) l0 l1 m0 m1 i0 i1 h (by rw [← hf]; rfl) rfl (by omega) (by omega) rfl (by omega) (by omega) ?_ w
    show _ = _
    simp [enc, hf]
    try omega
  · 
    refine encR_B op d a b n _ _ _ _ _ _ _ _ _ d0 d1 a0 a1 b0 b1 (by omega) (by omega) l0 l1 m0 m1 i0 i1 h (by rw [← hf]; rfl) rfl (by omega) (by omega) rfl (by omega) (by omega) rfl (by omega) (by omega) rfl (by omega) (by omega) ?_ w
    show _ = _
    simp [enc, hf]
    try omega
  · 
    rw [hf] at hn
    simp [num] at hn
    refine encR_U op d a b n _ _ _ _ _ d0 d1 a0 a1 b0 b1 (by omega) (by omega) l0 l1 m0 m1 i0 i1 h (by rw [← hf]; rfl) ?_ w
    show _ = _
    simp [enc, hf]
    try omega
  · 
    refine encR_J op d a b n _ _ _ _ _ _ _ _ _ d0 d1 a0 a1 b0 b1 (by omega) (by omega) l0 l1 m0 m1 i0 i1 h (by rw [← hf]; rfl) rfl (by omega) (by omega) rfl (by omega) (by omega) rfl (by omega) (by omega) rfl (by omega) (by omega) ?_ w
    show _ = _
    simp [enc, hf]
    try omega
  · 
    rw [hf] at hn
    simp [num] at hn
    refine encR_F op d a b n _ _ _ _ _ d0 d1 a0 a1 b0 b1 (by omega) (by omega) l0 l1 m0 m1 i0 i1 h (by rw [← hf]; rfl) ?_ w
    show _ = _
    simp [enc, hf]
    try omega
  · by_cases e1 : op = 44
    · subst e1
      refine encR_Z44 d a b n _ _ _ _ _ d0 d1 a0 a1 b0 b1 (by omega) (by omega) l0 l1 m0 m1 i0 i1 h (by rw [← hf]; rfl) ?_ w
      show _ = _
      simp [enc, hf, extra]
    · by_cases e2 : op = 45
      · subst e2
        refine encR_Z45 d a b n _ _ _ _ _ d0 d1 a0 a1 b0 b1 (by omega) (by omega) l0 l1 m0 m1 i0 i1 h (by rw [← hf]; rfl) ?_ w
        show _ = _
        simp [enc, hf, extra]
      · refine encR_Z op d a b n _ _ _ _ _ d0 d1 a0 a1 b0 b1 (by omega) (by omega) (by simpa using e1) (by simpa using e2) l0 l1 m0 m1 i0 i1 h (by rw [← hf]; rfl) ?_ w
        show _ = _
        simp [enc, hf, extra, e1, e2]
  · 
    rw [hf] at hn
    simp [num] at hn
    refine encR_L op d a b n _ _ _ _ _ d0 d1 a0 a1 b0 b1 (by omega) (by omega) l0 l1 m0 m1 i0 i1 h (by rw [← hf]; rfl) ?_ w
    show _ = _
    simp [enc, hf]
    try omega
  · 
    rw [hf] at hn
    simp [num] at hn
    refine encR_A op d a b n _ _ _ _ _ d0 d1 a0 a1 b0 b1 (by omega) (by omega) l0 l1 m0 m1 i0 i1 h (by rw [← hf]; rfl) ?_ w
    show _ = _
    simp [enc, hf]
    try omega
end Go.Proofs.Ytjjbfeoidceiiaa
