/- What read of the document's own answer answers: the instruction of a kind that a word would be. -/
import Derived.Test.YtphnagkicboglaaERefN
import Derived.Test.YtphnagkicboglaaERight
namespace Go.Proofs.Ytphnagkicboglaa
open Go.RowKit Rv
set_option linter.unusedVariables false
set_option linter.unusedSimpArgs false
set_option maxRecDepth 100000 in
set_option maxHeartbeats 8000000 in
theorem read_R (op z lo mi hi x y u : Int) (s : ByteArray) (z0 : 0 ≤ z) (z1 : z < 4294967296) (Hv : Hid (rowVals op = [.string s, .int .u8 82, .int .i64 lo, .int .i64 mi, .int .i64 hi])) (QX : Hid (z / 128 % 32 = x)) (QY : Hid (z / 32768 % 32 = y)) (QU : Hid (z / 1048576 % 32 = u)) (w : World) :
    Calls Try.prog 41 #[.int .i64 op, .int .i64 z] w fun e w' => e = .returned (.agg #[.int .i64 op, .int .i64 x, .int .i64 y, .int .i64 u, .int .i64 0]) ∧ Both w w' := by
  have hfld := field1 s 82 lo mi hi
  have hok : formOk 82 := by simp [formOk]
  have HOK := Lib.hid hok
  clear hok
  go_enter Try.func41, Try.ntmps41
  go_wp2_with fail
  refine (rowof_lit Hv.out _).mono ?_
  rintro e W1 ⟨rfl, hb1⟩
  have s1 : (w.alloc (.cells #[.int .i64 0, .int .i64 0, .int .i64 0, .int .i64 0, .int .i64 0] 23)).heap.size = w.heap.size + 1 := by simp
  have h4 : W1.heap[w.heap.size]? = some (.cells #[.int .i64 0, .int .i64 0, .int .i64 0, .int .i64 0, .int .i64 0] 23 (0, 0)) := (hb1.1.block w.heap.size (by simp; omega)).trans ((heap_alloc_old _ _ (by rw [s1]; omega)).trans (heap_alloc_new _ _))
  have h5 : W1.heap[w.heap.size + 1]? = some (.cells #[.int .i64 op, .int .i64 0, .int .i64 0, .int .i64 0, .int .i64 0] 23 (0, 0)) := (hb1.1.block (w.heap.size + 1) (by simp)).trans (by rw [← s1]; exact heap_alloc_new _ _)
  have p0 : W1.cell? ⟨w.heap.size, 0, none⟩ = some (.int .i64 0) := cell_of_heap h4 0
  have f0 := frozen_of_heap h4 0
  have p1 : W1.cell? ⟨w.heap.size, 1, none⟩ = some (.int .i64 0) := cell_of_heap h4 1
  have f1 := frozen_of_heap h4 1
  have p2 : W1.cell? ⟨w.heap.size, 2, none⟩ = some (.int .i64 0) := cell_of_heap h4 2
  have f2 := frozen_of_heap h4 2
  have p3 : W1.cell? ⟨w.heap.size, 3, none⟩ = some (.int .i64 0) := cell_of_heap h4 3
  have f3 := frozen_of_heap h4 3
  have p4 : W1.cell? ⟨w.heap.size, 4, none⟩ = some (.int .i64 0) := cell_of_heap h4 4
  have f4 := frozen_of_heap h4 4
  have q0 : W1.cell? ⟨w.heap.size + 1, 0, none⟩ = some (.int .i64 op) := cell_of_heap h5 0
  have q1 : W1.cell? ⟨w.heap.size + 1, 1, none⟩ = some (.int .i64 0) := cell_of_heap h5 1
  have q2 : W1.cell? ⟨w.heap.size + 1, 2, none⟩ = some (.int .i64 0) := cell_of_heap h5 2
  have q3 : W1.cell? ⟨w.heap.size + 1, 3, none⟩ = some (.int .i64 0) := cell_of_heap h5 3
  have q4 : W1.cell? ⟨w.heap.size + 1, 4, none⟩ = some (.int .i64 0) := cell_of_heap h5 4
  have g0 := frozen_of_heap h5 0
  have g1 := frozen_of_heap h5 1
  have g2 := frozen_of_heap h5 2
  have g3 := frozen_of_heap h5 3
  have g4 := frozen_of_heap h5 4
  have HB := Lib.hid hb1
  clear hb1 s1 h4 h5
  have hdD : hasD 82 = true := by decide
  have hdA : hasA 82 = true := by decide
  have hdB : hasB 82 = true := by decide
  have HD := Lib.hid hdD
  have HA := Lib.hid hdA
  have HBB := Lib.hid hdB
  clear hdD hdA hdB
  go_wp2_with fail
  refine (has_D' HOK.out HD.out _).mono ?_
  rintro e w' ⟨rfl, rfl⟩
  go_wp2_with fail
  refine (bitsN_7_5 z0 z1 QX.out _).mono ?_
  rintro e w' ⟨rfl, dq, rfl⟩
  go_wp2_with fail
  refine (has_A' HOK.out HA.out _).mono ?_
  rintro e w' ⟨rfl, rfl⟩
  go_wp2_with fail
  refine (bitsN_15_5 z0 z1 QY.out _).mono ?_
  rintro e w' ⟨rfl, dq, rfl⟩
  go_wp2_with fail
  refine (has_B' HOK.out HBB.out _).mono ?_
  rintro e w' ⟨rfl, rfl⟩
  go_wp2_with fail
  refine (bitsN_20_5 z0 z1 QU.out _).mono ?_
  rintro e w' ⟨rfl, dq, rfl⟩
  go_wp2_with fail
  refine bodyPost_ret (v := .agg #[.int .i64 op, .int .i64 x, .int .i64 y, .int .i64 u, .int .i64 (0)]) (by simp [results, Try.results41, go_sem, p0, p1, p2, p3, p4, World.cell?_setCell_same, World.cell?_setCell_other]) rfl ⟨rfl, ?_⟩
  repeat (first | (with_reducible refine Both.drewN ?_ _) | (with_reducible refine Both.setCell ?_ ?side _; case side => (dsimp only; omega)))
  exact Both.trans (by repeat (first | exact Both.refl _ | refine Both.alloc ?_ _ _)) HB.out
set_option maxRecDepth 100000 in
set_option maxHeartbeats 8000000 in
theorem read_I (op z lo mi hi x y u r0 sv : Int) (s : ByteArray) (z0 : 0 ≤ z) (z1 : z < 4294967296) (Hv : Hid (rowVals op = [.string s, .int .u8 73, .int .i64 lo, .int .i64 mi, .int .i64 hi])) (QX : Hid (z / 128 % 32 = x)) (QY : Hid (z / 32768 % 32 = y)) (QU : Hid (z / 1048576 % 32 = u)) (Q0 : Hid (z / 1048576 % 4096 = r0)) (r00 : 0 ≤ r0) (r01 : r0 < 4096) (QS : Hid (sgn (r0) 2048 = sv)) (w : World) :
    Calls Try.prog 41 #[.int .i64 op, .int .i64 z] w fun e w' => e = .returned (.agg #[.int .i64 op, .int .i64 x, .int .i64 y, .int .i64 0, .int .i64 sv]) ∧ Both w w' := by
  have hfld := field1 s 73 lo mi hi
  have hok : formOk 73 := by simp [formOk]
  have HOK := Lib.hid hok
  clear hok
  go_enter Try.func41, Try.ntmps41
  go_wp2_with fail
  refine (rowof_lit Hv.out _).mono ?_
  rintro e W1 ⟨rfl, hb1⟩
  have s1 : (w.alloc (.cells #[.int .i64 0, .int .i64 0, .int .i64 0, .int .i64 0, .int .i64 0] 23)).heap.size = w.heap.size + 1 := by simp
  have h4 : W1.heap[w.heap.size]? = some (.cells #[.int .i64 0, .int .i64 0, .int .i64 0, .int .i64 0, .int .i64 0] 23 (0, 0)) := (hb1.1.block w.heap.size (by simp; omega)).trans ((heap_alloc_old _ _ (by rw [s1]; omega)).trans (heap_alloc_new _ _))
  have h5 : W1.heap[w.heap.size + 1]? = some (.cells #[.int .i64 op, .int .i64 0, .int .i64 0, .int .i64 0, .int .i64 0] 23 (0, 0)) := (hb1.1.block (w.heap.size + 1) (by simp)).trans (by rw [← s1]; exact heap_alloc_new _ _)
  have p0 : W1.cell? ⟨w.heap.size, 0, none⟩ = some (.int .i64 0) := cell_of_heap h4 0
  have f0 := frozen_of_heap h4 0
  have p1 : W1.cell? ⟨w.heap.size, 1, none⟩ = some (.int .i64 0) := cell_of_heap h4 1
  have f1 := frozen_of_heap h4 1
  have p2 : W1.cell? ⟨w.heap.size, 2, none⟩ = some (.int .i64 0) := cell_of_heap h4 2
  have f2 := frozen_of_heap h4 2
  have p3 : W1.cell? ⟨w.heap.size, 3, none⟩ = some (.int .i64 0) := cell_of_heap h4 3
  have f3 := frozen_of_heap h4 3
  have p4 : W1.cell? ⟨w.heap.size, 4, none⟩ = some (.int .i64 0) := cell_of_heap h4 4
  have f4 := frozen_of_heap h4 4
  have q0 : W1.cell? ⟨w.heap.size + 1, 0, none⟩ = some (.int .i64 op) := cell_of_heap h5 0
  have q1 : W1.cell? ⟨w.heap.size + 1, 1, none⟩ = some (.int .i64 0) := cell_of_heap h5 1
  have q2 : W1.cell? ⟨w.heap.size + 1, 2, none⟩ = some (.int .i64 0) := cell_of_heap h5 2
  have q3 : W1.cell? ⟨w.heap.size + 1, 3, none⟩ = some (.int .i64 0) := cell_of_heap h5 3
  have q4 : W1.cell? ⟨w.heap.size + 1, 4, none⟩ = some (.int .i64 0) := cell_of_heap h5 4
  have g0 := frozen_of_heap h5 0
  have g1 := frozen_of_heap h5 1
  have g2 := frozen_of_heap h5 2
  have g3 := frozen_of_heap h5 3
  have g4 := frozen_of_heap h5 4
  have HB := Lib.hid hb1
  clear hb1 s1 h4 h5
  have hdD : hasD 73 = true := by decide
  have hdA : hasA 73 = true := by decide
  have hdB : hasB 73 = false := by decide
  have HD := Lib.hid hdD
  have HA := Lib.hid hdA
  have HBB := Lib.hid hdB
  clear hdD hdA hdB
  go_wp2_with fail
  refine (has_D' HOK.out HD.out _).mono ?_
  rintro e w' ⟨rfl, rfl⟩
  go_wp2_with fail
  refine (bitsN_7_5 z0 z1 QX.out _).mono ?_
  rintro e w' ⟨rfl, dq, rfl⟩
  go_wp2_with fail
  refine (has_A' HOK.out HA.out _).mono ?_
  rintro e w' ⟨rfl, rfl⟩
  go_wp2_with fail
  refine (bitsN_15_5 z0 z1 QY.out _).mono ?_
  rintro e w' ⟨rfl, dq, rfl⟩
  go_wp2_with fail
  refine (has_B' HOK.out HBB.out _).mono ?_
  rintro e w' ⟨rfl, rfl⟩
  go_wp2_with fail
  refine (bitsN_20_12 z0 z1 Q0.out _).mono ?_
  rintro e w' ⟨rfl, dq, rfl⟩
  go_wp2_with fail
  refine (signedN (h := 2048) (by omega) (by omega) (by omega) QS.out _).mono ?_
  rintro e w' ⟨rfl, rfl⟩
  go_wp2_with fail
  refine bodyPost_ret (v := .agg #[.int .i64 op, .int .i64 x, .int .i64 y, .int .i64 0, .int .i64 (sv)]) (by simp [results, Try.results41, go_sem, p0, p1, p2, p3, p4, World.cell?_setCell_same, World.cell?_setCell_other]) rfl ⟨rfl, ?_⟩
  repeat (first | (with_reducible refine Both.drewN ?_ _) | (with_reducible refine Both.setCell ?_ ?side _; case side => (dsimp only; omega)))
  exact Both.trans (by repeat (first | exact Both.refl _ | refine Both.alloc ?_ _ _)) HB.out
set_option maxRecDepth 100000 in
set_option maxHeartbeats 8000000 in
theorem read_C (op z lo mi hi x y u r0 : Int) (s : ByteArray) (z0 : 0 ≤ z) (z1 : z < 4294967296) (Hv : Hid (rowVals op = [.string s, .int .u8 67, .int .i64 lo, .int .i64 mi, .int .i64 hi])) (QX : Hid (z / 128 % 32 = x)) (QY : Hid (z / 32768 % 32 = y)) (QU : Hid (z / 1048576 % 32 = u)) (Q0 : Hid (z / 1048576 % 4096 = r0)) (r00 : 0 ≤ r0) (r01 : r0 < 4096) (w : World) :
    Calls Try.prog 41 #[.int .i64 op, .int .i64 z] w fun e w' => e = .returned (.agg #[.int .i64 op, .int .i64 x, .int .i64 y, .int .i64 0, .int .i64 r0]) ∧ Both w w' := by
  have hfld := field1 s 67 lo mi hi
  have hok : formOk 67 := by simp [formOk]
  have HOK := Lib.hid hok
  clear hok
  go_enter Try.func41, Try.ntmps41
  go_wp2_with fail
  refine (rowof_lit Hv.out _).mono ?_
  rintro e W1 ⟨rfl, hb1⟩
  have s1 : (w.alloc (.cells #[.int .i64 0, .int .i64 0, .int .i64 0, .int .i64 0, .int .i64 0] 23)).heap.size = w.heap.size + 1 := by simp
  have h4 : W1.heap[w.heap.size]? = some (.cells #[.int .i64 0, .int .i64 0, .int .i64 0, .int .i64 0, .int .i64 0] 23 (0, 0)) := (hb1.1.block w.heap.size (by simp; omega)).trans ((heap_alloc_old _ _ (by rw [s1]; omega)).trans (heap_alloc_new _ _))
  have h5 : W1.heap[w.heap.size + 1]? = some (.cells #[.int .i64 op, .int .i64 0, .int .i64 0, .int .i64 0, .int .i64 0] 23 (0, 0)) := (hb1.1.block (w.heap.size + 1) (by simp)).trans (by rw [← s1]; exact heap_alloc_new _ _)
  have p0 : W1.cell? ⟨w.heap.size, 0, none⟩ = some (.int .i64 0) := cell_of_heap h4 0
  have f0 := frozen_of_heap h4 0
  have p1 : W1.cell? ⟨w.heap.size, 1, none⟩ = some (.int .i64 0) := cell_of_heap h4 1
  have f1 := frozen_of_heap h4 1
  have p2 : W1.cell? ⟨w.heap.size, 2, none⟩ = some (.int .i64 0) := cell_of_heap h4 2
  have f2 := frozen_of_heap h4 2
  have p3 : W1.cell? ⟨w.heap.size, 3, none⟩ = some (.int .i64 0) := cell_of_heap h4 3
  have f3 := frozen_of_heap h4 3
  have p4 : W1.cell? ⟨w.heap.size, 4, none⟩ = some (.int .i64 0) := cell_of_heap h4 4
  have f4 := frozen_of_heap h4 4
  have q0 : W1.cell? ⟨w.heap.size + 1, 0, none⟩ = some (.int .i64 op) := cell_of_heap h5 0
  have q1 : W1.cell? ⟨w.heap.size + 1, 1, none⟩ = some (.int .i64 0) := cell_of_heap h5 1
  have q2 : W1.cell? ⟨w.heap.size + 1, 2, none⟩ = some (.int .i64 0) := cell_of_heap h5 2
  have q3 : W1.cell? ⟨w.heap.size + 1, 3, none⟩ = some (.int .i64 0) := cell_of_heap h5 3
  have q4 : W1.cell? ⟨w.heap.size + 1, 4, none⟩ = some (.int .i64 0) := cell_of_heap h5 4
  have g0 := frozen_of_heap h5 0
  have g1 := frozen_of_heap h5 1
  have g2 := frozen_of_heap h5 2
  have g3 := frozen_of_heap h5 3
  have g4 := frozen_of_heap h5 4
  have HB := Lib.hid hb1
  clear hb1 s1 h4 h5
  have hdD : hasD 67 = true := by decide
  have hdA : hasA 67 = true := by decide
  have hdB : hasB 67 = false := by decide
  have HD := Lib.hid hdD
  have HA := Lib.hid hdA
  have HBB := Lib.hid hdB
  clear hdD hdA hdB
  go_wp2_with fail
  refine (has_D' HOK.out HD.out _).mono ?_
  rintro e w' ⟨rfl, rfl⟩
  go_wp2_with fail
  refine (bitsN_7_5 z0 z1 QX.out _).mono ?_
  rintro e w' ⟨rfl, dq, rfl⟩
  go_wp2_with fail
  refine (has_A' HOK.out HA.out _).mono ?_
  rintro e w' ⟨rfl, rfl⟩
  go_wp2_with fail
  refine (bitsN_15_5 z0 z1 QY.out _).mono ?_
  rintro e w' ⟨rfl, dq, rfl⟩
  go_wp2_with fail
  refine (has_B' HOK.out HBB.out _).mono ?_
  rintro e w' ⟨rfl, rfl⟩
  go_wp2_with fail
  refine (bitsN_20_12 z0 z1 Q0.out _).mono ?_
  rintro e w' ⟨rfl, dq, rfl⟩
  go_wp2_with fail
  refine bodyPost_ret (v := .agg #[.int .i64 op, .int .i64 x, .int .i64 y, .int .i64 0, .int .i64 (r0)]) (by simp [results, Try.results41, go_sem, p0, p1, p2, p3, p4, World.cell?_setCell_same, World.cell?_setCell_other]) rfl ⟨rfl, ?_⟩
  repeat (first | (with_reducible refine Both.drewN ?_ _) | (with_reducible refine Both.setCell ?_ ?side _; case side => (dsimp only; omega)))
  exact Both.trans (by repeat (first | exact Both.refl _ | refine Both.alloc ?_ _ _)) HB.out
set_option maxRecDepth 100000 in
set_option maxHeartbeats 8000000 in
theorem read_H (op z lo mi hi x y u r0 : Int) (s : ByteArray) (z0 : 0 ≤ z) (z1 : z < 4294967296) (Hv : Hid (rowVals op = [.string s, .int .u8 72, .int .i64 lo, .int .i64 mi, .int .i64 hi])) (QX : Hid (z / 128 % 32 = x)) (QY : Hid (z / 32768 % 32 = y)) (QU : Hid (z / 1048576 % 32 = u)) (Q0 : Hid (z / 1048576 % 32 = r0)) (r00 : 0 ≤ r0) (r01 : r0 < 32) (w : World) :
    Calls Try.prog 41 #[.int .i64 op, .int .i64 z] w fun e w' => e = .returned (.agg #[.int .i64 op, .int .i64 x, .int .i64 y, .int .i64 0, .int .i64 r0]) ∧ Both w w' := by
  have hfld := field1 s 72 lo mi hi
  have hok : formOk 72 := by simp [formOk]
  have HOK := Lib.hid hok
  clear hok
  go_enter Try.func41, Try.ntmps41
  go_wp2_with fail
  refine (rowof_lit Hv.out _).mono ?_
  rintro e W1 ⟨rfl, hb1⟩
  have s1 : (w.alloc (.cells #[.int .i64 0, .int .i64 0, .int .i64 0, .int .i64 0, .int .i64 0] 23)).heap.size = w.heap.size + 1 := by simp
  have h4 : W1.heap[w.heap.size]? = some (.cells #[.int .i64 0, .int .i64 0, .int .i64 0, .int .i64 0, .int .i64 0] 23 (0, 0)) := (hb1.1.block w.heap.size (by simp; omega)).trans ((heap_alloc_old _ _ (by rw [s1]; omega)).trans (heap_alloc_new _ _))
  have h5 : W1.heap[w.heap.size + 1]? = some (.cells #[.int .i64 op, .int .i64 0, .int .i64 0, .int .i64 0, .int .i64 0] 23 (0, 0)) := (hb1.1.block (w.heap.size + 1) (by simp)).trans (by rw [← s1]; exact heap_alloc_new _ _)
  have p0 : W1.cell? ⟨w.heap.size, 0, none⟩ = some (.int .i64 0) := cell_of_heap h4 0
  have f0 := frozen_of_heap h4 0
  have p1 : W1.cell? ⟨w.heap.size, 1, none⟩ = some (.int .i64 0) := cell_of_heap h4 1
  have f1 := frozen_of_heap h4 1
  have p2 : W1.cell? ⟨w.heap.size, 2, none⟩ = some (.int .i64 0) := cell_of_heap h4 2
  have f2 := frozen_of_heap h4 2
  have p3 : W1.cell? ⟨w.heap.size, 3, none⟩ = some (.int .i64 0) := cell_of_heap h4 3
  have f3 := frozen_of_heap h4 3
  have p4 : W1.cell? ⟨w.heap.size, 4, none⟩ = some (.int .i64 0) := cell_of_heap h4 4
  have f4 := frozen_of_heap h4 4
  have q0 : W1.cell? ⟨w.heap.size + 1, 0, none⟩ = some (.int .i64 op) := cell_of_heap h5 0
  have q1 : W1.cell? ⟨w.heap.size + 1, 1, none⟩ = some (.int .i64 0) := cell_of_heap h5 1
  have q2 : W1.cell? ⟨w.heap.size + 1, 2, none⟩ = some (.int .i64 0) := cell_of_heap h5 2
  have q3 : W1.cell? ⟨w.heap.size + 1, 3, none⟩ = some (.int .i64 0) := cell_of_heap h5 3
  have q4 : W1.cell? ⟨w.heap.size + 1, 4, none⟩ = some (.int .i64 0) := cell_of_heap h5 4
  have g0 := frozen_of_heap h5 0
  have g1 := frozen_of_heap h5 1
  have g2 := frozen_of_heap h5 2
  have g3 := frozen_of_heap h5 3
  have g4 := frozen_of_heap h5 4
  have HB := Lib.hid hb1
  clear hb1 s1 h4 h5
  have hdD : hasD 72 = true := by decide
  have hdA : hasA 72 = true := by decide
  have hdB : hasB 72 = false := by decide
  have HD := Lib.hid hdD
  have HA := Lib.hid hdA
  have HBB := Lib.hid hdB
  clear hdD hdA hdB
  go_wp2_with fail
  refine (has_D' HOK.out HD.out _).mono ?_
  rintro e w' ⟨rfl, rfl⟩
  go_wp2_with fail
  refine (bitsN_7_5 z0 z1 QX.out _).mono ?_
  rintro e w' ⟨rfl, dq, rfl⟩
  go_wp2_with fail
  refine (has_A' HOK.out HA.out _).mono ?_
  rintro e w' ⟨rfl, rfl⟩
  go_wp2_with fail
  refine (bitsN_15_5 z0 z1 QY.out _).mono ?_
  rintro e w' ⟨rfl, dq, rfl⟩
  go_wp2_with fail
  refine (has_B' HOK.out HBB.out _).mono ?_
  rintro e w' ⟨rfl, rfl⟩
  go_wp2_with fail
  refine (bitsN_20_5 z0 z1 Q0.out _).mono ?_
  rintro e w' ⟨rfl, dq, rfl⟩
  go_wp2_with fail
  refine bodyPost_ret (v := .agg #[.int .i64 op, .int .i64 x, .int .i64 y, .int .i64 0, .int .i64 (r0)]) (by simp [results, Try.results41, go_sem, p0, p1, p2, p3, p4, World.cell?_setCell_same, World.cell?_setCell_other]) rfl ⟨rfl, ?_⟩
  repeat (first | (with_reducible refine Both.drewN ?_ _) | (with_reducible refine Both.setCell ?_ ?side _; case side => (dsimp only; omega)))
  exact Both.trans (by repeat (first | exact Both.refl _ | refine Both.alloc ?_ _ _)) HB.out
set_option maxRecDepth 100000 in
set_option maxHeartbeats 8000000 in
theorem read_S (op z lo mi hi x y u r0 r1 sv : Int) (s : ByteArray) (z0 : 0 ≤ z) (z1 : z < 4294967296) (Hv : Hid (rowVals op = [.string s, .int .u8 83, .int .i64 lo, .int .i64 mi, .int .i64 hi])) (QX : Hid (z / 128 % 32 = x)) (QY : Hid (z / 32768 % 32 = y)) (QU : Hid (z / 1048576 % 32 = u)) (Q0 : Hid (z / 128 % 32 = r0)) (r00 : 0 ≤ r0) (r01 : r0 < 32) (Q1 : Hid (z / 33554432 % 128 = r1)) (r10 : 0 ≤ r1) (r11 : r1 < 128) (QS : Hid (sgn (r0 + r1 * 32) 2048 = sv)) (w : World) :
    Calls Try.prog 41 #[.int .i64 op, .int .i64 z] w fun e w' => e = .returned (.agg #[.int .i64 op, .int .i64 0, .int .i64 y, .int .i64 u, .int .i64 sv]) ∧ Both w w' := by
  have hfld := field1 s 83 lo mi hi
  have hok : formOk 83 := by simp [formOk]
  have HOK := Lib.hid hok
  clear hok
  go_enter Try.func41, Try.ntmps41
  go_wp2_with fail
  refine (rowof_lit Hv.out _).mono ?_
  rintro e W1 ⟨rfl, hb1⟩
  have s1 : (w.alloc (.cells #[.int .i64 0, .int .i64 0, .int .i64 0, .int .i64 0, .int .i64 0] 23)).heap.size = w.heap.size + 1 := by simp
  have h4 : W1.heap[w.heap.size]? = some (.cells #[.int .i64 0, .int .i64 0, .int .i64 0, .int .i64 0, .int .i64 0] 23 (0, 0)) := (hb1.1.block w.heap.size (by simp; omega)).trans ((heap_alloc_old _ _ (by rw [s1]; omega)).trans (heap_alloc_new _ _))
  have h5 : W1.heap[w.heap.size + 1]? = some (.cells #[.int .i64 op, .int .i64 0, .int .i64 0, .int .i64 0, .int .i64 0] 23 (0, 0)) := (hb1.1.block (w.heap.size + 1) (by simp)).trans (by rw [← s1]; exact heap_alloc_new _ _)
  have p0 : W1.cell? ⟨w.heap.size, 0, none⟩ = some (.int .i64 0) := cell_of_heap h4 0
  have f0 := frozen_of_heap h4 0
  have p1 : W1.cell? ⟨w.heap.size, 1, none⟩ = some (.int .i64 0) := cell_of_heap h4 1
  have f1 := frozen_of_heap h4 1
  have p2 : W1.cell? ⟨w.heap.size, 2, none⟩ = some (.int .i64 0) := cell_of_heap h4 2
  have f2 := frozen_of_heap h4 2
  have p3 : W1.cell? ⟨w.heap.size, 3, none⟩ = some (.int .i64 0) := cell_of_heap h4 3
  have f3 := frozen_of_heap h4 3
  have p4 : W1.cell? ⟨w.heap.size, 4, none⟩ = some (.int .i64 0) := cell_of_heap h4 4
  have f4 := frozen_of_heap h4 4
  have q0 : W1.cell? ⟨w.heap.size + 1, 0, none⟩ = some (.int .i64 op) := cell_of_heap h5 0
  have q1 : W1.cell? ⟨w.heap.size + 1, 1, none⟩ = some (.int .i64 0) := cell_of_heap h5 1
  have q2 : W1.cell? ⟨w.heap.size + 1, 2, none⟩ = some (.int .i64 0) := cell_of_heap h5 2
  have q3 : W1.cell? ⟨w.heap.size + 1, 3, none⟩ = some (.int .i64 0) := cell_of_heap h5 3
  have q4 : W1.cell? ⟨w.heap.size + 1, 4, none⟩ = some (.int .i64 0) := cell_of_heap h5 4
  have g0 := frozen_of_heap h5 0
  have g1 := frozen_of_heap h5 1
  have g2 := frozen_of_heap h5 2
  have g3 := frozen_of_heap h5 3
  have g4 := frozen_of_heap h5 4
  have HB := Lib.hid hb1
  clear hb1 s1 h4 h5
  have hdD : hasD 83 = false := by decide
  have hdA : hasA 83 = true := by decide
  have hdB : hasB 83 = true := by decide
  have HD := Lib.hid hdD
  have HA := Lib.hid hdA
  have HBB := Lib.hid hdB
  clear hdD hdA hdB
  go_wp2_with fail
  refine (has_D' HOK.out HD.out _).mono ?_
  rintro e w' ⟨rfl, rfl⟩
  go_wp2_with fail
  refine (has_A' HOK.out HA.out _).mono ?_
  rintro e w' ⟨rfl, rfl⟩
  go_wp2_with fail
  refine (bitsN_15_5 z0 z1 QY.out _).mono ?_
  rintro e w' ⟨rfl, dq, rfl⟩
  go_wp2_with fail
  refine (has_B' HOK.out HBB.out _).mono ?_
  rintro e w' ⟨rfl, rfl⟩
  go_wp2_with fail
  refine (bitsN_20_5 z0 z1 QU.out _).mono ?_
  rintro e w' ⟨rfl, dq, rfl⟩
  go_wp2_with fail
  refine (bitsN_7_5 z0 z1 Q0.out _).mono ?_
  rintro e w' ⟨rfl, dq, rfl⟩
  go_wp2_with fail
  refine (bitsN_25_7 z0 z1 Q1.out _).mono ?_
  rintro e w' ⟨rfl, dq, rfl⟩
  go_wp2_with fail
  refine (signedN (h := 2048) (by omega) (by omega) (by omega) QS.out _).mono ?_
  rintro e w' ⟨rfl, rfl⟩
  go_wp2_with fail
  refine bodyPost_ret (v := .agg #[.int .i64 op, .int .i64 0, .int .i64 y, .int .i64 u, .int .i64 (sv)]) (by simp [results, Try.results41, go_sem, p0, p1, p2, p3, p4, World.cell?_setCell_same, World.cell?_setCell_other]) rfl ⟨rfl, ?_⟩
  repeat (first | (with_reducible refine Both.drewN ?_ _) | (with_reducible refine Both.setCell ?_ ?side _; case side => (dsimp only; omega)))
  exact Both.trans (by repeat (first | exact Both.refl _ | refine Both.alloc ?_ _ _)) HB.out
set_option maxRecDepth 100000 in
set_option maxHeartbeats 8000000 in
theorem read_B (op z lo mi hi x y u r0 r1 r2 r3 sv : Int) (s : ByteArray) (z0 : 0 ≤ z) (z1 : z < 4294967296) (Hv : Hid (rowVals op = [.string s, .int .u8 66, .int .i64 lo, .int .i64 mi, .int .i64 hi])) (QX : Hid (z / 128 % 32 = x)) (QY : Hid (z / 32768 % 32 = y)) (QU : Hid (z / 1048576 % 32 = u)) (Q0 : Hid (z / 256 % 16 = r0)) (r00 : 0 ≤ r0) (r01 : r0 < 16) (Q1 : Hid (z / 33554432 % 64 = r1)) (r10 : 0 ≤ r1) (r11 : r1 < 64) (Q2 : Hid (z / 128 % 2 = r2)) (r20 : 0 ≤ r2) (r21 : r2 < 2) (Q3 : Hid (z / 2147483648 % 2 = r3)) (r30 : 0 ≤ r3) (r31 : r3 < 2) (QS : Hid (sgn (r0 * 2 + r1 * 32 + r2 * 2048 + r3 * 4096) 4096 = sv)) (w : World) :
    Calls Try.prog 41 #[.int .i64 op, .int .i64 z] w fun e w' => e = .returned (.agg #[.int .i64 op, .int .i64 0, .int .i64 y, .int .i64 u, .int .i64 sv]) ∧ Both w w' := by
  have hfld := field1 s 66 lo mi hi
  have hok : formOk 66 := by simp [formOk]
  have HOK := Lib.hid hok
  clear hok
  go_enter Try.func41, Try.ntmps41
  go_wp2_with fail
  refine (rowof_lit Hv.out _).mono ?_
  rintro e W1 ⟨rfl, hb1⟩
  have s1 : (w.alloc (.cells #[.int .i64 0, .int .i64 0, .int .i64 0, .int .i64 0, .int .i64 0] 23)).heap.size = w.heap.size + 1 := by simp
  have h4 : W1.heap[w.heap.size]? = some (.cells #[.int .i64 0, .int .i64 0, .int .i64 0, .int .i64 0, .int .i64 0] 23 (0, 0)) := (hb1.1.block w.heap.size (by simp; omega)).trans ((heap_alloc_old _ _ (by rw [s1]; omega)).trans (heap_alloc_new _ _))
  have h5 : W1.heap[w.heap.size + 1]? = some (.cells #[.int .i64 op, .int .i64 0, .int .i64 0, .int .i64 0, .int .i64 0] 23 (0, 0)) := (hb1.1.block (w.heap.size + 1) (by simp)).trans (by rw [← s1]; exact heap_alloc_new _ _)
  have p0 : W1.cell? ⟨w.heap.size, 0, none⟩ = some (.int .i64 0) := cell_of_heap h4 0
  have f0 := frozen_of_heap h4 0
  have p1 : W1.cell? ⟨w.heap.size, 1, none⟩ = some (.int .i64 0) := cell_of_heap h4 1
  have f1 := frozen_of_heap h4 1
  have p2 : W1.cell? ⟨w.heap.size, 2, none⟩ = some (.int .i64 0) := cell_of_heap h4 2
  have f2 := frozen_of_heap h4 2
  have p3 : W1.cell? ⟨w.heap.size, 3, none⟩ = some (.int .i64 0) := cell_of_heap h4 3
  have f3 := frozen_of_heap h4 3
  have p4 : W1.cell? ⟨w.heap.size, 4, none⟩ = some (.int .i64 0) := cell_of_heap h4 4
  have f4 := frozen_of_heap h4 4
  have q0 : W1.cell? ⟨w.heap.size + 1, 0, none⟩ = some (.int .i64 op) := cell_of_heap h5 0
  have q1 : W1.cell? ⟨w.heap.size + 1, 1, none⟩ = some (.int .i64 0) := cell_of_heap h5 1
  have q2 : W1.cell? ⟨w.heap.size + 1, 2, none⟩ = some (.int .i64 0) := cell_of_heap h5 2
  have q3 : W1.cell? ⟨w.heap.size + 1, 3, none⟩ = some (.int .i64 0) := cell_of_heap h5 3
  have q4 : W1.cell? ⟨w.heap.size + 1, 4, none⟩ = some (.int .i64 0) := cell_of_heap h5 4
  have g0 := frozen_of_heap h5 0
  have g1 := frozen_of_heap h5 1
  have g2 := frozen_of_heap h5 2
  have g3 := frozen_of_heap h5 3
  have g4 := frozen_of_heap h5 4
  have HB := Lib.hid hb1
  clear hb1 s1 h4 h5
  have hdD : hasD 66 = false := by decide
  have hdA : hasA 66 = true := by decide
  have hdB : hasB 66 = true := by decide
  have HD := Lib.hid hdD
  have HA := Lib.hid hdA
  have HBB := Lib.hid hdB
  clear hdD hdA hdB
  go_wp2_with fail
  refine (has_D' HOK.out HD.out _).mono ?_
  rintro e w' ⟨rfl, rfl⟩
  go_wp2_with fail
  refine (has_A' HOK.out HA.out _).mono ?_
  rintro e w' ⟨rfl, rfl⟩
  go_wp2_with fail
  refine (bitsN_15_5 z0 z1 QY.out _).mono ?_
  rintro e w' ⟨rfl, dq, rfl⟩
  go_wp2_with fail
  refine (has_B' HOK.out HBB.out _).mono ?_
  rintro e w' ⟨rfl, rfl⟩
  go_wp2_with fail
  refine (bitsN_20_5 z0 z1 QU.out _).mono ?_
  rintro e w' ⟨rfl, dq, rfl⟩
  go_wp2_with fail
  refine (bitsN_8_4 z0 z1 Q0.out _).mono ?_
  rintro e w' ⟨rfl, dq, rfl⟩
  go_wp2_with fail
  refine (bitsN_25_6 z0 z1 Q1.out _).mono ?_
  rintro e w' ⟨rfl, dq, rfl⟩
  go_wp2_with fail
  refine (bitsN_7_1 z0 z1 Q2.out _).mono ?_
  rintro e w' ⟨rfl, dq, rfl⟩
  go_wp2_with fail
  refine (bitsN_31_1 z0 z1 Q3.out _).mono ?_
  rintro e w' ⟨rfl, dq, rfl⟩
  go_wp2_with fail
  refine (signedN (h := 4096) (by omega) (by omega) (by omega) QS.out _).mono ?_
  rintro e w' ⟨rfl, rfl⟩
  go_wp2_with fail
  refine bodyPost_ret (v := .agg #[.int .i64 op, .int .i64 0, .int .i64 y, .int .i64 u, .int .i64 (sv)]) (by simp [results, Try.results41, go_sem, p0, p1, p2, p3, p4, World.cell?_setCell_same, World.cell?_setCell_other]) rfl ⟨rfl, ?_⟩
  repeat (first | (with_reducible refine Both.drewN ?_ _) | (with_reducible refine Both.setCell ?_ ?side _; case side => (dsimp only; omega)))
  exact Both.trans (by repeat (first | exact Both.refl _ | refine Both.alloc ?_ _ _)) HB.out
set_option maxRecDepth 100000 in
set_option maxHeartbeats 8000000 in
theorem read_U (op z lo mi hi x y u r0 : Int) (s : ByteArray) (z0 : 0 ≤ z) (z1 : z < 4294967296) (Hv : Hid (rowVals op = [.string s, .int .u8 85, .int .i64 lo, .int .i64 mi, .int .i64 hi])) (QX : Hid (z / 128 % 32 = x)) (QY : Hid (z / 32768 % 32 = y)) (QU : Hid (z / 1048576 % 32 = u)) (Q0 : Hid (z / 4096 % 1048576 = r0)) (r00 : 0 ≤ r0) (r01 : r0 < 1048576) (w : World) :
    Calls Try.prog 41 #[.int .i64 op, .int .i64 z] w fun e w' => e = .returned (.agg #[.int .i64 op, .int .i64 x, .int .i64 0, .int .i64 0, .int .i64 r0]) ∧ Both w w' := by
  have hfld := field1 s 85 lo mi hi
  have hok : formOk 85 := by simp [formOk]
  have HOK := Lib.hid hok
  clear hok
  go_enter Try.func41, Try.ntmps41
  go_wp2_with fail
  refine (rowof_lit Hv.out _).mono ?_
  rintro e W1 ⟨rfl, hb1⟩
  have s1 : (w.alloc (.cells #[.int .i64 0, .int .i64 0, .int .i64 0, .int .i64 0, .int .i64 0] 23)).heap.size = w.heap.size + 1 := by simp
  have h4 : W1.heap[w.heap.size]? = some (.cells #[.int .i64 0, .int .i64 0, .int .i64 0, .int .i64 0, .int .i64 0] 23 (0, 0)) := (hb1.1.block w.heap.size (by simp; omega)).trans ((heap_alloc_old _ _ (by rw [s1]; omega)).trans (heap_alloc_new _ _))
  have h5 : W1.heap[w.heap.size + 1]? = some (.cells #[.int .i64 op, .int .i64 0, .int .i64 0, .int .i64 0, .int .i64 0] 23 (0, 0)) := (hb1.1.block (w.heap.size + 1) (by simp)).trans (by rw [← s1]; exact heap_alloc_new _ _)
  have p0 : W1.cell? ⟨w.heap.size, 0, none⟩ = some (.int .i64 0) := cell_of_heap h4 0
  have f0 := frozen_of_heap h4 0
  have p1 : W1.cell? ⟨w.heap.size, 1, none⟩ = some (.int .i64 0) := cell_of_heap h4 1
  have f1 := frozen_of_heap h4 1
  have p2 : W1.cell? ⟨w.heap.size, 2, none⟩ = some (.int .i64 0) := cell_of_heap h4 2
  have f2 := frozen_of_heap h4 2
  have p3 : W1.cell? ⟨w.heap.size, 3, none⟩ = some (.int .i64 0) := cell_of_heap h4 3
  have f3 := frozen_of_heap h4 3
  have p4 : W1.cell? ⟨w.heap.size, 4, none⟩ = some (.int .i64 0) := cell_of_heap h4 4
  have f4 := frozen_of_heap h4 4
  have q0 : W1.cell? ⟨w.heap.size + 1, 0, none⟩ = some (.int .i64 op) := cell_of_heap h5 0
  have q1 : W1.cell? ⟨w.heap.size + 1, 1, none⟩ = some (.int .i64 0) := cell_of_heap h5 1
  have q2 : W1.cell? ⟨w.heap.size + 1, 2, none⟩ = some (.int .i64 0) := cell_of_heap h5 2
  have q3 : W1.cell? ⟨w.heap.size + 1, 3, none⟩ = some (.int .i64 0) := cell_of_heap h5 3
  have q4 : W1.cell? ⟨w.heap.size + 1, 4, none⟩ = some (.int .i64 0) := cell_of_heap h5 4
  have g0 := frozen_of_heap h5 0
  have g1 := frozen_of_heap h5 1
  have g2 := frozen_of_heap h5 2
  have g3 := frozen_of_heap h5 3
  have g4 := frozen_of_heap h5 4
  have HB := Lib.hid hb1
  clear hb1 s1 h4 h5
  have hdD : hasD 85 = true := by decide
  have hdA : hasA 85 = false := by decide
  have hdB : hasB 85 = false := by decide
  have HD := Lib.hid hdD
  have HA := Lib.hid hdA
  have HBB := Lib.hid hdB
  clear hdD hdA hdB
  go_wp2_with fail
  refine (has_D' HOK.out HD.out _).mono ?_
  rintro e w' ⟨rfl, rfl⟩
  go_wp2_with fail
  refine (bitsN_7_5 z0 z1 QX.out _).mono ?_
  rintro e w' ⟨rfl, dq, rfl⟩
  go_wp2_with fail
  refine (has_A' HOK.out HA.out _).mono ?_
  rintro e w' ⟨rfl, rfl⟩
  go_wp2_with fail
  refine (has_B' HOK.out HBB.out _).mono ?_
  rintro e w' ⟨rfl, rfl⟩
  go_wp2_with fail
  refine (bitsN_12_20 z0 z1 Q0.out _).mono ?_
  rintro e w' ⟨rfl, dq, rfl⟩
  go_wp2_with fail
  refine bodyPost_ret (v := .agg #[.int .i64 op, .int .i64 x, .int .i64 0, .int .i64 0, .int .i64 (r0)]) (by simp [results, Try.results41, go_sem, p0, p1, p2, p3, p4, World.cell?_setCell_same, World.cell?_setCell_other]) rfl ⟨rfl, ?_⟩
  repeat (first | (with_reducible refine Both.drewN ?_ _) | (with_reducible refine Both.setCell ?_ ?side _; case side => (dsimp only; omega)))
  exact Both.trans (by repeat (first | exact Both.refl _ | refine Both.alloc ?_ _ _)) HB.out
set_option maxRecDepth 100000 in
set_option maxHeartbeats 8000000 in
theorem read_J (op z lo mi hi x y u r0 r1 r2 r3 sv : Int) (s : ByteArray) (z0 : 0 ≤ z) (z1 : z < 4294967296) (Hv : Hid (rowVals op = [.string s, .int .u8 74, .int .i64 lo, .int .i64 mi, .int .i64 hi])) (QX : Hid (z / 128 % 32 = x)) (QY : Hid (z / 32768 % 32 = y)) (QU : Hid (z / 1048576 % 32 = u)) (Q0 : Hid (z / 2097152 % 1024 = r0)) (r00 : 0 ≤ r0) (r01 : r0 < 1024) (Q1 : Hid (z / 1048576 % 2 = r1)) (r10 : 0 ≤ r1) (r11 : r1 < 2) (Q2 : Hid (z / 4096 % 256 = r2)) (r20 : 0 ≤ r2) (r21 : r2 < 256) (Q3 : Hid (z / 2147483648 % 2 = r3)) (r30 : 0 ≤ r3) (r31 : r3 < 2) (QS : Hid (sgn (r0 * 2 + r1 * 2048 + r2 * 4096 + r3 * 1048576) 1048576 = sv)) (w : World) :
    Calls Try.prog 41 #[.int .i64 op, .int .i64 z] w fun e w' => e = .returned (.agg #[.int .i64 op, .int .i64 x, .int .i64 0, .int .i64 0, .int .i64 sv]) ∧ Both w w' := by
  have hfld := field1 s 74 lo mi hi
  have hok : formOk 74 := by simp [formOk]
  have HOK := Lib.hid hok
  clear hok
  go_enter Try.func41, Try.ntmps41
  go_wp2_with fail
  refine (rowof_lit Hv.out _).mono ?_
  rintro e W1 ⟨rfl, hb1⟩
  have s1 : (w.alloc (.cells #[.int .i64 0, .int .i64 0, .int .i64 0, .int .i64 0, .int .i64 0] 23)).heap.size = w.heap.size + 1 := by simp
  have h4 : W1.heap[w.heap.size]? = some (.cells #[.int .i64 0, .int .i64 0, .int .i64 0, .int .i64 0, .int .i64 0] 23 (0, 0)) := (hb1.1.block w.heap.size (by simp; omega)).trans ((heap_alloc_old _ _ (by rw [s1]; omega)).trans (heap_alloc_new _ _))
  have h5 : W1.heap[w.heap.size + 1]? = some (.cells #[.int .i64 op, .int .i64 0, .int .i64 0, .int .i64 0, .int .i64 0] 23 (0, 0)) := (hb1.1.block (w.heap.size + 1) (by simp)).trans (by rw [← s1]; exact heap_alloc_new _ _)
  have p0 : W1.cell? ⟨w.heap.size, 0, none⟩ = some (.int .i64 0) := cell_of_heap h4 0
  have f0 := frozen_of_heap h4 0
  have p1 : W1.cell? ⟨w.heap.size, 1, none⟩ = some (.int .i64 0) := cell_of_heap h4 1
  have f1 := frozen_of_heap h4 1
  have p2 : W1.cell? ⟨w.heap.size, 2, none⟩ = some (.int .i64 0) := cell_of_heap h4 2
  have f2 := frozen_of_heap h4 2
  have p3 : W1.cell? ⟨w.heap.size, 3, none⟩ = some (.int .i64 0) := cell_of_heap h4 3
  have f3 := frozen_of_heap h4 3
  have p4 : W1.cell? ⟨w.heap.size, 4, none⟩ = some (.int .i64 0) := cell_of_heap h4 4
  have f4 := frozen_of_heap h4 4
  have q0 : W1.cell? ⟨w.heap.size + 1, 0, none⟩ = some (.int .i64 op) := cell_of_heap h5 0
  have q1 : W1.cell? ⟨w.heap.size + 1, 1, none⟩ = some (.int .i64 0) := cell_of_heap h5 1
  have q2 : W1.cell? ⟨w.heap.size + 1, 2, none⟩ = some (.int .i64 0) := cell_of_heap h5 2
  have q3 : W1.cell? ⟨w.heap.size + 1, 3, none⟩ = some (.int .i64 0) := cell_of_heap h5 3
  have q4 : W1.cell? ⟨w.heap.size + 1, 4, none⟩ = some (.int .i64 0) := cell_of_heap h5 4
  have g0 := frozen_of_heap h5 0
  have g1 := frozen_of_heap h5 1
  have g2 := frozen_of_heap h5 2
  have g3 := frozen_of_heap h5 3
  have g4 := frozen_of_heap h5 4
  have HB := Lib.hid hb1
  clear hb1 s1 h4 h5
  have hdD : hasD 74 = true := by decide
  have hdA : hasA 74 = false := by decide
  have hdB : hasB 74 = false := by decide
  have HD := Lib.hid hdD
  have HA := Lib.hid hdA
  have HBB := Lib.hid hdB
  clear hdD hdA hdB
  go_wp2_with fail
  refine (has_D' HOK.out HD.out _).mono ?_
  rintro e w' ⟨rfl, rfl⟩
  go_wp2_with fail
  refine (bitsN_7_5 z0 z1 QX.out _).mono ?_
  rintro e w' ⟨rfl, dq, rfl⟩
  go_wp2_with fail
  refine (has_A' HOK.out HA.out _).mono ?_
  rintro e w' ⟨rfl, rfl⟩
  go_wp2_with fail
  refine (has_B' HOK.out HBB.out _).mono ?_
  rintro e w' ⟨rfl, rfl⟩
  go_wp2_with fail
  refine (bitsN_21_10 z0 z1 Q0.out _).mono ?_
  rintro e w' ⟨rfl, dq, rfl⟩
  go_wp2_with fail
  refine (bitsN_20_1 z0 z1 Q1.out _).mono ?_
  rintro e w' ⟨rfl, dq, rfl⟩
  go_wp2_with fail
  refine (bitsN_12_8 z0 z1 Q2.out _).mono ?_
  rintro e w' ⟨rfl, dq, rfl⟩
  go_wp2_with fail
  refine (bitsN_31_1 z0 z1 Q3.out _).mono ?_
  rintro e w' ⟨rfl, dq, rfl⟩
  go_wp2_with fail
  refine (signedN (h := 1048576) (by omega) (by omega) (by omega) QS.out _).mono ?_
  rintro e w' ⟨rfl, rfl⟩
  go_wp2_with fail
  refine bodyPost_ret (v := .agg #[.int .i64 op, .int .i64 x, .int .i64 0, .int .i64 0, .int .i64 (sv)]) (by simp [results, Try.results41, go_sem, p0, p1, p2, p3, p4, World.cell?_setCell_same, World.cell?_setCell_other]) rfl ⟨rfl, ?_⟩
  repeat (first | (with_reducible refine Both.drewN ?_ _) | (with_reducible refine Both.setCell ?_ ?side _; case side => (dsimp only; omega)))
  exact Both.trans (by repeat (first | exact Both.refl _ | refine Both.alloc ?_ _ _)) HB.out
set_option maxRecDepth 100000 in
set_option maxHeartbeats 8000000 in
theorem read_F (op z lo mi hi x y u r0 : Int) (s : ByteArray) (z0 : 0 ≤ z) (z1 : z < 4294967296) (Hv : Hid (rowVals op = [.string s, .int .u8 70, .int .i64 lo, .int .i64 mi, .int .i64 hi])) (QX : Hid (z / 128 % 32 = x)) (QY : Hid (z / 32768 % 32 = y)) (QU : Hid (z / 1048576 % 32 = u)) (Q0 : Hid (z / 1048576 % 256 = r0)) (r00 : 0 ≤ r0) (r01 : r0 < 256) (w : World) :
    Calls Try.prog 41 #[.int .i64 op, .int .i64 z] w fun e w' => e = .returned (.agg #[.int .i64 op, .int .i64 0, .int .i64 0, .int .i64 0, .int .i64 r0]) ∧ Both w w' := by
  have hfld := field1 s 70 lo mi hi
  have hok : formOk 70 := by simp [formOk]
  have HOK := Lib.hid hok
  clear hok
  go_enter Try.func41, Try.ntmps41
  go_wp2_with fail
  refine (rowof_lit Hv.out _).mono ?_
  rintro e W1 ⟨rfl, hb1⟩
  have s1 : (w.alloc (.cells #[.int .i64 0, .int .i64 0, .int .i64 0, .int .i64 0, .int .i64 0] 23)).heap.size = w.heap.size + 1 := by simp
  have h4 : W1.heap[w.heap.size]? = some (.cells #[.int .i64 0, .int .i64 0, .int .i64 0, .int .i64 0, .int .i64 0] 23 (0, 0)) := (hb1.1.block w.heap.size (by simp; omega)).trans ((heap_alloc_old _ _ (by rw [s1]; omega)).trans (heap_alloc_new _ _))
  have h5 : W1.heap[w.heap.size + 1]? = some (.cells #[.int .i64 op, .int .i64 0, .int .i64 0, .int .i64 0, .int .i64 0] 23 (0, 0)) := (hb1.1.block (w.heap.size + 1) (by simp)).trans (by rw [← s1]; exact heap_alloc_new _ _)
  have p0 : W1.cell? ⟨w.heap.size, 0, none⟩ = some (.int .i64 0) := cell_of_heap h4 0
  have f0 := frozen_of_heap h4 0
  have p1 : W1.cell? ⟨w.heap.size, 1, none⟩ = some (.int .i64 0) := cell_of_heap h4 1
  have f1 := frozen_of_heap h4 1
  have p2 : W1.cell? ⟨w.heap.size, 2, none⟩ = some (.int .i64 0) := cell_of_heap h4 2
  have f2 := frozen_of_heap h4 2
  have p3 : W1.cell? ⟨w.heap.size, 3, none⟩ = some (.int .i64 0) := cell_of_heap h4 3
  have f3 := frozen_of_heap h4 3
  have p4 : W1.cell? ⟨w.heap.size, 4, none⟩ = some (.int .i64 0) := cell_of_heap h4 4
  have f4 := frozen_of_heap h4 4
  have q0 : W1.cell? ⟨w.heap.size + 1, 0, none⟩ = some (.int .i64 op) := cell_of_heap h5 0
  have q1 : W1.cell? ⟨w.heap.size + 1, 1, none⟩ = some (.int .i64 0) := cell_of_heap h5 1
  have q2 : W1.cell? ⟨w.heap.size + 1, 2, none⟩ = some (.int .i64 0) := cell_of_heap h5 2
  have q3 : W1.cell? ⟨w.heap.size + 1, 3, none⟩ = some (.int .i64 0) := cell_of_heap h5 3
  have q4 : W1.cell? ⟨w.heap.size + 1, 4, none⟩ = some (.int .i64 0) := cell_of_heap h5 4
  have g0 := frozen_of_heap h5 0
  have g1 := frozen_of_heap h5 1
  have g2 := frozen_of_heap h5 2
  have g3 := frozen_of_heap h5 3
  have g4 := frozen_of_heap h5 4
  have HB := Lib.hid hb1
  clear hb1 s1 h4 h5
  have hdD : hasD 70 = false := by decide
  have hdA : hasA 70 = false := by decide
  have hdB : hasB 70 = false := by decide
  have HD := Lib.hid hdD
  have HA := Lib.hid hdA
  have HBB := Lib.hid hdB
  clear hdD hdA hdB
  go_wp2_with fail
  refine (has_D' HOK.out HD.out _).mono ?_
  rintro e w' ⟨rfl, rfl⟩
  go_wp2_with fail
  refine (has_A' HOK.out HA.out _).mono ?_
  rintro e w' ⟨rfl, rfl⟩
  go_wp2_with fail
  refine (has_B' HOK.out HBB.out _).mono ?_
  rintro e w' ⟨rfl, rfl⟩
  go_wp2_with fail
  refine (bitsN_20_8 z0 z1 Q0.out _).mono ?_
  rintro e w' ⟨rfl, dq, rfl⟩
  go_wp2_with fail
  refine bodyPost_ret (v := .agg #[.int .i64 op, .int .i64 0, .int .i64 0, .int .i64 0, .int .i64 (r0)]) (by simp [results, Try.results41, go_sem, p0, p1, p2, p3, p4, World.cell?_setCell_same, World.cell?_setCell_other]) rfl ⟨rfl, ?_⟩
  repeat (first | (with_reducible refine Both.drewN ?_ _) | (with_reducible refine Both.setCell ?_ ?side _; case side => (dsimp only; omega)))
  exact Both.trans (by repeat (first | exact Both.refl _ | refine Both.alloc ?_ _ _)) HB.out
set_option maxRecDepth 100000 in
set_option maxHeartbeats 8000000 in
theorem read_Z (op z lo mi hi x y u : Int) (s : ByteArray) (z0 : 0 ≤ z) (z1 : z < 4294967296) (Hv : Hid (rowVals op = [.string s, .int .u8 90, .int .i64 lo, .int .i64 mi, .int .i64 hi])) (QX : Hid (z / 128 % 32 = x)) (QY : Hid (z / 32768 % 32 = y)) (QU : Hid (z / 1048576 % 32 = u)) (w : World) :
    Calls Try.prog 41 #[.int .i64 op, .int .i64 z] w fun e w' => e = .returned (.agg #[.int .i64 op, .int .i64 0, .int .i64 0, .int .i64 0, .int .i64 0]) ∧ Both w w' := by
  have hfld := field1 s 90 lo mi hi
  have hok : formOk 90 := by simp [formOk]
  have HOK := Lib.hid hok
  clear hok
  go_enter Try.func41, Try.ntmps41
  go_wp2_with fail
  refine (rowof_lit Hv.out _).mono ?_
  rintro e W1 ⟨rfl, hb1⟩
  have s1 : (w.alloc (.cells #[.int .i64 0, .int .i64 0, .int .i64 0, .int .i64 0, .int .i64 0] 23)).heap.size = w.heap.size + 1 := by simp
  have h4 : W1.heap[w.heap.size]? = some (.cells #[.int .i64 0, .int .i64 0, .int .i64 0, .int .i64 0, .int .i64 0] 23 (0, 0)) := (hb1.1.block w.heap.size (by simp; omega)).trans ((heap_alloc_old _ _ (by rw [s1]; omega)).trans (heap_alloc_new _ _))
  have h5 : W1.heap[w.heap.size + 1]? = some (.cells #[.int .i64 op, .int .i64 0, .int .i64 0, .int .i64 0, .int .i64 0] 23 (0, 0)) := (hb1.1.block (w.heap.size + 1) (by simp)).trans (by rw [← s1]; exact heap_alloc_new _ _)
  have p0 : W1.cell? ⟨w.heap.size, 0, none⟩ = some (.int .i64 0) := cell_of_heap h4 0
  have f0 := frozen_of_heap h4 0
  have p1 : W1.cell? ⟨w.heap.size, 1, none⟩ = some (.int .i64 0) := cell_of_heap h4 1
  have f1 := frozen_of_heap h4 1
  have p2 : W1.cell? ⟨w.heap.size, 2, none⟩ = some (.int .i64 0) := cell_of_heap h4 2
  have f2 := frozen_of_heap h4 2
  have p3 : W1.cell? ⟨w.heap.size, 3, none⟩ = some (.int .i64 0) := cell_of_heap h4 3
  have f3 := frozen_of_heap h4 3
  have p4 : W1.cell? ⟨w.heap.size, 4, none⟩ = some (.int .i64 0) := cell_of_heap h4 4
  have f4 := frozen_of_heap h4 4
  have q0 : W1.cell? ⟨w.heap.size + 1, 0, none⟩ = some (.int .i64 op) := cell_of_heap h5 0
  have q1 : W1.cell? ⟨w.heap.size + 1, 1, none⟩ = some (.int .i64 0) := cell_of_heap h5 1
  have q2 : W1.cell? ⟨w.heap.size + 1, 2, none⟩ = some (.int .i64 0) := cell_of_heap h5 2
  have q3 : W1.cell? ⟨w.heap.size + 1, 3, none⟩ = some (.int .i64 0) := cell_of_heap h5 3
  have q4 : W1.cell? ⟨w.heap.size + 1, 4, none⟩ = some (.int .i64 0) := cell_of_heap h5 4
  have g0 := frozen_of_heap h5 0
  have g1 := frozen_of_heap h5 1
  have g2 := frozen_of_heap h5 2
  have g3 := frozen_of_heap h5 3
  have g4 := frozen_of_heap h5 4
  have HB := Lib.hid hb1
  clear hb1 s1 h4 h5
  have hdD : hasD 90 = false := by decide
  have hdA : hasA 90 = false := by decide
  have hdB : hasB 90 = false := by decide
  have HD := Lib.hid hdD
  have HA := Lib.hid hdA
  have HBB := Lib.hid hdB
  clear hdD hdA hdB
  go_wp2_with fail
  refine (has_D' HOK.out HD.out _).mono ?_
  rintro e w' ⟨rfl, rfl⟩
  go_wp2_with fail
  refine (has_A' HOK.out HA.out _).mono ?_
  rintro e w' ⟨rfl, rfl⟩
  go_wp2_with fail
  refine (has_B' HOK.out HBB.out _).mono ?_
  rintro e w' ⟨rfl, rfl⟩
  go_wp2_with fail
  refine bodyPost_ret (v := .agg #[.int .i64 op, .int .i64 0, .int .i64 0, .int .i64 0, .int .i64 (0)]) (by simp [results, Try.results41, go_sem, p0, p1, p2, p3, p4, World.cell?_setCell_same, World.cell?_setCell_other]) rfl ⟨rfl, ?_⟩
  repeat (first | (with_reducible refine Both.drewN ?_ _) | (with_reducible refine Both.setCell ?_ ?side _; case side => (dsimp only; omega)))
  exact Both.trans (by repeat (first | exact Both.refl _ | refine Both.alloc ?_ _ _)) HB.out
set_option maxRecDepth 100000 in
set_option maxHeartbeats 8000000 in
theorem read_L (op z lo mi hi x y u r0 : Int) (s : ByteArray) (z0 : 0 ≤ z) (z1 : z < 4294967296) (Hv : Hid (rowVals op = [.string s, .int .u8 76, .int .i64 lo, .int .i64 mi, .int .i64 hi])) (QX : Hid (z / 128 % 32 = x)) (QY : Hid (z / 32768 % 32 = y)) (QU : Hid (z / 1048576 % 32 = u)) (Q0 : Hid (z / 33554432 % 4 = r0)) (r00 : 0 ≤ r0) (r01 : r0 < 4) (w : World) :
    Calls Try.prog 41 #[.int .i64 op, .int .i64 z] w fun e w' => e = .returned (.agg #[.int .i64 op, .int .i64 x, .int .i64 y, .int .i64 0, .int .i64 r0]) ∧ Both w w' := by
  have hfld := field1 s 76 lo mi hi
  have hok : formOk 76 := by simp [formOk]
  have HOK := Lib.hid hok
  clear hok
  go_enter Try.func41, Try.ntmps41
  go_wp2_with fail
  refine (rowof_lit Hv.out _).mono ?_
  rintro e W1 ⟨rfl, hb1⟩
  have s1 : (w.alloc (.cells #[.int .i64 0, .int .i64 0, .int .i64 0, .int .i64 0, .int .i64 0] 23)).heap.size = w.heap.size + 1 := by simp
  have h4 : W1.heap[w.heap.size]? = some (.cells #[.int .i64 0, .int .i64 0, .int .i64 0, .int .i64 0, .int .i64 0] 23 (0, 0)) := (hb1.1.block w.heap.size (by simp; omega)).trans ((heap_alloc_old _ _ (by rw [s1]; omega)).trans (heap_alloc_new _ _))
  have h5 : W1.heap[w.heap.size + 1]? = some (.cells #[.int .i64 op, .int .i64 0, .int .i64 0, .int .i64 0, .int .i64 0] 23 (0, 0)) := (hb1.1.block (w.heap.size + 1) (by simp)).trans (by rw [← s1]; exact heap_alloc_new _ _)
  have p0 : W1.cell? ⟨w.heap.size, 0, none⟩ = some (.int .i64 0) := cell_of_heap h4 0
  have f0 := frozen_of_heap h4 0
  have p1 : W1.cell? ⟨w.heap.size, 1, none⟩ = some (.int .i64 0) := cell_of_heap h4 1
  have f1 := frozen_of_heap h4 1
  have p2 : W1.cell? ⟨w.heap.size, 2, none⟩ = some (.int .i64 0) := cell_of_heap h4 2
  have f2 := frozen_of_heap h4 2
  have p3 : W1.cell? ⟨w.heap.size, 3, none⟩ = some (.int .i64 0) := cell_of_heap h4 3
  have f3 := frozen_of_heap h4 3
  have p4 : W1.cell? ⟨w.heap.size, 4, none⟩ = some (.int .i64 0) := cell_of_heap h4 4
  have f4 := frozen_of_heap h4 4
  have q0 : W1.cell? ⟨w.heap.size + 1, 0, none⟩ = some (.int .i64 op) := cell_of_heap h5 0
  have q1 : W1.cell? ⟨w.heap.size + 1, 1, none⟩ = some (.int .i64 0) := cell_of_heap h5 1
  have q2 : W1.cell? ⟨w.heap.size + 1, 2, none⟩ = some (.int .i64 0) := cell_of_heap h5 2
  have q3 : W1.cell? ⟨w.heap.size + 1, 3, none⟩ = some (.int .i64 0) := cell_of_heap h5 3
  have q4 : W1.cell? ⟨w.heap.size + 1, 4, none⟩ = some (.int .i64 0) := cell_of_heap h5 4
  have g0 := frozen_of_heap h5 0
  have g1 := frozen_of_heap h5 1
  have g2 := frozen_of_heap h5 2
  have g3 := frozen_of_heap h5 3
  have g4 := frozen_of_heap h5 4
  have HB := Lib.hid hb1
  clear hb1 s1 h4 h5
  have hdD : hasD 76 = true := by decide
  have hdA : hasA 76 = true := by decide
  have hdB : hasB 76 = false := by decide
  have HD := Lib.hid hdD
  have HA := Lib.hid hdA
  have HBB := Lib.hid hdB
  clear hdD hdA hdB
  go_wp2_with fail
  refine (has_D' HOK.out HD.out _).mono ?_
  rintro e w' ⟨rfl, rfl⟩
  go_wp2_with fail
  refine (bitsN_7_5 z0 z1 QX.out _).mono ?_
  rintro e w' ⟨rfl, dq, rfl⟩
  go_wp2_with fail
  refine (has_A' HOK.out HA.out _).mono ?_
  rintro e w' ⟨rfl, rfl⟩
  go_wp2_with fail
  refine (bitsN_15_5 z0 z1 QY.out _).mono ?_
  rintro e w' ⟨rfl, dq, rfl⟩
  go_wp2_with fail
  refine (has_B' HOK.out HBB.out _).mono ?_
  rintro e w' ⟨rfl, rfl⟩
  go_wp2_with fail
  refine (bitsN_25_2 z0 z1 Q0.out _).mono ?_
  rintro e w' ⟨rfl, dq, rfl⟩
  go_wp2_with fail
  refine bodyPost_ret (v := .agg #[.int .i64 op, .int .i64 x, .int .i64 y, .int .i64 0, .int .i64 (r0)]) (by simp [results, Try.results41, go_sem, p0, p1, p2, p3, p4, World.cell?_setCell_same, World.cell?_setCell_other]) rfl ⟨rfl, ?_⟩
  repeat (first | (with_reducible refine Both.drewN ?_ _) | (with_reducible refine Both.setCell ?_ ?side _; case side => (dsimp only; omega)))
  exact Both.trans (by repeat (first | exact Both.refl _ | refine Both.alloc ?_ _ _)) HB.out
set_option maxRecDepth 100000 in
set_option maxHeartbeats 8000000 in
theorem read_A (op z lo mi hi x y u r0 : Int) (s : ByteArray) (z0 : 0 ≤ z) (z1 : z < 4294967296) (Hv : Hid (rowVals op = [.string s, .int .u8 65, .int .i64 lo, .int .i64 mi, .int .i64 hi])) (QX : Hid (z / 128 % 32 = x)) (QY : Hid (z / 32768 % 32 = y)) (QU : Hid (z / 1048576 % 32 = u)) (Q0 : Hid (z / 33554432 % 4 = r0)) (r00 : 0 ≤ r0) (r01 : r0 < 4) (w : World) :
    Calls Try.prog 41 #[.int .i64 op, .int .i64 z] w fun e w' => e = .returned (.agg #[.int .i64 op, .int .i64 x, .int .i64 y, .int .i64 u, .int .i64 r0]) ∧ Both w w' := by
  have hfld := field1 s 65 lo mi hi
  have hok : formOk 65 := by simp [formOk]
  have HOK := Lib.hid hok
  clear hok
  go_enter Try.func41, Try.ntmps41
  go_wp2_with fail
  refine (rowof_lit Hv.out _).mono ?_
  rintro e W1 ⟨rfl, hb1⟩
  have s1 : (w.alloc (.cells #[.int .i64 0, .int .i64 0, .int .i64 0, .int .i64 0, .int .i64 0] 23)).heap.size = w.heap.size + 1 := by simp
  have h4 : W1.heap[w.heap.size]? = some (.cells #[.int .i64 0, .int .i64 0, .int .i64 0, .int .i64 0, .int .i64 0] 23 (0, 0)) := (hb1.1.block w.heap.size (by simp; omega)).trans ((heap_alloc_old _ _ (by rw [s1]; omega)).trans (heap_alloc_new _ _))
  have h5 : W1.heap[w.heap.size + 1]? = some (.cells #[.int .i64 op, .int .i64 0, .int .i64 0, .int .i64 0, .int .i64 0] 23 (0, 0)) := (hb1.1.block (w.heap.size + 1) (by simp)).trans (by rw [← s1]; exact heap_alloc_new _ _)
  have p0 : W1.cell? ⟨w.heap.size, 0, none⟩ = some (.int .i64 0) := cell_of_heap h4 0
  have f0 := frozen_of_heap h4 0
  have p1 : W1.cell? ⟨w.heap.size, 1, none⟩ = some (.int .i64 0) := cell_of_heap h4 1
  have f1 := frozen_of_heap h4 1
  have p2 : W1.cell? ⟨w.heap.size, 2, none⟩ = some (.int .i64 0) := cell_of_heap h4 2
  have f2 := frozen_of_heap h4 2
  have p3 : W1.cell? ⟨w.heap.size, 3, none⟩ = some (.int .i64 0) := cell_of_heap h4 3
  have f3 := frozen_of_heap h4 3
  have p4 : W1.cell? ⟨w.heap.size, 4, none⟩ = some (.int .i64 0) := cell_of_heap h4 4
  have f4 := frozen_of_heap h4 4
  have q0 : W1.cell? ⟨w.heap.size + 1, 0, none⟩ = some (.int .i64 op) := cell_of_heap h5 0
  have q1 : W1.cell? ⟨w.heap.size + 1, 1, none⟩ = some (.int .i64 0) := cell_of_heap h5 1
  have q2 : W1.cell? ⟨w.heap.size + 1, 2, none⟩ = some (.int .i64 0) := cell_of_heap h5 2
  have q3 : W1.cell? ⟨w.heap.size + 1, 3, none⟩ = some (.int .i64 0) := cell_of_heap h5 3
  have q4 : W1.cell? ⟨w.heap.size + 1, 4, none⟩ = some (.int .i64 0) := cell_of_heap h5 4
  have g0 := frozen_of_heap h5 0
  have g1 := frozen_of_heap h5 1
  have g2 := frozen_of_heap h5 2
  have g3 := frozen_of_heap h5 3
  have g4 := frozen_of_heap h5 4
  have HB := Lib.hid hb1
  clear hb1 s1 h4 h5
  have hdD : hasD 65 = true := by decide
  have hdA : hasA 65 = true := by decide
  have hdB : hasB 65 = true := by decide
  have HD := Lib.hid hdD
  have HA := Lib.hid hdA
  have HBB := Lib.hid hdB
  clear hdD hdA hdB
  go_wp2_with fail
  refine (has_D' HOK.out HD.out _).mono ?_
  rintro e w' ⟨rfl, rfl⟩
  go_wp2_with fail
  refine (bitsN_7_5 z0 z1 QX.out _).mono ?_
  rintro e w' ⟨rfl, dq, rfl⟩
  go_wp2_with fail
  refine (has_A' HOK.out HA.out _).mono ?_
  rintro e w' ⟨rfl, rfl⟩
  go_wp2_with fail
  refine (bitsN_15_5 z0 z1 QY.out _).mono ?_
  rintro e w' ⟨rfl, dq, rfl⟩
  go_wp2_with fail
  refine (has_B' HOK.out HBB.out _).mono ?_
  rintro e w' ⟨rfl, rfl⟩
  go_wp2_with fail
  refine (bitsN_20_5 z0 z1 QU.out _).mono ?_
  rintro e w' ⟨rfl, dq, rfl⟩
  go_wp2_with fail
  refine (bitsN_25_2 z0 z1 Q0.out _).mono ?_
  rintro e w' ⟨rfl, dq, rfl⟩
  go_wp2_with fail
  refine bodyPost_ret (v := .agg #[.int .i64 op, .int .i64 x, .int .i64 y, .int .i64 u, .int .i64 (r0)]) (by simp [results, Try.results41, go_sem, p0, p1, p2, p3, p4, World.cell?_setCell_same, World.cell?_setCell_other]) rfl ⟨rfl, ?_⟩
  repeat (first | (with_reducible refine Both.drewN ?_ _) | (with_reducible refine Both.setCell ?_ ?side _; case side => (dsimp only; omega)))
  exact Both.trans (by repeat (first | exact Both.refl _ | refine Both.alloc ?_ _ _)) HB.out
theorem read_any {op z : Int} (h1 : 1 ≤ op) (h2 : op ≤ 49) (z0 : 0 ≤ z) (z1 : z < 4294967296) (w : World) :
    Calls Try.prog 41 #[.int .i64 op, .int .i64 z] w fun e w' => e = .returned (ival (rd op z)) ∧ Both w w' := by
  rcases form_is h1 h2 with hf | hf | hf | hf | hf | hf | hf | hf | hf | hf | hf | hf
  · have e : ival (rd op z) = .agg #[.int .i64 op, .int .i64 (z / 128 % 32), .int .i64 (z / 32768 % 32), .int .i64 (z / 1048576 % 32), .int .i64 (0)] := by
      simp [ival, rd, rdN, hf, hasD, hasA, hasB]
    rw [e]
    exact read_R op z _ _ _ _ _ _ _ z0 z1 (by rw [← hf]; rfl) rfl rfl rfl w
  · have e : ival (rd op z) = .agg #[.int .i64 op, .int .i64 (z / 128 % 32), .int .i64 (z / 32768 % 32), .int .i64 0, .int .i64 (sgn ((z / 1048576 % 4096)) 2048)] := by
      simp [ival, rd, rdN, hf, hasD, hasA, hasB]
    rw [e]
    exact read_I op z _ _ _ _ _ _ _ _ _ z0 z1 (by rw [← hf]; rfl) rfl rfl rfl rfl (by omega) (by omega) rfl w
  · have e : ival (rd op z) = .agg #[.int .i64 op, .int .i64 (z / 128 % 32), .int .i64 (z / 32768 % 32), .int .i64 0, .int .i64 ((z / 1048576 % 4096))] := by
      simp [ival, rd, rdN, hf, hasD, hasA, hasB]
    rw [e]
    exact read_C op z _ _ _ _ _ _ _ _ z0 z1 (by rw [← hf]; rfl) rfl rfl rfl rfl (by omega) (by omega) w
  · have e : ival (rd op z) = .agg #[.int .i64 op, .int .i64 (z / 128 % 32), .int .i64 (z / 32768 % 32), .int .i64 0, .int .i64 ((z / 1048576 % 32))] := by
      simp [ival, rd, rdN, hf, hasD, hasA, hasB]
    rw [e]
    exact read_H op z _ _ _ _ _ _ _ _ z0 z1 (by rw [← hf]; rfl) rfl rfl rfl rfl (by omega) (by omega) w
  · have e : ival (rd op z) = .agg #[.int .i64 op, .int .i64 0, .int .i64 (z / 32768 % 32), .int .i64 (z / 1048576 % 32), .int .i64 (sgn ((z / 128 % 32) + (z / 33554432 % 128) * 32) 2048)] := by
      simp [ival, rd, rdN, hf, hasD, hasA, hasB]
    rw [e]
    exact read_S op z _ _ _ _ _ _ _ _ _ _ z0 z1 (by rw [← hf]; rfl) rfl rfl rfl rfl (by omega) (by omega) rfl (by omega) (by omega) rfl w
  · have e : ival (rd op z) = .agg #[.int .i64 op, .int .i64 0, .int .i64 (z / 32768 % 32), .int .i64 (z / 1048576 % 32), .int .i64 (sgn ((z / 256 % 16) * 2 + (z / 33554432 % 64) * 32 + (z / 128 % 2) * 2048 + (z / 2147483648 % 2) * 4096) 4096)] := by
      simp [ival, rd, rdN, hf, hasD, hasA, hasB]
    rw [e]
    exact read_B op z _ _ _ _ _ _ _ _ _ _ _ _ z0 z1 (by rw [← hf]; rfl) rfl rfl rfl rfl (by omega) (by omega) rfl (by omega) (by omega) rfl (by omega) (by omega) rfl (by omega) (by omega) rfl w
  · have e : ival (rd op z) = .agg #[.int .i64 op, .int .i64 (z / 128 % 32), .int .i64 0, .int .i64 0, .int .i64 ((z / 4096 % 1048576))] := by
      simp [ival, rd, rdN, hf, hasD, hasA, hasB]
    rw [e]
    exact read_U op z _ _ _ _ _ _ _ _ z0 z1 (by rw [← hf]; rfl) rfl rfl rfl rfl (by omega) (by omega) w
  · have e : ival (rd op z) = .agg #[.int .i64 op, .int .i64 (z / 128 % 32), .int .i64 0, .int .i64 0, .int .i64 (sgn ((z / 2097152 % 1024) * 2 + (z / 1048576 % 2) * 2048 + (z / 4096 % 256) * 4096 + (z / 2147483648 % 2) * 1048576) 1048576)] := by
      simp [ival, rd, rdN, hf, hasD, hasA, hasB]
    rw [e]
    exact read_J op z _ _ _ _ _ _ _ _ _ _ _ _ z0 z1 (by rw [← hf]; rfl) rfl rfl rfl rfl (by omega) (by omega) rfl (by omega) (by omega) rfl (by omega) (by omega) rfl (by omega) (by omega) rfl w
  · have e : ival (rd op z) = .agg #[.int .i64 op, .int .i64 0, .int .i64 0, .int .i64 0, .int .i64 ((z / 1048576 % 256))] := by
      simp [ival, rd, rdN, hf, hasD, hasA, hasB]
    rw [e]
    exact read_F op z _ _ _ _ _ _ _ _ z0 z1 (by rw [← hf]; rfl) rfl rfl rfl rfl (by omega) (by omega) w
  · have e : ival (rd op z) = .agg #[.int .i64 op, .int .i64 0, .int .i64 0, .int .i64 0, .int .i64 (0)] := by
      simp [ival, rd, rdN, hf, hasD, hasA, hasB]
    rw [e]
    exact read_Z op z _ _ _ _ _ _ _ z0 z1 (by rw [← hf]; rfl) rfl rfl rfl w
  · have e : ival (rd op z) = .agg #[.int .i64 op, .int .i64 (z / 128 % 32), .int .i64 (z / 32768 % 32), .int .i64 0, .int .i64 ((z / 33554432 % 4))] := by
      simp [ival, rd, rdN, hf, hasD, hasA, hasB]
    rw [e]
    exact read_L op z _ _ _ _ _ _ _ _ z0 z1 (by rw [← hf]; rfl) rfl rfl rfl rfl (by omega) (by omega) w
  · have e : ival (rd op z) = .agg #[.int .i64 op, .int .i64 (z / 128 % 32), .int .i64 (z / 32768 % 32), .int .i64 (z / 1048576 % 32), .int .i64 ((z / 33554432 % 4))] := by
      simp [ival, rd, rdN, hf, hasD, hasA, hasB]
    rw [e]
    exact read_A op z _ _ _ _ _ _ _ _ z0 z1 (by rw [← hf]; rfl) rfl rfl rfl rfl (by omega) (by omega) w
end Go.Proofs.Ytphnagkicboglaa
