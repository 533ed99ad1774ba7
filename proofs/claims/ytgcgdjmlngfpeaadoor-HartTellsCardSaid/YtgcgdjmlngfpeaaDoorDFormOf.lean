/- What formOf of package code answers: the form of a letter; of what was there nothing turns. -/
import Derived.Test.YtgcgdjmlngfpeaaDoorDForm
namespace Go.Proofs.YtgcgdjmlngfpeaaDoor
open Go.RowKit Rv
theorem cell_new' {w' : World} {cs : Array Value} {t : TypeId} {b : Nat} (hb : w'.heap.size = b) (l : List Value) (hl : cs = l.toArray) : ∀ j v, l[j]? = some v → (w'.alloc (.cells cs t)).cell? ⟨b, j, none⟩ = some v := by
  intro j v hj
  subst hb hl
  exact (World.cell?_alloc_new w' l.toArray t j).trans (by simpa using hj)
theorem form_ones (lo hi st : Int) (ps : List Pc) : (formCells lo hi st (six ps)).toArray.all (·.oneCell') = true := by
  refine all_oneCell_toArray ?_
  intro v hv
  rcases List.mem_append.1 hv with hv | hv
  · simp only [List.mem_cons, List.not_mem_nil, or_false] at hv
    rcases hv with rfl | rfl | rfl <;> rfl
  · exact pcV_one _ v hv
theorem form_sz (lo hi st : Int) (ps : List Pc) : (Tryd.prog.info? 76).map (·.size) = some (formCells lo hi st (six ps)).toArray.size := by
  rw [form_size, List.size_toArray, form_len]
theorem zero_sz (lo hi st : Int) (ps : List Pc) : formZero.size = (formCells lo hi st (six ps)).toArray.size := by
  rw [List.size_toArray, List.size_toArray, form_len, form_len]
set_option maxRecDepth 100000 in
set_option maxHeartbeats 4000000 in
theorem formof_R (w : World) : Calls Tryd.prog 56 #[.int .u8 82] w fun e w' => e = .returned (.agg (formCells (loF 82) (hiF 82) (stF 82) (six (pcs 82))).toArray) ∧ Both w w' := by
  have hz := zero_form
  go_enter Tryd.func56, Tryd.ntmps56
  go_wp2_with fail
  refine (laid_any _ _ _ _ 3 3 (pcs 82) rfl (by omega) _ (cell_new' (by simp) _ rfl)).mono ?_
  rintro e W1 ⟨rfl, hb1⟩
  rename_i hK2 K hK
  refine hK _ _ ?_
  clear hK K
  have hB : Both (w.alloc (.cells formZero 76)) W1 := Both.trans (by repeat (first | exact Both.refl _ | refine Both.alloc ?_ _ _)) hb1
  have h0 : W1.heap[w.heap.size]? = some (.cells formZero 76 (0, 0)) := (hB.1.block w.heap.size (by simp)).trans (heap_alloc_new _ _)
  have hW1 : Both w W1 := ((Both.refl w).alloc _ _).trans hB
  clear hb1 hB hz
  refine wpList_store_row rfl 76 (.tmp 2) (.tmp 16) rfl w.heap.size (formCells (loF 82) (hiF 82) (stF 82) (six (pcs 82))).toArray (by kernel_rfl) (by kernel_rfl) _ _ h0 (form_sz _ _ _ _) (zero_sz _ _ _ _) (form_ones _ _ _ _) ?_
  have hr := setRow_heap _ _ _ (formCells (loF 82) (hiF 82) (stF 82) (six (pcs 82))).toArray _ _ h0
  have hW2 := hW1.setRow (Nat.le_refl _) (formCells (loF 82) (hiF 82) (stF 82) (six (pcs 82))).toArray
  generalize W1.setRow w.heap.size (formCells (loF 82) (hiF 82) (stF 82) (six (pcs 82))).toArray = W2 at hr hW2 ⊢
  have HR := Lib.hid hr
  have HW := Lib.hid hW2
  clear hr h0 hW1 hW2
  refine wpList_nil ?_
  refine hK2 _ _ ?_
  clear hK2
  go_wp2
  exact bodyPost_ret (results_cell_row Tryd.results56 _ _ w.heap.size _ _ _ _ rfl HR.out Tryd.underlying76 rfl (form_sz _ _ _ _)) rfl ⟨rfl, HW.out⟩
set_option maxRecDepth 100000 in
set_option maxHeartbeats 4000000 in
theorem formof_I (w : World) : Calls Tryd.prog 56 #[.int .u8 73] w fun e w' => e = .returned (.agg (formCells (loF 73) (hiF 73) (stF 73) (six (pcs 73))).toArray) ∧ Both w w' := by
  have hz := zero_form
  go_enter Tryd.func56, Tryd.ntmps56
  go_wp2_with fail
  refine (laid_any _ _ _ _ 3 3 (pcs 73) rfl (by omega) _ (cell_new' (by simp) _ rfl)).mono ?_
  rintro e W1 ⟨rfl, hb1⟩
  rename_i hK2 K hK
  refine hK _ _ ?_
  clear hK K
  have hB : Both (w.alloc (.cells formZero 76)) W1 := Both.trans (by repeat (first | exact Both.refl _ | refine Both.alloc ?_ _ _)) hb1
  have h0 : W1.heap[w.heap.size]? = some (.cells formZero 76 (0, 0)) := (hB.1.block w.heap.size (by simp)).trans (heap_alloc_new _ _)
  have hW1 : Both w W1 := ((Both.refl w).alloc _ _).trans hB
  clear hb1 hB hz
  refine wpList_store_row rfl 76 (.tmp 2) (.tmp 23) rfl w.heap.size (formCells (loF 73) (hiF 73) (stF 73) (six (pcs 73))).toArray (by kernel_rfl) (by kernel_rfl) _ _ h0 (form_sz _ _ _ _) (zero_sz _ _ _ _) (form_ones _ _ _ _) ?_
  have hr := setRow_heap _ _ _ (formCells (loF 73) (hiF 73) (stF 73) (six (pcs 73))).toArray _ _ h0
  have hW2 := hW1.setRow (Nat.le_refl _) (formCells (loF 73) (hiF 73) (stF 73) (six (pcs 73))).toArray
  generalize W1.setRow w.heap.size (formCells (loF 73) (hiF 73) (stF 73) (six (pcs 73))).toArray = W2 at hr hW2 ⊢
  have HR := Lib.hid hr
  have HW := Lib.hid hW2
  clear hr h0 hW1 hW2
  refine wpList_nil ?_
  refine hK2 _ _ ?_
  clear hK2
  go_wp2
  exact bodyPost_ret (results_cell_row Tryd.results56 _ _ w.heap.size _ _ _ _ rfl HR.out Tryd.underlying76 rfl (form_sz _ _ _ _)) rfl ⟨rfl, HW.out⟩
set_option maxRecDepth 100000 in
set_option maxHeartbeats 4000000 in
theorem formof_H (w : World) : Calls Tryd.prog 56 #[.int .u8 72] w fun e w' => e = .returned (.agg (formCells (loF 72) (hiF 72) (stF 72) (six (pcs 72))).toArray) ∧ Both w w' := by
  have hz := zero_form
  go_enter Tryd.func56, Tryd.ntmps56
  go_wp2_with fail
  refine (laid_any _ _ _ _ 3 3 (pcs 72) rfl (by omega) _ (cell_new' (by simp) _ rfl)).mono ?_
  rintro e W1 ⟨rfl, hb1⟩
  rename_i hK2 K hK
  refine hK _ _ ?_
  clear hK K
  have hB : Both (w.alloc (.cells formZero 76)) W1 := Both.trans (by repeat (first | exact Both.refl _ | refine Both.alloc ?_ _ _)) hb1
  have h0 : W1.heap[w.heap.size]? = some (.cells formZero 76 (0, 0)) := (hB.1.block w.heap.size (by simp)).trans (heap_alloc_new _ _)
  have hW1 : Both w W1 := ((Both.refl w).alloc _ _).trans hB
  clear hb1 hB hz
  refine wpList_store_row rfl 76 (.tmp 2) (.tmp 30) rfl w.heap.size (formCells (loF 72) (hiF 72) (stF 72) (six (pcs 72))).toArray (by kernel_rfl) (by kernel_rfl) _ _ h0 (form_sz _ _ _ _) (zero_sz _ _ _ _) (form_ones _ _ _ _) ?_
  have hr := setRow_heap _ _ _ (formCells (loF 72) (hiF 72) (stF 72) (six (pcs 72))).toArray _ _ h0
  have hW2 := hW1.setRow (Nat.le_refl _) (formCells (loF 72) (hiF 72) (stF 72) (six (pcs 72))).toArray
  generalize W1.setRow w.heap.size (formCells (loF 72) (hiF 72) (stF 72) (six (pcs 72))).toArray = W2 at hr hW2 ⊢
  have HR := Lib.hid hr
  have HW := Lib.hid hW2
  clear hr h0 hW1 hW2
  refine wpList_nil ?_
  refine hK2 _ _ ?_
  clear hK2
  go_wp2
  exact bodyPost_ret (results_cell_row Tryd.results56 _ _ w.heap.size _ _ _ _ rfl HR.out Tryd.underlying76 rfl (form_sz _ _ _ _)) rfl ⟨rfl, HW.out⟩
set_option maxRecDepth 100000 in
set_option maxHeartbeats 4000000 in
theorem formof_S (w : World) : Calls Tryd.prog 56 #[.int .u8 83] w fun e w' => e = .returned (.agg (formCells (loF 83) (hiF 83) (stF 83) (six (pcs 83))).toArray) ∧ Both w w' := by
  have hz := zero_form
  go_enter Tryd.func56, Tryd.ntmps56
  go_wp2_with fail
  refine (laid_any _ _ _ _ 4 4 (pcs 83) rfl (by omega) _ (cell_new' (by simp) _ rfl)).mono ?_
  rintro e W1 ⟨rfl, hb1⟩
  rename_i hK2 K hK
  refine hK _ _ ?_
  clear hK K
  have hB : Both (w.alloc (.cells formZero 76)) W1 := Both.trans (by repeat (first | exact Both.refl _ | refine Both.alloc ?_ _ _)) hb1
  have h0 : W1.heap[w.heap.size]? = some (.cells formZero 76 (0, 0)) := (hB.1.block w.heap.size (by simp)).trans (heap_alloc_new _ _)
  have hW1 : Both w W1 := ((Both.refl w).alloc _ _).trans hB
  clear hb1 hB hz
  refine wpList_store_row rfl 76 (.tmp 2) (.tmp 38) rfl w.heap.size (formCells (loF 83) (hiF 83) (stF 83) (six (pcs 83))).toArray (by kernel_rfl) (by kernel_rfl) _ _ h0 (form_sz _ _ _ _) (zero_sz _ _ _ _) (form_ones _ _ _ _) ?_
  have hr := setRow_heap _ _ _ (formCells (loF 83) (hiF 83) (stF 83) (six (pcs 83))).toArray _ _ h0
  have hW2 := hW1.setRow (Nat.le_refl _) (formCells (loF 83) (hiF 83) (stF 83) (six (pcs 83))).toArray
  generalize W1.setRow w.heap.size (formCells (loF 83) (hiF 83) (stF 83) (six (pcs 83))).toArray = W2 at hr hW2 ⊢
  have HR := Lib.hid hr
  have HW := Lib.hid hW2
  clear hr h0 hW1 hW2
  refine wpList_nil ?_
  refine hK2 _ _ ?_
  clear hK2
  go_wp2
  exact bodyPost_ret (results_cell_row Tryd.results56 _ _ w.heap.size _ _ _ _ rfl HR.out Tryd.underlying76 rfl (form_sz _ _ _ _)) rfl ⟨rfl, HW.out⟩
set_option maxRecDepth 100000 in
set_option maxHeartbeats 4000000 in
theorem formof_B (w : World) : Calls Tryd.prog 56 #[.int .u8 66] w fun e w' => e = .returned (.agg (formCells (loF 66) (hiF 66) (stF 66) (six (pcs 66))).toArray) ∧ Both w w' := by
  have hz := zero_form
  go_enter Tryd.func56, Tryd.ntmps56
  go_wp2_with fail
  refine (laid_any _ _ _ _ 6 6 (pcs 66) rfl (by omega) _ (cell_new' (by simp) _ rfl)).mono ?_
  rintro e W1 ⟨rfl, hb1⟩
  rename_i hK2 K hK
  refine hK _ _ ?_
  clear hK K
  have hB : Both (w.alloc (.cells formZero 76)) W1 := Both.trans (by repeat (first | exact Both.refl _ | refine Both.alloc ?_ _ _)) hb1
  have h0 : W1.heap[w.heap.size]? = some (.cells formZero 76 (0, 0)) := (hB.1.block w.heap.size (by simp)).trans (heap_alloc_new _ _)
  have hW1 : Both w W1 := ((Both.refl w).alloc _ _).trans hB
  clear hb1 hB hz
  refine wpList_store_row rfl 76 (.tmp 2) (.tmp 48) rfl w.heap.size (formCells (loF 66) (hiF 66) (stF 66) (six (pcs 66))).toArray (by kernel_rfl) (by kernel_rfl) _ _ h0 (form_sz _ _ _ _) (zero_sz _ _ _ _) (form_ones _ _ _ _) ?_
  have hr := setRow_heap _ _ _ (formCells (loF 66) (hiF 66) (stF 66) (six (pcs 66))).toArray _ _ h0
  have hW2 := hW1.setRow (Nat.le_refl _) (formCells (loF 66) (hiF 66) (stF 66) (six (pcs 66))).toArray
  generalize W1.setRow w.heap.size (formCells (loF 66) (hiF 66) (stF 66) (six (pcs 66))).toArray = W2 at hr hW2 ⊢
  have HR := Lib.hid hr
  have HW := Lib.hid hW2
  clear hr h0 hW1 hW2
  refine wpList_nil ?_
  refine hK2 _ _ ?_
  clear hK2
  go_wp2
  exact bodyPost_ret (results_cell_row Tryd.results56 _ _ w.heap.size _ _ _ _ rfl HR.out Tryd.underlying76 rfl (form_sz _ _ _ _)) rfl ⟨rfl, HW.out⟩
set_option maxRecDepth 100000 in
set_option maxHeartbeats 4000000 in
theorem formof_U (w : World) : Calls Tryd.prog 56 #[.int .u8 85] w fun e w' => e = .returned (.agg (formCells (loF 85) (hiF 85) (stF 85) (six (pcs 85))).toArray) ∧ Both w w' := by
  have hz := zero_form
  go_enter Tryd.func56, Tryd.ntmps56
  go_wp2_with fail
  refine (laid_any _ _ _ _ 2 2 (pcs 85) rfl (by omega) _ (cell_new' (by simp) _ rfl)).mono ?_
  rintro e W1 ⟨rfl, hb1⟩
  rename_i hK2 K hK
  refine hK _ _ ?_
  clear hK K
  have hB : Both (w.alloc (.cells formZero 76)) W1 := Both.trans (by repeat (first | exact Both.refl _ | refine Both.alloc ?_ _ _)) hb1
  have h0 : W1.heap[w.heap.size]? = some (.cells formZero 76 (0, 0)) := (hB.1.block w.heap.size (by simp)).trans (heap_alloc_new _ _)
  have hW1 : Both w W1 := ((Both.refl w).alloc _ _).trans hB
  clear hb1 hB hz
  refine wpList_store_row rfl 76 (.tmp 2) (.tmp 54) rfl w.heap.size (formCells (loF 85) (hiF 85) (stF 85) (six (pcs 85))).toArray (by kernel_rfl) (by kernel_rfl) _ _ h0 (form_sz _ _ _ _) (zero_sz _ _ _ _) (form_ones _ _ _ _) ?_
  have hr := setRow_heap _ _ _ (formCells (loF 85) (hiF 85) (stF 85) (six (pcs 85))).toArray _ _ h0
  have hW2 := hW1.setRow (Nat.le_refl _) (formCells (loF 85) (hiF 85) (stF 85) (six (pcs 85))).toArray
  generalize W1.setRow w.heap.size (formCells (loF 85) (hiF 85) (stF 85) (six (pcs 85))).toArray = W2 at hr hW2 ⊢
  have HR := Lib.hid hr
  have HW := Lib.hid hW2
  clear hr h0 hW1 hW2
  refine wpList_nil ?_
  refine hK2 _ _ ?_
  clear hK2
  go_wp2
  exact bodyPost_ret (results_cell_row Tryd.results56 _ _ w.heap.size _ _ _ _ rfl HR.out Tryd.underlying76 rfl (form_sz _ _ _ _)) rfl ⟨rfl, HW.out⟩
set_option maxRecDepth 100000 in
set_option maxHeartbeats 4000000 in
theorem formof_J (w : World) : Calls Tryd.prog 56 #[.int .u8 74] w fun e w' => e = .returned (.agg (formCells (loF 74) (hiF 74) (stF 74) (six (pcs 74))).toArray) ∧ Both w w' := by
  have hz := zero_form
  go_enter Tryd.func56, Tryd.ntmps56
  go_wp2_with fail
  refine (laid_any _ _ _ _ 5 5 (pcs 74) rfl (by omega) _ (cell_new' (by simp) _ rfl)).mono ?_
  rintro e W1 ⟨rfl, hb1⟩
  rename_i hK2 K hK
  refine hK _ _ ?_
  clear hK K
  have hB : Both (w.alloc (.cells formZero 76)) W1 := Both.trans (by repeat (first | exact Both.refl _ | refine Both.alloc ?_ _ _)) hb1
  have h0 : W1.heap[w.heap.size]? = some (.cells formZero 76 (0, 0)) := (hB.1.block w.heap.size (by simp)).trans (heap_alloc_new _ _)
  have hW1 : Both w W1 := ((Both.refl w).alloc _ _).trans hB
  clear hb1 hB hz
  refine wpList_store_row rfl 76 (.tmp 2) (.tmp 63) rfl w.heap.size (formCells (loF 74) (hiF 74) (stF 74) (six (pcs 74))).toArray (by kernel_rfl) (by kernel_rfl) _ _ h0 (form_sz _ _ _ _) (zero_sz _ _ _ _) (form_ones _ _ _ _) ?_
  have hr := setRow_heap _ _ _ (formCells (loF 74) (hiF 74) (stF 74) (six (pcs 74))).toArray _ _ h0
  have hW2 := hW1.setRow (Nat.le_refl _) (formCells (loF 74) (hiF 74) (stF 74) (six (pcs 74))).toArray
  generalize W1.setRow w.heap.size (formCells (loF 74) (hiF 74) (stF 74) (six (pcs 74))).toArray = W2 at hr hW2 ⊢
  have HR := Lib.hid hr
  have HW := Lib.hid hW2
  clear hr h0 hW1 hW2
  refine wpList_nil ?_
  refine hK2 _ _ ?_
  clear hK2
  go_wp2
  exact bodyPost_ret (results_cell_row Tryd.results56 _ _ w.heap.size _ _ _ _ rfl HR.out Tryd.underlying76 rfl (form_sz _ _ _ _)) rfl ⟨rfl, HW.out⟩
set_option maxRecDepth 100000 in
set_option maxHeartbeats 4000000 in
theorem formof_F (w : World) : Calls Tryd.prog 56 #[.int .u8 70] w fun e w' => e = .returned (.agg (formCells (loF 70) (hiF 70) (stF 70) (six (pcs 70))).toArray) ∧ Both w w' := by
  have hz := zero_form
  go_enter Tryd.func56, Tryd.ntmps56
  go_wp2_with fail
  refine (laid_any _ _ _ _ 1 1 (pcs 70) rfl (by omega) _ (cell_new' (by simp) _ rfl)).mono ?_
  rintro e W1 ⟨rfl, hb1⟩
  rename_i hK2 K hK
  refine hK _ _ ?_
  clear hK K
  have hB : Both (w.alloc (.cells formZero 76)) W1 := Both.trans (by repeat (first | exact Both.refl _ | refine Both.alloc ?_ _ _)) hb1
  have h0 : W1.heap[w.heap.size]? = some (.cells formZero 76 (0, 0)) := (hB.1.block w.heap.size (by simp)).trans (heap_alloc_new _ _)
  have hW1 : Both w W1 := ((Both.refl w).alloc _ _).trans hB
  clear hb1 hB hz
  refine wpList_store_row rfl 76 (.tmp 2) (.tmp 68) rfl w.heap.size (formCells (loF 70) (hiF 70) (stF 70) (six (pcs 70))).toArray (by kernel_rfl) (by kernel_rfl) _ _ h0 (form_sz _ _ _ _) (zero_sz _ _ _ _) (form_ones _ _ _ _) ?_
  have hr := setRow_heap _ _ _ (formCells (loF 70) (hiF 70) (stF 70) (six (pcs 70))).toArray _ _ h0
  have hW2 := hW1.setRow (Nat.le_refl _) (formCells (loF 70) (hiF 70) (stF 70) (six (pcs 70))).toArray
  generalize W1.setRow w.heap.size (formCells (loF 70) (hiF 70) (stF 70) (six (pcs 70))).toArray = W2 at hr hW2 ⊢
  have HR := Lib.hid hr
  have HW := Lib.hid hW2
  clear hr h0 hW1 hW2
  refine wpList_nil ?_
  refine hK2 _ _ ?_
  clear hK2
  go_wp2
  exact bodyPost_ret (results_cell_row Tryd.results56 _ _ w.heap.size _ _ _ _ rfl HR.out Tryd.underlying76 rfl (form_sz _ _ _ _)) rfl ⟨rfl, HW.out⟩
set_option maxRecDepth 100000 in
set_option maxHeartbeats 4000000 in
theorem formof_C (w : World) : Calls Tryd.prog 56 #[.int .u8 67] w fun e w' => e = .returned (.agg (formCells (loF 67) (hiF 67) (stF 67) (six (pcs 67))).toArray) ∧ Both w w' := by
  have hz := zero_form
  go_enter Tryd.func56, Tryd.ntmps56
  go_wp2_with fail
  refine (laid_any _ _ _ _ 3 3 (pcs 67) rfl (by omega) _ (cell_new' (by simp) _ rfl)).mono ?_
  rintro e W1 ⟨rfl, hb1⟩
  rename_i hK2 K hK
  refine hK _ _ ?_
  clear hK K
  have hB : Both (w.alloc (.cells formZero 76)) W1 := Both.trans (by repeat (first | exact Both.refl _ | refine Both.alloc ?_ _ _)) hb1
  have h0 : W1.heap[w.heap.size]? = some (.cells formZero 76 (0, 0)) := (hB.1.block w.heap.size (by simp)).trans (heap_alloc_new _ _)
  have hW1 : Both w W1 := ((Both.refl w).alloc _ _).trans hB
  clear hb1 hB hz
  refine wpList_store_row rfl 76 (.tmp 2) (.tmp 75) rfl w.heap.size (formCells (loF 67) (hiF 67) (stF 67) (six (pcs 67))).toArray (by kernel_rfl) (by kernel_rfl) _ _ h0 (form_sz _ _ _ _) (zero_sz _ _ _ _) (form_ones _ _ _ _) ?_
  have hr := setRow_heap _ _ _ (formCells (loF 67) (hiF 67) (stF 67) (six (pcs 67))).toArray _ _ h0
  have hW2 := hW1.setRow (Nat.le_refl _) (formCells (loF 67) (hiF 67) (stF 67) (six (pcs 67))).toArray
  generalize W1.setRow w.heap.size (formCells (loF 67) (hiF 67) (stF 67) (six (pcs 67))).toArray = W2 at hr hW2 ⊢
  have HR := Lib.hid hr
  have HW := Lib.hid hW2
  clear hr h0 hW1 hW2
  refine wpList_nil ?_
  refine hK2 _ _ ?_
  clear hK2
  go_wp2
  exact bodyPost_ret (results_cell_row Tryd.results56 _ _ w.heap.size _ _ _ _ rfl HR.out Tryd.underlying76 rfl (form_sz _ _ _ _)) rfl ⟨rfl, HW.out⟩
set_option maxRecDepth 100000 in
set_option maxHeartbeats 4000000 in
theorem formof_L (w : World) : Calls Tryd.prog 56 #[.int .u8 76] w fun e w' => e = .returned (.agg (formCells (loF 76) (hiF 76) (stF 76) (six (pcs 76))).toArray) ∧ Both w w' := by
  have hz := zero_form
  go_enter Tryd.func56, Tryd.ntmps56
  go_wp2_with fail
  refine (laid_any _ _ _ _ 3 3 (pcs 76) rfl (by omega) _ (cell_new' (by simp) _ rfl)).mono ?_
  rintro e W1 ⟨rfl, hb1⟩
  rename_i hK2 K hK
  refine hK _ _ ?_
  clear hK K
  have hB : Both (w.alloc (.cells formZero 76)) W1 := Both.trans (by repeat (first | exact Both.refl _ | refine Both.alloc ?_ _ _)) hb1
  have h0 : W1.heap[w.heap.size]? = some (.cells formZero 76 (0, 0)) := (hB.1.block w.heap.size (by simp)).trans (heap_alloc_new _ _)
  have hW1 : Both w W1 := ((Both.refl w).alloc _ _).trans hB
  clear hb1 hB hz
  refine wpList_store_row rfl 76 (.tmp 2) (.tmp 82) rfl w.heap.size (formCells (loF 76) (hiF 76) (stF 76) (six (pcs 76))).toArray (by kernel_rfl) (by kernel_rfl) _ _ h0 (form_sz _ _ _ _) (zero_sz _ _ _ _) (form_ones _ _ _ _) ?_
  have hr := setRow_heap _ _ _ (formCells (loF 76) (hiF 76) (stF 76) (six (pcs 76))).toArray _ _ h0
  have hW2 := hW1.setRow (Nat.le_refl _) (formCells (loF 76) (hiF 76) (stF 76) (six (pcs 76))).toArray
  generalize W1.setRow w.heap.size (formCells (loF 76) (hiF 76) (stF 76) (six (pcs 76))).toArray = W2 at hr hW2 ⊢
  have HR := Lib.hid hr
  have HW := Lib.hid hW2
  clear hr h0 hW1 hW2
  refine wpList_nil ?_
  refine hK2 _ _ ?_
  clear hK2
  go_wp2
  exact bodyPost_ret (results_cell_row Tryd.results56 _ _ w.heap.size _ _ _ _ rfl HR.out Tryd.underlying76 rfl (form_sz _ _ _ _)) rfl ⟨rfl, HW.out⟩
set_option maxRecDepth 100000 in
set_option maxHeartbeats 4000000 in
theorem formof_A (w : World) : Calls Tryd.prog 56 #[.int .u8 65] w fun e w' => e = .returned (.agg (formCells (loF 65) (hiF 65) (stF 65) (six (pcs 65))).toArray) ∧ Both w w' := by
  have hz := zero_form
  go_enter Tryd.func56, Tryd.ntmps56
  go_wp2_with fail
  refine (laid_any _ _ _ _ 4 4 (pcs 65) rfl (by omega) _ (cell_new' (by simp) _ rfl)).mono ?_
  rintro e W1 ⟨rfl, hb1⟩
  rename_i hK2 K hK
  refine hK _ _ ?_
  clear hK K
  have hB : Both (w.alloc (.cells formZero 76)) W1 := Both.trans (by repeat (first | exact Both.refl _ | refine Both.alloc ?_ _ _)) hb1
  have h0 : W1.heap[w.heap.size]? = some (.cells formZero 76 (0, 0)) := (hB.1.block w.heap.size (by simp)).trans (heap_alloc_new _ _)
  have hW1 : Both w W1 := ((Both.refl w).alloc _ _).trans hB
  clear hb1 hB hz
  refine wpList_store_row rfl 76 (.tmp 2) (.tmp 90) rfl w.heap.size (formCells (loF 65) (hiF 65) (stF 65) (six (pcs 65))).toArray (by kernel_rfl) (by kernel_rfl) _ _ h0 (form_sz _ _ _ _) (zero_sz _ _ _ _) (form_ones _ _ _ _) ?_
  have hr := setRow_heap _ _ _ (formCells (loF 65) (hiF 65) (stF 65) (six (pcs 65))).toArray _ _ h0
  have hW2 := hW1.setRow (Nat.le_refl _) (formCells (loF 65) (hiF 65) (stF 65) (six (pcs 65))).toArray
  generalize W1.setRow w.heap.size (formCells (loF 65) (hiF 65) (stF 65) (six (pcs 65))).toArray = W2 at hr hW2 ⊢
  have HR := Lib.hid hr
  have HW := Lib.hid hW2
  clear hr h0 hW1 hW2
  refine wpList_nil ?_
  refine hK2 _ _ ?_
  clear hK2
  go_wp2
  exact bodyPost_ret (results_cell_row Tryd.results56 _ _ w.heap.size _ _ _ _ rfl HR.out Tryd.underlying76 rfl (form_sz _ _ _ _)) rfl ⟨rfl, HW.out⟩
set_option maxRecDepth 100000 in
set_option maxHeartbeats 4000000 in
theorem formof_Z (w : World) : Calls Tryd.prog 56 #[.int .u8 90] w fun e w' => e = .returned (.agg (formCells (loF 90) (hiF 90) (stF 90) (six (pcs 90))).toArray) ∧ Both w w' := by
  have hz := zero_form
  go_enter Tryd.func56, Tryd.ntmps56
  go_wp2_with fail
  refine (laid_nil _ _ _ _).mono ?_
  rintro e W1 ⟨rfl, hb1⟩
  rename_i hK2 K hK
  refine hK _ _ ?_
  clear hK K
  have hB : Both (w.alloc (.cells formZero 76)) W1 := Both.trans (by repeat (first | exact Both.refl _ | refine Both.alloc ?_ _ _)) hb1
  have h0 : W1.heap[w.heap.size]? = some (.cells formZero 76 (0, 0)) := (hB.1.block w.heap.size (by simp)).trans (heap_alloc_new _ _)
  have hW1 : Both w W1 := ((Both.refl w).alloc _ _).trans hB
  clear hb1 hB hz
  refine wpList_store_row rfl 76 (.tmp 2) (.tmp 91) rfl w.heap.size (formCells (loF 90) (hiF 90) (stF 90) (six (pcs 90))).toArray (by kernel_rfl) (by kernel_rfl) _ _ h0 (form_sz _ _ _ _) (zero_sz _ _ _ _) (form_ones _ _ _ _) ?_
  have hr := setRow_heap _ _ _ (formCells (loF 90) (hiF 90) (stF 90) (six (pcs 90))).toArray _ _ h0
  have hW2 := hW1.setRow (Nat.le_refl _) (formCells (loF 90) (hiF 90) (stF 90) (six (pcs 90))).toArray
  generalize W1.setRow w.heap.size (formCells (loF 90) (hiF 90) (stF 90) (six (pcs 90))).toArray = W2 at hr hW2 ⊢
  have HR := Lib.hid hr
  have HW := Lib.hid hW2
  clear hr h0 hW1 hW2
  refine wpList_nil ?_
  refine hK2 _ _ ?_
  clear hK2
  go_wp2
  exact bodyPost_ret (results_cell_row Tryd.results56 _ _ w.heap.size _ _ _ _ rfl HR.out Tryd.underlying76 rfl (form_sz _ _ _ _)) rfl ⟨rfl, HW.out⟩
end Go.Proofs.YtgcgdjmlngfpeaaDoor
