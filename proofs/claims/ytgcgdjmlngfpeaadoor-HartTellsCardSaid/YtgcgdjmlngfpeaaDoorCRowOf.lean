/- What RowOf of the document's own answer answers: the table's row; it lays new memory and leaves all that was there as it was. -/
import Derived.Test.YtgcgdjmlngfpeaaDoorCIdx
namespace Go.Proofs.YtgcgdjmlngfpeaaDoor
open Go.RowKit Rv
set_option maxRecDepth 100000 in
set_option maxHeartbeats 4000000 in
theorem rowof_in (k : Nat) (h1 : k < 49) (w : World) : Calls Tryd.prog 30 #[.int .i64 ((k : Int) + 1)] w fun e w' => e = .returned (.agg (rowVals ((k : Int) + 1)).toArray) ∧ w' = ((w.alloc (.cells rowZero 54)).alloc (.cells rowCells 54)).setRow w.heap.size (rowVals ((k : Int) + 1)).toArray := by
  go_enter Tryd.func30, Tryd.ntmps30
  go_upto_region 3 with (fail)
  refine wp_region_list ?_
  refine wpList_facts 52 (fun a' w' => (a'.eval (.tmp 2), a'.eval (.tmp 59), a'.eval (.tmp 61), a'.defers, a'.tmps.size, w') = (Value.pointer (some ⟨w.heap.size, 0, none⟩), Value.slice (some ⟨(w.alloc (.cells rowZero 54)).heap.size, 0, none⟩) 49 49, Value.int .i64 (IntKind.i64.wrap ((k : Int) + 1 - 1)), [], 64, (w.alloc (.cells rowZero 54)).alloc (.cells rowCells 54)))
    ⟨(doOps _ _ _ _).get (by kernel_rfl), (Option.some_get _).symm, by kernel_rfl⟩ ?_
  intro a' w' hF
  simp only [Prod.mk.injEq] at hF
  obtain ⟨e2, e59, e61, ed, es, rfl⟩ := hF
  have e61' : a'.eval (.tmp 61) = .int .i64 (k : Int) := by
    rw [e61]
    exact congrArg (Value.int .i64) (by rw [IntKind.wrap_i64]; omega)
  refine wpList_one rfl (exec_index rfl _ k h1 e59 e61' _) ?_
  have f62 : (a'.put (some 62) (.pointer (some ⟨(w.alloc (.cells rowZero 54)).heap.size, k * 5, none⟩))).eval (.tmp 62) = _ := put_same (by rw [es]; decide)
  have f2 : (a'.put (some 62) (.pointer (some ⟨(w.alloc (.cells rowZero 54)).heap.size, k * 5, none⟩))).eval (.tmp 2) = _ := (put_other (by decide)).trans e2
  have fs : (a'.put (some 62) (.pointer (some ⟨(w.alloc (.cells rowZero 54)).heap.size, k * 5, none⟩))).tmps.size = 64 := put_size.trans es
  have fd : (a'.put (some 62) (.pointer (some ⟨(w.alloc (.cells rowZero 54)).heap.size, k * 5, none⟩))).defers = [] := put_defers.trans ed
  generalize a'.put (some 62) (.pointer (some ⟨(w.alloc (.cells rowZero 54)).heap.size, k * 5, none⟩)) = b at f62 f2 fs fd ⊢
  clear e2 e59 e61 e61' ed es
  refine wpList_load_mid rfl 54 (.tmp 62) rfl _ _ f62 (rowVals ((k : Int) + 1)) _ ?_ Tryd.underlying54 rfl row_size ?_
  · intro j v hj
    exact (World.cell?_alloc_new (w.alloc (.cells rowZero 54)) rowCells 54 (k * 5 + j)).trans (cells_of_row k h1 j v hj)
  have g63 : (b.put (some 63) (.agg (rowVals ((k : Int) + 1)).toArray)).eval (.tmp 63) = _ := put_same (by rw [fs]; decide)
  have g2 : (b.put (some 63) (.agg (rowVals ((k : Int) + 1)).toArray)).eval (.tmp 2) = _ := (put_other (by decide)).trans f2
  have gd : (b.put (some 63) (.agg (rowVals ((k : Int) + 1)).toArray)).defers = [] := put_defers.trans fd
  have hb : ((w.alloc (.cells rowZero 54)).alloc (.cells rowCells 54)).heap[w.heap.size]? = some (.cells rowZero 54 (0, 0)) := by
    have h0 : w.heap.size < (w.alloc (.cells rowZero 54)).heap.size := by
      show w.heap.size < (w.heap.push _).size
      simp
    exact (heap_alloc_old _ _ h0).trans (heap_alloc_new _ _)
  refine wpList_store_row rfl 54 (.tmp 2) (.tmp 63) rfl _ _ g2 g63 _ _ hb row_size rfl (by simp [rowVals, Value.oneCell']) ?_
  refine wpList_nil ?_
  have hr := setRow_heap _ _ _ (rowVals ((k : Int) + 1)).toArray _ _ hb
  have hres := results_cell_row (P := Tryd.prog) (fn := Tryd.f30) Tryd.results30 ((b.put (some 63) (.agg (rowVals ((k : Int) + 1)).toArray)).put none undef).tmps _ _ _ _ _ _ (show _ = _ from g2) hr Tryd.underlying54 rfl row_size
  rename_i hK
  refine hK _ _ (wp_ret ?_)
  refine bodyPost_ret (R := fun e w' => e = .returned (.agg (rowVals ((k : Int) + 1)).toArray) ∧ w' = ((w.alloc (.cells rowZero 54)).alloc (.cells rowCells 54)).setRow w.heap.size (rowVals ((k : Int) + 1)).toArray) hres gd ?_
  exact ⟨rfl, rfl⟩
end Go.Proofs.YtgcgdjmlngfpeaaDoor
