/- What rows of package code answers: all rows, one behind the other; of what was there nothing turns. -/
import Derived.Test.YtcockpphacebbaaCFitAny
namespace Go.Proofs.Ytcockpphacebbaa
open Go.RowKit Rv
/-- a row's cells: its name and form, and the fields of its words -/
def rv (op : Int) : List Value := [.string ⟨(name op).toArray⟩, .int .u8 (form op), .int .i64 (low op), .int .i64 (mid op), .int .i64 (high op), .int .i64 (extra op)]
def allRows : List Value := (List.range 50).flatMap fun (k : Nat) => rv (k : Int)
abbrev rvZero : Array Value := #[.string ⟨#[]⟩, .int .u8 0, .int .i64 0, .int .i64 0, .int .i64 0, .int .i64 0]
theorem rows_size : (Try.prog.info? 73).map (·.size) = some 300 := by kernel_rfl
theorem all_size : allRows.toArray.size = 300 := by kernel_rfl
theorem all_one : allRows.toArray.all (·.oneCell') = true := by kernel_rfl
def rowsZero : Array Value := ((List.range 50).flatMap fun _ => rvZero.toList).toArray
theorem zero_rows (w : World) : (zeroValue 73).run Try.prog w = .ok (.agg rowsZero) w := by kernel_rfl
set_option maxRecDepth 100000 in
set_option maxHeartbeats 4000000 in
theorem rows_any (w : World) : Calls Try.prog 47 #[] w fun e w' => e = .returned (.agg allRows.toArray) ∧ Both w w' := by
  have hz := zero_rows
  go_enter Try.func47, Try.ntmps47
  go_upto_region 1 with (fail)
  refine wp_region_list ?_
  refine wpList_facts 50 (fun a' w' => (a'.eval (.tmp 0), a'.eval (.tmp 50), a'.defers, a'.tmps.size, w') = (Value.pointer (some ⟨w.heap.size, 0, none⟩), Value.agg allRows.toArray, [], 51, w.alloc (.cells rowsZero 73)))
    ⟨(doOps _ _ _ _).get (by kernel_rfl), (Option.some_get _).symm, by kernel_rfl⟩ ?_
  intro a' w' hF
  simp only [Prod.mk.injEq] at hF
  obtain ⟨e0, e50, ed, es, rfl⟩ := hF
  have hb : (w.alloc (.cells rowsZero 73)).heap[w.heap.size]? = some (.cells rowsZero 73 (0, 0)) := heap_alloc_new _ _
  refine wpList_store_row rfl 73 (.tmp 0) (.tmp 50) rfl _ _ e0 e50 _ _ hb (rows_size.trans (congrArg some all_size.symm)) (by kernel_rfl) all_one ?_
  refine wpList_nil ?_
  have hr := setRow_heap _ _ _ allRows.toArray _ _ hb
  have e0' : (a'.put none undef).eval (.tmp 0) = _ := e0
  have hres := results_cell_row (P := Try.prog) (fn := Try.f47) Try.results47 (a'.put none undef).tmps _ _ _ _ _ _ (show _ = _ from e0') hr Try.underlying73 rfl (rows_size.trans (congrArg some all_size.symm))
  rename_i hK
  refine hK _ _ (wp_ret ?_)
  refine bodyPost_ret (R := fun e w' => e = .returned (.agg allRows.toArray) ∧ Both w w') hres ed ?_
  exact ⟨rfl, ((Both.refl w).alloc _ _).setRow (Nat.le_refl _) _⟩
end Go.Proofs.Ytcockpphacebbaa
