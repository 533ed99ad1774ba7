/- What rows of package code answers: all rows, one behind the other; of what was there nothing turns. -/
import Derived.Test.YtgcgdjmlngfpeaaDoorCFitAny
namespace Go.Proofs.YtgcgdjmlngfpeaaDoor
open Go.RowKit Rv
/-- a row's cells: its name and form, and the fields of its words -/
def rv (op : Int) : List Value := [.string ⟨(name op).toArray⟩, .int .u8 (form op), .int .i64 (low op), .int .i64 (mid op), .int .i64 (high op), .int .i64 (extra op)]
def allRows : List Value := (List.range 50).flatMap fun (k : Nat) => rv (k : Int)
abbrev rvZero : Array Value := #[.string ⟨#[]⟩, .int .u8 0, .int .i64 0, .int .i64 0, .int .i64 0, .int .i64 0]
theorem rows_size : (Tryd.prog.info? 97).map (·.size) = some 300 := by kernel_rfl
theorem all_size : allRows.toArray.size = 300 := by kernel_rfl
theorem all_one : allRows.toArray.all (·.oneCell') = true := by kernel_rfl
def rowsZero : Array Value := ((List.range 50).flatMap fun _ => rvZero.toList).toArray
theorem zero_rows (w : World) : (zeroValue 97).run Tryd.prog w = .ok (.agg rowsZero) w := by kernel_rfl
set_option maxRecDepth 100000 in
set_option maxHeartbeats 4000000 in
theorem rows_any (w : World) : Calls Tryd.prog 75 #[] w fun e w' => e = .returned (.agg allRows.toArray) ∧ Both w w' := by
  have hz := zero_rows
  go_enter Tryd.func75, Tryd.ntmps75
  go_upto_region 1 with (fail)
  refine wp_region_list ?_
  refine wpList_facts 50 (fun a' w' => (a'.eval (.tmp 0), a'.eval (.tmp 50), a'.defers, a'.tmps.size, w') = (Value.pointer (some ⟨w.heap.size, 0, none⟩), Value.agg allRows.toArray, [], 51, w.alloc (.cells rowsZero 97)))
    ⟨(doOps _ _ _ _).get (by kernel_rfl), (Option.some_get _).symm, by kernel_rfl⟩ ?_
  intro a' w' hF
  simp only [Prod.mk.injEq] at hF
  obtain ⟨e0, e50, ed, es, rfl⟩ := hF
  have hb : (w.alloc (.cells rowsZero 97)).heap[w.heap.size]? = some (.cells rowsZero 97 (0, 0)) := heap_alloc_new _ _
  refine wpList_store_row rfl 97 (.tmp 0) (.tmp 50) rfl _ _ e0 e50 _ _ hb (rows_size.trans (congrArg some all_size.symm)) (by kernel_rfl) all_one ?_
  refine wpList_nil ?_
  have hr := setRow_heap _ _ _ allRows.toArray _ _ hb
  have e0' : (a'.put none undef).eval (.tmp 0) = _ := e0
  have hres := results_cell_row (P := Tryd.prog) (fn := Tryd.f75) Tryd.results75 (a'.put none undef).tmps _ _ _ _ _ _ (show _ = _ from e0') hr Tryd.underlying97 rfl (rows_size.trans (congrArg some all_size.symm))
  rename_i hK
  refine hK _ _ (wp_ret ?_)
  refine bodyPost_ret (R := fun e w' => e = .returned (.agg allRows.toArray) ∧ Both w w') hres ed ?_
  exact ⟨rfl, ((Both.refl w).alloc _ _).setRow (Nat.le_refl _) _⟩
end Go.Proofs.YtgcgdjmlngfpeaaDoor
/- What rowOf of package code answers: an instruction's row, or none; of what was there nothing turns. -/
namespace Go.Proofs.YtgcgdjmlngfpeaaDoor
open Go.RowKit Rv
theorem rows_index (b k : Nat) (h : k < 49) (w : World) : (Instr.indexAt 97 (.pointer (some ⟨b, 0, none⟩)) (.int .i64 ((k : Int) + 1))).run Tryd.prog w = .ok (.pointer (some ⟨b, (k + 1) * 6, none⟩)) w := by
  have hk : k = 0 ∨ k = 1 ∨ k = 2 ∨ k = 3 ∨ k = 4 ∨ k = 5 ∨ k = 6 ∨ k = 7 ∨ k = 8 ∨ k = 9 ∨ k = 10 ∨ k = 11 ∨ k = 12 ∨ k = 13 ∨ k = 14 ∨ k = 15 ∨ k = 16 ∨ k = 17 ∨ k = 18 ∨ k = 19 ∨ k = 20 ∨ k = 21 ∨ k = 22 ∨ k = 23 ∨ k = 24 ∨ k = 25 ∨ k = 26 ∨ k = 27 ∨ k = 28 ∨ k = 29 ∨ k = 30 ∨ k = 31 ∨ k = 32 ∨ k = 33 ∨ k = 34 ∨ k = 35 ∨ k = 36 ∨ k = 37 ∨ k = 38 ∨ k = 39 ∨ k = 40 ∨ k = 41 ∨ k = 42 ∨ k = 43 ∨ k = 44 ∨ k = 45 ∨ k = 46 ∨ k = 47 ∨ k = 48 := by omega
  rcases hk with rfl | rfl | rfl | rfl | rfl | rfl | rfl | rfl | rfl | rfl | rfl | rfl | rfl | rfl | rfl | rfl | rfl | rfl | rfl | rfl | rfl | rfl | rfl | rfl | rfl | rfl | rfl | rfl | rfl | rfl | rfl | rfl | rfl | rfl | rfl | rfl | rfl | rfl | rfl | rfl | rfl | rfl | rfl | rfl | rfl | rfl | rfl | rfl | rfl
  all_goals (show _ = _; kernel_rfl)
theorem exec_index2 {o : Oper} {ρ : Operand → Value} {x y : Operand} (ho : o.op = .indexAddr 97 x y) (b k : Nat) (h : k < 49) (hx : ρ x = .pointer (some ⟨b, 0, none⟩)) (hy : ρ y = .int .i64 ((k : Int) + 1)) (w : World) :
    (execOp ρ o).run Tryd.prog w = .ok (.value (.pointer (some ⟨b, (k + 1) * 6, none⟩))) w := by
  unfold execOp
  simp only [ho, hx, hy, Sem.run_bind, Sem.run_pure, Result.andThen_ok, rows_index b k h w]
theorem row2_size : (Tryd.prog.info? 69).map (·.size) = some 6 := by kernel_rfl
theorem all_at (k : Nat) (h : k < 50) : (allRows.drop (k * 6)).take 6 = rv (k : Int) := by
  have hk : k = 0 ∨ k = 1 ∨ k = 2 ∨ k = 3 ∨ k = 4 ∨ k = 5 ∨ k = 6 ∨ k = 7 ∨ k = 8 ∨ k = 9 ∨ k = 10 ∨ k = 11 ∨ k = 12 ∨ k = 13 ∨ k = 14 ∨ k = 15 ∨ k = 16 ∨ k = 17 ∨ k = 18 ∨ k = 19 ∨ k = 20 ∨ k = 21 ∨ k = 22 ∨ k = 23 ∨ k = 24 ∨ k = 25 ∨ k = 26 ∨ k = 27 ∨ k = 28 ∨ k = 29 ∨ k = 30 ∨ k = 31 ∨ k = 32 ∨ k = 33 ∨ k = 34 ∨ k = 35 ∨ k = 36 ∨ k = 37 ∨ k = 38 ∨ k = 39 ∨ k = 40 ∨ k = 41 ∨ k = 42 ∨ k = 43 ∨ k = 44 ∨ k = 45 ∨ k = 46 ∨ k = 47 ∨ k = 48 ∨ k = 49 := by omega
  rcases hk with rfl | rfl | rfl | rfl | rfl | rfl | rfl | rfl | rfl | rfl | rfl | rfl | rfl | rfl | rfl | rfl | rfl | rfl | rfl | rfl | rfl | rfl | rfl | rfl | rfl | rfl | rfl | rfl | rfl | rfl | rfl | rfl | rfl | rfl | rfl | rfl | rfl | rfl | rfl | rfl | rfl | rfl | rfl | rfl | rfl | rfl | rfl | rfl | rfl | rfl
  all_goals (show _ = _; kernel_rfl)
theorem cells_of_all (k : Nat) (h : k < 50) (j : Nat) (v : Value) (hj : (rv (k : Int))[j]? = some v) : allRows.toArray[k * 6 + j]? = some v := by
  rw [← all_at k h, List.getElem?_take] at hj
  split at hj
  · rw [List.getElem?_drop] at hj
    simpa using hj
  · cases hj
theorem cell_of_heap {w : World} {g : Nat} {cs : Array Value} {t : TypeId} {fr : Nat × Nat} (h : w.heap[g]? = some (.cells cs t fr)) (o : Nat) : w.cell? ⟨g, o, none⟩ = cs[o]? := by
  unfold World.cell?
  simp [h]
theorem results_cell_slot {P : Program} {fn : Func} {p q : Tmp} {ty : TypeId} (h : fn.results = #[.cell p ty, .tmp q]) (tmps : Array Value) (w : World) (g : Nat) (t : TypeId) (cs : Array Value) (fr : Nat × Nat) (d : TypeDesc) (v : Value)
    (hp : tmps.getD p undef = .pointer (some ⟨g, 0, none⟩)) (hq : tmps.getD q undef = v) (hg : w.heap[g]? = some (.cells cs t fr))
    (hu : P.underlying ty = some d) (hd : (match d with | .struct _ | .array _ _ => true | _ => false) = true) (hi : (P.info? ty).map (·.size) = some cs.size) :
    (results fn tmps).run P w = .ok (.tuple #[.agg cs, v]) w := by
  have hp' : tmps[p]?.getD undef = .pointer (some ⟨g, 0, none⟩) := by simpa using hp
  have hq' : tmps[q]?.getD undef = v := by simpa using hq
  simp [results, h, hp', hq', asAddr, run_loadVar_row w g t ty cs fr d hg hu hd hi]
set_option maxRecDepth 100000 in
set_option maxHeartbeats 4000000 in
theorem rowof2_in (k : Nat) (h1 : k < 49) (w : World) : Calls Tryd.prog 55 #[.int .i64 ((k : Int) + 1)] w fun e w' => e = .returned (.tuple #[.agg (rv ((k : Int) + 1)).toArray, .bool true]) ∧ Both w w' := by
  go_enter Tryd.func55, Tryd.ntmps55
  go_wp2_with fail
  refine (rows_any _).mono ?_
  rintro e W1 ⟨rfl, hb1⟩
  rename_i hK2 K hK
  refine hK _ _ ?_
  clear hK K
  refine wpList_one rfl (w' := W1.alloc (.cells rowsZero 97)) (v := .pointer (some ⟨W1.heap.size, 0, none⟩)) (by kernel_rfl) ?_
  have hb : (W1.alloc (.cells rowsZero 97)).heap[W1.heap.size]? = some (.cells rowsZero 97 (0, 0)) := heap_alloc_new _ _
  have hr := setRow_heap _ _ _ allRows.toArray _ _ hb
  have hbo : Both w ((W1.alloc (.cells rowsZero 97)).setRow W1.heap.size allRows.toArray) := ((((Both.refl w).alloc _ _).trans hb1).alloc _ _).setRow (by have := hb1.1.size; simp at this; omega) _
  have hold : w.heap.size < W1.heap.size := by have := hb1.1.size; simp at this; omega
  have h0 : ((W1.alloc (.cells rowsZero 97)).setRow W1.heap.size allRows.toArray).heap[w.heap.size]? = some (.cells rvZero 69 (0, 0)) := by
    rw [setRow_other _ _ _ _ (by omega)]
    refine (heap_alloc_old _ _ hold).trans ?_
    refine (hb1.1.block _ (by simp)).trans ?_
    exact heap_alloc_new _ _
  refine wpList_store_row rfl 97 (.tmp 4) (.tmp 5) rfl _ _ rfl rfl _ _ hb (rows_size.trans (congrArg some all_size.symm)) (by kernel_rfl) all_one ?_
  generalize (W1.alloc (.cells rowsZero 97)).setRow W1.heap.size allRows.toArray = W2 at hr hbo h0 ⊢
  generalize W1.heap.size = g at hr hold ⊢
  refine wpList_nil ?_
  refine hK2 _ _ ?_
  go_upto_region 4 with (fail)
  rename_i K hK
  refine wp_region_list ?_
  refine wpList_one rfl (w' := W2) (v := .int .i64 ((k : Int) + 1)) rfl ?_
  refine wpList_one rfl (exec_index2 rfl g k h1 rfl rfl _) ?_
  refine wpList_load_mid rfl 69 (.tmp 14) rfl g ((k + 1) * 6) rfl (rv ((k : Int) + 1)) (.struct _) ?_ Tryd.underlying69 rfl row2_size ?_
  · intro j v hj
    exact (cell_of_heap hr _).trans (cells_of_all (k + 1) (by omega) j v hj)
  refine wpList_store_row rfl 69 (.tmp 2) (.tmp 15) rfl w.heap.size _ rfl rfl _ _ h0 row2_size rfl (by simp [rv, Value.oneCell']) ?_
  have hr2 := setRow_heap _ _ _ (rv ((k : Int) + 1)).toArray _ _ h0
  have hbo2 := hbo.setRow (Nat.le_refl _) (rv ((k : Int) + 1)).toArray
  generalize W2.setRow w.heap.size (rv ((k : Int) + 1)).toArray = W3 at hr2 hbo2 ⊢
  refine wpList_one rfl (w' := W3) (v := .bool true) rfl ?_
  refine wpList_nil ?_
  refine hK _ _ (wp_ret ?_)
  refine bodyPost_ret (v := .tuple #[.agg (rv ((k : Int) + 1)).toArray, .bool true]) (results_cell_slot Tryd.results55 _ _ w.heap.size _ _ _ _ _ rfl rfl hr2 Tryd.underlying69 rfl row2_size) rfl ⟨rfl, hbo2⟩
theorem rv_out (op : Int) (h : op < 1 ∨ 49 < op) : rv op = rvZero.toList := by
  unfold rv name form low mid high
  rw [at_out tName [] op h, at_out tForm 0 op h, at_out tLow 0 op h, at_out tMid 0 op h, at_out tHigh 0 op h]
  have : extra op = 0 := by
    unfold extra
    rw [if_neg (by omega), if_neg (by omega)]
  rw [this]
set_option maxRecDepth 100000 in
set_option maxHeartbeats 4000000 in
theorem rowof2_out (op : Int) (h : op < 1 ∨ 49 < op) (w : World) : Calls Tryd.prog 55 #[.int .i64 op] w fun e w' => e = .returned (.tuple #[.agg rvZero, .bool false]) ∧ Both w w' := by
  rcases h with h | h
  all_goals
    go_enter Tryd.func55, Tryd.ntmps55
    go_wp2_with fail
    refine (rows_any _).mono ?_
    rintro e W1 ⟨rfl, hb1⟩
    rename_i hK2 K hK
    refine hK _ _ ?_
    clear hK K
    refine wpList_one rfl (w' := W1.alloc (.cells rowsZero 97)) (v := .pointer (some ⟨W1.heap.size, 0, none⟩)) (by kernel_rfl) ?_
    have hb : (W1.alloc (.cells rowsZero 97)).heap[W1.heap.size]? = some (.cells rowsZero 97 (0, 0)) := heap_alloc_new _ _
    have hr := setRow_heap _ _ _ allRows.toArray _ _ hb
    have hbo : Both w ((W1.alloc (.cells rowsZero 97)).setRow W1.heap.size allRows.toArray) := ((((Both.refl w).alloc _ _).trans hb1).alloc _ _).setRow (by have := hb1.1.size; simp at this; omega) _
    have hold : w.heap.size < W1.heap.size := by have := hb1.1.size; simp at this; omega
    have h0 : ((W1.alloc (.cells rowsZero 97)).setRow W1.heap.size allRows.toArray).heap[w.heap.size]? = some (.cells rvZero 69 (0, 0)) := by
      rw [setRow_other _ _ _ _ (by omega)]
      refine (heap_alloc_old _ _ hold).trans ?_
      refine (hb1.1.block _ (by simp)).trans ?_
      exact heap_alloc_new _ _
    refine wpList_store_row rfl 97 (.tmp 4) (.tmp 5) rfl _ _ rfl rfl _ _ hb (rows_size.trans (congrArg some all_size.symm)) (by kernel_rfl) all_one ?_
    generalize (W1.alloc (.cells rowsZero 97)).setRow W1.heap.size allRows.toArray = W2 at hr hbo h0 ⊢
    generalize W1.heap.size = g at hr hold ⊢
    refine wpList_nil ?_
    refine hK2 _ _ ?_
    clear hb hr hb1
    go_upto_region 3 with (fail)
    rename_i K hK
    refine wp_region_list ?_
    refine wpList_one rfl (w' := W2) (v := .agg rvZero) (by kernel_rfl) ?_
    refine wpList_store_row rfl 69 (.tmp 2) (.tmp 12) rfl w.heap.size _ rfl rfl _ _ h0 row2_size rfl (by kernel_rfl) ?_
    have hr2 := setRow_heap _ _ _ rvZero _ _ h0
    have hbo2 := hbo.setRow (Nat.le_refl _) rvZero
    generalize W2.setRow w.heap.size rvZero = W3 at hr2 hbo2 ⊢
    refine wpList_one rfl (w' := W3) (v := .bool false) rfl ?_
    refine wpList_nil ?_
    refine hK _ _ ?_
    have HR := Lib.hid hr2
    clear hr2 h0 hK hK2 hbo
    go_wp2
    refine bodyPost_ret (v := .tuple #[.agg rvZero, .bool false]) (results_cell_slot Tryd.results55 _ _ w.heap.size _ _ _ _ _ rfl rfl HR.out Tryd.underlying69 rfl row2_size) rfl ⟨rfl, hbo2⟩
theorem rowof2_any (op : Int) (w : World) : Calls Tryd.prog 55 #[.int .i64 op] w fun e w' => e = .returned (.tuple #[.agg (rv op).toArray, .bool (decide (1 ≤ op ∧ op ≤ 49))]) ∧ Both w w' := by
  by_cases h : 1 ≤ op ∧ op ≤ 49
  · obtain ⟨k, hk⟩ := Int.eq_ofNat_of_zero_le (show 0 ≤ op - 1 by omega)
    obtain rfl : op = (k : Int) + 1 := by omega
    rw [decide_eq_true h]
    exact rowof2_in k (by omega) w
  · rw [rv_out op (by omega), decide_eq_false h]
    exact rowof2_out op (by omega) w
end Go.Proofs.YtgcgdjmlngfpeaaDoor
