/- The laws of layer 14: what they begin with: pick, their first calls. -/
import Derived.Test.YtgcgdjmlngfpeaaDoorHEq
namespace Go.Proofs.YtgcgdjmlngfpeaaDoor
open Go.RowKit Ht
set_option linter.unusedVariables false
set_option linter.unusedSimpArgs false
set_option maxRecDepth 100000
set_option maxHeartbeats 4000000
theorem exec_eqI {o : Oper} {ρ : Operand → Value} {x y : Operand} {t' : TypeId} (ho : o.op = .binOp .eql 3 x y t') {a b : Int} (hx : ρ x = .int .i64 a) (hy : ρ y = .int .i64 b) (h : a = b) (w : World) : (execOp ρ o).run Tryd.prog w = .ok (.value (.bool true)) w := by
  subst h
  unfold execOp
  simp only [ho, hx, hy]
  simp [go_sem, Tryd.underlying3]
theorem exec_eqS {o : Oper} {ρ : Operand → Value} {x y : Operand} {t t' : TypeId} (ho : o.op = .binOp .eql t x y t') {xs ys : Array Value} (hx : ρ x = .agg xs) (hy : ρ y = .agg ys) (hm : Tryd.prog.eqGuardType Tryd.prog.depth t = false)
    {q : Bool} (w : World) (he : (Op.equalIn 10000 t (.agg xs) (.agg ys)).run Tryd.prog w = .ok q w) : (execOp ρ o).run Tryd.prog w = .ok (.value (.bool q)) w := by
  unfold execOp
  simp [ho, hx, hy, run_eqGuard_agg, hm, run_eql_struct, he]
theorem eC_ints (e : Eff) : eC e = (ints [e.kind, e.d, e.addr, e.n, e.op]).toArray := rfl
theorem hC_ints (h : H) : hC h = (ints ((List.range 39).map h)).toArray := by unfold hC ints; rw [List.map_map]; rfl
theorem exec_eqE {o : Oper} {ρ : Operand → Value} {x y : Operand} {t' : TypeId} (ho : o.op = .binOp .eql 34 x y t') {e f : Eff} (hx : ρ x = .agg (eC e)) (hy : ρ y = .agg (eC f)) (h : e = f) (w : World) : (execOp ρ o).run Tryd.prog w = .ok (.value (.bool true)) w := by
  subst h
  refine exec_eqS ho hx hy (by kernel_rfl) w ?_
  have := teq_eff 9998 [e.kind, e.d, e.addr, e.n, e.op] [e.kind, e.d, e.addr, e.n, e.op] rfl rfl w
  rw [decide_eq_true rfl] at this
  exact this
theorem exec_eqH {o : Oper} {ρ : Operand → Value} {x y : Operand} {t' : TypeId} (ho : o.op = .binOp .eql 28 x y t') {g h : H} (hx : ρ x = hv g) (hy : ρ y = hv h) (e : ∀ k, k < 39 → g k = h k) (w : World) : (execOp ρ o).run Tryd.prog w = .ok (.value (.bool true)) w := by
  refine exec_eqS ho hx hy (by kernel_rfl) w ?_
  have e2 : (List.range 39).map g = (List.range 39).map h := List.map_congr_left fun k hk => e k (List.mem_range.1 hk)
  have := teq_hart 9997 ((List.range 39).map g) ((List.range 39).map h) (by simp) (by simp) w
  rw [decide_eq_true e2] at this
  rw [hC_ints, hC_ints]
  exact this
abbrev rV (h : H) : Value := .agg (ints ((List.range 32).map h)).toArray
theorem exec_eqR {o : Oper} {ρ : Operand → Value} {x y : Operand} {t' : TypeId} (ho : o.op = .binOp .eql 26 x y t') {g h : H} (hx : ρ x = rV g) (hy : ρ y = rV h) (e : ∀ k, k < 32 → g k = h k) (w : World) : (execOp ρ o).run Tryd.prog w = .ok (.value (.bool true)) w := by
  refine exec_eqS ho hx hy (by kernel_rfl) w ?_
  have e2 : (List.range 32).map g = (List.range 32).map h := List.map_congr_left fun k hk => e k (List.mem_range.1 hk)
  have := teq_regs 9998 ((List.range 32).map g) ((List.range 32).map h) (by simp) (by simp) w
  rw [decide_eq_true e2] at this
  exact this
theorem exec_not {o : Oper} {ρ : Operand → Value} {x : Operand} {t' : TypeId} (ho : o.op = .unOp .not t' x) {b : Bool} (hx : ρ x = .bool b) (w : World) : (execOp ρ o).run Tryd.prog w = .ok (.value (.bool (!b))) w := by
  unfold execOp
  simp only [ho, hx]
  simp [go_sem]
theorem wpList_oneW {P : Program} {ops : Array Oper} {Q : Exit → Act → World → Prop} {o : Oper} {rest : List Oper} {a : Act} {w w' : World} {v : Value} (hw : Region.wanted o (yielded ops a.tmps) = true)
    (h : (execOp a.eval o).run P w = .ok (.value v) w') (hk : wpList P ops Q rest (a.put o.dst v) w') : wpList P ops Q (o :: rest) a w := by
  refine BigFrame.wpList_want hw fun K hK => ?_
  unfold Oper.wp
  rw [h]
  exact hK _ _ hk
theorem wpList_callW {P : Program} {ops : Array Oper} {Q : Exit → Act → World → Prop} {o : Oper} {rest : List Oper} {a : Act} {w : World} (hw : Region.wanted o (yielded ops a.tmps) = true) {f : FuncId} {args : Array Value} {v : Value}
    (h : (execOp a.eval o).run P w = .ok (.enter f args) w) (hc : Calls P f args w (OneV v w)) (hk : ∀ w', Bel w w' → wpList P ops Q rest (a.put o.dst v) w') : wpList P ops Q (o :: rest) a w := by
  refine BigFrame.wpList_want hw fun K hK => ?_
  unfold Oper.wp
  rw [h, Oper.upon_enter]
  refine hc.mono fun e w'' hh => ?_
  obtain ⟨rfl, hb⟩ := hh
  exact hK _ _ (hk _ hb)
theorem exec_regs {o : Oper} {ρ : Operand → Value} (x : Operand) (ho : o.op = .load 26 x) (g : Nat) (hx : ρ x = .pointer (some ⟨g, 0, none⟩)) {w : World} {h : H} (hg : HAt w g h) : (execOp ρ o).run Tryd.prog w = .ok (.value (rV h)) w := by
  have hr : w.rangeAt g 0 (ints ((List.range 32).map h)) := fun j v hj => by
    have hj32 : j < 32 := by have := (List.getElem?_eq_some_iff.1 hj).1; simpa [ints] using this
    rw [Nat.zero_add, hg.cell (by omega)]
    simpa [ints, hj32] using hj
  have := run_loadVar_mid (P := Tryd.prog) w g 0 26 (ints ((List.range 32).map h)) _ hr Tryd.underlying26 rfl (by simp only [ints, List.length_map, List.length_range]; kernel_rfl)
  unfold execOp
  simp only [ho, hx, Instr.loadAt, Instr.sureAddr, Sem.run_bind, Sem.run_pure, Result.andThen_ok, this]
theorem pick14_any (c n : Int) (h1 : -9223372036854775808 ≤ c) (h2 : c ≤ 9223372036854775807) (h3 : 1 ≤ n) (w : World) : Calls Tryd.prog 15 #[.int .i64 c, .int .i64 n] w fun e w' => e = .returned (.int .i64 (Plain.pick c n)) ∧ w = w' := by
  by_cases hc : c < 0
  · have ht := Plain.pick_neg n hc
    have HT := Lib.hid ht
    clear ht
    go_enter Tryd.func15, Tryd.ntmps15
    go_wp2
    go_ret
    exact ⟨rI (by rw [← HT.out]), rfl⟩
  · have ht := Plain.pick_pos n hc
    have HT := Lib.hid ht
    clear ht
    go_enter Tryd.func15, Tryd.ntmps15
    go_wp2
    go_ret
    exact ⟨rI (by rw [← HT.out]), rfl⟩
theorem pk {c n r : Int} (hc : inInt c) (h3 : 1 ≤ n) (h : Plain.pick c n = r) (w : World) : Calls Tryd.prog 15 #[.int .i64 c, .int .i64 n] w (OneV (.int .i64 r) w) := by
  subst h
  exact (pick14_any c n hc.1 hc.2 h3 w).mono fun e w' hh => ⟨hh.1, by rw [← hh.2]; exact Bel.refl _⟩
abbrev i64 (x : Int) : Prop := -9223372036854775808 ≤ x ∧ x ≤ 9223372036854775807
theorem wf5 {o d a b n : Int} (h1 : i64 o) (h2 : i64 d) (h3 : i64 a) (h4 : i64 b) (h5 : i64 n) : Ins.wf ⟨o, d, a, b, n⟩ := ⟨h1, h2, h3, h4, h5⟩
/-- how a step is told in a law: the instruction is right, and what it does is told by its kind alone -/
theorem st {h h' : H} {id o d a b n : Int} {e : Eff} {w0 w : World} (hO : Hid (OpsAt w0)) (hB : Bel w0 w) (hw : Ins.wf ⟨o, d, a, b, n⟩) (he : stepV h id ⟨o, d, a, b, n⟩ = (h', e)) :
    Calls Tryd.prog 16 #[hv h, .int .i64 id, iv o d a b n] w (OneV (.tuple #[hv h', .agg (eC e)]) w) := step_lit hw (hO.out.bel hB) he
theorem awake_any {w : World} (hO : OpsAt w) : Calls Tryd.prog 12 #[] w (OneV (.bool true) w) := by
  have HO := Lib.hid hO
  clear hO
  obtain ⟨h5, ah5⟩ : ∃ h, put (fun _ => 0) 5 3 = h := ⟨_, rfl⟩
  obtain ⟨h6, ah6⟩ : ∃ h, Ht.go (put (put (fun _ => 0) 5 3) 6 (Plain.two 1 3 (-4))) 4 = h := ⟨_, rfl⟩
  obtain ⟨h7, ah7⟩ : ∃ h, Ht.go (put (fun _ => 0) 5 3) 4 = h := ⟨_, rfl⟩
  obtain ⟨h8, ah8⟩ : ∃ h, up (up (up (up (up (up (up (fun _ => 0) 32 40) 33 8) 34 100) 36 40) 37 7) 32 100) 33 128 = h := ⟨_, rfl⟩
  have A1 : Hid (put (fun _ => 0) 5 3 = h5) := Lib.hid ah5
  have A2 : Hid (stepV h5 0 ⟨13, 6, 5, 0, -4⟩ = (h6, e0)) := Lib.hid (by subst ah5 ah6; kernel_rfl)
  have A3 : Hid (stepV h5 0 ⟨12, 0, 5, 5, 5⟩ = (h7, ⟨2, 0, 8, 3, 0⟩)) := Lib.hid (by subst ah5 ah7; kernel_rfl)
  have A4 : Hid (wrap32 7 = 7) := Lib.hid (by decide +kernel)
  have A5 : Hid (trapS ((up (up (up (fun _ => 0) 32 40) 33 8) 34 100) 33) = 128) := Lib.hid (by decide +kernel)
  have A6 : Hid (up (up (up (up (up (up (up (fun _ => 0) 32 40) 33 8) 34 100) 36 ((up (up (up (fun _ => 0) 32 40) 33 8) 34 100) 32)) 37 7) 32 ((up (up (up (fun _ => 0) 32 40) 33 8) 34 100) 34)) 33 128 = h8) := Lib.hid ah8
  have A7 : Hid (stepV h5 0 ⟨0, 0, 0, 0, 0⟩ = (h5, eBad)) := Lib.hid (by kernel_rfl)
  have C1 : Hid (h6 6 = -1) := Lib.hid (by subst ah6; kernel_rfl)
  have C2 : Hid (h6 32 = 4) := Lib.hid (by subst ah6; kernel_rfl)
  have C3 : Hid (h7 32 = 4) := Lib.hid (by subst ah7; kernel_rfl)
  have C4 : Hid (h8 32 = 100) := Lib.hid (by subst ah8; kernel_rfl)
  have C5 : Hid (h8 36 = 40) := Lib.hid (by subst ah8; kernel_rfl)
  have C6 : Hid (h8 37 = 7) := Lib.hid (by subst ah8; kernel_rfl)
  have C7 : Hid (h8 33 = 128) := Lib.hid (by subst ah8; kernel_rfl)
  have D1 : Hid ((decide (bits .and .i64 ((up (up (fun _ => 0) 33 8) 38 3) 33) 8 ≠ 0) && decide ((up (up (fun _ => 0) 33 8) 38 3) 38 < 4)) = true) := Lib.hid (by decide +kernel)
  have D2 : Hid ((decide (bits .and .i64 (h8 33) 8 ≠ 0) && decide (h8 38 < 9)) = false) := Lib.hid (by subst ah8; decide +kernel)
  clear ah5 ah6 ah7 ah8
  go_enter Tryd.func12, Tryd.ntmps12
  have HB : Hid (Bel w w) := Lib.hid (Bel.refl w)
  go_upto_region 1 with (fail)
  rename_i K hK
  refine wp_region_list ?_
  refine wpList_one rfl (w' := w) (v := hv (fun _ => 0)) (by kernel_rfl) ?_
  try simp only [Act.put, la, lz, ls]
  refine wpList_call rfl (f := 18) (args := #[hv (fun _ => 0), .int .i64 5, .int .i64 3]) (v := hv h5) (by kernel_rfl) (put_lit A1.out _) ?_
  intro V1 hb
  replace HB : Hid (Bel w V1) := Lib.hid (HB.out.trans hb)
  clear hb
  try simp only [Act.put, la, lz, ls]
  obtain ⟨hb, hx⟩ := box1 V1 hZ 28
  refine wpList_one rfl (w' := V1.alloc (.cells hZ 28)) (v := .pointer (some ⟨V1.heap.size, 0, none⟩)) (by kernel_rfl) ?_
  try simp only [Act.put, la, lz, ls]
  have hl := HB.out.size
  generalize V1.alloc (.cells hZ 28) = V2 at hb hx ⊢
  generalize V1.heap.size = b1 at hx hl ⊢
  have HG := Lib.hid hl
  clear hl
  replace HB : Hid (Bel w V2) := Lib.hid (HB.out.trans hb)
  have HXb1 : Hid (HAt V2 b1 (fun _ => 0)) := Lib.hid hx
  clear hb hx
  try simp only [Act.put, la, lz, ls]
  refine wpList_store_row rfl 28 (.tmp 1) (.tmp 10) rfl b1 (hC h5) rfl rfl 28 (hC (fun _ => 0)) HXb1.out (sz_hart _) (by rw [hC_size, hC_size]) (hC_ones _) ?_
  have hn := row_same (cs := (hC h5)) HXb1.out
  have hb := row_bel HB.out (g := b1) (by have := HG.out; omega) (hC h5)
  generalize V2.setRow b1 (hC h5) = V3 at hn hb  ⊢
  clear HB HXb1
  have HB : Hid (Bel w V3) := Lib.hid hb
  have HXb1 : Hid (HAt V3 b1 h5) := Lib.hid hn
  clear hn hb 
  try simp only [Act.put, la, lz, ls]
  refine wpList_nil ?_
  refine hK _ _ ?_
  clear hK K
  go_upto_region 2 with (fail)
  rename_i K hK
  refine wp_region_list ?_
  refine wpList_load_row rfl 28 (.tmp 1) rfl b1 rfl 28 (hC h5) (0, 0) _ HXb1.out Tryd.underlying28 rfl (sz_hart _) ?_
  try simp only [Act.put, la, lz, ls]
  refine wpList_one rfl (w' := V3) (v := iv 13 6 5 0 (-4)) (by kernel_rfl) ?_
  try simp only [Act.put, la, lz, ls]
  refine wpList_call rfl (f := 16) (args := #[hv h5, .int .i64 0, iv 13 6 5 0 (-4)]) (v := .tuple #[hv h6, .agg (eC e0)]) (by kernel_rfl) (st HO HB.out (wf5 (by decide) (by decide) (by decide) (by decide) (by decide)) A2.out) ?_
  intro V4 hb
  replace HB : Hid (Bel w V4) := Lib.hid (HB.out.trans hb)
  replace HXb1 : Hid (HAt V4 b1 h5) := Lib.hid (HXb1.out.bel hb)
  clear hb
  try simp only [Act.put, la, lz, ls]
  refine wpList_one rfl (w' := V4) (v := .tuple #[hv h6, .agg (eC e0)]) rfl ?_
  try simp only [Act.put, la, lz, ls]
  refine wpList_one rfl (w' := V4) (v := hv h6) rfl ?_
  try simp only [Act.put, la, lz, ls]
  refine wpList_one rfl (w' := V4) (v := .agg (eC e0)) rfl ?_
  try simp only [Act.put, la, lz, ls]
  obtain ⟨hb, hx⟩ := box1 V4 hZ 28
  refine wpList_one rfl (w' := V4.alloc (.cells hZ 28)) (v := .pointer (some ⟨V4.heap.size, 0, none⟩)) (by kernel_rfl) ?_
  try simp only [Act.put, la, lz, ls]
  have hl := lt_of_heap HXb1.out
  generalize V4.alloc (.cells hZ 28) = V5 at hb hx ⊢
  generalize V4.heap.size = b2 at hx hl ⊢
  have HG1 := Lib.hid hl
  clear hl
  replace HB : Hid (Bel w V5) := Lib.hid (HB.out.trans hb)
  replace HXb1 : Hid (HAt V5 b1 h5) := Lib.hid (HXb1.out.bel hb)
  have HXb2 : Hid (HAt V5 b2 (fun _ => 0)) := Lib.hid hx
  clear hb hx
  try simp only [Act.put, la, lz, ls]
  obtain ⟨hb, hx⟩ := box1 V5 (eC e0) 34
  refine wpList_one rfl (w' := V5.alloc (.cells (eC e0) 34)) (v := .pointer (some ⟨V5.heap.size, 0, none⟩)) (by kernel_rfl) ?_
  try simp only [Act.put, la, lz, ls]
  have hl := lt_of_heap HXb2.out
  generalize V5.alloc (.cells (eC e0) 34) = V6 at hb hx ⊢
  generalize V5.heap.size = b3 at hx hl ⊢
  have HG2 := Lib.hid hl
  clear hl
  replace HB : Hid (Bel w V6) := Lib.hid (HB.out.trans hb)
  replace HXb1 : Hid (HAt V6 b1 h5) := Lib.hid (HXb1.out.bel hb)
  replace HXb2 : Hid (HAt V6 b2 (fun _ => 0)) := Lib.hid (HXb2.out.bel hb)
  have HXb3 : Hid (EfAt V6 b3 e0) := Lib.hid hx
  clear hb hx
  try simp only [Act.put, la, lz, ls]
  refine wpList_store_row rfl 28 (.tmp 2) (.tmp 15) rfl b2 (hC h6) rfl rfl 28 (hC (fun _ => 0)) HXb2.out (sz_hart _) (by rw [hC_size, hC_size]) (hC_ones _) ?_
  have hn := row_same (cs := (hC h6)) HXb2.out
  have hb := row_bel HB.out (g := b2) (by have := HG.out; have := HG1.out; have := HG2.out; omega) (hC h6)
  have hb1 := (setRow_other V6 b2 b1 (hC h6) (by have := HG.out; have := HG1.out; have := HG2.out; omega)).trans HXb1.out
  have hb3 := (setRow_other V6 b2 b3 (hC h6) (by have := HG.out; have := HG1.out; have := HG2.out; omega)).trans HXb3.out
  generalize V6.setRow b2 (hC h6) = V7 at hn hb hb1 hb3 ⊢
  clear HB HXb1 HXb2 HXb3
  have HB : Hid (Bel w V7) := Lib.hid hb
  have HXb1 : Hid (HAt V7 b1 h5) := Lib.hid hb1
  have HXb3 : Hid (EfAt V7 b3 e0) := Lib.hid hb3
  have HXb2 : Hid (HAt V7 b2 h6) := Lib.hid hn
  clear hn hb hb1 hb3
  try simp only [Act.put, la, lz, ls]
  refine wpList_store_row rfl 34 (.tmp 3) (.tmp 16) rfl b3 (eC e0) rfl rfl 34 (eC e0) HXb3.out (sz_eff _) rfl (eC_ones _) ?_
  have hn := row_same (cs := (eC e0)) HXb3.out
  have hb := row_bel HB.out (g := b3) (by have := HG.out; have := HG1.out; have := HG2.out; omega) (eC e0)
  have hb1 := (setRow_other V7 b3 b1 (eC e0) (by have := HG.out; have := HG1.out; have := HG2.out; omega)).trans HXb1.out
  have hb2 := (setRow_other V7 b3 b2 (eC e0) (by have := HG.out; have := HG1.out; have := HG2.out; omega)).trans HXb2.out
  generalize V7.setRow b3 (eC e0) = V8 at hn hb hb1 hb2 ⊢
  clear HB HXb1 HXb2 HXb3
  have HB : Hid (Bel w V8) := Lib.hid hb
  have HXb1 : Hid (HAt V8 b1 h5) := Lib.hid hb1
  have HXb2 : Hid (HAt V8 b2 h6) := Lib.hid hb2
  have HXb3 : Hid (EfAt V8 b3 e0) := Lib.hid hn
  clear hn hb hb1 hb2
  try simp only [Act.put, la, lz, ls]
  refine wpList_nil ?_
  refine hK _ _ ?_
  clear hK K
  go_upto_region 3 with (fail)
  rename_i K hK
  refine wp_region_list ?_
  refine wpList_load_row rfl 28 (.tmp 1) rfl b1 rfl 28 (hC h5) (0, 0) _ HXb1.out Tryd.underlying28 rfl (sz_hart _) ?_
  try simp only [Act.put, la, lz, ls]
  refine wpList_one rfl (w' := V8) (v := iv 12 0 5 5 5) (by kernel_rfl) ?_
  try simp only [Act.put, la, lz, ls]
  refine wpList_call rfl (f := 16) (args := #[hv h5, .int .i64 0, iv 12 0 5 5 5]) (v := .tuple #[hv h7, .agg (eC ⟨2, 0, 8, 3, 0⟩)]) (by kernel_rfl) (st HO HB.out (wf5 (by decide) (by decide) (by decide) (by decide) (by decide)) A3.out) ?_
  intro V9 hb
  replace HB : Hid (Bel w V9) := Lib.hid (HB.out.trans hb)
  replace HXb1 : Hid (HAt V9 b1 h5) := Lib.hid (HXb1.out.bel hb)
  replace HXb2 : Hid (HAt V9 b2 h6) := Lib.hid (HXb2.out.bel hb)
  replace HXb3 : Hid (EfAt V9 b3 e0) := Lib.hid (HXb3.out.bel hb)
  clear hb
  try simp only [Act.put, la, lz, ls]
  refine wpList_one rfl (w' := V9) (v := .tuple #[hv h7, .agg (eC ⟨2, 0, 8, 3, 0⟩)]) rfl ?_
  try simp only [Act.put, la, lz, ls]
  refine wpList_one rfl (w' := V9) (v := hv h7) rfl ?_
  try simp only [Act.put, la, lz, ls]
  refine wpList_one rfl (w' := V9) (v := .agg (eC ⟨2, 0, 8, 3, 0⟩)) rfl ?_
  try simp only [Act.put, la, lz, ls]
  obtain ⟨hb, hx⟩ := box1 V9 hZ 28
  refine wpList_one rfl (w' := V9.alloc (.cells hZ 28)) (v := .pointer (some ⟨V9.heap.size, 0, none⟩)) (by kernel_rfl) ?_
  try simp only [Act.put, la, lz, ls]
  have hl := lt_of_heap HXb3.out
  generalize V9.alloc (.cells hZ 28) = V10 at hb hx ⊢
  generalize V9.heap.size = b4 at hx hl ⊢
  have HG3 := Lib.hid hl
  clear hl
  replace HB : Hid (Bel w V10) := Lib.hid (HB.out.trans hb)
  replace HXb1 : Hid (HAt V10 b1 h5) := Lib.hid (HXb1.out.bel hb)
  replace HXb2 : Hid (HAt V10 b2 h6) := Lib.hid (HXb2.out.bel hb)
  replace HXb3 : Hid (EfAt V10 b3 e0) := Lib.hid (HXb3.out.bel hb)
  have HXb4 : Hid (HAt V10 b4 (fun _ => 0)) := Lib.hid hx
  clear hb hx
  try simp only [Act.put, la, lz, ls]
  obtain ⟨hb, hx⟩ := box1 V10 (eC e0) 34
  refine wpList_one rfl (w' := V10.alloc (.cells (eC e0) 34)) (v := .pointer (some ⟨V10.heap.size, 0, none⟩)) (by kernel_rfl) ?_
  try simp only [Act.put, la, lz, ls]
  have hl := lt_of_heap HXb4.out
  generalize V10.alloc (.cells (eC e0) 34) = V11 at hb hx ⊢
  generalize V10.heap.size = b5 at hx hl ⊢
  have HG4 := Lib.hid hl
  clear hl
  replace HB : Hid (Bel w V11) := Lib.hid (HB.out.trans hb)
  replace HXb1 : Hid (HAt V11 b1 h5) := Lib.hid (HXb1.out.bel hb)
  replace HXb2 : Hid (HAt V11 b2 h6) := Lib.hid (HXb2.out.bel hb)
  replace HXb3 : Hid (EfAt V11 b3 e0) := Lib.hid (HXb3.out.bel hb)
  replace HXb4 : Hid (HAt V11 b4 (fun _ => 0)) := Lib.hid (HXb4.out.bel hb)
  have HXb5 : Hid (EfAt V11 b5 e0) := Lib.hid hx
  clear hb hx
  try simp only [Act.put, la, lz, ls]
  refine wpList_store_row rfl 28 (.tmp 4) (.tmp 21) rfl b4 (hC h7) rfl rfl 28 (hC (fun _ => 0)) HXb4.out (sz_hart _) (by rw [hC_size, hC_size]) (hC_ones _) ?_
  have hn := row_same (cs := (hC h7)) HXb4.out
  have hb := row_bel HB.out (g := b4) (by have := HG.out; have := HG1.out; have := HG2.out; have := HG3.out; have := HG4.out; omega) (hC h7)
  have hb1 := (setRow_other V11 b4 b1 (hC h7) (by have := HG.out; have := HG1.out; have := HG2.out; have := HG3.out; have := HG4.out; omega)).trans HXb1.out
  have hb2 := (setRow_other V11 b4 b2 (hC h7) (by have := HG.out; have := HG1.out; have := HG2.out; have := HG3.out; have := HG4.out; omega)).trans HXb2.out
  have hb3 := (setRow_other V11 b4 b3 (hC h7) (by have := HG.out; have := HG1.out; have := HG2.out; have := HG3.out; have := HG4.out; omega)).trans HXb3.out
  have hb5 := (setRow_other V11 b4 b5 (hC h7) (by have := HG.out; have := HG1.out; have := HG2.out; have := HG3.out; have := HG4.out; omega)).trans HXb5.out
  generalize V11.setRow b4 (hC h7) = V12 at hn hb hb1 hb2 hb3 hb5 ⊢
  clear HB HXb1 HXb2 HXb3 HXb4 HXb5
  have HB : Hid (Bel w V12) := Lib.hid hb
  have HXb1 : Hid (HAt V12 b1 h5) := Lib.hid hb1
  have HXb2 : Hid (HAt V12 b2 h6) := Lib.hid hb2
  have HXb3 : Hid (EfAt V12 b3 e0) := Lib.hid hb3
  have HXb5 : Hid (EfAt V12 b5 e0) := Lib.hid hb5
  have HXb4 : Hid (HAt V12 b4 h7) := Lib.hid hn
  clear hn hb hb1 hb2 hb3 hb5
  try simp only [Act.put, la, lz, ls]
  refine wpList_store_row rfl 34 (.tmp 5) (.tmp 22) rfl b5 (eC ⟨2, 0, 8, 3, 0⟩) rfl rfl 34 (eC e0) HXb5.out (sz_eff _) rfl (eC_ones _) ?_
  have hn := row_same (cs := (eC ⟨2, 0, 8, 3, 0⟩)) HXb5.out
  have hb := row_bel HB.out (g := b5) (by have := HG.out; have := HG1.out; have := HG2.out; have := HG3.out; have := HG4.out; omega) (eC ⟨2, 0, 8, 3, 0⟩)
  have hb1 := (setRow_other V12 b5 b1 (eC ⟨2, 0, 8, 3, 0⟩) (by have := HG.out; have := HG1.out; have := HG2.out; have := HG3.out; have := HG4.out; omega)).trans HXb1.out
  have hb2 := (setRow_other V12 b5 b2 (eC ⟨2, 0, 8, 3, 0⟩) (by have := HG.out; have := HG1.out; have := HG2.out; have := HG3.out; have := HG4.out; omega)).trans HXb2.out
  have hb3 := (setRow_other V12 b5 b3 (eC ⟨2, 0, 8, 3, 0⟩) (by have := HG.out; have := HG1.out; have := HG2.out; have := HG3.out; have := HG4.out; omega)).trans HXb3.out
  have hb4 := (setRow_other V12 b5 b4 (eC ⟨2, 0, 8, 3, 0⟩) (by have := HG.out; have := HG1.out; have := HG2.out; have := HG3.out; have := HG4.out; omega)).trans HXb4.out
  generalize V12.setRow b5 (eC ⟨2, 0, 8, 3, 0⟩) = V13 at hn hb hb1 hb2 hb3 hb4 ⊢
  clear HB HXb1 HXb2 HXb3 HXb4 HXb5
  have HB : Hid (Bel w V13) := Lib.hid hb
  have HXb1 : Hid (HAt V13 b1 h5) := Lib.hid hb1
  have HXb2 : Hid (HAt V13 b2 h6) := Lib.hid hb2
  have HXb3 : Hid (EfAt V13 b3 e0) := Lib.hid hb3
  have HXb4 : Hid (HAt V13 b4 h7) := Lib.hid hb4
  have HXb5 : Hid (EfAt V13 b5 ⟨2, 0, 8, 3, 0⟩) := Lib.hid hn
  clear hn hb hb1 hb2 hb3 hb4
  try simp only [Act.put, la, lz, ls]
  refine wpList_nil ?_
  refine hK _ _ ?_
  clear hK K
  go_upto_region 4 with (fail)
  rename_i K hK
  refine wp_region_list ?_
  refine wpList_one rfl (w' := V13) (v := hv (up (up (up (fun _ => 0) 32 40) 33 8) 34 100)) (by kernel_rfl) ?_
  try simp only [Act.put, la, lz, ls]
  refine wpList_call rfl (f := 20) (args := #[hv (up (up (up (fun _ => 0) 32 40) 33 8) 34 100), .int .i64 7]) (v := hv h8) (by kernel_rfl) (trap_lit A4.out rfl A5.out A6.out _) ?_
  intro V14 hb
  replace HB : Hid (Bel w V14) := Lib.hid (HB.out.trans hb)
  replace HXb1 : Hid (HAt V14 b1 h5) := Lib.hid (HXb1.out.bel hb)
  replace HXb2 : Hid (HAt V14 b2 h6) := Lib.hid (HXb2.out.bel hb)
  replace HXb3 : Hid (EfAt V14 b3 e0) := Lib.hid (HXb3.out.bel hb)
  replace HXb4 : Hid (HAt V14 b4 h7) := Lib.hid (HXb4.out.bel hb)
  replace HXb5 : Hid (EfAt V14 b5 ⟨2, 0, 8, 3, 0⟩) := Lib.hid (HXb5.out.bel hb)
  clear hb
  try simp only [Act.put, la, lz, ls]
  obtain ⟨hb, hx⟩ := box1 V14 hZ 28
  refine wpList_one rfl (w' := V14.alloc (.cells hZ 28)) (v := .pointer (some ⟨V14.heap.size, 0, none⟩)) (by kernel_rfl) ?_
  try simp only [Act.put, la, lz, ls]
  have hl := lt_of_heap HXb5.out
  generalize V14.alloc (.cells hZ 28) = V15 at hb hx ⊢
  generalize V14.heap.size = b6 at hx hl ⊢
  have HG5 := Lib.hid hl
  clear hl
  replace HB : Hid (Bel w V15) := Lib.hid (HB.out.trans hb)
  replace HXb1 : Hid (HAt V15 b1 h5) := Lib.hid (HXb1.out.bel hb)
  replace HXb2 : Hid (HAt V15 b2 h6) := Lib.hid (HXb2.out.bel hb)
  replace HXb3 : Hid (EfAt V15 b3 e0) := Lib.hid (HXb3.out.bel hb)
  replace HXb4 : Hid (HAt V15 b4 h7) := Lib.hid (HXb4.out.bel hb)
  replace HXb5 : Hid (EfAt V15 b5 ⟨2, 0, 8, 3, 0⟩) := Lib.hid (HXb5.out.bel hb)
  have HXb6 : Hid (HAt V15 b6 (fun _ => 0)) := Lib.hid hx
  clear hb hx
  try simp only [Act.put, la, lz, ls]
  refine wpList_store_row rfl 28 (.tmp 6) (.tmp 24) rfl b6 (hC h8) rfl rfl 28 (hC (fun _ => 0)) HXb6.out (sz_hart _) (by rw [hC_size, hC_size]) (hC_ones _) ?_
  have hn := row_same (cs := (hC h8)) HXb6.out
  have hb := row_bel HB.out (g := b6) (by have := HG.out; have := HG1.out; have := HG2.out; have := HG3.out; have := HG4.out; have := HG5.out; omega) (hC h8)
  have hb1 := (setRow_other V15 b6 b1 (hC h8) (by have := HG.out; have := HG1.out; have := HG2.out; have := HG3.out; have := HG4.out; have := HG5.out; omega)).trans HXb1.out
  have hb2 := (setRow_other V15 b6 b2 (hC h8) (by have := HG.out; have := HG1.out; have := HG2.out; have := HG3.out; have := HG4.out; have := HG5.out; omega)).trans HXb2.out
  have hb3 := (setRow_other V15 b6 b3 (hC h8) (by have := HG.out; have := HG1.out; have := HG2.out; have := HG3.out; have := HG4.out; have := HG5.out; omega)).trans HXb3.out
  have hb4 := (setRow_other V15 b6 b4 (hC h8) (by have := HG.out; have := HG1.out; have := HG2.out; have := HG3.out; have := HG4.out; have := HG5.out; omega)).trans HXb4.out
  have hb5 := (setRow_other V15 b6 b5 (hC h8) (by have := HG.out; have := HG1.out; have := HG2.out; have := HG3.out; have := HG4.out; have := HG5.out; omega)).trans HXb5.out
  generalize V15.setRow b6 (hC h8) = V16 at hn hb hb1 hb2 hb3 hb4 hb5 ⊢
  clear HB HXb1 HXb2 HXb3 HXb4 HXb5 HXb6
  have HB : Hid (Bel w V16) := Lib.hid hb
  have HXb1 : Hid (HAt V16 b1 h5) := Lib.hid hb1
  have HXb2 : Hid (HAt V16 b2 h6) := Lib.hid hb2
  have HXb3 : Hid (EfAt V16 b3 e0) := Lib.hid hb3
  have HXb4 : Hid (HAt V16 b4 h7) := Lib.hid hb4
  have HXb5 : Hid (EfAt V16 b5 ⟨2, 0, 8, 3, 0⟩) := Lib.hid hb5
  have HXb6 : Hid (HAt V16 b6 h8) := Lib.hid hn
  clear hn hb hb1 hb2 hb3 hb4 hb5
  try simp only [Act.put, la, lz, ls]
  refine wpList_nil ?_
  refine hK _ _ ?_
  clear hK K
  go_upto_region 5 with (fail)
  rename_i K hK
  refine wp_region_list ?_
  refine wpList_load_row rfl 28 (.tmp 1) rfl b1 rfl 28 (hC h5) (0, 0) _ HXb1.out Tryd.underlying28 rfl (sz_hart _) ?_
  try simp only [Act.put, la, lz, ls]
  refine wpList_one rfl (w' := V16) (v := iv 0 0 0 0 0) (by kernel_rfl) ?_
  try simp only [Act.put, la, lz, ls]
  refine wpList_call rfl (f := 16) (args := #[hv h5, .int .i64 0, iv 0 0 0 0 0]) (v := .tuple #[hv h5, .agg (eC eBad)]) (by kernel_rfl) (st HO HB.out (wf5 (by decide) (by decide) (by decide) (by decide) (by decide)) A7.out) ?_
  intro V17 hb
  replace HB : Hid (Bel w V17) := Lib.hid (HB.out.trans hb)
  replace HXb1 : Hid (HAt V17 b1 h5) := Lib.hid (HXb1.out.bel hb)
  replace HXb2 : Hid (HAt V17 b2 h6) := Lib.hid (HXb2.out.bel hb)
  replace HXb3 : Hid (EfAt V17 b3 e0) := Lib.hid (HXb3.out.bel hb)
  replace HXb4 : Hid (HAt V17 b4 h7) := Lib.hid (HXb4.out.bel hb)
  replace HXb5 : Hid (EfAt V17 b5 ⟨2, 0, 8, 3, 0⟩) := Lib.hid (HXb5.out.bel hb)
  replace HXb6 : Hid (HAt V17 b6 h8) := Lib.hid (HXb6.out.bel hb)
  clear hb
  try simp only [Act.put, la, lz, ls]
  refine wpList_one rfl (w' := V17) (v := .tuple #[hv h5, .agg (eC eBad)]) rfl ?_
  try simp only [Act.put, la, lz, ls]
  refine wpList_one rfl (w' := V17) (v := hv h5) rfl ?_
  try simp only [Act.put, la, lz, ls]
  refine wpList_one rfl (w' := V17) (v := .agg (eC eBad)) rfl ?_
  try simp only [Act.put, la, lz, ls]
  obtain ⟨hb, hx⟩ := box1 V17 hZ 28
  refine wpList_one rfl (w' := V17.alloc (.cells hZ 28)) (v := .pointer (some ⟨V17.heap.size, 0, none⟩)) (by kernel_rfl) ?_
  try simp only [Act.put, la, lz, ls]
  have hl := lt_of_heap HXb6.out
  generalize V17.alloc (.cells hZ 28) = V18 at hb hx ⊢
  generalize V17.heap.size = b7 at hx hl ⊢
  have HG6 := Lib.hid hl
  clear hl
  replace HB : Hid (Bel w V18) := Lib.hid (HB.out.trans hb)
  replace HXb1 : Hid (HAt V18 b1 h5) := Lib.hid (HXb1.out.bel hb)
  replace HXb2 : Hid (HAt V18 b2 h6) := Lib.hid (HXb2.out.bel hb)
  replace HXb3 : Hid (EfAt V18 b3 e0) := Lib.hid (HXb3.out.bel hb)
  replace HXb4 : Hid (HAt V18 b4 h7) := Lib.hid (HXb4.out.bel hb)
  replace HXb5 : Hid (EfAt V18 b5 ⟨2, 0, 8, 3, 0⟩) := Lib.hid (HXb5.out.bel hb)
  replace HXb6 : Hid (HAt V18 b6 h8) := Lib.hid (HXb6.out.bel hb)
  have HXb7 : Hid (HAt V18 b7 (fun _ => 0)) := Lib.hid hx
  clear hb hx
  try simp only [Act.put, la, lz, ls]
  obtain ⟨hb, hx⟩ := box1 V18 (eC e0) 34
  refine wpList_one rfl (w' := V18.alloc (.cells (eC e0) 34)) (v := .pointer (some ⟨V18.heap.size, 0, none⟩)) (by kernel_rfl) ?_
  try simp only [Act.put, la, lz, ls]
  have hl := lt_of_heap HXb7.out
  generalize V18.alloc (.cells (eC e0) 34) = V19 at hb hx ⊢
  generalize V18.heap.size = b8 at hx hl ⊢
  have HG7 := Lib.hid hl
  clear hl
  replace HB : Hid (Bel w V19) := Lib.hid (HB.out.trans hb)
  replace HXb1 : Hid (HAt V19 b1 h5) := Lib.hid (HXb1.out.bel hb)
  replace HXb2 : Hid (HAt V19 b2 h6) := Lib.hid (HXb2.out.bel hb)
  replace HXb3 : Hid (EfAt V19 b3 e0) := Lib.hid (HXb3.out.bel hb)
  replace HXb4 : Hid (HAt V19 b4 h7) := Lib.hid (HXb4.out.bel hb)
  replace HXb5 : Hid (EfAt V19 b5 ⟨2, 0, 8, 3, 0⟩) := Lib.hid (HXb5.out.bel hb)
  replace HXb6 : Hid (HAt V19 b6 h8) := Lib.hid (HXb6.out.bel hb)
  replace HXb7 : Hid (HAt V19 b7 (fun _ => 0)) := Lib.hid (HXb7.out.bel hb)
  have HXb8 : Hid (EfAt V19 b8 e0) := Lib.hid hx
  clear hb hx
  try simp only [Act.put, la, lz, ls]
  refine wpList_store_row rfl 28 (.tmp 7) (.tmp 29) rfl b7 (hC h5) rfl rfl 28 (hC (fun _ => 0)) HXb7.out (sz_hart _) (by rw [hC_size, hC_size]) (hC_ones _) ?_
  have hn := row_same (cs := (hC h5)) HXb7.out
  have hb := row_bel HB.out (g := b7) (by have := HG.out; have := HG1.out; have := HG2.out; have := HG3.out; have := HG4.out; have := HG5.out; have := HG6.out; have := HG7.out; omega) (hC h5)
  have hb1 := (setRow_other V19 b7 b1 (hC h5) (by have := HG.out; have := HG1.out; have := HG2.out; have := HG3.out; have := HG4.out; have := HG5.out; have := HG6.out; have := HG7.out; omega)).trans HXb1.out
  have hb2 := (setRow_other V19 b7 b2 (hC h5) (by have := HG.out; have := HG1.out; have := HG2.out; have := HG3.out; have := HG4.out; have := HG5.out; have := HG6.out; have := HG7.out; omega)).trans HXb2.out
  have hb3 := (setRow_other V19 b7 b3 (hC h5) (by have := HG.out; have := HG1.out; have := HG2.out; have := HG3.out; have := HG4.out; have := HG5.out; have := HG6.out; have := HG7.out; omega)).trans HXb3.out
  have hb4 := (setRow_other V19 b7 b4 (hC h5) (by have := HG.out; have := HG1.out; have := HG2.out; have := HG3.out; have := HG4.out; have := HG5.out; have := HG6.out; have := HG7.out; omega)).trans HXb4.out
  have hb5 := (setRow_other V19 b7 b5 (hC h5) (by have := HG.out; have := HG1.out; have := HG2.out; have := HG3.out; have := HG4.out; have := HG5.out; have := HG6.out; have := HG7.out; omega)).trans HXb5.out
  have hb6 := (setRow_other V19 b7 b6 (hC h5) (by have := HG.out; have := HG1.out; have := HG2.out; have := HG3.out; have := HG4.out; have := HG5.out; have := HG6.out; have := HG7.out; omega)).trans HXb6.out
  have hb8 := (setRow_other V19 b7 b8 (hC h5) (by have := HG.out; have := HG1.out; have := HG2.out; have := HG3.out; have := HG4.out; have := HG5.out; have := HG6.out; have := HG7.out; omega)).trans HXb8.out
  generalize V19.setRow b7 (hC h5) = V20 at hn hb hb1 hb2 hb3 hb4 hb5 hb6 hb8 ⊢
  clear HB HXb1 HXb2 HXb3 HXb4 HXb5 HXb6 HXb7 HXb8
  have HB : Hid (Bel w V20) := Lib.hid hb
  have HXb1 : Hid (HAt V20 b1 h5) := Lib.hid hb1
  have HXb2 : Hid (HAt V20 b2 h6) := Lib.hid hb2
  have HXb3 : Hid (EfAt V20 b3 e0) := Lib.hid hb3
  have HXb4 : Hid (HAt V20 b4 h7) := Lib.hid hb4
  have HXb5 : Hid (EfAt V20 b5 ⟨2, 0, 8, 3, 0⟩) := Lib.hid hb5
  have HXb6 : Hid (HAt V20 b6 h8) := Lib.hid hb6
  have HXb8 : Hid (EfAt V20 b8 e0) := Lib.hid hb8
  have HXb7 : Hid (HAt V20 b7 h5) := Lib.hid hn
  clear hn hb hb1 hb2 hb3 hb4 hb5 hb6 hb8
  try simp only [Act.put, la, lz, ls]
  refine wpList_store_row rfl 34 (.tmp 8) (.tmp 30) rfl b8 (eC eBad) rfl rfl 34 (eC e0) HXb8.out (sz_eff _) rfl (eC_ones _) ?_
  have hn := row_same (cs := (eC eBad)) HXb8.out
  have hb := row_bel HB.out (g := b8) (by have := HG.out; have := HG1.out; have := HG2.out; have := HG3.out; have := HG4.out; have := HG5.out; have := HG6.out; have := HG7.out; omega) (eC eBad)
  have hb1 := (setRow_other V20 b8 b1 (eC eBad) (by have := HG.out; have := HG1.out; have := HG2.out; have := HG3.out; have := HG4.out; have := HG5.out; have := HG6.out; have := HG7.out; omega)).trans HXb1.out
  have hb2 := (setRow_other V20 b8 b2 (eC eBad) (by have := HG.out; have := HG1.out; have := HG2.out; have := HG3.out; have := HG4.out; have := HG5.out; have := HG6.out; have := HG7.out; omega)).trans HXb2.out
  have hb3 := (setRow_other V20 b8 b3 (eC eBad) (by have := HG.out; have := HG1.out; have := HG2.out; have := HG3.out; have := HG4.out; have := HG5.out; have := HG6.out; have := HG7.out; omega)).trans HXb3.out
  have hb4 := (setRow_other V20 b8 b4 (eC eBad) (by have := HG.out; have := HG1.out; have := HG2.out; have := HG3.out; have := HG4.out; have := HG5.out; have := HG6.out; have := HG7.out; omega)).trans HXb4.out
  have hb5 := (setRow_other V20 b8 b5 (eC eBad) (by have := HG.out; have := HG1.out; have := HG2.out; have := HG3.out; have := HG4.out; have := HG5.out; have := HG6.out; have := HG7.out; omega)).trans HXb5.out
  have hb6 := (setRow_other V20 b8 b6 (eC eBad) (by have := HG.out; have := HG1.out; have := HG2.out; have := HG3.out; have := HG4.out; have := HG5.out; have := HG6.out; have := HG7.out; omega)).trans HXb6.out
  have hb7 := (setRow_other V20 b8 b7 (eC eBad) (by have := HG.out; have := HG1.out; have := HG2.out; have := HG3.out; have := HG4.out; have := HG5.out; have := HG6.out; have := HG7.out; omega)).trans HXb7.out
  generalize V20.setRow b8 (eC eBad) = V21 at hn hb hb1 hb2 hb3 hb4 hb5 hb6 hb7 ⊢
  clear HB HXb1 HXb2 HXb3 HXb4 HXb5 HXb6 HXb7 HXb8
  have HB : Hid (Bel w V21) := Lib.hid hb
  have HXb1 : Hid (HAt V21 b1 h5) := Lib.hid hb1
  have HXb2 : Hid (HAt V21 b2 h6) := Lib.hid hb2
  have HXb3 : Hid (EfAt V21 b3 e0) := Lib.hid hb3
  have HXb4 : Hid (HAt V21 b4 h7) := Lib.hid hb4
  have HXb5 : Hid (EfAt V21 b5 ⟨2, 0, 8, 3, 0⟩) := Lib.hid hb5
  have HXb6 : Hid (HAt V21 b6 h8) := Lib.hid hb6
  have HXb7 : Hid (HAt V21 b7 h5) := Lib.hid hb7
  have HXb8 : Hid (EfAt V21 b8 eBad) := Lib.hid hn
  clear hn hb hb1 hb2 hb3 hb4 hb5 hb6 hb7
  try simp only [Act.put, la, lz, ls]
  refine wpList_nil ?_
  refine hK _ _ ?_
  clear hK K
  go_upto_region 6 with (fail)
  rename_i K hK
  refine wp_region_list ?_
  refine wpList_oneW (by kernel_rfl) (w' := V21) (v := .pointer (some ⟨b2, 0, none⟩)) (by kernel_rfl) ?_
  try simp only [Act.put, la, lz, ls]
  refine wpList_oneW (by kernel_rfl) (w' := V21) (v := .pointer (some ⟨b2, 6, none⟩)) (exec_reg rfl b2 6 (by decide) rfl rfl _) ?_
  try simp only [Act.put, la, lz, ls]
  refine wpList_oneW (by kernel_rfl) (w' := V21) (v := .int .i64 (h6 6)) (exec_cell 3 (.tmp 32) rfl ⟨b2, 6, none⟩ rfl _ _ (HXb2.out.cell (j := 6) (by omega)) Tryd.underlying3 rfl) ?_
  try simp only [Act.put, la, lz, ls]
  refine wpList_oneW (by kernel_rfl) (w' := V21) (v := .bool true) (exec_eqI rfl rfl rfl (C1.out) V21) ?_
  try simp only [Act.put, la, lz, ls]
  refine wpList_oneW (by kernel_rfl) (w' := V21) (v := .bool true) rfl ?_
  try simp only [Act.put, la, lz, ls]
  refine wpList_oneW (by kernel_rfl) (w' := V21) (v := .pointer (some ⟨b2, 32, none⟩)) (by kernel_rfl) ?_
  try simp only [Act.put, la, lz, ls]
  refine wpList_oneW (by kernel_rfl) (w' := V21) (v := .int .i64 (h6 32)) (exec_cell 3 (.tmp 36) rfl ⟨b2, 32, none⟩ rfl _ _ (HXb2.out.cell (j := 32) (by omega)) Tryd.underlying3 rfl) ?_
  try simp only [Act.put, la, lz, ls]
  refine wpList_oneW (by kernel_rfl) (w' := V21) (v := .bool true) (exec_eqI rfl rfl rfl (C2.out) V21) ?_
  try simp only [Act.put, la, lz, ls]
  refine wpList_oneW (by kernel_rfl) (w' := V21) (v := .bool true) (by kernel_rfl) ?_
  try simp only [Act.put, la, lz, ls]
  refine wpList_oneW (by kernel_rfl) (w' := V21) (v := .bool true) rfl ?_
  try simp only [Act.put, la, lz, ls]
  refine wpList_oneW (by kernel_rfl) (w' := V21) (v := .agg (eC e0)) (exec_row 34 (.tmp 3) rfl b3 rfl 34 (eC e0) (0, 0) _ HXb3.out Tryd.underlying34 rfl (sz_eff _)) ?_
  try simp only [Act.put, la, lz, ls]
  refine wpList_oneW (by kernel_rfl) (w' := V21) (v := .agg (eC e0)) (by kernel_rfl) ?_
  try simp only [Act.put, la, lz, ls]
  refine wpList_oneW (by kernel_rfl) (w' := V21) (v := .bool true) (exec_eqE rfl rfl rfl (rfl) V21) ?_
  try simp only [Act.put, la, lz, ls]
  refine wpList_oneW (by kernel_rfl) (w' := V21) (v := .bool true) (by kernel_rfl) ?_
  try simp only [Act.put, la, lz, ls]
  refine wpList_oneW (by kernel_rfl) (w' := V21) (v := .bool true) rfl ?_
  try simp only [Act.put, la, lz, ls]
  refine wpList_oneW (by kernel_rfl) (w' := V21) (v := .pointer (some ⟨b4, 32, none⟩)) (by kernel_rfl) ?_
  try simp only [Act.put, la, lz, ls]
  refine wpList_oneW (by kernel_rfl) (w' := V21) (v := .int .i64 (h7 32)) (exec_cell 3 (.tmp 46) rfl ⟨b4, 32, none⟩ rfl _ _ (HXb4.out.cell (j := 32) (by omega)) Tryd.underlying3 rfl) ?_
  try simp only [Act.put, la, lz, ls]
  refine wpList_oneW (by kernel_rfl) (w' := V21) (v := .bool true) (exec_eqI rfl rfl rfl (C3.out) V21) ?_
  try simp only [Act.put, la, lz, ls]
  refine wpList_oneW (by kernel_rfl) (w' := V21) (v := .bool true) (by kernel_rfl) ?_
  try simp only [Act.put, la, lz, ls]
  refine wpList_oneW (by kernel_rfl) (w' := V21) (v := .bool true) rfl ?_
  try simp only [Act.put, la, lz, ls]
  refine wpList_oneW (by kernel_rfl) (w' := V21) (v := .agg (eC ⟨2, 0, 8, 3, 0⟩)) (exec_row 34 (.tmp 5) rfl b5 rfl 34 (eC ⟨2, 0, 8, 3, 0⟩) (0, 0) _ HXb5.out Tryd.underlying34 rfl (sz_eff _)) ?_
  try simp only [Act.put, la, lz, ls]
  refine wpList_oneW (by kernel_rfl) (w' := V21) (v := .agg (eC ⟨2, 0, 8, 3, 0⟩)) (by kernel_rfl) ?_
  try simp only [Act.put, la, lz, ls]
  refine wpList_oneW (by kernel_rfl) (w' := V21) (v := .bool true) (exec_eqE rfl rfl rfl (rfl) V21) ?_
  try simp only [Act.put, la, lz, ls]
  refine wpList_oneW (by kernel_rfl) (w' := V21) (v := .bool true) (by kernel_rfl) ?_
  try simp only [Act.put, la, lz, ls]
  refine wpList_oneW (by kernel_rfl) (w' := V21) (v := .bool true) rfl ?_
  try simp only [Act.put, la, lz, ls]
  refine wpList_oneW (by kernel_rfl) (w' := V21) (v := .pointer (some ⟨b6, 32, none⟩)) (by kernel_rfl) ?_
  try simp only [Act.put, la, lz, ls]
  refine wpList_oneW (by kernel_rfl) (w' := V21) (v := .int .i64 (h8 32)) (exec_cell 3 (.tmp 56) rfl ⟨b6, 32, none⟩ rfl _ _ (HXb6.out.cell (j := 32) (by omega)) Tryd.underlying3 rfl) ?_
  try simp only [Act.put, la, lz, ls]
  refine wpList_oneW (by kernel_rfl) (w' := V21) (v := .bool true) (exec_eqI rfl rfl rfl (C4.out) V21) ?_
  try simp only [Act.put, la, lz, ls]
  refine wpList_oneW (by kernel_rfl) (w' := V21) (v := .bool true) (by kernel_rfl) ?_
  try simp only [Act.put, la, lz, ls]
  refine wpList_oneW (by kernel_rfl) (w' := V21) (v := .bool true) rfl ?_
  try simp only [Act.put, la, lz, ls]
  refine wpList_oneW (by kernel_rfl) (w' := V21) (v := .pointer (some ⟨b6, 36, none⟩)) (by kernel_rfl) ?_
  try simp only [Act.put, la, lz, ls]
  refine wpList_oneW (by kernel_rfl) (w' := V21) (v := .int .i64 (h8 36)) (exec_cell 3 (.tmp 61) rfl ⟨b6, 36, none⟩ rfl _ _ (HXb6.out.cell (j := 36) (by omega)) Tryd.underlying3 rfl) ?_
  try simp only [Act.put, la, lz, ls]
  refine wpList_oneW (by kernel_rfl) (w' := V21) (v := .bool true) (exec_eqI rfl rfl rfl (C5.out) V21) ?_
  try simp only [Act.put, la, lz, ls]
  refine wpList_oneW (by kernel_rfl) (w' := V21) (v := .bool true) (by kernel_rfl) ?_
  try simp only [Act.put, la, lz, ls]
  refine wpList_oneW (by kernel_rfl) (w' := V21) (v := .bool true) rfl ?_
  try simp only [Act.put, la, lz, ls]
  refine wpList_oneW (by kernel_rfl) (w' := V21) (v := .pointer (some ⟨b6, 37, none⟩)) (by kernel_rfl) ?_
  try simp only [Act.put, la, lz, ls]
  refine wpList_oneW (by kernel_rfl) (w' := V21) (v := .int .i64 (h8 37)) (exec_cell 3 (.tmp 66) rfl ⟨b6, 37, none⟩ rfl _ _ (HXb6.out.cell (j := 37) (by omega)) Tryd.underlying3 rfl) ?_
  try simp only [Act.put, la, lz, ls]
  refine wpList_oneW (by kernel_rfl) (w' := V21) (v := .bool true) (exec_eqI rfl rfl rfl (C6.out) V21) ?_
  try simp only [Act.put, la, lz, ls]
  refine wpList_oneW (by kernel_rfl) (w' := V21) (v := .bool true) (by kernel_rfl) ?_
  try simp only [Act.put, la, lz, ls]
  refine wpList_oneW (by kernel_rfl) (w' := V21) (v := .bool true) rfl ?_
  try simp only [Act.put, la, lz, ls]
  refine wpList_oneW (by kernel_rfl) (w' := V21) (v := .pointer (some ⟨b6, 33, none⟩)) (by kernel_rfl) ?_
  try simp only [Act.put, la, lz, ls]
  refine wpList_oneW (by kernel_rfl) (w' := V21) (v := .int .i64 (h8 33)) (exec_cell 3 (.tmp 71) rfl ⟨b6, 33, none⟩ rfl _ _ (HXb6.out.cell (j := 33) (by omega)) Tryd.underlying3 rfl) ?_
  try simp only [Act.put, la, lz, ls]
  refine wpList_oneW (by kernel_rfl) (w' := V21) (v := .bool true) (exec_eqI rfl rfl rfl (C7.out) V21) ?_
  try simp only [Act.put, la, lz, ls]
  refine wpList_oneW (by kernel_rfl) (w' := V21) (v := .bool true) (by kernel_rfl) ?_
  try simp only [Act.put, la, lz, ls]
  refine wpList_oneW (by kernel_rfl) (w' := V21) (v := .bool true) rfl ?_
  try simp only [Act.put, la, lz, ls]
  refine wpList_oneW (by kernel_rfl) (w' := V21) (v := .pointer (some ⟨b8, 0, none⟩)) (by kernel_rfl) ?_
  try simp only [Act.put, la, lz, ls]
  refine wpList_oneW (by kernel_rfl) (w' := V21) (v := .int .i64 eBad.kind) (exec_cell 3 (.tmp 76) rfl ⟨b8, 0, none⟩ rfl _ _ (cell_of_heap HXb8.out 0) Tryd.underlying3 rfl) ?_
  try simp only [Act.put, la, lz, ls]
  refine wpList_oneW (by kernel_rfl) (w' := V21) (v := .bool true) (exec_eqI rfl rfl rfl (rfl) V21) ?_
  try simp only [Act.put, la, lz, ls]
  refine wpList_oneW (by kernel_rfl) (w' := V21) (v := .bool true) (by kernel_rfl) ?_
  try simp only [Act.put, la, lz, ls]
  refine wpList_oneW (by kernel_rfl) (w' := V21) (v := .bool true) rfl ?_
  try simp only [Act.put, la, lz, ls]
  refine wpList_oneW (by kernel_rfl) (w' := V21) (v := hv (up (up (fun _ => 0) 33 8) 38 3)) (by kernel_rfl) ?_
  try simp only [Act.put, la, lz, ls]
  refine wpList_callW (by kernel_rfl) (f := 22) (args := #[hv (up (up (fun _ => 0) 33 8) 38 3), .int .i64 4]) (v := .bool true) (by kernel_rfl) (lets_lit D1.out _) ?_
  intro V22 hb
  try simp only [Act.put, la, lz, ls]
  replace HB : Hid (Bel w V22) := Lib.hid (HB.out.trans hb)
  replace HXb1 : Hid (HAt V22 b1 h5) := Lib.hid (HXb1.out.bel hb)
  replace HXb2 : Hid (HAt V22 b2 h6) := Lib.hid (HXb2.out.bel hb)
  replace HXb3 : Hid (EfAt V22 b3 e0) := Lib.hid (HXb3.out.bel hb)
  replace HXb4 : Hid (HAt V22 b4 h7) := Lib.hid (HXb4.out.bel hb)
  replace HXb5 : Hid (EfAt V22 b5 ⟨2, 0, 8, 3, 0⟩) := Lib.hid (HXb5.out.bel hb)
  replace HXb6 : Hid (HAt V22 b6 h8) := Lib.hid (HXb6.out.bel hb)
  replace HXb7 : Hid (HAt V22 b7 h5) := Lib.hid (HXb7.out.bel hb)
  replace HXb8 : Hid (EfAt V22 b8 eBad) := Lib.hid (HXb8.out.bel hb)
  clear hb
  refine wpList_oneW (by kernel_rfl) (w' := V22) (v := .bool true) (by kernel_rfl) ?_
  try simp only [Act.put, la, lz, ls]
  refine wpList_oneW (by kernel_rfl) (w' := V22) (v := .bool true) rfl ?_
  try simp only [Act.put, la, lz, ls]
  refine wpList_oneW (by kernel_rfl) (w' := V22) (v := hv h8) (exec_row 28 (.tmp 6) rfl b6 rfl 28 (hC h8) (0, 0) _ HXb6.out Tryd.underlying28 rfl (sz_hart _)) ?_
  try simp only [Act.put, la, lz, ls]
  refine wpList_callW (by kernel_rfl) (f := 22) (args := #[hv h8, .int .i64 9]) (v := .bool false) (by kernel_rfl) (lets_lit D2.out _) ?_
  intro V23 hb
  try simp only [Act.put, la, lz, ls]
  replace HB : Hid (Bel w V23) := Lib.hid (HB.out.trans hb)
  replace HXb1 : Hid (HAt V23 b1 h5) := Lib.hid (HXb1.out.bel hb)
  replace HXb2 : Hid (HAt V23 b2 h6) := Lib.hid (HXb2.out.bel hb)
  replace HXb3 : Hid (EfAt V23 b3 e0) := Lib.hid (HXb3.out.bel hb)
  replace HXb4 : Hid (HAt V23 b4 h7) := Lib.hid (HXb4.out.bel hb)
  replace HXb5 : Hid (EfAt V23 b5 ⟨2, 0, 8, 3, 0⟩) := Lib.hid (HXb5.out.bel hb)
  replace HXb6 : Hid (HAt V23 b6 h8) := Lib.hid (HXb6.out.bel hb)
  replace HXb7 : Hid (HAt V23 b7 h5) := Lib.hid (HXb7.out.bel hb)
  replace HXb8 : Hid (EfAt V23 b8 eBad) := Lib.hid (HXb8.out.bel hb)
  clear hb
  refine wpList_oneW (by kernel_rfl) (w' := V23) (v := .bool true) (exec_not (b := false) rfl rfl V23) ?_
  try simp only [Act.put, la, lz, ls]
  refine wpList_oneW (by kernel_rfl) (w' := V23) (v := .bool true) (by kernel_rfl) ?_
  try simp only [Act.put, la, lz, ls]
  refine wpList_oneW (by kernel_rfl) (w' := V23) (v := .bool true) rfl ?_
  try simp only [Act.put, la, lz, ls]
  refine wpList_nil ?_
  refine hK _ _ ?_
  clear hK K
  go_wp2
  go_ret
  exact ⟨rfl, HB.out⟩
end Go.Proofs.YtgcgdjmlngfpeaaDoor
