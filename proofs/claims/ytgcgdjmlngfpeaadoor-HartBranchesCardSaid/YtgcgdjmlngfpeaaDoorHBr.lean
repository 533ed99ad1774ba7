/- HartBranches: a branch goes just where its opposite does not. -/
import Derived.Test.YtgcgdjmlngfpeaaDoorHDraw2
namespace Go.Proofs.YtgcgdjmlngfpeaaDoor
open Go.RowKit Ht
set_option linter.unusedVariables false
set_option linter.unusedSimpArgs false
set_option maxRecDepth 100000
set_option maxHeartbeats 16000000
theorem branches_yes (w : World) {P : Option Addr} {N C : Nat} {l : List Int} {c1 c2 c3 c4 p4 q4 far o o2 m1 m2 : Int} {h g i : H} {k X Y : Nat} (lk : k < 6) (lX : X < 32) (lY : Y < 32) (HO : Hid (OpsAt w)) (HN : Hid (l.length = N)) (HL : Hid (IntsQ w P l)) (HNC : Hid (N ≤ C)) (HH : Hid (fitV l = h))
    (I1 : Hid (inInt c1)) (I2 : Hid (inInt c2)) (I3 : Hid (inInt c3)) (I4 : Hid (inInt c4)) (R1 : Hid (Plain.pick c1 6 = (k : Int))) (R2 : Hid (Plain.pick c2 32 = (X : Int))) (R3 : Hid (Plain.pick c3 32 = (Y : Int))) (R4 : Hid (Plain.pick c4 500 = p4))
    (A1 : Hid (IntKind.i64.wrap (4 * p4) = q4)) (A2 : Hid (IntKind.i64.wrap (8 + q4) = far)) (A3 : Hid (IntKind.i64.wrap (5 + (k : Int)) = o)) (HS : Hid ((#[.int .i64 6, .int .i64 5, .int .i64 8, .int .i64 7, .int .i64 10, .int .i64 9] : Array Value)[k]? = some (.int .i64 o2)))
    (Z0 : Hid (i64 0)) (Wo : Hid (i64 o)) (Wo2 : Hid (i64 o2)) (WX : Hid (i64 (X : Int))) (WY : Hid (i64 (Y : Int))) (WF : Hid (i64 far)) (S1 : Hid (stepV h 0 ⟨o, 0, X, Y, far⟩ = (g, e0))) (S2 : Hid (stepV h 0 ⟨o2, 0, X, Y, far⟩ = (i, e0)))
    (M1 : Hid (wrap32 (h 32 + far) = m1)) (M2 : Hid (wrap32 (h 32 + 4) = m2)) (C1 : Hid (g 32 = m1)) (C2 : Hid (i 32 = m2)) (C3 : Hid (∀ k, k < 32 → g k = h k))  :
    Calls Tryd.prog 8 #[.slice P N C, .int .i64 c1, .int .i64 c2, .int .i64 c3, .int .i64 c4] w (OneV (.bool true) w) := by
  go_enter Tryd.func8, Tryd.ntmps8
  have HB : Hid (Bel w w) := Lib.hid (Bel.refl w)
  go_upto_region 1 with (fail)
  rename_i K hK
  refine wp_region_list ?_
  refine wpList_call rfl (f := 12) (args := #[]) (v := .bool true) (by kernel_rfl) (awake_any (HO.out.bel HB.out)) ?_
  intro V1 hb
  replace HB : Hid (Bel w V1) := Lib.hid (HB.out.trans hb)
  clear hb
  try simp only [Act.put, List.setIfInBounds_toArray, List.set_cons_zero, List.set_cons_succ]
  refine wpList_one rfl (w' := V1) (v := .bool true) rfl ?_
  try simp only [Act.put, List.setIfInBounds_toArray, List.set_cons_zero, List.set_cons_succ]
  refine wpList_nil ?_
  refine hK _ _ ?_
  clear hK K
  go_upto_region 2 with (fail)
  rename_i K hK
  refine wp_region_list ?_
  refine wpList_one rfl (w' := V1) (v := .slice P N C) rfl ?_
  try simp only [Act.put, List.setIfInBounds_toArray, List.set_cons_zero, List.set_cons_succ]
  refine wpList_call rfl (f := 13) (args := #[.slice P N C]) (v := hv h) (by kernel_rfl) (fit_lit14 HH.out HN.out (HL.out.bel HB.out) HNC.out) ?_
  intro V2 hb
  replace HB : Hid (Bel w V2) := Lib.hid (HB.out.trans hb)
  clear hb
  try simp only [Act.put, List.setIfInBounds_toArray, List.set_cons_zero, List.set_cons_succ]
  obtain ⟨hb, hx⟩ := box1 V2 hZ 28
  refine wpList_one rfl (w' := V2.alloc (.cells hZ 28)) (v := .pointer (some ⟨V2.heap.size, 0, none⟩)) (by kernel_rfl) ?_
  try simp only [Act.put, List.setIfInBounds_toArray, List.set_cons_zero, List.set_cons_succ]
  have hl := HB.out.size
  generalize V2.alloc (.cells hZ 28) = V3 at hb hx ⊢
  generalize V2.heap.size = b12 at hx hl ⊢
  have HG := Lib.hid hl
  clear hl
  replace HB : Hid (Bel w V3) := Lib.hid (HB.out.trans hb)
  have HXb12 : Hid (HAt V3 b12 (fun _ => 0)) := Lib.hid hx
  clear hb hx
  try simp only [Act.put, List.setIfInBounds_toArray, List.set_cons_zero, List.set_cons_succ]
  refine wpList_store_row rfl 28 (.tmp 12) (.tmp 25) rfl b12 (hC h) rfl rfl 28 (hC (fun _ => 0)) HXb12.out (sz_hart _) (by rw [hC_size, hC_size]) (hC_ones _) ?_
  have hn := row_same (cs := (hC h)) HXb12.out
  have hb := row_bel HB.out (g := b12) (by have := HG.out; omega) (hC h)
  generalize V3.setRow b12 (hC h) = V4 at hn hb  ⊢
  clear HB HXb12
  have HB : Hid (Bel w V4) := Lib.hid hb
  have HXb12 : Hid (HAt V4 b12 h) := Lib.hid hn
  clear hn hb 
  try simp only [Act.put, List.setIfInBounds_toArray, List.set_cons_zero, List.set_cons_succ]
  refine wpList_nil ?_
  refine hK _ _ ?_
  clear hK K
  go_upto_region 3 with (fail)
  rename_i K hK
  refine wp_region_list ?_
  refine wpList_one rfl (w' := V4) (v := .int .i64 c1) rfl ?_
  try simp only [Act.put, List.setIfInBounds_toArray, List.set_cons_zero, List.set_cons_succ]
  refine wpList_call rfl (f := 15) (args := #[.int .i64 c1, .int .i64 6]) (v := .int .i64 (k : Int)) (by kernel_rfl) (pk I1.out (by decide) R1.out _) ?_
  intro V5 hb
  replace HB : Hid (Bel w V5) := Lib.hid (HB.out.trans hb)
  replace HXb12 : Hid (HAt V5 b12 h) := Lib.hid (HXb12.out.bel hb)
  clear hb
  try simp only [Act.put, List.setIfInBounds_toArray, List.set_cons_zero, List.set_cons_succ]
  refine wpList_one rfl (w' := V5) (v := .int .i64 (k : Int)) rfl ?_
  try simp only [Act.put, List.setIfInBounds_toArray, List.set_cons_zero, List.set_cons_succ]
  refine wpList_nil ?_
  refine hK _ _ ?_
  clear hK K
  go_upto_region 4 with (fail)
  rename_i K hK
  refine wp_region_list ?_
  refine wpList_one rfl (w' := V5) (v := .int .i64 c4) rfl ?_
  try simp only [Act.put, List.setIfInBounds_toArray, List.set_cons_zero, List.set_cons_succ]
  refine wpList_call rfl (f := 15) (args := #[.int .i64 c4, .int .i64 500]) (v := .int .i64 p4) (by kernel_rfl) (pk I4.out (by decide) R4.out _) ?_
  intro V6 hb
  replace HB : Hid (Bel w V6) := Lib.hid (HB.out.trans hb)
  replace HXb12 : Hid (HAt V6 b12 h) := Lib.hid (HXb12.out.bel hb)
  clear hb
  try simp only [Act.put, List.setIfInBounds_toArray, List.set_cons_zero, List.set_cons_succ]
  refine wpList_one rfl (w' := V6) (v := .int .i64 q4) (exec_mul rfl rfl rfl A1.out _) ?_
  try simp only [Act.put, List.setIfInBounds_toArray, List.set_cons_zero, List.set_cons_succ]
  refine wpList_one rfl (w' := V6) (v := .int .i64 far) (exec_add rfl rfl rfl A2.out _) ?_
  try simp only [Act.put, List.setIfInBounds_toArray, List.set_cons_zero, List.set_cons_succ]
  refine wpList_one rfl (w' := V6) (v := .int .i64 far) rfl ?_
  try simp only [Act.put, List.setIfInBounds_toArray, List.set_cons_zero, List.set_cons_succ]
  refine wpList_nil ?_
  refine hK _ _ ?_
  clear hK K
  go_upto_region 5 with (fail)
  rename_i K hK
  refine wp_region_list ?_
  refine wpList_one rfl (w' := V6) (v := .int .i64 (k : Int)) rfl ?_
  try simp only [Act.put, List.setIfInBounds_toArray, List.set_cons_zero, List.set_cons_succ]
  refine wpList_one rfl (w' := V6) (v := .int .i64 o) (exec_add rfl rfl rfl A3.out _) ?_
  try simp only [Act.put, List.setIfInBounds_toArray, List.set_cons_zero, List.set_cons_succ]
  refine wpList_one rfl (w' := V6) (v := .int .i64 c2) rfl ?_
  try simp only [Act.put, List.setIfInBounds_toArray, List.set_cons_zero, List.set_cons_succ]
  refine wpList_call rfl (f := 15) (args := #[.int .i64 c2, .int .i64 32]) (v := .int .i64 (X : Int)) (by kernel_rfl) (pk I2.out (by decide) R2.out _) ?_
  intro V7 hb
  replace HB : Hid (Bel w V7) := Lib.hid (HB.out.trans hb)
  replace HXb12 : Hid (HAt V7 b12 h) := Lib.hid (HXb12.out.bel hb)
  clear hb
  try simp only [Act.put, List.setIfInBounds_toArray, List.set_cons_zero, List.set_cons_succ]
  refine wpList_one rfl (w' := V7) (v := .int .i64 c3) rfl ?_
  try simp only [Act.put, List.setIfInBounds_toArray, List.set_cons_zero, List.set_cons_succ]
  refine wpList_call rfl (f := 15) (args := #[.int .i64 c3, .int .i64 32]) (v := .int .i64 (Y : Int)) (by kernel_rfl) (pk I3.out (by decide) R3.out _) ?_
  intro V8 hb
  replace HB : Hid (Bel w V8) := Lib.hid (HB.out.trans hb)
  replace HXb12 : Hid (HAt V8 b12 h) := Lib.hid (HXb12.out.bel hb)
  clear hb
  try simp only [Act.put, List.setIfInBounds_toArray, List.set_cons_zero, List.set_cons_succ]
  refine wpList_one rfl (w' := V8) (v := .int .i64 far) rfl ?_
  try simp only [Act.put, List.setIfInBounds_toArray, List.set_cons_zero, List.set_cons_succ]
  refine wpList_one rfl (w' := V8) (v := iv o 0 (X : Int) (Y : Int) far) (by kernel_rfl) ?_
  try simp only [Act.put, List.setIfInBounds_toArray, List.set_cons_zero, List.set_cons_succ]
  obtain ⟨hb, hx⟩ := box1 V8 (iC 0 0 0 0 0) 24
  refine wpList_one rfl (w' := V8.alloc (.cells (iC 0 0 0 0 0) 24)) (v := .pointer (some ⟨V8.heap.size, 0, none⟩)) (by kernel_rfl) ?_
  try simp only [Act.put, List.setIfInBounds_toArray, List.set_cons_zero, List.set_cons_succ]
  have hl := lt_of_heap HXb12.out
  generalize V8.alloc (.cells (iC 0 0 0 0 0) 24) = V9 at hb hx ⊢
  generalize V8.heap.size = b15 at hx hl ⊢
  have HG1 := Lib.hid hl
  clear hl
  replace HB : Hid (Bel w V9) := Lib.hid (HB.out.trans hb)
  replace HXb12 : Hid (HAt V9 b12 h) := Lib.hid (HXb12.out.bel hb)
  have HXb15 : Hid (InAt V9 b15 0 0 0 0 0) := Lib.hid hx
  clear hb hx
  try simp only [Act.put, List.setIfInBounds_toArray, List.set_cons_zero, List.set_cons_succ]
  refine wpList_store_row rfl 24 (.tmp 15) (.tmp 39) rfl b15 (iC o 0 (X : Int) (Y : Int) far) rfl rfl 24 (iC 0 0 0 0 0) HXb15.out (sz_ins _ _ _ _ _) rfl (by kernel_rfl) ?_
  have hn := row_same (cs := (iC o 0 (X : Int) (Y : Int) far)) HXb15.out
  have hb := row_bel HB.out (g := b15) (by have := HG.out; have := HG1.out; omega) (iC o 0 (X : Int) (Y : Int) far)
  have hb12 := (setRow_other V9 b15 b12 (iC o 0 (X : Int) (Y : Int) far) (by have := HG.out; have := HG1.out; omega)).trans HXb12.out
  generalize V9.setRow b15 (iC o 0 (X : Int) (Y : Int) far) = V10 at hn hb hb12 ⊢
  clear HB HXb12 HXb15
  have HB : Hid (Bel w V10) := Lib.hid hb
  have HXb12 : Hid (HAt V10 b12 h) := Lib.hid hb12
  have HXb15 : Hid (InAt V10 b15 o 0 (X : Int) (Y : Int) far) := Lib.hid hn
  clear hn hb hb12
  try simp only [Act.put, List.setIfInBounds_toArray, List.set_cons_zero, List.set_cons_succ]
  refine wpList_nil ?_
  refine hK _ _ ?_
  clear hK K
  go_upto_region 6 with (fail)
  rename_i K hK
  refine wp_region_list ?_
  refine wpList_load_row rfl 24 (.tmp 15) rfl b15 rfl 24 (iC o 0 (X : Int) (Y : Int) far) (0, 0) _ HXb15.out Tryd.underlying24 rfl (sz_ins _ _ _ _ _) ?_
  try simp only [Act.put, List.setIfInBounds_toArray, List.set_cons_zero, List.set_cons_succ]
  obtain ⟨hb, hx⟩ := box1 V10 (iC 0 0 0 0 0) 24
  refine wpList_one rfl (w' := V10.alloc (.cells (iC 0 0 0 0 0) 24)) (v := .pointer (some ⟨V10.heap.size, 0, none⟩)) (by kernel_rfl) ?_
  try simp only [Act.put, List.setIfInBounds_toArray, List.set_cons_zero, List.set_cons_succ]
  have hl := lt_of_heap HXb15.out
  generalize V10.alloc (.cells (iC 0 0 0 0 0) 24) = V11 at hb hx ⊢
  generalize V10.heap.size = b16 at hx hl ⊢
  have HG2 := Lib.hid hl
  clear hl
  replace HB : Hid (Bel w V11) := Lib.hid (HB.out.trans hb)
  replace HXb12 : Hid (HAt V11 b12 h) := Lib.hid (HXb12.out.bel hb)
  replace HXb15 : Hid (InAt V11 b15 o 0 (X : Int) (Y : Int) far) := Lib.hid (HXb15.out.bel hb)
  have HXb16 : Hid (InAt V11 b16 0 0 0 0 0) := Lib.hid hx
  clear hb hx
  try simp only [Act.put, List.setIfInBounds_toArray, List.set_cons_zero, List.set_cons_succ]
  refine wpList_store_row rfl 24 (.tmp 16) (.tmp 40) rfl b16 (iC o 0 (X : Int) (Y : Int) far) rfl rfl 24 (iC 0 0 0 0 0) HXb16.out (sz_ins _ _ _ _ _) rfl (by kernel_rfl) ?_
  have hn := row_same (cs := (iC o 0 (X : Int) (Y : Int) far)) HXb16.out
  have hb := row_bel HB.out (g := b16) (by have := HG.out; have := HG1.out; have := HG2.out; omega) (iC o 0 (X : Int) (Y : Int) far)
  have hb12 := (setRow_other V11 b16 b12 (iC o 0 (X : Int) (Y : Int) far) (by have := HG.out; have := HG1.out; have := HG2.out; omega)).trans HXb12.out
  have hb15 := (setRow_other V11 b16 b15 (iC o 0 (X : Int) (Y : Int) far) (by have := HG.out; have := HG1.out; have := HG2.out; omega)).trans HXb15.out
  generalize V11.setRow b16 (iC o 0 (X : Int) (Y : Int) far) = V12 at hn hb hb12 hb15 ⊢
  clear HB HXb12 HXb15 HXb16
  have HB : Hid (Bel w V12) := Lib.hid hb
  have HXb12 : Hid (HAt V12 b12 h) := Lib.hid hb12
  have HXb15 : Hid (InAt V12 b15 o 0 (X : Int) (Y : Int) far) := Lib.hid hb15
  have HXb16 : Hid (InAt V12 b16 o 0 (X : Int) (Y : Int) far) := Lib.hid hn
  clear hn hb hb12 hb15
  try simp only [Act.put, List.setIfInBounds_toArray, List.set_cons_zero, List.set_cons_succ]
  refine wpList_nil ?_
  refine hK _ _ ?_
  clear hK K
  go_upto_region 7 with (fail)
  rename_i K hK
  refine wp_region_list ?_
  obtain ⟨hb, hx⟩ := box1 V12 #[.int .i64 6, .int .i64 5, .int .i64 8, .int .i64 7, .int .i64 10, .int .i64 9] 3
  refine wpList_one rfl (w' := V12.alloc (.cells #[.int .i64 6, .int .i64 5, .int .i64 8, .int .i64 7, .int .i64 10, .int .i64 9] 3)) (v := .slice (some ⟨V12.heap.size, 0, none⟩) 6 6) (by kernel_rfl) ?_
  try simp only [Act.put, List.setIfInBounds_toArray, List.set_cons_zero, List.set_cons_succ]
  have hl := lt_of_heap HXb16.out
  generalize V12.alloc (.cells #[.int .i64 6, .int .i64 5, .int .i64 8, .int .i64 7, .int .i64 10, .int .i64 9] 3) = V13 at hb hx ⊢
  generalize V12.heap.size = b41 at hx hl ⊢
  have HG3 := Lib.hid hl
  clear hl
  replace HB : Hid (Bel w V13) := Lib.hid (HB.out.trans hb)
  replace HXb12 : Hid (HAt V13 b12 h) := Lib.hid (HXb12.out.bel hb)
  replace HXb15 : Hid (InAt V13 b15 o 0 (X : Int) (Y : Int) far) := Lib.hid (HXb15.out.bel hb)
  replace HXb16 : Hid (InAt V13 b16 o 0 (X : Int) (Y : Int) far) := Lib.hid (HXb16.out.bel hb)
  have HXb41 : Hid (SlAt V13 b41 #[.int .i64 6, .int .i64 5, .int .i64 8, .int .i64 7, .int .i64 10, .int .i64 9]) := Lib.hid hx
  clear hb hx
  try simp only [Act.put, List.setIfInBounds_toArray, List.set_cons_zero, List.set_cons_succ]
  refine wpList_one rfl (w' := V13) (v := .int .i64 (k : Int)) rfl ?_
  try simp only [Act.put, List.setIfInBounds_toArray, List.set_cons_zero, List.set_cons_succ]
  refine wpList_one rfl (w' := V13) (v := .pointer (some ⟨b41, k, none⟩)) (exec_sl6 rfl b41 k (by omega) rfl rfl _) ?_
  try simp only [Act.put, List.setIfInBounds_toArray, List.set_cons_zero, List.set_cons_succ]
  refine wpList_load_cell rfl 3 (.tmp 43) rfl ⟨b41, k, none⟩ rfl (.int .i64 o2) _ ((HXb41.out.cell k).trans HS.out) Tryd.underlying3 rfl ?_
  try simp only [Act.put, List.setIfInBounds_toArray, List.set_cons_zero, List.set_cons_succ]
  refine wpList_one rfl (w' := V13) (v := .pointer (some ⟨b16, 0, none⟩)) (by kernel_rfl) ?_
  try simp only [Act.put, List.setIfInBounds_toArray, List.set_cons_zero, List.set_cons_succ]
  refine wpList_store_cell rfl 3 (.tmp 45) (.tmp 44) rfl b16 0 rfl (.int .i64 o2) rfl HXb16.out.cells.1 (frozen_of_heap HXb16.out 0) sz_int rfl ?_
  have hn := HXb16.out.set0 (o2)
  have hb := (Svg.set b16 0 V13 (.int .i64 (o2))).bel HB.out (by have := HG.out; have := HG1.out; have := HG2.out; have := HG3.out; omega)
  have hb12 := ((Svg.set b16 0 V13 (.int .i64 (o2))).block b12 (lt_of_heap HXb12.out) (by have := HG.out; have := HG1.out; have := HG2.out; have := HG3.out; omega)).trans HXb12.out
  have hb15 := ((Svg.set b16 0 V13 (.int .i64 (o2))).block b15 (lt_of_heap HXb15.out) (by have := HG.out; have := HG1.out; have := HG2.out; have := HG3.out; omega)).trans HXb15.out
  have hb41 := ((Svg.set b16 0 V13 (.int .i64 (o2))).block b41 (lt_of_heap HXb41.out) (by have := HG.out; have := HG1.out; have := HG2.out; have := HG3.out; omega)).trans HXb41.out
  generalize V13.setCell ⟨b16, 0, none⟩ (.int .i64 (o2)) = V14 at hn hb hb12 hb15 hb41  ⊢
  clear HB HXb12 HXb15 HXb16 HXb41
  have HB : Hid (Bel w V14) := Lib.hid hb
  have HXb12 : Hid (HAt V14 b12 h) := Lib.hid hb12
  have HXb15 : Hid (InAt V14 b15 o 0 (X : Int) (Y : Int) far) := Lib.hid hb15
  have HXb41 : Hid (SlAt V14 b41 #[.int .i64 6, .int .i64 5, .int .i64 8, .int .i64 7, .int .i64 10, .int .i64 9]) := Lib.hid hb41
  have HXb16 : Hid (InAt V14 b16 (o2) 0 (X : Int) (Y : Int) far) := Lib.hid hn
  clear hn hb hb12 hb15 hb41
  try simp only [Act.put, List.setIfInBounds_toArray, List.set_cons_zero, List.set_cons_succ]
  refine wpList_nil ?_
  refine hK _ _ ?_
  clear hK K
  go_upto_region 8 with (fail)
  rename_i K hK
  refine wp_region_list ?_
  refine wpList_load_row rfl 28 (.tmp 12) rfl b12 rfl 28 (hC h) (0, 0) _ HXb12.out Tryd.underlying28 rfl (sz_hart _) ?_
  try simp only [Act.put, List.setIfInBounds_toArray, List.set_cons_zero, List.set_cons_succ]
  refine wpList_load_row rfl 24 (.tmp 15) rfl b15 rfl 24 (iC o 0 (X : Int) (Y : Int) far) (0, 0) _ HXb15.out Tryd.underlying24 rfl (sz_ins _ _ _ _ _) ?_
  try simp only [Act.put, List.setIfInBounds_toArray, List.set_cons_zero, List.set_cons_succ]
  refine wpList_call rfl (f := 16) (args := #[hv h, .int .i64 0, iv o 0 (X : Int) (Y : Int) far]) (v := .tuple #[hv g, .agg (eC e0)]) (by kernel_rfl) (st HO HB.out (wf5 Wo.out Z0.out WX.out WY.out WF.out) S1.out) ?_
  intro V15 hb
  replace HB : Hid (Bel w V15) := Lib.hid (HB.out.trans hb)
  replace HXb12 : Hid (HAt V15 b12 h) := Lib.hid (HXb12.out.bel hb)
  replace HXb15 : Hid (InAt V15 b15 o 0 (X : Int) (Y : Int) far) := Lib.hid (HXb15.out.bel hb)
  replace HXb16 : Hid (InAt V15 b16 (o2) 0 (X : Int) (Y : Int) far) := Lib.hid (HXb16.out.bel hb)
  replace HXb41 : Hid (SlAt V15 b41 #[.int .i64 6, .int .i64 5, .int .i64 8, .int .i64 7, .int .i64 10, .int .i64 9]) := Lib.hid (HXb41.out.bel hb)
  clear hb
  try simp only [Act.put, List.setIfInBounds_toArray, List.set_cons_zero, List.set_cons_succ]
  refine wpList_one rfl (w' := V15) (v := .tuple #[hv g, .agg (eC e0)]) rfl ?_
  try simp only [Act.put, List.setIfInBounds_toArray, List.set_cons_zero, List.set_cons_succ]
  refine wpList_one rfl (w' := V15) (v := hv g) rfl ?_
  try simp only [Act.put, List.setIfInBounds_toArray, List.set_cons_zero, List.set_cons_succ]
  refine wpList_one rfl (w' := V15) (v := .agg (eC e0)) rfl ?_
  try simp only [Act.put, List.setIfInBounds_toArray, List.set_cons_zero, List.set_cons_succ]
  obtain ⟨hb, hx⟩ := box1 V15 hZ 28
  refine wpList_one rfl (w' := V15.alloc (.cells hZ 28)) (v := .pointer (some ⟨V15.heap.size, 0, none⟩)) (by kernel_rfl) ?_
  try simp only [Act.put, List.setIfInBounds_toArray, List.set_cons_zero, List.set_cons_succ]
  have hl := lt_of_heap HXb41.out
  generalize V15.alloc (.cells hZ 28) = V16 at hb hx ⊢
  generalize V15.heap.size = b17 at hx hl ⊢
  have HG4 := Lib.hid hl
  clear hl
  replace HB : Hid (Bel w V16) := Lib.hid (HB.out.trans hb)
  replace HXb12 : Hid (HAt V16 b12 h) := Lib.hid (HXb12.out.bel hb)
  replace HXb15 : Hid (InAt V16 b15 o 0 (X : Int) (Y : Int) far) := Lib.hid (HXb15.out.bel hb)
  replace HXb16 : Hid (InAt V16 b16 (o2) 0 (X : Int) (Y : Int) far) := Lib.hid (HXb16.out.bel hb)
  replace HXb41 : Hid (SlAt V16 b41 #[.int .i64 6, .int .i64 5, .int .i64 8, .int .i64 7, .int .i64 10, .int .i64 9]) := Lib.hid (HXb41.out.bel hb)
  have HXb17 : Hid (HAt V16 b17 (fun _ => 0)) := Lib.hid hx
  clear hb hx
  try simp only [Act.put, List.setIfInBounds_toArray, List.set_cons_zero, List.set_cons_succ]
  obtain ⟨hb, hx⟩ := box1 V16 (eC e0) 34
  refine wpList_one rfl (w' := V16.alloc (.cells (eC e0) 34)) (v := .pointer (some ⟨V16.heap.size, 0, none⟩)) (by kernel_rfl) ?_
  try simp only [Act.put, List.setIfInBounds_toArray, List.set_cons_zero, List.set_cons_succ]
  have hl := lt_of_heap HXb17.out
  generalize V16.alloc (.cells (eC e0) 34) = V17 at hb hx ⊢
  generalize V16.heap.size = b18 at hx hl ⊢
  have HG5 := Lib.hid hl
  clear hl
  replace HB : Hid (Bel w V17) := Lib.hid (HB.out.trans hb)
  replace HXb12 : Hid (HAt V17 b12 h) := Lib.hid (HXb12.out.bel hb)
  replace HXb15 : Hid (InAt V17 b15 o 0 (X : Int) (Y : Int) far) := Lib.hid (HXb15.out.bel hb)
  replace HXb16 : Hid (InAt V17 b16 (o2) 0 (X : Int) (Y : Int) far) := Lib.hid (HXb16.out.bel hb)
  replace HXb41 : Hid (SlAt V17 b41 #[.int .i64 6, .int .i64 5, .int .i64 8, .int .i64 7, .int .i64 10, .int .i64 9]) := Lib.hid (HXb41.out.bel hb)
  replace HXb17 : Hid (HAt V17 b17 (fun _ => 0)) := Lib.hid (HXb17.out.bel hb)
  have HXb18 : Hid (EfAt V17 b18 e0) := Lib.hid hx
  clear hb hx
  try simp only [Act.put, List.setIfInBounds_toArray, List.set_cons_zero, List.set_cons_succ]
  refine wpList_store_row rfl 28 (.tmp 17) (.tmp 50) rfl b17 (hC g) rfl rfl 28 (hC (fun _ => 0)) HXb17.out (sz_hart _) (by rw [hC_size, hC_size]) (hC_ones _) ?_
  have hn := row_same (cs := (hC g)) HXb17.out
  have hb := row_bel HB.out (g := b17) (by have := HG.out; have := HG1.out; have := HG2.out; have := HG3.out; have := HG4.out; have := HG5.out; omega) (hC g)
  have hb12 := (setRow_other V17 b17 b12 (hC g) (by have := HG.out; have := HG1.out; have := HG2.out; have := HG3.out; have := HG4.out; have := HG5.out; omega)).trans HXb12.out
  have hb15 := (setRow_other V17 b17 b15 (hC g) (by have := HG.out; have := HG1.out; have := HG2.out; have := HG3.out; have := HG4.out; have := HG5.out; omega)).trans HXb15.out
  have hb16 := (setRow_other V17 b17 b16 (hC g) (by have := HG.out; have := HG1.out; have := HG2.out; have := HG3.out; have := HG4.out; have := HG5.out; omega)).trans HXb16.out
  have hb41 := (setRow_other V17 b17 b41 (hC g) (by have := HG.out; have := HG1.out; have := HG2.out; have := HG3.out; have := HG4.out; have := HG5.out; omega)).trans HXb41.out
  have hb18 := (setRow_other V17 b17 b18 (hC g) (by have := HG.out; have := HG1.out; have := HG2.out; have := HG3.out; have := HG4.out; have := HG5.out; omega)).trans HXb18.out
  generalize V17.setRow b17 (hC g) = V18 at hn hb hb12 hb15 hb16 hb41 hb18 ⊢
  clear HB HXb12 HXb15 HXb16 HXb41 HXb17 HXb18
  have HB : Hid (Bel w V18) := Lib.hid hb
  have HXb12 : Hid (HAt V18 b12 h) := Lib.hid hb12
  have HXb15 : Hid (InAt V18 b15 o 0 (X : Int) (Y : Int) far) := Lib.hid hb15
  have HXb16 : Hid (InAt V18 b16 (o2) 0 (X : Int) (Y : Int) far) := Lib.hid hb16
  have HXb41 : Hid (SlAt V18 b41 #[.int .i64 6, .int .i64 5, .int .i64 8, .int .i64 7, .int .i64 10, .int .i64 9]) := Lib.hid hb41
  have HXb18 : Hid (EfAt V18 b18 e0) := Lib.hid hb18
  have HXb17 : Hid (HAt V18 b17 g) := Lib.hid hn
  clear hn hb hb12 hb15 hb16 hb41 hb18
  try simp only [Act.put, List.setIfInBounds_toArray, List.set_cons_zero, List.set_cons_succ]
  refine wpList_store_row rfl 34 (.tmp 18) (.tmp 51) rfl b18 (eC e0) rfl rfl 34 (eC e0) HXb18.out (sz_eff _) rfl (eC_ones _) ?_
  have hn := row_same (cs := (eC e0)) HXb18.out
  have hb := row_bel HB.out (g := b18) (by have := HG.out; have := HG1.out; have := HG2.out; have := HG3.out; have := HG4.out; have := HG5.out; omega) (eC e0)
  have hb12 := (setRow_other V18 b18 b12 (eC e0) (by have := HG.out; have := HG1.out; have := HG2.out; have := HG3.out; have := HG4.out; have := HG5.out; omega)).trans HXb12.out
  have hb15 := (setRow_other V18 b18 b15 (eC e0) (by have := HG.out; have := HG1.out; have := HG2.out; have := HG3.out; have := HG4.out; have := HG5.out; omega)).trans HXb15.out
  have hb16 := (setRow_other V18 b18 b16 (eC e0) (by have := HG.out; have := HG1.out; have := HG2.out; have := HG3.out; have := HG4.out; have := HG5.out; omega)).trans HXb16.out
  have hb41 := (setRow_other V18 b18 b41 (eC e0) (by have := HG.out; have := HG1.out; have := HG2.out; have := HG3.out; have := HG4.out; have := HG5.out; omega)).trans HXb41.out
  have hb17 := (setRow_other V18 b18 b17 (eC e0) (by have := HG.out; have := HG1.out; have := HG2.out; have := HG3.out; have := HG4.out; have := HG5.out; omega)).trans HXb17.out
  generalize V18.setRow b18 (eC e0) = V19 at hn hb hb12 hb15 hb16 hb41 hb17 ⊢
  clear HB HXb12 HXb15 HXb16 HXb41 HXb17 HXb18
  have HB : Hid (Bel w V19) := Lib.hid hb
  have HXb12 : Hid (HAt V19 b12 h) := Lib.hid hb12
  have HXb15 : Hid (InAt V19 b15 o 0 (X : Int) (Y : Int) far) := Lib.hid hb15
  have HXb16 : Hid (InAt V19 b16 (o2) 0 (X : Int) (Y : Int) far) := Lib.hid hb16
  have HXb41 : Hid (SlAt V19 b41 #[.int .i64 6, .int .i64 5, .int .i64 8, .int .i64 7, .int .i64 10, .int .i64 9]) := Lib.hid hb41
  have HXb17 : Hid (HAt V19 b17 g) := Lib.hid hb17
  have HXb18 : Hid (EfAt V19 b18 e0) := Lib.hid hn
  clear hn hb hb12 hb15 hb16 hb41 hb17
  try simp only [Act.put, List.setIfInBounds_toArray, List.set_cons_zero, List.set_cons_succ]
  refine wpList_nil ?_
  refine hK _ _ ?_
  clear hK K
  go_upto_region 9 with (fail)
  rename_i K hK
  refine wp_region_list ?_
  refine wpList_load_row rfl 28 (.tmp 12) rfl b12 rfl 28 (hC h) (0, 0) _ HXb12.out Tryd.underlying28 rfl (sz_hart _) ?_
  try simp only [Act.put, List.setIfInBounds_toArray, List.set_cons_zero, List.set_cons_succ]
  refine wpList_load_row rfl 24 (.tmp 16) rfl b16 rfl 24 (iC (o2) 0 (X : Int) (Y : Int) far) (0, 0) _ HXb16.out Tryd.underlying24 rfl (sz_ins _ _ _ _ _) ?_
  try simp only [Act.put, List.setIfInBounds_toArray, List.set_cons_zero, List.set_cons_succ]
  refine wpList_call rfl (f := 16) (args := #[hv h, .int .i64 0, iv (o2) 0 (X : Int) (Y : Int) far]) (v := .tuple #[hv i, .agg (eC e0)]) (by kernel_rfl) (st HO HB.out (wf5 Wo2.out Z0.out WX.out WY.out WF.out) S2.out) ?_
  intro V20 hb
  replace HB : Hid (Bel w V20) := Lib.hid (HB.out.trans hb)
  replace HXb12 : Hid (HAt V20 b12 h) := Lib.hid (HXb12.out.bel hb)
  replace HXb15 : Hid (InAt V20 b15 o 0 (X : Int) (Y : Int) far) := Lib.hid (HXb15.out.bel hb)
  replace HXb16 : Hid (InAt V20 b16 (o2) 0 (X : Int) (Y : Int) far) := Lib.hid (HXb16.out.bel hb)
  replace HXb41 : Hid (SlAt V20 b41 #[.int .i64 6, .int .i64 5, .int .i64 8, .int .i64 7, .int .i64 10, .int .i64 9]) := Lib.hid (HXb41.out.bel hb)
  replace HXb17 : Hid (HAt V20 b17 g) := Lib.hid (HXb17.out.bel hb)
  replace HXb18 : Hid (EfAt V20 b18 e0) := Lib.hid (HXb18.out.bel hb)
  clear hb
  try simp only [Act.put, List.setIfInBounds_toArray, List.set_cons_zero, List.set_cons_succ]
  refine wpList_one rfl (w' := V20) (v := .tuple #[hv i, .agg (eC e0)]) rfl ?_
  try simp only [Act.put, List.setIfInBounds_toArray, List.set_cons_zero, List.set_cons_succ]
  refine wpList_one rfl (w' := V20) (v := hv i) rfl ?_
  try simp only [Act.put, List.setIfInBounds_toArray, List.set_cons_zero, List.set_cons_succ]
  refine wpList_one rfl (w' := V20) (v := .agg (eC e0)) rfl ?_
  try simp only [Act.put, List.setIfInBounds_toArray, List.set_cons_zero, List.set_cons_succ]
  obtain ⟨hb, hx⟩ := box1 V20 hZ 28
  refine wpList_one rfl (w' := V20.alloc (.cells hZ 28)) (v := .pointer (some ⟨V20.heap.size, 0, none⟩)) (by kernel_rfl) ?_
  try simp only [Act.put, List.setIfInBounds_toArray, List.set_cons_zero, List.set_cons_succ]
  have hl := lt_of_heap HXb18.out
  generalize V20.alloc (.cells hZ 28) = V21 at hb hx ⊢
  generalize V20.heap.size = b19 at hx hl ⊢
  have HG6 := Lib.hid hl
  clear hl
  replace HB : Hid (Bel w V21) := Lib.hid (HB.out.trans hb)
  replace HXb12 : Hid (HAt V21 b12 h) := Lib.hid (HXb12.out.bel hb)
  replace HXb15 : Hid (InAt V21 b15 o 0 (X : Int) (Y : Int) far) := Lib.hid (HXb15.out.bel hb)
  replace HXb16 : Hid (InAt V21 b16 (o2) 0 (X : Int) (Y : Int) far) := Lib.hid (HXb16.out.bel hb)
  replace HXb41 : Hid (SlAt V21 b41 #[.int .i64 6, .int .i64 5, .int .i64 8, .int .i64 7, .int .i64 10, .int .i64 9]) := Lib.hid (HXb41.out.bel hb)
  replace HXb17 : Hid (HAt V21 b17 g) := Lib.hid (HXb17.out.bel hb)
  replace HXb18 : Hid (EfAt V21 b18 e0) := Lib.hid (HXb18.out.bel hb)
  have HXb19 : Hid (HAt V21 b19 (fun _ => 0)) := Lib.hid hx
  clear hb hx
  try simp only [Act.put, List.setIfInBounds_toArray, List.set_cons_zero, List.set_cons_succ]
  obtain ⟨hb, hx⟩ := box1 V21 (eC e0) 34
  refine wpList_one rfl (w' := V21.alloc (.cells (eC e0) 34)) (v := .pointer (some ⟨V21.heap.size, 0, none⟩)) (by kernel_rfl) ?_
  try simp only [Act.put, List.setIfInBounds_toArray, List.set_cons_zero, List.set_cons_succ]
  have hl := lt_of_heap HXb19.out
  generalize V21.alloc (.cells (eC e0) 34) = V22 at hb hx ⊢
  generalize V21.heap.size = b20 at hx hl ⊢
  have HG7 := Lib.hid hl
  clear hl
  replace HB : Hid (Bel w V22) := Lib.hid (HB.out.trans hb)
  replace HXb12 : Hid (HAt V22 b12 h) := Lib.hid (HXb12.out.bel hb)
  replace HXb15 : Hid (InAt V22 b15 o 0 (X : Int) (Y : Int) far) := Lib.hid (HXb15.out.bel hb)
  replace HXb16 : Hid (InAt V22 b16 (o2) 0 (X : Int) (Y : Int) far) := Lib.hid (HXb16.out.bel hb)
  replace HXb41 : Hid (SlAt V22 b41 #[.int .i64 6, .int .i64 5, .int .i64 8, .int .i64 7, .int .i64 10, .int .i64 9]) := Lib.hid (HXb41.out.bel hb)
  replace HXb17 : Hid (HAt V22 b17 g) := Lib.hid (HXb17.out.bel hb)
  replace HXb18 : Hid (EfAt V22 b18 e0) := Lib.hid (HXb18.out.bel hb)
  replace HXb19 : Hid (HAt V22 b19 (fun _ => 0)) := Lib.hid (HXb19.out.bel hb)
  have HXb20 : Hid (EfAt V22 b20 e0) := Lib.hid hx
  clear hb hx
  try simp only [Act.put, List.setIfInBounds_toArray, List.set_cons_zero, List.set_cons_succ]
  refine wpList_store_row rfl 28 (.tmp 19) (.tmp 56) rfl b19 (hC i) rfl rfl 28 (hC (fun _ => 0)) HXb19.out (sz_hart _) (by rw [hC_size, hC_size]) (hC_ones _) ?_
  have hn := row_same (cs := (hC i)) HXb19.out
  have hb := row_bel HB.out (g := b19) (by have := HG.out; have := HG1.out; have := HG2.out; have := HG3.out; have := HG4.out; have := HG5.out; have := HG6.out; have := HG7.out; omega) (hC i)
  have hb12 := (setRow_other V22 b19 b12 (hC i) (by have := HG.out; have := HG1.out; have := HG2.out; have := HG3.out; have := HG4.out; have := HG5.out; have := HG6.out; have := HG7.out; omega)).trans HXb12.out
  have hb15 := (setRow_other V22 b19 b15 (hC i) (by have := HG.out; have := HG1.out; have := HG2.out; have := HG3.out; have := HG4.out; have := HG5.out; have := HG6.out; have := HG7.out; omega)).trans HXb15.out
  have hb16 := (setRow_other V22 b19 b16 (hC i) (by have := HG.out; have := HG1.out; have := HG2.out; have := HG3.out; have := HG4.out; have := HG5.out; have := HG6.out; have := HG7.out; omega)).trans HXb16.out
  have hb41 := (setRow_other V22 b19 b41 (hC i) (by have := HG.out; have := HG1.out; have := HG2.out; have := HG3.out; have := HG4.out; have := HG5.out; have := HG6.out; have := HG7.out; omega)).trans HXb41.out
  have hb17 := (setRow_other V22 b19 b17 (hC i) (by have := HG.out; have := HG1.out; have := HG2.out; have := HG3.out; have := HG4.out; have := HG5.out; have := HG6.out; have := HG7.out; omega)).trans HXb17.out
  have hb18 := (setRow_other V22 b19 b18 (hC i) (by have := HG.out; have := HG1.out; have := HG2.out; have := HG3.out; have := HG4.out; have := HG5.out; have := HG6.out; have := HG7.out; omega)).trans HXb18.out
  have hb20 := (setRow_other V22 b19 b20 (hC i) (by have := HG.out; have := HG1.out; have := HG2.out; have := HG3.out; have := HG4.out; have := HG5.out; have := HG6.out; have := HG7.out; omega)).trans HXb20.out
  generalize V22.setRow b19 (hC i) = V23 at hn hb hb12 hb15 hb16 hb41 hb17 hb18 hb20 ⊢
  clear HB HXb12 HXb15 HXb16 HXb41 HXb17 HXb18 HXb19 HXb20
  have HB : Hid (Bel w V23) := Lib.hid hb
  have HXb12 : Hid (HAt V23 b12 h) := Lib.hid hb12
  have HXb15 : Hid (InAt V23 b15 o 0 (X : Int) (Y : Int) far) := Lib.hid hb15
  have HXb16 : Hid (InAt V23 b16 (o2) 0 (X : Int) (Y : Int) far) := Lib.hid hb16
  have HXb41 : Hid (SlAt V23 b41 #[.int .i64 6, .int .i64 5, .int .i64 8, .int .i64 7, .int .i64 10, .int .i64 9]) := Lib.hid hb41
  have HXb17 : Hid (HAt V23 b17 g) := Lib.hid hb17
  have HXb18 : Hid (EfAt V23 b18 e0) := Lib.hid hb18
  have HXb20 : Hid (EfAt V23 b20 e0) := Lib.hid hb20
  have HXb19 : Hid (HAt V23 b19 i) := Lib.hid hn
  clear hn hb hb12 hb15 hb16 hb41 hb17 hb18 hb20
  try simp only [Act.put, List.setIfInBounds_toArray, List.set_cons_zero, List.set_cons_succ]
  refine wpList_store_row rfl 34 (.tmp 20) (.tmp 57) rfl b20 (eC e0) rfl rfl 34 (eC e0) HXb20.out (sz_eff _) rfl (eC_ones _) ?_
  have hn := row_same (cs := (eC e0)) HXb20.out
  have hb := row_bel HB.out (g := b20) (by have := HG.out; have := HG1.out; have := HG2.out; have := HG3.out; have := HG4.out; have := HG5.out; have := HG6.out; have := HG7.out; omega) (eC e0)
  have hb12 := (setRow_other V23 b20 b12 (eC e0) (by have := HG.out; have := HG1.out; have := HG2.out; have := HG3.out; have := HG4.out; have := HG5.out; have := HG6.out; have := HG7.out; omega)).trans HXb12.out
  have hb15 := (setRow_other V23 b20 b15 (eC e0) (by have := HG.out; have := HG1.out; have := HG2.out; have := HG3.out; have := HG4.out; have := HG5.out; have := HG6.out; have := HG7.out; omega)).trans HXb15.out
  have hb16 := (setRow_other V23 b20 b16 (eC e0) (by have := HG.out; have := HG1.out; have := HG2.out; have := HG3.out; have := HG4.out; have := HG5.out; have := HG6.out; have := HG7.out; omega)).trans HXb16.out
  have hb41 := (setRow_other V23 b20 b41 (eC e0) (by have := HG.out; have := HG1.out; have := HG2.out; have := HG3.out; have := HG4.out; have := HG5.out; have := HG6.out; have := HG7.out; omega)).trans HXb41.out
  have hb17 := (setRow_other V23 b20 b17 (eC e0) (by have := HG.out; have := HG1.out; have := HG2.out; have := HG3.out; have := HG4.out; have := HG5.out; have := HG6.out; have := HG7.out; omega)).trans HXb17.out
  have hb18 := (setRow_other V23 b20 b18 (eC e0) (by have := HG.out; have := HG1.out; have := HG2.out; have := HG3.out; have := HG4.out; have := HG5.out; have := HG6.out; have := HG7.out; omega)).trans HXb18.out
  have hb19 := (setRow_other V23 b20 b19 (eC e0) (by have := HG.out; have := HG1.out; have := HG2.out; have := HG3.out; have := HG4.out; have := HG5.out; have := HG6.out; have := HG7.out; omega)).trans HXb19.out
  generalize V23.setRow b20 (eC e0) = V24 at hn hb hb12 hb15 hb16 hb41 hb17 hb18 hb19 ⊢
  clear HB HXb12 HXb15 HXb16 HXb41 HXb17 HXb18 HXb19 HXb20
  have HB : Hid (Bel w V24) := Lib.hid hb
  have HXb12 : Hid (HAt V24 b12 h) := Lib.hid hb12
  have HXb15 : Hid (InAt V24 b15 o 0 (X : Int) (Y : Int) far) := Lib.hid hb15
  have HXb16 : Hid (InAt V24 b16 (o2) 0 (X : Int) (Y : Int) far) := Lib.hid hb16
  have HXb41 : Hid (SlAt V24 b41 #[.int .i64 6, .int .i64 5, .int .i64 8, .int .i64 7, .int .i64 10, .int .i64 9]) := Lib.hid hb41
  have HXb17 : Hid (HAt V24 b17 g) := Lib.hid hb17
  have HXb18 : Hid (EfAt V24 b18 e0) := Lib.hid hb18
  have HXb19 : Hid (HAt V24 b19 i) := Lib.hid hb19
  have HXb20 : Hid (EfAt V24 b20 e0) := Lib.hid hn
  clear hn hb hb12 hb15 hb16 hb41 hb17 hb18 hb19
  try simp only [Act.put, List.setIfInBounds_toArray, List.set_cons_zero, List.set_cons_succ]
  refine wpList_nil ?_
  refine hK _ _ ?_
  clear hK K
  go_upto_region 10 with (fail)
  rename_i K hK
  refine wp_region_list ?_
  refine wpList_one rfl (w' := V24) (v := .pointer (some ⟨b12, 32, none⟩)) (by kernel_rfl) ?_
  try simp only [Act.put, List.setIfInBounds_toArray, List.set_cons_zero, List.set_cons_succ]
  refine wpList_load_cell rfl 3 (.tmp 58) rfl ⟨b12, 32, none⟩ rfl (.int .i64 (h 32)) _ (HXb12.out.cell (j := 32) (by omega)) Tryd.underlying3 rfl ?_
  try simp only [Act.put, List.setIfInBounds_toArray, List.set_cons_zero, List.set_cons_succ]
  refine wpList_one rfl (w' := V24) (v := .int .i64 far) rfl ?_
  try simp only [Act.put, List.setIfInBounds_toArray, List.set_cons_zero, List.set_cons_succ]
  refine wpList_one rfl (w' := V24) (v := .int .i64 (IntKind.i64.wrap (h 32 + far))) (by kernel_rfl) ?_
  try simp only [Act.put, List.setIfInBounds_toArray, List.set_cons_zero, List.set_cons_succ]
  refine wpList_call rfl (f := 27) (args := #[.int .i64 (IntKind.i64.wrap (h 32 + far))]) (v := .int .i64 m1) (by kernel_rfl) (wl ((w32_i _).trans M1.out) _) ?_
  intro V25 hb
  replace HB : Hid (Bel w V25) := Lib.hid (HB.out.trans hb)
  replace HXb12 : Hid (HAt V25 b12 h) := Lib.hid (HXb12.out.bel hb)
  replace HXb15 : Hid (InAt V25 b15 o 0 (X : Int) (Y : Int) far) := Lib.hid (HXb15.out.bel hb)
  replace HXb16 : Hid (InAt V25 b16 (o2) 0 (X : Int) (Y : Int) far) := Lib.hid (HXb16.out.bel hb)
  replace HXb41 : Hid (SlAt V25 b41 #[.int .i64 6, .int .i64 5, .int .i64 8, .int .i64 7, .int .i64 10, .int .i64 9]) := Lib.hid (HXb41.out.bel hb)
  replace HXb17 : Hid (HAt V25 b17 g) := Lib.hid (HXb17.out.bel hb)
  replace HXb18 : Hid (EfAt V25 b18 e0) := Lib.hid (HXb18.out.bel hb)
  replace HXb19 : Hid (HAt V25 b19 i) := Lib.hid (HXb19.out.bel hb)
  replace HXb20 : Hid (EfAt V25 b20 e0) := Lib.hid (HXb20.out.bel hb)
  clear hb
  try simp only [Act.put, List.setIfInBounds_toArray, List.set_cons_zero, List.set_cons_succ]
  refine wpList_one rfl (w' := V25) (v := .int .i64 m1) rfl ?_
  try simp only [Act.put, List.setIfInBounds_toArray, List.set_cons_zero, List.set_cons_succ]
  refine wpList_nil ?_
  refine hK _ _ ?_
  clear hK K
  go_upto_region 11 with (fail)
  rename_i K hK
  refine wp_region_list ?_
  refine wpList_one rfl (w' := V25) (v := .pointer (some ⟨b12, 32, none⟩)) (by kernel_rfl) ?_
  try simp only [Act.put, List.setIfInBounds_toArray, List.set_cons_zero, List.set_cons_succ]
  refine wpList_load_cell rfl 3 (.tmp 63) rfl ⟨b12, 32, none⟩ rfl (.int .i64 (h 32)) _ (HXb12.out.cell (j := 32) (by omega)) Tryd.underlying3 rfl ?_
  try simp only [Act.put, List.setIfInBounds_toArray, List.set_cons_zero, List.set_cons_succ]
  refine wpList_one rfl (w' := V25) (v := .int .i64 (IntKind.i64.wrap (h 32 + 4))) (by kernel_rfl) ?_
  try simp only [Act.put, List.setIfInBounds_toArray, List.set_cons_zero, List.set_cons_succ]
  refine wpList_call rfl (f := 27) (args := #[.int .i64 (IntKind.i64.wrap (h 32 + 4))]) (v := .int .i64 m2) (by kernel_rfl) (wl ((w32_i _).trans M2.out) _) ?_
  intro V26 hb
  replace HB : Hid (Bel w V26) := Lib.hid (HB.out.trans hb)
  replace HXb12 : Hid (HAt V26 b12 h) := Lib.hid (HXb12.out.bel hb)
  replace HXb15 : Hid (InAt V26 b15 o 0 (X : Int) (Y : Int) far) := Lib.hid (HXb15.out.bel hb)
  replace HXb16 : Hid (InAt V26 b16 (o2) 0 (X : Int) (Y : Int) far) := Lib.hid (HXb16.out.bel hb)
  replace HXb41 : Hid (SlAt V26 b41 #[.int .i64 6, .int .i64 5, .int .i64 8, .int .i64 7, .int .i64 10, .int .i64 9]) := Lib.hid (HXb41.out.bel hb)
  replace HXb17 : Hid (HAt V26 b17 g) := Lib.hid (HXb17.out.bel hb)
  replace HXb18 : Hid (EfAt V26 b18 e0) := Lib.hid (HXb18.out.bel hb)
  replace HXb19 : Hid (HAt V26 b19 i) := Lib.hid (HXb19.out.bel hb)
  replace HXb20 : Hid (EfAt V26 b20 e0) := Lib.hid (HXb20.out.bel hb)
  clear hb
  try simp only [Act.put, List.setIfInBounds_toArray, List.set_cons_zero, List.set_cons_succ]
  refine wpList_one rfl (w' := V26) (v := .int .i64 m2) rfl ?_
  try simp only [Act.put, List.setIfInBounds_toArray, List.set_cons_zero, List.set_cons_succ]
  refine wpList_nil ?_
  refine hK _ _ ?_
  clear hK K
  go_upto_region 12 with (fail)
  clear HO HN HL HNC HH I1 I2 I3 I4 R1 R2 R3 R4 A1 A2 A3 HS Z0 Wo Wo2 WX WY WF S1 S2 M1 M2
  rename_i K hK
  refine wp_region_list ?_
  with_reducible refine BigFrame.wpList_want ?_ (fun K2 hK2 => ?_)
  · kernel_rfl
  refine wp_one (w' := V26) (v := .bool true) rfl ?_
  with_reducible refine hK2 _ _ ?_
  clear hK2 K2
  try simp only [Act.put, List.setIfInBounds_toArray, List.set_cons_zero, List.set_cons_succ]
  with_reducible refine BigFrame.wpList_want ?_ (fun K2 hK2 => ?_)
  · kernel_rfl
  refine wp_one (w' := V26) (v := .bool true) rfl ?_
  with_reducible refine hK2 _ _ ?_
  clear hK2 K2
  try simp only [Act.put, List.setIfInBounds_toArray, List.set_cons_zero, List.set_cons_succ]
  with_reducible refine BigFrame.wpList_want ?_ (fun K2 hK2 => ?_)
  · kernel_rfl
  refine wp_one (w' := V26) (v := .agg (eC e0)) (exec_row 34 (.tmp 18) rfl b18 rfl 34 (eC e0) (0, 0) _ HXb18.out Tryd.underlying34 rfl (sz_eff _)) ?_
  with_reducible refine hK2 _ _ ?_
  clear hK2 K2
  try simp only [Act.put, List.setIfInBounds_toArray, List.set_cons_zero, List.set_cons_succ]
  with_reducible refine BigFrame.wpList_want ?_ (fun K2 hK2 => ?_)
  · kernel_rfl
  refine wp_one (w' := V26) (v := .agg (eC e0)) (by kernel_rfl) ?_
  with_reducible refine hK2 _ _ ?_
  clear hK2 K2
  try simp only [Act.put, List.setIfInBounds_toArray, List.set_cons_zero, List.set_cons_succ]
  with_reducible refine BigFrame.wpList_want ?_ (fun K2 hK2 => ?_)
  · kernel_rfl
  refine wp_one (w' := V26) (v := .bool true) (exec_eqE rfl rfl rfl (rfl) V26) ?_
  with_reducible refine hK2 _ _ ?_
  clear hK2 K2
  try simp only [Act.put, List.setIfInBounds_toArray, List.set_cons_zero, List.set_cons_succ]
  with_reducible refine BigFrame.wpList_want ?_ (fun K2 hK2 => ?_)
  · kernel_rfl
  refine wp_one (w' := V26) (v := .bool true) (by kernel_rfl) ?_
  with_reducible refine hK2 _ _ ?_
  clear hK2 K2
  try simp only [Act.put, List.setIfInBounds_toArray, List.set_cons_zero, List.set_cons_succ]
  with_reducible refine BigFrame.wpList_want ?_ (fun K2 hK2 => ?_)
  · kernel_rfl
  refine wp_one (w' := V26) (v := .bool true) rfl ?_
  with_reducible refine hK2 _ _ ?_
  clear hK2 K2
  try simp only [Act.put, List.setIfInBounds_toArray, List.set_cons_zero, List.set_cons_succ]
  with_reducible refine BigFrame.wpList_want ?_ (fun K2 hK2 => ?_)
  · kernel_rfl
  refine wp_one (w' := V26) (v := .agg (eC e0)) (exec_row 34 (.tmp 20) rfl b20 rfl 34 (eC e0) (0, 0) _ HXb20.out Tryd.underlying34 rfl (sz_eff _)) ?_
  with_reducible refine hK2 _ _ ?_
  clear hK2 K2
  try simp only [Act.put, List.setIfInBounds_toArray, List.set_cons_zero, List.set_cons_succ]
  with_reducible refine BigFrame.wpList_want ?_ (fun K2 hK2 => ?_)
  · kernel_rfl
  refine wp_one (w' := V26) (v := .agg (eC e0)) (exec_row 34 (.tmp 18) rfl b18 rfl 34 (eC e0) (0, 0) _ HXb18.out Tryd.underlying34 rfl (sz_eff _)) ?_
  with_reducible refine hK2 _ _ ?_
  clear hK2 K2
  try simp only [Act.put, List.setIfInBounds_toArray, List.set_cons_zero, List.set_cons_succ]
  with_reducible refine BigFrame.wpList_want ?_ (fun K2 hK2 => ?_)
  · kernel_rfl
  refine wp_one (w' := V26) (v := .bool true) (exec_eqE rfl rfl rfl (rfl) V26) ?_
  with_reducible refine hK2 _ _ ?_
  clear hK2 K2
  try simp only [Act.put, List.setIfInBounds_toArray, List.set_cons_zero, List.set_cons_succ]
  with_reducible refine BigFrame.wpList_want ?_ (fun K2 hK2 => ?_)
  · kernel_rfl
  refine wp_one (w' := V26) (v := .bool true) (by kernel_rfl) ?_
  with_reducible refine hK2 _ _ ?_
  clear hK2 K2
  try simp only [Act.put, List.setIfInBounds_toArray, List.set_cons_zero, List.set_cons_succ]
  with_reducible refine BigFrame.wpList_want ?_ (fun K2 hK2 => ?_)
  · kernel_rfl
  refine wp_one (w' := V26) (v := .bool true) rfl ?_
  with_reducible refine hK2 _ _ ?_
  clear hK2 K2
  try simp only [Act.put, List.setIfInBounds_toArray, List.set_cons_zero, List.set_cons_succ]
  with_reducible refine BigFrame.wpList_want ?_ (fun K2 hK2 => ?_)
  · kernel_rfl
  refine wp_one (w' := V26) (v := .pointer (some ⟨b17, 32, none⟩)) (by kernel_rfl) ?_
  with_reducible refine hK2 _ _ ?_
  clear hK2 K2
  try simp only [Act.put, List.setIfInBounds_toArray, List.set_cons_zero, List.set_cons_succ]
  with_reducible refine BigFrame.wpList_want ?_ (fun K2 hK2 => ?_)
  · kernel_rfl
  refine wp_one (w' := V26) (v := .int .i64 (g 32)) (exec_cell 3 (.tmp 79) rfl ⟨b17, 32, none⟩ rfl _ _ (HXb17.out.cell (j := 32) (by omega)) Tryd.underlying3 rfl) ?_
  with_reducible refine hK2 _ _ ?_
  clear hK2 K2
  try simp only [Act.put, List.setIfInBounds_toArray, List.set_cons_zero, List.set_cons_succ]
  with_reducible refine BigFrame.wpList_want ?_ (fun K2 hK2 => ?_)
  · kernel_rfl
  refine wp_one (w' := V26) (v := .int .i64 m1) rfl ?_
  with_reducible refine hK2 _ _ ?_
  clear hK2 K2
  try simp only [Act.put, List.setIfInBounds_toArray, List.set_cons_zero, List.set_cons_succ]
  with_reducible refine BigFrame.wpList_want ?_ (fun K2 hK2 => ?_)
  · kernel_rfl
  refine wp_one (w' := V26) (v := .bool true) (exec_eqI rfl rfl rfl (C1.out) V26) ?_
  with_reducible refine hK2 _ _ ?_
  clear hK2 K2
  try simp only [Act.put, List.setIfInBounds_toArray, List.set_cons_zero, List.set_cons_succ]
  with_reducible refine BigFrame.wpList_want ?_ (fun K2 hK2 => ?_)
  · kernel_rfl
  refine wp_one (w' := V26) (v := .bool true) rfl ?_
  with_reducible refine hK2 _ _ ?_
  clear hK2 K2
  try simp only [Act.put, List.setIfInBounds_toArray, List.set_cons_zero, List.set_cons_succ]
  with_reducible refine BigFrame.wpList_want ?_ (fun K2 hK2 => ?_)
  · kernel_rfl
  refine wp_one (w' := V26) (v := .pointer (some ⟨b19, 32, none⟩)) (by kernel_rfl) ?_
  with_reducible refine hK2 _ _ ?_
  clear hK2 K2
  try simp only [Act.put, List.setIfInBounds_toArray, List.set_cons_zero, List.set_cons_succ]
  with_reducible refine BigFrame.wpList_want ?_ (fun K2 hK2 => ?_)
  · kernel_rfl
  refine wp_one (w' := V26) (v := .int .i64 (i 32)) (exec_cell 3 (.tmp 84) rfl ⟨b19, 32, none⟩ rfl _ _ (HXb19.out.cell (j := 32) (by omega)) Tryd.underlying3 rfl) ?_
  with_reducible refine hK2 _ _ ?_
  clear hK2 K2
  try simp only [Act.put, List.setIfInBounds_toArray, List.set_cons_zero, List.set_cons_succ]
  with_reducible refine BigFrame.wpList_want ?_ (fun K2 hK2 => ?_)
  · kernel_rfl
  refine wp_one (w' := V26) (v := .int .i64 m2) rfl ?_
  with_reducible refine hK2 _ _ ?_
  clear hK2 K2
  try simp only [Act.put, List.setIfInBounds_toArray, List.set_cons_zero, List.set_cons_succ]
  with_reducible refine BigFrame.wpList_want ?_ (fun K2 hK2 => ?_)
  · kernel_rfl
  refine wp_one (w' := V26) (v := .bool true) (exec_eqI rfl rfl rfl (C2.out) V26) ?_
  with_reducible refine hK2 _ _ ?_
  clear hK2 K2
  try simp only [Act.put, List.setIfInBounds_toArray, List.set_cons_zero, List.set_cons_succ]
  with_reducible refine BigFrame.wpList_want ?_ (fun K2 hK2 => ?_)
  · kernel_rfl
  refine wp_one (w' := V26) (v := .bool true) (by kernel_rfl) ?_
  with_reducible refine hK2 _ _ ?_
  clear hK2 K2
  try simp only [Act.put, List.setIfInBounds_toArray, List.set_cons_zero, List.set_cons_succ]
  with_reducible refine BigFrame.wpList_want ?_ (fun K2 hK2 => ?_)
  · kernel_rfl
  refine wp_one (w' := V26) (v := .bool true) rfl ?_
  with_reducible refine hK2 _ _ ?_
  clear hK2 K2
  try simp only [Act.put, List.setIfInBounds_toArray, List.set_cons_zero, List.set_cons_succ]
  with_reducible refine wpList_skip ?_ ?_
  · kernel_rfl
  try simp only [Act.put, List.setIfInBounds_toArray, List.set_cons_zero, List.set_cons_succ]
  with_reducible refine wpList_skip ?_ ?_
  · kernel_rfl
  try simp only [Act.put, List.setIfInBounds_toArray, List.set_cons_zero, List.set_cons_succ]
  with_reducible refine wpList_skip ?_ ?_
  · kernel_rfl
  try simp only [Act.put, List.setIfInBounds_toArray, List.set_cons_zero, List.set_cons_succ]
  with_reducible refine wpList_skip ?_ ?_
  · kernel_rfl
  try simp only [Act.put, List.setIfInBounds_toArray, List.set_cons_zero, List.set_cons_succ]
  with_reducible refine wpList_skip ?_ ?_
  · kernel_rfl
  try simp only [Act.put, List.setIfInBounds_toArray, List.set_cons_zero, List.set_cons_succ]
  with_reducible refine wpList_skip ?_ ?_
  · kernel_rfl
  try simp only [Act.put, List.setIfInBounds_toArray, List.set_cons_zero, List.set_cons_succ]
  with_reducible refine wpList_skip ?_ ?_
  · kernel_rfl
  try simp only [Act.put, List.setIfInBounds_toArray, List.set_cons_zero, List.set_cons_succ]
  with_reducible refine wpList_skip ?_ ?_
  · kernel_rfl
  try simp only [Act.put, List.setIfInBounds_toArray, List.set_cons_zero, List.set_cons_succ]
  with_reducible refine wpList_skip ?_ ?_
  · kernel_rfl
  try simp only [Act.put, List.setIfInBounds_toArray, List.set_cons_zero, List.set_cons_succ]
  with_reducible refine wpList_skip ?_ ?_
  · kernel_rfl
  try simp only [Act.put, List.setIfInBounds_toArray, List.set_cons_zero, List.set_cons_succ]
  with_reducible refine BigFrame.wpList_want ?_ (fun K2 hK2 => ?_)
  · kernel_rfl
  refine wp_one (w' := V26) (v := .bool true) (by kernel_rfl) ?_
  with_reducible refine hK2 _ _ ?_
  clear hK2 K2
  try simp only [Act.put, List.setIfInBounds_toArray, List.set_cons_zero, List.set_cons_succ]
  with_reducible refine BigFrame.wpList_want ?_ (fun K2 hK2 => ?_)
  · kernel_rfl
  refine wp_one (w' := V26) (v := .bool true) (by kernel_rfl) ?_
  with_reducible refine hK2 _ _ ?_
  clear hK2 K2
  try simp only [Act.put, List.setIfInBounds_toArray, List.set_cons_zero, List.set_cons_succ]
  with_reducible refine BigFrame.wpList_want ?_ (fun K2 hK2 => ?_)
  · kernel_rfl
  refine wp_one (w' := V26) (v := .bool true) rfl ?_
  with_reducible refine hK2 _ _ ?_
  clear hK2 K2
  try simp only [Act.put, List.setIfInBounds_toArray, List.set_cons_zero, List.set_cons_succ]
  with_reducible refine BigFrame.wpList_want ?_ (fun K2 hK2 => ?_)
  · kernel_rfl
  refine wp_one (w' := V26) (v := .pointer (some ⟨b17, 0, none⟩)) (by kernel_rfl) ?_
  with_reducible refine hK2 _ _ ?_
  clear hK2 K2
  try simp only [Act.put, List.setIfInBounds_toArray, List.set_cons_zero, List.set_cons_succ]
  with_reducible refine BigFrame.wpList_want ?_ (fun K2 hK2 => ?_)
  · kernel_rfl
  refine wp_one (w' := V26) (v := rV g) (exec_regs (.tmp 103) rfl b17 rfl HXb17.out) ?_
  with_reducible refine hK2 _ _ ?_
  clear hK2 K2
  try simp only [Act.put, List.setIfInBounds_toArray, List.set_cons_zero, List.set_cons_succ]
  with_reducible refine BigFrame.wpList_want ?_ (fun K2 hK2 => ?_)
  · kernel_rfl
  refine wp_one (w' := V26) (v := .pointer (some ⟨b12, 0, none⟩)) (by kernel_rfl) ?_
  with_reducible refine hK2 _ _ ?_
  clear hK2 K2
  try simp only [Act.put, List.setIfInBounds_toArray, List.set_cons_zero, List.set_cons_succ]
  with_reducible refine BigFrame.wpList_want ?_ (fun K2 hK2 => ?_)
  · kernel_rfl
  refine wp_one (w' := V26) (v := rV h) (exec_regs (.tmp 105) rfl b12 rfl HXb12.out) ?_
  with_reducible refine hK2 _ _ ?_
  clear hK2 K2
  try simp only [Act.put, List.setIfInBounds_toArray, List.set_cons_zero, List.set_cons_succ]
  with_reducible refine BigFrame.wpList_want ?_ (fun K2 hK2 => ?_)
  · kernel_rfl
  refine wp_one (w' := V26) (v := .bool true) (exec_eqR rfl rfl rfl (C3.out) V26) ?_
  with_reducible refine hK2 _ _ ?_
  clear hK2 K2
  try simp only [Act.put, List.setIfInBounds_toArray, List.set_cons_zero, List.set_cons_succ]
  with_reducible refine BigFrame.wpList_want ?_ (fun K2 hK2 => ?_)
  · kernel_rfl
  refine wp_one (w' := V26) (v := .bool true) (by kernel_rfl) ?_
  with_reducible refine hK2 _ _ ?_
  clear hK2 K2
  try simp only [Act.put, List.setIfInBounds_toArray, List.set_cons_zero, List.set_cons_succ]
  with_reducible refine BigFrame.wpList_want ?_ (fun K2 hK2 => ?_)
  · kernel_rfl
  refine wp_one (w' := V26) (v := .bool true) rfl ?_
  with_reducible refine hK2 _ _ ?_
  clear hK2 K2
  try simp only [Act.put, List.setIfInBounds_toArray, List.set_cons_zero, List.set_cons_succ]
  refine wpList_nil ?_
  refine hK _ _ ?_
  clear hK K
  go_wp2
  go_ret
  exact ⟨rfl, HB.out⟩
theorem branches_no (w : World) {P : Option Addr} {N C : Nat} {l : List Int} {c1 c2 c3 c4 p4 q4 far o o2 m1 m2 : Int} {h g i : H} {k X Y : Nat} (lk : k < 6) (lX : X < 32) (lY : Y < 32) (HO : Hid (OpsAt w)) (HN : Hid (l.length = N)) (HL : Hid (IntsQ w P l)) (HNC : Hid (N ≤ C)) (HH : Hid (fitV l = h))
    (I1 : Hid (inInt c1)) (I2 : Hid (inInt c2)) (I3 : Hid (inInt c3)) (I4 : Hid (inInt c4)) (R1 : Hid (Plain.pick c1 6 = (k : Int))) (R2 : Hid (Plain.pick c2 32 = (X : Int))) (R3 : Hid (Plain.pick c3 32 = (Y : Int))) (R4 : Hid (Plain.pick c4 500 = p4))
    (A1 : Hid (IntKind.i64.wrap (4 * p4) = q4)) (A2 : Hid (IntKind.i64.wrap (8 + q4) = far)) (A3 : Hid (IntKind.i64.wrap (5 + (k : Int)) = o)) (HS : Hid ((#[.int .i64 6, .int .i64 5, .int .i64 8, .int .i64 7, .int .i64 10, .int .i64 9] : Array Value)[k]? = some (.int .i64 o2)))
    (Z0 : Hid (i64 0)) (Wo : Hid (i64 o)) (Wo2 : Hid (i64 o2)) (WX : Hid (i64 (X : Int))) (WY : Hid (i64 (Y : Int))) (WF : Hid (i64 far)) (S1 : Hid (stepV h 0 ⟨o, 0, X, Y, far⟩ = (g, e0))) (S2 : Hid (stepV h 0 ⟨o2, 0, X, Y, far⟩ = (i, e0)))
    (M1 : Hid (wrap32 (h 32 + far) = m1)) (M2 : Hid (wrap32 (h 32 + 4) = m2)) (C1 : Hid (g 32 = m2)) (C2 : Hid (i 32 = m1)) (C3 : Hid (∀ k, k < 32 → g k = h k)) (D1 : Hid (g 32 ≠ m1)) :
    Calls Tryd.prog 8 #[.slice P N C, .int .i64 c1, .int .i64 c2, .int .i64 c3, .int .i64 c4] w (OneV (.bool true) w) := by
  go_enter Tryd.func8, Tryd.ntmps8
  have HB : Hid (Bel w w) := Lib.hid (Bel.refl w)
  go_upto_region 1 with (fail)
  rename_i K hK
  refine wp_region_list ?_
  refine wpList_call rfl (f := 12) (args := #[]) (v := .bool true) (by kernel_rfl) (awake_any (HO.out.bel HB.out)) ?_
  intro V1 hb
  replace HB : Hid (Bel w V1) := Lib.hid (HB.out.trans hb)
  clear hb
  try simp only [Act.put, List.setIfInBounds_toArray, List.set_cons_zero, List.set_cons_succ]
  refine wpList_one rfl (w' := V1) (v := .bool true) rfl ?_
  try simp only [Act.put, List.setIfInBounds_toArray, List.set_cons_zero, List.set_cons_succ]
  refine wpList_nil ?_
  refine hK _ _ ?_
  clear hK K
  go_upto_region 2 with (fail)
  rename_i K hK
  refine wp_region_list ?_
  refine wpList_one rfl (w' := V1) (v := .slice P N C) rfl ?_
  try simp only [Act.put, List.setIfInBounds_toArray, List.set_cons_zero, List.set_cons_succ]
  refine wpList_call rfl (f := 13) (args := #[.slice P N C]) (v := hv h) (by kernel_rfl) (fit_lit14 HH.out HN.out (HL.out.bel HB.out) HNC.out) ?_
  intro V2 hb
  replace HB : Hid (Bel w V2) := Lib.hid (HB.out.trans hb)
  clear hb
  try simp only [Act.put, List.setIfInBounds_toArray, List.set_cons_zero, List.set_cons_succ]
  obtain ⟨hb, hx⟩ := box1 V2 hZ 28
  refine wpList_one rfl (w' := V2.alloc (.cells hZ 28)) (v := .pointer (some ⟨V2.heap.size, 0, none⟩)) (by kernel_rfl) ?_
  try simp only [Act.put, List.setIfInBounds_toArray, List.set_cons_zero, List.set_cons_succ]
  have hl := HB.out.size
  generalize V2.alloc (.cells hZ 28) = V3 at hb hx ⊢
  generalize V2.heap.size = b12 at hx hl ⊢
  have HG := Lib.hid hl
  clear hl
  replace HB : Hid (Bel w V3) := Lib.hid (HB.out.trans hb)
  have HXb12 : Hid (HAt V3 b12 (fun _ => 0)) := Lib.hid hx
  clear hb hx
  try simp only [Act.put, List.setIfInBounds_toArray, List.set_cons_zero, List.set_cons_succ]
  refine wpList_store_row rfl 28 (.tmp 12) (.tmp 25) rfl b12 (hC h) rfl rfl 28 (hC (fun _ => 0)) HXb12.out (sz_hart _) (by rw [hC_size, hC_size]) (hC_ones _) ?_
  have hn := row_same (cs := (hC h)) HXb12.out
  have hb := row_bel HB.out (g := b12) (by have := HG.out; omega) (hC h)
  generalize V3.setRow b12 (hC h) = V4 at hn hb  ⊢
  clear HB HXb12
  have HB : Hid (Bel w V4) := Lib.hid hb
  have HXb12 : Hid (HAt V4 b12 h) := Lib.hid hn
  clear hn hb 
  try simp only [Act.put, List.setIfInBounds_toArray, List.set_cons_zero, List.set_cons_succ]
  refine wpList_nil ?_
  refine hK _ _ ?_
  clear hK K
  go_upto_region 3 with (fail)
  rename_i K hK
  refine wp_region_list ?_
  refine wpList_one rfl (w' := V4) (v := .int .i64 c1) rfl ?_
  try simp only [Act.put, List.setIfInBounds_toArray, List.set_cons_zero, List.set_cons_succ]
  refine wpList_call rfl (f := 15) (args := #[.int .i64 c1, .int .i64 6]) (v := .int .i64 (k : Int)) (by kernel_rfl) (pk I1.out (by decide) R1.out _) ?_
  intro V5 hb
  replace HB : Hid (Bel w V5) := Lib.hid (HB.out.trans hb)
  replace HXb12 : Hid (HAt V5 b12 h) := Lib.hid (HXb12.out.bel hb)
  clear hb
  try simp only [Act.put, List.setIfInBounds_toArray, List.set_cons_zero, List.set_cons_succ]
  refine wpList_one rfl (w' := V5) (v := .int .i64 (k : Int)) rfl ?_
  try simp only [Act.put, List.setIfInBounds_toArray, List.set_cons_zero, List.set_cons_succ]
  refine wpList_nil ?_
  refine hK _ _ ?_
  clear hK K
  go_upto_region 4 with (fail)
  rename_i K hK
  refine wp_region_list ?_
  refine wpList_one rfl (w' := V5) (v := .int .i64 c4) rfl ?_
  try simp only [Act.put, List.setIfInBounds_toArray, List.set_cons_zero, List.set_cons_succ]
  refine wpList_call rfl (f := 15) (args := #[.int .i64 c4, .int .i64 500]) (v := .int .i64 p4) (by kernel_rfl) (pk I4.out (by decide) R4.out _) ?_
  intro V6 hb
  replace HB : Hid (Bel w V6) := Lib.hid (HB.out.trans hb)
  replace HXb12 : Hid (HAt V6 b12 h) := Lib.hid (HXb12.out.bel hb)
  clear hb
  try simp only [Act.put, List.setIfInBounds_toArray, List.set_cons_zero, List.set_cons_succ]
  refine wpList_one rfl (w' := V6) (v := .int .i64 q4) (exec_mul rfl rfl rfl A1.out _) ?_
  try simp only [Act.put, List.setIfInBounds_toArray, List.set_cons_zero, List.set_cons_succ]
  refine wpList_one rfl (w' := V6) (v := .int .i64 far) (exec_add rfl rfl rfl A2.out _) ?_
  try simp only [Act.put, List.setIfInBounds_toArray, List.set_cons_zero, List.set_cons_succ]
  refine wpList_one rfl (w' := V6) (v := .int .i64 far) rfl ?_
  try simp only [Act.put, List.setIfInBounds_toArray, List.set_cons_zero, List.set_cons_succ]
  refine wpList_nil ?_
  refine hK _ _ ?_
  clear hK K
  go_upto_region 5 with (fail)
  rename_i K hK
  refine wp_region_list ?_
  refine wpList_one rfl (w' := V6) (v := .int .i64 (k : Int)) rfl ?_
  try simp only [Act.put, List.setIfInBounds_toArray, List.set_cons_zero, List.set_cons_succ]
  refine wpList_one rfl (w' := V6) (v := .int .i64 o) (exec_add rfl rfl rfl A3.out _) ?_
  try simp only [Act.put, List.setIfInBounds_toArray, List.set_cons_zero, List.set_cons_succ]
  refine wpList_one rfl (w' := V6) (v := .int .i64 c2) rfl ?_
  try simp only [Act.put, List.setIfInBounds_toArray, List.set_cons_zero, List.set_cons_succ]
  refine wpList_call rfl (f := 15) (args := #[.int .i64 c2, .int .i64 32]) (v := .int .i64 (X : Int)) (by kernel_rfl) (pk I2.out (by decide) R2.out _) ?_
  intro V7 hb
  replace HB : Hid (Bel w V7) := Lib.hid (HB.out.trans hb)
  replace HXb12 : Hid (HAt V7 b12 h) := Lib.hid (HXb12.out.bel hb)
  clear hb
  try simp only [Act.put, List.setIfInBounds_toArray, List.set_cons_zero, List.set_cons_succ]
  refine wpList_one rfl (w' := V7) (v := .int .i64 c3) rfl ?_
  try simp only [Act.put, List.setIfInBounds_toArray, List.set_cons_zero, List.set_cons_succ]
  refine wpList_call rfl (f := 15) (args := #[.int .i64 c3, .int .i64 32]) (v := .int .i64 (Y : Int)) (by kernel_rfl) (pk I3.out (by decide) R3.out _) ?_
  intro V8 hb
  replace HB : Hid (Bel w V8) := Lib.hid (HB.out.trans hb)
  replace HXb12 : Hid (HAt V8 b12 h) := Lib.hid (HXb12.out.bel hb)
  clear hb
  try simp only [Act.put, List.setIfInBounds_toArray, List.set_cons_zero, List.set_cons_succ]
  refine wpList_one rfl (w' := V8) (v := .int .i64 far) rfl ?_
  try simp only [Act.put, List.setIfInBounds_toArray, List.set_cons_zero, List.set_cons_succ]
  refine wpList_one rfl (w' := V8) (v := iv o 0 (X : Int) (Y : Int) far) (by kernel_rfl) ?_
  try simp only [Act.put, List.setIfInBounds_toArray, List.set_cons_zero, List.set_cons_succ]
  obtain ⟨hb, hx⟩ := box1 V8 (iC 0 0 0 0 0) 24
  refine wpList_one rfl (w' := V8.alloc (.cells (iC 0 0 0 0 0) 24)) (v := .pointer (some ⟨V8.heap.size, 0, none⟩)) (by kernel_rfl) ?_
  try simp only [Act.put, List.setIfInBounds_toArray, List.set_cons_zero, List.set_cons_succ]
  have hl := lt_of_heap HXb12.out
  generalize V8.alloc (.cells (iC 0 0 0 0 0) 24) = V9 at hb hx ⊢
  generalize V8.heap.size = b15 at hx hl ⊢
  have HG1 := Lib.hid hl
  clear hl
  replace HB : Hid (Bel w V9) := Lib.hid (HB.out.trans hb)
  replace HXb12 : Hid (HAt V9 b12 h) := Lib.hid (HXb12.out.bel hb)
  have HXb15 : Hid (InAt V9 b15 0 0 0 0 0) := Lib.hid hx
  clear hb hx
  try simp only [Act.put, List.setIfInBounds_toArray, List.set_cons_zero, List.set_cons_succ]
  refine wpList_store_row rfl 24 (.tmp 15) (.tmp 39) rfl b15 (iC o 0 (X : Int) (Y : Int) far) rfl rfl 24 (iC 0 0 0 0 0) HXb15.out (sz_ins _ _ _ _ _) rfl (by kernel_rfl) ?_
  have hn := row_same (cs := (iC o 0 (X : Int) (Y : Int) far)) HXb15.out
  have hb := row_bel HB.out (g := b15) (by have := HG.out; have := HG1.out; omega) (iC o 0 (X : Int) (Y : Int) far)
  have hb12 := (setRow_other V9 b15 b12 (iC o 0 (X : Int) (Y : Int) far) (by have := HG.out; have := HG1.out; omega)).trans HXb12.out
  generalize V9.setRow b15 (iC o 0 (X : Int) (Y : Int) far) = V10 at hn hb hb12 ⊢
  clear HB HXb12 HXb15
  have HB : Hid (Bel w V10) := Lib.hid hb
  have HXb12 : Hid (HAt V10 b12 h) := Lib.hid hb12
  have HXb15 : Hid (InAt V10 b15 o 0 (X : Int) (Y : Int) far) := Lib.hid hn
  clear hn hb hb12
  try simp only [Act.put, List.setIfInBounds_toArray, List.set_cons_zero, List.set_cons_succ]
  refine wpList_nil ?_
  refine hK _ _ ?_
  clear hK K
  go_upto_region 6 with (fail)
  rename_i K hK
  refine wp_region_list ?_
  refine wpList_load_row rfl 24 (.tmp 15) rfl b15 rfl 24 (iC o 0 (X : Int) (Y : Int) far) (0, 0) _ HXb15.out Tryd.underlying24 rfl (sz_ins _ _ _ _ _) ?_
  try simp only [Act.put, List.setIfInBounds_toArray, List.set_cons_zero, List.set_cons_succ]
  obtain ⟨hb, hx⟩ := box1 V10 (iC 0 0 0 0 0) 24
  refine wpList_one rfl (w' := V10.alloc (.cells (iC 0 0 0 0 0) 24)) (v := .pointer (some ⟨V10.heap.size, 0, none⟩)) (by kernel_rfl) ?_
  try simp only [Act.put, List.setIfInBounds_toArray, List.set_cons_zero, List.set_cons_succ]
  have hl := lt_of_heap HXb15.out
  generalize V10.alloc (.cells (iC 0 0 0 0 0) 24) = V11 at hb hx ⊢
  generalize V10.heap.size = b16 at hx hl ⊢
  have HG2 := Lib.hid hl
  clear hl
  replace HB : Hid (Bel w V11) := Lib.hid (HB.out.trans hb)
  replace HXb12 : Hid (HAt V11 b12 h) := Lib.hid (HXb12.out.bel hb)
  replace HXb15 : Hid (InAt V11 b15 o 0 (X : Int) (Y : Int) far) := Lib.hid (HXb15.out.bel hb)
  have HXb16 : Hid (InAt V11 b16 0 0 0 0 0) := Lib.hid hx
  clear hb hx
  try simp only [Act.put, List.setIfInBounds_toArray, List.set_cons_zero, List.set_cons_succ]
  refine wpList_store_row rfl 24 (.tmp 16) (.tmp 40) rfl b16 (iC o 0 (X : Int) (Y : Int) far) rfl rfl 24 (iC 0 0 0 0 0) HXb16.out (sz_ins _ _ _ _ _) rfl (by kernel_rfl) ?_
  have hn := row_same (cs := (iC o 0 (X : Int) (Y : Int) far)) HXb16.out
  have hb := row_bel HB.out (g := b16) (by have := HG.out; have := HG1.out; have := HG2.out; omega) (iC o 0 (X : Int) (Y : Int) far)
  have hb12 := (setRow_other V11 b16 b12 (iC o 0 (X : Int) (Y : Int) far) (by have := HG.out; have := HG1.out; have := HG2.out; omega)).trans HXb12.out
  have hb15 := (setRow_other V11 b16 b15 (iC o 0 (X : Int) (Y : Int) far) (by have := HG.out; have := HG1.out; have := HG2.out; omega)).trans HXb15.out
  generalize V11.setRow b16 (iC o 0 (X : Int) (Y : Int) far) = V12 at hn hb hb12 hb15 ⊢
  clear HB HXb12 HXb15 HXb16
  have HB : Hid (Bel w V12) := Lib.hid hb
  have HXb12 : Hid (HAt V12 b12 h) := Lib.hid hb12
  have HXb15 : Hid (InAt V12 b15 o 0 (X : Int) (Y : Int) far) := Lib.hid hb15
  have HXb16 : Hid (InAt V12 b16 o 0 (X : Int) (Y : Int) far) := Lib.hid hn
  clear hn hb hb12 hb15
  try simp only [Act.put, List.setIfInBounds_toArray, List.set_cons_zero, List.set_cons_succ]
  refine wpList_nil ?_
  refine hK _ _ ?_
  clear hK K
  go_upto_region 7 with (fail)
  rename_i K hK
  refine wp_region_list ?_
  obtain ⟨hb, hx⟩ := box1 V12 #[.int .i64 6, .int .i64 5, .int .i64 8, .int .i64 7, .int .i64 10, .int .i64 9] 3
  refine wpList_one rfl (w' := V12.alloc (.cells #[.int .i64 6, .int .i64 5, .int .i64 8, .int .i64 7, .int .i64 10, .int .i64 9] 3)) (v := .slice (some ⟨V12.heap.size, 0, none⟩) 6 6) (by kernel_rfl) ?_
  try simp only [Act.put, List.setIfInBounds_toArray, List.set_cons_zero, List.set_cons_succ]
  have hl := lt_of_heap HXb16.out
  generalize V12.alloc (.cells #[.int .i64 6, .int .i64 5, .int .i64 8, .int .i64 7, .int .i64 10, .int .i64 9] 3) = V13 at hb hx ⊢
  generalize V12.heap.size = b41 at hx hl ⊢
  have HG3 := Lib.hid hl
  clear hl
  replace HB : Hid (Bel w V13) := Lib.hid (HB.out.trans hb)
  replace HXb12 : Hid (HAt V13 b12 h) := Lib.hid (HXb12.out.bel hb)
  replace HXb15 : Hid (InAt V13 b15 o 0 (X : Int) (Y : Int) far) := Lib.hid (HXb15.out.bel hb)
  replace HXb16 : Hid (InAt V13 b16 o 0 (X : Int) (Y : Int) far) := Lib.hid (HXb16.out.bel hb)
  have HXb41 : Hid (SlAt V13 b41 #[.int .i64 6, .int .i64 5, .int .i64 8, .int .i64 7, .int .i64 10, .int .i64 9]) := Lib.hid hx
  clear hb hx
  try simp only [Act.put, List.setIfInBounds_toArray, List.set_cons_zero, List.set_cons_succ]
  refine wpList_one rfl (w' := V13) (v := .int .i64 (k : Int)) rfl ?_
  try simp only [Act.put, List.setIfInBounds_toArray, List.set_cons_zero, List.set_cons_succ]
  refine wpList_one rfl (w' := V13) (v := .pointer (some ⟨b41, k, none⟩)) (exec_sl6 rfl b41 k (by omega) rfl rfl _) ?_
  try simp only [Act.put, List.setIfInBounds_toArray, List.set_cons_zero, List.set_cons_succ]
  refine wpList_load_cell rfl 3 (.tmp 43) rfl ⟨b41, k, none⟩ rfl (.int .i64 o2) _ ((HXb41.out.cell k).trans HS.out) Tryd.underlying3 rfl ?_
  try simp only [Act.put, List.setIfInBounds_toArray, List.set_cons_zero, List.set_cons_succ]
  refine wpList_one rfl (w' := V13) (v := .pointer (some ⟨b16, 0, none⟩)) (by kernel_rfl) ?_
  try simp only [Act.put, List.setIfInBounds_toArray, List.set_cons_zero, List.set_cons_succ]
  refine wpList_store_cell rfl 3 (.tmp 45) (.tmp 44) rfl b16 0 rfl (.int .i64 o2) rfl HXb16.out.cells.1 (frozen_of_heap HXb16.out 0) sz_int rfl ?_
  have hn := HXb16.out.set0 (o2)
  have hb := (Svg.set b16 0 V13 (.int .i64 (o2))).bel HB.out (by have := HG.out; have := HG1.out; have := HG2.out; have := HG3.out; omega)
  have hb12 := ((Svg.set b16 0 V13 (.int .i64 (o2))).block b12 (lt_of_heap HXb12.out) (by have := HG.out; have := HG1.out; have := HG2.out; have := HG3.out; omega)).trans HXb12.out
  have hb15 := ((Svg.set b16 0 V13 (.int .i64 (o2))).block b15 (lt_of_heap HXb15.out) (by have := HG.out; have := HG1.out; have := HG2.out; have := HG3.out; omega)).trans HXb15.out
  have hb41 := ((Svg.set b16 0 V13 (.int .i64 (o2))).block b41 (lt_of_heap HXb41.out) (by have := HG.out; have := HG1.out; have := HG2.out; have := HG3.out; omega)).trans HXb41.out
  generalize V13.setCell ⟨b16, 0, none⟩ (.int .i64 (o2)) = V14 at hn hb hb12 hb15 hb41  ⊢
  clear HB HXb12 HXb15 HXb16 HXb41
  have HB : Hid (Bel w V14) := Lib.hid hb
  have HXb12 : Hid (HAt V14 b12 h) := Lib.hid hb12
  have HXb15 : Hid (InAt V14 b15 o 0 (X : Int) (Y : Int) far) := Lib.hid hb15
  have HXb41 : Hid (SlAt V14 b41 #[.int .i64 6, .int .i64 5, .int .i64 8, .int .i64 7, .int .i64 10, .int .i64 9]) := Lib.hid hb41
  have HXb16 : Hid (InAt V14 b16 (o2) 0 (X : Int) (Y : Int) far) := Lib.hid hn
  clear hn hb hb12 hb15 hb41
  try simp only [Act.put, List.setIfInBounds_toArray, List.set_cons_zero, List.set_cons_succ]
  refine wpList_nil ?_
  refine hK _ _ ?_
  clear hK K
  go_upto_region 8 with (fail)
  rename_i K hK
  refine wp_region_list ?_
  refine wpList_load_row rfl 28 (.tmp 12) rfl b12 rfl 28 (hC h) (0, 0) _ HXb12.out Tryd.underlying28 rfl (sz_hart _) ?_
  try simp only [Act.put, List.setIfInBounds_toArray, List.set_cons_zero, List.set_cons_succ]
  refine wpList_load_row rfl 24 (.tmp 15) rfl b15 rfl 24 (iC o 0 (X : Int) (Y : Int) far) (0, 0) _ HXb15.out Tryd.underlying24 rfl (sz_ins _ _ _ _ _) ?_
  try simp only [Act.put, List.setIfInBounds_toArray, List.set_cons_zero, List.set_cons_succ]
  refine wpList_call rfl (f := 16) (args := #[hv h, .int .i64 0, iv o 0 (X : Int) (Y : Int) far]) (v := .tuple #[hv g, .agg (eC e0)]) (by kernel_rfl) (st HO HB.out (wf5 Wo.out Z0.out WX.out WY.out WF.out) S1.out) ?_
  intro V15 hb
  replace HB : Hid (Bel w V15) := Lib.hid (HB.out.trans hb)
  replace HXb12 : Hid (HAt V15 b12 h) := Lib.hid (HXb12.out.bel hb)
  replace HXb15 : Hid (InAt V15 b15 o 0 (X : Int) (Y : Int) far) := Lib.hid (HXb15.out.bel hb)
  replace HXb16 : Hid (InAt V15 b16 (o2) 0 (X : Int) (Y : Int) far) := Lib.hid (HXb16.out.bel hb)
  replace HXb41 : Hid (SlAt V15 b41 #[.int .i64 6, .int .i64 5, .int .i64 8, .int .i64 7, .int .i64 10, .int .i64 9]) := Lib.hid (HXb41.out.bel hb)
  clear hb
  try simp only [Act.put, List.setIfInBounds_toArray, List.set_cons_zero, List.set_cons_succ]
  refine wpList_one rfl (w' := V15) (v := .tuple #[hv g, .agg (eC e0)]) rfl ?_
  try simp only [Act.put, List.setIfInBounds_toArray, List.set_cons_zero, List.set_cons_succ]
  refine wpList_one rfl (w' := V15) (v := hv g) rfl ?_
  try simp only [Act.put, List.setIfInBounds_toArray, List.set_cons_zero, List.set_cons_succ]
  refine wpList_one rfl (w' := V15) (v := .agg (eC e0)) rfl ?_
  try simp only [Act.put, List.setIfInBounds_toArray, List.set_cons_zero, List.set_cons_succ]
  obtain ⟨hb, hx⟩ := box1 V15 hZ 28
  refine wpList_one rfl (w' := V15.alloc (.cells hZ 28)) (v := .pointer (some ⟨V15.heap.size, 0, none⟩)) (by kernel_rfl) ?_
  try simp only [Act.put, List.setIfInBounds_toArray, List.set_cons_zero, List.set_cons_succ]
  have hl := lt_of_heap HXb41.out
  generalize V15.alloc (.cells hZ 28) = V16 at hb hx ⊢
  generalize V15.heap.size = b17 at hx hl ⊢
  have HG4 := Lib.hid hl
  clear hl
  replace HB : Hid (Bel w V16) := Lib.hid (HB.out.trans hb)
  replace HXb12 : Hid (HAt V16 b12 h) := Lib.hid (HXb12.out.bel hb)
  replace HXb15 : Hid (InAt V16 b15 o 0 (X : Int) (Y : Int) far) := Lib.hid (HXb15.out.bel hb)
  replace HXb16 : Hid (InAt V16 b16 (o2) 0 (X : Int) (Y : Int) far) := Lib.hid (HXb16.out.bel hb)
  replace HXb41 : Hid (SlAt V16 b41 #[.int .i64 6, .int .i64 5, .int .i64 8, .int .i64 7, .int .i64 10, .int .i64 9]) := Lib.hid (HXb41.out.bel hb)
  have HXb17 : Hid (HAt V16 b17 (fun _ => 0)) := Lib.hid hx
  clear hb hx
  try simp only [Act.put, List.setIfInBounds_toArray, List.set_cons_zero, List.set_cons_succ]
  obtain ⟨hb, hx⟩ := box1 V16 (eC e0) 34
  refine wpList_one rfl (w' := V16.alloc (.cells (eC e0) 34)) (v := .pointer (some ⟨V16.heap.size, 0, none⟩)) (by kernel_rfl) ?_
  try simp only [Act.put, List.setIfInBounds_toArray, List.set_cons_zero, List.set_cons_succ]
  have hl := lt_of_heap HXb17.out
  generalize V16.alloc (.cells (eC e0) 34) = V17 at hb hx ⊢
  generalize V16.heap.size = b18 at hx hl ⊢
  have HG5 := Lib.hid hl
  clear hl
  replace HB : Hid (Bel w V17) := Lib.hid (HB.out.trans hb)
  replace HXb12 : Hid (HAt V17 b12 h) := Lib.hid (HXb12.out.bel hb)
  replace HXb15 : Hid (InAt V17 b15 o 0 (X : Int) (Y : Int) far) := Lib.hid (HXb15.out.bel hb)
  replace HXb16 : Hid (InAt V17 b16 (o2) 0 (X : Int) (Y : Int) far) := Lib.hid (HXb16.out.bel hb)
  replace HXb41 : Hid (SlAt V17 b41 #[.int .i64 6, .int .i64 5, .int .i64 8, .int .i64 7, .int .i64 10, .int .i64 9]) := Lib.hid (HXb41.out.bel hb)
  replace HXb17 : Hid (HAt V17 b17 (fun _ => 0)) := Lib.hid (HXb17.out.bel hb)
  have HXb18 : Hid (EfAt V17 b18 e0) := Lib.hid hx
  clear hb hx
  try simp only [Act.put, List.setIfInBounds_toArray, List.set_cons_zero, List.set_cons_succ]
  refine wpList_store_row rfl 28 (.tmp 17) (.tmp 50) rfl b17 (hC g) rfl rfl 28 (hC (fun _ => 0)) HXb17.out (sz_hart _) (by rw [hC_size, hC_size]) (hC_ones _) ?_
  have hn := row_same (cs := (hC g)) HXb17.out
  have hb := row_bel HB.out (g := b17) (by have := HG.out; have := HG1.out; have := HG2.out; have := HG3.out; have := HG4.out; have := HG5.out; omega) (hC g)
  have hb12 := (setRow_other V17 b17 b12 (hC g) (by have := HG.out; have := HG1.out; have := HG2.out; have := HG3.out; have := HG4.out; have := HG5.out; omega)).trans HXb12.out
  have hb15 := (setRow_other V17 b17 b15 (hC g) (by have := HG.out; have := HG1.out; have := HG2.out; have := HG3.out; have := HG4.out; have := HG5.out; omega)).trans HXb15.out
  have hb16 := (setRow_other V17 b17 b16 (hC g) (by have := HG.out; have := HG1.out; have := HG2.out; have := HG3.out; have := HG4.out; have := HG5.out; omega)).trans HXb16.out
  have hb41 := (setRow_other V17 b17 b41 (hC g) (by have := HG.out; have := HG1.out; have := HG2.out; have := HG3.out; have := HG4.out; have := HG5.out; omega)).trans HXb41.out
  have hb18 := (setRow_other V17 b17 b18 (hC g) (by have := HG.out; have := HG1.out; have := HG2.out; have := HG3.out; have := HG4.out; have := HG5.out; omega)).trans HXb18.out
  generalize V17.setRow b17 (hC g) = V18 at hn hb hb12 hb15 hb16 hb41 hb18 ⊢
  clear HB HXb12 HXb15 HXb16 HXb41 HXb17 HXb18
  have HB : Hid (Bel w V18) := Lib.hid hb
  have HXb12 : Hid (HAt V18 b12 h) := Lib.hid hb12
  have HXb15 : Hid (InAt V18 b15 o 0 (X : Int) (Y : Int) far) := Lib.hid hb15
  have HXb16 : Hid (InAt V18 b16 (o2) 0 (X : Int) (Y : Int) far) := Lib.hid hb16
  have HXb41 : Hid (SlAt V18 b41 #[.int .i64 6, .int .i64 5, .int .i64 8, .int .i64 7, .int .i64 10, .int .i64 9]) := Lib.hid hb41
  have HXb18 : Hid (EfAt V18 b18 e0) := Lib.hid hb18
  have HXb17 : Hid (HAt V18 b17 g) := Lib.hid hn
  clear hn hb hb12 hb15 hb16 hb41 hb18
  try simp only [Act.put, List.setIfInBounds_toArray, List.set_cons_zero, List.set_cons_succ]
  refine wpList_store_row rfl 34 (.tmp 18) (.tmp 51) rfl b18 (eC e0) rfl rfl 34 (eC e0) HXb18.out (sz_eff _) rfl (eC_ones _) ?_
  have hn := row_same (cs := (eC e0)) HXb18.out
  have hb := row_bel HB.out (g := b18) (by have := HG.out; have := HG1.out; have := HG2.out; have := HG3.out; have := HG4.out; have := HG5.out; omega) (eC e0)
  have hb12 := (setRow_other V18 b18 b12 (eC e0) (by have := HG.out; have := HG1.out; have := HG2.out; have := HG3.out; have := HG4.out; have := HG5.out; omega)).trans HXb12.out
  have hb15 := (setRow_other V18 b18 b15 (eC e0) (by have := HG.out; have := HG1.out; have := HG2.out; have := HG3.out; have := HG4.out; have := HG5.out; omega)).trans HXb15.out
  have hb16 := (setRow_other V18 b18 b16 (eC e0) (by have := HG.out; have := HG1.out; have := HG2.out; have := HG3.out; have := HG4.out; have := HG5.out; omega)).trans HXb16.out
  have hb41 := (setRow_other V18 b18 b41 (eC e0) (by have := HG.out; have := HG1.out; have := HG2.out; have := HG3.out; have := HG4.out; have := HG5.out; omega)).trans HXb41.out
  have hb17 := (setRow_other V18 b18 b17 (eC e0) (by have := HG.out; have := HG1.out; have := HG2.out; have := HG3.out; have := HG4.out; have := HG5.out; omega)).trans HXb17.out
  generalize V18.setRow b18 (eC e0) = V19 at hn hb hb12 hb15 hb16 hb41 hb17 ⊢
  clear HB HXb12 HXb15 HXb16 HXb41 HXb17 HXb18
  have HB : Hid (Bel w V19) := Lib.hid hb
  have HXb12 : Hid (HAt V19 b12 h) := Lib.hid hb12
  have HXb15 : Hid (InAt V19 b15 o 0 (X : Int) (Y : Int) far) := Lib.hid hb15
  have HXb16 : Hid (InAt V19 b16 (o2) 0 (X : Int) (Y : Int) far) := Lib.hid hb16
  have HXb41 : Hid (SlAt V19 b41 #[.int .i64 6, .int .i64 5, .int .i64 8, .int .i64 7, .int .i64 10, .int .i64 9]) := Lib.hid hb41
  have HXb17 : Hid (HAt V19 b17 g) := Lib.hid hb17
  have HXb18 : Hid (EfAt V19 b18 e0) := Lib.hid hn
  clear hn hb hb12 hb15 hb16 hb41 hb17
  try simp only [Act.put, List.setIfInBounds_toArray, List.set_cons_zero, List.set_cons_succ]
  refine wpList_nil ?_
  refine hK _ _ ?_
  clear hK K
  go_upto_region 9 with (fail)
  rename_i K hK
  refine wp_region_list ?_
  refine wpList_load_row rfl 28 (.tmp 12) rfl b12 rfl 28 (hC h) (0, 0) _ HXb12.out Tryd.underlying28 rfl (sz_hart _) ?_
  try simp only [Act.put, List.setIfInBounds_toArray, List.set_cons_zero, List.set_cons_succ]
  refine wpList_load_row rfl 24 (.tmp 16) rfl b16 rfl 24 (iC (o2) 0 (X : Int) (Y : Int) far) (0, 0) _ HXb16.out Tryd.underlying24 rfl (sz_ins _ _ _ _ _) ?_
  try simp only [Act.put, List.setIfInBounds_toArray, List.set_cons_zero, List.set_cons_succ]
  refine wpList_call rfl (f := 16) (args := #[hv h, .int .i64 0, iv (o2) 0 (X : Int) (Y : Int) far]) (v := .tuple #[hv i, .agg (eC e0)]) (by kernel_rfl) (st HO HB.out (wf5 Wo2.out Z0.out WX.out WY.out WF.out) S2.out) ?_
  intro V20 hb
  replace HB : Hid (Bel w V20) := Lib.hid (HB.out.trans hb)
  replace HXb12 : Hid (HAt V20 b12 h) := Lib.hid (HXb12.out.bel hb)
  replace HXb15 : Hid (InAt V20 b15 o 0 (X : Int) (Y : Int) far) := Lib.hid (HXb15.out.bel hb)
  replace HXb16 : Hid (InAt V20 b16 (o2) 0 (X : Int) (Y : Int) far) := Lib.hid (HXb16.out.bel hb)
  replace HXb41 : Hid (SlAt V20 b41 #[.int .i64 6, .int .i64 5, .int .i64 8, .int .i64 7, .int .i64 10, .int .i64 9]) := Lib.hid (HXb41.out.bel hb)
  replace HXb17 : Hid (HAt V20 b17 g) := Lib.hid (HXb17.out.bel hb)
  replace HXb18 : Hid (EfAt V20 b18 e0) := Lib.hid (HXb18.out.bel hb)
  clear hb
  try simp only [Act.put, List.setIfInBounds_toArray, List.set_cons_zero, List.set_cons_succ]
  refine wpList_one rfl (w' := V20) (v := .tuple #[hv i, .agg (eC e0)]) rfl ?_
  try simp only [Act.put, List.setIfInBounds_toArray, List.set_cons_zero, List.set_cons_succ]
  refine wpList_one rfl (w' := V20) (v := hv i) rfl ?_
  try simp only [Act.put, List.setIfInBounds_toArray, List.set_cons_zero, List.set_cons_succ]
  refine wpList_one rfl (w' := V20) (v := .agg (eC e0)) rfl ?_
  try simp only [Act.put, List.setIfInBounds_toArray, List.set_cons_zero, List.set_cons_succ]
  obtain ⟨hb, hx⟩ := box1 V20 hZ 28
  refine wpList_one rfl (w' := V20.alloc (.cells hZ 28)) (v := .pointer (some ⟨V20.heap.size, 0, none⟩)) (by kernel_rfl) ?_
  try simp only [Act.put, List.setIfInBounds_toArray, List.set_cons_zero, List.set_cons_succ]
  have hl := lt_of_heap HXb18.out
  generalize V20.alloc (.cells hZ 28) = V21 at hb hx ⊢
  generalize V20.heap.size = b19 at hx hl ⊢
  have HG6 := Lib.hid hl
  clear hl
  replace HB : Hid (Bel w V21) := Lib.hid (HB.out.trans hb)
  replace HXb12 : Hid (HAt V21 b12 h) := Lib.hid (HXb12.out.bel hb)
  replace HXb15 : Hid (InAt V21 b15 o 0 (X : Int) (Y : Int) far) := Lib.hid (HXb15.out.bel hb)
  replace HXb16 : Hid (InAt V21 b16 (o2) 0 (X : Int) (Y : Int) far) := Lib.hid (HXb16.out.bel hb)
  replace HXb41 : Hid (SlAt V21 b41 #[.int .i64 6, .int .i64 5, .int .i64 8, .int .i64 7, .int .i64 10, .int .i64 9]) := Lib.hid (HXb41.out.bel hb)
  replace HXb17 : Hid (HAt V21 b17 g) := Lib.hid (HXb17.out.bel hb)
  replace HXb18 : Hid (EfAt V21 b18 e0) := Lib.hid (HXb18.out.bel hb)
  have HXb19 : Hid (HAt V21 b19 (fun _ => 0)) := Lib.hid hx
  clear hb hx
  try simp only [Act.put, List.setIfInBounds_toArray, List.set_cons_zero, List.set_cons_succ]
  obtain ⟨hb, hx⟩ := box1 V21 (eC e0) 34
  refine wpList_one rfl (w' := V21.alloc (.cells (eC e0) 34)) (v := .pointer (some ⟨V21.heap.size, 0, none⟩)) (by kernel_rfl) ?_
  try simp only [Act.put, List.setIfInBounds_toArray, List.set_cons_zero, List.set_cons_succ]
  have hl := lt_of_heap HXb19.out
  generalize V21.alloc (.cells (eC e0) 34) = V22 at hb hx ⊢
  generalize V21.heap.size = b20 at hx hl ⊢
  have HG7 := Lib.hid hl
  clear hl
  replace HB : Hid (Bel w V22) := Lib.hid (HB.out.trans hb)
  replace HXb12 : Hid (HAt V22 b12 h) := Lib.hid (HXb12.out.bel hb)
  replace HXb15 : Hid (InAt V22 b15 o 0 (X : Int) (Y : Int) far) := Lib.hid (HXb15.out.bel hb)
  replace HXb16 : Hid (InAt V22 b16 (o2) 0 (X : Int) (Y : Int) far) := Lib.hid (HXb16.out.bel hb)
  replace HXb41 : Hid (SlAt V22 b41 #[.int .i64 6, .int .i64 5, .int .i64 8, .int .i64 7, .int .i64 10, .int .i64 9]) := Lib.hid (HXb41.out.bel hb)
  replace HXb17 : Hid (HAt V22 b17 g) := Lib.hid (HXb17.out.bel hb)
  replace HXb18 : Hid (EfAt V22 b18 e0) := Lib.hid (HXb18.out.bel hb)
  replace HXb19 : Hid (HAt V22 b19 (fun _ => 0)) := Lib.hid (HXb19.out.bel hb)
  have HXb20 : Hid (EfAt V22 b20 e0) := Lib.hid hx
  clear hb hx
  try simp only [Act.put, List.setIfInBounds_toArray, List.set_cons_zero, List.set_cons_succ]
  refine wpList_store_row rfl 28 (.tmp 19) (.tmp 56) rfl b19 (hC i) rfl rfl 28 (hC (fun _ => 0)) HXb19.out (sz_hart _) (by rw [hC_size, hC_size]) (hC_ones _) ?_
  have hn := row_same (cs := (hC i)) HXb19.out
  have hb := row_bel HB.out (g := b19) (by have := HG.out; have := HG1.out; have := HG2.out; have := HG3.out; have := HG4.out; have := HG5.out; have := HG6.out; have := HG7.out; omega) (hC i)
  have hb12 := (setRow_other V22 b19 b12 (hC i) (by have := HG.out; have := HG1.out; have := HG2.out; have := HG3.out; have := HG4.out; have := HG5.out; have := HG6.out; have := HG7.out; omega)).trans HXb12.out
  have hb15 := (setRow_other V22 b19 b15 (hC i) (by have := HG.out; have := HG1.out; have := HG2.out; have := HG3.out; have := HG4.out; have := HG5.out; have := HG6.out; have := HG7.out; omega)).trans HXb15.out
  have hb16 := (setRow_other V22 b19 b16 (hC i) (by have := HG.out; have := HG1.out; have := HG2.out; have := HG3.out; have := HG4.out; have := HG5.out; have := HG6.out; have := HG7.out; omega)).trans HXb16.out
  have hb41 := (setRow_other V22 b19 b41 (hC i) (by have := HG.out; have := HG1.out; have := HG2.out; have := HG3.out; have := HG4.out; have := HG5.out; have := HG6.out; have := HG7.out; omega)).trans HXb41.out
  have hb17 := (setRow_other V22 b19 b17 (hC i) (by have := HG.out; have := HG1.out; have := HG2.out; have := HG3.out; have := HG4.out; have := HG5.out; have := HG6.out; have := HG7.out; omega)).trans HXb17.out
  have hb18 := (setRow_other V22 b19 b18 (hC i) (by have := HG.out; have := HG1.out; have := HG2.out; have := HG3.out; have := HG4.out; have := HG5.out; have := HG6.out; have := HG7.out; omega)).trans HXb18.out
  have hb20 := (setRow_other V22 b19 b20 (hC i) (by have := HG.out; have := HG1.out; have := HG2.out; have := HG3.out; have := HG4.out; have := HG5.out; have := HG6.out; have := HG7.out; omega)).trans HXb20.out
  generalize V22.setRow b19 (hC i) = V23 at hn hb hb12 hb15 hb16 hb41 hb17 hb18 hb20 ⊢
  clear HB HXb12 HXb15 HXb16 HXb41 HXb17 HXb18 HXb19 HXb20
  have HB : Hid (Bel w V23) := Lib.hid hb
  have HXb12 : Hid (HAt V23 b12 h) := Lib.hid hb12
  have HXb15 : Hid (InAt V23 b15 o 0 (X : Int) (Y : Int) far) := Lib.hid hb15
  have HXb16 : Hid (InAt V23 b16 (o2) 0 (X : Int) (Y : Int) far) := Lib.hid hb16
  have HXb41 : Hid (SlAt V23 b41 #[.int .i64 6, .int .i64 5, .int .i64 8, .int .i64 7, .int .i64 10, .int .i64 9]) := Lib.hid hb41
  have HXb17 : Hid (HAt V23 b17 g) := Lib.hid hb17
  have HXb18 : Hid (EfAt V23 b18 e0) := Lib.hid hb18
  have HXb20 : Hid (EfAt V23 b20 e0) := Lib.hid hb20
  have HXb19 : Hid (HAt V23 b19 i) := Lib.hid hn
  clear hn hb hb12 hb15 hb16 hb41 hb17 hb18 hb20
  try simp only [Act.put, List.setIfInBounds_toArray, List.set_cons_zero, List.set_cons_succ]
  refine wpList_store_row rfl 34 (.tmp 20) (.tmp 57) rfl b20 (eC e0) rfl rfl 34 (eC e0) HXb20.out (sz_eff _) rfl (eC_ones _) ?_
  have hn := row_same (cs := (eC e0)) HXb20.out
  have hb := row_bel HB.out (g := b20) (by have := HG.out; have := HG1.out; have := HG2.out; have := HG3.out; have := HG4.out; have := HG5.out; have := HG6.out; have := HG7.out; omega) (eC e0)
  have hb12 := (setRow_other V23 b20 b12 (eC e0) (by have := HG.out; have := HG1.out; have := HG2.out; have := HG3.out; have := HG4.out; have := HG5.out; have := HG6.out; have := HG7.out; omega)).trans HXb12.out
  have hb15 := (setRow_other V23 b20 b15 (eC e0) (by have := HG.out; have := HG1.out; have := HG2.out; have := HG3.out; have := HG4.out; have := HG5.out; have := HG6.out; have := HG7.out; omega)).trans HXb15.out
  have hb16 := (setRow_other V23 b20 b16 (eC e0) (by have := HG.out; have := HG1.out; have := HG2.out; have := HG3.out; have := HG4.out; have := HG5.out; have := HG6.out; have := HG7.out; omega)).trans HXb16.out
  have hb41 := (setRow_other V23 b20 b41 (eC e0) (by have := HG.out; have := HG1.out; have := HG2.out; have := HG3.out; have := HG4.out; have := HG5.out; have := HG6.out; have := HG7.out; omega)).trans HXb41.out
  have hb17 := (setRow_other V23 b20 b17 (eC e0) (by have := HG.out; have := HG1.out; have := HG2.out; have := HG3.out; have := HG4.out; have := HG5.out; have := HG6.out; have := HG7.out; omega)).trans HXb17.out
  have hb18 := (setRow_other V23 b20 b18 (eC e0) (by have := HG.out; have := HG1.out; have := HG2.out; have := HG3.out; have := HG4.out; have := HG5.out; have := HG6.out; have := HG7.out; omega)).trans HXb18.out
  have hb19 := (setRow_other V23 b20 b19 (eC e0) (by have := HG.out; have := HG1.out; have := HG2.out; have := HG3.out; have := HG4.out; have := HG5.out; have := HG6.out; have := HG7.out; omega)).trans HXb19.out
  generalize V23.setRow b20 (eC e0) = V24 at hn hb hb12 hb15 hb16 hb41 hb17 hb18 hb19 ⊢
  clear HB HXb12 HXb15 HXb16 HXb41 HXb17 HXb18 HXb19 HXb20
  have HB : Hid (Bel w V24) := Lib.hid hb
  have HXb12 : Hid (HAt V24 b12 h) := Lib.hid hb12
  have HXb15 : Hid (InAt V24 b15 o 0 (X : Int) (Y : Int) far) := Lib.hid hb15
  have HXb16 : Hid (InAt V24 b16 (o2) 0 (X : Int) (Y : Int) far) := Lib.hid hb16
  have HXb41 : Hid (SlAt V24 b41 #[.int .i64 6, .int .i64 5, .int .i64 8, .int .i64 7, .int .i64 10, .int .i64 9]) := Lib.hid hb41
  have HXb17 : Hid (HAt V24 b17 g) := Lib.hid hb17
  have HXb18 : Hid (EfAt V24 b18 e0) := Lib.hid hb18
  have HXb19 : Hid (HAt V24 b19 i) := Lib.hid hb19
  have HXb20 : Hid (EfAt V24 b20 e0) := Lib.hid hn
  clear hn hb hb12 hb15 hb16 hb41 hb17 hb18 hb19
  try simp only [Act.put, List.setIfInBounds_toArray, List.set_cons_zero, List.set_cons_succ]
  refine wpList_nil ?_
  refine hK _ _ ?_
  clear hK K
  go_upto_region 10 with (fail)
  rename_i K hK
  refine wp_region_list ?_
  refine wpList_one rfl (w' := V24) (v := .pointer (some ⟨b12, 32, none⟩)) (by kernel_rfl) ?_
  try simp only [Act.put, List.setIfInBounds_toArray, List.set_cons_zero, List.set_cons_succ]
  refine wpList_load_cell rfl 3 (.tmp 58) rfl ⟨b12, 32, none⟩ rfl (.int .i64 (h 32)) _ (HXb12.out.cell (j := 32) (by omega)) Tryd.underlying3 rfl ?_
  try simp only [Act.put, List.setIfInBounds_toArray, List.set_cons_zero, List.set_cons_succ]
  refine wpList_one rfl (w' := V24) (v := .int .i64 far) rfl ?_
  try simp only [Act.put, List.setIfInBounds_toArray, List.set_cons_zero, List.set_cons_succ]
  refine wpList_one rfl (w' := V24) (v := .int .i64 (IntKind.i64.wrap (h 32 + far))) (by kernel_rfl) ?_
  try simp only [Act.put, List.setIfInBounds_toArray, List.set_cons_zero, List.set_cons_succ]
  refine wpList_call rfl (f := 27) (args := #[.int .i64 (IntKind.i64.wrap (h 32 + far))]) (v := .int .i64 m1) (by kernel_rfl) (wl ((w32_i _).trans M1.out) _) ?_
  intro V25 hb
  replace HB : Hid (Bel w V25) := Lib.hid (HB.out.trans hb)
  replace HXb12 : Hid (HAt V25 b12 h) := Lib.hid (HXb12.out.bel hb)
  replace HXb15 : Hid (InAt V25 b15 o 0 (X : Int) (Y : Int) far) := Lib.hid (HXb15.out.bel hb)
  replace HXb16 : Hid (InAt V25 b16 (o2) 0 (X : Int) (Y : Int) far) := Lib.hid (HXb16.out.bel hb)
  replace HXb41 : Hid (SlAt V25 b41 #[.int .i64 6, .int .i64 5, .int .i64 8, .int .i64 7, .int .i64 10, .int .i64 9]) := Lib.hid (HXb41.out.bel hb)
  replace HXb17 : Hid (HAt V25 b17 g) := Lib.hid (HXb17.out.bel hb)
  replace HXb18 : Hid (EfAt V25 b18 e0) := Lib.hid (HXb18.out.bel hb)
  replace HXb19 : Hid (HAt V25 b19 i) := Lib.hid (HXb19.out.bel hb)
  replace HXb20 : Hid (EfAt V25 b20 e0) := Lib.hid (HXb20.out.bel hb)
  clear hb
  try simp only [Act.put, List.setIfInBounds_toArray, List.set_cons_zero, List.set_cons_succ]
  refine wpList_one rfl (w' := V25) (v := .int .i64 m1) rfl ?_
  try simp only [Act.put, List.setIfInBounds_toArray, List.set_cons_zero, List.set_cons_succ]
  refine wpList_nil ?_
  refine hK _ _ ?_
  clear hK K
  go_upto_region 11 with (fail)
  rename_i K hK
  refine wp_region_list ?_
  refine wpList_one rfl (w' := V25) (v := .pointer (some ⟨b12, 32, none⟩)) (by kernel_rfl) ?_
  try simp only [Act.put, List.setIfInBounds_toArray, List.set_cons_zero, List.set_cons_succ]
  refine wpList_load_cell rfl 3 (.tmp 63) rfl ⟨b12, 32, none⟩ rfl (.int .i64 (h 32)) _ (HXb12.out.cell (j := 32) (by omega)) Tryd.underlying3 rfl ?_
  try simp only [Act.put, List.setIfInBounds_toArray, List.set_cons_zero, List.set_cons_succ]
  refine wpList_one rfl (w' := V25) (v := .int .i64 (IntKind.i64.wrap (h 32 + 4))) (by kernel_rfl) ?_
  try simp only [Act.put, List.setIfInBounds_toArray, List.set_cons_zero, List.set_cons_succ]
  refine wpList_call rfl (f := 27) (args := #[.int .i64 (IntKind.i64.wrap (h 32 + 4))]) (v := .int .i64 m2) (by kernel_rfl) (wl ((w32_i _).trans M2.out) _) ?_
  intro V26 hb
  replace HB : Hid (Bel w V26) := Lib.hid (HB.out.trans hb)
  replace HXb12 : Hid (HAt V26 b12 h) := Lib.hid (HXb12.out.bel hb)
  replace HXb15 : Hid (InAt V26 b15 o 0 (X : Int) (Y : Int) far) := Lib.hid (HXb15.out.bel hb)
  replace HXb16 : Hid (InAt V26 b16 (o2) 0 (X : Int) (Y : Int) far) := Lib.hid (HXb16.out.bel hb)
  replace HXb41 : Hid (SlAt V26 b41 #[.int .i64 6, .int .i64 5, .int .i64 8, .int .i64 7, .int .i64 10, .int .i64 9]) := Lib.hid (HXb41.out.bel hb)
  replace HXb17 : Hid (HAt V26 b17 g) := Lib.hid (HXb17.out.bel hb)
  replace HXb18 : Hid (EfAt V26 b18 e0) := Lib.hid (HXb18.out.bel hb)
  replace HXb19 : Hid (HAt V26 b19 i) := Lib.hid (HXb19.out.bel hb)
  replace HXb20 : Hid (EfAt V26 b20 e0) := Lib.hid (HXb20.out.bel hb)
  clear hb
  try simp only [Act.put, List.setIfInBounds_toArray, List.set_cons_zero, List.set_cons_succ]
  refine wpList_one rfl (w' := V26) (v := .int .i64 m2) rfl ?_
  try simp only [Act.put, List.setIfInBounds_toArray, List.set_cons_zero, List.set_cons_succ]
  refine wpList_nil ?_
  refine hK _ _ ?_
  clear hK K
  go_upto_region 12 with (fail)
  clear HO HN HL HNC HH I1 I2 I3 I4 R1 R2 R3 R4 A1 A2 A3 HS Z0 Wo Wo2 WX WY WF S1 S2 M1 M2
  rename_i K hK
  refine wp_region_list ?_
  with_reducible refine BigFrame.wpList_want ?_ (fun K2 hK2 => ?_)
  · kernel_rfl
  refine wp_one (w' := V26) (v := .bool true) rfl ?_
  with_reducible refine hK2 _ _ ?_
  clear hK2 K2
  try simp only [Act.put, List.setIfInBounds_toArray, List.set_cons_zero, List.set_cons_succ]
  with_reducible refine BigFrame.wpList_want ?_ (fun K2 hK2 => ?_)
  · kernel_rfl
  refine wp_one (w' := V26) (v := .bool true) rfl ?_
  with_reducible refine hK2 _ _ ?_
  clear hK2 K2
  try simp only [Act.put, List.setIfInBounds_toArray, List.set_cons_zero, List.set_cons_succ]
  with_reducible refine BigFrame.wpList_want ?_ (fun K2 hK2 => ?_)
  · kernel_rfl
  refine wp_one (w' := V26) (v := .agg (eC e0)) (exec_row 34 (.tmp 18) rfl b18 rfl 34 (eC e0) (0, 0) _ HXb18.out Tryd.underlying34 rfl (sz_eff _)) ?_
  with_reducible refine hK2 _ _ ?_
  clear hK2 K2
  try simp only [Act.put, List.setIfInBounds_toArray, List.set_cons_zero, List.set_cons_succ]
  with_reducible refine BigFrame.wpList_want ?_ (fun K2 hK2 => ?_)
  · kernel_rfl
  refine wp_one (w' := V26) (v := .agg (eC e0)) (by kernel_rfl) ?_
  with_reducible refine hK2 _ _ ?_
  clear hK2 K2
  try simp only [Act.put, List.setIfInBounds_toArray, List.set_cons_zero, List.set_cons_succ]
  with_reducible refine BigFrame.wpList_want ?_ (fun K2 hK2 => ?_)
  · kernel_rfl
  refine wp_one (w' := V26) (v := .bool true) (exec_eqE rfl rfl rfl (rfl) V26) ?_
  with_reducible refine hK2 _ _ ?_
  clear hK2 K2
  try simp only [Act.put, List.setIfInBounds_toArray, List.set_cons_zero, List.set_cons_succ]
  with_reducible refine BigFrame.wpList_want ?_ (fun K2 hK2 => ?_)
  · kernel_rfl
  refine wp_one (w' := V26) (v := .bool true) (by kernel_rfl) ?_
  with_reducible refine hK2 _ _ ?_
  clear hK2 K2
  try simp only [Act.put, List.setIfInBounds_toArray, List.set_cons_zero, List.set_cons_succ]
  with_reducible refine BigFrame.wpList_want ?_ (fun K2 hK2 => ?_)
  · kernel_rfl
  refine wp_one (w' := V26) (v := .bool true) rfl ?_
  with_reducible refine hK2 _ _ ?_
  clear hK2 K2
  try simp only [Act.put, List.setIfInBounds_toArray, List.set_cons_zero, List.set_cons_succ]
  with_reducible refine BigFrame.wpList_want ?_ (fun K2 hK2 => ?_)
  · kernel_rfl
  refine wp_one (w' := V26) (v := .agg (eC e0)) (exec_row 34 (.tmp 20) rfl b20 rfl 34 (eC e0) (0, 0) _ HXb20.out Tryd.underlying34 rfl (sz_eff _)) ?_
  with_reducible refine hK2 _ _ ?_
  clear hK2 K2
  try simp only [Act.put, List.setIfInBounds_toArray, List.set_cons_zero, List.set_cons_succ]
  with_reducible refine BigFrame.wpList_want ?_ (fun K2 hK2 => ?_)
  · kernel_rfl
  refine wp_one (w' := V26) (v := .agg (eC e0)) (exec_row 34 (.tmp 18) rfl b18 rfl 34 (eC e0) (0, 0) _ HXb18.out Tryd.underlying34 rfl (sz_eff _)) ?_
  with_reducible refine hK2 _ _ ?_
  clear hK2 K2
  try simp only [Act.put, List.setIfInBounds_toArray, List.set_cons_zero, List.set_cons_succ]
  with_reducible refine BigFrame.wpList_want ?_ (fun K2 hK2 => ?_)
  · kernel_rfl
  refine wp_one (w' := V26) (v := .bool true) (exec_eqE rfl rfl rfl (rfl) V26) ?_
  with_reducible refine hK2 _ _ ?_
  clear hK2 K2
  try simp only [Act.put, List.setIfInBounds_toArray, List.set_cons_zero, List.set_cons_succ]
  with_reducible refine BigFrame.wpList_want ?_ (fun K2 hK2 => ?_)
  · kernel_rfl
  refine wp_one (w' := V26) (v := .bool true) (by kernel_rfl) ?_
  with_reducible refine hK2 _ _ ?_
  clear hK2 K2
  try simp only [Act.put, List.setIfInBounds_toArray, List.set_cons_zero, List.set_cons_succ]
  with_reducible refine BigFrame.wpList_want ?_ (fun K2 hK2 => ?_)
  · kernel_rfl
  refine wp_one (w' := V26) (v := .bool true) rfl ?_
  with_reducible refine hK2 _ _ ?_
  clear hK2 K2
  try simp only [Act.put, List.setIfInBounds_toArray, List.set_cons_zero, List.set_cons_succ]
  with_reducible refine BigFrame.wpList_want ?_ (fun K2 hK2 => ?_)
  · kernel_rfl
  refine wp_one (w' := V26) (v := .pointer (some ⟨b17, 32, none⟩)) (by kernel_rfl) ?_
  with_reducible refine hK2 _ _ ?_
  clear hK2 K2
  try simp only [Act.put, List.setIfInBounds_toArray, List.set_cons_zero, List.set_cons_succ]
  with_reducible refine BigFrame.wpList_want ?_ (fun K2 hK2 => ?_)
  · kernel_rfl
  refine wp_one (w' := V26) (v := .int .i64 (g 32)) (exec_cell 3 (.tmp 79) rfl ⟨b17, 32, none⟩ rfl _ _ (HXb17.out.cell (j := 32) (by omega)) Tryd.underlying3 rfl) ?_
  with_reducible refine hK2 _ _ ?_
  clear hK2 K2
  try simp only [Act.put, List.setIfInBounds_toArray, List.set_cons_zero, List.set_cons_succ]
  with_reducible refine BigFrame.wpList_want ?_ (fun K2 hK2 => ?_)
  · kernel_rfl
  refine wp_one (w' := V26) (v := .int .i64 m1) rfl ?_
  with_reducible refine hK2 _ _ ?_
  clear hK2 K2
  try simp only [Act.put, List.setIfInBounds_toArray, List.set_cons_zero, List.set_cons_succ]
  with_reducible refine BigFrame.wpList_want ?_ (fun K2 hK2 => ?_)
  · kernel_rfl
  refine wp_one (w' := V26) (v := .bool false) (exec_eqF rfl rfl rfl (D1.out) V26) ?_
  with_reducible refine hK2 _ _ ?_
  clear hK2 K2
  try simp only [Act.put, List.setIfInBounds_toArray, List.set_cons_zero, List.set_cons_succ]
  with_reducible refine BigFrame.wpList_want ?_ (fun K2 hK2 => ?_)
  · kernel_rfl
  refine wp_one (w' := V26) (v := .bool false) rfl ?_
  with_reducible refine hK2 _ _ ?_
  clear hK2 K2
  try simp only [Act.put, List.setIfInBounds_toArray, List.set_cons_zero, List.set_cons_succ]
  with_reducible refine wpList_skip ?_ ?_
  · kernel_rfl
  try simp only [Act.put, List.setIfInBounds_toArray, List.set_cons_zero, List.set_cons_succ]
  with_reducible refine wpList_skip ?_ ?_
  · kernel_rfl
  try simp only [Act.put, List.setIfInBounds_toArray, List.set_cons_zero, List.set_cons_succ]
  with_reducible refine wpList_skip ?_ ?_
  · kernel_rfl
  try simp only [Act.put, List.setIfInBounds_toArray, List.set_cons_zero, List.set_cons_succ]
  with_reducible refine wpList_skip ?_ ?_
  · kernel_rfl
  try simp only [Act.put, List.setIfInBounds_toArray, List.set_cons_zero, List.set_cons_succ]
  with_reducible refine BigFrame.wpList_want ?_ (fun K2 hK2 => ?_)
  · kernel_rfl
  refine wp_one (w' := V26) (v := .bool false) (by kernel_rfl) ?_
  with_reducible refine hK2 _ _ ?_
  clear hK2 K2
  try simp only [Act.put, List.setIfInBounds_toArray, List.set_cons_zero, List.set_cons_succ]
  with_reducible refine BigFrame.wpList_want ?_ (fun K2 hK2 => ?_)
  · kernel_rfl
  refine wp_one (w' := V26) (v := .bool false) rfl ?_
  with_reducible refine hK2 _ _ ?_
  clear hK2 K2
  try simp only [Act.put, List.setIfInBounds_toArray, List.set_cons_zero, List.set_cons_succ]
  with_reducible refine BigFrame.wpList_want ?_ (fun K2 hK2 => ?_)
  · kernel_rfl
  refine wp_one (w' := V26) (v := .pointer (some ⟨b17, 32, none⟩)) (by kernel_rfl) ?_
  with_reducible refine hK2 _ _ ?_
  clear hK2 K2
  try simp only [Act.put, List.setIfInBounds_toArray, List.set_cons_zero, List.set_cons_succ]
  with_reducible refine BigFrame.wpList_want ?_ (fun K2 hK2 => ?_)
  · kernel_rfl
  refine wp_one (w' := V26) (v := .int .i64 (g 32)) (exec_cell 3 (.tmp 90) rfl ⟨b17, 32, none⟩ rfl _ _ (HXb17.out.cell (j := 32) (by omega)) Tryd.underlying3 rfl) ?_
  with_reducible refine hK2 _ _ ?_
  clear hK2 K2
  try simp only [Act.put, List.setIfInBounds_toArray, List.set_cons_zero, List.set_cons_succ]
  with_reducible refine BigFrame.wpList_want ?_ (fun K2 hK2 => ?_)
  · kernel_rfl
  refine wp_one (w' := V26) (v := .int .i64 m2) rfl ?_
  with_reducible refine hK2 _ _ ?_
  clear hK2 K2
  try simp only [Act.put, List.setIfInBounds_toArray, List.set_cons_zero, List.set_cons_succ]
  with_reducible refine BigFrame.wpList_want ?_ (fun K2 hK2 => ?_)
  · kernel_rfl
  refine wp_one (w' := V26) (v := .bool true) (exec_eqI rfl rfl rfl (C1.out) V26) ?_
  with_reducible refine hK2 _ _ ?_
  clear hK2 K2
  try simp only [Act.put, List.setIfInBounds_toArray, List.set_cons_zero, List.set_cons_succ]
  with_reducible refine BigFrame.wpList_want ?_ (fun K2 hK2 => ?_)
  · kernel_rfl
  refine wp_one (w' := V26) (v := .bool true) rfl ?_
  with_reducible refine hK2 _ _ ?_
  clear hK2 K2
  try simp only [Act.put, List.setIfInBounds_toArray, List.set_cons_zero, List.set_cons_succ]
  with_reducible refine BigFrame.wpList_want ?_ (fun K2 hK2 => ?_)
  · kernel_rfl
  refine wp_one (w' := V26) (v := .pointer (some ⟨b19, 32, none⟩)) (by kernel_rfl) ?_
  with_reducible refine hK2 _ _ ?_
  clear hK2 K2
  try simp only [Act.put, List.setIfInBounds_toArray, List.set_cons_zero, List.set_cons_succ]
  with_reducible refine BigFrame.wpList_want ?_ (fun K2 hK2 => ?_)
  · kernel_rfl
  refine wp_one (w' := V26) (v := .int .i64 (i 32)) (exec_cell 3 (.tmp 95) rfl ⟨b19, 32, none⟩ rfl _ _ (HXb19.out.cell (j := 32) (by omega)) Tryd.underlying3 rfl) ?_
  with_reducible refine hK2 _ _ ?_
  clear hK2 K2
  try simp only [Act.put, List.setIfInBounds_toArray, List.set_cons_zero, List.set_cons_succ]
  with_reducible refine BigFrame.wpList_want ?_ (fun K2 hK2 => ?_)
  · kernel_rfl
  refine wp_one (w' := V26) (v := .int .i64 m1) rfl ?_
  with_reducible refine hK2 _ _ ?_
  clear hK2 K2
  try simp only [Act.put, List.setIfInBounds_toArray, List.set_cons_zero, List.set_cons_succ]
  with_reducible refine BigFrame.wpList_want ?_ (fun K2 hK2 => ?_)
  · kernel_rfl
  refine wp_one (w' := V26) (v := .bool true) (exec_eqI rfl rfl rfl (C2.out) V26) ?_
  with_reducible refine hK2 _ _ ?_
  clear hK2 K2
  try simp only [Act.put, List.setIfInBounds_toArray, List.set_cons_zero, List.set_cons_succ]
  with_reducible refine BigFrame.wpList_want ?_ (fun K2 hK2 => ?_)
  · kernel_rfl
  refine wp_one (w' := V26) (v := .bool true) (by kernel_rfl) ?_
  with_reducible refine hK2 _ _ ?_
  clear hK2 K2
  try simp only [Act.put, List.setIfInBounds_toArray, List.set_cons_zero, List.set_cons_succ]
  with_reducible refine BigFrame.wpList_want ?_ (fun K2 hK2 => ?_)
  · kernel_rfl
  refine wp_one (w' := V26) (v := .bool true) (by kernel_rfl) ?_
  with_reducible refine hK2 _ _ ?_
  clear hK2 K2
  try simp only [Act.put, List.setIfInBounds_toArray, List.set_cons_zero, List.set_cons_succ]
  with_reducible refine BigFrame.wpList_want ?_ (fun K2 hK2 => ?_)
  · kernel_rfl
  refine wp_one (w' := V26) (v := .bool true) (by kernel_rfl) ?_
  with_reducible refine hK2 _ _ ?_
  clear hK2 K2
  try simp only [Act.put, List.setIfInBounds_toArray, List.set_cons_zero, List.set_cons_succ]
  with_reducible refine BigFrame.wpList_want ?_ (fun K2 hK2 => ?_)
  · kernel_rfl
  refine wp_one (w' := V26) (v := .bool true) rfl ?_
  with_reducible refine hK2 _ _ ?_
  clear hK2 K2
  try simp only [Act.put, List.setIfInBounds_toArray, List.set_cons_zero, List.set_cons_succ]
  with_reducible refine BigFrame.wpList_want ?_ (fun K2 hK2 => ?_)
  · kernel_rfl
  refine wp_one (w' := V26) (v := .pointer (some ⟨b17, 0, none⟩)) (by kernel_rfl) ?_
  with_reducible refine hK2 _ _ ?_
  clear hK2 K2
  try simp only [Act.put, List.setIfInBounds_toArray, List.set_cons_zero, List.set_cons_succ]
  with_reducible refine BigFrame.wpList_want ?_ (fun K2 hK2 => ?_)
  · kernel_rfl
  refine wp_one (w' := V26) (v := rV g) (exec_regs (.tmp 103) rfl b17 rfl HXb17.out) ?_
  with_reducible refine hK2 _ _ ?_
  clear hK2 K2
  try simp only [Act.put, List.setIfInBounds_toArray, List.set_cons_zero, List.set_cons_succ]
  with_reducible refine BigFrame.wpList_want ?_ (fun K2 hK2 => ?_)
  · kernel_rfl
  refine wp_one (w' := V26) (v := .pointer (some ⟨b12, 0, none⟩)) (by kernel_rfl) ?_
  with_reducible refine hK2 _ _ ?_
  clear hK2 K2
  try simp only [Act.put, List.setIfInBounds_toArray, List.set_cons_zero, List.set_cons_succ]
  with_reducible refine BigFrame.wpList_want ?_ (fun K2 hK2 => ?_)
  · kernel_rfl
  refine wp_one (w' := V26) (v := rV h) (exec_regs (.tmp 105) rfl b12 rfl HXb12.out) ?_
  with_reducible refine hK2 _ _ ?_
  clear hK2 K2
  try simp only [Act.put, List.setIfInBounds_toArray, List.set_cons_zero, List.set_cons_succ]
  with_reducible refine BigFrame.wpList_want ?_ (fun K2 hK2 => ?_)
  · kernel_rfl
  refine wp_one (w' := V26) (v := .bool true) (exec_eqR rfl rfl rfl (C3.out) V26) ?_
  with_reducible refine hK2 _ _ ?_
  clear hK2 K2
  try simp only [Act.put, List.setIfInBounds_toArray, List.set_cons_zero, List.set_cons_succ]
  with_reducible refine BigFrame.wpList_want ?_ (fun K2 hK2 => ?_)
  · kernel_rfl
  refine wp_one (w' := V26) (v := .bool true) (by kernel_rfl) ?_
  with_reducible refine hK2 _ _ ?_
  clear hK2 K2
  try simp only [Act.put, List.setIfInBounds_toArray, List.set_cons_zero, List.set_cons_succ]
  with_reducible refine BigFrame.wpList_want ?_ (fun K2 hK2 => ?_)
  · kernel_rfl
  refine wp_one (w' := V26) (v := .bool true) rfl ?_
  with_reducible refine hK2 _ _ ?_
  clear hK2 K2
  try simp only [Act.put, List.setIfInBounds_toArray, List.set_cons_zero, List.set_cons_succ]
  refine wpList_nil ?_
  refine hK _ _ ?_
  clear hK K
  go_wp2
  go_ret
  exact ⟨rfl, HB.out⟩
theorem r_br {o a b n : Int} (ho : 5 ≤ o ∧ o ≤ 10) (ha : 0 ≤ a ∧ a < 32) (hb : 0 ≤ b ∧ b < 32) (hn : -4096 ≤ n ∧ n ≤ 4094 ∧ n % 2 = 0) : Rv.right ⟨o, 0, a, b, n⟩ = true := by
  have hf : Rv.form o = 66 := by
    have : o = 5 ∨ o = 6 ∨ o = 7 ∨ o = 8 ∨ o = 9 ∨ o = 10 := by omega
    rcases this with rfl | rfl | rfl | rfl | rfl | rfl <;> decide +kernel
  unfold Rv.right
  simp only [hf]
  simp [Rv.reg, Rv.hasD, Rv.hasA, Rv.hasB, Rv.num]
  omega
theorem step_br {h : H} {id o : Int} {X Y : Nat} {n : Int} (ho : 5 ≤ o ∧ o ≤ 10) (hr : Rv.right ⟨o, 0, X, Y, n⟩ = true) : stepV h id ⟨o, 0, X, Y, n⟩ = (Ht.go h (if leadsV h o.toNat X Y = true then n else 4), e0) := by
  unfold stepV
  rw [if_neg (by rw [hr]; decide), if_neg (by simp only; omega), if_neg (by simp only; omega), if_pos ho]
  simp only [Int.toNat_natCast]
def opp (k : Nat) : Int := if k = 0 then 6 else if k = 1 then 5 else if k = 2 then 8 else if k = 3 then 7 else if k = 4 then 10 else 9
theorem two13 (a b : Int) : Plain.two 13 a b = if wrap32 a = wrap32 b then 1 else 0 := rfl
theorem two14 (a b : Int) : Plain.two 14 a b = if wrap32 a ≠ wrap32 b then 1 else 0 := rfl
theorem leads_opp (h : H) {k : Nat} (hk : k < 6) (X Y : Nat) : leadsV h (opp k).toNat X Y = !leadsV h (5 + k) X Y := by
  have : k = 0 ∨ k = 1 ∨ k = 2 ∨ k = 3 ∨ k = 4 ∨ k = 5 := by omega
  rcases this with rfl | rfl | rfl | rfl | rfl | rfl
  · show decide (Plain.two 14 (h X) (h Y) ≠ 0) = !decide (Plain.two 13 (h X) (h Y) ≠ 0)
    rw [two13, two14]
    by_cases c : wrap32 (h X) = wrap32 (h Y) <;> simp [c]
  · show decide (Plain.two 13 (h X) (h Y) ≠ 0) = !decide (Plain.two 14 (h X) (h Y) ≠ 0)
    rw [two13, two14]
    by_cases c : wrap32 (h X) = wrap32 (h Y) <;> simp [c]
  · show decide (Plain.two 11 (h X) (h Y) = 0) = !decide (Plain.two 11 (h X) (h Y) ≠ 0)
    by_cases c : Plain.two 11 (h X) (h Y) = 0 <;> simp [c]
  · show decide (Plain.two 11 (h X) (h Y) ≠ 0) = !decide (Plain.two 11 (h X) (h Y) = 0)
    by_cases c : Plain.two 11 (h X) (h Y) = 0 <;> simp [c]
  · show decide (Plain.two 12 (h X) (h Y) = 0) = !decide (Plain.two 12 (h X) (h Y) ≠ 0)
    by_cases c : Plain.two 12 (h X) (h Y) = 0 <;> simp [c]
  · show decide (Plain.two 12 (h X) (h Y) ≠ 0) = !decide (Plain.two 12 (h X) (h Y) = 0)
    by_cases c : Plain.two 12 (h X) (h Y) = 0 <;> simp [c]
theorem opp_at {k : Nat} (hk : k < 6) : (#[.int .i64 6, .int .i64 5, .int .i64 8, .int .i64 7, .int .i64 10, .int .i64 9] : Array Value)[k]? = some (.int .i64 (opp k)) := by
  have : k = 0 ∨ k = 1 ∨ k = 2 ∨ k = 3 ∨ k = 4 ∨ k = 5 := by omega
  rcases this with rfl | rfl | rfl | rfl | rfl | rfl <;> rfl
theorem opp_bd {k : Nat} (hk : k < 6) : 5 ≤ opp k ∧ opp k ≤ 10 := by
  unfold opp
  repeat' split
  all_goals omega
theorem branches_any (w : World) {P : Option Addr} {N C : Nat} {l : List Int} {c1 c2 c3 c4 : Int} (hO : OpsAt w) (hn : l.length = N) (hL : IntsQ w P l) (hNC : N ≤ C) (i1 : inInt c1) (i2 : inInt c2) (i3 : inInt c3) (i4 : inInt c4) :
    Calls Tryd.prog 8 #[.slice P N C, .int .i64 c1, .int .i64 c2, .int .i64 c3, .int .i64 c4] w (OneV (.bool true) w) := by
  obtain ⟨h, hh⟩ : ∃ h, fitV l = h := ⟨_, rfl⟩
  obtain ⟨k, r1, lk⟩ := pick_nat c1 6 (by decide)
  obtain ⟨X, r2, lX⟩ := pick_nat c2 32 (by decide)
  obtain ⟨Y, r3, lY⟩ := pick_nat c3 32 (by decide)
  obtain ⟨p4, r4⟩ : ∃ p, Plain.pick c4 500 = p := ⟨_, rfl⟩
  have b4 := Plain.pick_bd c4 500 (by omega)
  rw [r4] at b4
  obtain ⟨o2, ho2⟩ : ∃ o, opp k = o := ⟨_, rfl⟩
  have hs := opp_at lk
  have b2 := opp_bd lk
  have lo := leads_opp h lk X Y
  rw [ho2] at hs b2 lo
  have ra : Rv.right ⟨5 + (k : Int), 0, X, Y, 8 + 4 * p4⟩ = true := r_br (by omega) (by omega) (by omega) (by omega)
  have rb : Rv.right ⟨o2, 0, X, Y, 8 + 4 * p4⟩ = true := r_br b2 (by omega) (by omega) (by omega)
  have s1 := step_br (h := h) (id := 0) (by omega) ra
  have s2 := step_br (h := h) (id := 0) b2 rb
  have ek : (5 + (k : Int)).toNat = 5 + k := by omega
  rw [ek] at s1
  have gk : ∀ (x : Int) (j : Nat), j < 32 → Ht.go h x j = h j := fun x j hj => up_ne _ _ (by omega)
  have A1 : IntKind.i64.wrap (4 * p4) = 4 * p4 := IntWalk.i64_in _ (by omega)
  have A2 : IntKind.i64.wrap (8 + 4 * p4) = 8 + 4 * p4 := IntWalk.i64_in _ (by omega)
  have A3 : IntKind.i64.wrap (5 + (k : Int)) = 5 + (k : Int) := IntWalk.i64_in _ (by omega)
  cases q : leadsV h (5 + k) X Y with
  | true =>
    rw [q] at s1 lo
    rw [lo] at s2
    exact branches_yes w lk lX lY (Lib.hid hO) (Lib.hid hn) (Lib.hid hL) (Lib.hid hNC) (Lib.hid hh) (Lib.hid i1) (Lib.hid i2) (Lib.hid i3) (Lib.hid i4) (Lib.hid r1) (Lib.hid r2) (Lib.hid r3) (Lib.hid r4) (Lib.hid A1) (Lib.hid A2) (Lib.hid A3) (Lib.hid hs)
      (Lib.hid (by omega)) (Lib.hid (by omega)) (Lib.hid (by omega)) (Lib.hid (by omega)) (Lib.hid (by omega)) (Lib.hid (by omega)) (Lib.hid s1) (Lib.hid s2) (Lib.hid rfl) (Lib.hid rfl) (Lib.hid rfl) (Lib.hid rfl) (Lib.hid (gk _))
  | false =>
    rw [q] at s1 lo
    rw [lo] at s2
    exact branches_no w lk lX lY (Lib.hid hO) (Lib.hid hn) (Lib.hid hL) (Lib.hid hNC) (Lib.hid hh) (Lib.hid i1) (Lib.hid i2) (Lib.hid i3) (Lib.hid i4) (Lib.hid r1) (Lib.hid r2) (Lib.hid r3) (Lib.hid r4) (Lib.hid A1) (Lib.hid A2) (Lib.hid A3) (Lib.hid hs)
      (Lib.hid (by omega)) (Lib.hid (by omega)) (Lib.hid (by omega)) (Lib.hid (by omega)) (Lib.hid (by omega)) (Lib.hid (by omega)) (Lib.hid s1) (Lib.hid s2) (Lib.hid rfl) (Lib.hid rfl) (Lib.hid rfl) (Lib.hid rfl) (Lib.hid (gk _))
      (Lib.hid (by show wrap32 (h 32 + 4) ≠ wrap32 (h 32 + (8 + 4 * p4)); unfold wrap32; omega))
end Go.Proofs.YtgcgdjmlngfpeaaDoor
