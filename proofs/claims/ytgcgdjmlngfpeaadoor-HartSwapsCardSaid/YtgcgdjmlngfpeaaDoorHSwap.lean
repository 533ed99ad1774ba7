/- HartSwaps: what a control register had is told; written back, it has it again. -/
import Derived.Test.YtgcgdjmlngfpeaaDoorHRegs
import Derived.Test.YtgcgdjmlngfpeaaDoorHBits
namespace Go.Proofs.YtgcgdjmlngfpeaaDoor
open Go.RowKit Ht
set_option linter.unusedVariables false
set_option linter.unusedSimpArgs false
set_option maxHeartbeats 16000000
set_option maxRecDepth 100000 in
theorem swaps_w (w : World) {P : Option Addr} {N C : Nat} {l : List Int} {c1 n c bt n1 m m2 : Int} {k : Nat} {h0 h a b p q r : H} (HO : Hid (OpsAt w)) (HN : Hid (l.length = N)) (HL : Hid (IntsQ w P l)) (HNC : Hid (N ≤ C)) (HH : Hid (fitV l = h0)) (P1 : Hid (put h0 9 n = h)) (I1 : Hid (inInt c1)) (R1 : Hid (Plain.pick c1 6 = (k : Int))) (lk : k < 6)
    (HS1 : Hid ((#[.int .i64 768, .int .i64 773, .int .i64 832, .int .i64 833, .int .i64 834, .int .i64 1984] : Array Value)[k]? = some (.int .i64 c))) (HS2 : Hid ((#[.int .i64 136, .int .i64 (-4), .int .i64 (-1), .int .i64 (-4), .int .i64 (-1), .int .i64 (-1)] : Array Value)[k]? = some (.int .i64 bt)))
    (Wc : Hid (i64 c)) (W0_ : Hid (i64 0)) (W9 : Hid (i64 9)) (W10 : Hid (i64 10)) (W11 : Hid (i64 11)) (W12 : Hid (i64 12)) (W40 : Hid (i64 40)) (W41 : Hid (i64 41)) (W42 : Hid (i64 42))
    (S1 : Hid (stepV h 0 ⟨40, 10, 9, 0, c⟩ = (a, e0))) (S2 : Hid (stepV a 0 ⟨40, 11, 10, 0, c⟩ = (b, e0))) (S3 : Hid (stepV h 0 ⟨41, 10, 9, 0, c⟩ = (p, e0))) (S4 : Hid (stepV p 0 ⟨42, 11, 9, 0, c⟩ = (q, e0))) (S5 : Hid (stepV q 0 ⟨41, 12, 0, 0, c⟩ = (r, e0)))
    (N1 : Hid (wrap32 n = n1)) (X1 : Hid (bits .and .i64 n1 bt = m)) (N2 : Hid (wrap32 (h 32 + 8) = m2)) (C1 : Hid (b 11 = m)) (C2 : Hid (∀ i, i < 39 → (up (regsOf h b) 32 (h 32)) i = h i)) (C3 : Hid (bits .and .i64 (q 11) m = m)) (C4 : Hid (q 10 = a 10)) (C5 : Hid (bits .and .i64 (r 12) m = 0)) (C6 : Hid (b 32 = m2)) :
    Calls Tryd.prog 7 #[.slice P N C, .int .i64 c1, .int .i64 n] w (OneV (.bool true) w) := by
  go_enter Tryd.func7, Tryd.ntmps7
  have HB : Hid (Bel w w) := Lib.hid (Bel.refl w)
  go_upto_region 1 with (fail)
  rename_i K hK
  refine wp_region_list ?_
  refine wpList_call rfl (f := 12) (args := #[]) (v := .bool true) (by kernel_rfl) (awake_any (HO.out.bel HB.out)) ?_
  intro V1 hb
  replace HB : Hid (Bel w V1) := Lib.hid (HB.out.trans hb)
  clear hb
  try simp only [Act.put, List.setIfInBounds_toArray, List.set_cons_zero, List.set_cons_succ]
  refine wpList_one rfl (w' := V1) (v := .bool true) rfl ?_
  try simp only [Act.put, List.setIfInBounds_toArray, List.set_cons_zero, List.set_cons_succ]
  refine wpList_nil ?_
  refine hK _ _ ?_
  clear hK K
  go_upto_region 2 with (fail)
  rename_i K hK
  refine wp_region_list ?_
  refine wpList_one rfl (w' := V1) (v := .slice P N C) rfl ?_
  try simp only [Act.put, List.setIfInBounds_toArray, List.set_cons_zero, List.set_cons_succ]
  refine wpList_call rfl (f := 13) (args := #[.slice P N C]) (v := hv h0) (by kernel_rfl) (fit_lit14 HH.out HN.out (HL.out.bel HB.out) HNC.out) ?_
  intro V2 hb
  replace HB : Hid (Bel w V2) := Lib.hid (HB.out.trans hb)
  clear hb
  try simp only [Act.put, List.setIfInBounds_toArray, List.set_cons_zero, List.set_cons_succ]
  refine wpList_one rfl (w' := V2) (v := .int .i64 n) rfl ?_
  try simp only [Act.put, List.setIfInBounds_toArray, List.set_cons_zero, List.set_cons_succ]
  refine wpList_call rfl (f := 18) (args := #[hv h0, .int .i64 9, .int .i64 n]) (v := hv h) (by kernel_rfl) (put_lit P1.out _) ?_
  intro V3 hb
  replace HB : Hid (Bel w V3) := Lib.hid (HB.out.trans hb)
  clear hb
  try simp only [Act.put, List.setIfInBounds_toArray, List.set_cons_zero, List.set_cons_succ]
  obtain ⟨hb, hx⟩ := box1 V3 hZ 28
  refine wpList_one rfl (w' := V3.alloc (.cells hZ 28)) (v := .pointer (some ⟨V3.heap.size, 0, none⟩)) (by kernel_rfl) ?_
  try simp only [Act.put, List.setIfInBounds_toArray, List.set_cons_zero, List.set_cons_succ]
  have hl := HB.out.size
  generalize V3.alloc (.cells hZ 28) = V4 at hb hx ⊢
  generalize V3.heap.size = b8 at hx hl ⊢
  have HG := Lib.hid hl
  clear hl
  replace HB : Hid (Bel w V4) := Lib.hid (HB.out.trans hb)
  have HXb8 : Hid (HAt V4 b8 (fun _ => 0)) := Lib.hid hx
  clear hb hx
  try simp only [Act.put, List.setIfInBounds_toArray, List.set_cons_zero, List.set_cons_succ]
  refine wpList_store_row rfl 28 (.tmp 8) (.tmp 27) rfl b8 (hC h) rfl rfl 28 (hC (fun _ => 0)) HXb8.out (sz_hart _) (by rw [hC_size, hC_size]) (hC_ones _) ?_
  have hn := row_same (cs := (hC h)) HXb8.out
  have hb := row_bel HB.out (g := b8) (by have := HG.out; omega) (hC h)
  generalize V4.setRow b8 (hC h) = V5 at hn hb  ⊢
  clear HB HXb8
  have HB : Hid (Bel w V5) := Lib.hid hb
  have HXb8 : Hid (HAt V5 b8 h) := Lib.hid hn
  clear hn hb 
  try simp only [Act.put, List.setIfInBounds_toArray, List.set_cons_zero, List.set_cons_succ]
  refine wpList_nil ?_
  refine hK _ _ ?_
  clear hK K
  go_upto_region 3 with (fail)
  rename_i K hK
  refine wp_region_list ?_
  obtain ⟨hb, hx⟩ := box1 V5 #[.int .i64 768, .int .i64 773, .int .i64 832, .int .i64 833, .int .i64 834, .int .i64 1984] 3
  refine wpList_one rfl (w' := V5.alloc (.cells #[.int .i64 768, .int .i64 773, .int .i64 832, .int .i64 833, .int .i64 834, .int .i64 1984] 3)) (v := .slice (some ⟨V5.heap.size, 0, none⟩) 6 6) (by kernel_rfl) ?_
  try simp only [Act.put, List.setIfInBounds_toArray, List.set_cons_zero, List.set_cons_succ]
  have hl := lt_of_heap HXb8.out
  generalize V5.alloc (.cells #[.int .i64 768, .int .i64 773, .int .i64 832, .int .i64 833, .int .i64 834, .int .i64 1984] 3) = V6 at hb hx ⊢
  generalize V5.heap.size = b28 at hx hl ⊢
  have HG1 := Lib.hid hl
  clear hl
  replace HB : Hid (Bel w V6) := Lib.hid (HB.out.trans hb)
  replace HXb8 : Hid (HAt V6 b8 h) := Lib.hid (HXb8.out.bel hb)
  have HXb28 : Hid (SlAt V6 b28 #[.int .i64 768, .int .i64 773, .int .i64 832, .int .i64 833, .int .i64 834, .int .i64 1984]) := Lib.hid hx
  clear hb hx
  try simp only [Act.put, List.setIfInBounds_toArray, List.set_cons_zero, List.set_cons_succ]
  refine wpList_one rfl (w' := V6) (v := .int .i64 c1) rfl ?_
  try simp only [Act.put, List.setIfInBounds_toArray, List.set_cons_zero, List.set_cons_succ]
  refine wpList_call rfl (f := 15) (args := #[.int .i64 c1, .int .i64 6]) (v := .int .i64 (k : Int)) (by kernel_rfl) (pk I1.out (by decide) R1.out _) ?_
  intro V7 hb
  replace HB : Hid (Bel w V7) := Lib.hid (HB.out.trans hb)
  replace HXb8 : Hid (HAt V7 b8 h) := Lib.hid (HXb8.out.bel hb)
  replace HXb28 : Hid (SlAt V7 b28 #[.int .i64 768, .int .i64 773, .int .i64 832, .int .i64 833, .int .i64 834, .int .i64 1984]) := Lib.hid (HXb28.out.bel hb)
  clear hb
  try simp only [Act.put, List.setIfInBounds_toArray, List.set_cons_zero, List.set_cons_succ]
  refine wpList_one rfl (w' := V7) (v := .pointer (some ⟨b28, k, none⟩)) (exec_sl6 rfl b28 k (by omega) rfl rfl _) ?_
  try simp only [Act.put, List.setIfInBounds_toArray, List.set_cons_zero, List.set_cons_succ]
  refine wpList_load_cell rfl 3 (.tmp 31) rfl ⟨b28, k, none⟩ rfl (.int .i64 c) _ ((HXb28.out.cell k).trans HS1.out) Tryd.underlying3 rfl ?_
  try simp only [Act.put, List.setIfInBounds_toArray, List.set_cons_zero, List.set_cons_succ]
  refine wpList_one rfl (w' := V7) (v := .int .i64 c) rfl ?_
  try simp only [Act.put, List.setIfInBounds_toArray, List.set_cons_zero, List.set_cons_succ]
  refine wpList_nil ?_
  refine hK _ _ ?_
  clear hK K
  go_upto_region 4 with (fail)
  rename_i K hK
  refine wp_region_list ?_
  obtain ⟨hb, hx⟩ := box1 V7 #[.int .i64 136, .int .i64 (-4), .int .i64 (-1), .int .i64 (-4), .int .i64 (-1), .int .i64 (-1)] 3
  refine wpList_one rfl (w' := V7.alloc (.cells #[.int .i64 136, .int .i64 (-4), .int .i64 (-1), .int .i64 (-4), .int .i64 (-1), .int .i64 (-1)] 3)) (v := .slice (some ⟨V7.heap.size, 0, none⟩) 6 6) (by kernel_rfl) ?_
  try simp only [Act.put, List.setIfInBounds_toArray, List.set_cons_zero, List.set_cons_succ]
  have hl := lt_of_heap HXb28.out
  generalize V7.alloc (.cells #[.int .i64 136, .int .i64 (-4), .int .i64 (-1), .int .i64 (-4), .int .i64 (-1), .int .i64 (-1)] 3) = V8 at hb hx ⊢
  generalize V7.heap.size = b33 at hx hl ⊢
  have HG2 := Lib.hid hl
  clear hl
  replace HB : Hid (Bel w V8) := Lib.hid (HB.out.trans hb)
  replace HXb8 : Hid (HAt V8 b8 h) := Lib.hid (HXb8.out.bel hb)
  replace HXb28 : Hid (SlAt V8 b28 #[.int .i64 768, .int .i64 773, .int .i64 832, .int .i64 833, .int .i64 834, .int .i64 1984]) := Lib.hid (HXb28.out.bel hb)
  have HXb33 : Hid (SlAt V8 b33 #[.int .i64 136, .int .i64 (-4), .int .i64 (-1), .int .i64 (-4), .int .i64 (-1), .int .i64 (-1)]) := Lib.hid hx
  clear hb hx
  try simp only [Act.put, List.setIfInBounds_toArray, List.set_cons_zero, List.set_cons_succ]
  refine wpList_one rfl (w' := V8) (v := .int .i64 c1) rfl ?_
  try simp only [Act.put, List.setIfInBounds_toArray, List.set_cons_zero, List.set_cons_succ]
  refine wpList_call rfl (f := 15) (args := #[.int .i64 c1, .int .i64 6]) (v := .int .i64 (k : Int)) (by kernel_rfl) (pk I1.out (by decide) R1.out _) ?_
  intro V9 hb
  replace HB : Hid (Bel w V9) := Lib.hid (HB.out.trans hb)
  replace HXb8 : Hid (HAt V9 b8 h) := Lib.hid (HXb8.out.bel hb)
  replace HXb28 : Hid (SlAt V9 b28 #[.int .i64 768, .int .i64 773, .int .i64 832, .int .i64 833, .int .i64 834, .int .i64 1984]) := Lib.hid (HXb28.out.bel hb)
  replace HXb33 : Hid (SlAt V9 b33 #[.int .i64 136, .int .i64 (-4), .int .i64 (-1), .int .i64 (-4), .int .i64 (-1), .int .i64 (-1)]) := Lib.hid (HXb33.out.bel hb)
  clear hb
  try simp only [Act.put, List.setIfInBounds_toArray, List.set_cons_zero, List.set_cons_succ]
  refine wpList_one rfl (w' := V9) (v := .pointer (some ⟨b33, k, none⟩)) (exec_sl6 rfl b33 k (by omega) rfl rfl _) ?_
  try simp only [Act.put, List.setIfInBounds_toArray, List.set_cons_zero, List.set_cons_succ]
  refine wpList_load_cell rfl 3 (.tmp 36) rfl ⟨b33, k, none⟩ rfl (.int .i64 bt) _ ((HXb33.out.cell k).trans HS2.out) Tryd.underlying3 rfl ?_
  try simp only [Act.put, List.setIfInBounds_toArray, List.set_cons_zero, List.set_cons_succ]
  refine wpList_one rfl (w' := V9) (v := .int .i64 bt) rfl ?_
  try simp only [Act.put, List.setIfInBounds_toArray, List.set_cons_zero, List.set_cons_succ]
  refine wpList_nil ?_
  refine hK _ _ ?_
  clear hK K
  go_upto_region 5 with (fail)
  rename_i K hK
  refine wp_region_list ?_
  refine wpList_load_row rfl 28 (.tmp 8) rfl b8 rfl 28 (hC h) (0, 0) _ HXb8.out Tryd.underlying28 rfl (sz_hart _) ?_
  try simp only [Act.put, List.setIfInBounds_toArray, List.set_cons_zero, List.set_cons_succ]
  refine wpList_one rfl (w' := V9) (v := .int .i64 c) rfl ?_
  try simp only [Act.put, List.setIfInBounds_toArray, List.set_cons_zero, List.set_cons_succ]
  refine wpList_one rfl (w' := V9) (v := iv 40 10 9 0 c) (by kernel_rfl) ?_
  try simp only [Act.put, List.setIfInBounds_toArray, List.set_cons_zero, List.set_cons_succ]
  refine wpList_call rfl (f := 16) (args := #[hv h, .int .i64 0, iv 40 10 9 0 c]) (v := .tuple #[hv a, .agg (eC e0)]) (by kernel_rfl) (st HO HB.out (wf5 W40.out W10.out W9.out W0_.out Wc.out) S1.out) ?_
  intro V10 hb
  replace HB : Hid (Bel w V10) := Lib.hid (HB.out.trans hb)
  replace HXb8 : Hid (HAt V10 b8 h) := Lib.hid (HXb8.out.bel hb)
  replace HXb28 : Hid (SlAt V10 b28 #[.int .i64 768, .int .i64 773, .int .i64 832, .int .i64 833, .int .i64 834, .int .i64 1984]) := Lib.hid (HXb28.out.bel hb)
  replace HXb33 : Hid (SlAt V10 b33 #[.int .i64 136, .int .i64 (-4), .int .i64 (-1), .int .i64 (-4), .int .i64 (-1), .int .i64 (-1)]) := Lib.hid (HXb33.out.bel hb)
  clear hb
  try simp only [Act.put, List.setIfInBounds_toArray, List.set_cons_zero, List.set_cons_succ]
  refine wpList_one rfl (w' := V10) (v := .tuple #[hv a, .agg (eC e0)]) rfl ?_
  try simp only [Act.put, List.setIfInBounds_toArray, List.set_cons_zero, List.set_cons_succ]
  refine wpList_one rfl (w' := V10) (v := hv a) rfl ?_
  try simp only [Act.put, List.setIfInBounds_toArray, List.set_cons_zero, List.set_cons_succ]
  refine wpList_one rfl (w' := V10) (v := .agg (eC e0)) rfl ?_
  try simp only [Act.put, List.setIfInBounds_toArray, List.set_cons_zero, List.set_cons_succ]
  obtain ⟨hb, hx⟩ := box1 V10 hZ 28
  refine wpList_one rfl (w' := V10.alloc (.cells hZ 28)) (v := .pointer (some ⟨V10.heap.size, 0, none⟩)) (by kernel_rfl) ?_
  try simp only [Act.put, List.setIfInBounds_toArray, List.set_cons_zero, List.set_cons_succ]
  have hl := lt_of_heap HXb33.out
  generalize V10.alloc (.cells hZ 28) = V11 at hb hx ⊢
  generalize V10.heap.size = b11 at hx hl ⊢
  have HG3 := Lib.hid hl
  clear hl
  replace HB : Hid (Bel w V11) := Lib.hid (HB.out.trans hb)
  replace HXb8 : Hid (HAt V11 b8 h) := Lib.hid (HXb8.out.bel hb)
  replace HXb28 : Hid (SlAt V11 b28 #[.int .i64 768, .int .i64 773, .int .i64 832, .int .i64 833, .int .i64 834, .int .i64 1984]) := Lib.hid (HXb28.out.bel hb)
  replace HXb33 : Hid (SlAt V11 b33 #[.int .i64 136, .int .i64 (-4), .int .i64 (-1), .int .i64 (-4), .int .i64 (-1), .int .i64 (-1)]) := Lib.hid (HXb33.out.bel hb)
  have HXb11 : Hid (HAt V11 b11 (fun _ => 0)) := Lib.hid hx
  clear hb hx
  try simp only [Act.put, List.setIfInBounds_toArray, List.set_cons_zero, List.set_cons_succ]
  obtain ⟨hb, hx⟩ := box1 V11 (eC e0) 34
  refine wpList_one rfl (w' := V11.alloc (.cells (eC e0) 34)) (v := .pointer (some ⟨V11.heap.size, 0, none⟩)) (by kernel_rfl) ?_
  try simp only [Act.put, List.setIfInBounds_toArray, List.set_cons_zero, List.set_cons_succ]
  have hl := lt_of_heap HXb11.out
  generalize V11.alloc (.cells (eC e0) 34) = V12 at hb hx ⊢
  generalize V11.heap.size = b12 at hx hl ⊢
  have HG4 := Lib.hid hl
  clear hl
  replace HB : Hid (Bel w V12) := Lib.hid (HB.out.trans hb)
  replace HXb8 : Hid (HAt V12 b8 h) := Lib.hid (HXb8.out.bel hb)
  replace HXb28 : Hid (SlAt V12 b28 #[.int .i64 768, .int .i64 773, .int .i64 832, .int .i64 833, .int .i64 834, .int .i64 1984]) := Lib.hid (HXb28.out.bel hb)
  replace HXb33 : Hid (SlAt V12 b33 #[.int .i64 136, .int .i64 (-4), .int .i64 (-1), .int .i64 (-4), .int .i64 (-1), .int .i64 (-1)]) := Lib.hid (HXb33.out.bel hb)
  replace HXb11 : Hid (HAt V12 b11 (fun _ => 0)) := Lib.hid (HXb11.out.bel hb)
  have HXb12 : Hid (EfAt V12 b12 e0) := Lib.hid hx
  clear hb hx
  try simp only [Act.put, List.setIfInBounds_toArray, List.set_cons_zero, List.set_cons_succ]
  refine wpList_store_row rfl 28 (.tmp 11) (.tmp 43) rfl b11 (hC a) rfl rfl 28 (hC (fun _ => 0)) HXb11.out (sz_hart _) (by rw [hC_size, hC_size]) (hC_ones _) ?_
  have hn := row_same (cs := (hC a)) HXb11.out
  have hb := row_bel HB.out (g := b11) (by have := HG.out; have := HG1.out; have := HG2.out; have := HG3.out; have := HG4.out; omega) (hC a)
  have hb8 := (setRow_other V12 b11 b8 (hC a) (by have := HG.out; have := HG1.out; have := HG2.out; have := HG3.out; have := HG4.out; omega)).trans HXb8.out
  have hb28 := (setRow_other V12 b11 b28 (hC a) (by have := HG.out; have := HG1.out; have := HG2.out; have := HG3.out; have := HG4.out; omega)).trans HXb28.out
  have hb33 := (setRow_other V12 b11 b33 (hC a) (by have := HG.out; have := HG1.out; have := HG2.out; have := HG3.out; have := HG4.out; omega)).trans HXb33.out
  have hb12 := (setRow_other V12 b11 b12 (hC a) (by have := HG.out; have := HG1.out; have := HG2.out; have := HG3.out; have := HG4.out; omega)).trans HXb12.out
  generalize V12.setRow b11 (hC a) = V13 at hn hb hb8 hb28 hb33 hb12 ⊢
  clear HB HXb8 HXb28 HXb33 HXb11 HXb12
  have HB : Hid (Bel w V13) := Lib.hid hb
  have HXb8 : Hid (HAt V13 b8 h) := Lib.hid hb8
  have HXb28 : Hid (SlAt V13 b28 #[.int .i64 768, .int .i64 773, .int .i64 832, .int .i64 833, .int .i64 834, .int .i64 1984]) := Lib.hid hb28
  have HXb33 : Hid (SlAt V13 b33 #[.int .i64 136, .int .i64 (-4), .int .i64 (-1), .int .i64 (-4), .int .i64 (-1), .int .i64 (-1)]) := Lib.hid hb33
  have HXb12 : Hid (EfAt V13 b12 e0) := Lib.hid hb12
  have HXb11 : Hid (HAt V13 b11 a) := Lib.hid hn
  clear hn hb hb8 hb28 hb33 hb12
  try simp only [Act.put, List.setIfInBounds_toArray, List.set_cons_zero, List.set_cons_succ]
  refine wpList_store_row rfl 34 (.tmp 12) (.tmp 44) rfl b12 (eC e0) rfl rfl 34 (eC e0) HXb12.out (sz_eff _) rfl (eC_ones _) ?_
  have hn := row_same (cs := (eC e0)) HXb12.out
  have hb := row_bel HB.out (g := b12) (by have := HG.out; have := HG1.out; have := HG2.out; have := HG3.out; have := HG4.out; omega) (eC e0)
  have hb8 := (setRow_other V13 b12 b8 (eC e0) (by have := HG.out; have := HG1.out; have := HG2.out; have := HG3.out; have := HG4.out; omega)).trans HXb8.out
  have hb28 := (setRow_other V13 b12 b28 (eC e0) (by have := HG.out; have := HG1.out; have := HG2.out; have := HG3.out; have := HG4.out; omega)).trans HXb28.out
  have hb33 := (setRow_other V13 b12 b33 (eC e0) (by have := HG.out; have := HG1.out; have := HG2.out; have := HG3.out; have := HG4.out; omega)).trans HXb33.out
  have hb11 := (setRow_other V13 b12 b11 (eC e0) (by have := HG.out; have := HG1.out; have := HG2.out; have := HG3.out; have := HG4.out; omega)).trans HXb11.out
  generalize V13.setRow b12 (eC e0) = V14 at hn hb hb8 hb28 hb33 hb11 ⊢
  clear HB HXb8 HXb28 HXb33 HXb11 HXb12
  have HB : Hid (Bel w V14) := Lib.hid hb
  have HXb8 : Hid (HAt V14 b8 h) := Lib.hid hb8
  have HXb28 : Hid (SlAt V14 b28 #[.int .i64 768, .int .i64 773, .int .i64 832, .int .i64 833, .int .i64 834, .int .i64 1984]) := Lib.hid hb28
  have HXb33 : Hid (SlAt V14 b33 #[.int .i64 136, .int .i64 (-4), .int .i64 (-1), .int .i64 (-4), .int .i64 (-1), .int .i64 (-1)]) := Lib.hid hb33
  have HXb11 : Hid (HAt V14 b11 a) := Lib.hid hb11
  have HXb12 : Hid (EfAt V14 b12 e0) := Lib.hid hn
  clear hn hb hb8 hb28 hb33 hb11
  try simp only [Act.put, List.setIfInBounds_toArray, List.set_cons_zero, List.set_cons_succ]
  refine wpList_nil ?_
  refine hK _ _ ?_
  clear hK K
  go_upto_region 6 with (fail)
  rename_i K hK
  refine wp_region_list ?_
  refine wpList_load_row rfl 28 (.tmp 11) rfl b11 rfl 28 (hC a) (0, 0) _ HXb11.out Tryd.underlying28 rfl (sz_hart _) ?_
  try simp only [Act.put, List.setIfInBounds_toArray, List.set_cons_zero, List.set_cons_succ]
  refine wpList_one rfl (w' := V14) (v := .int .i64 c) rfl ?_
  try simp only [Act.put, List.setIfInBounds_toArray, List.set_cons_zero, List.set_cons_succ]
  refine wpList_one rfl (w' := V14) (v := iv 40 11 10 0 c) (by kernel_rfl) ?_
  try simp only [Act.put, List.setIfInBounds_toArray, List.set_cons_zero, List.set_cons_succ]
  refine wpList_call rfl (f := 16) (args := #[hv a, .int .i64 0, iv 40 11 10 0 c]) (v := .tuple #[hv b, .agg (eC e0)]) (by kernel_rfl) (st HO HB.out (wf5 W40.out W11.out W10.out W0_.out Wc.out) S2.out) ?_
  intro V15 hb
  replace HB : Hid (Bel w V15) := Lib.hid (HB.out.trans hb)
  replace HXb8 : Hid (HAt V15 b8 h) := Lib.hid (HXb8.out.bel hb)
  replace HXb28 : Hid (SlAt V15 b28 #[.int .i64 768, .int .i64 773, .int .i64 832, .int .i64 833, .int .i64 834, .int .i64 1984]) := Lib.hid (HXb28.out.bel hb)
  replace HXb33 : Hid (SlAt V15 b33 #[.int .i64 136, .int .i64 (-4), .int .i64 (-1), .int .i64 (-4), .int .i64 (-1), .int .i64 (-1)]) := Lib.hid (HXb33.out.bel hb)
  replace HXb11 : Hid (HAt V15 b11 a) := Lib.hid (HXb11.out.bel hb)
  replace HXb12 : Hid (EfAt V15 b12 e0) := Lib.hid (HXb12.out.bel hb)
  clear hb
  try simp only [Act.put, List.setIfInBounds_toArray, List.set_cons_zero, List.set_cons_succ]
  refine wpList_one rfl (w' := V15) (v := .tuple #[hv b, .agg (eC e0)]) rfl ?_
  try simp only [Act.put, List.setIfInBounds_toArray, List.set_cons_zero, List.set_cons_succ]
  refine wpList_one rfl (w' := V15) (v := hv b) rfl ?_
  try simp only [Act.put, List.setIfInBounds_toArray, List.set_cons_zero, List.set_cons_succ]
  refine wpList_one rfl (w' := V15) (v := .agg (eC e0)) rfl ?_
  try simp only [Act.put, List.setIfInBounds_toArray, List.set_cons_zero, List.set_cons_succ]
  obtain ⟨hb, hx⟩ := box1 V15 hZ 28
  refine wpList_one rfl (w' := V15.alloc (.cells hZ 28)) (v := .pointer (some ⟨V15.heap.size, 0, none⟩)) (by kernel_rfl) ?_
  try simp only [Act.put, List.setIfInBounds_toArray, List.set_cons_zero, List.set_cons_succ]
  have hl := lt_of_heap HXb12.out
  generalize V15.alloc (.cells hZ 28) = V16 at hb hx ⊢
  generalize V15.heap.size = b13 at hx hl ⊢
  have HG5 := Lib.hid hl
  clear hl
  replace HB : Hid (Bel w V16) := Lib.hid (HB.out.trans hb)
  replace HXb8 : Hid (HAt V16 b8 h) := Lib.hid (HXb8.out.bel hb)
  replace HXb28 : Hid (SlAt V16 b28 #[.int .i64 768, .int .i64 773, .int .i64 832, .int .i64 833, .int .i64 834, .int .i64 1984]) := Lib.hid (HXb28.out.bel hb)
  replace HXb33 : Hid (SlAt V16 b33 #[.int .i64 136, .int .i64 (-4), .int .i64 (-1), .int .i64 (-4), .int .i64 (-1), .int .i64 (-1)]) := Lib.hid (HXb33.out.bel hb)
  replace HXb11 : Hid (HAt V16 b11 a) := Lib.hid (HXb11.out.bel hb)
  replace HXb12 : Hid (EfAt V16 b12 e0) := Lib.hid (HXb12.out.bel hb)
  have HXb13 : Hid (HAt V16 b13 (fun _ => 0)) := Lib.hid hx
  clear hb hx
  try simp only [Act.put, List.setIfInBounds_toArray, List.set_cons_zero, List.set_cons_succ]
  obtain ⟨hb, hx⟩ := box1 V16 (eC e0) 34
  refine wpList_one rfl (w' := V16.alloc (.cells (eC e0) 34)) (v := .pointer (some ⟨V16.heap.size, 0, none⟩)) (by kernel_rfl) ?_
  try simp only [Act.put, List.setIfInBounds_toArray, List.set_cons_zero, List.set_cons_succ]
  have hl := lt_of_heap HXb13.out
  generalize V16.alloc (.cells (eC e0) 34) = V17 at hb hx ⊢
  generalize V16.heap.size = b14 at hx hl ⊢
  have HG6 := Lib.hid hl
  clear hl
  replace HB : Hid (Bel w V17) := Lib.hid (HB.out.trans hb)
  replace HXb8 : Hid (HAt V17 b8 h) := Lib.hid (HXb8.out.bel hb)
  replace HXb28 : Hid (SlAt V17 b28 #[.int .i64 768, .int .i64 773, .int .i64 832, .int .i64 833, .int .i64 834, .int .i64 1984]) := Lib.hid (HXb28.out.bel hb)
  replace HXb33 : Hid (SlAt V17 b33 #[.int .i64 136, .int .i64 (-4), .int .i64 (-1), .int .i64 (-4), .int .i64 (-1), .int .i64 (-1)]) := Lib.hid (HXb33.out.bel hb)
  replace HXb11 : Hid (HAt V17 b11 a) := Lib.hid (HXb11.out.bel hb)
  replace HXb12 : Hid (EfAt V17 b12 e0) := Lib.hid (HXb12.out.bel hb)
  replace HXb13 : Hid (HAt V17 b13 (fun _ => 0)) := Lib.hid (HXb13.out.bel hb)
  have HXb14 : Hid (EfAt V17 b14 e0) := Lib.hid hx
  clear hb hx
  try simp only [Act.put, List.setIfInBounds_toArray, List.set_cons_zero, List.set_cons_succ]
  refine wpList_store_row rfl 28 (.tmp 13) (.tmp 50) rfl b13 (hC b) rfl rfl 28 (hC (fun _ => 0)) HXb13.out (sz_hart _) (by rw [hC_size, hC_size]) (hC_ones _) ?_
  have hn := row_same (cs := (hC b)) HXb13.out
  have hb := row_bel HB.out (g := b13) (by have := HG.out; have := HG1.out; have := HG2.out; have := HG3.out; have := HG4.out; have := HG5.out; have := HG6.out; omega) (hC b)
  have hb8 := (setRow_other V17 b13 b8 (hC b) (by have := HG.out; have := HG1.out; have := HG2.out; have := HG3.out; have := HG4.out; have := HG5.out; have := HG6.out; omega)).trans HXb8.out
  have hb28 := (setRow_other V17 b13 b28 (hC b) (by have := HG.out; have := HG1.out; have := HG2.out; have := HG3.out; have := HG4.out; have := HG5.out; have := HG6.out; omega)).trans HXb28.out
  have hb33 := (setRow_other V17 b13 b33 (hC b) (by have := HG.out; have := HG1.out; have := HG2.out; have := HG3.out; have := HG4.out; have := HG5.out; have := HG6.out; omega)).trans HXb33.out
  have hb11 := (setRow_other V17 b13 b11 (hC b) (by have := HG.out; have := HG1.out; have := HG2.out; have := HG3.out; have := HG4.out; have := HG5.out; have := HG6.out; omega)).trans HXb11.out
  have hb12 := (setRow_other V17 b13 b12 (hC b) (by have := HG.out; have := HG1.out; have := HG2.out; have := HG3.out; have := HG4.out; have := HG5.out; have := HG6.out; omega)).trans HXb12.out
  have hb14 := (setRow_other V17 b13 b14 (hC b) (by have := HG.out; have := HG1.out; have := HG2.out; have := HG3.out; have := HG4.out; have := HG5.out; have := HG6.out; omega)).trans HXb14.out
  generalize V17.setRow b13 (hC b) = V18 at hn hb hb8 hb28 hb33 hb11 hb12 hb14 ⊢
  clear HB HXb8 HXb28 HXb33 HXb11 HXb12 HXb13 HXb14
  have HB : Hid (Bel w V18) := Lib.hid hb
  have HXb8 : Hid (HAt V18 b8 h) := Lib.hid hb8
  have HXb28 : Hid (SlAt V18 b28 #[.int .i64 768, .int .i64 773, .int .i64 832, .int .i64 833, .int .i64 834, .int .i64 1984]) := Lib.hid hb28
  have HXb33 : Hid (SlAt V18 b33 #[.int .i64 136, .int .i64 (-4), .int .i64 (-1), .int .i64 (-4), .int .i64 (-1), .int .i64 (-1)]) := Lib.hid hb33
  have HXb11 : Hid (HAt V18 b11 a) := Lib.hid hb11
  have HXb12 : Hid (EfAt V18 b12 e0) := Lib.hid hb12
  have HXb14 : Hid (EfAt V18 b14 e0) := Lib.hid hb14
  have HXb13 : Hid (HAt V18 b13 b) := Lib.hid hn
  clear hn hb hb8 hb28 hb33 hb11 hb12 hb14
  try simp only [Act.put, List.setIfInBounds_toArray, List.set_cons_zero, List.set_cons_succ]
  refine wpList_store_row rfl 34 (.tmp 14) (.tmp 51) rfl b14 (eC e0) rfl rfl 34 (eC e0) HXb14.out (sz_eff _) rfl (eC_ones _) ?_
  have hn := row_same (cs := (eC e0)) HXb14.out
  have hb := row_bel HB.out (g := b14) (by have := HG.out; have := HG1.out; have := HG2.out; have := HG3.out; have := HG4.out; have := HG5.out; have := HG6.out; omega) (eC e0)
  have hb8 := (setRow_other V18 b14 b8 (eC e0) (by have := HG.out; have := HG1.out; have := HG2.out; have := HG3.out; have := HG4.out; have := HG5.out; have := HG6.out; omega)).trans HXb8.out
  have hb28 := (setRow_other V18 b14 b28 (eC e0) (by have := HG.out; have := HG1.out; have := HG2.out; have := HG3.out; have := HG4.out; have := HG5.out; have := HG6.out; omega)).trans HXb28.out
  have hb33 := (setRow_other V18 b14 b33 (eC e0) (by have := HG.out; have := HG1.out; have := HG2.out; have := HG3.out; have := HG4.out; have := HG5.out; have := HG6.out; omega)).trans HXb33.out
  have hb11 := (setRow_other V18 b14 b11 (eC e0) (by have := HG.out; have := HG1.out; have := HG2.out; have := HG3.out; have := HG4.out; have := HG5.out; have := HG6.out; omega)).trans HXb11.out
  have hb12 := (setRow_other V18 b14 b12 (eC e0) (by have := HG.out; have := HG1.out; have := HG2.out; have := HG3.out; have := HG4.out; have := HG5.out; have := HG6.out; omega)).trans HXb12.out
  have hb13 := (setRow_other V18 b14 b13 (eC e0) (by have := HG.out; have := HG1.out; have := HG2.out; have := HG3.out; have := HG4.out; have := HG5.out; have := HG6.out; omega)).trans HXb13.out
  generalize V18.setRow b14 (eC e0) = V19 at hn hb hb8 hb28 hb33 hb11 hb12 hb13 ⊢
  clear HB HXb8 HXb28 HXb33 HXb11 HXb12 HXb13 HXb14
  have HB : Hid (Bel w V19) := Lib.hid hb
  have HXb8 : Hid (HAt V19 b8 h) := Lib.hid hb8
  have HXb28 : Hid (SlAt V19 b28 #[.int .i64 768, .int .i64 773, .int .i64 832, .int .i64 833, .int .i64 834, .int .i64 1984]) := Lib.hid hb28
  have HXb33 : Hid (SlAt V19 b33 #[.int .i64 136, .int .i64 (-4), .int .i64 (-1), .int .i64 (-4), .int .i64 (-1), .int .i64 (-1)]) := Lib.hid hb33
  have HXb11 : Hid (HAt V19 b11 a) := Lib.hid hb11
  have HXb12 : Hid (EfAt V19 b12 e0) := Lib.hid hb12
  have HXb13 : Hid (HAt V19 b13 b) := Lib.hid hb13
  have HXb14 : Hid (EfAt V19 b14 e0) := Lib.hid hn
  clear hn hb hb8 hb28 hb33 hb11 hb12 hb13
  try simp only [Act.put, List.setIfInBounds_toArray, List.set_cons_zero, List.set_cons_succ]
  refine wpList_nil ?_
  refine hK _ _ ?_
  clear hK K
  go_upto_region 7 with (fail)
  rename_i K hK
  refine wp_region_list ?_
  refine wpList_load_row rfl 28 (.tmp 8) rfl b8 rfl 28 (hC h) (0, 0) _ HXb8.out Tryd.underlying28 rfl (sz_hart _) ?_
  try simp only [Act.put, List.setIfInBounds_toArray, List.set_cons_zero, List.set_cons_succ]
  refine wpList_one rfl (w' := V19) (v := .int .i64 c) rfl ?_
  try simp only [Act.put, List.setIfInBounds_toArray, List.set_cons_zero, List.set_cons_succ]
  refine wpList_one rfl (w' := V19) (v := iv 41 10 9 0 c) (by kernel_rfl) ?_
  try simp only [Act.put, List.setIfInBounds_toArray, List.set_cons_zero, List.set_cons_succ]
  refine wpList_call rfl (f := 16) (args := #[hv h, .int .i64 0, iv 41 10 9 0 c]) (v := .tuple #[hv p, .agg (eC e0)]) (by kernel_rfl) (st HO HB.out (wf5 W41.out W10.out W9.out W0_.out Wc.out) S3.out) ?_
  intro V20 hb
  replace HB : Hid (Bel w V20) := Lib.hid (HB.out.trans hb)
  replace HXb8 : Hid (HAt V20 b8 h) := Lib.hid (HXb8.out.bel hb)
  replace HXb28 : Hid (SlAt V20 b28 #[.int .i64 768, .int .i64 773, .int .i64 832, .int .i64 833, .int .i64 834, .int .i64 1984]) := Lib.hid (HXb28.out.bel hb)
  replace HXb33 : Hid (SlAt V20 b33 #[.int .i64 136, .int .i64 (-4), .int .i64 (-1), .int .i64 (-4), .int .i64 (-1), .int .i64 (-1)]) := Lib.hid (HXb33.out.bel hb)
  replace HXb11 : Hid (HAt V20 b11 a) := Lib.hid (HXb11.out.bel hb)
  replace HXb12 : Hid (EfAt V20 b12 e0) := Lib.hid (HXb12.out.bel hb)
  replace HXb13 : Hid (HAt V20 b13 b) := Lib.hid (HXb13.out.bel hb)
  replace HXb14 : Hid (EfAt V20 b14 e0) := Lib.hid (HXb14.out.bel hb)
  clear hb
  try simp only [Act.put, List.setIfInBounds_toArray, List.set_cons_zero, List.set_cons_succ]
  refine wpList_one rfl (w' := V20) (v := .tuple #[hv p, .agg (eC e0)]) rfl ?_
  try simp only [Act.put, List.setIfInBounds_toArray, List.set_cons_zero, List.set_cons_succ]
  refine wpList_one rfl (w' := V20) (v := hv p) rfl ?_
  try simp only [Act.put, List.setIfInBounds_toArray, List.set_cons_zero, List.set_cons_succ]
  refine wpList_one rfl (w' := V20) (v := .agg (eC e0)) rfl ?_
  try simp only [Act.put, List.setIfInBounds_toArray, List.set_cons_zero, List.set_cons_succ]
  obtain ⟨hb, hx⟩ := box1 V20 hZ 28
  refine wpList_one rfl (w' := V20.alloc (.cells hZ 28)) (v := .pointer (some ⟨V20.heap.size, 0, none⟩)) (by kernel_rfl) ?_
  try simp only [Act.put, List.setIfInBounds_toArray, List.set_cons_zero, List.set_cons_succ]
  have hl := lt_of_heap HXb14.out
  generalize V20.alloc (.cells hZ 28) = V21 at hb hx ⊢
  generalize V20.heap.size = b15 at hx hl ⊢
  have HG7 := Lib.hid hl
  clear hl
  replace HB : Hid (Bel w V21) := Lib.hid (HB.out.trans hb)
  replace HXb8 : Hid (HAt V21 b8 h) := Lib.hid (HXb8.out.bel hb)
  replace HXb28 : Hid (SlAt V21 b28 #[.int .i64 768, .int .i64 773, .int .i64 832, .int .i64 833, .int .i64 834, .int .i64 1984]) := Lib.hid (HXb28.out.bel hb)
  replace HXb33 : Hid (SlAt V21 b33 #[.int .i64 136, .int .i64 (-4), .int .i64 (-1), .int .i64 (-4), .int .i64 (-1), .int .i64 (-1)]) := Lib.hid (HXb33.out.bel hb)
  replace HXb11 : Hid (HAt V21 b11 a) := Lib.hid (HXb11.out.bel hb)
  replace HXb12 : Hid (EfAt V21 b12 e0) := Lib.hid (HXb12.out.bel hb)
  replace HXb13 : Hid (HAt V21 b13 b) := Lib.hid (HXb13.out.bel hb)
  replace HXb14 : Hid (EfAt V21 b14 e0) := Lib.hid (HXb14.out.bel hb)
  have HXb15 : Hid (HAt V21 b15 (fun _ => 0)) := Lib.hid hx
  clear hb hx
  try simp only [Act.put, List.setIfInBounds_toArray, List.set_cons_zero, List.set_cons_succ]
  obtain ⟨hb, hx⟩ := box1 V21 (eC e0) 34
  refine wpList_one rfl (w' := V21.alloc (.cells (eC e0) 34)) (v := .pointer (some ⟨V21.heap.size, 0, none⟩)) (by kernel_rfl) ?_
  try simp only [Act.put, List.setIfInBounds_toArray, List.set_cons_zero, List.set_cons_succ]
  have hl := lt_of_heap HXb15.out
  generalize V21.alloc (.cells (eC e0) 34) = V22 at hb hx ⊢
  generalize V21.heap.size = b16 at hx hl ⊢
  have HG8 := Lib.hid hl
  clear hl
  replace HB : Hid (Bel w V22) := Lib.hid (HB.out.trans hb)
  replace HXb8 : Hid (HAt V22 b8 h) := Lib.hid (HXb8.out.bel hb)
  replace HXb28 : Hid (SlAt V22 b28 #[.int .i64 768, .int .i64 773, .int .i64 832, .int .i64 833, .int .i64 834, .int .i64 1984]) := Lib.hid (HXb28.out.bel hb)
  replace HXb33 : Hid (SlAt V22 b33 #[.int .i64 136, .int .i64 (-4), .int .i64 (-1), .int .i64 (-4), .int .i64 (-1), .int .i64 (-1)]) := Lib.hid (HXb33.out.bel hb)
  replace HXb11 : Hid (HAt V22 b11 a) := Lib.hid (HXb11.out.bel hb)
  replace HXb12 : Hid (EfAt V22 b12 e0) := Lib.hid (HXb12.out.bel hb)
  replace HXb13 : Hid (HAt V22 b13 b) := Lib.hid (HXb13.out.bel hb)
  replace HXb14 : Hid (EfAt V22 b14 e0) := Lib.hid (HXb14.out.bel hb)
  replace HXb15 : Hid (HAt V22 b15 (fun _ => 0)) := Lib.hid (HXb15.out.bel hb)
  have HXb16 : Hid (EfAt V22 b16 e0) := Lib.hid hx
  clear hb hx
  try simp only [Act.put, List.setIfInBounds_toArray, List.set_cons_zero, List.set_cons_succ]
  refine wpList_store_row rfl 28 (.tmp 15) (.tmp 57) rfl b15 (hC p) rfl rfl 28 (hC (fun _ => 0)) HXb15.out (sz_hart _) (by rw [hC_size, hC_size]) (hC_ones _) ?_
  have hn := row_same (cs := (hC p)) HXb15.out
  have hb := row_bel HB.out (g := b15) (by have := HG.out; have := HG1.out; have := HG2.out; have := HG3.out; have := HG4.out; have := HG5.out; have := HG6.out; have := HG7.out; have := HG8.out; omega) (hC p)
  have hb8 := (setRow_other V22 b15 b8 (hC p) (by have := HG.out; have := HG1.out; have := HG2.out; have := HG3.out; have := HG4.out; have := HG5.out; have := HG6.out; have := HG7.out; have := HG8.out; omega)).trans HXb8.out
  have hb28 := (setRow_other V22 b15 b28 (hC p) (by have := HG.out; have := HG1.out; have := HG2.out; have := HG3.out; have := HG4.out; have := HG5.out; have := HG6.out; have := HG7.out; have := HG8.out; omega)).trans HXb28.out
  have hb33 := (setRow_other V22 b15 b33 (hC p) (by have := HG.out; have := HG1.out; have := HG2.out; have := HG3.out; have := HG4.out; have := HG5.out; have := HG6.out; have := HG7.out; have := HG8.out; omega)).trans HXb33.out
  have hb11 := (setRow_other V22 b15 b11 (hC p) (by have := HG.out; have := HG1.out; have := HG2.out; have := HG3.out; have := HG4.out; have := HG5.out; have := HG6.out; have := HG7.out; have := HG8.out; omega)).trans HXb11.out
  have hb12 := (setRow_other V22 b15 b12 (hC p) (by have := HG.out; have := HG1.out; have := HG2.out; have := HG3.out; have := HG4.out; have := HG5.out; have := HG6.out; have := HG7.out; have := HG8.out; omega)).trans HXb12.out
  have hb13 := (setRow_other V22 b15 b13 (hC p) (by have := HG.out; have := HG1.out; have := HG2.out; have := HG3.out; have := HG4.out; have := HG5.out; have := HG6.out; have := HG7.out; have := HG8.out; omega)).trans HXb13.out
  have hb14 := (setRow_other V22 b15 b14 (hC p) (by have := HG.out; have := HG1.out; have := HG2.out; have := HG3.out; have := HG4.out; have := HG5.out; have := HG6.out; have := HG7.out; have := HG8.out; omega)).trans HXb14.out
  have hb16 := (setRow_other V22 b15 b16 (hC p) (by have := HG.out; have := HG1.out; have := HG2.out; have := HG3.out; have := HG4.out; have := HG5.out; have := HG6.out; have := HG7.out; have := HG8.out; omega)).trans HXb16.out
  generalize V22.setRow b15 (hC p) = V23 at hn hb hb8 hb28 hb33 hb11 hb12 hb13 hb14 hb16 ⊢
  clear HB HXb8 HXb28 HXb33 HXb11 HXb12 HXb13 HXb14 HXb15 HXb16
  have HB : Hid (Bel w V23) := Lib.hid hb
  have HXb8 : Hid (HAt V23 b8 h) := Lib.hid hb8
  have HXb28 : Hid (SlAt V23 b28 #[.int .i64 768, .int .i64 773, .int .i64 832, .int .i64 833, .int .i64 834, .int .i64 1984]) := Lib.hid hb28
  have HXb33 : Hid (SlAt V23 b33 #[.int .i64 136, .int .i64 (-4), .int .i64 (-1), .int .i64 (-4), .int .i64 (-1), .int .i64 (-1)]) := Lib.hid hb33
  have HXb11 : Hid (HAt V23 b11 a) := Lib.hid hb11
  have HXb12 : Hid (EfAt V23 b12 e0) := Lib.hid hb12
  have HXb13 : Hid (HAt V23 b13 b) := Lib.hid hb13
  have HXb14 : Hid (EfAt V23 b14 e0) := Lib.hid hb14
  have HXb16 : Hid (EfAt V23 b16 e0) := Lib.hid hb16
  have HXb15 : Hid (HAt V23 b15 p) := Lib.hid hn
  clear hn hb hb8 hb28 hb33 hb11 hb12 hb13 hb14 hb16
  try simp only [Act.put, List.setIfInBounds_toArray, List.set_cons_zero, List.set_cons_succ]
  refine wpList_store_row rfl 34 (.tmp 16) (.tmp 58) rfl b16 (eC e0) rfl rfl 34 (eC e0) HXb16.out (sz_eff _) rfl (eC_ones _) ?_
  have hn := row_same (cs := (eC e0)) HXb16.out
  have hb := row_bel HB.out (g := b16) (by have := HG.out; have := HG1.out; have := HG2.out; have := HG3.out; have := HG4.out; have := HG5.out; have := HG6.out; have := HG7.out; have := HG8.out; omega) (eC e0)
  have hb8 := (setRow_other V23 b16 b8 (eC e0) (by have := HG.out; have := HG1.out; have := HG2.out; have := HG3.out; have := HG4.out; have := HG5.out; have := HG6.out; have := HG7.out; have := HG8.out; omega)).trans HXb8.out
  have hb28 := (setRow_other V23 b16 b28 (eC e0) (by have := HG.out; have := HG1.out; have := HG2.out; have := HG3.out; have := HG4.out; have := HG5.out; have := HG6.out; have := HG7.out; have := HG8.out; omega)).trans HXb28.out
  have hb33 := (setRow_other V23 b16 b33 (eC e0) (by have := HG.out; have := HG1.out; have := HG2.out; have := HG3.out; have := HG4.out; have := HG5.out; have := HG6.out; have := HG7.out; have := HG8.out; omega)).trans HXb33.out
  have hb11 := (setRow_other V23 b16 b11 (eC e0) (by have := HG.out; have := HG1.out; have := HG2.out; have := HG3.out; have := HG4.out; have := HG5.out; have := HG6.out; have := HG7.out; have := HG8.out; omega)).trans HXb11.out
  have hb12 := (setRow_other V23 b16 b12 (eC e0) (by have := HG.out; have := HG1.out; have := HG2.out; have := HG3.out; have := HG4.out; have := HG5.out; have := HG6.out; have := HG7.out; have := HG8.out; omega)).trans HXb12.out
  have hb13 := (setRow_other V23 b16 b13 (eC e0) (by have := HG.out; have := HG1.out; have := HG2.out; have := HG3.out; have := HG4.out; have := HG5.out; have := HG6.out; have := HG7.out; have := HG8.out; omega)).trans HXb13.out
  have hb14 := (setRow_other V23 b16 b14 (eC e0) (by have := HG.out; have := HG1.out; have := HG2.out; have := HG3.out; have := HG4.out; have := HG5.out; have := HG6.out; have := HG7.out; have := HG8.out; omega)).trans HXb14.out
  have hb15 := (setRow_other V23 b16 b15 (eC e0) (by have := HG.out; have := HG1.out; have := HG2.out; have := HG3.out; have := HG4.out; have := HG5.out; have := HG6.out; have := HG7.out; have := HG8.out; omega)).trans HXb15.out
  generalize V23.setRow b16 (eC e0) = V24 at hn hb hb8 hb28 hb33 hb11 hb12 hb13 hb14 hb15 ⊢
  clear HB HXb8 HXb28 HXb33 HXb11 HXb12 HXb13 HXb14 HXb15 HXb16
  have HB : Hid (Bel w V24) := Lib.hid hb
  have HXb8 : Hid (HAt V24 b8 h) := Lib.hid hb8
  have HXb28 : Hid (SlAt V24 b28 #[.int .i64 768, .int .i64 773, .int .i64 832, .int .i64 833, .int .i64 834, .int .i64 1984]) := Lib.hid hb28
  have HXb33 : Hid (SlAt V24 b33 #[.int .i64 136, .int .i64 (-4), .int .i64 (-1), .int .i64 (-4), .int .i64 (-1), .int .i64 (-1)]) := Lib.hid hb33
  have HXb11 : Hid (HAt V24 b11 a) := Lib.hid hb11
  have HXb12 : Hid (EfAt V24 b12 e0) := Lib.hid hb12
  have HXb13 : Hid (HAt V24 b13 b) := Lib.hid hb13
  have HXb14 : Hid (EfAt V24 b14 e0) := Lib.hid hb14
  have HXb15 : Hid (HAt V24 b15 p) := Lib.hid hb15
  have HXb16 : Hid (EfAt V24 b16 e0) := Lib.hid hn
  clear hn hb hb8 hb28 hb33 hb11 hb12 hb13 hb14 hb15
  try simp only [Act.put, List.setIfInBounds_toArray, List.set_cons_zero, List.set_cons_succ]
  refine wpList_nil ?_
  refine hK _ _ ?_
  clear hK K
  go_upto_region 8 with (fail)
  rename_i K hK
  refine wp_region_list ?_
  refine wpList_load_row rfl 28 (.tmp 15) rfl b15 rfl 28 (hC p) (0, 0) _ HXb15.out Tryd.underlying28 rfl (sz_hart _) ?_
  try simp only [Act.put, List.setIfInBounds_toArray, List.set_cons_zero, List.set_cons_succ]
  refine wpList_one rfl (w' := V24) (v := .int .i64 c) rfl ?_
  try simp only [Act.put, List.setIfInBounds_toArray, List.set_cons_zero, List.set_cons_succ]
  refine wpList_one rfl (w' := V24) (v := iv 42 11 9 0 c) (by kernel_rfl) ?_
  try simp only [Act.put, List.setIfInBounds_toArray, List.set_cons_zero, List.set_cons_succ]
  refine wpList_call rfl (f := 16) (args := #[hv p, .int .i64 0, iv 42 11 9 0 c]) (v := .tuple #[hv q, .agg (eC e0)]) (by kernel_rfl) (st HO HB.out (wf5 W42.out W11.out W9.out W0_.out Wc.out) S4.out) ?_
  intro V25 hb
  replace HB : Hid (Bel w V25) := Lib.hid (HB.out.trans hb)
  replace HXb8 : Hid (HAt V25 b8 h) := Lib.hid (HXb8.out.bel hb)
  replace HXb28 : Hid (SlAt V25 b28 #[.int .i64 768, .int .i64 773, .int .i64 832, .int .i64 833, .int .i64 834, .int .i64 1984]) := Lib.hid (HXb28.out.bel hb)
  replace HXb33 : Hid (SlAt V25 b33 #[.int .i64 136, .int .i64 (-4), .int .i64 (-1), .int .i64 (-4), .int .i64 (-1), .int .i64 (-1)]) := Lib.hid (HXb33.out.bel hb)
  replace HXb11 : Hid (HAt V25 b11 a) := Lib.hid (HXb11.out.bel hb)
  replace HXb12 : Hid (EfAt V25 b12 e0) := Lib.hid (HXb12.out.bel hb)
  replace HXb13 : Hid (HAt V25 b13 b) := Lib.hid (HXb13.out.bel hb)
  replace HXb14 : Hid (EfAt V25 b14 e0) := Lib.hid (HXb14.out.bel hb)
  replace HXb15 : Hid (HAt V25 b15 p) := Lib.hid (HXb15.out.bel hb)
  replace HXb16 : Hid (EfAt V25 b16 e0) := Lib.hid (HXb16.out.bel hb)
  clear hb
  try simp only [Act.put, List.setIfInBounds_toArray, List.set_cons_zero, List.set_cons_succ]
  refine wpList_one rfl (w' := V25) (v := .tuple #[hv q, .agg (eC e0)]) rfl ?_
  try simp only [Act.put, List.setIfInBounds_toArray, List.set_cons_zero, List.set_cons_succ]
  refine wpList_one rfl (w' := V25) (v := hv q) rfl ?_
  try simp only [Act.put, List.setIfInBounds_toArray, List.set_cons_zero, List.set_cons_succ]
  refine wpList_one rfl (w' := V25) (v := .agg (eC e0)) rfl ?_
  try simp only [Act.put, List.setIfInBounds_toArray, List.set_cons_zero, List.set_cons_succ]
  obtain ⟨hb, hx⟩ := box1 V25 hZ 28
  refine wpList_one rfl (w' := V25.alloc (.cells hZ 28)) (v := .pointer (some ⟨V25.heap.size, 0, none⟩)) (by kernel_rfl) ?_
  try simp only [Act.put, List.setIfInBounds_toArray, List.set_cons_zero, List.set_cons_succ]
  have hl := lt_of_heap HXb16.out
  generalize V25.alloc (.cells hZ 28) = V26 at hb hx ⊢
  generalize V25.heap.size = b17 at hx hl ⊢
  have HG9 := Lib.hid hl
  clear hl
  replace HB : Hid (Bel w V26) := Lib.hid (HB.out.trans hb)
  replace HXb8 : Hid (HAt V26 b8 h) := Lib.hid (HXb8.out.bel hb)
  replace HXb28 : Hid (SlAt V26 b28 #[.int .i64 768, .int .i64 773, .int .i64 832, .int .i64 833, .int .i64 834, .int .i64 1984]) := Lib.hid (HXb28.out.bel hb)
  replace HXb33 : Hid (SlAt V26 b33 #[.int .i64 136, .int .i64 (-4), .int .i64 (-1), .int .i64 (-4), .int .i64 (-1), .int .i64 (-1)]) := Lib.hid (HXb33.out.bel hb)
  replace HXb11 : Hid (HAt V26 b11 a) := Lib.hid (HXb11.out.bel hb)
  replace HXb12 : Hid (EfAt V26 b12 e0) := Lib.hid (HXb12.out.bel hb)
  replace HXb13 : Hid (HAt V26 b13 b) := Lib.hid (HXb13.out.bel hb)
  replace HXb14 : Hid (EfAt V26 b14 e0) := Lib.hid (HXb14.out.bel hb)
  replace HXb15 : Hid (HAt V26 b15 p) := Lib.hid (HXb15.out.bel hb)
  replace HXb16 : Hid (EfAt V26 b16 e0) := Lib.hid (HXb16.out.bel hb)
  have HXb17 : Hid (HAt V26 b17 (fun _ => 0)) := Lib.hid hx
  clear hb hx
  try simp only [Act.put, List.setIfInBounds_toArray, List.set_cons_zero, List.set_cons_succ]
  obtain ⟨hb, hx⟩ := box1 V26 (eC e0) 34
  refine wpList_one rfl (w' := V26.alloc (.cells (eC e0) 34)) (v := .pointer (some ⟨V26.heap.size, 0, none⟩)) (by kernel_rfl) ?_
  try simp only [Act.put, List.setIfInBounds_toArray, List.set_cons_zero, List.set_cons_succ]
  have hl := lt_of_heap HXb17.out
  generalize V26.alloc (.cells (eC e0) 34) = V27 at hb hx ⊢
  generalize V26.heap.size = b18 at hx hl ⊢
  have HG10 := Lib.hid hl
  clear hl
  replace HB : Hid (Bel w V27) := Lib.hid (HB.out.trans hb)
  replace HXb8 : Hid (HAt V27 b8 h) := Lib.hid (HXb8.out.bel hb)
  replace HXb28 : Hid (SlAt V27 b28 #[.int .i64 768, .int .i64 773, .int .i64 832, .int .i64 833, .int .i64 834, .int .i64 1984]) := Lib.hid (HXb28.out.bel hb)
  replace HXb33 : Hid (SlAt V27 b33 #[.int .i64 136, .int .i64 (-4), .int .i64 (-1), .int .i64 (-4), .int .i64 (-1), .int .i64 (-1)]) := Lib.hid (HXb33.out.bel hb)
  replace HXb11 : Hid (HAt V27 b11 a) := Lib.hid (HXb11.out.bel hb)
  replace HXb12 : Hid (EfAt V27 b12 e0) := Lib.hid (HXb12.out.bel hb)
  replace HXb13 : Hid (HAt V27 b13 b) := Lib.hid (HXb13.out.bel hb)
  replace HXb14 : Hid (EfAt V27 b14 e0) := Lib.hid (HXb14.out.bel hb)
  replace HXb15 : Hid (HAt V27 b15 p) := Lib.hid (HXb15.out.bel hb)
  replace HXb16 : Hid (EfAt V27 b16 e0) := Lib.hid (HXb16.out.bel hb)
  replace HXb17 : Hid (HAt V27 b17 (fun _ => 0)) := Lib.hid (HXb17.out.bel hb)
  have HXb18 : Hid (EfAt V27 b18 e0) := Lib.hid hx
  clear hb hx
  try simp only [Act.put, List.setIfInBounds_toArray, List.set_cons_zero, List.set_cons_succ]
  refine wpList_store_row rfl 28 (.tmp 17) (.tmp 64) rfl b17 (hC q) rfl rfl 28 (hC (fun _ => 0)) HXb17.out (sz_hart _) (by rw [hC_size, hC_size]) (hC_ones _) ?_
  have hn := row_same (cs := (hC q)) HXb17.out
  have hb := row_bel HB.out (g := b17) (by have := HG.out; have := HG1.out; have := HG2.out; have := HG3.out; have := HG4.out; have := HG5.out; have := HG6.out; have := HG7.out; have := HG8.out; have := HG9.out; have := HG10.out; omega) (hC q)
  have hb8 := (setRow_other V27 b17 b8 (hC q) (by have := HG.out; have := HG1.out; have := HG2.out; have := HG3.out; have := HG4.out; have := HG5.out; have := HG6.out; have := HG7.out; have := HG8.out; have := HG9.out; have := HG10.out; omega)).trans HXb8.out
  have hb28 := (setRow_other V27 b17 b28 (hC q) (by have := HG.out; have := HG1.out; have := HG2.out; have := HG3.out; have := HG4.out; have := HG5.out; have := HG6.out; have := HG7.out; have := HG8.out; have := HG9.out; have := HG10.out; omega)).trans HXb28.out
  have hb33 := (setRow_other V27 b17 b33 (hC q) (by have := HG.out; have := HG1.out; have := HG2.out; have := HG3.out; have := HG4.out; have := HG5.out; have := HG6.out; have := HG7.out; have := HG8.out; have := HG9.out; have := HG10.out; omega)).trans HXb33.out
  have hb11 := (setRow_other V27 b17 b11 (hC q) (by have := HG.out; have := HG1.out; have := HG2.out; have := HG3.out; have := HG4.out; have := HG5.out; have := HG6.out; have := HG7.out; have := HG8.out; have := HG9.out; have := HG10.out; omega)).trans HXb11.out
  have hb12 := (setRow_other V27 b17 b12 (hC q) (by have := HG.out; have := HG1.out; have := HG2.out; have := HG3.out; have := HG4.out; have := HG5.out; have := HG6.out; have := HG7.out; have := HG8.out; have := HG9.out; have := HG10.out; omega)).trans HXb12.out
  have hb13 := (setRow_other V27 b17 b13 (hC q) (by have := HG.out; have := HG1.out; have := HG2.out; have := HG3.out; have := HG4.out; have := HG5.out; have := HG6.out; have := HG7.out; have := HG8.out; have := HG9.out; have := HG10.out; omega)).trans HXb13.out
  have hb14 := (setRow_other V27 b17 b14 (hC q) (by have := HG.out; have := HG1.out; have := HG2.out; have := HG3.out; have := HG4.out; have := HG5.out; have := HG6.out; have := HG7.out; have := HG8.out; have := HG9.out; have := HG10.out; omega)).trans HXb14.out
  have hb15 := (setRow_other V27 b17 b15 (hC q) (by have := HG.out; have := HG1.out; have := HG2.out; have := HG3.out; have := HG4.out; have := HG5.out; have := HG6.out; have := HG7.out; have := HG8.out; have := HG9.out; have := HG10.out; omega)).trans HXb15.out
  have hb16 := (setRow_other V27 b17 b16 (hC q) (by have := HG.out; have := HG1.out; have := HG2.out; have := HG3.out; have := HG4.out; have := HG5.out; have := HG6.out; have := HG7.out; have := HG8.out; have := HG9.out; have := HG10.out; omega)).trans HXb16.out
  have hb18 := (setRow_other V27 b17 b18 (hC q) (by have := HG.out; have := HG1.out; have := HG2.out; have := HG3.out; have := HG4.out; have := HG5.out; have := HG6.out; have := HG7.out; have := HG8.out; have := HG9.out; have := HG10.out; omega)).trans HXb18.out
  generalize V27.setRow b17 (hC q) = V28 at hn hb hb8 hb28 hb33 hb11 hb12 hb13 hb14 hb15 hb16 hb18 ⊢
  clear HB HXb8 HXb28 HXb33 HXb11 HXb12 HXb13 HXb14 HXb15 HXb16 HXb17 HXb18
  have HB : Hid (Bel w V28) := Lib.hid hb
  have HXb8 : Hid (HAt V28 b8 h) := Lib.hid hb8
  have HXb28 : Hid (SlAt V28 b28 #[.int .i64 768, .int .i64 773, .int .i64 832, .int .i64 833, .int .i64 834, .int .i64 1984]) := Lib.hid hb28
  have HXb33 : Hid (SlAt V28 b33 #[.int .i64 136, .int .i64 (-4), .int .i64 (-1), .int .i64 (-4), .int .i64 (-1), .int .i64 (-1)]) := Lib.hid hb33
  have HXb11 : Hid (HAt V28 b11 a) := Lib.hid hb11
  have HXb12 : Hid (EfAt V28 b12 e0) := Lib.hid hb12
  have HXb13 : Hid (HAt V28 b13 b) := Lib.hid hb13
  have HXb14 : Hid (EfAt V28 b14 e0) := Lib.hid hb14
  have HXb15 : Hid (HAt V28 b15 p) := Lib.hid hb15
  have HXb16 : Hid (EfAt V28 b16 e0) := Lib.hid hb16
  have HXb18 : Hid (EfAt V28 b18 e0) := Lib.hid hb18
  have HXb17 : Hid (HAt V28 b17 q) := Lib.hid hn
  clear hn hb hb8 hb28 hb33 hb11 hb12 hb13 hb14 hb15 hb16 hb18
  try simp only [Act.put, List.setIfInBounds_toArray, List.set_cons_zero, List.set_cons_succ]
  refine wpList_store_row rfl 34 (.tmp 18) (.tmp 65) rfl b18 (eC e0) rfl rfl 34 (eC e0) HXb18.out (sz_eff _) rfl (eC_ones _) ?_
  have hn := row_same (cs := (eC e0)) HXb18.out
  have hb := row_bel HB.out (g := b18) (by have := HG.out; have := HG1.out; have := HG2.out; have := HG3.out; have := HG4.out; have := HG5.out; have := HG6.out; have := HG7.out; have := HG8.out; have := HG9.out; have := HG10.out; omega) (eC e0)
  have hb8 := (setRow_other V28 b18 b8 (eC e0) (by have := HG.out; have := HG1.out; have := HG2.out; have := HG3.out; have := HG4.out; have := HG5.out; have := HG6.out; have := HG7.out; have := HG8.out; have := HG9.out; have := HG10.out; omega)).trans HXb8.out
  have hb28 := (setRow_other V28 b18 b28 (eC e0) (by have := HG.out; have := HG1.out; have := HG2.out; have := HG3.out; have := HG4.out; have := HG5.out; have := HG6.out; have := HG7.out; have := HG8.out; have := HG9.out; have := HG10.out; omega)).trans HXb28.out
  have hb33 := (setRow_other V28 b18 b33 (eC e0) (by have := HG.out; have := HG1.out; have := HG2.out; have := HG3.out; have := HG4.out; have := HG5.out; have := HG6.out; have := HG7.out; have := HG8.out; have := HG9.out; have := HG10.out; omega)).trans HXb33.out
  have hb11 := (setRow_other V28 b18 b11 (eC e0) (by have := HG.out; have := HG1.out; have := HG2.out; have := HG3.out; have := HG4.out; have := HG5.out; have := HG6.out; have := HG7.out; have := HG8.out; have := HG9.out; have := HG10.out; omega)).trans HXb11.out
  have hb12 := (setRow_other V28 b18 b12 (eC e0) (by have := HG.out; have := HG1.out; have := HG2.out; have := HG3.out; have := HG4.out; have := HG5.out; have := HG6.out; have := HG7.out; have := HG8.out; have := HG9.out; have := HG10.out; omega)).trans HXb12.out
  have hb13 := (setRow_other V28 b18 b13 (eC e0) (by have := HG.out; have := HG1.out; have := HG2.out; have := HG3.out; have := HG4.out; have := HG5.out; have := HG6.out; have := HG7.out; have := HG8.out; have := HG9.out; have := HG10.out; omega)).trans HXb13.out
  have hb14 := (setRow_other V28 b18 b14 (eC e0) (by have := HG.out; have := HG1.out; have := HG2.out; have := HG3.out; have := HG4.out; have := HG5.out; have := HG6.out; have := HG7.out; have := HG8.out; have := HG9.out; have := HG10.out; omega)).trans HXb14.out
  have hb15 := (setRow_other V28 b18 b15 (eC e0) (by have := HG.out; have := HG1.out; have := HG2.out; have := HG3.out; have := HG4.out; have := HG5.out; have := HG6.out; have := HG7.out; have := HG8.out; have := HG9.out; have := HG10.out; omega)).trans HXb15.out
  have hb16 := (setRow_other V28 b18 b16 (eC e0) (by have := HG.out; have := HG1.out; have := HG2.out; have := HG3.out; have := HG4.out; have := HG5.out; have := HG6.out; have := HG7.out; have := HG8.out; have := HG9.out; have := HG10.out; omega)).trans HXb16.out
  have hb17 := (setRow_other V28 b18 b17 (eC e0) (by have := HG.out; have := HG1.out; have := HG2.out; have := HG3.out; have := HG4.out; have := HG5.out; have := HG6.out; have := HG7.out; have := HG8.out; have := HG9.out; have := HG10.out; omega)).trans HXb17.out
  generalize V28.setRow b18 (eC e0) = V29 at hn hb hb8 hb28 hb33 hb11 hb12 hb13 hb14 hb15 hb16 hb17 ⊢
  clear HB HXb8 HXb28 HXb33 HXb11 HXb12 HXb13 HXb14 HXb15 HXb16 HXb17 HXb18
  have HB : Hid (Bel w V29) := Lib.hid hb
  have HXb8 : Hid (HAt V29 b8 h) := Lib.hid hb8
  have HXb28 : Hid (SlAt V29 b28 #[.int .i64 768, .int .i64 773, .int .i64 832, .int .i64 833, .int .i64 834, .int .i64 1984]) := Lib.hid hb28
  have HXb33 : Hid (SlAt V29 b33 #[.int .i64 136, .int .i64 (-4), .int .i64 (-1), .int .i64 (-4), .int .i64 (-1), .int .i64 (-1)]) := Lib.hid hb33
  have HXb11 : Hid (HAt V29 b11 a) := Lib.hid hb11
  have HXb12 : Hid (EfAt V29 b12 e0) := Lib.hid hb12
  have HXb13 : Hid (HAt V29 b13 b) := Lib.hid hb13
  have HXb14 : Hid (EfAt V29 b14 e0) := Lib.hid hb14
  have HXb15 : Hid (HAt V29 b15 p) := Lib.hid hb15
  have HXb16 : Hid (EfAt V29 b16 e0) := Lib.hid hb16
  have HXb17 : Hid (HAt V29 b17 q) := Lib.hid hb17
  have HXb18 : Hid (EfAt V29 b18 e0) := Lib.hid hn
  clear hn hb hb8 hb28 hb33 hb11 hb12 hb13 hb14 hb15 hb16 hb17
  try simp only [Act.put, List.setIfInBounds_toArray, List.set_cons_zero, List.set_cons_succ]
  refine wpList_nil ?_
  refine hK _ _ ?_
  clear hK K
  go_upto_region 9 with (fail)
  rename_i K hK
  refine wp_region_list ?_
  refine wpList_load_row rfl 28 (.tmp 17) rfl b17 rfl 28 (hC q) (0, 0) _ HXb17.out Tryd.underlying28 rfl (sz_hart _) ?_
  try simp only [Act.put, List.setIfInBounds_toArray, List.set_cons_zero, List.set_cons_succ]
  refine wpList_one rfl (w' := V29) (v := .int .i64 c) rfl ?_
  try simp only [Act.put, List.setIfInBounds_toArray, List.set_cons_zero, List.set_cons_succ]
  refine wpList_one rfl (w' := V29) (v := iv 41 12 0 0 c) (by kernel_rfl) ?_
  try simp only [Act.put, List.setIfInBounds_toArray, List.set_cons_zero, List.set_cons_succ]
  refine wpList_call rfl (f := 16) (args := #[hv q, .int .i64 0, iv 41 12 0 0 c]) (v := .tuple #[hv r, .agg (eC e0)]) (by kernel_rfl) (st HO HB.out (wf5 W41.out W12.out W0_.out W0_.out Wc.out) S5.out) ?_
  intro V30 hb
  replace HB : Hid (Bel w V30) := Lib.hid (HB.out.trans hb)
  replace HXb8 : Hid (HAt V30 b8 h) := Lib.hid (HXb8.out.bel hb)
  replace HXb28 : Hid (SlAt V30 b28 #[.int .i64 768, .int .i64 773, .int .i64 832, .int .i64 833, .int .i64 834, .int .i64 1984]) := Lib.hid (HXb28.out.bel hb)
  replace HXb33 : Hid (SlAt V30 b33 #[.int .i64 136, .int .i64 (-4), .int .i64 (-1), .int .i64 (-4), .int .i64 (-1), .int .i64 (-1)]) := Lib.hid (HXb33.out.bel hb)
  replace HXb11 : Hid (HAt V30 b11 a) := Lib.hid (HXb11.out.bel hb)
  replace HXb12 : Hid (EfAt V30 b12 e0) := Lib.hid (HXb12.out.bel hb)
  replace HXb13 : Hid (HAt V30 b13 b) := Lib.hid (HXb13.out.bel hb)
  replace HXb14 : Hid (EfAt V30 b14 e0) := Lib.hid (HXb14.out.bel hb)
  replace HXb15 : Hid (HAt V30 b15 p) := Lib.hid (HXb15.out.bel hb)
  replace HXb16 : Hid (EfAt V30 b16 e0) := Lib.hid (HXb16.out.bel hb)
  replace HXb17 : Hid (HAt V30 b17 q) := Lib.hid (HXb17.out.bel hb)
  replace HXb18 : Hid (EfAt V30 b18 e0) := Lib.hid (HXb18.out.bel hb)
  clear hb
  try simp only [Act.put, List.setIfInBounds_toArray, List.set_cons_zero, List.set_cons_succ]
  refine wpList_one rfl (w' := V30) (v := .tuple #[hv r, .agg (eC e0)]) rfl ?_
  try simp only [Act.put, List.setIfInBounds_toArray, List.set_cons_zero, List.set_cons_succ]
  refine wpList_one rfl (w' := V30) (v := hv r) rfl ?_
  try simp only [Act.put, List.setIfInBounds_toArray, List.set_cons_zero, List.set_cons_succ]
  refine wpList_one rfl (w' := V30) (v := .agg (eC e0)) rfl ?_
  try simp only [Act.put, List.setIfInBounds_toArray, List.set_cons_zero, List.set_cons_succ]
  obtain ⟨hb, hx⟩ := box1 V30 hZ 28
  refine wpList_one rfl (w' := V30.alloc (.cells hZ 28)) (v := .pointer (some ⟨V30.heap.size, 0, none⟩)) (by kernel_rfl) ?_
  try simp only [Act.put, List.setIfInBounds_toArray, List.set_cons_zero, List.set_cons_succ]
  have hl := lt_of_heap HXb18.out
  generalize V30.alloc (.cells hZ 28) = V31 at hb hx ⊢
  generalize V30.heap.size = b19 at hx hl ⊢
  have HG11 := Lib.hid hl
  clear hl
  replace HB : Hid (Bel w V31) := Lib.hid (HB.out.trans hb)
  replace HXb8 : Hid (HAt V31 b8 h) := Lib.hid (HXb8.out.bel hb)
  replace HXb28 : Hid (SlAt V31 b28 #[.int .i64 768, .int .i64 773, .int .i64 832, .int .i64 833, .int .i64 834, .int .i64 1984]) := Lib.hid (HXb28.out.bel hb)
  replace HXb33 : Hid (SlAt V31 b33 #[.int .i64 136, .int .i64 (-4), .int .i64 (-1), .int .i64 (-4), .int .i64 (-1), .int .i64 (-1)]) := Lib.hid (HXb33.out.bel hb)
  replace HXb11 : Hid (HAt V31 b11 a) := Lib.hid (HXb11.out.bel hb)
  replace HXb12 : Hid (EfAt V31 b12 e0) := Lib.hid (HXb12.out.bel hb)
  replace HXb13 : Hid (HAt V31 b13 b) := Lib.hid (HXb13.out.bel hb)
  replace HXb14 : Hid (EfAt V31 b14 e0) := Lib.hid (HXb14.out.bel hb)
  replace HXb15 : Hid (HAt V31 b15 p) := Lib.hid (HXb15.out.bel hb)
  replace HXb16 : Hid (EfAt V31 b16 e0) := Lib.hid (HXb16.out.bel hb)
  replace HXb17 : Hid (HAt V31 b17 q) := Lib.hid (HXb17.out.bel hb)
  replace HXb18 : Hid (EfAt V31 b18 e0) := Lib.hid (HXb18.out.bel hb)
  have HXb19 : Hid (HAt V31 b19 (fun _ => 0)) := Lib.hid hx
  clear hb hx
  try simp only [Act.put, List.setIfInBounds_toArray, List.set_cons_zero, List.set_cons_succ]
  obtain ⟨hb, hx⟩ := box1 V31 (eC e0) 34
  refine wpList_one rfl (w' := V31.alloc (.cells (eC e0) 34)) (v := .pointer (some ⟨V31.heap.size, 0, none⟩)) (by kernel_rfl) ?_
  try simp only [Act.put, List.setIfInBounds_toArray, List.set_cons_zero, List.set_cons_succ]
  have hl := lt_of_heap HXb19.out
  generalize V31.alloc (.cells (eC e0) 34) = V32 at hb hx ⊢
  generalize V31.heap.size = b20 at hx hl ⊢
  have HG12 := Lib.hid hl
  clear hl
  replace HB : Hid (Bel w V32) := Lib.hid (HB.out.trans hb)
  replace HXb8 : Hid (HAt V32 b8 h) := Lib.hid (HXb8.out.bel hb)
  replace HXb28 : Hid (SlAt V32 b28 #[.int .i64 768, .int .i64 773, .int .i64 832, .int .i64 833, .int .i64 834, .int .i64 1984]) := Lib.hid (HXb28.out.bel hb)
  replace HXb33 : Hid (SlAt V32 b33 #[.int .i64 136, .int .i64 (-4), .int .i64 (-1), .int .i64 (-4), .int .i64 (-1), .int .i64 (-1)]) := Lib.hid (HXb33.out.bel hb)
  replace HXb11 : Hid (HAt V32 b11 a) := Lib.hid (HXb11.out.bel hb)
  replace HXb12 : Hid (EfAt V32 b12 e0) := Lib.hid (HXb12.out.bel hb)
  replace HXb13 : Hid (HAt V32 b13 b) := Lib.hid (HXb13.out.bel hb)
  replace HXb14 : Hid (EfAt V32 b14 e0) := Lib.hid (HXb14.out.bel hb)
  replace HXb15 : Hid (HAt V32 b15 p) := Lib.hid (HXb15.out.bel hb)
  replace HXb16 : Hid (EfAt V32 b16 e0) := Lib.hid (HXb16.out.bel hb)
  replace HXb17 : Hid (HAt V32 b17 q) := Lib.hid (HXb17.out.bel hb)
  replace HXb18 : Hid (EfAt V32 b18 e0) := Lib.hid (HXb18.out.bel hb)
  replace HXb19 : Hid (HAt V32 b19 (fun _ => 0)) := Lib.hid (HXb19.out.bel hb)
  have HXb20 : Hid (EfAt V32 b20 e0) := Lib.hid hx
  clear hb hx
  try simp only [Act.put, List.setIfInBounds_toArray, List.set_cons_zero, List.set_cons_succ]
  refine wpList_store_row rfl 28 (.tmp 19) (.tmp 71) rfl b19 (hC r) rfl rfl 28 (hC (fun _ => 0)) HXb19.out (sz_hart _) (by rw [hC_size, hC_size]) (hC_ones _) ?_
  have hn := row_same (cs := (hC r)) HXb19.out
  have hb := row_bel HB.out (g := b19) (by have := HG.out; have := HG1.out; have := HG2.out; have := HG3.out; have := HG4.out; have := HG5.out; have := HG6.out; have := HG7.out; have := HG8.out; have := HG9.out; have := HG10.out; have := HG11.out; have := HG12.out; omega) (hC r)
  have hb8 := (setRow_other V32 b19 b8 (hC r) (by have := HG.out; have := HG1.out; have := HG2.out; have := HG3.out; have := HG4.out; have := HG5.out; have := HG6.out; have := HG7.out; have := HG8.out; have := HG9.out; have := HG10.out; have := HG11.out; have := HG12.out; omega)).trans HXb8.out
  have hb28 := (setRow_other V32 b19 b28 (hC r) (by have := HG.out; have := HG1.out; have := HG2.out; have := HG3.out; have := HG4.out; have := HG5.out; have := HG6.out; have := HG7.out; have := HG8.out; have := HG9.out; have := HG10.out; have := HG11.out; have := HG12.out; omega)).trans HXb28.out
  have hb33 := (setRow_other V32 b19 b33 (hC r) (by have := HG.out; have := HG1.out; have := HG2.out; have := HG3.out; have := HG4.out; have := HG5.out; have := HG6.out; have := HG7.out; have := HG8.out; have := HG9.out; have := HG10.out; have := HG11.out; have := HG12.out; omega)).trans HXb33.out
  have hb11 := (setRow_other V32 b19 b11 (hC r) (by have := HG.out; have := HG1.out; have := HG2.out; have := HG3.out; have := HG4.out; have := HG5.out; have := HG6.out; have := HG7.out; have := HG8.out; have := HG9.out; have := HG10.out; have := HG11.out; have := HG12.out; omega)).trans HXb11.out
  have hb12 := (setRow_other V32 b19 b12 (hC r) (by have := HG.out; have := HG1.out; have := HG2.out; have := HG3.out; have := HG4.out; have := HG5.out; have := HG6.out; have := HG7.out; have := HG8.out; have := HG9.out; have := HG10.out; have := HG11.out; have := HG12.out; omega)).trans HXb12.out
  have hb13 := (setRow_other V32 b19 b13 (hC r) (by have := HG.out; have := HG1.out; have := HG2.out; have := HG3.out; have := HG4.out; have := HG5.out; have := HG6.out; have := HG7.out; have := HG8.out; have := HG9.out; have := HG10.out; have := HG11.out; have := HG12.out; omega)).trans HXb13.out
  have hb14 := (setRow_other V32 b19 b14 (hC r) (by have := HG.out; have := HG1.out; have := HG2.out; have := HG3.out; have := HG4.out; have := HG5.out; have := HG6.out; have := HG7.out; have := HG8.out; have := HG9.out; have := HG10.out; have := HG11.out; have := HG12.out; omega)).trans HXb14.out
  have hb15 := (setRow_other V32 b19 b15 (hC r) (by have := HG.out; have := HG1.out; have := HG2.out; have := HG3.out; have := HG4.out; have := HG5.out; have := HG6.out; have := HG7.out; have := HG8.out; have := HG9.out; have := HG10.out; have := HG11.out; have := HG12.out; omega)).trans HXb15.out
  have hb16 := (setRow_other V32 b19 b16 (hC r) (by have := HG.out; have := HG1.out; have := HG2.out; have := HG3.out; have := HG4.out; have := HG5.out; have := HG6.out; have := HG7.out; have := HG8.out; have := HG9.out; have := HG10.out; have := HG11.out; have := HG12.out; omega)).trans HXb16.out
  have hb17 := (setRow_other V32 b19 b17 (hC r) (by have := HG.out; have := HG1.out; have := HG2.out; have := HG3.out; have := HG4.out; have := HG5.out; have := HG6.out; have := HG7.out; have := HG8.out; have := HG9.out; have := HG10.out; have := HG11.out; have := HG12.out; omega)).trans HXb17.out
  have hb18 := (setRow_other V32 b19 b18 (hC r) (by have := HG.out; have := HG1.out; have := HG2.out; have := HG3.out; have := HG4.out; have := HG5.out; have := HG6.out; have := HG7.out; have := HG8.out; have := HG9.out; have := HG10.out; have := HG11.out; have := HG12.out; omega)).trans HXb18.out
  have hb20 := (setRow_other V32 b19 b20 (hC r) (by have := HG.out; have := HG1.out; have := HG2.out; have := HG3.out; have := HG4.out; have := HG5.out; have := HG6.out; have := HG7.out; have := HG8.out; have := HG9.out; have := HG10.out; have := HG11.out; have := HG12.out; omega)).trans HXb20.out
  generalize V32.setRow b19 (hC r) = V33 at hn hb hb8 hb28 hb33 hb11 hb12 hb13 hb14 hb15 hb16 hb17 hb18 hb20 ⊢
  clear HB HXb8 HXb28 HXb33 HXb11 HXb12 HXb13 HXb14 HXb15 HXb16 HXb17 HXb18 HXb19 HXb20
  have HB : Hid (Bel w V33) := Lib.hid hb
  have HXb8 : Hid (HAt V33 b8 h) := Lib.hid hb8
  have HXb28 : Hid (SlAt V33 b28 #[.int .i64 768, .int .i64 773, .int .i64 832, .int .i64 833, .int .i64 834, .int .i64 1984]) := Lib.hid hb28
  have HXb33 : Hid (SlAt V33 b33 #[.int .i64 136, .int .i64 (-4), .int .i64 (-1), .int .i64 (-4), .int .i64 (-1), .int .i64 (-1)]) := Lib.hid hb33
  have HXb11 : Hid (HAt V33 b11 a) := Lib.hid hb11
  have HXb12 : Hid (EfAt V33 b12 e0) := Lib.hid hb12
  have HXb13 : Hid (HAt V33 b13 b) := Lib.hid hb13
  have HXb14 : Hid (EfAt V33 b14 e0) := Lib.hid hb14
  have HXb15 : Hid (HAt V33 b15 p) := Lib.hid hb15
  have HXb16 : Hid (EfAt V33 b16 e0) := Lib.hid hb16
  have HXb17 : Hid (HAt V33 b17 q) := Lib.hid hb17
  have HXb18 : Hid (EfAt V33 b18 e0) := Lib.hid hb18
  have HXb20 : Hid (EfAt V33 b20 e0) := Lib.hid hb20
  have HXb19 : Hid (HAt V33 b19 r) := Lib.hid hn
  clear hn hb hb8 hb28 hb33 hb11 hb12 hb13 hb14 hb15 hb16 hb17 hb18 hb20
  try simp only [Act.put, List.setIfInBounds_toArray, List.set_cons_zero, List.set_cons_succ]
  refine wpList_store_row rfl 34 (.tmp 20) (.tmp 72) rfl b20 (eC e0) rfl rfl 34 (eC e0) HXb20.out (sz_eff _) rfl (eC_ones _) ?_
  have hn := row_same (cs := (eC e0)) HXb20.out
  have hb := row_bel HB.out (g := b20) (by have := HG.out; have := HG1.out; have := HG2.out; have := HG3.out; have := HG4.out; have := HG5.out; have := HG6.out; have := HG7.out; have := HG8.out; have := HG9.out; have := HG10.out; have := HG11.out; have := HG12.out; omega) (eC e0)
  have hb8 := (setRow_other V33 b20 b8 (eC e0) (by have := HG.out; have := HG1.out; have := HG2.out; have := HG3.out; have := HG4.out; have := HG5.out; have := HG6.out; have := HG7.out; have := HG8.out; have := HG9.out; have := HG10.out; have := HG11.out; have := HG12.out; omega)).trans HXb8.out
  have hb28 := (setRow_other V33 b20 b28 (eC e0) (by have := HG.out; have := HG1.out; have := HG2.out; have := HG3.out; have := HG4.out; have := HG5.out; have := HG6.out; have := HG7.out; have := HG8.out; have := HG9.out; have := HG10.out; have := HG11.out; have := HG12.out; omega)).trans HXb28.out
  have hb33 := (setRow_other V33 b20 b33 (eC e0) (by have := HG.out; have := HG1.out; have := HG2.out; have := HG3.out; have := HG4.out; have := HG5.out; have := HG6.out; have := HG7.out; have := HG8.out; have := HG9.out; have := HG10.out; have := HG11.out; have := HG12.out; omega)).trans HXb33.out
  have hb11 := (setRow_other V33 b20 b11 (eC e0) (by have := HG.out; have := HG1.out; have := HG2.out; have := HG3.out; have := HG4.out; have := HG5.out; have := HG6.out; have := HG7.out; have := HG8.out; have := HG9.out; have := HG10.out; have := HG11.out; have := HG12.out; omega)).trans HXb11.out
  have hb12 := (setRow_other V33 b20 b12 (eC e0) (by have := HG.out; have := HG1.out; have := HG2.out; have := HG3.out; have := HG4.out; have := HG5.out; have := HG6.out; have := HG7.out; have := HG8.out; have := HG9.out; have := HG10.out; have := HG11.out; have := HG12.out; omega)).trans HXb12.out
  have hb13 := (setRow_other V33 b20 b13 (eC e0) (by have := HG.out; have := HG1.out; have := HG2.out; have := HG3.out; have := HG4.out; have := HG5.out; have := HG6.out; have := HG7.out; have := HG8.out; have := HG9.out; have := HG10.out; have := HG11.out; have := HG12.out; omega)).trans HXb13.out
  have hb14 := (setRow_other V33 b20 b14 (eC e0) (by have := HG.out; have := HG1.out; have := HG2.out; have := HG3.out; have := HG4.out; have := HG5.out; have := HG6.out; have := HG7.out; have := HG8.out; have := HG9.out; have := HG10.out; have := HG11.out; have := HG12.out; omega)).trans HXb14.out
  have hb15 := (setRow_other V33 b20 b15 (eC e0) (by have := HG.out; have := HG1.out; have := HG2.out; have := HG3.out; have := HG4.out; have := HG5.out; have := HG6.out; have := HG7.out; have := HG8.out; have := HG9.out; have := HG10.out; have := HG11.out; have := HG12.out; omega)).trans HXb15.out
  have hb16 := (setRow_other V33 b20 b16 (eC e0) (by have := HG.out; have := HG1.out; have := HG2.out; have := HG3.out; have := HG4.out; have := HG5.out; have := HG6.out; have := HG7.out; have := HG8.out; have := HG9.out; have := HG10.out; have := HG11.out; have := HG12.out; omega)).trans HXb16.out
  have hb17 := (setRow_other V33 b20 b17 (eC e0) (by have := HG.out; have := HG1.out; have := HG2.out; have := HG3.out; have := HG4.out; have := HG5.out; have := HG6.out; have := HG7.out; have := HG8.out; have := HG9.out; have := HG10.out; have := HG11.out; have := HG12.out; omega)).trans HXb17.out
  have hb18 := (setRow_other V33 b20 b18 (eC e0) (by have := HG.out; have := HG1.out; have := HG2.out; have := HG3.out; have := HG4.out; have := HG5.out; have := HG6.out; have := HG7.out; have := HG8.out; have := HG9.out; have := HG10.out; have := HG11.out; have := HG12.out; omega)).trans HXb18.out
  have hb19 := (setRow_other V33 b20 b19 (eC e0) (by have := HG.out; have := HG1.out; have := HG2.out; have := HG3.out; have := HG4.out; have := HG5.out; have := HG6.out; have := HG7.out; have := HG8.out; have := HG9.out; have := HG10.out; have := HG11.out; have := HG12.out; omega)).trans HXb19.out
  generalize V33.setRow b20 (eC e0) = V34 at hn hb hb8 hb28 hb33 hb11 hb12 hb13 hb14 hb15 hb16 hb17 hb18 hb19 ⊢
  clear HB HXb8 HXb28 HXb33 HXb11 HXb12 HXb13 HXb14 HXb15 HXb16 HXb17 HXb18 HXb19 HXb20
  have HB : Hid (Bel w V34) := Lib.hid hb
  have HXb8 : Hid (HAt V34 b8 h) := Lib.hid hb8
  have HXb28 : Hid (SlAt V34 b28 #[.int .i64 768, .int .i64 773, .int .i64 832, .int .i64 833, .int .i64 834, .int .i64 1984]) := Lib.hid hb28
  have HXb33 : Hid (SlAt V34 b33 #[.int .i64 136, .int .i64 (-4), .int .i64 (-1), .int .i64 (-4), .int .i64 (-1), .int .i64 (-1)]) := Lib.hid hb33
  have HXb11 : Hid (HAt V34 b11 a) := Lib.hid hb11
  have HXb12 : Hid (EfAt V34 b12 e0) := Lib.hid hb12
  have HXb13 : Hid (HAt V34 b13 b) := Lib.hid hb13
  have HXb14 : Hid (EfAt V34 b14 e0) := Lib.hid hb14
  have HXb15 : Hid (HAt V34 b15 p) := Lib.hid hb15
  have HXb16 : Hid (EfAt V34 b16 e0) := Lib.hid hb16
  have HXb17 : Hid (HAt V34 b17 q) := Lib.hid hb17
  have HXb18 : Hid (EfAt V34 b18 e0) := Lib.hid hb18
  have HXb19 : Hid (HAt V34 b19 r) := Lib.hid hb19
  have HXb20 : Hid (EfAt V34 b20 e0) := Lib.hid hn
  clear hn hb hb8 hb28 hb33 hb11 hb12 hb13 hb14 hb15 hb16 hb17 hb18 hb19
  try simp only [Act.put, List.setIfInBounds_toArray, List.set_cons_zero, List.set_cons_succ]
  refine wpList_nil ?_
  refine hK _ _ ?_
  clear hK K
  go_upto_region 10 with (fail)
  rename_i K hK
  refine wp_region_list ?_
  refine wpList_one rfl (w' := V34) (v := .int .i64 n) rfl ?_
  try simp only [Act.put, List.setIfInBounds_toArray, List.set_cons_zero, List.set_cons_succ]
  refine wpList_call rfl (f := 27) (args := #[.int .i64 n]) (v := .int .i64 n1) (by kernel_rfl) (wl N1.out _) ?_
  intro V35 hb
  replace HB : Hid (Bel w V35) := Lib.hid (HB.out.trans hb)
  replace HXb8 : Hid (HAt V35 b8 h) := Lib.hid (HXb8.out.bel hb)
  replace HXb28 : Hid (SlAt V35 b28 #[.int .i64 768, .int .i64 773, .int .i64 832, .int .i64 833, .int .i64 834, .int .i64 1984]) := Lib.hid (HXb28.out.bel hb)
  replace HXb33 : Hid (SlAt V35 b33 #[.int .i64 136, .int .i64 (-4), .int .i64 (-1), .int .i64 (-4), .int .i64 (-1), .int .i64 (-1)]) := Lib.hid (HXb33.out.bel hb)
  replace HXb11 : Hid (HAt V35 b11 a) := Lib.hid (HXb11.out.bel hb)
  replace HXb12 : Hid (EfAt V35 b12 e0) := Lib.hid (HXb12.out.bel hb)
  replace HXb13 : Hid (HAt V35 b13 b) := Lib.hid (HXb13.out.bel hb)
  replace HXb14 : Hid (EfAt V35 b14 e0) := Lib.hid (HXb14.out.bel hb)
  replace HXb15 : Hid (HAt V35 b15 p) := Lib.hid (HXb15.out.bel hb)
  replace HXb16 : Hid (EfAt V35 b16 e0) := Lib.hid (HXb16.out.bel hb)
  replace HXb17 : Hid (HAt V35 b17 q) := Lib.hid (HXb17.out.bel hb)
  replace HXb18 : Hid (EfAt V35 b18 e0) := Lib.hid (HXb18.out.bel hb)
  replace HXb19 : Hid (HAt V35 b19 r) := Lib.hid (HXb19.out.bel hb)
  replace HXb20 : Hid (EfAt V35 b20 e0) := Lib.hid (HXb20.out.bel hb)
  clear hb
  try simp only [Act.put, List.setIfInBounds_toArray, List.set_cons_zero, List.set_cons_succ]
  refine wpList_one rfl (w' := V35) (v := .int .i64 bt) rfl ?_
  try simp only [Act.put, List.setIfInBounds_toArray, List.set_cons_zero, List.set_cons_succ]
  refine wpList_one rfl (w' := V35) (v := .int .i64 m) (exec_and rfl rfl rfl X1.out _) ?_
  try simp only [Act.put, List.setIfInBounds_toArray, List.set_cons_zero, List.set_cons_succ]
  refine wpList_one rfl (w' := V35) (v := .int .i64 m) rfl ?_
  try simp only [Act.put, List.setIfInBounds_toArray, List.set_cons_zero, List.set_cons_succ]
  refine wpList_nil ?_
  refine hK _ _ ?_
  clear hK K
  go_upto_region 11 with (fail)
  rename_i K hK
  refine wp_region_list ?_
  refine wpList_load_row rfl 28 (.tmp 13) rfl b13 rfl 28 (hC b) (0, 0) _ HXb13.out Tryd.underlying28 rfl (sz_hart _) ?_
  try simp only [Act.put, List.setIfInBounds_toArray, List.set_cons_zero, List.set_cons_succ]
  obtain ⟨hb, hx⟩ := box1 V35 hZ 28
  refine wpList_one rfl (w' := V35.alloc (.cells hZ 28)) (v := .pointer (some ⟨V35.heap.size, 0, none⟩)) (by kernel_rfl) ?_
  try simp only [Act.put, List.setIfInBounds_toArray, List.set_cons_zero, List.set_cons_succ]
  have hl := lt_of_heap HXb20.out
  generalize V35.alloc (.cells hZ 28) = V36 at hb hx ⊢
  generalize V35.heap.size = b22 at hx hl ⊢
  have HG13 := Lib.hid hl
  clear hl
  replace HB : Hid (Bel w V36) := Lib.hid (HB.out.trans hb)
  replace HXb8 : Hid (HAt V36 b8 h) := Lib.hid (HXb8.out.bel hb)
  replace HXb28 : Hid (SlAt V36 b28 #[.int .i64 768, .int .i64 773, .int .i64 832, .int .i64 833, .int .i64 834, .int .i64 1984]) := Lib.hid (HXb28.out.bel hb)
  replace HXb33 : Hid (SlAt V36 b33 #[.int .i64 136, .int .i64 (-4), .int .i64 (-1), .int .i64 (-4), .int .i64 (-1), .int .i64 (-1)]) := Lib.hid (HXb33.out.bel hb)
  replace HXb11 : Hid (HAt V36 b11 a) := Lib.hid (HXb11.out.bel hb)
  replace HXb12 : Hid (EfAt V36 b12 e0) := Lib.hid (HXb12.out.bel hb)
  replace HXb13 : Hid (HAt V36 b13 b) := Lib.hid (HXb13.out.bel hb)
  replace HXb14 : Hid (EfAt V36 b14 e0) := Lib.hid (HXb14.out.bel hb)
  replace HXb15 : Hid (HAt V36 b15 p) := Lib.hid (HXb15.out.bel hb)
  replace HXb16 : Hid (EfAt V36 b16 e0) := Lib.hid (HXb16.out.bel hb)
  replace HXb17 : Hid (HAt V36 b17 q) := Lib.hid (HXb17.out.bel hb)
  replace HXb18 : Hid (EfAt V36 b18 e0) := Lib.hid (HXb18.out.bel hb)
  replace HXb19 : Hid (HAt V36 b19 r) := Lib.hid (HXb19.out.bel hb)
  replace HXb20 : Hid (EfAt V36 b20 e0) := Lib.hid (HXb20.out.bel hb)
  have HXb22 : Hid (HAt V36 b22 (fun _ => 0)) := Lib.hid hx
  clear hb hx
  try simp only [Act.put, List.setIfInBounds_toArray, List.set_cons_zero, List.set_cons_succ]
  refine wpList_store_row rfl 28 (.tmp 22) (.tmp 77) rfl b22 (hC b) rfl rfl 28 (hC (fun _ => 0)) HXb22.out (sz_hart _) (by rw [hC_size, hC_size]) (hC_ones _) ?_
  have hn := row_same (cs := (hC b)) HXb22.out
  have hb := row_bel HB.out (g := b22) (by have := HG.out; have := HG1.out; have := HG2.out; have := HG3.out; have := HG4.out; have := HG5.out; have := HG6.out; have := HG7.out; have := HG8.out; have := HG9.out; have := HG10.out; have := HG11.out; have := HG12.out; have := HG13.out; omega) (hC b)
  have hb8 := (setRow_other V36 b22 b8 (hC b) (by have := HG.out; have := HG1.out; have := HG2.out; have := HG3.out; have := HG4.out; have := HG5.out; have := HG6.out; have := HG7.out; have := HG8.out; have := HG9.out; have := HG10.out; have := HG11.out; have := HG12.out; have := HG13.out; omega)).trans HXb8.out
  have hb28 := (setRow_other V36 b22 b28 (hC b) (by have := HG.out; have := HG1.out; have := HG2.out; have := HG3.out; have := HG4.out; have := HG5.out; have := HG6.out; have := HG7.out; have := HG8.out; have := HG9.out; have := HG10.out; have := HG11.out; have := HG12.out; have := HG13.out; omega)).trans HXb28.out
  have hb33 := (setRow_other V36 b22 b33 (hC b) (by have := HG.out; have := HG1.out; have := HG2.out; have := HG3.out; have := HG4.out; have := HG5.out; have := HG6.out; have := HG7.out; have := HG8.out; have := HG9.out; have := HG10.out; have := HG11.out; have := HG12.out; have := HG13.out; omega)).trans HXb33.out
  have hb11 := (setRow_other V36 b22 b11 (hC b) (by have := HG.out; have := HG1.out; have := HG2.out; have := HG3.out; have := HG4.out; have := HG5.out; have := HG6.out; have := HG7.out; have := HG8.out; have := HG9.out; have := HG10.out; have := HG11.out; have := HG12.out; have := HG13.out; omega)).trans HXb11.out
  have hb12 := (setRow_other V36 b22 b12 (hC b) (by have := HG.out; have := HG1.out; have := HG2.out; have := HG3.out; have := HG4.out; have := HG5.out; have := HG6.out; have := HG7.out; have := HG8.out; have := HG9.out; have := HG10.out; have := HG11.out; have := HG12.out; have := HG13.out; omega)).trans HXb12.out
  have hb13 := (setRow_other V36 b22 b13 (hC b) (by have := HG.out; have := HG1.out; have := HG2.out; have := HG3.out; have := HG4.out; have := HG5.out; have := HG6.out; have := HG7.out; have := HG8.out; have := HG9.out; have := HG10.out; have := HG11.out; have := HG12.out; have := HG13.out; omega)).trans HXb13.out
  have hb14 := (setRow_other V36 b22 b14 (hC b) (by have := HG.out; have := HG1.out; have := HG2.out; have := HG3.out; have := HG4.out; have := HG5.out; have := HG6.out; have := HG7.out; have := HG8.out; have := HG9.out; have := HG10.out; have := HG11.out; have := HG12.out; have := HG13.out; omega)).trans HXb14.out
  have hb15 := (setRow_other V36 b22 b15 (hC b) (by have := HG.out; have := HG1.out; have := HG2.out; have := HG3.out; have := HG4.out; have := HG5.out; have := HG6.out; have := HG7.out; have := HG8.out; have := HG9.out; have := HG10.out; have := HG11.out; have := HG12.out; have := HG13.out; omega)).trans HXb15.out
  have hb16 := (setRow_other V36 b22 b16 (hC b) (by have := HG.out; have := HG1.out; have := HG2.out; have := HG3.out; have := HG4.out; have := HG5.out; have := HG6.out; have := HG7.out; have := HG8.out; have := HG9.out; have := HG10.out; have := HG11.out; have := HG12.out; have := HG13.out; omega)).trans HXb16.out
  have hb17 := (setRow_other V36 b22 b17 (hC b) (by have := HG.out; have := HG1.out; have := HG2.out; have := HG3.out; have := HG4.out; have := HG5.out; have := HG6.out; have := HG7.out; have := HG8.out; have := HG9.out; have := HG10.out; have := HG11.out; have := HG12.out; have := HG13.out; omega)).trans HXb17.out
  have hb18 := (setRow_other V36 b22 b18 (hC b) (by have := HG.out; have := HG1.out; have := HG2.out; have := HG3.out; have := HG4.out; have := HG5.out; have := HG6.out; have := HG7.out; have := HG8.out; have := HG9.out; have := HG10.out; have := HG11.out; have := HG12.out; have := HG13.out; omega)).trans HXb18.out
  have hb19 := (setRow_other V36 b22 b19 (hC b) (by have := HG.out; have := HG1.out; have := HG2.out; have := HG3.out; have := HG4.out; have := HG5.out; have := HG6.out; have := HG7.out; have := HG8.out; have := HG9.out; have := HG10.out; have := HG11.out; have := HG12.out; have := HG13.out; omega)).trans HXb19.out
  have hb20 := (setRow_other V36 b22 b20 (hC b) (by have := HG.out; have := HG1.out; have := HG2.out; have := HG3.out; have := HG4.out; have := HG5.out; have := HG6.out; have := HG7.out; have := HG8.out; have := HG9.out; have := HG10.out; have := HG11.out; have := HG12.out; have := HG13.out; omega)).trans HXb20.out
  generalize V36.setRow b22 (hC b) = V37 at hn hb hb8 hb28 hb33 hb11 hb12 hb13 hb14 hb15 hb16 hb17 hb18 hb19 hb20 ⊢
  clear HB HXb8 HXb28 HXb33 HXb11 HXb12 HXb13 HXb14 HXb15 HXb16 HXb17 HXb18 HXb19 HXb20 HXb22
  have HB : Hid (Bel w V37) := Lib.hid hb
  have HXb8 : Hid (HAt V37 b8 h) := Lib.hid hb8
  have HXb28 : Hid (SlAt V37 b28 #[.int .i64 768, .int .i64 773, .int .i64 832, .int .i64 833, .int .i64 834, .int .i64 1984]) := Lib.hid hb28
  have HXb33 : Hid (SlAt V37 b33 #[.int .i64 136, .int .i64 (-4), .int .i64 (-1), .int .i64 (-4), .int .i64 (-1), .int .i64 (-1)]) := Lib.hid hb33
  have HXb11 : Hid (HAt V37 b11 a) := Lib.hid hb11
  have HXb12 : Hid (EfAt V37 b12 e0) := Lib.hid hb12
  have HXb13 : Hid (HAt V37 b13 b) := Lib.hid hb13
  have HXb14 : Hid (EfAt V37 b14 e0) := Lib.hid hb14
  have HXb15 : Hid (HAt V37 b15 p) := Lib.hid hb15
  have HXb16 : Hid (EfAt V37 b16 e0) := Lib.hid hb16
  have HXb17 : Hid (HAt V37 b17 q) := Lib.hid hb17
  have HXb18 : Hid (EfAt V37 b18 e0) := Lib.hid hb18
  have HXb19 : Hid (HAt V37 b19 r) := Lib.hid hb19
  have HXb20 : Hid (EfAt V37 b20 e0) := Lib.hid hb20
  have HXb22 : Hid (HAt V37 b22 b) := Lib.hid hn
  clear hn hb hb8 hb28 hb33 hb11 hb12 hb13 hb14 hb15 hb16 hb17 hb18 hb19 hb20
  try simp only [Act.put, List.setIfInBounds_toArray, List.set_cons_zero, List.set_cons_succ]
  refine wpList_nil ?_
  refine hK _ _ ?_
  clear hK K
  go_upto_region 12 with (fail)
  rename_i K hK
  refine wp_region_list ?_
  refine wpList_one rfl (w' := V37) (v := .pointer (some ⟨b8, 0, none⟩)) (by kernel_rfl) ?_
  try simp only [Act.put, List.setIfInBounds_toArray, List.set_cons_zero, List.set_cons_succ]
  refine wpList_one rfl (w' := V37) (v := rV h) (exec_regs (.tmp 78) rfl b8 rfl HXb8.out) ?_
  try simp only [Act.put, List.setIfInBounds_toArray, List.set_cons_zero, List.set_cons_succ]
  refine wpList_one rfl (w' := V37) (v := .pointer (some ⟨b22, 0, none⟩)) (by kernel_rfl) ?_
  try simp only [Act.put, List.setIfInBounds_toArray, List.set_cons_zero, List.set_cons_succ]
  refine wpList_store_regs rfl (.tmp 80) (.tmp 79) rfl b22 rfl h b rfl HXb22.out ?_
  intro V38 hn hsv
  have hb := hsv.bel HB.out (by have := HG.out; have := HG1.out; have := HG2.out; have := HG3.out; have := HG4.out; have := HG5.out; have := HG6.out; have := HG7.out; have := HG8.out; have := HG9.out; have := HG10.out; have := HG11.out; have := HG12.out; have := HG13.out; omega)
  have hb8 := (hsv.block b8 (lt_of_heap HXb8.out) (by have := HG.out; have := HG1.out; have := HG2.out; have := HG3.out; have := HG4.out; have := HG5.out; have := HG6.out; have := HG7.out; have := HG8.out; have := HG9.out; have := HG10.out; have := HG11.out; have := HG12.out; have := HG13.out; omega)).trans HXb8.out
  have hb28 := (hsv.block b28 (lt_of_heap HXb28.out) (by have := HG.out; have := HG1.out; have := HG2.out; have := HG3.out; have := HG4.out; have := HG5.out; have := HG6.out; have := HG7.out; have := HG8.out; have := HG9.out; have := HG10.out; have := HG11.out; have := HG12.out; have := HG13.out; omega)).trans HXb28.out
  have hb33 := (hsv.block b33 (lt_of_heap HXb33.out) (by have := HG.out; have := HG1.out; have := HG2.out; have := HG3.out; have := HG4.out; have := HG5.out; have := HG6.out; have := HG7.out; have := HG8.out; have := HG9.out; have := HG10.out; have := HG11.out; have := HG12.out; have := HG13.out; omega)).trans HXb33.out
  have hb11 := (hsv.block b11 (lt_of_heap HXb11.out) (by have := HG.out; have := HG1.out; have := HG2.out; have := HG3.out; have := HG4.out; have := HG5.out; have := HG6.out; have := HG7.out; have := HG8.out; have := HG9.out; have := HG10.out; have := HG11.out; have := HG12.out; have := HG13.out; omega)).trans HXb11.out
  have hb12 := (hsv.block b12 (lt_of_heap HXb12.out) (by have := HG.out; have := HG1.out; have := HG2.out; have := HG3.out; have := HG4.out; have := HG5.out; have := HG6.out; have := HG7.out; have := HG8.out; have := HG9.out; have := HG10.out; have := HG11.out; have := HG12.out; have := HG13.out; omega)).trans HXb12.out
  have hb13 := (hsv.block b13 (lt_of_heap HXb13.out) (by have := HG.out; have := HG1.out; have := HG2.out; have := HG3.out; have := HG4.out; have := HG5.out; have := HG6.out; have := HG7.out; have := HG8.out; have := HG9.out; have := HG10.out; have := HG11.out; have := HG12.out; have := HG13.out; omega)).trans HXb13.out
  have hb14 := (hsv.block b14 (lt_of_heap HXb14.out) (by have := HG.out; have := HG1.out; have := HG2.out; have := HG3.out; have := HG4.out; have := HG5.out; have := HG6.out; have := HG7.out; have := HG8.out; have := HG9.out; have := HG10.out; have := HG11.out; have := HG12.out; have := HG13.out; omega)).trans HXb14.out
  have hb15 := (hsv.block b15 (lt_of_heap HXb15.out) (by have := HG.out; have := HG1.out; have := HG2.out; have := HG3.out; have := HG4.out; have := HG5.out; have := HG6.out; have := HG7.out; have := HG8.out; have := HG9.out; have := HG10.out; have := HG11.out; have := HG12.out; have := HG13.out; omega)).trans HXb15.out
  have hb16 := (hsv.block b16 (lt_of_heap HXb16.out) (by have := HG.out; have := HG1.out; have := HG2.out; have := HG3.out; have := HG4.out; have := HG5.out; have := HG6.out; have := HG7.out; have := HG8.out; have := HG9.out; have := HG10.out; have := HG11.out; have := HG12.out; have := HG13.out; omega)).trans HXb16.out
  have hb17 := (hsv.block b17 (lt_of_heap HXb17.out) (by have := HG.out; have := HG1.out; have := HG2.out; have := HG3.out; have := HG4.out; have := HG5.out; have := HG6.out; have := HG7.out; have := HG8.out; have := HG9.out; have := HG10.out; have := HG11.out; have := HG12.out; have := HG13.out; omega)).trans HXb17.out
  have hb18 := (hsv.block b18 (lt_of_heap HXb18.out) (by have := HG.out; have := HG1.out; have := HG2.out; have := HG3.out; have := HG4.out; have := HG5.out; have := HG6.out; have := HG7.out; have := HG8.out; have := HG9.out; have := HG10.out; have := HG11.out; have := HG12.out; have := HG13.out; omega)).trans HXb18.out
  have hb19 := (hsv.block b19 (lt_of_heap HXb19.out) (by have := HG.out; have := HG1.out; have := HG2.out; have := HG3.out; have := HG4.out; have := HG5.out; have := HG6.out; have := HG7.out; have := HG8.out; have := HG9.out; have := HG10.out; have := HG11.out; have := HG12.out; have := HG13.out; omega)).trans HXb19.out
  have hb20 := (hsv.block b20 (lt_of_heap HXb20.out) (by have := HG.out; have := HG1.out; have := HG2.out; have := HG3.out; have := HG4.out; have := HG5.out; have := HG6.out; have := HG7.out; have := HG8.out; have := HG9.out; have := HG10.out; have := HG11.out; have := HG12.out; have := HG13.out; omega)).trans HXb20.out
  clear hsv HB HXb8 HXb28 HXb33 HXb11 HXb12 HXb13 HXb14 HXb15 HXb16 HXb17 HXb18 HXb19 HXb20 HXb22
  have HB : Hid (Bel w V38) := Lib.hid hb
  have HXb8 : Hid (HAt V38 b8 h) := Lib.hid hb8
  have HXb28 : Hid (SlAt V38 b28 #[.int .i64 768, .int .i64 773, .int .i64 832, .int .i64 833, .int .i64 834, .int .i64 1984]) := Lib.hid hb28
  have HXb33 : Hid (SlAt V38 b33 #[.int .i64 136, .int .i64 (-4), .int .i64 (-1), .int .i64 (-4), .int .i64 (-1), .int .i64 (-1)]) := Lib.hid hb33
  have HXb11 : Hid (HAt V38 b11 a) := Lib.hid hb11
  have HXb12 : Hid (EfAt V38 b12 e0) := Lib.hid hb12
  have HXb13 : Hid (HAt V38 b13 b) := Lib.hid hb13
  have HXb14 : Hid (EfAt V38 b14 e0) := Lib.hid hb14
  have HXb15 : Hid (HAt V38 b15 p) := Lib.hid hb15
  have HXb16 : Hid (EfAt V38 b16 e0) := Lib.hid hb16
  have HXb17 : Hid (HAt V38 b17 q) := Lib.hid hb17
  have HXb18 : Hid (EfAt V38 b18 e0) := Lib.hid hb18
  have HXb19 : Hid (HAt V38 b19 r) := Lib.hid hb19
  have HXb20 : Hid (EfAt V38 b20 e0) := Lib.hid hb20
  have HXb22 : Hid (HAt V38 b22 (regsOf h b)) := Lib.hid hn
  clear hn hb hb8 hb28 hb33 hb11 hb12 hb13 hb14 hb15 hb16 hb17 hb18 hb19 hb20
  try simp only [Act.put, List.setIfInBounds_toArray, List.set_cons_zero, List.set_cons_succ]
  refine wpList_nil ?_
  refine hK _ _ ?_
  clear hK K
  go_upto_region 13 with (fail)
  rename_i K hK
  refine wp_region_list ?_
  refine wpList_one rfl (w' := V38) (v := .pointer (some ⟨b8, 32, none⟩)) (by kernel_rfl) ?_
  try simp only [Act.put, List.setIfInBounds_toArray, List.set_cons_zero, List.set_cons_succ]
  refine wpList_load_cell rfl 3 (.tmp 81) rfl ⟨b8, 32, none⟩ rfl (.int .i64 (h 32)) _ (HXb8.out.cell (j := 32) (by omega)) Tryd.underlying3 rfl ?_
  try simp only [Act.put, List.setIfInBounds_toArray, List.set_cons_zero, List.set_cons_succ]
  refine wpList_one rfl (w' := V38) (v := .pointer (some ⟨b22, 32, none⟩)) (by kernel_rfl) ?_
  try simp only [Act.put, List.setIfInBounds_toArray, List.set_cons_zero, List.set_cons_succ]
  refine wpList_store_cell rfl 3 (.tmp 83) (.tmp 82) rfl b22 32 rfl (.int .i64 (h 32)) rfl (HXb22.out.cell (j := 32) (by omega)) (HXb22.out.frozen 32) sz_int rfl ?_
  have hn := HXb22.out.set (j := 32) (by omega) ((h 32))
  have hb := (Svg.set b22 32 V38 (.int .i64 ((h 32)))).bel HB.out (by have := HG.out; have := HG1.out; have := HG2.out; have := HG3.out; have := HG4.out; have := HG5.out; have := HG6.out; have := HG7.out; have := HG8.out; have := HG9.out; have := HG10.out; have := HG11.out; have := HG12.out; have := HG13.out; omega)
  have hb8 := ((Svg.set b22 32 V38 (.int .i64 ((h 32)))).block b8 (lt_of_heap HXb8.out) (by have := HG.out; have := HG1.out; have := HG2.out; have := HG3.out; have := HG4.out; have := HG5.out; have := HG6.out; have := HG7.out; have := HG8.out; have := HG9.out; have := HG10.out; have := HG11.out; have := HG12.out; have := HG13.out; omega)).trans HXb8.out
  have hb28 := ((Svg.set b22 32 V38 (.int .i64 ((h 32)))).block b28 (lt_of_heap HXb28.out) (by have := HG.out; have := HG1.out; have := HG2.out; have := HG3.out; have := HG4.out; have := HG5.out; have := HG6.out; have := HG7.out; have := HG8.out; have := HG9.out; have := HG10.out; have := HG11.out; have := HG12.out; have := HG13.out; omega)).trans HXb28.out
  have hb33 := ((Svg.set b22 32 V38 (.int .i64 ((h 32)))).block b33 (lt_of_heap HXb33.out) (by have := HG.out; have := HG1.out; have := HG2.out; have := HG3.out; have := HG4.out; have := HG5.out; have := HG6.out; have := HG7.out; have := HG8.out; have := HG9.out; have := HG10.out; have := HG11.out; have := HG12.out; have := HG13.out; omega)).trans HXb33.out
  have hb11 := ((Svg.set b22 32 V38 (.int .i64 ((h 32)))).block b11 (lt_of_heap HXb11.out) (by have := HG.out; have := HG1.out; have := HG2.out; have := HG3.out; have := HG4.out; have := HG5.out; have := HG6.out; have := HG7.out; have := HG8.out; have := HG9.out; have := HG10.out; have := HG11.out; have := HG12.out; have := HG13.out; omega)).trans HXb11.out
  have hb12 := ((Svg.set b22 32 V38 (.int .i64 ((h 32)))).block b12 (lt_of_heap HXb12.out) (by have := HG.out; have := HG1.out; have := HG2.out; have := HG3.out; have := HG4.out; have := HG5.out; have := HG6.out; have := HG7.out; have := HG8.out; have := HG9.out; have := HG10.out; have := HG11.out; have := HG12.out; have := HG13.out; omega)).trans HXb12.out
  have hb13 := ((Svg.set b22 32 V38 (.int .i64 ((h 32)))).block b13 (lt_of_heap HXb13.out) (by have := HG.out; have := HG1.out; have := HG2.out; have := HG3.out; have := HG4.out; have := HG5.out; have := HG6.out; have := HG7.out; have := HG8.out; have := HG9.out; have := HG10.out; have := HG11.out; have := HG12.out; have := HG13.out; omega)).trans HXb13.out
  have hb14 := ((Svg.set b22 32 V38 (.int .i64 ((h 32)))).block b14 (lt_of_heap HXb14.out) (by have := HG.out; have := HG1.out; have := HG2.out; have := HG3.out; have := HG4.out; have := HG5.out; have := HG6.out; have := HG7.out; have := HG8.out; have := HG9.out; have := HG10.out; have := HG11.out; have := HG12.out; have := HG13.out; omega)).trans HXb14.out
  have hb15 := ((Svg.set b22 32 V38 (.int .i64 ((h 32)))).block b15 (lt_of_heap HXb15.out) (by have := HG.out; have := HG1.out; have := HG2.out; have := HG3.out; have := HG4.out; have := HG5.out; have := HG6.out; have := HG7.out; have := HG8.out; have := HG9.out; have := HG10.out; have := HG11.out; have := HG12.out; have := HG13.out; omega)).trans HXb15.out
  have hb16 := ((Svg.set b22 32 V38 (.int .i64 ((h 32)))).block b16 (lt_of_heap HXb16.out) (by have := HG.out; have := HG1.out; have := HG2.out; have := HG3.out; have := HG4.out; have := HG5.out; have := HG6.out; have := HG7.out; have := HG8.out; have := HG9.out; have := HG10.out; have := HG11.out; have := HG12.out; have := HG13.out; omega)).trans HXb16.out
  have hb17 := ((Svg.set b22 32 V38 (.int .i64 ((h 32)))).block b17 (lt_of_heap HXb17.out) (by have := HG.out; have := HG1.out; have := HG2.out; have := HG3.out; have := HG4.out; have := HG5.out; have := HG6.out; have := HG7.out; have := HG8.out; have := HG9.out; have := HG10.out; have := HG11.out; have := HG12.out; have := HG13.out; omega)).trans HXb17.out
  have hb18 := ((Svg.set b22 32 V38 (.int .i64 ((h 32)))).block b18 (lt_of_heap HXb18.out) (by have := HG.out; have := HG1.out; have := HG2.out; have := HG3.out; have := HG4.out; have := HG5.out; have := HG6.out; have := HG7.out; have := HG8.out; have := HG9.out; have := HG10.out; have := HG11.out; have := HG12.out; have := HG13.out; omega)).trans HXb18.out
  have hb19 := ((Svg.set b22 32 V38 (.int .i64 ((h 32)))).block b19 (lt_of_heap HXb19.out) (by have := HG.out; have := HG1.out; have := HG2.out; have := HG3.out; have := HG4.out; have := HG5.out; have := HG6.out; have := HG7.out; have := HG8.out; have := HG9.out; have := HG10.out; have := HG11.out; have := HG12.out; have := HG13.out; omega)).trans HXb19.out
  have hb20 := ((Svg.set b22 32 V38 (.int .i64 ((h 32)))).block b20 (lt_of_heap HXb20.out) (by have := HG.out; have := HG1.out; have := HG2.out; have := HG3.out; have := HG4.out; have := HG5.out; have := HG6.out; have := HG7.out; have := HG8.out; have := HG9.out; have := HG10.out; have := HG11.out; have := HG12.out; have := HG13.out; omega)).trans HXb20.out
  generalize V38.setCell ⟨b22, 32, none⟩ (.int .i64 ((h 32))) = V39 at hn hb hb8 hb28 hb33 hb11 hb12 hb13 hb14 hb15 hb16 hb17 hb18 hb19 hb20  ⊢
  clear HB HXb8 HXb28 HXb33 HXb11 HXb12 HXb13 HXb14 HXb15 HXb16 HXb17 HXb18 HXb19 HXb20 HXb22
  have HB : Hid (Bel w V39) := Lib.hid hb
  have HXb8 : Hid (HAt V39 b8 h) := Lib.hid hb8
  have HXb28 : Hid (SlAt V39 b28 #[.int .i64 768, .int .i64 773, .int .i64 832, .int .i64 833, .int .i64 834, .int .i64 1984]) := Lib.hid hb28
  have HXb33 : Hid (SlAt V39 b33 #[.int .i64 136, .int .i64 (-4), .int .i64 (-1), .int .i64 (-4), .int .i64 (-1), .int .i64 (-1)]) := Lib.hid hb33
  have HXb11 : Hid (HAt V39 b11 a) := Lib.hid hb11
  have HXb12 : Hid (EfAt V39 b12 e0) := Lib.hid hb12
  have HXb13 : Hid (HAt V39 b13 b) := Lib.hid hb13
  have HXb14 : Hid (EfAt V39 b14 e0) := Lib.hid hb14
  have HXb15 : Hid (HAt V39 b15 p) := Lib.hid hb15
  have HXb16 : Hid (EfAt V39 b16 e0) := Lib.hid hb16
  have HXb17 : Hid (HAt V39 b17 q) := Lib.hid hb17
  have HXb18 : Hid (EfAt V39 b18 e0) := Lib.hid hb18
  have HXb19 : Hid (HAt V39 b19 r) := Lib.hid hb19
  have HXb20 : Hid (EfAt V39 b20 e0) := Lib.hid hb20
  have HXb22 : Hid (HAt V39 b22 (up (regsOf h b) 32 ((h 32)))) := Lib.hid hn
  clear hn hb hb8 hb28 hb33 hb11 hb12 hb13 hb14 hb15 hb16 hb17 hb18 hb19 hb20
  try simp only [Act.put, List.setIfInBounds_toArray, List.set_cons_zero, List.set_cons_succ]
  refine wpList_nil ?_
  refine hK _ _ ?_
  clear hK K
  go_upto_region 14 with (fail)
  rename_i K hK
  refine Upto.begin (z := 58) (T := fun w' => EfAt w' b12 e0 ∧ EfAt w' b14 e0 ∧ HAt w' b13 b ∧ HAt w' b22 (up (regsOf h b) 32 ((h 32))) ∧ HAt w' b8 h ∧ HAt w' b17 q ∧ HAt w' b11 a ∧ HAt w' b19 r) (by kernel_rfl) ?_
  have hb : Bel V39 V39.drew := (Bel.refl V39).drew
  generalize V39.drew = V40 at hb ⊢
  replace HB : Hid (Bel w V40) := Lib.hid (HB.out.trans hb)
  replace HXb8 : Hid (HAt V40 b8 h) := Lib.hid (HXb8.out.bel hb)
  replace HXb28 : Hid (SlAt V40 b28 #[.int .i64 768, .int .i64 773, .int .i64 832, .int .i64 833, .int .i64 834, .int .i64 1984]) := Lib.hid (HXb28.out.bel hb)
  replace HXb33 : Hid (SlAt V40 b33 #[.int .i64 136, .int .i64 (-4), .int .i64 (-1), .int .i64 (-4), .int .i64 (-1), .int .i64 (-1)]) := Lib.hid (HXb33.out.bel hb)
  replace HXb11 : Hid (HAt V40 b11 a) := Lib.hid (HXb11.out.bel hb)
  replace HXb12 : Hid (EfAt V40 b12 e0) := Lib.hid (HXb12.out.bel hb)
  replace HXb13 : Hid (HAt V40 b13 b) := Lib.hid (HXb13.out.bel hb)
  replace HXb14 : Hid (EfAt V40 b14 e0) := Lib.hid (HXb14.out.bel hb)
  replace HXb15 : Hid (HAt V40 b15 p) := Lib.hid (HXb15.out.bel hb)
  replace HXb16 : Hid (EfAt V40 b16 e0) := Lib.hid (HXb16.out.bel hb)
  replace HXb17 : Hid (HAt V40 b17 q) := Lib.hid (HXb17.out.bel hb)
  replace HXb18 : Hid (EfAt V40 b18 e0) := Lib.hid (HXb18.out.bel hb)
  replace HXb19 : Hid (HAt V40 b19 r) := Lib.hid (HXb19.out.bel hb)
  replace HXb20 : Hid (EfAt V40 b20 e0) := Lib.hid (HXb20.out.bel hb)
  replace HXb22 : Hid (HAt V40 b22 (up (regsOf h b) 32 ((h 32)))) := Lib.hid (HXb22.out.bel hb)
  clear hb
  have hT : EfAt V40 b12 e0 ∧ EfAt V40 b14 e0 ∧ HAt V40 b13 b ∧ HAt V40 b22 (up (regsOf h b) 32 ((h 32))) ∧ HAt V40 b8 h ∧ HAt V40 b17 q ∧ HAt V40 b11 a ∧ HAt V40 b19 r := ⟨HXb12.out, HXb14.out, HXb13.out, HXb22.out, HXb8.out, HXb17.out, HXb11.out, HXb19.out⟩
  refine takeU 84 (i := 0) (v := .bool true) rfl rfl rfl (by kernel_rfl) (by kernel_rfl) (by kernel_rfl) (by kernel_rfl) (fun _ _ _ h => h) (by kernel_rfl) (fun w0 hS => rfl) hT ?_
  try simp only [List.setIfInBounds_toArray, List.set_cons_zero, List.set_cons_succ]
  refine takeU 85 (i := 1) (v := .bool true) rfl rfl rfl (by kernel_rfl) (by kernel_rfl) (by kernel_rfl) (by kernel_rfl) (fun _ _ _ h => h) (by kernel_rfl) (fun w0 hS => rfl) hT ?_
  try simp only [List.setIfInBounds_toArray, List.set_cons_zero, List.set_cons_succ]
  refine takeU 86 (i := 2) (v := .agg (eC e0)) rfl rfl rfl (by kernel_rfl) (by kernel_rfl) (by kernel_rfl) (by kernel_rfl) (fun _ _ _ h => h) (by kernel_rfl) (fun w0 hS => (exec_row 34 (.tmp 12) rfl b12 rfl 34 (eC e0) (0, 0) _ hS.1 Tryd.underlying34 rfl (sz_eff _))) hT ?_
  try simp only [List.setIfInBounds_toArray, List.set_cons_zero, List.set_cons_succ]
  refine takeU 87 (i := 3) (v := .agg (eC e0)) rfl rfl rfl (by kernel_rfl) (by kernel_rfl) (by kernel_rfl) (by kernel_rfl) (fun _ _ _ h => h) (by kernel_rfl) (fun w0 hS => (by kernel_rfl)) hT ?_
  try simp only [List.setIfInBounds_toArray, List.set_cons_zero, List.set_cons_succ]
  refine takeU 88 (i := 4) (v := .bool true) rfl rfl rfl (by kernel_rfl) (by kernel_rfl) (by kernel_rfl) (by kernel_rfl) (fun _ _ _ h => h) (by kernel_rfl) (fun w0 hS => (exec_eqE rfl rfl rfl (rfl) w0)) hT ?_
  try simp only [List.setIfInBounds_toArray, List.set_cons_zero, List.set_cons_succ]
  refine takeU 89 (i := 5) (v := .bool true) rfl rfl rfl (by kernel_rfl) (by kernel_rfl) (by kernel_rfl) (by kernel_rfl) (fun _ _ _ h => h) (by kernel_rfl) (fun w0 hS => (by kernel_rfl)) hT ?_
  try simp only [List.setIfInBounds_toArray, List.set_cons_zero, List.set_cons_succ]
  refine takeU 90 (i := 6) (v := .bool true) rfl rfl rfl (by kernel_rfl) (by kernel_rfl) (by kernel_rfl) (by kernel_rfl) (fun _ _ _ h => h) (by kernel_rfl) (fun w0 hS => rfl) hT ?_
  try simp only [List.setIfInBounds_toArray, List.set_cons_zero, List.set_cons_succ]
  refine takeU 91 (i := 7) (v := .agg (eC e0)) rfl rfl rfl (by kernel_rfl) (by kernel_rfl) (by kernel_rfl) (by kernel_rfl) (fun _ _ _ h => h) (by kernel_rfl) (fun w0 hS => (exec_row 34 (.tmp 14) rfl b14 rfl 34 (eC e0) (0, 0) _ hS.2.1 Tryd.underlying34 rfl (sz_eff _))) hT ?_
  try simp only [List.setIfInBounds_toArray, List.set_cons_zero, List.set_cons_succ]
  refine takeU 92 (i := 8) (v := .agg (eC e0)) rfl rfl rfl (by kernel_rfl) (by kernel_rfl) (by kernel_rfl) (by kernel_rfl) (fun _ _ _ h => h) (by kernel_rfl) (fun w0 hS => (exec_row 34 (.tmp 12) rfl b12 rfl 34 (eC e0) (0, 0) _ hS.1 Tryd.underlying34 rfl (sz_eff _))) hT ?_
  try simp only [List.setIfInBounds_toArray, List.set_cons_zero, List.set_cons_succ]
  refine takeU 93 (i := 9) (v := .bool true) rfl rfl rfl (by kernel_rfl) (by kernel_rfl) (by kernel_rfl) (by kernel_rfl) (fun _ _ _ h => h) (by kernel_rfl) (fun w0 hS => (exec_eqE rfl rfl rfl (rfl) w0)) hT ?_
  try simp only [List.setIfInBounds_toArray, List.set_cons_zero, List.set_cons_succ]
  refine takeU 94 (i := 10) (v := .bool true) rfl rfl rfl (by kernel_rfl) (by kernel_rfl) (by kernel_rfl) (by kernel_rfl) (fun _ _ _ h => h) (by kernel_rfl) (fun w0 hS => (by kernel_rfl)) hT ?_
  try simp only [List.setIfInBounds_toArray, List.set_cons_zero, List.set_cons_succ]
  refine takeU 95 (i := 11) (v := .bool true) rfl rfl rfl (by kernel_rfl) (by kernel_rfl) (by kernel_rfl) (by kernel_rfl) (fun _ _ _ h => h) (by kernel_rfl) (fun w0 hS => rfl) hT ?_
  try simp only [List.setIfInBounds_toArray, List.set_cons_zero, List.set_cons_succ]
  refine takeU 96 (i := 12) (v := .pointer (some ⟨b13, 0, none⟩)) rfl rfl rfl (by kernel_rfl) (by kernel_rfl) (by kernel_rfl) (by kernel_rfl) (fun _ _ _ h => h) (by kernel_rfl) (fun w0 hS => (by kernel_rfl)) hT ?_
  try simp only [List.setIfInBounds_toArray, List.set_cons_zero, List.set_cons_succ]
  refine takeU 97 (i := 13) (v := .pointer (some ⟨b13, 11, none⟩)) rfl rfl rfl (by kernel_rfl) (by kernel_rfl) (by kernel_rfl) (by kernel_rfl) (fun _ _ _ h => h) (by kernel_rfl) (fun w0 hS => (exec_reg rfl b13 11 (by decide) rfl rfl _)) hT ?_
  try simp only [List.setIfInBounds_toArray, List.set_cons_zero, List.set_cons_succ]
  refine takeU 98 (i := 14) (v := .int .i64 (b 11)) rfl rfl rfl (by kernel_rfl) (by kernel_rfl) (by kernel_rfl) (by kernel_rfl) (fun _ _ _ h => h) (by kernel_rfl) (fun w0 hS => (exec_cell 3 (.tmp 97) rfl ⟨b13, 11, none⟩ rfl _ _ ((hS.2.2.1).cell (j := 11) (by omega)) Tryd.underlying3 rfl)) hT ?_
  try simp only [List.setIfInBounds_toArray, List.set_cons_zero, List.set_cons_succ]
  refine takeU 99 (i := 15) (v := .int .i64 m) rfl rfl rfl (by kernel_rfl) (by kernel_rfl) (by kernel_rfl) (by kernel_rfl) (fun _ _ _ h => h) (by kernel_rfl) (fun w0 hS => rfl) hT ?_
  try simp only [List.setIfInBounds_toArray, List.set_cons_zero, List.set_cons_succ]
  refine takeU 100 (i := 16) (v := .bool true) rfl rfl rfl (by kernel_rfl) (by kernel_rfl) (by kernel_rfl) (by kernel_rfl) (fun _ _ _ h => h) (by kernel_rfl) (fun w0 hS => (exec_eqI rfl rfl rfl (C1.out) w0)) hT ?_
  try simp only [List.setIfInBounds_toArray, List.set_cons_zero, List.set_cons_succ]
  refine takeU 101 (i := 17) (v := .bool true) rfl rfl rfl (by kernel_rfl) (by kernel_rfl) (by kernel_rfl) (by kernel_rfl) (fun _ _ _ h => h) (by kernel_rfl) (fun w0 hS => (by kernel_rfl)) hT ?_
  try simp only [List.setIfInBounds_toArray, List.set_cons_zero, List.set_cons_succ]
  refine takeU 102 (i := 18) (v := .bool true) rfl rfl rfl (by kernel_rfl) (by kernel_rfl) (by kernel_rfl) (by kernel_rfl) (fun _ _ _ h => h) (by kernel_rfl) (fun w0 hS => rfl) hT ?_
  try simp only [List.setIfInBounds_toArray, List.set_cons_zero, List.set_cons_succ]
  refine takeU 103 (i := 19) (v := hv (up (regsOf h b) 32 ((h 32)))) rfl rfl rfl (by kernel_rfl) (by kernel_rfl) (by kernel_rfl) (by kernel_rfl) (fun _ _ _ h => h) (by kernel_rfl) (fun w0 hS => (exec_row 28 (.tmp 22) rfl b22 rfl 28 (hC (up (regsOf h b) 32 ((h 32)))) (0, 0) _ hS.2.2.2.1 Tryd.underlying28 rfl (sz_hart _))) hT ?_
  try simp only [List.setIfInBounds_toArray, List.set_cons_zero, List.set_cons_succ]
  refine takeU 104 (i := 20) (v := hv h) rfl rfl rfl (by kernel_rfl) (by kernel_rfl) (by kernel_rfl) (by kernel_rfl) (fun _ _ _ h => h) (by kernel_rfl) (fun w0 hS => (exec_row 28 (.tmp 8) rfl b8 rfl 28 (hC h) (0, 0) _ hS.2.2.2.2.1 Tryd.underlying28 rfl (sz_hart _))) hT ?_
  try simp only [List.setIfInBounds_toArray, List.set_cons_zero, List.set_cons_succ]
  refine takeU 105 (i := 21) (v := .bool true) rfl rfl rfl (by kernel_rfl) (by kernel_rfl) (by kernel_rfl) (by kernel_rfl) (fun _ _ _ h => h) (by kernel_rfl) (fun w0 hS => (exec_eqH rfl rfl rfl (C2.out) w0)) hT ?_
  try simp only [List.setIfInBounds_toArray, List.set_cons_zero, List.set_cons_succ]
  refine takeU 106 (i := 22) (v := .bool true) rfl rfl rfl (by kernel_rfl) (by kernel_rfl) (by kernel_rfl) (by kernel_rfl) (fun _ _ _ h => h) (by kernel_rfl) (fun w0 hS => (by kernel_rfl)) hT ?_
  try simp only [List.setIfInBounds_toArray, List.set_cons_zero, List.set_cons_succ]
  refine takeU 107 (i := 23) (v := .bool true) rfl rfl rfl (by kernel_rfl) (by kernel_rfl) (by kernel_rfl) (by kernel_rfl) (fun _ _ _ h => h) (by kernel_rfl) (fun w0 hS => rfl) hT ?_
  try simp only [List.setIfInBounds_toArray, List.set_cons_zero, List.set_cons_succ]
  refine takeU 108 (i := 24) (v := .pointer (some ⟨b17, 0, none⟩)) rfl rfl rfl (by kernel_rfl) (by kernel_rfl) (by kernel_rfl) (by kernel_rfl) (fun _ _ _ h => h) (by kernel_rfl) (fun w0 hS => (by kernel_rfl)) hT ?_
  try simp only [List.setIfInBounds_toArray, List.set_cons_zero, List.set_cons_succ]
  refine takeU 109 (i := 25) (v := .pointer (some ⟨b17, 11, none⟩)) rfl rfl rfl (by kernel_rfl) (by kernel_rfl) (by kernel_rfl) (by kernel_rfl) (fun _ _ _ h => h) (by kernel_rfl) (fun w0 hS => (exec_reg rfl b17 11 (by decide) rfl rfl _)) hT ?_
  try simp only [List.setIfInBounds_toArray, List.set_cons_zero, List.set_cons_succ]
  refine takeU 110 (i := 26) (v := .int .i64 (q 11)) rfl rfl rfl (by kernel_rfl) (by kernel_rfl) (by kernel_rfl) (by kernel_rfl) (fun _ _ _ h => h) (by kernel_rfl) (fun w0 hS => (exec_cell 3 (.tmp 109) rfl ⟨b17, 11, none⟩ rfl _ _ ((hS.2.2.2.2.2.1).cell (j := 11) (by omega)) Tryd.underlying3 rfl)) hT ?_
  try simp only [List.setIfInBounds_toArray, List.set_cons_zero, List.set_cons_succ]
  refine takeU 111 (i := 27) (v := .int .i64 m) rfl rfl rfl (by kernel_rfl) (by kernel_rfl) (by kernel_rfl) (by kernel_rfl) (fun _ _ _ h => h) (by kernel_rfl) (fun w0 hS => rfl) hT ?_
  try simp only [List.setIfInBounds_toArray, List.set_cons_zero, List.set_cons_succ]
  refine takeU 112 (i := 28) (v := .int .i64 m) rfl rfl rfl (by kernel_rfl) (by kernel_rfl) (by kernel_rfl) (by kernel_rfl) (fun _ _ _ h => h) (by kernel_rfl) (fun w0 hS => (exec_and rfl rfl rfl C3.out w0)) hT ?_
  try simp only [List.setIfInBounds_toArray, List.set_cons_zero, List.set_cons_succ]
  refine takeU 113 (i := 29) (v := .int .i64 m) rfl rfl rfl (by kernel_rfl) (by kernel_rfl) (by kernel_rfl) (by kernel_rfl) (fun _ _ _ h => h) (by kernel_rfl) (fun w0 hS => rfl) hT ?_
  try simp only [List.setIfInBounds_toArray, List.set_cons_zero, List.set_cons_succ]
  refine takeU 114 (i := 30) (v := .bool true) rfl rfl rfl (by kernel_rfl) (by kernel_rfl) (by kernel_rfl) (by kernel_rfl) (fun _ _ _ h => h) (by kernel_rfl) (fun w0 hS => (exec_eqI rfl rfl rfl (rfl) w0)) hT ?_
  try simp only [List.setIfInBounds_toArray, List.set_cons_zero, List.set_cons_succ]
  refine takeU 115 (i := 31) (v := .bool true) rfl rfl rfl (by kernel_rfl) (by kernel_rfl) (by kernel_rfl) (by kernel_rfl) (fun _ _ _ h => h) (by kernel_rfl) (fun w0 hS => (by kernel_rfl)) hT ?_
  try simp only [List.setIfInBounds_toArray, List.set_cons_zero, List.set_cons_succ]
  refine takeU 116 (i := 32) (v := .bool true) rfl rfl rfl (by kernel_rfl) (by kernel_rfl) (by kernel_rfl) (by kernel_rfl) (fun _ _ _ h => h) (by kernel_rfl) (fun w0 hS => rfl) hT ?_
  try simp only [List.setIfInBounds_toArray, List.set_cons_zero, List.set_cons_succ]
  refine takeU 117 (i := 33) (v := .pointer (some ⟨b17, 0, none⟩)) rfl rfl rfl (by kernel_rfl) (by kernel_rfl) (by kernel_rfl) (by kernel_rfl) (fun _ _ _ h => h) (by kernel_rfl) (fun w0 hS => (by kernel_rfl)) hT ?_
  try simp only [List.setIfInBounds_toArray, List.set_cons_zero, List.set_cons_succ]
  refine takeU 118 (i := 34) (v := .pointer (some ⟨b17, 10, none⟩)) rfl rfl rfl (by kernel_rfl) (by kernel_rfl) (by kernel_rfl) (by kernel_rfl) (fun _ _ _ h => h) (by kernel_rfl) (fun w0 hS => (exec_reg rfl b17 10 (by decide) rfl rfl _)) hT ?_
  try simp only [List.setIfInBounds_toArray, List.set_cons_zero, List.set_cons_succ]
  refine takeU 119 (i := 35) (v := .int .i64 (q 10)) rfl rfl rfl (by kernel_rfl) (by kernel_rfl) (by kernel_rfl) (by kernel_rfl) (fun _ _ _ h => h) (by kernel_rfl) (fun w0 hS => (exec_cell 3 (.tmp 118) rfl ⟨b17, 10, none⟩ rfl _ _ ((hS.2.2.2.2.2.1).cell (j := 10) (by omega)) Tryd.underlying3 rfl)) hT ?_
  try simp only [List.setIfInBounds_toArray, List.set_cons_zero, List.set_cons_succ]
  refine takeU 120 (i := 36) (v := .pointer (some ⟨b11, 0, none⟩)) rfl rfl rfl (by kernel_rfl) (by kernel_rfl) (by kernel_rfl) (by kernel_rfl) (fun _ _ _ h => h) (by kernel_rfl) (fun w0 hS => (by kernel_rfl)) hT ?_
  try simp only [List.setIfInBounds_toArray, List.set_cons_zero, List.set_cons_succ]
  refine takeU 121 (i := 37) (v := .pointer (some ⟨b11, 10, none⟩)) rfl rfl rfl (by kernel_rfl) (by kernel_rfl) (by kernel_rfl) (by kernel_rfl) (fun _ _ _ h => h) (by kernel_rfl) (fun w0 hS => (exec_reg rfl b11 10 (by decide) rfl rfl _)) hT ?_
  try simp only [List.setIfInBounds_toArray, List.set_cons_zero, List.set_cons_succ]
  refine takeU 122 (i := 38) (v := .int .i64 (a 10)) rfl rfl rfl (by kernel_rfl) (by kernel_rfl) (by kernel_rfl) (by kernel_rfl) (fun _ _ _ h => h) (by kernel_rfl) (fun w0 hS => (exec_cell 3 (.tmp 121) rfl ⟨b11, 10, none⟩ rfl _ _ ((hS.2.2.2.2.2.2.1).cell (j := 10) (by omega)) Tryd.underlying3 rfl)) hT ?_
  try simp only [List.setIfInBounds_toArray, List.set_cons_zero, List.set_cons_succ]
  refine takeU 123 (i := 39) (v := .bool true) rfl rfl rfl (by kernel_rfl) (by kernel_rfl) (by kernel_rfl) (by kernel_rfl) (fun _ _ _ h => h) (by kernel_rfl) (fun w0 hS => (exec_eqI rfl rfl rfl (C4.out) w0)) hT ?_
  try simp only [List.setIfInBounds_toArray, List.set_cons_zero, List.set_cons_succ]
  refine takeU 124 (i := 40) (v := .bool true) rfl rfl rfl (by kernel_rfl) (by kernel_rfl) (by kernel_rfl) (by kernel_rfl) (fun _ _ _ h => h) (by kernel_rfl) (fun w0 hS => (by kernel_rfl)) hT ?_
  try simp only [List.setIfInBounds_toArray, List.set_cons_zero, List.set_cons_succ]
  refine takeU 125 (i := 41) (v := .bool true) rfl rfl rfl (by kernel_rfl) (by kernel_rfl) (by kernel_rfl) (by kernel_rfl) (fun _ _ _ h => h) (by kernel_rfl) (fun w0 hS => rfl) hT ?_
  try simp only [List.setIfInBounds_toArray, List.set_cons_zero, List.set_cons_succ]
  refine takeU 126 (i := 42) (v := .pointer (some ⟨b19, 0, none⟩)) rfl rfl rfl (by kernel_rfl) (by kernel_rfl) (by kernel_rfl) (by kernel_rfl) (fun _ _ _ h => h) (by kernel_rfl) (fun w0 hS => (by kernel_rfl)) hT ?_
  try simp only [List.setIfInBounds_toArray, List.set_cons_zero, List.set_cons_succ]
  refine takeU 127 (i := 43) (v := .pointer (some ⟨b19, 12, none⟩)) rfl rfl rfl (by kernel_rfl) (by kernel_rfl) (by kernel_rfl) (by kernel_rfl) (fun _ _ _ h => h) (by kernel_rfl) (fun w0 hS => (exec_reg rfl b19 12 (by decide) rfl rfl _)) hT ?_
  try simp only [List.setIfInBounds_toArray, List.set_cons_zero, List.set_cons_succ]
  refine takeU 128 (i := 44) (v := .int .i64 (r 12)) rfl rfl rfl (by kernel_rfl) (by kernel_rfl) (by kernel_rfl) (by kernel_rfl) (fun _ _ _ h => h) (by kernel_rfl) (fun w0 hS => (exec_cell 3 (.tmp 127) rfl ⟨b19, 12, none⟩ rfl _ _ ((hS.2.2.2.2.2.2.2).cell (j := 12) (by omega)) Tryd.underlying3 rfl)) hT ?_
  try simp only [List.setIfInBounds_toArray, List.set_cons_zero, List.set_cons_succ]
  refine takeU 129 (i := 45) (v := .int .i64 m) rfl rfl rfl (by kernel_rfl) (by kernel_rfl) (by kernel_rfl) (by kernel_rfl) (fun _ _ _ h => h) (by kernel_rfl) (fun w0 hS => rfl) hT ?_
  try simp only [List.setIfInBounds_toArray, List.set_cons_zero, List.set_cons_succ]
  refine takeU 130 (i := 46) (v := .int .i64 0) rfl rfl rfl (by kernel_rfl) (by kernel_rfl) (by kernel_rfl) (by kernel_rfl) (fun _ _ _ h => h) (by kernel_rfl) (fun w0 hS => (exec_and rfl rfl rfl C5.out w0)) hT ?_
  try simp only [List.setIfInBounds_toArray, List.set_cons_zero, List.set_cons_succ]
  refine takeU 131 (i := 47) (v := .bool true) rfl rfl rfl (by kernel_rfl) (by kernel_rfl) (by kernel_rfl) (by kernel_rfl) (fun _ _ _ h => h) (by kernel_rfl) (fun w0 hS => (exec_eqI rfl rfl rfl (rfl) w0)) hT ?_
  try simp only [List.setIfInBounds_toArray, List.set_cons_zero, List.set_cons_succ]
  refine takeU 132 (i := 48) (v := .bool true) rfl rfl rfl (by kernel_rfl) (by kernel_rfl) (by kernel_rfl) (by kernel_rfl) (fun _ _ _ h => h) (by kernel_rfl) (fun w0 hS => (by kernel_rfl)) hT ?_
  try simp only [List.setIfInBounds_toArray, List.set_cons_zero, List.set_cons_succ]
  refine takeU 133 (i := 49) (v := .bool true) rfl rfl rfl (by kernel_rfl) (by kernel_rfl) (by kernel_rfl) (by kernel_rfl) (fun _ _ _ h => h) (by kernel_rfl) (fun w0 hS => rfl) hT ?_
  try simp only [List.setIfInBounds_toArray, List.set_cons_zero, List.set_cons_succ]
  refine takeU 134 (i := 50) (v := .pointer (some ⟨b13, 32, none⟩)) rfl rfl rfl (by kernel_rfl) (by kernel_rfl) (by kernel_rfl) (by kernel_rfl) (fun _ _ _ h => h) (by kernel_rfl) (fun w0 hS => (by kernel_rfl)) hT ?_
  try simp only [List.setIfInBounds_toArray, List.set_cons_zero, List.set_cons_succ]
  refine takeU 135 (i := 51) (v := .int .i64 (b 32)) rfl rfl rfl (by kernel_rfl) (by kernel_rfl) (by kernel_rfl) (by kernel_rfl) (fun _ _ _ h => h) (by kernel_rfl) (fun w0 hS => (exec_cell 3 (.tmp 134) rfl ⟨b13, 32, none⟩ rfl _ _ ((hS.2.2.1).cell (j := 32) (by omega)) Tryd.underlying3 rfl)) hT ?_
  try simp only [List.setIfInBounds_toArray, List.set_cons_zero, List.set_cons_succ]
  refine takeU 136 (i := 52) (v := .pointer (some ⟨b8, 32, none⟩)) rfl rfl rfl (by kernel_rfl) (by kernel_rfl) (by kernel_rfl) (by kernel_rfl) (fun _ _ _ h => h) (by kernel_rfl) (fun w0 hS => (by kernel_rfl)) hT ?_
  try simp only [List.setIfInBounds_toArray, List.set_cons_zero, List.set_cons_succ]
  refine takeU 137 (i := 53) (v := .int .i64 (h 32)) rfl rfl rfl (by kernel_rfl) (by kernel_rfl) (by kernel_rfl) (by kernel_rfl) (fun _ _ _ h => h) (by kernel_rfl) (fun w0 hS => (exec_cell 3 (.tmp 136) rfl ⟨b8, 32, none⟩ rfl _ _ ((hS.2.2.2.2.1).cell (j := 32) (by omega)) Tryd.underlying3 rfl)) hT ?_
  try simp only [List.setIfInBounds_toArray, List.set_cons_zero, List.set_cons_succ]
  refine takeU 138 (i := 54) (v := .int .i64 (IntKind.i64.wrap (h 32 + 8))) rfl rfl rfl (by kernel_rfl) (by kernel_rfl) (by kernel_rfl) (by kernel_rfl) (fun _ _ _ h => h) (by kernel_rfl) (fun w0 hS => (by kernel_rfl)) hT ?_
  try simp only [List.setIfInBounds_toArray, List.set_cons_zero, List.set_cons_succ]
  refine callU 139 (i := 55) rfl rfl (by kernel_rfl) (by kernel_rfl) (f := 27) (args := #[.int .i64 (IntKind.i64.wrap (h 32 + 8))]) (v := .int .i64 m2) (by kernel_rfl) (wl ((w32_i _).trans N2.out) _) (fun w' hb => ⟨HXb12.out.bel hb, HXb14.out.bel hb, HXb13.out.bel hb, HXb22.out.bel hb, HXb8.out.bel hb, HXb17.out.bel hb, HXb11.out.bel hb, HXb19.out.bel hb⟩) ?_
  intro V41 hb
  try simp only [List.setIfInBounds_toArray, List.set_cons_zero, List.set_cons_succ]
  replace HB : Hid (Bel w V41) := Lib.hid (HB.out.trans hb)
  replace HXb8 : Hid (HAt V41 b8 h) := Lib.hid (HXb8.out.bel hb)
  replace HXb28 : Hid (SlAt V41 b28 #[.int .i64 768, .int .i64 773, .int .i64 832, .int .i64 833, .int .i64 834, .int .i64 1984]) := Lib.hid (HXb28.out.bel hb)
  replace HXb33 : Hid (SlAt V41 b33 #[.int .i64 136, .int .i64 (-4), .int .i64 (-1), .int .i64 (-4), .int .i64 (-1), .int .i64 (-1)]) := Lib.hid (HXb33.out.bel hb)
  replace HXb11 : Hid (HAt V41 b11 a) := Lib.hid (HXb11.out.bel hb)
  replace HXb12 : Hid (EfAt V41 b12 e0) := Lib.hid (HXb12.out.bel hb)
  replace HXb13 : Hid (HAt V41 b13 b) := Lib.hid (HXb13.out.bel hb)
  replace HXb14 : Hid (EfAt V41 b14 e0) := Lib.hid (HXb14.out.bel hb)
  replace HXb15 : Hid (HAt V41 b15 p) := Lib.hid (HXb15.out.bel hb)
  replace HXb16 : Hid (EfAt V41 b16 e0) := Lib.hid (HXb16.out.bel hb)
  replace HXb17 : Hid (HAt V41 b17 q) := Lib.hid (HXb17.out.bel hb)
  replace HXb18 : Hid (EfAt V41 b18 e0) := Lib.hid (HXb18.out.bel hb)
  replace HXb19 : Hid (HAt V41 b19 r) := Lib.hid (HXb19.out.bel hb)
  replace HXb20 : Hid (EfAt V41 b20 e0) := Lib.hid (HXb20.out.bel hb)
  replace HXb22 : Hid (HAt V41 b22 (up (regsOf h b) 32 ((h 32)))) := Lib.hid (HXb22.out.bel hb)
  clear hb hT
  have hT : EfAt V41 b12 e0 ∧ EfAt V41 b14 e0 ∧ HAt V41 b13 b ∧ HAt V41 b22 (up (regsOf h b) 32 ((h 32))) ∧ HAt V41 b8 h ∧ HAt V41 b17 q ∧ HAt V41 b11 a ∧ HAt V41 b19 r := ⟨HXb12.out, HXb14.out, HXb13.out, HXb22.out, HXb8.out, HXb17.out, HXb11.out, HXb19.out⟩
  refine takeU 140 (i := 56) (v := .bool true) rfl rfl rfl (by kernel_rfl) (by kernel_rfl) (by kernel_rfl) (by kernel_rfl) (fun _ _ _ h => h) (by kernel_rfl) (fun w0 hS => (exec_eqI rfl rfl rfl (C6.out) w0)) hT ?_
  try simp only [List.setIfInBounds_toArray, List.set_cons_zero, List.set_cons_succ]
  refine takeU 141 (i := 57) (v := .bool true) rfl rfl rfl (by kernel_rfl) (by kernel_rfl) (by kernel_rfl) (by kernel_rfl) (fun _ _ _ h => h) (by kernel_rfl) (fun w0 hS => (by kernel_rfl)) hT ?_
  try simp only [List.setIfInBounds_toArray, List.set_cons_zero, List.set_cons_succ]
  refine pureU 6 (i := 58) rfl rfl (by kernel_rfl) (by kernel_rfl) (v := .bool true) rfl hT ?_
  try simp only [List.setIfInBounds_toArray, List.set_cons_zero, List.set_cons_succ]
  refine Upto.done (by kernel_rfl) ?_ _
  clear hT
  refine hK _ _ ?_
  clear hK K
  go_wp2
  go_ret
  exact ⟨rfl, HB.out⟩
theorem cs_at (f : H) {j d : Nat} (x y : Int) (hj : 33 ≤ j) (hd : 1 ≤ d ∧ d < 32) (i : Nat) : Ht.go (put (up f j x) (d : Int) y) 4 i = if i = 32 then wrap32 (f 32 + 4) else if i = d then wrap32 y else if i = j then x else f i := by
  have e : put (up f j x) (d : Int) y = up (up f j x) d (wrap32 y) := by unfold put; rw [if_pos ⟨by omega, by omega⟩, Int.toNat_natCast]
  rw [e]
  unfold Ht.go
  by_cases c1 : i = 32
  · subst c1
    rw [if_pos rfl, up_at]
    unfold place
    rw [up_ne _ _ (by omega), up_ne _ _ (by omega)]
  rw [if_neg c1, up_ne _ _ c1]
  by_cases c2 : i = d
  · subst c2
    rw [if_pos rfl, up_at]
  rw [if_neg c2, up_ne _ _ c2]
  rfl
theorem step_csr {h : H} {o d c bt : Int} {A j : Nat} (ho : 40 ≤ o ∧ o ≤ 42) (hc : csrK c = some (j, bt)) (hr : Rv.right ⟨o, d, A, 0, c⟩ = true) (hn : c ≠ 3860) : stepV h 0 ⟨o, d, A, 0, c⟩ = (Ht.go (put (up h j (bits .and .i64 (csrZ o (h j) (h A)) bt)) d (h j)) 4, e0) := by
  unfold stepV
  rw [if_neg (by rw [hr]; decide), if_neg (by simp only; omega), if_neg (by simp only; omega), if_neg (by simp only; omega), if_neg (by simp only; omega), if_pos ho]
  unfold csrV
  rw [if_neg hn]
  simp only [hc, Int.toNat_natCast]
theorem swaps_any (w : World) {P : Option Addr} {N C : Nat} {l : List Int} {c1 n : Int} (hO : OpsAt w) (hn : l.length = N) (hL : IntsQ w P l) (hNC : N ≤ C) (i1 : inInt c1) :
    Calls Tryd.prog 7 #[.slice P N C, .int .i64 c1, .int .i64 n] w (OneV (.bool true) w) := by
  obtain ⟨h0, hh⟩ : ∃ h, fitV l = h := ⟨_, rfl⟩
  have fine : Fine h0 := hh ▸ fit_fine l
  obtain ⟨k, r1, lk⟩ := pick_nat c1 6 (by decide)
  obtain ⟨h, hp⟩ : ∃ h, put h0 9 n = h := ⟨_, rfl⟩
  have hne : ∀ i, i ≠ 9 → h i = h0 i := fun i hi => by rw [← hp]; exact up_ne _ _ hi
  have h9 : h 9 = wrap32 n := by rw [← hp]; rfl
  have key : ∀ (c bt : Int) (j : Nat) (t : V32), 33 ≤ j → j < 39 → csrK c = some (j, bt) → c ≠ 3860 → t.toInt = bt → bits .and .i64 (h0 j) bt = h0 j → i64 c → Rv.right ⟨40, 10, ((9 : Nat) : Int), 0, c⟩ = true → Rv.right ⟨40, 11, ((10 : Nat) : Int), 0, c⟩ = true → Rv.right ⟨41, 10, ((9 : Nat) : Int), 0, c⟩ = true → Rv.right ⟨42, 11, ((9 : Nat) : Int), 0, c⟩ = true → Rv.right ⟨41, 12, ((0 : Nat) : Int), 0, c⟩ = true →
      (#[.int .i64 768, .int .i64 773, .int .i64 832, .int .i64 833, .int .i64 834, .int .i64 1984] : Array Value)[k]? = some (.int .i64 c) → (#[.int .i64 136, .int .i64 (-4), .int .i64 (-1), .int .i64 (-4), .int .i64 (-1), .int .i64 (-1)] : Array Value)[k]? = some (.int .i64 bt) →
      Calls Tryd.prog 7 #[.slice P N C, .int .i64 c1, .int .i64 n] w (OneV (.bool true) w) := by
    intro c bt j t j1 j2 hc hn3 ht hb wc ra rb rc rd re s1 s2
    have S1 := step_csr (h := h) (by omega) hc ra hn3
    obtain ⟨a, ha⟩ : ∃ a, Ht.go (put (up h j (bits .and .i64 (csrZ 40 (h j) (h 9)) bt)) (10 : Int) (h j)) 4 = a := ⟨_, rfl⟩
    rw [ha] at S1
    have S2 := step_csr (h := a) (by omega) hc rb hn3
    obtain ⟨b, hbb⟩ : ∃ b, Ht.go (put (up a j (bits .and .i64 (csrZ 40 (a j) (a 10)) bt)) (11 : Int) (a j)) 4 = b := ⟨_, rfl⟩
    rw [hbb] at S2
    have S3 := step_csr (h := h) (by omega) hc rc hn3
    obtain ⟨p, hpp⟩ : ∃ p, Ht.go (put (up h j (bits .and .i64 (csrZ 41 (h j) (h 9)) bt)) (10 : Int) (h j)) 4 = p := ⟨_, rfl⟩
    rw [hpp] at S3
    have S4 := step_csr (h := p) (by omega) hc rd hn3
    obtain ⟨q, hq⟩ : ∃ q, Ht.go (put (up p j (bits .and .i64 (csrZ 42 (p j) (p 9)) bt)) (11 : Int) (p j)) 4 = q := ⟨_, rfl⟩
    rw [hq] at S4
    have S5 := step_csr (h := q) (by omega) hc re hn3
    obtain ⟨r, hr⟩ : ∃ r, Ht.go (put (up q j (bits .and .i64 (csrZ 41 (q j) (q 0)) bt)) (12 : Int) (q j)) 4 = r := ⟨_, rfl⟩
    rw [hr] at S5
    have ea : ∀ i, a i = if i = 32 then wrap32 (h 32 + 4) else if i = 10 then wrap32 (h j) else if i = j then bits .and .i64 (h 9) bt else h i := fun i => by rw [← ha]; exact cs_at (d := 10) h _ _ j1 (by omega) i
    have eb : ∀ i, b i = if i = 32 then wrap32 (a 32 + 4) else if i = 11 then wrap32 (a j) else if i = j then bits .and .i64 (a 10) bt else a i := fun i => by rw [← hbb]; exact cs_at (d := 11) a _ _ j1 (by omega) i
    have ep : ∀ i, p i = if i = 32 then wrap32 (h 32 + 4) else if i = 10 then wrap32 (h j) else if i = j then bits .and .i64 (bits .or .i64 (h j) (h 9)) bt else h i := fun i => by rw [← hpp]; exact cs_at (d := 10) h _ _ j1 (by omega) i
    have eq : ∀ i, q i = if i = 32 then wrap32 (p 32 + 4) else if i = 11 then wrap32 (p j) else if i = j then bits .and .i64 (bits .andNot .i64 (p j) (p 9)) bt else p i := fun i => by rw [← hq]; exact cs_at (d := 11) p _ _ j1 (by omega) i
    have er : ∀ i, r i = if i = 32 then wrap32 (q 32 + 4) else if i = 12 then wrap32 (q j) else if i = j then bits .and .i64 (bits .or .i64 (q j) (q 0)) bt else q i := fun i => by rw [← hr]; exact cs_at (d := 12) q _ _ j1 (by omega) i
    have hj0 : h j = h0 j := hne j (by omega)
    obtain ⟨v, hv⟩ := v_of (fine.in32 j)
    obtain ⟨u, hu⟩ : ∃ u : V32, u.toInt = wrap32 n := ⟨BitVec.ofInt 32 n, Plain.toInt_ofInt n⟩
    have aj : a j = (u &&& t).toInt := by rw [ea, if_neg (by omega), if_neg (by omega), if_pos rfl, h9, ← hu, ← ht, v_and]
    have a10 : a 10 = h0 j := by rw [ea, if_neg (by omega), if_pos rfl, hj0]; exact Plain.w32_in _ (fine.in32 j)
    have pj : p j = ((v ||| u) &&& t).toInt := by rw [ep, if_neg (by omega), if_neg (by omega), if_pos rfl, h9, hj0, ← hv, ← hu, ← ht, v_or, v_and]
    have p9 : p 9 = u.toInt := by rw [ep, if_neg (by omega), if_neg (by omega), if_neg (by omega), h9, hu]
    have p10 : p 10 = h0 j := by rw [ep, if_neg (by omega), if_pos rfl, hj0]; exact Plain.w32_in _ (fine.in32 j)
    have qj : q j = (((v ||| u) &&& t &&& ~~~ u) &&& t).toInt := by rw [eq, if_neg (by omega), if_neg (by omega), if_pos rfl, pj, p9, ← ht, v_andNot, v_and]
    have X1 : bits .and .i64 (wrap32 n) bt = (u &&& t).toInt := by rw [← hu, ← ht, v_and]
    have C1 : b 11 = (u &&& t).toInt := by rw [eb, if_neg (by omega), if_pos rfl, aj]; exact v_w32 _
    have C2 : ∀ i, i < 39 → (up (regsOf h b) 32 (h 32)) i = h i := fun i hi => by
      by_cases c1 : i = 32
      · subst c1; exact up_at _ _ _
      rw [up_ne _ _ c1]
      by_cases c2 : i < 32
      · exact regsOf_lt _ _ c2
      rw [regsOf_ge _ _ c2, eb, if_neg c1, if_neg (by omega)]
      by_cases c3 : i = j
      · rw [if_pos c3, a10, hb, c3, hj0]
      · rw [if_neg c3, ea, if_neg c1, if_neg (by omega), if_neg c3]
    have C3 : bits .and .i64 (q 11) (u &&& t).toInt = (u &&& t).toInt := by
      rw [eq, if_neg (by omega), if_pos rfl, pj, v_w32, v_and, v_in]
    have C4 : q 10 = a 10 := by rw [a10, eq, if_neg (by omega), if_neg (by omega), if_neg (by omega), p10]
    have C5 : bits .and .i64 (r 12) (u &&& t).toInt = 0 := by
      rw [er, if_neg (by omega), if_pos rfl, qj, v_w32, v_and, v_out]
      rfl
    have C6 : b 32 = wrap32 (h 32 + 8) := by
      rw [eb, if_pos rfl, ea, if_pos rfl, Plain.w32_add_l]
      congr 1
      omega
    exact swaps_w w (Lib.hid hO) (Lib.hid hn) (Lib.hid hL) (Lib.hid hNC) (Lib.hid hh) (Lib.hid hp) (Lib.hid i1) (Lib.hid r1) lk (Lib.hid s1) (Lib.hid s2) (Lib.hid wc)
      (Lib.hid (by omega)) (Lib.hid (by omega)) (Lib.hid (by omega)) (Lib.hid (by omega)) (Lib.hid (by omega)) (Lib.hid (by omega)) (Lib.hid (by omega)) (Lib.hid (by omega))
      (Lib.hid S1) (Lib.hid S2) (Lib.hid S3) (Lib.hid S4) (Lib.hid S5) (Lib.hid rfl) (Lib.hid X1) (Lib.hid rfl) (Lib.hid C1) (Lib.hid C2) (Lib.hid C3) (Lib.hid C4) (Lib.hid C5) (Lib.hid C6)
  have : k = 0 ∨ k = 1 ∨ k = 2 ∨ k = 3 ∨ k = 4 ∨ k = 5 := by omega
  rcases this with rfl | rfl | rfl | rfl | rfl | rfl
  · refine key 768 136 33 136#32 (by decide) (by decide) rfl (by decide) (by decide) ?_ (by omega) (by decide +kernel) (by decide +kernel) (by decide +kernel) (by decide +kernel) (by decide +kernel) rfl rfl
    rcases fine.st with e | e | e | e <;> rw [e] <;> decide +kernel
  · exact key 773 (-4) 34 (-4#32) (by decide) (by decide) rfl (by decide) (by decide) (and_four (fine.in32 _) fine.ve) (by omega) (by decide +kernel) (by decide +kernel) (by decide +kernel) (by decide +kernel) (by decide +kernel) rfl rfl
  · exact key 832 (-1) 35 (-1#32) (by decide) (by decide) rfl (by decide) (by decide) (and_ones (fine.in32 _)) (by omega) (by decide +kernel) (by decide +kernel) (by decide +kernel) (by decide +kernel) (by decide +kernel) rfl rfl
  · exact key 833 (-4) 36 (-4#32) (by decide) (by decide) rfl (by decide) (by decide) (and_four (fine.in32 _) fine.ep) (by omega) (by decide +kernel) (by decide +kernel) (by decide +kernel) (by decide +kernel) (by decide +kernel) rfl rfl
  · exact key 834 (-1) 37 (-1#32) (by decide) (by decide) rfl (by decide) (by decide) (and_ones (fine.in32 _)) (by omega) (by decide +kernel) (by decide +kernel) (by decide +kernel) (by decide +kernel) (by decide +kernel) rfl rfl
  · exact key 1984 (-1) 38 (-1#32) (by decide) (by decide) rfl (by decide) (by decide) (and_ones (fine.in32 _)) (by omega) (by decide +kernel) (by decide +kernel) (by decide +kernel) (by decide +kernel) (by decide +kernel) rfl rfl
end Go.Proofs.YtgcgdjmlngfpeaaDoor
