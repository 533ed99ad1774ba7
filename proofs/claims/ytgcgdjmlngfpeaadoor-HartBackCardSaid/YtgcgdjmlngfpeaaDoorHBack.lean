/- HartBack: a trap, and InMret behind it, bring PC back, and whether interrupts are let in. -/
import Derived.Test.YtgcgdjmlngfpeaaDoorHLaw1
namespace Go.Proofs.YtgcgdjmlngfpeaaDoor
open Go.RowKit Ht
set_option linter.unusedVariables false
set_option linter.unusedSimpArgs false
set_option maxRecDepth 100000
set_option maxHeartbeats 16000000
theorem back_true (w : World) {P : Option Addr} {N C : Nat} {l : List Int} {c p m s1 z1 y8 y2 : Int} {h t b h7 lo : H} {r0 r1 : Bool} (hO : OpsAt w) (hn : l.length = N) (hL : IntsQ w P l) (hNC : N ≤ C) (HH : Hid (fitV l = h)) (M1 : Hid (wrap32 c = m)) (T1 : Hid (h 33 = s1)) (T2 : Hid (trapS s1 = z1))
    (T3 : Hid (up (up (up (up h 36 (h 32)) 37 m) 32 (h 34)) 33 z1 = t)) (S1 : Hid (stepV t 0 ⟨44, 0, 0, 0, 0⟩ = (b, e0))) (P1 : Hid (put h 7 0 = h7)) (S2 : Hid (stepV h7 0 ⟨40, 8, 7, 0, 1984⟩ = (lo, e0)))
    (Y8 : Hid (IntKind.i64.wrap ((h 33).tdiv 8) = y8)) (Y2 : Hid (y8.tmod 2 = y2)) (Y1 : Hid (y2 = 1)) (G0 : Hid (decide (0 < p) = r0)) (C1 : Hid (t 32 = h 34)) (C2 : Hid (t 37 = m)) (C3 : Hid (b 32 = h 32)) (C4 : Hid (∀ k, k < 32 → b k = h k)) (C5 : Hid (lo 8 = h 38))
    (L1 : Hid ((decide (bits .and .i64 (t 33) 8 ≠ 0) && decide (t 38 < p)) = false)) (L2 : Hid ((decide (bits .and .i64 (b 33) 8 ≠ 0) && decide (b 38 < p)) = r1)) (L3 : Hid ((decide (bits .and .i64 (h 33) 8 ≠ 0) && decide (h 38 < p)) = r1)) (L4 : Hid ((decide (bits .and .i64 (lo 33) 8 ≠ 0) && decide (lo 38 < p)) = r0)) :
    Calls Tryd.prog 6 #[.slice P N C, .int .i64 c, .int .i64 p] w (OneV (.bool true) w) := by
  have HO := Lib.hid hO
  have HN := Lib.hid hn
  have HL := Lib.hid hL
  have HNC := Lib.hid hNC
  clear hO hn hL hNC
  have Z0 : Hid (i64 0) := Lib.hid (by omega)
  have Z7 : Hid (i64 7) := Lib.hid (by omega)
  have Z8 : Hid (i64 8) := Lib.hid (by omega)
  have Z40 : Hid (i64 40) := Lib.hid (by omega)
  have Z44 : Hid (i64 44) := Lib.hid (by omega)
  have Z1984 : Hid (i64 1984) := Lib.hid (by omega)
  go_enter Tryd.func6, Tryd.ntmps6
  have HB : Hid (Bel w w) := Lib.hid (Bel.refl w)
  go_upto_region 1 with (fail)
  rename_i K hK
  refine wp_region_list ?_
  refine wpList_call rfl (f := 12) (args := #[]) (v := .bool true) (by kernel_rfl) (awake_any (HO.out.bel HB.out)) ?_
  intro V1 hb
  replace HB : Hid (Bel w V1) := Lib.hid (HB.out.trans hb)
  clear hb
  try simp only [Act.put, List.setIfInBounds_toArray, List.set_cons_zero, List.set_cons_succ]
  refine wpList_one rfl (w' := V1) (v := .bool true) rfl ?_
  try simp only [Act.put, List.setIfInBounds_toArray, List.set_cons_zero, List.set_cons_succ]
  refine wpList_nil ?_
  refine hK _ _ ?_
  clear hK K
  go_upto_region 2 with (fail)
  rename_i K hK
  refine wp_region_list ?_
  refine wpList_one rfl (w' := V1) (v := .slice P N C) rfl ?_
  try simp only [Act.put, List.setIfInBounds_toArray, List.set_cons_zero, List.set_cons_succ]
  refine wpList_call rfl (f := 13) (args := #[.slice P N C]) (v := hv h) (by kernel_rfl) (fit_lit14 HH.out HN.out (HL.out.bel HB.out) HNC.out) ?_
  intro V2 hb
  replace HB : Hid (Bel w V2) := Lib.hid (HB.out.trans hb)
  clear hb
  try simp only [Act.put, List.setIfInBounds_toArray, List.set_cons_zero, List.set_cons_succ]
  obtain ⟨hb, hx⟩ := box1 V2 hZ 28
  refine wpList_one rfl (w' := V2.alloc (.cells hZ 28)) (v := .pointer (some ⟨V2.heap.size, 0, none⟩)) (by kernel_rfl) ?_
  try simp only [Act.put, List.setIfInBounds_toArray, List.set_cons_zero, List.set_cons_succ]
  have hl := HB.out.size
  generalize V2.alloc (.cells hZ 28) = V3 at hb hx ⊢
  generalize V2.heap.size = b8 at hx hl ⊢
  have HG := Lib.hid hl
  clear hl
  replace HB : Hid (Bel w V3) := Lib.hid (HB.out.trans hb)
  have HXb8 : Hid (HAt V3 b8 (fun _ => 0)) := Lib.hid hx
  clear hb hx
  try simp only [Act.put, List.setIfInBounds_toArray, List.set_cons_zero, List.set_cons_succ]
  refine wpList_store_row rfl 28 (.tmp 8) (.tmp 16) rfl b8 (hC h) rfl rfl 28 (hC (fun _ => 0)) HXb8.out (sz_hart _) (by rw [hC_size, hC_size]) (hC_ones _) ?_
  have hn := row_same (cs := (hC h)) HXb8.out
  have hb := row_bel HB.out (g := b8) (by have := HG.out; omega) (hC h)
  generalize V3.setRow b8 (hC h) = V4 at hn hb  ⊢
  clear HB HXb8
  have HB : Hid (Bel w V4) := Lib.hid hb
  have HXb8 : Hid (HAt V4 b8 h) := Lib.hid hn
  clear hn hb 
  try simp only [Act.put, List.setIfInBounds_toArray, List.set_cons_zero, List.set_cons_succ]
  refine wpList_nil ?_
  refine hK _ _ ?_
  clear hK K
  go_upto_region 3 with (fail)
  rename_i K hK
  refine wp_region_list ?_
  refine wpList_load_row rfl 28 (.tmp 8) rfl b8 rfl 28 (hC h) (0, 0) _ HXb8.out Tryd.underlying28 rfl (sz_hart _) ?_
  try simp only [Act.put, List.setIfInBounds_toArray, List.set_cons_zero, List.set_cons_succ]
  refine wpList_one rfl (w' := V4) (v := .int .i64 c) rfl ?_
  try simp only [Act.put, List.setIfInBounds_toArray, List.set_cons_zero, List.set_cons_succ]
  refine wpList_call rfl (f := 20) (args := #[hv h, .int .i64 c]) (v := hv t) (by kernel_rfl) (trap_lit M1.out T1.out T2.out T3.out _) ?_
  intro V5 hb
  replace HB : Hid (Bel w V5) := Lib.hid (HB.out.trans hb)
  replace HXb8 : Hid (HAt V5 b8 h) := Lib.hid (HXb8.out.bel hb)
  clear hb
  try simp only [Act.put, List.setIfInBounds_toArray, List.set_cons_zero, List.set_cons_succ]
  obtain ⟨hb, hx⟩ := box1 V5 hZ 28
  refine wpList_one rfl (w' := V5.alloc (.cells hZ 28)) (v := .pointer (some ⟨V5.heap.size, 0, none⟩)) (by kernel_rfl) ?_
  try simp only [Act.put, List.setIfInBounds_toArray, List.set_cons_zero, List.set_cons_succ]
  have hl := lt_of_heap HXb8.out
  generalize V5.alloc (.cells hZ 28) = V6 at hb hx ⊢
  generalize V5.heap.size = b9 at hx hl ⊢
  have HG1 := Lib.hid hl
  clear hl
  replace HB : Hid (Bel w V6) := Lib.hid (HB.out.trans hb)
  replace HXb8 : Hid (HAt V6 b8 h) := Lib.hid (HXb8.out.bel hb)
  have HXb9 : Hid (HAt V6 b9 (fun _ => 0)) := Lib.hid hx
  clear hb hx
  try simp only [Act.put, List.setIfInBounds_toArray, List.set_cons_zero, List.set_cons_succ]
  refine wpList_store_row rfl 28 (.tmp 9) (.tmp 19) rfl b9 (hC t) rfl rfl 28 (hC (fun _ => 0)) HXb9.out (sz_hart _) (by rw [hC_size, hC_size]) (hC_ones _) ?_
  have hn := row_same (cs := (hC t)) HXb9.out
  have hb := row_bel HB.out (g := b9) (by have := HG.out; have := HG1.out; omega) (hC t)
  have hb8 := (setRow_other V6 b9 b8 (hC t) (by have := HG.out; have := HG1.out; omega)).trans HXb8.out
  generalize V6.setRow b9 (hC t) = V7 at hn hb hb8 ⊢
  clear HB HXb8 HXb9
  have HB : Hid (Bel w V7) := Lib.hid hb
  have HXb8 : Hid (HAt V7 b8 h) := Lib.hid hb8
  have HXb9 : Hid (HAt V7 b9 t) := Lib.hid hn
  clear hn hb hb8
  try simp only [Act.put, List.setIfInBounds_toArray, List.set_cons_zero, List.set_cons_succ]
  refine wpList_nil ?_
  refine hK _ _ ?_
  clear hK K
  go_upto_region 4 with (fail)
  rename_i K hK
  refine wp_region_list ?_
  refine wpList_load_row rfl 28 (.tmp 9) rfl b9 rfl 28 (hC t) (0, 0) _ HXb9.out Tryd.underlying28 rfl (sz_hart _) ?_
  try simp only [Act.put, List.setIfInBounds_toArray, List.set_cons_zero, List.set_cons_succ]
  refine wpList_one rfl (w' := V7) (v := iv 44 0 0 0 0) (by kernel_rfl) ?_
  try simp only [Act.put, List.setIfInBounds_toArray, List.set_cons_zero, List.set_cons_succ]
  refine wpList_call rfl (f := 16) (args := #[hv t, .int .i64 0, iv 44 0 0 0 0]) (v := .tuple #[hv b, .agg (eC e0)]) (by kernel_rfl) (st HO HB.out (wf5 Z44.out Z0.out Z0.out Z0.out Z0.out) S1.out) ?_
  intro V8 hb
  replace HB : Hid (Bel w V8) := Lib.hid (HB.out.trans hb)
  replace HXb8 : Hid (HAt V8 b8 h) := Lib.hid (HXb8.out.bel hb)
  replace HXb9 : Hid (HAt V8 b9 t) := Lib.hid (HXb9.out.bel hb)
  clear hb
  try simp only [Act.put, List.setIfInBounds_toArray, List.set_cons_zero, List.set_cons_succ]
  refine wpList_one rfl (w' := V8) (v := .tuple #[hv b, .agg (eC e0)]) rfl ?_
  try simp only [Act.put, List.setIfInBounds_toArray, List.set_cons_zero, List.set_cons_succ]
  refine wpList_one rfl (w' := V8) (v := hv b) rfl ?_
  try simp only [Act.put, List.setIfInBounds_toArray, List.set_cons_zero, List.set_cons_succ]
  refine wpList_one rfl (w' := V8) (v := .agg (eC e0)) rfl ?_
  try simp only [Act.put, List.setIfInBounds_toArray, List.set_cons_zero, List.set_cons_succ]
  obtain ⟨hb, hx⟩ := box1 V8 hZ 28
  refine wpList_one rfl (w' := V8.alloc (.cells hZ 28)) (v := .pointer (some ⟨V8.heap.size, 0, none⟩)) (by kernel_rfl) ?_
  try simp only [Act.put, List.setIfInBounds_toArray, List.set_cons_zero, List.set_cons_succ]
  have hl := lt_of_heap HXb9.out
  generalize V8.alloc (.cells hZ 28) = V9 at hb hx ⊢
  generalize V8.heap.size = b10 at hx hl ⊢
  have HG2 := Lib.hid hl
  clear hl
  replace HB : Hid (Bel w V9) := Lib.hid (HB.out.trans hb)
  replace HXb8 : Hid (HAt V9 b8 h) := Lib.hid (HXb8.out.bel hb)
  replace HXb9 : Hid (HAt V9 b9 t) := Lib.hid (HXb9.out.bel hb)
  have HXb10 : Hid (HAt V9 b10 (fun _ => 0)) := Lib.hid hx
  clear hb hx
  try simp only [Act.put, List.setIfInBounds_toArray, List.set_cons_zero, List.set_cons_succ]
  obtain ⟨hb, hx⟩ := box1 V9 (eC e0) 34
  refine wpList_one rfl (w' := V9.alloc (.cells (eC e0) 34)) (v := .pointer (some ⟨V9.heap.size, 0, none⟩)) (by kernel_rfl) ?_
  try simp only [Act.put, List.setIfInBounds_toArray, List.set_cons_zero, List.set_cons_succ]
  have hl := lt_of_heap HXb10.out
  generalize V9.alloc (.cells (eC e0) 34) = V10 at hb hx ⊢
  generalize V9.heap.size = b11 at hx hl ⊢
  have HG3 := Lib.hid hl
  clear hl
  replace HB : Hid (Bel w V10) := Lib.hid (HB.out.trans hb)
  replace HXb8 : Hid (HAt V10 b8 h) := Lib.hid (HXb8.out.bel hb)
  replace HXb9 : Hid (HAt V10 b9 t) := Lib.hid (HXb9.out.bel hb)
  replace HXb10 : Hid (HAt V10 b10 (fun _ => 0)) := Lib.hid (HXb10.out.bel hb)
  have HXb11 : Hid (EfAt V10 b11 e0) := Lib.hid hx
  clear hb hx
  try simp only [Act.put, List.setIfInBounds_toArray, List.set_cons_zero, List.set_cons_succ]
  refine wpList_store_row rfl 28 (.tmp 10) (.tmp 24) rfl b10 (hC b) rfl rfl 28 (hC (fun _ => 0)) HXb10.out (sz_hart _) (by rw [hC_size, hC_size]) (hC_ones _) ?_
  have hn := row_same (cs := (hC b)) HXb10.out
  have hb := row_bel HB.out (g := b10) (by have := HG.out; have := HG1.out; have := HG2.out; have := HG3.out; omega) (hC b)
  have hb8 := (setRow_other V10 b10 b8 (hC b) (by have := HG.out; have := HG1.out; have := HG2.out; have := HG3.out; omega)).trans HXb8.out
  have hb9 := (setRow_other V10 b10 b9 (hC b) (by have := HG.out; have := HG1.out; have := HG2.out; have := HG3.out; omega)).trans HXb9.out
  have hb11 := (setRow_other V10 b10 b11 (hC b) (by have := HG.out; have := HG1.out; have := HG2.out; have := HG3.out; omega)).trans HXb11.out
  generalize V10.setRow b10 (hC b) = V11 at hn hb hb8 hb9 hb11 ⊢
  clear HB HXb8 HXb9 HXb10 HXb11
  have HB : Hid (Bel w V11) := Lib.hid hb
  have HXb8 : Hid (HAt V11 b8 h) := Lib.hid hb8
  have HXb9 : Hid (HAt V11 b9 t) := Lib.hid hb9
  have HXb11 : Hid (EfAt V11 b11 e0) := Lib.hid hb11
  have HXb10 : Hid (HAt V11 b10 b) := Lib.hid hn
  clear hn hb hb8 hb9 hb11
  try simp only [Act.put, List.setIfInBounds_toArray, List.set_cons_zero, List.set_cons_succ]
  refine wpList_store_row rfl 34 (.tmp 11) (.tmp 25) rfl b11 (eC e0) rfl rfl 34 (eC e0) HXb11.out (sz_eff _) rfl (eC_ones _) ?_
  have hn := row_same (cs := (eC e0)) HXb11.out
  have hb := row_bel HB.out (g := b11) (by have := HG.out; have := HG1.out; have := HG2.out; have := HG3.out; omega) (eC e0)
  have hb8 := (setRow_other V11 b11 b8 (eC e0) (by have := HG.out; have := HG1.out; have := HG2.out; have := HG3.out; omega)).trans HXb8.out
  have hb9 := (setRow_other V11 b11 b9 (eC e0) (by have := HG.out; have := HG1.out; have := HG2.out; have := HG3.out; omega)).trans HXb9.out
  have hb10 := (setRow_other V11 b11 b10 (eC e0) (by have := HG.out; have := HG1.out; have := HG2.out; have := HG3.out; omega)).trans HXb10.out
  generalize V11.setRow b11 (eC e0) = V12 at hn hb hb8 hb9 hb10 ⊢
  clear HB HXb8 HXb9 HXb10 HXb11
  have HB : Hid (Bel w V12) := Lib.hid hb
  have HXb8 : Hid (HAt V12 b8 h) := Lib.hid hb8
  have HXb9 : Hid (HAt V12 b9 t) := Lib.hid hb9
  have HXb10 : Hid (HAt V12 b10 b) := Lib.hid hb10
  have HXb11 : Hid (EfAt V12 b11 e0) := Lib.hid hn
  clear hn hb hb8 hb9 hb10
  try simp only [Act.put, List.setIfInBounds_toArray, List.set_cons_zero, List.set_cons_succ]
  refine wpList_nil ?_
  refine hK _ _ ?_
  clear hK K
  go_upto_region 5 with (fail)
  rename_i K hK
  refine wp_region_list ?_
  refine wpList_load_row rfl 28 (.tmp 8) rfl b8 rfl 28 (hC h) (0, 0) _ HXb8.out Tryd.underlying28 rfl (sz_hart _) ?_
  try simp only [Act.put, List.setIfInBounds_toArray, List.set_cons_zero, List.set_cons_succ]
  refine wpList_call rfl (f := 18) (args := #[hv h, .int .i64 7, .int .i64 0]) (v := hv h7) (by kernel_rfl) (put_lit P1.out _) ?_
  intro V13 hb
  replace HB : Hid (Bel w V13) := Lib.hid (HB.out.trans hb)
  replace HXb8 : Hid (HAt V13 b8 h) := Lib.hid (HXb8.out.bel hb)
  replace HXb9 : Hid (HAt V13 b9 t) := Lib.hid (HXb9.out.bel hb)
  replace HXb10 : Hid (HAt V13 b10 b) := Lib.hid (HXb10.out.bel hb)
  replace HXb11 : Hid (EfAt V13 b11 e0) := Lib.hid (HXb11.out.bel hb)
  clear hb
  try simp only [Act.put, List.setIfInBounds_toArray, List.set_cons_zero, List.set_cons_succ]
  refine wpList_one rfl (w' := V13) (v := iv 40 8 7 0 1984) (by kernel_rfl) ?_
  try simp only [Act.put, List.setIfInBounds_toArray, List.set_cons_zero, List.set_cons_succ]
  refine wpList_call rfl (f := 16) (args := #[hv h7, .int .i64 0, iv 40 8 7 0 1984]) (v := .tuple #[hv lo, .agg (eC e0)]) (by kernel_rfl) (st HO HB.out (wf5 Z40.out Z8.out Z7.out Z0.out Z1984.out) S2.out) ?_
  intro V14 hb
  replace HB : Hid (Bel w V14) := Lib.hid (HB.out.trans hb)
  replace HXb8 : Hid (HAt V14 b8 h) := Lib.hid (HXb8.out.bel hb)
  replace HXb9 : Hid (HAt V14 b9 t) := Lib.hid (HXb9.out.bel hb)
  replace HXb10 : Hid (HAt V14 b10 b) := Lib.hid (HXb10.out.bel hb)
  replace HXb11 : Hid (EfAt V14 b11 e0) := Lib.hid (HXb11.out.bel hb)
  clear hb
  try simp only [Act.put, List.setIfInBounds_toArray, List.set_cons_zero, List.set_cons_succ]
  refine wpList_one rfl (w' := V14) (v := .tuple #[hv lo, .agg (eC e0)]) rfl ?_
  try simp only [Act.put, List.setIfInBounds_toArray, List.set_cons_zero, List.set_cons_succ]
  refine wpList_one rfl (w' := V14) (v := hv lo) rfl ?_
  try simp only [Act.put, List.setIfInBounds_toArray, List.set_cons_zero, List.set_cons_succ]
  refine wpList_one rfl (w' := V14) (v := .agg (eC e0)) rfl ?_
  try simp only [Act.put, List.setIfInBounds_toArray, List.set_cons_zero, List.set_cons_succ]
  obtain ⟨hb, hx⟩ := box1 V14 hZ 28
  refine wpList_one rfl (w' := V14.alloc (.cells hZ 28)) (v := .pointer (some ⟨V14.heap.size, 0, none⟩)) (by kernel_rfl) ?_
  try simp only [Act.put, List.setIfInBounds_toArray, List.set_cons_zero, List.set_cons_succ]
  have hl := lt_of_heap HXb11.out
  generalize V14.alloc (.cells hZ 28) = V15 at hb hx ⊢
  generalize V14.heap.size = b12 at hx hl ⊢
  have HG4 := Lib.hid hl
  clear hl
  replace HB : Hid (Bel w V15) := Lib.hid (HB.out.trans hb)
  replace HXb8 : Hid (HAt V15 b8 h) := Lib.hid (HXb8.out.bel hb)
  replace HXb9 : Hid (HAt V15 b9 t) := Lib.hid (HXb9.out.bel hb)
  replace HXb10 : Hid (HAt V15 b10 b) := Lib.hid (HXb10.out.bel hb)
  replace HXb11 : Hid (EfAt V15 b11 e0) := Lib.hid (HXb11.out.bel hb)
  have HXb12 : Hid (HAt V15 b12 (fun _ => 0)) := Lib.hid hx
  clear hb hx
  try simp only [Act.put, List.setIfInBounds_toArray, List.set_cons_zero, List.set_cons_succ]
  obtain ⟨hb, hx⟩ := box1 V15 (eC e0) 34
  refine wpList_one rfl (w' := V15.alloc (.cells (eC e0) 34)) (v := .pointer (some ⟨V15.heap.size, 0, none⟩)) (by kernel_rfl) ?_
  try simp only [Act.put, List.setIfInBounds_toArray, List.set_cons_zero, List.set_cons_succ]
  have hl := lt_of_heap HXb12.out
  generalize V15.alloc (.cells (eC e0) 34) = V16 at hb hx ⊢
  generalize V15.heap.size = b13 at hx hl ⊢
  have HG5 := Lib.hid hl
  clear hl
  replace HB : Hid (Bel w V16) := Lib.hid (HB.out.trans hb)
  replace HXb8 : Hid (HAt V16 b8 h) := Lib.hid (HXb8.out.bel hb)
  replace HXb9 : Hid (HAt V16 b9 t) := Lib.hid (HXb9.out.bel hb)
  replace HXb10 : Hid (HAt V16 b10 b) := Lib.hid (HXb10.out.bel hb)
  replace HXb11 : Hid (EfAt V16 b11 e0) := Lib.hid (HXb11.out.bel hb)
  replace HXb12 : Hid (HAt V16 b12 (fun _ => 0)) := Lib.hid (HXb12.out.bel hb)
  have HXb13 : Hid (EfAt V16 b13 e0) := Lib.hid hx
  clear hb hx
  try simp only [Act.put, List.setIfInBounds_toArray, List.set_cons_zero, List.set_cons_succ]
  refine wpList_store_row rfl 28 (.tmp 12) (.tmp 31) rfl b12 (hC lo) rfl rfl 28 (hC (fun _ => 0)) HXb12.out (sz_hart _) (by rw [hC_size, hC_size]) (hC_ones _) ?_
  have hn := row_same (cs := (hC lo)) HXb12.out
  have hb := row_bel HB.out (g := b12) (by have := HG.out; have := HG1.out; have := HG2.out; have := HG3.out; have := HG4.out; have := HG5.out; omega) (hC lo)
  have hb8 := (setRow_other V16 b12 b8 (hC lo) (by have := HG.out; have := HG1.out; have := HG2.out; have := HG3.out; have := HG4.out; have := HG5.out; omega)).trans HXb8.out
  have hb9 := (setRow_other V16 b12 b9 (hC lo) (by have := HG.out; have := HG1.out; have := HG2.out; have := HG3.out; have := HG4.out; have := HG5.out; omega)).trans HXb9.out
  have hb10 := (setRow_other V16 b12 b10 (hC lo) (by have := HG.out; have := HG1.out; have := HG2.out; have := HG3.out; have := HG4.out; have := HG5.out; omega)).trans HXb10.out
  have hb11 := (setRow_other V16 b12 b11 (hC lo) (by have := HG.out; have := HG1.out; have := HG2.out; have := HG3.out; have := HG4.out; have := HG5.out; omega)).trans HXb11.out
  have hb13 := (setRow_other V16 b12 b13 (hC lo) (by have := HG.out; have := HG1.out; have := HG2.out; have := HG3.out; have := HG4.out; have := HG5.out; omega)).trans HXb13.out
  generalize V16.setRow b12 (hC lo) = V17 at hn hb hb8 hb9 hb10 hb11 hb13 ⊢
  clear HB HXb8 HXb9 HXb10 HXb11 HXb12 HXb13
  have HB : Hid (Bel w V17) := Lib.hid hb
  have HXb8 : Hid (HAt V17 b8 h) := Lib.hid hb8
  have HXb9 : Hid (HAt V17 b9 t) := Lib.hid hb9
  have HXb10 : Hid (HAt V17 b10 b) := Lib.hid hb10
  have HXb11 : Hid (EfAt V17 b11 e0) := Lib.hid hb11
  have HXb13 : Hid (EfAt V17 b13 e0) := Lib.hid hb13
  have HXb12 : Hid (HAt V17 b12 lo) := Lib.hid hn
  clear hn hb hb8 hb9 hb10 hb11 hb13
  try simp only [Act.put, List.setIfInBounds_toArray, List.set_cons_zero, List.set_cons_succ]
  refine wpList_store_row rfl 34 (.tmp 13) (.tmp 32) rfl b13 (eC e0) rfl rfl 34 (eC e0) HXb13.out (sz_eff _) rfl (eC_ones _) ?_
  have hn := row_same (cs := (eC e0)) HXb13.out
  have hb := row_bel HB.out (g := b13) (by have := HG.out; have := HG1.out; have := HG2.out; have := HG3.out; have := HG4.out; have := HG5.out; omega) (eC e0)
  have hb8 := (setRow_other V17 b13 b8 (eC e0) (by have := HG.out; have := HG1.out; have := HG2.out; have := HG3.out; have := HG4.out; have := HG5.out; omega)).trans HXb8.out
  have hb9 := (setRow_other V17 b13 b9 (eC e0) (by have := HG.out; have := HG1.out; have := HG2.out; have := HG3.out; have := HG4.out; have := HG5.out; omega)).trans HXb9.out
  have hb10 := (setRow_other V17 b13 b10 (eC e0) (by have := HG.out; have := HG1.out; have := HG2.out; have := HG3.out; have := HG4.out; have := HG5.out; omega)).trans HXb10.out
  have hb11 := (setRow_other V17 b13 b11 (eC e0) (by have := HG.out; have := HG1.out; have := HG2.out; have := HG3.out; have := HG4.out; have := HG5.out; omega)).trans HXb11.out
  have hb12 := (setRow_other V17 b13 b12 (eC e0) (by have := HG.out; have := HG1.out; have := HG2.out; have := HG3.out; have := HG4.out; have := HG5.out; omega)).trans HXb12.out
  generalize V17.setRow b13 (eC e0) = V18 at hn hb hb8 hb9 hb10 hb11 hb12 ⊢
  clear HB HXb8 HXb9 HXb10 HXb11 HXb12 HXb13
  have HB : Hid (Bel w V18) := Lib.hid hb
  have HXb8 : Hid (HAt V18 b8 h) := Lib.hid hb8
  have HXb9 : Hid (HAt V18 b9 t) := Lib.hid hb9
  have HXb10 : Hid (HAt V18 b10 b) := Lib.hid hb10
  have HXb11 : Hid (EfAt V18 b11 e0) := Lib.hid hb11
  have HXb12 : Hid (HAt V18 b12 lo) := Lib.hid hb12
  have HXb13 : Hid (EfAt V18 b13 e0) := Lib.hid hn
  clear hn hb hb8 hb9 hb10 hb11 hb12
  try simp only [Act.put, List.setIfInBounds_toArray, List.set_cons_zero, List.set_cons_succ]
  refine wpList_nil ?_
  refine hK _ _ ?_
  clear hK K
  go_upto_region 6 with (fail)
  rename_i K hK
  refine Upto.begin (z := 72) (T := fun w' => HAt w' b8 h ∧ HAt w' b9 t ∧ HAt w' b10 b ∧ HAt w' b12 lo ∧ EfAt w' b11 e0) (by kernel_rfl) ?_
  have hb : Bel V18 V18.drew := (Bel.refl V18).drew
  generalize V18.drew = V19 at hb ⊢
  replace HB : Hid (Bel w V19) := Lib.hid (HB.out.trans hb)
  replace HXb8 : Hid (HAt V19 b8 h) := Lib.hid (HXb8.out.bel hb)
  replace HXb9 : Hid (HAt V19 b9 t) := Lib.hid (HXb9.out.bel hb)
  replace HXb10 : Hid (HAt V19 b10 b) := Lib.hid (HXb10.out.bel hb)
  replace HXb11 : Hid (EfAt V19 b11 e0) := Lib.hid (HXb11.out.bel hb)
  replace HXb12 : Hid (HAt V19 b12 lo) := Lib.hid (HXb12.out.bel hb)
  replace HXb13 : Hid (EfAt V19 b13 e0) := Lib.hid (HXb13.out.bel hb)
  clear hb
  have hT : HAt V19 b8 h ∧ HAt V19 b9 t ∧ HAt V19 b10 b ∧ HAt V19 b12 lo ∧ EfAt V19 b11 e0 := ⟨HXb8.out, HXb9.out, HXb10.out, HXb12.out, HXb11.out⟩
  refine takeU 33 (i := 0) (v := .bool true) rfl rfl rfl (by kernel_rfl) (by kernel_rfl) (by kernel_rfl) (by kernel_rfl) (fun _ _ _ h => h) (by kernel_rfl) (fun w0 hS => rfl) hT ?_
  try simp only [List.setIfInBounds_toArray, List.set_cons_zero, List.set_cons_succ]
  refine takeU 34 (i := 1) (v := .bool true) rfl rfl rfl (by kernel_rfl) (by kernel_rfl) (by kernel_rfl) (by kernel_rfl) (fun _ _ _ h => h) (by kernel_rfl) (fun w0 hS => rfl) hT ?_
  try simp only [List.setIfInBounds_toArray, List.set_cons_zero, List.set_cons_succ]
  refine takeU 35 (i := 2) (v := .agg (eC e0)) rfl rfl rfl (by kernel_rfl) (by kernel_rfl) (by kernel_rfl) (by kernel_rfl) (fun _ _ _ h => h) (by kernel_rfl) (fun w0 hS => (exec_row 34 (.tmp 11) rfl b11 rfl 34 (eC e0) (0, 0) _ hS.2.2.2.2 Tryd.underlying34 rfl (sz_eff _))) hT ?_
  try simp only [List.setIfInBounds_toArray, List.set_cons_zero, List.set_cons_succ]
  refine takeU 36 (i := 3) (v := .agg (eC e0)) rfl rfl rfl (by kernel_rfl) (by kernel_rfl) (by kernel_rfl) (by kernel_rfl) (fun _ _ _ h => h) (by kernel_rfl) (fun w0 hS => (by kernel_rfl)) hT ?_
  try simp only [List.setIfInBounds_toArray, List.set_cons_zero, List.set_cons_succ]
  refine takeU 37 (i := 4) (v := .bool true) rfl rfl rfl (by kernel_rfl) (by kernel_rfl) (by kernel_rfl) (by kernel_rfl) (fun _ _ _ h => h) (by kernel_rfl) (fun w0 hS => (exec_eqE rfl rfl rfl (rfl) w0)) hT ?_
  try simp only [List.setIfInBounds_toArray, List.set_cons_zero, List.set_cons_succ]
  refine takeU 38 (i := 5) (v := .bool true) rfl rfl rfl (by kernel_rfl) (by kernel_rfl) (by kernel_rfl) (by kernel_rfl) (fun _ _ _ h => h) (by kernel_rfl) (fun w0 hS => (by kernel_rfl)) hT ?_
  try simp only [List.setIfInBounds_toArray, List.set_cons_zero, List.set_cons_succ]
  refine takeU 39 (i := 6) (v := .bool true) rfl rfl rfl (by kernel_rfl) (by kernel_rfl) (by kernel_rfl) (by kernel_rfl) (fun _ _ _ h => h) (by kernel_rfl) (fun w0 hS => rfl) hT ?_
  try simp only [List.setIfInBounds_toArray, List.set_cons_zero, List.set_cons_succ]
  refine takeU 40 (i := 7) (v := .pointer (some ⟨b9, 32, none⟩)) rfl rfl rfl (by kernel_rfl) (by kernel_rfl) (by kernel_rfl) (by kernel_rfl) (fun _ _ _ h => h) (by kernel_rfl) (fun w0 hS => (by kernel_rfl)) hT ?_
  try simp only [List.setIfInBounds_toArray, List.set_cons_zero, List.set_cons_succ]
  refine takeU 41 (i := 8) (v := .int .i64 (t 32)) rfl rfl rfl (by kernel_rfl) (by kernel_rfl) (by kernel_rfl) (by kernel_rfl) (fun _ _ _ h => h) (by kernel_rfl) (fun w0 hS => (exec_cell 3 (.tmp 40) rfl ⟨b9, 32, none⟩ rfl _ _ ((hS.2.1).cell (j := 32) (by omega)) Tryd.underlying3 rfl)) hT ?_
  try simp only [List.setIfInBounds_toArray, List.set_cons_zero, List.set_cons_succ]
  refine takeU 42 (i := 9) (v := .pointer (some ⟨b8, 34, none⟩)) rfl rfl rfl (by kernel_rfl) (by kernel_rfl) (by kernel_rfl) (by kernel_rfl) (fun _ _ _ h => h) (by kernel_rfl) (fun w0 hS => (by kernel_rfl)) hT ?_
  try simp only [List.setIfInBounds_toArray, List.set_cons_zero, List.set_cons_succ]
  refine takeU 43 (i := 10) (v := .int .i64 (h 34)) rfl rfl rfl (by kernel_rfl) (by kernel_rfl) (by kernel_rfl) (by kernel_rfl) (fun _ _ _ h => h) (by kernel_rfl) (fun w0 hS => (exec_cell 3 (.tmp 42) rfl ⟨b8, 34, none⟩ rfl _ _ ((hS.1).cell (j := 34) (by omega)) Tryd.underlying3 rfl)) hT ?_
  try simp only [List.setIfInBounds_toArray, List.set_cons_zero, List.set_cons_succ]
  refine takeU 44 (i := 11) (v := .bool true) rfl rfl rfl (by kernel_rfl) (by kernel_rfl) (by kernel_rfl) (by kernel_rfl) (fun _ _ _ h => h) (by kernel_rfl) (fun w0 hS => (exec_eqI rfl rfl rfl (C1.out) w0)) hT ?_
  try simp only [List.setIfInBounds_toArray, List.set_cons_zero, List.set_cons_succ]
  refine takeU 45 (i := 12) (v := .bool true) rfl rfl rfl (by kernel_rfl) (by kernel_rfl) (by kernel_rfl) (by kernel_rfl) (fun _ _ _ h => h) (by kernel_rfl) (fun w0 hS => (by kernel_rfl)) hT ?_
  try simp only [List.setIfInBounds_toArray, List.set_cons_zero, List.set_cons_succ]
  refine takeU 46 (i := 13) (v := .bool true) rfl rfl rfl (by kernel_rfl) (by kernel_rfl) (by kernel_rfl) (by kernel_rfl) (fun _ _ _ h => h) (by kernel_rfl) (fun w0 hS => rfl) hT ?_
  try simp only [List.setIfInBounds_toArray, List.set_cons_zero, List.set_cons_succ]
  refine takeU 47 (i := 14) (v := .pointer (some ⟨b9, 37, none⟩)) rfl rfl rfl (by kernel_rfl) (by kernel_rfl) (by kernel_rfl) (by kernel_rfl) (fun _ _ _ h => h) (by kernel_rfl) (fun w0 hS => (by kernel_rfl)) hT ?_
  try simp only [List.setIfInBounds_toArray, List.set_cons_zero, List.set_cons_succ]
  refine takeU 48 (i := 15) (v := .int .i64 (t 37)) rfl rfl rfl (by kernel_rfl) (by kernel_rfl) (by kernel_rfl) (by kernel_rfl) (fun _ _ _ h => h) (by kernel_rfl) (fun w0 hS => (exec_cell 3 (.tmp 47) rfl ⟨b9, 37, none⟩ rfl _ _ ((hS.2.1).cell (j := 37) (by omega)) Tryd.underlying3 rfl)) hT ?_
  try simp only [List.setIfInBounds_toArray, List.set_cons_zero, List.set_cons_succ]
  refine takeU 49 (i := 16) (v := .int .i64 c) rfl rfl rfl (by kernel_rfl) (by kernel_rfl) (by kernel_rfl) (by kernel_rfl) (fun _ _ _ h => h) (by kernel_rfl) (fun w0 hS => rfl) hT ?_
  try simp only [List.setIfInBounds_toArray, List.set_cons_zero, List.set_cons_succ]
  refine callU 50 (i := 17) rfl rfl (by kernel_rfl) (by kernel_rfl) (f := 27) (args := #[.int .i64 c]) (v := .int .i64 m) (by kernel_rfl) (wl M1.out _) (fun w' hb => ⟨HXb8.out.bel hb, HXb9.out.bel hb, HXb10.out.bel hb, HXb12.out.bel hb, HXb11.out.bel hb⟩) ?_
  intro V20 hb
  try simp only [List.setIfInBounds_toArray, List.set_cons_zero, List.set_cons_succ]
  replace HB : Hid (Bel w V20) := Lib.hid (HB.out.trans hb)
  replace HXb8 : Hid (HAt V20 b8 h) := Lib.hid (HXb8.out.bel hb)
  replace HXb9 : Hid (HAt V20 b9 t) := Lib.hid (HXb9.out.bel hb)
  replace HXb10 : Hid (HAt V20 b10 b) := Lib.hid (HXb10.out.bel hb)
  replace HXb11 : Hid (EfAt V20 b11 e0) := Lib.hid (HXb11.out.bel hb)
  replace HXb12 : Hid (HAt V20 b12 lo) := Lib.hid (HXb12.out.bel hb)
  replace HXb13 : Hid (EfAt V20 b13 e0) := Lib.hid (HXb13.out.bel hb)
  clear hb hT
  have hT : HAt V20 b8 h ∧ HAt V20 b9 t ∧ HAt V20 b10 b ∧ HAt V20 b12 lo ∧ EfAt V20 b11 e0 := ⟨HXb8.out, HXb9.out, HXb10.out, HXb12.out, HXb11.out⟩
  refine takeU 51 (i := 18) (v := .bool true) rfl rfl rfl (by kernel_rfl) (by kernel_rfl) (by kernel_rfl) (by kernel_rfl) (fun _ _ _ h => h) (by kernel_rfl) (fun w0 hS => (exec_eqI rfl rfl rfl (C2.out) w0)) hT ?_
  try simp only [List.setIfInBounds_toArray, List.set_cons_zero, List.set_cons_succ]
  refine takeU 52 (i := 19) (v := .bool true) rfl rfl rfl (by kernel_rfl) (by kernel_rfl) (by kernel_rfl) (by kernel_rfl) (fun _ _ _ h => h) (by kernel_rfl) (fun w0 hS => (by kernel_rfl)) hT ?_
  try simp only [List.setIfInBounds_toArray, List.set_cons_zero, List.set_cons_succ]
  refine takeU 53 (i := 20) (v := .bool true) rfl rfl rfl (by kernel_rfl) (by kernel_rfl) (by kernel_rfl) (by kernel_rfl) (fun _ _ _ h => h) (by kernel_rfl) (fun w0 hS => rfl) hT ?_
  try simp only [List.setIfInBounds_toArray, List.set_cons_zero, List.set_cons_succ]
  refine takeU 54 (i := 21) (v := hv t) rfl rfl rfl (by kernel_rfl) (by kernel_rfl) (by kernel_rfl) (by kernel_rfl) (fun _ _ _ h => h) (by kernel_rfl) (fun w0 hS => (exec_row 28 (.tmp 9) rfl b9 rfl 28 (hC t) (0, 0) _ hS.2.1 Tryd.underlying28 rfl (sz_hart _))) hT ?_
  try simp only [List.setIfInBounds_toArray, List.set_cons_zero, List.set_cons_succ]
  refine takeU 55 (i := 22) (v := .int .i64 p) rfl rfl rfl (by kernel_rfl) (by kernel_rfl) (by kernel_rfl) (by kernel_rfl) (fun _ _ _ h => h) (by kernel_rfl) (fun w0 hS => rfl) hT ?_
  try simp only [List.setIfInBounds_toArray, List.set_cons_zero, List.set_cons_succ]
  refine callU 56 (i := 23) rfl rfl (by kernel_rfl) (by kernel_rfl) (f := 22) (args := #[hv t, .int .i64 p]) (v := .bool false) (by kernel_rfl) (lets_lit L1.out _) (fun w' hb => ⟨HXb8.out.bel hb, HXb9.out.bel hb, HXb10.out.bel hb, HXb12.out.bel hb, HXb11.out.bel hb⟩) ?_
  intro V21 hb
  try simp only [List.setIfInBounds_toArray, List.set_cons_zero, List.set_cons_succ]
  replace HB : Hid (Bel w V21) := Lib.hid (HB.out.trans hb)
  replace HXb8 : Hid (HAt V21 b8 h) := Lib.hid (HXb8.out.bel hb)
  replace HXb9 : Hid (HAt V21 b9 t) := Lib.hid (HXb9.out.bel hb)
  replace HXb10 : Hid (HAt V21 b10 b) := Lib.hid (HXb10.out.bel hb)
  replace HXb11 : Hid (EfAt V21 b11 e0) := Lib.hid (HXb11.out.bel hb)
  replace HXb12 : Hid (HAt V21 b12 lo) := Lib.hid (HXb12.out.bel hb)
  replace HXb13 : Hid (EfAt V21 b13 e0) := Lib.hid (HXb13.out.bel hb)
  clear hb hT
  have hT : HAt V21 b8 h ∧ HAt V21 b9 t ∧ HAt V21 b10 b ∧ HAt V21 b12 lo ∧ EfAt V21 b11 e0 := ⟨HXb8.out, HXb9.out, HXb10.out, HXb12.out, HXb11.out⟩
  refine takeU 57 (i := 24) (v := .bool true) rfl rfl rfl (by kernel_rfl) (by kernel_rfl) (by kernel_rfl) (by kernel_rfl) (fun _ _ _ h => h) (by kernel_rfl) (fun w0 hS => (exec_not (b := false) rfl rfl w0)) hT ?_
  try simp only [List.setIfInBounds_toArray, List.set_cons_zero, List.set_cons_succ]
  refine takeU 58 (i := 25) (v := .bool true) rfl rfl rfl (by kernel_rfl) (by kernel_rfl) (by kernel_rfl) (by kernel_rfl) (fun _ _ _ h => h) (by kernel_rfl) (fun w0 hS => (by kernel_rfl)) hT ?_
  try simp only [List.setIfInBounds_toArray, List.set_cons_zero, List.set_cons_succ]
  refine takeU 59 (i := 26) (v := .bool true) rfl rfl rfl (by kernel_rfl) (by kernel_rfl) (by kernel_rfl) (by kernel_rfl) (fun _ _ _ h => h) (by kernel_rfl) (fun w0 hS => rfl) hT ?_
  try simp only [List.setIfInBounds_toArray, List.set_cons_zero, List.set_cons_succ]
  refine takeU 60 (i := 27) (v := .pointer (some ⟨b10, 32, none⟩)) rfl rfl rfl (by kernel_rfl) (by kernel_rfl) (by kernel_rfl) (by kernel_rfl) (fun _ _ _ h => h) (by kernel_rfl) (fun w0 hS => (by kernel_rfl)) hT ?_
  try simp only [List.setIfInBounds_toArray, List.set_cons_zero, List.set_cons_succ]
  refine takeU 61 (i := 28) (v := .int .i64 (b 32)) rfl rfl rfl (by kernel_rfl) (by kernel_rfl) (by kernel_rfl) (by kernel_rfl) (fun _ _ _ h => h) (by kernel_rfl) (fun w0 hS => (exec_cell 3 (.tmp 60) rfl ⟨b10, 32, none⟩ rfl _ _ ((hS.2.2.1).cell (j := 32) (by omega)) Tryd.underlying3 rfl)) hT ?_
  try simp only [List.setIfInBounds_toArray, List.set_cons_zero, List.set_cons_succ]
  refine takeU 62 (i := 29) (v := .pointer (some ⟨b8, 32, none⟩)) rfl rfl rfl (by kernel_rfl) (by kernel_rfl) (by kernel_rfl) (by kernel_rfl) (fun _ _ _ h => h) (by kernel_rfl) (fun w0 hS => (by kernel_rfl)) hT ?_
  try simp only [List.setIfInBounds_toArray, List.set_cons_zero, List.set_cons_succ]
  refine takeU 63 (i := 30) (v := .int .i64 (h 32)) rfl rfl rfl (by kernel_rfl) (by kernel_rfl) (by kernel_rfl) (by kernel_rfl) (fun _ _ _ h => h) (by kernel_rfl) (fun w0 hS => (exec_cell 3 (.tmp 62) rfl ⟨b8, 32, none⟩ rfl _ _ ((hS.1).cell (j := 32) (by omega)) Tryd.underlying3 rfl)) hT ?_
  try simp only [List.setIfInBounds_toArray, List.set_cons_zero, List.set_cons_succ]
  refine takeU 64 (i := 31) (v := .bool true) rfl rfl rfl (by kernel_rfl) (by kernel_rfl) (by kernel_rfl) (by kernel_rfl) (fun _ _ _ h => h) (by kernel_rfl) (fun w0 hS => (exec_eqI rfl rfl rfl (C3.out) w0)) hT ?_
  try simp only [List.setIfInBounds_toArray, List.set_cons_zero, List.set_cons_succ]
  refine takeU 65 (i := 32) (v := .bool true) rfl rfl rfl (by kernel_rfl) (by kernel_rfl) (by kernel_rfl) (by kernel_rfl) (fun _ _ _ h => h) (by kernel_rfl) (fun w0 hS => (by kernel_rfl)) hT ?_
  try simp only [List.setIfInBounds_toArray, List.set_cons_zero, List.set_cons_succ]
  refine takeU 66 (i := 33) (v := .bool true) rfl rfl rfl (by kernel_rfl) (by kernel_rfl) (by kernel_rfl) (by kernel_rfl) (fun _ _ _ h => h) (by kernel_rfl) (fun w0 hS => rfl) hT ?_
  try simp only [List.setIfInBounds_toArray, List.set_cons_zero, List.set_cons_succ]
  refine takeU 67 (i := 34) (v := hv b) rfl rfl rfl (by kernel_rfl) (by kernel_rfl) (by kernel_rfl) (by kernel_rfl) (fun _ _ _ h => h) (by kernel_rfl) (fun w0 hS => (exec_row 28 (.tmp 10) rfl b10 rfl 28 (hC b) (0, 0) _ hS.2.2.1 Tryd.underlying28 rfl (sz_hart _))) hT ?_
  try simp only [List.setIfInBounds_toArray, List.set_cons_zero, List.set_cons_succ]
  refine takeU 68 (i := 35) (v := .int .i64 p) rfl rfl rfl (by kernel_rfl) (by kernel_rfl) (by kernel_rfl) (by kernel_rfl) (fun _ _ _ h => h) (by kernel_rfl) (fun w0 hS => rfl) hT ?_
  try simp only [List.setIfInBounds_toArray, List.set_cons_zero, List.set_cons_succ]
  refine takeU 70 (i := 37) (v := hv h) rfl rfl rfl (by kernel_rfl) (by kernel_rfl) (by kernel_rfl) (by kernel_rfl) (fun _ _ _ h => h) (by kernel_rfl) (fun w0 hS => (exec_row 28 (.tmp 8) rfl b8 rfl 28 (hC h) (0, 0) _ hS.1 Tryd.underlying28 rfl (sz_hart _))) hT ?_
  try simp only [List.setIfInBounds_toArray, List.set_cons_zero, List.set_cons_succ]
  refine takeU 71 (i := 38) (v := .int .i64 p) rfl rfl rfl (by kernel_rfl) (by kernel_rfl) (by kernel_rfl) (by kernel_rfl) (fun _ _ _ h => h) (by kernel_rfl) (fun w0 hS => rfl) hT ?_
  try simp only [List.setIfInBounds_toArray, List.set_cons_zero, List.set_cons_succ]
  refine callU 69 (i := 36) rfl rfl (by kernel_rfl) (by kernel_rfl) (f := 22) (args := #[hv b, .int .i64 p]) (v := .bool r1) (by kernel_rfl) (lets_lit L2.out _) (fun w' hb => ⟨HXb8.out.bel hb, HXb9.out.bel hb, HXb10.out.bel hb, HXb12.out.bel hb, HXb11.out.bel hb⟩) ?_
  intro V22 hb
  try simp only [List.setIfInBounds_toArray, List.set_cons_zero, List.set_cons_succ]
  replace HB : Hid (Bel w V22) := Lib.hid (HB.out.trans hb)
  replace HXb8 : Hid (HAt V22 b8 h) := Lib.hid (HXb8.out.bel hb)
  replace HXb9 : Hid (HAt V22 b9 t) := Lib.hid (HXb9.out.bel hb)
  replace HXb10 : Hid (HAt V22 b10 b) := Lib.hid (HXb10.out.bel hb)
  replace HXb11 : Hid (EfAt V22 b11 e0) := Lib.hid (HXb11.out.bel hb)
  replace HXb12 : Hid (HAt V22 b12 lo) := Lib.hid (HXb12.out.bel hb)
  replace HXb13 : Hid (EfAt V22 b13 e0) := Lib.hid (HXb13.out.bel hb)
  clear hb hT
  have hT : HAt V22 b8 h ∧ HAt V22 b9 t ∧ HAt V22 b10 b ∧ HAt V22 b12 lo ∧ EfAt V22 b11 e0 := ⟨HXb8.out, HXb9.out, HXb10.out, HXb12.out, HXb11.out⟩
  refine callU 72 (i := 39) rfl rfl (by kernel_rfl) (by kernel_rfl) (f := 22) (args := #[hv h, .int .i64 p]) (v := .bool r1) (by kernel_rfl) (lets_lit L3.out _) (fun w' hb => ⟨HXb8.out.bel hb, HXb9.out.bel hb, HXb10.out.bel hb, HXb12.out.bel hb, HXb11.out.bel hb⟩) ?_
  intro V23 hb
  try simp only [List.setIfInBounds_toArray, List.set_cons_zero, List.set_cons_succ]
  replace HB : Hid (Bel w V23) := Lib.hid (HB.out.trans hb)
  replace HXb8 : Hid (HAt V23 b8 h) := Lib.hid (HXb8.out.bel hb)
  replace HXb9 : Hid (HAt V23 b9 t) := Lib.hid (HXb9.out.bel hb)
  replace HXb10 : Hid (HAt V23 b10 b) := Lib.hid (HXb10.out.bel hb)
  replace HXb11 : Hid (EfAt V23 b11 e0) := Lib.hid (HXb11.out.bel hb)
  replace HXb12 : Hid (HAt V23 b12 lo) := Lib.hid (HXb12.out.bel hb)
  replace HXb13 : Hid (EfAt V23 b13 e0) := Lib.hid (HXb13.out.bel hb)
  clear hb hT
  have hT : HAt V23 b8 h ∧ HAt V23 b9 t ∧ HAt V23 b10 b ∧ HAt V23 b12 lo ∧ EfAt V23 b11 e0 := ⟨HXb8.out, HXb9.out, HXb10.out, HXb12.out, HXb11.out⟩
  refine takeU 73 (i := 40) (v := .bool true) rfl rfl rfl (by kernel_rfl) (by kernel_rfl) (by kernel_rfl) (by kernel_rfl) (fun _ _ _ h => h) (by kernel_rfl) (fun w0 hS => (exec_eqB rfl rfl rfl rfl w0)) hT ?_
  try simp only [List.setIfInBounds_toArray, List.set_cons_zero, List.set_cons_succ]
  refine takeU 74 (i := 41) (v := .bool true) rfl rfl rfl (by kernel_rfl) (by kernel_rfl) (by kernel_rfl) (by kernel_rfl) (fun _ _ _ h => h) (by kernel_rfl) (fun w0 hS => (by kernel_rfl)) hT ?_
  try simp only [List.setIfInBounds_toArray, List.set_cons_zero, List.set_cons_succ]
  refine takeU 75 (i := 42) (v := .bool true) rfl rfl rfl (by kernel_rfl) (by kernel_rfl) (by kernel_rfl) (by kernel_rfl) (fun _ _ _ h => h) (by kernel_rfl) (fun w0 hS => rfl) hT ?_
  try simp only [List.setIfInBounds_toArray, List.set_cons_zero, List.set_cons_succ]
  refine takeU 76 (i := 43) (v := .pointer (some ⟨b10, 0, none⟩)) rfl rfl rfl (by kernel_rfl) (by kernel_rfl) (by kernel_rfl) (by kernel_rfl) (fun _ _ _ h => h) (by kernel_rfl) (fun w0 hS => (by kernel_rfl)) hT ?_
  try simp only [List.setIfInBounds_toArray, List.set_cons_zero, List.set_cons_succ]
  refine takeU 77 (i := 44) (v := rV b) rfl rfl rfl (by kernel_rfl) (by kernel_rfl) (by kernel_rfl) (by kernel_rfl) (fun _ _ _ h => h) (by kernel_rfl) (fun w0 hS => (exec_regs (.tmp 76) rfl b10 rfl hS.2.2.1)) hT ?_
  try simp only [List.setIfInBounds_toArray, List.set_cons_zero, List.set_cons_succ]
  refine takeU 78 (i := 45) (v := .pointer (some ⟨b8, 0, none⟩)) rfl rfl rfl (by kernel_rfl) (by kernel_rfl) (by kernel_rfl) (by kernel_rfl) (fun _ _ _ h => h) (by kernel_rfl) (fun w0 hS => (by kernel_rfl)) hT ?_
  try simp only [List.setIfInBounds_toArray, List.set_cons_zero, List.set_cons_succ]
  refine takeU 79 (i := 46) (v := rV h) rfl rfl rfl (by kernel_rfl) (by kernel_rfl) (by kernel_rfl) (by kernel_rfl) (fun _ _ _ h => h) (by kernel_rfl) (fun w0 hS => (exec_regs (.tmp 78) rfl b8 rfl hS.1)) hT ?_
  try simp only [List.setIfInBounds_toArray, List.set_cons_zero, List.set_cons_succ]
  refine takeU 80 (i := 47) (v := .bool true) rfl rfl rfl (by kernel_rfl) (by kernel_rfl) (by kernel_rfl) (by kernel_rfl) (fun _ _ _ h => h) (by kernel_rfl) (fun w0 hS => (exec_eqR rfl rfl rfl (C4.out) w0)) hT ?_
  try simp only [List.setIfInBounds_toArray, List.set_cons_zero, List.set_cons_succ]
  refine takeU 81 (i := 48) (v := .bool true) rfl rfl rfl (by kernel_rfl) (by kernel_rfl) (by kernel_rfl) (by kernel_rfl) (fun _ _ _ h => h) (by kernel_rfl) (fun w0 hS => (by kernel_rfl)) hT ?_
  try simp only [List.setIfInBounds_toArray, List.set_cons_zero, List.set_cons_succ]
  refine takeU 82 (i := 49) (v := .bool true) rfl rfl rfl (by kernel_rfl) (by kernel_rfl) (by kernel_rfl) (by kernel_rfl) (fun _ _ _ h => h) (by kernel_rfl) (fun w0 hS => rfl) hT ?_
  try simp only [List.setIfInBounds_toArray, List.set_cons_zero, List.set_cons_succ]
  refine takeU 83 (i := 50) (v := .pointer (some ⟨b12, 0, none⟩)) rfl rfl rfl (by kernel_rfl) (by kernel_rfl) (by kernel_rfl) (by kernel_rfl) (fun _ _ _ h => h) (by kernel_rfl) (fun w0 hS => (by kernel_rfl)) hT ?_
  try simp only [List.setIfInBounds_toArray, List.set_cons_zero, List.set_cons_succ]
  refine takeU 84 (i := 51) (v := .pointer (some ⟨b12, 8, none⟩)) rfl rfl rfl (by kernel_rfl) (by kernel_rfl) (by kernel_rfl) (by kernel_rfl) (fun _ _ _ h => h) (by kernel_rfl) (fun w0 hS => (exec_reg rfl b12 8 (by decide) rfl rfl _)) hT ?_
  try simp only [List.setIfInBounds_toArray, List.set_cons_zero, List.set_cons_succ]
  refine takeU 85 (i := 52) (v := .int .i64 (lo 8)) rfl rfl rfl (by kernel_rfl) (by kernel_rfl) (by kernel_rfl) (by kernel_rfl) (fun _ _ _ h => h) (by kernel_rfl) (fun w0 hS => (exec_cell 3 (.tmp 84) rfl ⟨b12, 8, none⟩ rfl _ _ ((hS.2.2.2.1).cell (j := 8) (by omega)) Tryd.underlying3 rfl)) hT ?_
  try simp only [List.setIfInBounds_toArray, List.set_cons_zero, List.set_cons_succ]
  refine takeU 86 (i := 53) (v := .pointer (some ⟨b8, 38, none⟩)) rfl rfl rfl (by kernel_rfl) (by kernel_rfl) (by kernel_rfl) (by kernel_rfl) (fun _ _ _ h => h) (by kernel_rfl) (fun w0 hS => (by kernel_rfl)) hT ?_
  try simp only [List.setIfInBounds_toArray, List.set_cons_zero, List.set_cons_succ]
  refine takeU 87 (i := 54) (v := .int .i64 (h 38)) rfl rfl rfl (by kernel_rfl) (by kernel_rfl) (by kernel_rfl) (by kernel_rfl) (fun _ _ _ h => h) (by kernel_rfl) (fun w0 hS => (exec_cell 3 (.tmp 86) rfl ⟨b8, 38, none⟩ rfl _ _ ((hS.1).cell (j := 38) (by omega)) Tryd.underlying3 rfl)) hT ?_
  try simp only [List.setIfInBounds_toArray, List.set_cons_zero, List.set_cons_succ]
  refine takeU 88 (i := 55) (v := .bool true) rfl rfl rfl (by kernel_rfl) (by kernel_rfl) (by kernel_rfl) (by kernel_rfl) (fun _ _ _ h => h) (by kernel_rfl) (fun w0 hS => (exec_eqI rfl rfl rfl (C5.out) w0)) hT ?_
  try simp only [List.setIfInBounds_toArray, List.set_cons_zero, List.set_cons_succ]
  refine takeU 89 (i := 56) (v := .bool true) rfl rfl rfl (by kernel_rfl) (by kernel_rfl) (by kernel_rfl) (by kernel_rfl) (fun _ _ _ h => h) (by kernel_rfl) (fun w0 hS => (by kernel_rfl)) hT ?_
  try simp only [List.setIfInBounds_toArray, List.set_cons_zero, List.set_cons_succ]
  refine takeU 90 (i := 57) (v := .bool true) rfl rfl rfl (by kernel_rfl) (by kernel_rfl) (by kernel_rfl) (by kernel_rfl) (fun _ _ _ h => h) (by kernel_rfl) (fun w0 hS => rfl) hT ?_
  try simp only [List.setIfInBounds_toArray, List.set_cons_zero, List.set_cons_succ]
  refine takeU 91 (i := 58) (v := hv lo) rfl rfl rfl (by kernel_rfl) (by kernel_rfl) (by kernel_rfl) (by kernel_rfl) (fun _ _ _ h => h) (by kernel_rfl) (fun w0 hS => (exec_row 28 (.tmp 12) rfl b12 rfl 28 (hC lo) (0, 0) _ hS.2.2.2.1 Tryd.underlying28 rfl (sz_hart _))) hT ?_
  try simp only [List.setIfInBounds_toArray, List.set_cons_zero, List.set_cons_succ]
  refine takeU 92 (i := 59) (v := .int .i64 p) rfl rfl rfl (by kernel_rfl) (by kernel_rfl) (by kernel_rfl) (by kernel_rfl) (fun _ _ _ h => h) (by kernel_rfl) (fun w0 hS => rfl) hT ?_
  try simp only [List.setIfInBounds_toArray, List.set_cons_zero, List.set_cons_succ]
  refine takeU 94 (i := 61) (v := .pointer (some ⟨b8, 33, none⟩)) rfl rfl rfl (by kernel_rfl) (by kernel_rfl) (by kernel_rfl) (by kernel_rfl) (fun _ _ _ h => h) (by kernel_rfl) (fun w0 hS => (by kernel_rfl)) hT ?_
  try simp only [List.setIfInBounds_toArray, List.set_cons_zero, List.set_cons_succ]
  refine takeU 95 (i := 62) (v := .int .i64 (h 33)) rfl rfl rfl (by kernel_rfl) (by kernel_rfl) (by kernel_rfl) (by kernel_rfl) (fun _ _ _ h => h) (by kernel_rfl) (fun w0 hS => (exec_cell 3 (.tmp 94) rfl ⟨b8, 33, none⟩ rfl _ _ ((hS.1).cell (j := 33) (by omega)) Tryd.underlying3 rfl)) hT ?_
  try simp only [List.setIfInBounds_toArray, List.set_cons_zero, List.set_cons_succ]
  refine takeU 96 (i := 63) (v := .int .i64 y8) rfl rfl rfl (by kernel_rfl) (by kernel_rfl) (by kernel_rfl) (by kernel_rfl) (fun _ _ _ h => h) (by kernel_rfl) (fun w0 hS => (exec_quo rfl rfl rfl (by decide) Y8.out w0)) hT ?_
  try simp only [List.setIfInBounds_toArray, List.set_cons_zero, List.set_cons_succ]
  refine takeU 97 (i := 64) (v := .int .i64 y2) rfl rfl rfl (by kernel_rfl) (by kernel_rfl) (by kernel_rfl) (by kernel_rfl) (fun _ _ _ h => h) (by kernel_rfl) (fun w0 hS => (exec_rem rfl rfl rfl (by decide) Y2.out w0)) hT ?_
  try simp only [List.setIfInBounds_toArray, List.set_cons_zero, List.set_cons_succ]
  refine takeU 98 (i := 65) (v := .bool true) rfl rfl rfl (by kernel_rfl) (by kernel_rfl) (by kernel_rfl) (by kernel_rfl) (fun _ _ _ h => h) (by kernel_rfl) (fun w0 hS => (exec_eqI rfl rfl rfl Y1.out w0)) hT ?_
  try simp only [List.setIfInBounds_toArray, List.set_cons_zero, List.set_cons_succ]
  refine callU 93 (i := 60) rfl rfl (by kernel_rfl) (by kernel_rfl) (f := 22) (args := #[hv lo, .int .i64 p]) (v := .bool r0) (by kernel_rfl) (lets_lit L4.out _) (fun w' hb => ⟨HXb8.out.bel hb, HXb9.out.bel hb, HXb10.out.bel hb, HXb12.out.bel hb, HXb11.out.bel hb⟩) ?_
  intro V24 hb
  try simp only [List.setIfInBounds_toArray, List.set_cons_zero, List.set_cons_succ]
  replace HB : Hid (Bel w V24) := Lib.hid (HB.out.trans hb)
  replace HXb8 : Hid (HAt V24 b8 h) := Lib.hid (HXb8.out.bel hb)
  replace HXb9 : Hid (HAt V24 b9 t) := Lib.hid (HXb9.out.bel hb)
  replace HXb10 : Hid (HAt V24 b10 b) := Lib.hid (HXb10.out.bel hb)
  replace HXb11 : Hid (EfAt V24 b11 e0) := Lib.hid (HXb11.out.bel hb)
  replace HXb12 : Hid (HAt V24 b12 lo) := Lib.hid (HXb12.out.bel hb)
  replace HXb13 : Hid (EfAt V24 b13 e0) := Lib.hid (HXb13.out.bel hb)
  clear hb hT
  have hT : HAt V24 b8 h ∧ HAt V24 b9 t ∧ HAt V24 b10 b ∧ HAt V24 b12 lo ∧ EfAt V24 b11 e0 := ⟨HXb8.out, HXb9.out, HXb10.out, HXb12.out, HXb11.out⟩
  refine takeU 99 (i := 66) (v := .bool true) rfl rfl rfl (by kernel_rfl) (by kernel_rfl) (by kernel_rfl) (by kernel_rfl) (fun _ _ _ h => h) (by kernel_rfl) (fun w0 hS => rfl) hT ?_
  try simp only [List.setIfInBounds_toArray, List.set_cons_zero, List.set_cons_succ]
  refine takeU 100 (i := 67) (v := .int .i64 p) rfl rfl rfl (by kernel_rfl) (by kernel_rfl) (by kernel_rfl) (by kernel_rfl) (fun _ _ _ h => h) (by kernel_rfl) (fun w0 hS => rfl) hT ?_
  try simp only [List.setIfInBounds_toArray, List.set_cons_zero, List.set_cons_succ]
  refine takeU 101 (i := 68) (v := .bool r0) rfl rfl rfl (by kernel_rfl) (by kernel_rfl) (by kernel_rfl) (by kernel_rfl) (fun _ _ _ h => h) (by kernel_rfl) (fun w0 hS => (exec_gtr rfl rfl rfl G0.out w0)) hT ?_
  try simp only [List.setIfInBounds_toArray, List.set_cons_zero, List.set_cons_succ]
  refine takeU 102 (i := 69) (v := .bool r0) rfl rfl rfl (by kernel_rfl) (by kernel_rfl) (by kernel_rfl) (by kernel_rfl) (fun _ _ _ h => h) (by kernel_rfl) (fun w0 hS => (by kernel_rfl)) hT ?_
  try simp only [List.setIfInBounds_toArray, List.set_cons_zero, List.set_cons_succ]
  refine takeU 103 (i := 70) (v := .bool true) rfl rfl rfl (by kernel_rfl) (by kernel_rfl) (by kernel_rfl) (by kernel_rfl) (fun _ _ _ h => h) (by kernel_rfl) (fun w0 hS => (exec_eqB rfl rfl rfl rfl w0)) hT ?_
  try simp only [List.setIfInBounds_toArray, List.set_cons_zero, List.set_cons_succ]
  refine takeU 104 (i := 71) (v := .bool true) rfl rfl rfl (by kernel_rfl) (by kernel_rfl) (by kernel_rfl) (by kernel_rfl) (fun _ _ _ h => h) (by kernel_rfl) (fun w0 hS => (by kernel_rfl)) hT ?_
  try simp only [List.setIfInBounds_toArray, List.set_cons_zero, List.set_cons_succ]
  refine pureU 6 (i := 72) rfl rfl (by kernel_rfl) (by kernel_rfl) (v := .bool true) rfl hT ?_
  try simp only [List.setIfInBounds_toArray, List.set_cons_zero, List.set_cons_succ]
  refine Upto.done (by kernel_rfl) ?_ _
  clear hT
  refine hK _ _ ?_
  clear hK K
  go_wp2
  go_ret
  exact ⟨rfl, HB.out⟩
theorem back_false (w : World) {P : Option Addr} {N C : Nat} {l : List Int} {c p m s1 z1 y8 y2 : Int} {h t b h7 lo : H} {r0 r1 : Bool} (hO : OpsAt w) (hn : l.length = N) (hL : IntsQ w P l) (hNC : N ≤ C) (HH : Hid (fitV l = h)) (M1 : Hid (wrap32 c = m)) (T1 : Hid (h 33 = s1)) (T2 : Hid (trapS s1 = z1))
    (T3 : Hid (up (up (up (up h 36 (h 32)) 37 m) 32 (h 34)) 33 z1 = t)) (S1 : Hid (stepV t 0 ⟨44, 0, 0, 0, 0⟩ = (b, e0))) (P1 : Hid (put h 7 0 = h7)) (S2 : Hid (stepV h7 0 ⟨40, 8, 7, 0, 1984⟩ = (lo, e0)))
    (Y8 : Hid (IntKind.i64.wrap ((h 33).tdiv 8) = y8)) (Y2 : Hid (y8.tmod 2 = y2)) (Y1 : Hid (y2 ≠ 1)) (G0 : Hid (decide (0 < p) = r0)) (C1 : Hid (t 32 = h 34)) (C2 : Hid (t 37 = m)) (C3 : Hid (b 32 = h 32)) (C4 : Hid (∀ k, k < 32 → b k = h k)) (C5 : Hid (lo 8 = h 38))
    (L1 : Hid ((decide (bits .and .i64 (t 33) 8 ≠ 0) && decide (t 38 < p)) = false)) (L2 : Hid ((decide (bits .and .i64 (b 33) 8 ≠ 0) && decide (b 38 < p)) = r1)) (L3 : Hid ((decide (bits .and .i64 (h 33) 8 ≠ 0) && decide (h 38 < p)) = r1)) (L4 : Hid ((decide (bits .and .i64 (lo 33) 8 ≠ 0) && decide (lo 38 < p)) = false)) :
    Calls Tryd.prog 6 #[.slice P N C, .int .i64 c, .int .i64 p] w (OneV (.bool true) w) := by
  have HO := Lib.hid hO
  have HN := Lib.hid hn
  have HL := Lib.hid hL
  have HNC := Lib.hid hNC
  clear hO hn hL hNC
  have Z0 : Hid (i64 0) := Lib.hid (by omega)
  have Z7 : Hid (i64 7) := Lib.hid (by omega)
  have Z8 : Hid (i64 8) := Lib.hid (by omega)
  have Z40 : Hid (i64 40) := Lib.hid (by omega)
  have Z44 : Hid (i64 44) := Lib.hid (by omega)
  have Z1984 : Hid (i64 1984) := Lib.hid (by omega)
  go_enter Tryd.func6, Tryd.ntmps6
  have HB : Hid (Bel w w) := Lib.hid (Bel.refl w)
  go_upto_region 1 with (fail)
  rename_i K hK
  refine wp_region_list ?_
  refine wpList_call rfl (f := 12) (args := #[]) (v := .bool true) (by kernel_rfl) (awake_any (HO.out.bel HB.out)) ?_
  intro V1 hb
  replace HB : Hid (Bel w V1) := Lib.hid (HB.out.trans hb)
  clear hb
  try simp only [Act.put, List.setIfInBounds_toArray, List.set_cons_zero, List.set_cons_succ]
  refine wpList_one rfl (w' := V1) (v := .bool true) rfl ?_
  try simp only [Act.put, List.setIfInBounds_toArray, List.set_cons_zero, List.set_cons_succ]
  refine wpList_nil ?_
  refine hK _ _ ?_
  clear hK K
  go_upto_region 2 with (fail)
  rename_i K hK
  refine wp_region_list ?_
  refine wpList_one rfl (w' := V1) (v := .slice P N C) rfl ?_
  try simp only [Act.put, List.setIfInBounds_toArray, List.set_cons_zero, List.set_cons_succ]
  refine wpList_call rfl (f := 13) (args := #[.slice P N C]) (v := hv h) (by kernel_rfl) (fit_lit14 HH.out HN.out (HL.out.bel HB.out) HNC.out) ?_
  intro V2 hb
  replace HB : Hid (Bel w V2) := Lib.hid (HB.out.trans hb)
  clear hb
  try simp only [Act.put, List.setIfInBounds_toArray, List.set_cons_zero, List.set_cons_succ]
  obtain ⟨hb, hx⟩ := box1 V2 hZ 28
  refine wpList_one rfl (w' := V2.alloc (.cells hZ 28)) (v := .pointer (some ⟨V2.heap.size, 0, none⟩)) (by kernel_rfl) ?_
  try simp only [Act.put, List.setIfInBounds_toArray, List.set_cons_zero, List.set_cons_succ]
  have hl := HB.out.size
  generalize V2.alloc (.cells hZ 28) = V3 at hb hx ⊢
  generalize V2.heap.size = b8 at hx hl ⊢
  have HG := Lib.hid hl
  clear hl
  replace HB : Hid (Bel w V3) := Lib.hid (HB.out.trans hb)
  have HXb8 : Hid (HAt V3 b8 (fun _ => 0)) := Lib.hid hx
  clear hb hx
  try simp only [Act.put, List.setIfInBounds_toArray, List.set_cons_zero, List.set_cons_succ]
  refine wpList_store_row rfl 28 (.tmp 8) (.tmp 16) rfl b8 (hC h) rfl rfl 28 (hC (fun _ => 0)) HXb8.out (sz_hart _) (by rw [hC_size, hC_size]) (hC_ones _) ?_
  have hn := row_same (cs := (hC h)) HXb8.out
  have hb := row_bel HB.out (g := b8) (by have := HG.out; omega) (hC h)
  generalize V3.setRow b8 (hC h) = V4 at hn hb  ⊢
  clear HB HXb8
  have HB : Hid (Bel w V4) := Lib.hid hb
  have HXb8 : Hid (HAt V4 b8 h) := Lib.hid hn
  clear hn hb 
  try simp only [Act.put, List.setIfInBounds_toArray, List.set_cons_zero, List.set_cons_succ]
  refine wpList_nil ?_
  refine hK _ _ ?_
  clear hK K
  go_upto_region 3 with (fail)
  rename_i K hK
  refine wp_region_list ?_
  refine wpList_load_row rfl 28 (.tmp 8) rfl b8 rfl 28 (hC h) (0, 0) _ HXb8.out Tryd.underlying28 rfl (sz_hart _) ?_
  try simp only [Act.put, List.setIfInBounds_toArray, List.set_cons_zero, List.set_cons_succ]
  refine wpList_one rfl (w' := V4) (v := .int .i64 c) rfl ?_
  try simp only [Act.put, List.setIfInBounds_toArray, List.set_cons_zero, List.set_cons_succ]
  refine wpList_call rfl (f := 20) (args := #[hv h, .int .i64 c]) (v := hv t) (by kernel_rfl) (trap_lit M1.out T1.out T2.out T3.out _) ?_
  intro V5 hb
  replace HB : Hid (Bel w V5) := Lib.hid (HB.out.trans hb)
  replace HXb8 : Hid (HAt V5 b8 h) := Lib.hid (HXb8.out.bel hb)
  clear hb
  try simp only [Act.put, List.setIfInBounds_toArray, List.set_cons_zero, List.set_cons_succ]
  obtain ⟨hb, hx⟩ := box1 V5 hZ 28
  refine wpList_one rfl (w' := V5.alloc (.cells hZ 28)) (v := .pointer (some ⟨V5.heap.size, 0, none⟩)) (by kernel_rfl) ?_
  try simp only [Act.put, List.setIfInBounds_toArray, List.set_cons_zero, List.set_cons_succ]
  have hl := lt_of_heap HXb8.out
  generalize V5.alloc (.cells hZ 28) = V6 at hb hx ⊢
  generalize V5.heap.size = b9 at hx hl ⊢
  have HG1 := Lib.hid hl
  clear hl
  replace HB : Hid (Bel w V6) := Lib.hid (HB.out.trans hb)
  replace HXb8 : Hid (HAt V6 b8 h) := Lib.hid (HXb8.out.bel hb)
  have HXb9 : Hid (HAt V6 b9 (fun _ => 0)) := Lib.hid hx
  clear hb hx
  try simp only [Act.put, List.setIfInBounds_toArray, List.set_cons_zero, List.set_cons_succ]
  refine wpList_store_row rfl 28 (.tmp 9) (.tmp 19) rfl b9 (hC t) rfl rfl 28 (hC (fun _ => 0)) HXb9.out (sz_hart _) (by rw [hC_size, hC_size]) (hC_ones _) ?_
  have hn := row_same (cs := (hC t)) HXb9.out
  have hb := row_bel HB.out (g := b9) (by have := HG.out; have := HG1.out; omega) (hC t)
  have hb8 := (setRow_other V6 b9 b8 (hC t) (by have := HG.out; have := HG1.out; omega)).trans HXb8.out
  generalize V6.setRow b9 (hC t) = V7 at hn hb hb8 ⊢
  clear HB HXb8 HXb9
  have HB : Hid (Bel w V7) := Lib.hid hb
  have HXb8 : Hid (HAt V7 b8 h) := Lib.hid hb8
  have HXb9 : Hid (HAt V7 b9 t) := Lib.hid hn
  clear hn hb hb8
  try simp only [Act.put, List.setIfInBounds_toArray, List.set_cons_zero, List.set_cons_succ]
  refine wpList_nil ?_
  refine hK _ _ ?_
  clear hK K
  go_upto_region 4 with (fail)
  rename_i K hK
  refine wp_region_list ?_
  refine wpList_load_row rfl 28 (.tmp 9) rfl b9 rfl 28 (hC t) (0, 0) _ HXb9.out Tryd.underlying28 rfl (sz_hart _) ?_
  try simp only [Act.put, List.setIfInBounds_toArray, List.set_cons_zero, List.set_cons_succ]
  refine wpList_one rfl (w' := V7) (v := iv 44 0 0 0 0) (by kernel_rfl) ?_
  try simp only [Act.put, List.setIfInBounds_toArray, List.set_cons_zero, List.set_cons_succ]
  refine wpList_call rfl (f := 16) (args := #[hv t, .int .i64 0, iv 44 0 0 0 0]) (v := .tuple #[hv b, .agg (eC e0)]) (by kernel_rfl) (st HO HB.out (wf5 Z44.out Z0.out Z0.out Z0.out Z0.out) S1.out) ?_
  intro V8 hb
  replace HB : Hid (Bel w V8) := Lib.hid (HB.out.trans hb)
  replace HXb8 : Hid (HAt V8 b8 h) := Lib.hid (HXb8.out.bel hb)
  replace HXb9 : Hid (HAt V8 b9 t) := Lib.hid (HXb9.out.bel hb)
  clear hb
  try simp only [Act.put, List.setIfInBounds_toArray, List.set_cons_zero, List.set_cons_succ]
  refine wpList_one rfl (w' := V8) (v := .tuple #[hv b, .agg (eC e0)]) rfl ?_
  try simp only [Act.put, List.setIfInBounds_toArray, List.set_cons_zero, List.set_cons_succ]
  refine wpList_one rfl (w' := V8) (v := hv b) rfl ?_
  try simp only [Act.put, List.setIfInBounds_toArray, List.set_cons_zero, List.set_cons_succ]
  refine wpList_one rfl (w' := V8) (v := .agg (eC e0)) rfl ?_
  try simp only [Act.put, List.setIfInBounds_toArray, List.set_cons_zero, List.set_cons_succ]
  obtain ⟨hb, hx⟩ := box1 V8 hZ 28
  refine wpList_one rfl (w' := V8.alloc (.cells hZ 28)) (v := .pointer (some ⟨V8.heap.size, 0, none⟩)) (by kernel_rfl) ?_
  try simp only [Act.put, List.setIfInBounds_toArray, List.set_cons_zero, List.set_cons_succ]
  have hl := lt_of_heap HXb9.out
  generalize V8.alloc (.cells hZ 28) = V9 at hb hx ⊢
  generalize V8.heap.size = b10 at hx hl ⊢
  have HG2 := Lib.hid hl
  clear hl
  replace HB : Hid (Bel w V9) := Lib.hid (HB.out.trans hb)
  replace HXb8 : Hid (HAt V9 b8 h) := Lib.hid (HXb8.out.bel hb)
  replace HXb9 : Hid (HAt V9 b9 t) := Lib.hid (HXb9.out.bel hb)
  have HXb10 : Hid (HAt V9 b10 (fun _ => 0)) := Lib.hid hx
  clear hb hx
  try simp only [Act.put, List.setIfInBounds_toArray, List.set_cons_zero, List.set_cons_succ]
  obtain ⟨hb, hx⟩ := box1 V9 (eC e0) 34
  refine wpList_one rfl (w' := V9.alloc (.cells (eC e0) 34)) (v := .pointer (some ⟨V9.heap.size, 0, none⟩)) (by kernel_rfl) ?_
  try simp only [Act.put, List.setIfInBounds_toArray, List.set_cons_zero, List.set_cons_succ]
  have hl := lt_of_heap HXb10.out
  generalize V9.alloc (.cells (eC e0) 34) = V10 at hb hx ⊢
  generalize V9.heap.size = b11 at hx hl ⊢
  have HG3 := Lib.hid hl
  clear hl
  replace HB : Hid (Bel w V10) := Lib.hid (HB.out.trans hb)
  replace HXb8 : Hid (HAt V10 b8 h) := Lib.hid (HXb8.out.bel hb)
  replace HXb9 : Hid (HAt V10 b9 t) := Lib.hid (HXb9.out.bel hb)
  replace HXb10 : Hid (HAt V10 b10 (fun _ => 0)) := Lib.hid (HXb10.out.bel hb)
  have HXb11 : Hid (EfAt V10 b11 e0) := Lib.hid hx
  clear hb hx
  try simp only [Act.put, List.setIfInBounds_toArray, List.set_cons_zero, List.set_cons_succ]
  refine wpList_store_row rfl 28 (.tmp 10) (.tmp 24) rfl b10 (hC b) rfl rfl 28 (hC (fun _ => 0)) HXb10.out (sz_hart _) (by rw [hC_size, hC_size]) (hC_ones _) ?_
  have hn := row_same (cs := (hC b)) HXb10.out
  have hb := row_bel HB.out (g := b10) (by have := HG.out; have := HG1.out; have := HG2.out; have := HG3.out; omega) (hC b)
  have hb8 := (setRow_other V10 b10 b8 (hC b) (by have := HG.out; have := HG1.out; have := HG2.out; have := HG3.out; omega)).trans HXb8.out
  have hb9 := (setRow_other V10 b10 b9 (hC b) (by have := HG.out; have := HG1.out; have := HG2.out; have := HG3.out; omega)).trans HXb9.out
  have hb11 := (setRow_other V10 b10 b11 (hC b) (by have := HG.out; have := HG1.out; have := HG2.out; have := HG3.out; omega)).trans HXb11.out
  generalize V10.setRow b10 (hC b) = V11 at hn hb hb8 hb9 hb11 ⊢
  clear HB HXb8 HXb9 HXb10 HXb11
  have HB : Hid (Bel w V11) := Lib.hid hb
  have HXb8 : Hid (HAt V11 b8 h) := Lib.hid hb8
  have HXb9 : Hid (HAt V11 b9 t) := Lib.hid hb9
  have HXb11 : Hid (EfAt V11 b11 e0) := Lib.hid hb11
  have HXb10 : Hid (HAt V11 b10 b) := Lib.hid hn
  clear hn hb hb8 hb9 hb11
  try simp only [Act.put, List.setIfInBounds_toArray, List.set_cons_zero, List.set_cons_succ]
  refine wpList_store_row rfl 34 (.tmp 11) (.tmp 25) rfl b11 (eC e0) rfl rfl 34 (eC e0) HXb11.out (sz_eff _) rfl (eC_ones _) ?_
  have hn := row_same (cs := (eC e0)) HXb11.out
  have hb := row_bel HB.out (g := b11) (by have := HG.out; have := HG1.out; have := HG2.out; have := HG3.out; omega) (eC e0)
  have hb8 := (setRow_other V11 b11 b8 (eC e0) (by have := HG.out; have := HG1.out; have := HG2.out; have := HG3.out; omega)).trans HXb8.out
  have hb9 := (setRow_other V11 b11 b9 (eC e0) (by have := HG.out; have := HG1.out; have := HG2.out; have := HG3.out; omega)).trans HXb9.out
  have hb10 := (setRow_other V11 b11 b10 (eC e0) (by have := HG.out; have := HG1.out; have := HG2.out; have := HG3.out; omega)).trans HXb10.out
  generalize V11.setRow b11 (eC e0) = V12 at hn hb hb8 hb9 hb10 ⊢
  clear HB HXb8 HXb9 HXb10 HXb11
  have HB : Hid (Bel w V12) := Lib.hid hb
  have HXb8 : Hid (HAt V12 b8 h) := Lib.hid hb8
  have HXb9 : Hid (HAt V12 b9 t) := Lib.hid hb9
  have HXb10 : Hid (HAt V12 b10 b) := Lib.hid hb10
  have HXb11 : Hid (EfAt V12 b11 e0) := Lib.hid hn
  clear hn hb hb8 hb9 hb10
  try simp only [Act.put, List.setIfInBounds_toArray, List.set_cons_zero, List.set_cons_succ]
  refine wpList_nil ?_
  refine hK _ _ ?_
  clear hK K
  go_upto_region 5 with (fail)
  rename_i K hK
  refine wp_region_list ?_
  refine wpList_load_row rfl 28 (.tmp 8) rfl b8 rfl 28 (hC h) (0, 0) _ HXb8.out Tryd.underlying28 rfl (sz_hart _) ?_
  try simp only [Act.put, List.setIfInBounds_toArray, List.set_cons_zero, List.set_cons_succ]
  refine wpList_call rfl (f := 18) (args := #[hv h, .int .i64 7, .int .i64 0]) (v := hv h7) (by kernel_rfl) (put_lit P1.out _) ?_
  intro V13 hb
  replace HB : Hid (Bel w V13) := Lib.hid (HB.out.trans hb)
  replace HXb8 : Hid (HAt V13 b8 h) := Lib.hid (HXb8.out.bel hb)
  replace HXb9 : Hid (HAt V13 b9 t) := Lib.hid (HXb9.out.bel hb)
  replace HXb10 : Hid (HAt V13 b10 b) := Lib.hid (HXb10.out.bel hb)
  replace HXb11 : Hid (EfAt V13 b11 e0) := Lib.hid (HXb11.out.bel hb)
  clear hb
  try simp only [Act.put, List.setIfInBounds_toArray, List.set_cons_zero, List.set_cons_succ]
  refine wpList_one rfl (w' := V13) (v := iv 40 8 7 0 1984) (by kernel_rfl) ?_
  try simp only [Act.put, List.setIfInBounds_toArray, List.set_cons_zero, List.set_cons_succ]
  refine wpList_call rfl (f := 16) (args := #[hv h7, .int .i64 0, iv 40 8 7 0 1984]) (v := .tuple #[hv lo, .agg (eC e0)]) (by kernel_rfl) (st HO HB.out (wf5 Z40.out Z8.out Z7.out Z0.out Z1984.out) S2.out) ?_
  intro V14 hb
  replace HB : Hid (Bel w V14) := Lib.hid (HB.out.trans hb)
  replace HXb8 : Hid (HAt V14 b8 h) := Lib.hid (HXb8.out.bel hb)
  replace HXb9 : Hid (HAt V14 b9 t) := Lib.hid (HXb9.out.bel hb)
  replace HXb10 : Hid (HAt V14 b10 b) := Lib.hid (HXb10.out.bel hb)
  replace HXb11 : Hid (EfAt V14 b11 e0) := Lib.hid (HXb11.out.bel hb)
  clear hb
  try simp only [Act.put, List.setIfInBounds_toArray, List.set_cons_zero, List.set_cons_succ]
  refine wpList_one rfl (w' := V14) (v := .tuple #[hv lo, .agg (eC e0)]) rfl ?_
  try simp only [Act.put, List.setIfInBounds_toArray, List.set_cons_zero, List.set_cons_succ]
  refine wpList_one rfl (w' := V14) (v := hv lo) rfl ?_
  try simp only [Act.put, List.setIfInBounds_toArray, List.set_cons_zero, List.set_cons_succ]
  refine wpList_one rfl (w' := V14) (v := .agg (eC e0)) rfl ?_
  try simp only [Act.put, List.setIfInBounds_toArray, List.set_cons_zero, List.set_cons_succ]
  obtain ⟨hb, hx⟩ := box1 V14 hZ 28
  refine wpList_one rfl (w' := V14.alloc (.cells hZ 28)) (v := .pointer (some ⟨V14.heap.size, 0, none⟩)) (by kernel_rfl) ?_
  try simp only [Act.put, List.setIfInBounds_toArray, List.set_cons_zero, List.set_cons_succ]
  have hl := lt_of_heap HXb11.out
  generalize V14.alloc (.cells hZ 28) = V15 at hb hx ⊢
  generalize V14.heap.size = b12 at hx hl ⊢
  have HG4 := Lib.hid hl
  clear hl
  replace HB : Hid (Bel w V15) := Lib.hid (HB.out.trans hb)
  replace HXb8 : Hid (HAt V15 b8 h) := Lib.hid (HXb8.out.bel hb)
  replace HXb9 : Hid (HAt V15 b9 t) := Lib.hid (HXb9.out.bel hb)
  replace HXb10 : Hid (HAt V15 b10 b) := Lib.hid (HXb10.out.bel hb)
  replace HXb11 : Hid (EfAt V15 b11 e0) := Lib.hid (HXb11.out.bel hb)
  have HXb12 : Hid (HAt V15 b12 (fun _ => 0)) := Lib.hid hx
  clear hb hx
  try simp only [Act.put, List.setIfInBounds_toArray, List.set_cons_zero, List.set_cons_succ]
  obtain ⟨hb, hx⟩ := box1 V15 (eC e0) 34
  refine wpList_one rfl (w' := V15.alloc (.cells (eC e0) 34)) (v := .pointer (some ⟨V15.heap.size, 0, none⟩)) (by kernel_rfl) ?_
  try simp only [Act.put, List.setIfInBounds_toArray, List.set_cons_zero, List.set_cons_succ]
  have hl := lt_of_heap HXb12.out
  generalize V15.alloc (.cells (eC e0) 34) = V16 at hb hx ⊢
  generalize V15.heap.size = b13 at hx hl ⊢
  have HG5 := Lib.hid hl
  clear hl
  replace HB : Hid (Bel w V16) := Lib.hid (HB.out.trans hb)
  replace HXb8 : Hid (HAt V16 b8 h) := Lib.hid (HXb8.out.bel hb)
  replace HXb9 : Hid (HAt V16 b9 t) := Lib.hid (HXb9.out.bel hb)
  replace HXb10 : Hid (HAt V16 b10 b) := Lib.hid (HXb10.out.bel hb)
  replace HXb11 : Hid (EfAt V16 b11 e0) := Lib.hid (HXb11.out.bel hb)
  replace HXb12 : Hid (HAt V16 b12 (fun _ => 0)) := Lib.hid (HXb12.out.bel hb)
  have HXb13 : Hid (EfAt V16 b13 e0) := Lib.hid hx
  clear hb hx
  try simp only [Act.put, List.setIfInBounds_toArray, List.set_cons_zero, List.set_cons_succ]
  refine wpList_store_row rfl 28 (.tmp 12) (.tmp 31) rfl b12 (hC lo) rfl rfl 28 (hC (fun _ => 0)) HXb12.out (sz_hart _) (by rw [hC_size, hC_size]) (hC_ones _) ?_
  have hn := row_same (cs := (hC lo)) HXb12.out
  have hb := row_bel HB.out (g := b12) (by have := HG.out; have := HG1.out; have := HG2.out; have := HG3.out; have := HG4.out; have := HG5.out; omega) (hC lo)
  have hb8 := (setRow_other V16 b12 b8 (hC lo) (by have := HG.out; have := HG1.out; have := HG2.out; have := HG3.out; have := HG4.out; have := HG5.out; omega)).trans HXb8.out
  have hb9 := (setRow_other V16 b12 b9 (hC lo) (by have := HG.out; have := HG1.out; have := HG2.out; have := HG3.out; have := HG4.out; have := HG5.out; omega)).trans HXb9.out
  have hb10 := (setRow_other V16 b12 b10 (hC lo) (by have := HG.out; have := HG1.out; have := HG2.out; have := HG3.out; have := HG4.out; have := HG5.out; omega)).trans HXb10.out
  have hb11 := (setRow_other V16 b12 b11 (hC lo) (by have := HG.out; have := HG1.out; have := HG2.out; have := HG3.out; have := HG4.out; have := HG5.out; omega)).trans HXb11.out
  have hb13 := (setRow_other V16 b12 b13 (hC lo) (by have := HG.out; have := HG1.out; have := HG2.out; have := HG3.out; have := HG4.out; have := HG5.out; omega)).trans HXb13.out
  generalize V16.setRow b12 (hC lo) = V17 at hn hb hb8 hb9 hb10 hb11 hb13 ⊢
  clear HB HXb8 HXb9 HXb10 HXb11 HXb12 HXb13
  have HB : Hid (Bel w V17) := Lib.hid hb
  have HXb8 : Hid (HAt V17 b8 h) := Lib.hid hb8
  have HXb9 : Hid (HAt V17 b9 t) := Lib.hid hb9
  have HXb10 : Hid (HAt V17 b10 b) := Lib.hid hb10
  have HXb11 : Hid (EfAt V17 b11 e0) := Lib.hid hb11
  have HXb13 : Hid (EfAt V17 b13 e0) := Lib.hid hb13
  have HXb12 : Hid (HAt V17 b12 lo) := Lib.hid hn
  clear hn hb hb8 hb9 hb10 hb11 hb13
  try simp only [Act.put, List.setIfInBounds_toArray, List.set_cons_zero, List.set_cons_succ]
  refine wpList_store_row rfl 34 (.tmp 13) (.tmp 32) rfl b13 (eC e0) rfl rfl 34 (eC e0) HXb13.out (sz_eff _) rfl (eC_ones _) ?_
  have hn := row_same (cs := (eC e0)) HXb13.out
  have hb := row_bel HB.out (g := b13) (by have := HG.out; have := HG1.out; have := HG2.out; have := HG3.out; have := HG4.out; have := HG5.out; omega) (eC e0)
  have hb8 := (setRow_other V17 b13 b8 (eC e0) (by have := HG.out; have := HG1.out; have := HG2.out; have := HG3.out; have := HG4.out; have := HG5.out; omega)).trans HXb8.out
  have hb9 := (setRow_other V17 b13 b9 (eC e0) (by have := HG.out; have := HG1.out; have := HG2.out; have := HG3.out; have := HG4.out; have := HG5.out; omega)).trans HXb9.out
  have hb10 := (setRow_other V17 b13 b10 (eC e0) (by have := HG.out; have := HG1.out; have := HG2.out; have := HG3.out; have := HG4.out; have := HG5.out; omega)).trans HXb10.out
  have hb11 := (setRow_other V17 b13 b11 (eC e0) (by have := HG.out; have := HG1.out; have := HG2.out; have := HG3.out; have := HG4.out; have := HG5.out; omega)).trans HXb11.out
  have hb12 := (setRow_other V17 b13 b12 (eC e0) (by have := HG.out; have := HG1.out; have := HG2.out; have := HG3.out; have := HG4.out; have := HG5.out; omega)).trans HXb12.out
  generalize V17.setRow b13 (eC e0) = V18 at hn hb hb8 hb9 hb10 hb11 hb12 ⊢
  clear HB HXb8 HXb9 HXb10 HXb11 HXb12 HXb13
  have HB : Hid (Bel w V18) := Lib.hid hb
  have HXb8 : Hid (HAt V18 b8 h) := Lib.hid hb8
  have HXb9 : Hid (HAt V18 b9 t) := Lib.hid hb9
  have HXb10 : Hid (HAt V18 b10 b) := Lib.hid hb10
  have HXb11 : Hid (EfAt V18 b11 e0) := Lib.hid hb11
  have HXb12 : Hid (HAt V18 b12 lo) := Lib.hid hb12
  have HXb13 : Hid (EfAt V18 b13 e0) := Lib.hid hn
  clear hn hb hb8 hb9 hb10 hb11 hb12
  try simp only [Act.put, List.setIfInBounds_toArray, List.set_cons_zero, List.set_cons_succ]
  refine wpList_nil ?_
  refine hK _ _ ?_
  clear hK K
  go_upto_region 6 with (fail)
  rename_i K hK
  refine Upto.begin (z := 72) (T := fun w' => HAt w' b8 h ∧ HAt w' b9 t ∧ HAt w' b10 b ∧ HAt w' b12 lo ∧ EfAt w' b11 e0) (by kernel_rfl) ?_
  have hb : Bel V18 V18.drew := (Bel.refl V18).drew
  generalize V18.drew = V19 at hb ⊢
  replace HB : Hid (Bel w V19) := Lib.hid (HB.out.trans hb)
  replace HXb8 : Hid (HAt V19 b8 h) := Lib.hid (HXb8.out.bel hb)
  replace HXb9 : Hid (HAt V19 b9 t) := Lib.hid (HXb9.out.bel hb)
  replace HXb10 : Hid (HAt V19 b10 b) := Lib.hid (HXb10.out.bel hb)
  replace HXb11 : Hid (EfAt V19 b11 e0) := Lib.hid (HXb11.out.bel hb)
  replace HXb12 : Hid (HAt V19 b12 lo) := Lib.hid (HXb12.out.bel hb)
  replace HXb13 : Hid (EfAt V19 b13 e0) := Lib.hid (HXb13.out.bel hb)
  clear hb
  have hT : HAt V19 b8 h ∧ HAt V19 b9 t ∧ HAt V19 b10 b ∧ HAt V19 b12 lo ∧ EfAt V19 b11 e0 := ⟨HXb8.out, HXb9.out, HXb10.out, HXb12.out, HXb11.out⟩
  refine takeU 33 (i := 0) (v := .bool true) rfl rfl rfl (by kernel_rfl) (by kernel_rfl) (by kernel_rfl) (by kernel_rfl) (fun _ _ _ h => h) (by kernel_rfl) (fun w0 hS => rfl) hT ?_
  try simp only [List.setIfInBounds_toArray, List.set_cons_zero, List.set_cons_succ]
  refine takeU 34 (i := 1) (v := .bool true) rfl rfl rfl (by kernel_rfl) (by kernel_rfl) (by kernel_rfl) (by kernel_rfl) (fun _ _ _ h => h) (by kernel_rfl) (fun w0 hS => rfl) hT ?_
  try simp only [List.setIfInBounds_toArray, List.set_cons_zero, List.set_cons_succ]
  refine takeU 35 (i := 2) (v := .agg (eC e0)) rfl rfl rfl (by kernel_rfl) (by kernel_rfl) (by kernel_rfl) (by kernel_rfl) (fun _ _ _ h => h) (by kernel_rfl) (fun w0 hS => (exec_row 34 (.tmp 11) rfl b11 rfl 34 (eC e0) (0, 0) _ hS.2.2.2.2 Tryd.underlying34 rfl (sz_eff _))) hT ?_
  try simp only [List.setIfInBounds_toArray, List.set_cons_zero, List.set_cons_succ]
  refine takeU 36 (i := 3) (v := .agg (eC e0)) rfl rfl rfl (by kernel_rfl) (by kernel_rfl) (by kernel_rfl) (by kernel_rfl) (fun _ _ _ h => h) (by kernel_rfl) (fun w0 hS => (by kernel_rfl)) hT ?_
  try simp only [List.setIfInBounds_toArray, List.set_cons_zero, List.set_cons_succ]
  refine takeU 37 (i := 4) (v := .bool true) rfl rfl rfl (by kernel_rfl) (by kernel_rfl) (by kernel_rfl) (by kernel_rfl) (fun _ _ _ h => h) (by kernel_rfl) (fun w0 hS => (exec_eqE rfl rfl rfl (rfl) w0)) hT ?_
  try simp only [List.setIfInBounds_toArray, List.set_cons_zero, List.set_cons_succ]
  refine takeU 38 (i := 5) (v := .bool true) rfl rfl rfl (by kernel_rfl) (by kernel_rfl) (by kernel_rfl) (by kernel_rfl) (fun _ _ _ h => h) (by kernel_rfl) (fun w0 hS => (by kernel_rfl)) hT ?_
  try simp only [List.setIfInBounds_toArray, List.set_cons_zero, List.set_cons_succ]
  refine takeU 39 (i := 6) (v := .bool true) rfl rfl rfl (by kernel_rfl) (by kernel_rfl) (by kernel_rfl) (by kernel_rfl) (fun _ _ _ h => h) (by kernel_rfl) (fun w0 hS => rfl) hT ?_
  try simp only [List.setIfInBounds_toArray, List.set_cons_zero, List.set_cons_succ]
  refine takeU 40 (i := 7) (v := .pointer (some ⟨b9, 32, none⟩)) rfl rfl rfl (by kernel_rfl) (by kernel_rfl) (by kernel_rfl) (by kernel_rfl) (fun _ _ _ h => h) (by kernel_rfl) (fun w0 hS => (by kernel_rfl)) hT ?_
  try simp only [List.setIfInBounds_toArray, List.set_cons_zero, List.set_cons_succ]
  refine takeU 41 (i := 8) (v := .int .i64 (t 32)) rfl rfl rfl (by kernel_rfl) (by kernel_rfl) (by kernel_rfl) (by kernel_rfl) (fun _ _ _ h => h) (by kernel_rfl) (fun w0 hS => (exec_cell 3 (.tmp 40) rfl ⟨b9, 32, none⟩ rfl _ _ ((hS.2.1).cell (j := 32) (by omega)) Tryd.underlying3 rfl)) hT ?_
  try simp only [List.setIfInBounds_toArray, List.set_cons_zero, List.set_cons_succ]
  refine takeU 42 (i := 9) (v := .pointer (some ⟨b8, 34, none⟩)) rfl rfl rfl (by kernel_rfl) (by kernel_rfl) (by kernel_rfl) (by kernel_rfl) (fun _ _ _ h => h) (by kernel_rfl) (fun w0 hS => (by kernel_rfl)) hT ?_
  try simp only [List.setIfInBounds_toArray, List.set_cons_zero, List.set_cons_succ]
  refine takeU 43 (i := 10) (v := .int .i64 (h 34)) rfl rfl rfl (by kernel_rfl) (by kernel_rfl) (by kernel_rfl) (by kernel_rfl) (fun _ _ _ h => h) (by kernel_rfl) (fun w0 hS => (exec_cell 3 (.tmp 42) rfl ⟨b8, 34, none⟩ rfl _ _ ((hS.1).cell (j := 34) (by omega)) Tryd.underlying3 rfl)) hT ?_
  try simp only [List.setIfInBounds_toArray, List.set_cons_zero, List.set_cons_succ]
  refine takeU 44 (i := 11) (v := .bool true) rfl rfl rfl (by kernel_rfl) (by kernel_rfl) (by kernel_rfl) (by kernel_rfl) (fun _ _ _ h => h) (by kernel_rfl) (fun w0 hS => (exec_eqI rfl rfl rfl (C1.out) w0)) hT ?_
  try simp only [List.setIfInBounds_toArray, List.set_cons_zero, List.set_cons_succ]
  refine takeU 45 (i := 12) (v := .bool true) rfl rfl rfl (by kernel_rfl) (by kernel_rfl) (by kernel_rfl) (by kernel_rfl) (fun _ _ _ h => h) (by kernel_rfl) (fun w0 hS => (by kernel_rfl)) hT ?_
  try simp only [List.setIfInBounds_toArray, List.set_cons_zero, List.set_cons_succ]
  refine takeU 46 (i := 13) (v := .bool true) rfl rfl rfl (by kernel_rfl) (by kernel_rfl) (by kernel_rfl) (by kernel_rfl) (fun _ _ _ h => h) (by kernel_rfl) (fun w0 hS => rfl) hT ?_
  try simp only [List.setIfInBounds_toArray, List.set_cons_zero, List.set_cons_succ]
  refine takeU 47 (i := 14) (v := .pointer (some ⟨b9, 37, none⟩)) rfl rfl rfl (by kernel_rfl) (by kernel_rfl) (by kernel_rfl) (by kernel_rfl) (fun _ _ _ h => h) (by kernel_rfl) (fun w0 hS => (by kernel_rfl)) hT ?_
  try simp only [List.setIfInBounds_toArray, List.set_cons_zero, List.set_cons_succ]
  refine takeU 48 (i := 15) (v := .int .i64 (t 37)) rfl rfl rfl (by kernel_rfl) (by kernel_rfl) (by kernel_rfl) (by kernel_rfl) (fun _ _ _ h => h) (by kernel_rfl) (fun w0 hS => (exec_cell 3 (.tmp 47) rfl ⟨b9, 37, none⟩ rfl _ _ ((hS.2.1).cell (j := 37) (by omega)) Tryd.underlying3 rfl)) hT ?_
  try simp only [List.setIfInBounds_toArray, List.set_cons_zero, List.set_cons_succ]
  refine takeU 49 (i := 16) (v := .int .i64 c) rfl rfl rfl (by kernel_rfl) (by kernel_rfl) (by kernel_rfl) (by kernel_rfl) (fun _ _ _ h => h) (by kernel_rfl) (fun w0 hS => rfl) hT ?_
  try simp only [List.setIfInBounds_toArray, List.set_cons_zero, List.set_cons_succ]
  refine callU 50 (i := 17) rfl rfl (by kernel_rfl) (by kernel_rfl) (f := 27) (args := #[.int .i64 c]) (v := .int .i64 m) (by kernel_rfl) (wl M1.out _) (fun w' hb => ⟨HXb8.out.bel hb, HXb9.out.bel hb, HXb10.out.bel hb, HXb12.out.bel hb, HXb11.out.bel hb⟩) ?_
  intro V20 hb
  try simp only [List.setIfInBounds_toArray, List.set_cons_zero, List.set_cons_succ]
  replace HB : Hid (Bel w V20) := Lib.hid (HB.out.trans hb)
  replace HXb8 : Hid (HAt V20 b8 h) := Lib.hid (HXb8.out.bel hb)
  replace HXb9 : Hid (HAt V20 b9 t) := Lib.hid (HXb9.out.bel hb)
  replace HXb10 : Hid (HAt V20 b10 b) := Lib.hid (HXb10.out.bel hb)
  replace HXb11 : Hid (EfAt V20 b11 e0) := Lib.hid (HXb11.out.bel hb)
  replace HXb12 : Hid (HAt V20 b12 lo) := Lib.hid (HXb12.out.bel hb)
  replace HXb13 : Hid (EfAt V20 b13 e0) := Lib.hid (HXb13.out.bel hb)
  clear hb hT
  have hT : HAt V20 b8 h ∧ HAt V20 b9 t ∧ HAt V20 b10 b ∧ HAt V20 b12 lo ∧ EfAt V20 b11 e0 := ⟨HXb8.out, HXb9.out, HXb10.out, HXb12.out, HXb11.out⟩
  refine takeU 51 (i := 18) (v := .bool true) rfl rfl rfl (by kernel_rfl) (by kernel_rfl) (by kernel_rfl) (by kernel_rfl) (fun _ _ _ h => h) (by kernel_rfl) (fun w0 hS => (exec_eqI rfl rfl rfl (C2.out) w0)) hT ?_
  try simp only [List.setIfInBounds_toArray, List.set_cons_zero, List.set_cons_succ]
  refine takeU 52 (i := 19) (v := .bool true) rfl rfl rfl (by kernel_rfl) (by kernel_rfl) (by kernel_rfl) (by kernel_rfl) (fun _ _ _ h => h) (by kernel_rfl) (fun w0 hS => (by kernel_rfl)) hT ?_
  try simp only [List.setIfInBounds_toArray, List.set_cons_zero, List.set_cons_succ]
  refine takeU 53 (i := 20) (v := .bool true) rfl rfl rfl (by kernel_rfl) (by kernel_rfl) (by kernel_rfl) (by kernel_rfl) (fun _ _ _ h => h) (by kernel_rfl) (fun w0 hS => rfl) hT ?_
  try simp only [List.setIfInBounds_toArray, List.set_cons_zero, List.set_cons_succ]
  refine takeU 54 (i := 21) (v := hv t) rfl rfl rfl (by kernel_rfl) (by kernel_rfl) (by kernel_rfl) (by kernel_rfl) (fun _ _ _ h => h) (by kernel_rfl) (fun w0 hS => (exec_row 28 (.tmp 9) rfl b9 rfl 28 (hC t) (0, 0) _ hS.2.1 Tryd.underlying28 rfl (sz_hart _))) hT ?_
  try simp only [List.setIfInBounds_toArray, List.set_cons_zero, List.set_cons_succ]
  refine takeU 55 (i := 22) (v := .int .i64 p) rfl rfl rfl (by kernel_rfl) (by kernel_rfl) (by kernel_rfl) (by kernel_rfl) (fun _ _ _ h => h) (by kernel_rfl) (fun w0 hS => rfl) hT ?_
  try simp only [List.setIfInBounds_toArray, List.set_cons_zero, List.set_cons_succ]
  refine callU 56 (i := 23) rfl rfl (by kernel_rfl) (by kernel_rfl) (f := 22) (args := #[hv t, .int .i64 p]) (v := .bool false) (by kernel_rfl) (lets_lit L1.out _) (fun w' hb => ⟨HXb8.out.bel hb, HXb9.out.bel hb, HXb10.out.bel hb, HXb12.out.bel hb, HXb11.out.bel hb⟩) ?_
  intro V21 hb
  try simp only [List.setIfInBounds_toArray, List.set_cons_zero, List.set_cons_succ]
  replace HB : Hid (Bel w V21) := Lib.hid (HB.out.trans hb)
  replace HXb8 : Hid (HAt V21 b8 h) := Lib.hid (HXb8.out.bel hb)
  replace HXb9 : Hid (HAt V21 b9 t) := Lib.hid (HXb9.out.bel hb)
  replace HXb10 : Hid (HAt V21 b10 b) := Lib.hid (HXb10.out.bel hb)
  replace HXb11 : Hid (EfAt V21 b11 e0) := Lib.hid (HXb11.out.bel hb)
  replace HXb12 : Hid (HAt V21 b12 lo) := Lib.hid (HXb12.out.bel hb)
  replace HXb13 : Hid (EfAt V21 b13 e0) := Lib.hid (HXb13.out.bel hb)
  clear hb hT
  have hT : HAt V21 b8 h ∧ HAt V21 b9 t ∧ HAt V21 b10 b ∧ HAt V21 b12 lo ∧ EfAt V21 b11 e0 := ⟨HXb8.out, HXb9.out, HXb10.out, HXb12.out, HXb11.out⟩
  refine takeU 57 (i := 24) (v := .bool true) rfl rfl rfl (by kernel_rfl) (by kernel_rfl) (by kernel_rfl) (by kernel_rfl) (fun _ _ _ h => h) (by kernel_rfl) (fun w0 hS => (exec_not (b := false) rfl rfl w0)) hT ?_
  try simp only [List.setIfInBounds_toArray, List.set_cons_zero, List.set_cons_succ]
  refine takeU 58 (i := 25) (v := .bool true) rfl rfl rfl (by kernel_rfl) (by kernel_rfl) (by kernel_rfl) (by kernel_rfl) (fun _ _ _ h => h) (by kernel_rfl) (fun w0 hS => (by kernel_rfl)) hT ?_
  try simp only [List.setIfInBounds_toArray, List.set_cons_zero, List.set_cons_succ]
  refine takeU 59 (i := 26) (v := .bool true) rfl rfl rfl (by kernel_rfl) (by kernel_rfl) (by kernel_rfl) (by kernel_rfl) (fun _ _ _ h => h) (by kernel_rfl) (fun w0 hS => rfl) hT ?_
  try simp only [List.setIfInBounds_toArray, List.set_cons_zero, List.set_cons_succ]
  refine takeU 60 (i := 27) (v := .pointer (some ⟨b10, 32, none⟩)) rfl rfl rfl (by kernel_rfl) (by kernel_rfl) (by kernel_rfl) (by kernel_rfl) (fun _ _ _ h => h) (by kernel_rfl) (fun w0 hS => (by kernel_rfl)) hT ?_
  try simp only [List.setIfInBounds_toArray, List.set_cons_zero, List.set_cons_succ]
  refine takeU 61 (i := 28) (v := .int .i64 (b 32)) rfl rfl rfl (by kernel_rfl) (by kernel_rfl) (by kernel_rfl) (by kernel_rfl) (fun _ _ _ h => h) (by kernel_rfl) (fun w0 hS => (exec_cell 3 (.tmp 60) rfl ⟨b10, 32, none⟩ rfl _ _ ((hS.2.2.1).cell (j := 32) (by omega)) Tryd.underlying3 rfl)) hT ?_
  try simp only [List.setIfInBounds_toArray, List.set_cons_zero, List.set_cons_succ]
  refine takeU 62 (i := 29) (v := .pointer (some ⟨b8, 32, none⟩)) rfl rfl rfl (by kernel_rfl) (by kernel_rfl) (by kernel_rfl) (by kernel_rfl) (fun _ _ _ h => h) (by kernel_rfl) (fun w0 hS => (by kernel_rfl)) hT ?_
  try simp only [List.setIfInBounds_toArray, List.set_cons_zero, List.set_cons_succ]
  refine takeU 63 (i := 30) (v := .int .i64 (h 32)) rfl rfl rfl (by kernel_rfl) (by kernel_rfl) (by kernel_rfl) (by kernel_rfl) (fun _ _ _ h => h) (by kernel_rfl) (fun w0 hS => (exec_cell 3 (.tmp 62) rfl ⟨b8, 32, none⟩ rfl _ _ ((hS.1).cell (j := 32) (by omega)) Tryd.underlying3 rfl)) hT ?_
  try simp only [List.setIfInBounds_toArray, List.set_cons_zero, List.set_cons_succ]
  refine takeU 64 (i := 31) (v := .bool true) rfl rfl rfl (by kernel_rfl) (by kernel_rfl) (by kernel_rfl) (by kernel_rfl) (fun _ _ _ h => h) (by kernel_rfl) (fun w0 hS => (exec_eqI rfl rfl rfl (C3.out) w0)) hT ?_
  try simp only [List.setIfInBounds_toArray, List.set_cons_zero, List.set_cons_succ]
  refine takeU 65 (i := 32) (v := .bool true) rfl rfl rfl (by kernel_rfl) (by kernel_rfl) (by kernel_rfl) (by kernel_rfl) (fun _ _ _ h => h) (by kernel_rfl) (fun w0 hS => (by kernel_rfl)) hT ?_
  try simp only [List.setIfInBounds_toArray, List.set_cons_zero, List.set_cons_succ]
  refine takeU 66 (i := 33) (v := .bool true) rfl rfl rfl (by kernel_rfl) (by kernel_rfl) (by kernel_rfl) (by kernel_rfl) (fun _ _ _ h => h) (by kernel_rfl) (fun w0 hS => rfl) hT ?_
  try simp only [List.setIfInBounds_toArray, List.set_cons_zero, List.set_cons_succ]
  refine takeU 67 (i := 34) (v := hv b) rfl rfl rfl (by kernel_rfl) (by kernel_rfl) (by kernel_rfl) (by kernel_rfl) (fun _ _ _ h => h) (by kernel_rfl) (fun w0 hS => (exec_row 28 (.tmp 10) rfl b10 rfl 28 (hC b) (0, 0) _ hS.2.2.1 Tryd.underlying28 rfl (sz_hart _))) hT ?_
  try simp only [List.setIfInBounds_toArray, List.set_cons_zero, List.set_cons_succ]
  refine takeU 68 (i := 35) (v := .int .i64 p) rfl rfl rfl (by kernel_rfl) (by kernel_rfl) (by kernel_rfl) (by kernel_rfl) (fun _ _ _ h => h) (by kernel_rfl) (fun w0 hS => rfl) hT ?_
  try simp only [List.setIfInBounds_toArray, List.set_cons_zero, List.set_cons_succ]
  refine takeU 70 (i := 37) (v := hv h) rfl rfl rfl (by kernel_rfl) (by kernel_rfl) (by kernel_rfl) (by kernel_rfl) (fun _ _ _ h => h) (by kernel_rfl) (fun w0 hS => (exec_row 28 (.tmp 8) rfl b8 rfl 28 (hC h) (0, 0) _ hS.1 Tryd.underlying28 rfl (sz_hart _))) hT ?_
  try simp only [List.setIfInBounds_toArray, List.set_cons_zero, List.set_cons_succ]
  refine takeU 71 (i := 38) (v := .int .i64 p) rfl rfl rfl (by kernel_rfl) (by kernel_rfl) (by kernel_rfl) (by kernel_rfl) (fun _ _ _ h => h) (by kernel_rfl) (fun w0 hS => rfl) hT ?_
  try simp only [List.setIfInBounds_toArray, List.set_cons_zero, List.set_cons_succ]
  refine callU 69 (i := 36) rfl rfl (by kernel_rfl) (by kernel_rfl) (f := 22) (args := #[hv b, .int .i64 p]) (v := .bool r1) (by kernel_rfl) (lets_lit L2.out _) (fun w' hb => ⟨HXb8.out.bel hb, HXb9.out.bel hb, HXb10.out.bel hb, HXb12.out.bel hb, HXb11.out.bel hb⟩) ?_
  intro V22 hb
  try simp only [List.setIfInBounds_toArray, List.set_cons_zero, List.set_cons_succ]
  replace HB : Hid (Bel w V22) := Lib.hid (HB.out.trans hb)
  replace HXb8 : Hid (HAt V22 b8 h) := Lib.hid (HXb8.out.bel hb)
  replace HXb9 : Hid (HAt V22 b9 t) := Lib.hid (HXb9.out.bel hb)
  replace HXb10 : Hid (HAt V22 b10 b) := Lib.hid (HXb10.out.bel hb)
  replace HXb11 : Hid (EfAt V22 b11 e0) := Lib.hid (HXb11.out.bel hb)
  replace HXb12 : Hid (HAt V22 b12 lo) := Lib.hid (HXb12.out.bel hb)
  replace HXb13 : Hid (EfAt V22 b13 e0) := Lib.hid (HXb13.out.bel hb)
  clear hb hT
  have hT : HAt V22 b8 h ∧ HAt V22 b9 t ∧ HAt V22 b10 b ∧ HAt V22 b12 lo ∧ EfAt V22 b11 e0 := ⟨HXb8.out, HXb9.out, HXb10.out, HXb12.out, HXb11.out⟩
  refine callU 72 (i := 39) rfl rfl (by kernel_rfl) (by kernel_rfl) (f := 22) (args := #[hv h, .int .i64 p]) (v := .bool r1) (by kernel_rfl) (lets_lit L3.out _) (fun w' hb => ⟨HXb8.out.bel hb, HXb9.out.bel hb, HXb10.out.bel hb, HXb12.out.bel hb, HXb11.out.bel hb⟩) ?_
  intro V23 hb
  try simp only [List.setIfInBounds_toArray, List.set_cons_zero, List.set_cons_succ]
  replace HB : Hid (Bel w V23) := Lib.hid (HB.out.trans hb)
  replace HXb8 : Hid (HAt V23 b8 h) := Lib.hid (HXb8.out.bel hb)
  replace HXb9 : Hid (HAt V23 b9 t) := Lib.hid (HXb9.out.bel hb)
  replace HXb10 : Hid (HAt V23 b10 b) := Lib.hid (HXb10.out.bel hb)
  replace HXb11 : Hid (EfAt V23 b11 e0) := Lib.hid (HXb11.out.bel hb)
  replace HXb12 : Hid (HAt V23 b12 lo) := Lib.hid (HXb12.out.bel hb)
  replace HXb13 : Hid (EfAt V23 b13 e0) := Lib.hid (HXb13.out.bel hb)
  clear hb hT
  have hT : HAt V23 b8 h ∧ HAt V23 b9 t ∧ HAt V23 b10 b ∧ HAt V23 b12 lo ∧ EfAt V23 b11 e0 := ⟨HXb8.out, HXb9.out, HXb10.out, HXb12.out, HXb11.out⟩
  refine takeU 73 (i := 40) (v := .bool true) rfl rfl rfl (by kernel_rfl) (by kernel_rfl) (by kernel_rfl) (by kernel_rfl) (fun _ _ _ h => h) (by kernel_rfl) (fun w0 hS => (exec_eqB rfl rfl rfl rfl w0)) hT ?_
  try simp only [List.setIfInBounds_toArray, List.set_cons_zero, List.set_cons_succ]
  refine takeU 74 (i := 41) (v := .bool true) rfl rfl rfl (by kernel_rfl) (by kernel_rfl) (by kernel_rfl) (by kernel_rfl) (fun _ _ _ h => h) (by kernel_rfl) (fun w0 hS => (by kernel_rfl)) hT ?_
  try simp only [List.setIfInBounds_toArray, List.set_cons_zero, List.set_cons_succ]
  refine takeU 75 (i := 42) (v := .bool true) rfl rfl rfl (by kernel_rfl) (by kernel_rfl) (by kernel_rfl) (by kernel_rfl) (fun _ _ _ h => h) (by kernel_rfl) (fun w0 hS => rfl) hT ?_
  try simp only [List.setIfInBounds_toArray, List.set_cons_zero, List.set_cons_succ]
  refine takeU 76 (i := 43) (v := .pointer (some ⟨b10, 0, none⟩)) rfl rfl rfl (by kernel_rfl) (by kernel_rfl) (by kernel_rfl) (by kernel_rfl) (fun _ _ _ h => h) (by kernel_rfl) (fun w0 hS => (by kernel_rfl)) hT ?_
  try simp only [List.setIfInBounds_toArray, List.set_cons_zero, List.set_cons_succ]
  refine takeU 77 (i := 44) (v := rV b) rfl rfl rfl (by kernel_rfl) (by kernel_rfl) (by kernel_rfl) (by kernel_rfl) (fun _ _ _ h => h) (by kernel_rfl) (fun w0 hS => (exec_regs (.tmp 76) rfl b10 rfl hS.2.2.1)) hT ?_
  try simp only [List.setIfInBounds_toArray, List.set_cons_zero, List.set_cons_succ]
  refine takeU 78 (i := 45) (v := .pointer (some ⟨b8, 0, none⟩)) rfl rfl rfl (by kernel_rfl) (by kernel_rfl) (by kernel_rfl) (by kernel_rfl) (fun _ _ _ h => h) (by kernel_rfl) (fun w0 hS => (by kernel_rfl)) hT ?_
  try simp only [List.setIfInBounds_toArray, List.set_cons_zero, List.set_cons_succ]
  refine takeU 79 (i := 46) (v := rV h) rfl rfl rfl (by kernel_rfl) (by kernel_rfl) (by kernel_rfl) (by kernel_rfl) (fun _ _ _ h => h) (by kernel_rfl) (fun w0 hS => (exec_regs (.tmp 78) rfl b8 rfl hS.1)) hT ?_
  try simp only [List.setIfInBounds_toArray, List.set_cons_zero, List.set_cons_succ]
  refine takeU 80 (i := 47) (v := .bool true) rfl rfl rfl (by kernel_rfl) (by kernel_rfl) (by kernel_rfl) (by kernel_rfl) (fun _ _ _ h => h) (by kernel_rfl) (fun w0 hS => (exec_eqR rfl rfl rfl (C4.out) w0)) hT ?_
  try simp only [List.setIfInBounds_toArray, List.set_cons_zero, List.set_cons_succ]
  refine takeU 81 (i := 48) (v := .bool true) rfl rfl rfl (by kernel_rfl) (by kernel_rfl) (by kernel_rfl) (by kernel_rfl) (fun _ _ _ h => h) (by kernel_rfl) (fun w0 hS => (by kernel_rfl)) hT ?_
  try simp only [List.setIfInBounds_toArray, List.set_cons_zero, List.set_cons_succ]
  refine takeU 82 (i := 49) (v := .bool true) rfl rfl rfl (by kernel_rfl) (by kernel_rfl) (by kernel_rfl) (by kernel_rfl) (fun _ _ _ h => h) (by kernel_rfl) (fun w0 hS => rfl) hT ?_
  try simp only [List.setIfInBounds_toArray, List.set_cons_zero, List.set_cons_succ]
  refine takeU 83 (i := 50) (v := .pointer (some ⟨b12, 0, none⟩)) rfl rfl rfl (by kernel_rfl) (by kernel_rfl) (by kernel_rfl) (by kernel_rfl) (fun _ _ _ h => h) (by kernel_rfl) (fun w0 hS => (by kernel_rfl)) hT ?_
  try simp only [List.setIfInBounds_toArray, List.set_cons_zero, List.set_cons_succ]
  refine takeU 84 (i := 51) (v := .pointer (some ⟨b12, 8, none⟩)) rfl rfl rfl (by kernel_rfl) (by kernel_rfl) (by kernel_rfl) (by kernel_rfl) (fun _ _ _ h => h) (by kernel_rfl) (fun w0 hS => (exec_reg rfl b12 8 (by decide) rfl rfl _)) hT ?_
  try simp only [List.setIfInBounds_toArray, List.set_cons_zero, List.set_cons_succ]
  refine takeU 85 (i := 52) (v := .int .i64 (lo 8)) rfl rfl rfl (by kernel_rfl) (by kernel_rfl) (by kernel_rfl) (by kernel_rfl) (fun _ _ _ h => h) (by kernel_rfl) (fun w0 hS => (exec_cell 3 (.tmp 84) rfl ⟨b12, 8, none⟩ rfl _ _ ((hS.2.2.2.1).cell (j := 8) (by omega)) Tryd.underlying3 rfl)) hT ?_
  try simp only [List.setIfInBounds_toArray, List.set_cons_zero, List.set_cons_succ]
  refine takeU 86 (i := 53) (v := .pointer (some ⟨b8, 38, none⟩)) rfl rfl rfl (by kernel_rfl) (by kernel_rfl) (by kernel_rfl) (by kernel_rfl) (fun _ _ _ h => h) (by kernel_rfl) (fun w0 hS => (by kernel_rfl)) hT ?_
  try simp only [List.setIfInBounds_toArray, List.set_cons_zero, List.set_cons_succ]
  refine takeU 87 (i := 54) (v := .int .i64 (h 38)) rfl rfl rfl (by kernel_rfl) (by kernel_rfl) (by kernel_rfl) (by kernel_rfl) (fun _ _ _ h => h) (by kernel_rfl) (fun w0 hS => (exec_cell 3 (.tmp 86) rfl ⟨b8, 38, none⟩ rfl _ _ ((hS.1).cell (j := 38) (by omega)) Tryd.underlying3 rfl)) hT ?_
  try simp only [List.setIfInBounds_toArray, List.set_cons_zero, List.set_cons_succ]
  refine takeU 88 (i := 55) (v := .bool true) rfl rfl rfl (by kernel_rfl) (by kernel_rfl) (by kernel_rfl) (by kernel_rfl) (fun _ _ _ h => h) (by kernel_rfl) (fun w0 hS => (exec_eqI rfl rfl rfl (C5.out) w0)) hT ?_
  try simp only [List.setIfInBounds_toArray, List.set_cons_zero, List.set_cons_succ]
  refine takeU 89 (i := 56) (v := .bool true) rfl rfl rfl (by kernel_rfl) (by kernel_rfl) (by kernel_rfl) (by kernel_rfl) (fun _ _ _ h => h) (by kernel_rfl) (fun w0 hS => (by kernel_rfl)) hT ?_
  try simp only [List.setIfInBounds_toArray, List.set_cons_zero, List.set_cons_succ]
  refine takeU 90 (i := 57) (v := .bool true) rfl rfl rfl (by kernel_rfl) (by kernel_rfl) (by kernel_rfl) (by kernel_rfl) (fun _ _ _ h => h) (by kernel_rfl) (fun w0 hS => rfl) hT ?_
  try simp only [List.setIfInBounds_toArray, List.set_cons_zero, List.set_cons_succ]
  refine takeU 91 (i := 58) (v := hv lo) rfl rfl rfl (by kernel_rfl) (by kernel_rfl) (by kernel_rfl) (by kernel_rfl) (fun _ _ _ h => h) (by kernel_rfl) (fun w0 hS => (exec_row 28 (.tmp 12) rfl b12 rfl 28 (hC lo) (0, 0) _ hS.2.2.2.1 Tryd.underlying28 rfl (sz_hart _))) hT ?_
  try simp only [List.setIfInBounds_toArray, List.set_cons_zero, List.set_cons_succ]
  refine takeU 92 (i := 59) (v := .int .i64 p) rfl rfl rfl (by kernel_rfl) (by kernel_rfl) (by kernel_rfl) (by kernel_rfl) (fun _ _ _ h => h) (by kernel_rfl) (fun w0 hS => rfl) hT ?_
  try simp only [List.setIfInBounds_toArray, List.set_cons_zero, List.set_cons_succ]
  refine takeU 94 (i := 61) (v := .pointer (some ⟨b8, 33, none⟩)) rfl rfl rfl (by kernel_rfl) (by kernel_rfl) (by kernel_rfl) (by kernel_rfl) (fun _ _ _ h => h) (by kernel_rfl) (fun w0 hS => (by kernel_rfl)) hT ?_
  try simp only [List.setIfInBounds_toArray, List.set_cons_zero, List.set_cons_succ]
  refine takeU 95 (i := 62) (v := .int .i64 (h 33)) rfl rfl rfl (by kernel_rfl) (by kernel_rfl) (by kernel_rfl) (by kernel_rfl) (fun _ _ _ h => h) (by kernel_rfl) (fun w0 hS => (exec_cell 3 (.tmp 94) rfl ⟨b8, 33, none⟩ rfl _ _ ((hS.1).cell (j := 33) (by omega)) Tryd.underlying3 rfl)) hT ?_
  try simp only [List.setIfInBounds_toArray, List.set_cons_zero, List.set_cons_succ]
  refine takeU 96 (i := 63) (v := .int .i64 y8) rfl rfl rfl (by kernel_rfl) (by kernel_rfl) (by kernel_rfl) (by kernel_rfl) (fun _ _ _ h => h) (by kernel_rfl) (fun w0 hS => (exec_quo rfl rfl rfl (by decide) Y8.out w0)) hT ?_
  try simp only [List.setIfInBounds_toArray, List.set_cons_zero, List.set_cons_succ]
  refine takeU 97 (i := 64) (v := .int .i64 y2) rfl rfl rfl (by kernel_rfl) (by kernel_rfl) (by kernel_rfl) (by kernel_rfl) (fun _ _ _ h => h) (by kernel_rfl) (fun w0 hS => (exec_rem rfl rfl rfl (by decide) Y2.out w0)) hT ?_
  try simp only [List.setIfInBounds_toArray, List.set_cons_zero, List.set_cons_succ]
  refine takeU 98 (i := 65) (v := .bool false) rfl rfl rfl (by kernel_rfl) (by kernel_rfl) (by kernel_rfl) (by kernel_rfl) (fun _ _ _ h => h) (by kernel_rfl) (fun w0 hS => (exec_eqF rfl rfl rfl Y1.out w0)) hT ?_
  try simp only [List.setIfInBounds_toArray, List.set_cons_zero, List.set_cons_succ]
  refine callU 93 (i := 60) rfl rfl (by kernel_rfl) (by kernel_rfl) (f := 22) (args := #[hv lo, .int .i64 p]) (v := .bool false) (by kernel_rfl) (lets_lit L4.out _) (fun w' hb => ⟨HXb8.out.bel hb, HXb9.out.bel hb, HXb10.out.bel hb, HXb12.out.bel hb, HXb11.out.bel hb⟩) ?_
  intro V24 hb
  try simp only [List.setIfInBounds_toArray, List.set_cons_zero, List.set_cons_succ]
  replace HB : Hid (Bel w V24) := Lib.hid (HB.out.trans hb)
  replace HXb8 : Hid (HAt V24 b8 h) := Lib.hid (HXb8.out.bel hb)
  replace HXb9 : Hid (HAt V24 b9 t) := Lib.hid (HXb9.out.bel hb)
  replace HXb10 : Hid (HAt V24 b10 b) := Lib.hid (HXb10.out.bel hb)
  replace HXb11 : Hid (EfAt V24 b11 e0) := Lib.hid (HXb11.out.bel hb)
  replace HXb12 : Hid (HAt V24 b12 lo) := Lib.hid (HXb12.out.bel hb)
  replace HXb13 : Hid (EfAt V24 b13 e0) := Lib.hid (HXb13.out.bel hb)
  clear hb hT
  have hT : HAt V24 b8 h ∧ HAt V24 b9 t ∧ HAt V24 b10 b ∧ HAt V24 b12 lo ∧ EfAt V24 b11 e0 := ⟨HXb8.out, HXb9.out, HXb10.out, HXb12.out, HXb11.out⟩
  refine takeU 99 (i := 66) (v := .bool false) rfl rfl rfl (by kernel_rfl) (by kernel_rfl) (by kernel_rfl) (by kernel_rfl) (fun _ _ _ h => h) (by kernel_rfl) (fun w0 hS => rfl) hT ?_
  try simp only [List.setIfInBounds_toArray, List.set_cons_zero, List.set_cons_succ]
  refine skipU 100 (i := 67) rfl rfl rfl (by kernel_rfl) (by kernel_rfl) (by kernel_rfl) (by kernel_rfl) (fun _ _ _ h => h) (by kernel_rfl) hT ?_
  try simp only [List.setIfInBounds_toArray, List.set_cons_zero, List.set_cons_succ]
  refine skipU 101 (i := 68) rfl rfl rfl (by kernel_rfl) (by kernel_rfl) (by kernel_rfl) (by kernel_rfl) (fun _ _ _ h => h) (by kernel_rfl) hT ?_
  try simp only [List.setIfInBounds_toArray, List.set_cons_zero, List.set_cons_succ]
  refine takeU 102 (i := 69) (v := .bool false) rfl rfl rfl (by kernel_rfl) (by kernel_rfl) (by kernel_rfl) (by kernel_rfl) (fun _ _ _ h => h) (by kernel_rfl) (fun w0 hS => (by kernel_rfl)) hT ?_
  try simp only [List.setIfInBounds_toArray, List.set_cons_zero, List.set_cons_succ]
  refine takeU 103 (i := 70) (v := .bool true) rfl rfl rfl (by kernel_rfl) (by kernel_rfl) (by kernel_rfl) (by kernel_rfl) (fun _ _ _ h => h) (by kernel_rfl) (fun w0 hS => (exec_eqB rfl rfl rfl rfl w0)) hT ?_
  try simp only [List.setIfInBounds_toArray, List.set_cons_zero, List.set_cons_succ]
  refine takeU 104 (i := 71) (v := .bool true) rfl rfl rfl (by kernel_rfl) (by kernel_rfl) (by kernel_rfl) (by kernel_rfl) (fun _ _ _ h => h) (by kernel_rfl) (fun w0 hS => (by kernel_rfl)) hT ?_
  try simp only [List.setIfInBounds_toArray, List.set_cons_zero, List.set_cons_succ]
  refine pureU 6 (i := 72) rfl rfl (by kernel_rfl) (by kernel_rfl) (v := .bool true) rfl hT ?_
  try simp only [List.setIfInBounds_toArray, List.set_cons_zero, List.set_cons_succ]
  refine Upto.done (by kernel_rfl) ?_ _
  clear hT
  refine hK _ _ ?_
  clear hK K
  go_wp2
  go_ret
  exact ⟨rfl, HB.out⟩
theorem r_mret : Rv.right ⟨44, 0, 0, 0, 0⟩ = true := by decide +kernel
theorem r_lvl : Rv.right ⟨40, 8, 7, 0, 1984⟩ = true := by decide +kernel
theorem back_any (w : World) {P : Option Addr} {N C : Nat} {l : List Int} {c p : Int} (hO : OpsAt w) (hn : l.length = N) (hL : IntsQ w P l) (hNC : N ≤ C) :
    Calls Tryd.prog 6 #[.slice P N C, .int .i64 c, .int .i64 p] w (OneV (.bool true) w) := by
  obtain ⟨h, hh⟩ : ∃ h, fitV l = h := ⟨_, rfl⟩
  have fine : Fine h := hh ▸ fit_fine l
  have sts : ∀ {q : Bool} {s : Int}, h 33 = s → decide (bits .and .i64 s 8 ≠ 0) = q → bits .and .i64 (trapS s) 8 = 0 → decide (bits .and .i64 (backS (trapS s)) 8 ≠ 0) = q → (q = true → (IntKind.i64.wrap (s.tdiv 8)).tmod 2 = 1) → (q = false → (IntKind.i64.wrap (s.tdiv 8)).tmod 2 ≠ 1) →
      Calls Tryd.prog 6 #[.slice P N C, .int .i64 c, .int .i64 p] w (OneV (.bool true) w) := by
    intro q s hs hq h1 h2 h3 h4
    have e0' : (put h 7 0) 7 = 0 := by show wrap32 0 = 0; decide +kernel
    have l33 : (Ht.go (put (up (put h 7 0) 38 (bits .and .i64 0 (-1))) 8 ((put h 7 0) 38)) 4) 33 = h 33 := rfl
    have l38 : (Ht.go (put (up (put h 7 0) 38 (bits .and .i64 0 (-1))) 8 ((put h 7 0) 38)) 4) 38 = 0 := by
      show bits .and .i64 0 (-1) = 0
      decide +kernel
    have S2 : stepV (put h 7 0) 0 ⟨40, 8, 7, 0, 1984⟩ = (Ht.go (put (up (put h 7 0) 38 (bits .and .i64 0 (-1))) 8 ((put h 7 0) 38)) 4, e0) := by
      unfold stepV
      rw [r_lvl]
      show (Ht.go (put (up (put h 7 0) 38 (bits .and .i64 ((put h 7 0) 7) (-1))) 8 ((put h 7 0) 38)) 4, e0) = _
      rw [e0']
    have S1 : stepV (up (up (up (up h 36 (h 32)) 37 (wrap32 c)) 32 (h 34)) 33 (trapS s)) 0 ⟨44, 0, 0, 0, 0⟩ = (up (up (up (up (up (up h 36 (h 32)) 37 (wrap32 c)) 32 (h 34)) 33 (trapS s)) 32 (h 32)) 33 (backS (trapS s)), e0) := by
      unfold stepV
      rw [r_mret]
      rfl
    have C4 : ∀ k, k < 32 → (up (up (up (up (up (up h 36 (h 32)) 37 (wrap32 c)) 32 (h 34)) 33 (trapS s)) 32 (h 32)) 33 (backS (trapS s))) k = h k := fun k hk => by
      simp only [up_ne _ _ (show k ≠ 33 by omega), up_ne _ _ (show k ≠ 32 by omega), up_ne _ _ (show k ≠ 36 by omega), up_ne _ _ (show k ≠ 37 by omega)]
    have C5 : (Ht.go (put (up (put h 7 0) 38 (bits .and .i64 0 (-1))) 8 ((put h 7 0) 38)) 4) 8 = h 38 := by
      show wrap32 (h 38) = h 38
      exact Plain.w32_in _ (fine.in32 38)
    have L1 : (decide (bits .and .i64 (trapS s) 8 ≠ 0) && decide (h 38 < p)) = false := by rw [h1]; rfl
    have L2 : (decide (bits .and .i64 (backS (trapS s)) 8 ≠ 0) && decide (h 38 < p)) = (q && decide (h 38 < p)) := by rw [h2]
    have L3 : (decide (bits .and .i64 (h 33) 8 ≠ 0) && decide (h 38 < p)) = (q && decide (h 38 < p)) := by rw [hs, hq]
    cases q with
    | true => exact back_true w (r0 := decide (0 < p)) hO hn hL hNC (Lib.hid hh) (Lib.hid rfl) (Lib.hid hs) (Lib.hid rfl) (Lib.hid rfl) (Lib.hid S1) (Lib.hid rfl) (Lib.hid S2) (Lib.hid rfl) (Lib.hid rfl) (Lib.hid (by rw [hs]; exact h3 rfl)) (Lib.hid rfl) (Lib.hid rfl) (Lib.hid rfl) (Lib.hid rfl) (Lib.hid C4) (Lib.hid C5) (Lib.hid L1) (Lib.hid L2) (Lib.hid L3) (Lib.hid (by rw [l33, l38, hs, hq]; rfl))
    | false => exact back_false w (r0 := decide (0 < p)) hO hn hL hNC (Lib.hid hh) (Lib.hid rfl) (Lib.hid hs) (Lib.hid rfl) (Lib.hid rfl) (Lib.hid S1) (Lib.hid rfl) (Lib.hid S2) (Lib.hid rfl) (Lib.hid rfl) (Lib.hid (by rw [hs]; exact h4 rfl)) (Lib.hid rfl) (Lib.hid rfl) (Lib.hid rfl) (Lib.hid rfl) (Lib.hid C4) (Lib.hid C5) (Lib.hid L1) (Lib.hid L2) (Lib.hid L3) (Lib.hid (by rw [l33, l38, hs, hq]; rfl))
  rcases fine.st with hs | hs | hs | hs
  · exact sts (q := false) hs (by decide +kernel) (by decide +kernel) (by decide +kernel) (fun h => by cases h) (fun _ => by decide +kernel)
  · exact sts (q := true) hs (by decide +kernel) (by decide +kernel) (by decide +kernel) (fun _ => by decide +kernel) (fun h => by cases h)
  · exact sts (q := false) hs (by decide +kernel) (by decide +kernel) (by decide +kernel) (fun h => by cases h) (fun _ => by decide +kernel)
  · exact sts (q := true) hs (by decide +kernel) (by decide +kernel) (by decide +kernel) (fun _ => by decide +kernel) (fun h => by cases h)
end Go.Proofs.YtgcgdjmlngfpeaaDoor
