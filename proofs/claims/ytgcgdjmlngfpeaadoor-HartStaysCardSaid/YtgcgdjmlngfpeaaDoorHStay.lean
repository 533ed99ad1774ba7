/- HartStays: x0 stays 0, and all registers that an instruction does not name. -/
import Derived.Test.YtgcgdjmlngfpeaaDoorHRegs
import Derived.Test.YtgcgdjmlngfpeaaDoorHStP
namespace Go.Proofs.YtgcgdjmlngfpeaaDoor
open Go.RowKit Ht
open Rv (Ins)
set_option linter.unusedVariables false
set_option linter.unusedSimpArgs false
set_option maxHeartbeats 16000000
theorem right_wf14 {i : Ins} (h : Rv.right i = true) : Ins.wf i := by
  obtain ⟨o1, o2, h1, h2, h3, h4⟩ := Rv.right_parts h
  have a1 := reg_bd h1
  have a2 := reg_bd h2
  have a3 := reg_bd h3
  have a4 := Rv.num_bd h4
  exact ⟨by omega, by omega, by omega, by omega, by omega⟩
theorem heldB {P : Program} {ops : Array Oper} {Q : Exit → Act → World → Prop} {S : World → Prop} {id : Nat} {a : Act} {w : World} (hm : P.follows .mixedOrders = true) (h : ∀ w', Bel w w' → wpAnyH P .any ops Q S ops.size (Array.replicate ops.size false) a w') : (Code.region id ops true).wp P Q a w :=
  wp_region_held hm (h _ (Bel.refl w).drew)
theorem fitw {i_o i_d i_a i_b i_n x_o x_d x_a x_b x_n : Int} (hw : Ins.wf ⟨i_o, i_d, i_a, i_b, i_n⟩) (h : Rv.fit ⟨i_o, i_d, i_a, i_b, i_n⟩ = ⟨x_o, x_d, x_a, x_b, x_n⟩) (w : World) :
    Calls Tryd.prog 14 #[iv i_o i_d i_a i_b i_n] w (OneV (iv x_o x_d x_a x_b x_n) w) :=
  (fit_lit hw h w).mono fun e w' hh => ⟨hh.1, hh.2.bel⟩
theorem wrw {i_o i_d i_a i_b i_n d : Int} (hw : Ins.wf ⟨i_o, i_d, i_a, i_b, i_n⟩) (h : (if Rv.right ⟨i_o, i_d, i_a, i_b, i_n⟩ then i_d else 0) = d) (w : World) :
    Calls Tryd.prog 24 #[iv i_o i_d i_a i_b i_n] w (OneV (.int .i64 d) w) :=
  (writes_lit writes_is hw h w).mono fun e w' hh => ⟨hh.1, hh.2.bel⟩
set_option maxRecDepth 100000 in
theorem stays_w (w : World) {P : Option Addr} {N C : Nat} {l : List Int} {o d a b n id xo xd xa xb xn dd : Int} {h g : H} {e : Eff} (HO : Hid (OpsAt w)) (HN : Hid (l.length = N)) (HL : Hid (IntsQ w P l)) (HNC : Hid (N ≤ C)) (HH : Hid (fitV l = h)) (WI : Hid (Ins.wf ⟨o, d, a, b, n⟩)) (FI : Hid (Rv.fit ⟨o, d, a, b, n⟩ = ⟨xo, xd, xa, xb, xn⟩)) (WX : Hid (Ins.wf ⟨xo, xd, xa, xb, xn⟩))
    (S1 : Hid (stepV h id ⟨xo, xd, xa, xb, xn⟩ = (g, e))) (WR : Hid ((if Rv.right ⟨xo, xd, xa, xb, xn⟩ then xd else 0) = dd)) (HF : Hid (∀ j : Nat, j < 32 → ((j : Int) ≠ dd ∨ j = 0 ∨ e.kind ≠ 0) → g j = h j)) (HC : Hid (¬ ((40 ≤ xo ∧ xo ≤ 42) ∨ xo = 44) → ∀ i, i < 39 → (up (regsOf h g) 32 (h 32)) i = h i)) :
    Calls Tryd.prog 4 #[.slice P N C, iv o d a b n, .int .i64 id] w (OneV (.bool true) w) := by
  have hz := zero_hart
  go_enter Tryd.func4, Tryd.ntmps4
  go_upto_region 1 with (fail)
  obtain ⟨W0, hW, hb, hx4⟩ : ∃ W, W = w.alloc (.cells (iC o d a b n) 24) ∧ Bel w W ∧ W.heap[w.heap.size]? = some (.cells (iC o d a b n) 24 (0, 0)) := ⟨_, rfl, box1 w _ _⟩
  first | rw [← hW] | (show Code.wp _ _ _ _ w.alloc (.cells (iC o d a b n) 24); rw [← hW])
  clear hz hW
  have hlt : w.heap.size < W0.heap.size := lt_of_heap hx4
  generalize hg : w.heap.size = g4 at hx4 hlt ⊢
  have HG := Lib.hid hg
  clear hg
  have HXg4 : Hid (InAt W0 g4 o d a b n) := Lib.hid hx4
  have HB : Hid (Bel w W0) := Lib.hid hb
  clear hb hlt hx4
  rename_i K hK
  refine wp_region_list ?_
  refine wpList_call rfl (f := 12) (args := #[]) (v := .bool true) (by kernel_rfl) (awake_any (HO.out.bel HB.out)) ?_
  intro V1 hb
  replace HB : Hid (Bel w V1) := Lib.hid (HB.out.trans hb)
  replace HXg4 : Hid (InAt V1 g4 o d a b n) := Lib.hid (HXg4.out.bel hb)
  clear hb
  try simp only [Act.put, List.setIfInBounds_toArray, List.set_cons_zero, List.set_cons_succ]
  refine wpList_one rfl (w' := V1) (v := .bool true) rfl ?_
  try simp only [Act.put, List.setIfInBounds_toArray, List.set_cons_zero, List.set_cons_succ]
  refine wpList_nil ?_
  refine hK _ _ ?_
  clear hK K
  go_upto_region 2 with (fail)
  rename_i K hK
  refine wp_region_list ?_
  refine wpList_one rfl (w' := V1) (v := .slice P N C) rfl ?_
  try simp only [Act.put, List.setIfInBounds_toArray, List.set_cons_zero, List.set_cons_succ]
  refine wpList_call rfl (f := 13) (args := #[.slice P N C]) (v := hv h) (by kernel_rfl) (fit_lit14 HH.out HN.out (HL.out.bel HB.out) HNC.out) ?_
  intro V2 hb
  replace HB : Hid (Bel w V2) := Lib.hid (HB.out.trans hb)
  replace HXg4 : Hid (InAt V2 g4 o d a b n) := Lib.hid (HXg4.out.bel hb)
  clear hb
  try simp only [Act.put, List.setIfInBounds_toArray, List.set_cons_zero, List.set_cons_succ]
  obtain ⟨hb, hx⟩ := box1 V2 hZ 28
  refine wpList_one rfl (w' := V2.alloc (.cells hZ 28)) (v := .pointer (some ⟨V2.heap.size, 0, none⟩)) (by kernel_rfl) ?_
  try simp only [Act.put, List.setIfInBounds_toArray, List.set_cons_zero, List.set_cons_succ]
  have hl := lt_of_heap HXg4.out
  generalize V2.alloc (.cells hZ 28) = V3 at hb hx ⊢
  generalize V2.heap.size = b8 at hx hl ⊢
  have HG1 := Lib.hid hl
  clear hl
  replace HB : Hid (Bel w V3) := Lib.hid (HB.out.trans hb)
  replace HXg4 : Hid (InAt V3 g4 o d a b n) := Lib.hid (HXg4.out.bel hb)
  have HXb8 : Hid (HAt V3 b8 (fun _ => 0)) := Lib.hid hx
  clear hb hx
  try simp only [Act.put, List.setIfInBounds_toArray, List.set_cons_zero, List.set_cons_succ]
  refine wpList_store_row rfl 28 (.tmp 8) (.tmp 18) rfl b8 (hC h) rfl rfl 28 (hC (fun _ => 0)) HXb8.out (sz_hart _) (by rw [hC_size, hC_size]) (hC_ones _) ?_
  have hn := row_same (cs := (hC h)) HXb8.out
  have hb := row_bel HB.out (g := b8) (by have := HG.out; have := HG1.out; omega) (hC h)
  have hg4 := (setRow_other V3 b8 g4 (hC h) (by have := HG.out; have := HG1.out; omega)).trans HXg4.out
  generalize V3.setRow b8 (hC h) = V4 at hn hb hg4 ⊢
  clear HB HXg4 HXb8
  have HB : Hid (Bel w V4) := Lib.hid hb
  have HXg4 : Hid (InAt V4 g4 o d a b n) := Lib.hid hg4
  have HXb8 : Hid (HAt V4 b8 h) := Lib.hid hn
  clear hn hb hg4
  try simp only [Act.put, List.setIfInBounds_toArray, List.set_cons_zero, List.set_cons_succ]
  refine wpList_nil ?_
  refine hK _ _ ?_
  clear hK K
  go_upto_region 3 with (fail)
  rename_i K hK
  refine wp_region_list ?_
  refine wpList_load_row rfl 24 (.tmp 4) rfl g4 rfl 24 (iC o d a b n) (0, 0) _ HXg4.out Tryd.underlying24 rfl (sz_ins _ _ _ _ _) ?_
  try simp only [Act.put, List.setIfInBounds_toArray, List.set_cons_zero, List.set_cons_succ]
  refine wpList_call rfl (f := 14) (args := #[iv o d a b n]) (v := iv xo xd xa xb xn) (by kernel_rfl) (fitw WI.out FI.out _) ?_
  intro V5 hb
  replace HB : Hid (Bel w V5) := Lib.hid (HB.out.trans hb)
  replace HXg4 : Hid (InAt V5 g4 o d a b n) := Lib.hid (HXg4.out.bel hb)
  replace HXb8 : Hid (HAt V5 b8 h) := Lib.hid (HXb8.out.bel hb)
  clear hb
  try simp only [Act.put, List.setIfInBounds_toArray, List.set_cons_zero, List.set_cons_succ]
  obtain ⟨hb, hx⟩ := box1 V5 (iC 0 0 0 0 0) 24
  refine wpList_one rfl (w' := V5.alloc (.cells (iC 0 0 0 0 0) 24)) (v := .pointer (some ⟨V5.heap.size, 0, none⟩)) (by kernel_rfl) ?_
  try simp only [Act.put, List.setIfInBounds_toArray, List.set_cons_zero, List.set_cons_succ]
  have hl := lt_of_heap HXb8.out
  generalize V5.alloc (.cells (iC 0 0 0 0 0) 24) = V6 at hb hx ⊢
  generalize V5.heap.size = b9 at hx hl ⊢
  have HG2 := Lib.hid hl
  clear hl
  replace HB : Hid (Bel w V6) := Lib.hid (HB.out.trans hb)
  replace HXg4 : Hid (InAt V6 g4 o d a b n) := Lib.hid (HXg4.out.bel hb)
  replace HXb8 : Hid (HAt V6 b8 h) := Lib.hid (HXb8.out.bel hb)
  have HXb9 : Hid (InAt V6 b9 0 0 0 0 0) := Lib.hid hx
  clear hb hx
  try simp only [Act.put, List.setIfInBounds_toArray, List.set_cons_zero, List.set_cons_succ]
  refine wpList_store_row rfl 24 (.tmp 9) (.tmp 20) rfl b9 (iC xo xd xa xb xn) rfl rfl 24 (iC 0 0 0 0 0) HXb9.out (sz_ins _ _ _ _ _) rfl (by kernel_rfl) ?_
  have hn := row_same (cs := (iC xo xd xa xb xn)) HXb9.out
  have hb := row_bel HB.out (g := b9) (by have := HG.out; have := HG1.out; have := HG2.out; omega) (iC xo xd xa xb xn)
  have hg4 := (setRow_other V6 b9 g4 (iC xo xd xa xb xn) (by have := HG.out; have := HG1.out; have := HG2.out; omega)).trans HXg4.out
  have hb8 := (setRow_other V6 b9 b8 (iC xo xd xa xb xn) (by have := HG.out; have := HG1.out; have := HG2.out; omega)).trans HXb8.out
  generalize V6.setRow b9 (iC xo xd xa xb xn) = V7 at hn hb hg4 hb8 ⊢
  clear HB HXg4 HXb8 HXb9
  have HB : Hid (Bel w V7) := Lib.hid hb
  have HXg4 : Hid (InAt V7 g4 o d a b n) := Lib.hid hg4
  have HXb8 : Hid (HAt V7 b8 h) := Lib.hid hb8
  have HXb9 : Hid (InAt V7 b9 xo xd xa xb xn) := Lib.hid hn
  clear hn hb hg4 hb8
  try simp only [Act.put, List.setIfInBounds_toArray, List.set_cons_zero, List.set_cons_succ]
  refine wpList_nil ?_
  refine hK _ _ ?_
  clear hK K
  go_upto_region 4 with (fail)
  rename_i K hK
  refine wp_region_list ?_
  refine wpList_load_row rfl 28 (.tmp 8) rfl b8 rfl 28 (hC h) (0, 0) _ HXb8.out Tryd.underlying28 rfl (sz_hart _) ?_
  try simp only [Act.put, List.setIfInBounds_toArray, List.set_cons_zero, List.set_cons_succ]
  refine wpList_one rfl (w' := V7) (v := .int .i64 id) rfl ?_
  try simp only [Act.put, List.setIfInBounds_toArray, List.set_cons_zero, List.set_cons_succ]
  refine wpList_load_row rfl 24 (.tmp 9) rfl b9 rfl 24 (iC xo xd xa xb xn) (0, 0) _ HXb9.out Tryd.underlying24 rfl (sz_ins _ _ _ _ _) ?_
  try simp only [Act.put, List.setIfInBounds_toArray, List.set_cons_zero, List.set_cons_succ]
  refine wpList_call rfl (f := 16) (args := #[hv h, .int .i64 id, iv xo xd xa xb xn]) (v := .tuple #[hv g, .agg (eC e)]) (by kernel_rfl) (st HO HB.out WX.out S1.out) ?_
  intro V8 hb
  replace HB : Hid (Bel w V8) := Lib.hid (HB.out.trans hb)
  replace HXg4 : Hid (InAt V8 g4 o d a b n) := Lib.hid (HXg4.out.bel hb)
  replace HXb8 : Hid (HAt V8 b8 h) := Lib.hid (HXb8.out.bel hb)
  replace HXb9 : Hid (InAt V8 b9 xo xd xa xb xn) := Lib.hid (HXb9.out.bel hb)
  clear hb
  try simp only [Act.put, List.setIfInBounds_toArray, List.set_cons_zero, List.set_cons_succ]
  refine wpList_one rfl (w' := V8) (v := .tuple #[hv g, .agg (eC e)]) rfl ?_
  try simp only [Act.put, List.setIfInBounds_toArray, List.set_cons_zero, List.set_cons_succ]
  refine wpList_one rfl (w' := V8) (v := hv g) rfl ?_
  try simp only [Act.put, List.setIfInBounds_toArray, List.set_cons_zero, List.set_cons_succ]
  refine wpList_one rfl (w' := V8) (v := .agg (eC e)) rfl ?_
  try simp only [Act.put, List.setIfInBounds_toArray, List.set_cons_zero, List.set_cons_succ]
  obtain ⟨hb, hx⟩ := box1 V8 hZ 28
  refine wpList_one rfl (w' := V8.alloc (.cells hZ 28)) (v := .pointer (some ⟨V8.heap.size, 0, none⟩)) (by kernel_rfl) ?_
  try simp only [Act.put, List.setIfInBounds_toArray, List.set_cons_zero, List.set_cons_succ]
  have hl := lt_of_heap HXb9.out
  generalize V8.alloc (.cells hZ 28) = V9 at hb hx ⊢
  generalize V8.heap.size = b10 at hx hl ⊢
  have HG3 := Lib.hid hl
  clear hl
  replace HB : Hid (Bel w V9) := Lib.hid (HB.out.trans hb)
  replace HXg4 : Hid (InAt V9 g4 o d a b n) := Lib.hid (HXg4.out.bel hb)
  replace HXb8 : Hid (HAt V9 b8 h) := Lib.hid (HXb8.out.bel hb)
  replace HXb9 : Hid (InAt V9 b9 xo xd xa xb xn) := Lib.hid (HXb9.out.bel hb)
  have HXb10 : Hid (HAt V9 b10 (fun _ => 0)) := Lib.hid hx
  clear hb hx
  try simp only [Act.put, List.setIfInBounds_toArray, List.set_cons_zero, List.set_cons_succ]
  obtain ⟨hb, hx⟩ := box1 V9 (eC e0) 34
  refine wpList_one rfl (w' := V9.alloc (.cells (eC e0) 34)) (v := .pointer (some ⟨V9.heap.size, 0, none⟩)) (by kernel_rfl) ?_
  try simp only [Act.put, List.setIfInBounds_toArray, List.set_cons_zero, List.set_cons_succ]
  have hl := lt_of_heap HXb10.out
  generalize V9.alloc (.cells (eC e0) 34) = V10 at hb hx ⊢
  generalize V9.heap.size = b11 at hx hl ⊢
  have HG4 := Lib.hid hl
  clear hl
  replace HB : Hid (Bel w V10) := Lib.hid (HB.out.trans hb)
  replace HXg4 : Hid (InAt V10 g4 o d a b n) := Lib.hid (HXg4.out.bel hb)
  replace HXb8 : Hid (HAt V10 b8 h) := Lib.hid (HXb8.out.bel hb)
  replace HXb9 : Hid (InAt V10 b9 xo xd xa xb xn) := Lib.hid (HXb9.out.bel hb)
  replace HXb10 : Hid (HAt V10 b10 (fun _ => 0)) := Lib.hid (HXb10.out.bel hb)
  have HXb11 : Hid (EfAt V10 b11 e0) := Lib.hid hx
  clear hb hx
  try simp only [Act.put, List.setIfInBounds_toArray, List.set_cons_zero, List.set_cons_succ]
  refine wpList_store_row rfl 28 (.tmp 10) (.tmp 26) rfl b10 (hC g) rfl rfl 28 (hC (fun _ => 0)) HXb10.out (sz_hart _) (by rw [hC_size, hC_size]) (hC_ones _) ?_
  have hn := row_same (cs := (hC g)) HXb10.out
  have hb := row_bel HB.out (g := b10) (by have := HG.out; have := HG1.out; have := HG2.out; have := HG3.out; have := HG4.out; omega) (hC g)
  have hg4 := (setRow_other V10 b10 g4 (hC g) (by have := HG.out; have := HG1.out; have := HG2.out; have := HG3.out; have := HG4.out; omega)).trans HXg4.out
  have hb8 := (setRow_other V10 b10 b8 (hC g) (by have := HG.out; have := HG1.out; have := HG2.out; have := HG3.out; have := HG4.out; omega)).trans HXb8.out
  have hb9 := (setRow_other V10 b10 b9 (hC g) (by have := HG.out; have := HG1.out; have := HG2.out; have := HG3.out; have := HG4.out; omega)).trans HXb9.out
  have hb11 := (setRow_other V10 b10 b11 (hC g) (by have := HG.out; have := HG1.out; have := HG2.out; have := HG3.out; have := HG4.out; omega)).trans HXb11.out
  generalize V10.setRow b10 (hC g) = V11 at hn hb hg4 hb8 hb9 hb11 ⊢
  clear HB HXg4 HXb8 HXb9 HXb10 HXb11
  have HB : Hid (Bel w V11) := Lib.hid hb
  have HXg4 : Hid (InAt V11 g4 o d a b n) := Lib.hid hg4
  have HXb8 : Hid (HAt V11 b8 h) := Lib.hid hb8
  have HXb9 : Hid (InAt V11 b9 xo xd xa xb xn) := Lib.hid hb9
  have HXb11 : Hid (EfAt V11 b11 e0) := Lib.hid hb11
  have HXb10 : Hid (HAt V11 b10 g) := Lib.hid hn
  clear hn hb hg4 hb8 hb9 hb11
  try simp only [Act.put, List.setIfInBounds_toArray, List.set_cons_zero, List.set_cons_succ]
  refine wpList_store_row rfl 34 (.tmp 11) (.tmp 27) rfl b11 (eC e) rfl rfl 34 (eC e0) HXb11.out (sz_eff _) rfl (eC_ones _) ?_
  have hn := row_same (cs := (eC e)) HXb11.out
  have hb := row_bel HB.out (g := b11) (by have := HG.out; have := HG1.out; have := HG2.out; have := HG3.out; have := HG4.out; omega) (eC e)
  have hg4 := (setRow_other V11 b11 g4 (eC e) (by have := HG.out; have := HG1.out; have := HG2.out; have := HG3.out; have := HG4.out; omega)).trans HXg4.out
  have hb8 := (setRow_other V11 b11 b8 (eC e) (by have := HG.out; have := HG1.out; have := HG2.out; have := HG3.out; have := HG4.out; omega)).trans HXb8.out
  have hb9 := (setRow_other V11 b11 b9 (eC e) (by have := HG.out; have := HG1.out; have := HG2.out; have := HG3.out; have := HG4.out; omega)).trans HXb9.out
  have hb10 := (setRow_other V11 b11 b10 (eC e) (by have := HG.out; have := HG1.out; have := HG2.out; have := HG3.out; have := HG4.out; omega)).trans HXb10.out
  generalize V11.setRow b11 (eC e) = V12 at hn hb hg4 hb8 hb9 hb10 ⊢
  clear HB HXg4 HXb8 HXb9 HXb10 HXb11
  have HB : Hid (Bel w V12) := Lib.hid hb
  have HXg4 : Hid (InAt V12 g4 o d a b n) := Lib.hid hg4
  have HXb8 : Hid (HAt V12 b8 h) := Lib.hid hb8
  have HXb9 : Hid (InAt V12 b9 xo xd xa xb xn) := Lib.hid hb9
  have HXb10 : Hid (HAt V12 b10 g) := Lib.hid hb10
  have HXb11 : Hid (EfAt V12 b11 e) := Lib.hid hn
  clear hn hb hg4 hb8 hb9 hb10
  try simp only [Act.put, List.setIfInBounds_toArray, List.set_cons_zero, List.set_cons_succ]
  refine wpList_nil ?_
  refine hK _ _ ?_
  clear hK K
  go_upto_region 5 with (fail)
  rename_i K hK
  refine wp_region_list ?_
  refine wpList_load_row rfl 24 (.tmp 9) rfl b9 rfl 24 (iC xo xd xa xb xn) (0, 0) _ HXb9.out Tryd.underlying24 rfl (sz_ins _ _ _ _ _) ?_
  try simp only [Act.put, List.setIfInBounds_toArray, List.set_cons_zero, List.set_cons_succ]
  refine wpList_call rfl (f := 24) (args := #[iv xo xd xa xb xn]) (v := .int .i64 dd) (by kernel_rfl) (wrw WX.out WR.out _) ?_
  intro V13 hb
  replace HB : Hid (Bel w V13) := Lib.hid (HB.out.trans hb)
  replace HXg4 : Hid (InAt V13 g4 o d a b n) := Lib.hid (HXg4.out.bel hb)
  replace HXb8 : Hid (HAt V13 b8 h) := Lib.hid (HXb8.out.bel hb)
  replace HXb9 : Hid (InAt V13 b9 xo xd xa xb xn) := Lib.hid (HXb9.out.bel hb)
  replace HXb10 : Hid (HAt V13 b10 g) := Lib.hid (HXb10.out.bel hb)
  replace HXb11 : Hid (EfAt V13 b11 e) := Lib.hid (HXb11.out.bel hb)
  clear hb
  try simp only [Act.put, List.setIfInBounds_toArray, List.set_cons_zero, List.set_cons_succ]
  refine wpList_one rfl (w' := V13) (v := .int .i64 dd) rfl ?_
  try simp only [Act.put, List.setIfInBounds_toArray, List.set_cons_zero, List.set_cons_succ]
  refine wpList_nil ?_
  refine hK _ _ ?_
  clear hK K
  go_wp2
  go_loopw [13] (fun i wx => ∃ (j : Nat), j ≤ 32 ∧ i = .int .i64 j ∧ Hid (Bel w wx) ∧ Hid (HAt wx b8 h) ∧ Hid (InAt wx b9 xo xd xa xb xn) ∧ Hid (HAt wx b10 g) ∧ Hid (EfAt wx b11 e)) (fun i _ => 32 - (intOf i).toNat)
  case atStart => exact ⟨0, by omega, rfl, HB, HXb8, HXb9, HXb10, HXb11⟩
  case round =>
    clear HB HXg4 HXb8 HXb9 HXb10 HXb11
    obtain ⟨j, hj1, rfl, HB, HXb8, HXb9, HXb10, HXb11⟩ := hrel
    by_cases hj : j < 32
    · have i1 : (j : Int) < 32 := by omega
      have heq := HF.out j hj
      by_cases c1 : (j : Int) = dd
      · have Q1 : Hid (decide ((j : Int) ≠ dd) = false) := Lib.hid (by simp [c1])
        by_cases c2 : (j : Int) = 0
        · have Q2 := Lib.hid c2
          have Q4 : Hid (decide (g j ≠ h j) = false) := Lib.hid (by rw [heq (.inr (.inl (by omega)))]; simp)
          clear c1 c2 heq
          go_upto_region 9 with (fail)
          rename_i K hK
          refine heldB (S := fun w' => HAt w' b8 h ∧ HAt w' b10 g ∧ EfAt w' b11 e) (by kernel_rfl) ?_
          intro V301 hb
          replace HB : Hid (Bel w V301) := Lib.hid (HB.out.trans hb)
          replace HXb8 : Hid (HAt V301 b8 h) := Lib.hid (HXb8.out.bel hb)
          replace HXb9 : Hid (InAt V301 b9 xo xd xa xb xn) := Lib.hid (HXb9.out.bel hb)
          replace HXb10 : Hid (HAt V301 b10 g) := Lib.hid (HXb10.out.bel hb)
          replace HXb11 : Hid (EfAt V301 b11 e) := Lib.hid (HXb11.out.bel hb)
          clear hb
          have hT : HAt V301 b8 h ∧ HAt V301 b10 g ∧ EfAt V301 b11 e := ⟨HXb8.out, HXb10.out, HXb11.out⟩
          refine takeD 34 (i := 0) (v := .int .i64 (j : Int)) rfl rfl (by kernel_rfl) (by kernel_rfl) (by kernel_rfl) (fun _ _ _ h => h) (by kernel_rfl) (fun w0 hS => rfl) hT ?_
          try simp only [List.setIfInBounds_toArray, List.set_cons_zero, List.set_cons_succ]
          refine takeD 35 (i := 1) (v := .int .i64 dd) rfl rfl (by kernel_rfl) (by kernel_rfl) (by kernel_rfl) (fun _ _ _ h => h) (by kernel_rfl) (fun w0 hS => rfl) hT ?_
          try simp only [List.setIfInBounds_toArray, List.set_cons_zero, List.set_cons_succ]
          refine takeD 36 (i := 2) (v := .bool false) rfl rfl (by kernel_rfl) (by kernel_rfl) (by kernel_rfl) (fun _ _ _ h => h) (by kernel_rfl) (fun w0 hS => (exec_neT rfl rfl rfl Q1.out w0)) hT ?_
          try simp only [List.setIfInBounds_toArray, List.set_cons_zero, List.set_cons_succ]
          refine takeD 37 (i := 3) (v := .bool false) rfl rfl (by kernel_rfl) (by kernel_rfl) (by kernel_rfl) (fun _ _ _ h => h) (by kernel_rfl) (fun w0 hS => rfl) hT ?_
          try simp only [List.setIfInBounds_toArray, List.set_cons_zero, List.set_cons_succ]
          refine takeD 38 (i := 4) (v := .int .i64 (j : Int)) rfl rfl (by kernel_rfl) (by kernel_rfl) (by kernel_rfl) (fun _ _ _ h => h) (by kernel_rfl) (fun w0 hS => rfl) hT ?_
          try simp only [List.setIfInBounds_toArray, List.set_cons_zero, List.set_cons_succ]
          refine takeD 39 (i := 5) (v := .bool true) rfl rfl (by kernel_rfl) (by kernel_rfl) (by kernel_rfl) (fun _ _ _ h => h) (by kernel_rfl) (fun w0 hS => (exec_eqI rfl rfl rfl Q2.out w0)) hT ?_
          try simp only [List.setIfInBounds_toArray, List.set_cons_zero, List.set_cons_succ]
          refine takeD 40 (i := 6) (v := .bool true) rfl rfl (by kernel_rfl) (by kernel_rfl) (by kernel_rfl) (fun _ _ _ h => h) (by kernel_rfl) (fun w0 hS => (by kernel_rfl)) hT ?_
          try simp only [List.setIfInBounds_toArray, List.set_cons_zero, List.set_cons_succ]
          refine takeD 41 (i := 7) (v := .bool true) rfl rfl (by kernel_rfl) (by kernel_rfl) (by kernel_rfl) (fun _ _ _ h => h) (by kernel_rfl) (fun w0 hS => rfl) hT ?_
          try simp only [List.setIfInBounds_toArray, List.set_cons_zero, List.set_cons_succ]
          refine skipD 42 (i := 8) rfl rfl (by kernel_rfl) (by kernel_rfl) (by kernel_rfl) (fun _ _ _ h => h) (by kernel_rfl) hT ?_
          try simp only [List.setIfInBounds_toArray, List.set_cons_zero, List.set_cons_succ]
          refine skipD 43 (i := 9) rfl rfl (by kernel_rfl) (by kernel_rfl) (by kernel_rfl) (fun _ _ _ h => h) (by kernel_rfl) hT ?_
          try simp only [List.setIfInBounds_toArray, List.set_cons_zero, List.set_cons_succ]
          refine skipD 44 (i := 10) rfl rfl (by kernel_rfl) (by kernel_rfl) (by kernel_rfl) (fun _ _ _ h => h) (by kernel_rfl) hT ?_
          try simp only [List.setIfInBounds_toArray, List.set_cons_zero, List.set_cons_succ]
          refine takeD 45 (i := 11) (v := .bool true) rfl rfl (by kernel_rfl) (by kernel_rfl) (by kernel_rfl) (fun _ _ _ h => h) (by kernel_rfl) (fun w0 hS => (by kernel_rfl)) hT ?_
          try simp only [List.setIfInBounds_toArray, List.set_cons_zero, List.set_cons_succ]
          refine takeD 46 (i := 12) (v := .bool true) rfl rfl (by kernel_rfl) (by kernel_rfl) (by kernel_rfl) (fun _ _ _ h => h) (by kernel_rfl) (fun w0 hS => rfl) hT ?_
          try simp only [List.setIfInBounds_toArray, List.set_cons_zero, List.set_cons_succ]
          refine takeD 47 (i := 13) (v := .int .i64 (j : Int)) rfl rfl (by kernel_rfl) (by kernel_rfl) (by kernel_rfl) (fun _ _ _ h => h) (by kernel_rfl) (fun w0 hS => rfl) hT ?_
          try simp only [List.setIfInBounds_toArray, List.set_cons_zero, List.set_cons_succ]
          refine takeD 48 (i := 14) (v := .pointer (some ⟨b10, 0, none⟩)) rfl rfl (by kernel_rfl) (by kernel_rfl) (by kernel_rfl) (fun _ _ _ h => h) (by kernel_rfl) (fun w0 hS => (by kernel_rfl)) hT ?_
          try simp only [List.setIfInBounds_toArray, List.set_cons_zero, List.set_cons_succ]
          refine takeD 49 (i := 15) (v := .pointer (some ⟨b10, j, none⟩)) rfl rfl (by kernel_rfl) (by kernel_rfl) (by kernel_rfl) (fun _ _ _ h => h) (by kernel_rfl) (fun w0 hS => (exec_reg rfl b10 j (by omega) rfl rfl _)) hT ?_
          try simp only [List.setIfInBounds_toArray, List.set_cons_zero, List.set_cons_succ]
          refine takeD 50 (i := 16) (v := .int .i64 (g j)) rfl rfl (by kernel_rfl) (by kernel_rfl) (by kernel_rfl) (fun _ _ _ h => h) (by kernel_rfl) (fun w0 hS => (exec_cell 3 (.tmp 49) rfl ⟨b10, j, none⟩ rfl _ _ ((hS.2.1).cell (j := j) (by omega)) Tryd.underlying3 rfl)) hT ?_
          try simp only [List.setIfInBounds_toArray, List.set_cons_zero, List.set_cons_succ]
          refine takeD 51 (i := 17) (v := .int .i64 (j : Int)) rfl rfl (by kernel_rfl) (by kernel_rfl) (by kernel_rfl) (fun _ _ _ h => h) (by kernel_rfl) (fun w0 hS => rfl) hT ?_
          try simp only [List.setIfInBounds_toArray, List.set_cons_zero, List.set_cons_succ]
          refine takeD 52 (i := 18) (v := .pointer (some ⟨b8, 0, none⟩)) rfl rfl (by kernel_rfl) (by kernel_rfl) (by kernel_rfl) (fun _ _ _ h => h) (by kernel_rfl) (fun w0 hS => (by kernel_rfl)) hT ?_
          try simp only [List.setIfInBounds_toArray, List.set_cons_zero, List.set_cons_succ]
          refine takeD 53 (i := 19) (v := .pointer (some ⟨b8, j, none⟩)) rfl rfl (by kernel_rfl) (by kernel_rfl) (by kernel_rfl) (fun _ _ _ h => h) (by kernel_rfl) (fun w0 hS => (exec_reg rfl b8 j (by omega) rfl rfl _)) hT ?_
          try simp only [List.setIfInBounds_toArray, List.set_cons_zero, List.set_cons_succ]
          refine takeD 54 (i := 20) (v := .int .i64 (h j)) rfl rfl (by kernel_rfl) (by kernel_rfl) (by kernel_rfl) (fun _ _ _ h => h) (by kernel_rfl) (fun w0 hS => (exec_cell 3 (.tmp 53) rfl ⟨b8, j, none⟩ rfl _ _ ((hS.1).cell (j := j) (by omega)) Tryd.underlying3 rfl)) hT ?_
          try simp only [List.setIfInBounds_toArray, List.set_cons_zero, List.set_cons_succ]
          refine takeD 55 (i := 21) (v := .bool false) rfl rfl (by kernel_rfl) (by kernel_rfl) (by kernel_rfl) (fun _ _ _ h => h) (by kernel_rfl) (fun w0 hS => (exec_neT rfl rfl rfl Q4.out w0)) hT ?_
          try simp only [List.setIfInBounds_toArray, List.set_cons_zero, List.set_cons_succ]
          refine takeD 56 (i := 22) (v := .bool false) rfl rfl (by kernel_rfl) (by kernel_rfl) (by kernel_rfl) (fun _ _ _ h => h) (by kernel_rfl) (fun w0 hS => (by kernel_rfl)) hT ?_
          try simp only [List.setIfInBounds_toArray, List.set_cons_zero, List.set_cons_succ]
          refine wpAnyH_done (by kernel_rfl) ?_ _
          clear hT
          refine hK _ _ ?_
          clear hK K
          go_wp2
          exact ⟨⟨j + 1, by omega, by go_num, HB, HXb8, HXb9, HXb10, HXb11⟩, by simp [intOf]; omega⟩
        · have Q2 := Lib.hid c2
          by_cases c3 : e.kind = 0
          · have Q3 : Hid (decide (e.kind ≠ 0) = false) := Lib.hid (by simp [c3])
            clear c1 c2 c3 heq
            go_upto_region 9 with (fail)
            rename_i K hK
            refine heldB (S := fun w' => HAt w' b8 h ∧ HAt w' b10 g ∧ EfAt w' b11 e) (by kernel_rfl) ?_
            intro V301 hb
            replace HB : Hid (Bel w V301) := Lib.hid (HB.out.trans hb)
            replace HXb8 : Hid (HAt V301 b8 h) := Lib.hid (HXb8.out.bel hb)
            replace HXb9 : Hid (InAt V301 b9 xo xd xa xb xn) := Lib.hid (HXb9.out.bel hb)
            replace HXb10 : Hid (HAt V301 b10 g) := Lib.hid (HXb10.out.bel hb)
            replace HXb11 : Hid (EfAt V301 b11 e) := Lib.hid (HXb11.out.bel hb)
            clear hb
            have hT : HAt V301 b8 h ∧ HAt V301 b10 g ∧ EfAt V301 b11 e := ⟨HXb8.out, HXb10.out, HXb11.out⟩
            refine takeD 34 (i := 0) (v := .int .i64 (j : Int)) rfl rfl (by kernel_rfl) (by kernel_rfl) (by kernel_rfl) (fun _ _ _ h => h) (by kernel_rfl) (fun w0 hS => rfl) hT ?_
            try simp only [List.setIfInBounds_toArray, List.set_cons_zero, List.set_cons_succ]
            refine takeD 35 (i := 1) (v := .int .i64 dd) rfl rfl (by kernel_rfl) (by kernel_rfl) (by kernel_rfl) (fun _ _ _ h => h) (by kernel_rfl) (fun w0 hS => rfl) hT ?_
            try simp only [List.setIfInBounds_toArray, List.set_cons_zero, List.set_cons_succ]
            refine takeD 36 (i := 2) (v := .bool false) rfl rfl (by kernel_rfl) (by kernel_rfl) (by kernel_rfl) (fun _ _ _ h => h) (by kernel_rfl) (fun w0 hS => (exec_neT rfl rfl rfl Q1.out w0)) hT ?_
            try simp only [List.setIfInBounds_toArray, List.set_cons_zero, List.set_cons_succ]
            refine takeD 37 (i := 3) (v := .bool false) rfl rfl (by kernel_rfl) (by kernel_rfl) (by kernel_rfl) (fun _ _ _ h => h) (by kernel_rfl) (fun w0 hS => rfl) hT ?_
            try simp only [List.setIfInBounds_toArray, List.set_cons_zero, List.set_cons_succ]
            refine takeD 38 (i := 4) (v := .int .i64 (j : Int)) rfl rfl (by kernel_rfl) (by kernel_rfl) (by kernel_rfl) (fun _ _ _ h => h) (by kernel_rfl) (fun w0 hS => rfl) hT ?_
            try simp only [List.setIfInBounds_toArray, List.set_cons_zero, List.set_cons_succ]
            refine takeD 39 (i := 5) (v := .bool false) rfl rfl (by kernel_rfl) (by kernel_rfl) (by kernel_rfl) (fun _ _ _ h => h) (by kernel_rfl) (fun w0 hS => (exec_eqF rfl rfl rfl Q2.out w0)) hT ?_
            try simp only [List.setIfInBounds_toArray, List.set_cons_zero, List.set_cons_succ]
            refine takeD 40 (i := 6) (v := .bool false) rfl rfl (by kernel_rfl) (by kernel_rfl) (by kernel_rfl) (fun _ _ _ h => h) (by kernel_rfl) (fun w0 hS => (by kernel_rfl)) hT ?_
            try simp only [List.setIfInBounds_toArray, List.set_cons_zero, List.set_cons_succ]
            refine takeD 41 (i := 7) (v := .bool false) rfl rfl (by kernel_rfl) (by kernel_rfl) (by kernel_rfl) (fun _ _ _ h => h) (by kernel_rfl) (fun w0 hS => rfl) hT ?_
            try simp only [List.setIfInBounds_toArray, List.set_cons_zero, List.set_cons_succ]
            refine takeD 42 (i := 8) (v := .pointer (some ⟨b11, 0, none⟩)) rfl rfl (by kernel_rfl) (by kernel_rfl) (by kernel_rfl) (fun _ _ _ h => h) (by kernel_rfl) (fun w0 hS => (by kernel_rfl)) hT ?_
            try simp only [List.setIfInBounds_toArray, List.set_cons_zero, List.set_cons_succ]
            refine takeD 43 (i := 9) (v := .int .i64 e.kind) rfl rfl (by kernel_rfl) (by kernel_rfl) (by kernel_rfl) (fun _ _ _ h => h) (by kernel_rfl) (fun w0 hS => (exec_cell 3 (.tmp 42) rfl ⟨b11, 0, none⟩ rfl _ _ (cell_of_heap (show EfAt w0 b11 e from hS.2.2) 0) Tryd.underlying3 rfl)) hT ?_
            try simp only [List.setIfInBounds_toArray, List.set_cons_zero, List.set_cons_succ]
            refine takeD 44 (i := 10) (v := .bool false) rfl rfl (by kernel_rfl) (by kernel_rfl) (by kernel_rfl) (fun _ _ _ h => h) (by kernel_rfl) (fun w0 hS => (exec_neT rfl rfl rfl Q3.out w0)) hT ?_
            try simp only [List.setIfInBounds_toArray, List.set_cons_zero, List.set_cons_succ]
            refine takeD 45 (i := 11) (v := .bool false) rfl rfl (by kernel_rfl) (by kernel_rfl) (by kernel_rfl) (fun _ _ _ h => h) (by kernel_rfl) (fun w0 hS => (by kernel_rfl)) hT ?_
            try simp only [List.setIfInBounds_toArray, List.set_cons_zero, List.set_cons_succ]
            refine takeD 46 (i := 12) (v := .bool false) rfl rfl (by kernel_rfl) (by kernel_rfl) (by kernel_rfl) (fun _ _ _ h => h) (by kernel_rfl) (fun w0 hS => rfl) hT ?_
            try simp only [List.setIfInBounds_toArray, List.set_cons_zero, List.set_cons_succ]
            refine skipD 47 (i := 13) rfl rfl (by kernel_rfl) (by kernel_rfl) (by kernel_rfl) (fun _ _ _ h => h) (by kernel_rfl) hT ?_
            try simp only [List.setIfInBounds_toArray, List.set_cons_zero, List.set_cons_succ]
            refine skipD 48 (i := 14) rfl rfl (by kernel_rfl) (by kernel_rfl) (by kernel_rfl) (fun _ _ _ h => h) (by kernel_rfl) hT ?_
            try simp only [List.setIfInBounds_toArray, List.set_cons_zero, List.set_cons_succ]
            refine skipD 49 (i := 15) rfl rfl (by kernel_rfl) (by kernel_rfl) (by kernel_rfl) (fun _ _ _ h => h) (by kernel_rfl) hT ?_
            try simp only [List.setIfInBounds_toArray, List.set_cons_zero, List.set_cons_succ]
            refine skipD 50 (i := 16) rfl rfl (by kernel_rfl) (by kernel_rfl) (by kernel_rfl) (fun _ _ _ h => h) (by kernel_rfl) hT ?_
            try simp only [List.setIfInBounds_toArray, List.set_cons_zero, List.set_cons_succ]
            refine skipD 51 (i := 17) rfl rfl (by kernel_rfl) (by kernel_rfl) (by kernel_rfl) (fun _ _ _ h => h) (by kernel_rfl) hT ?_
            try simp only [List.setIfInBounds_toArray, List.set_cons_zero, List.set_cons_succ]
            refine skipD 52 (i := 18) rfl rfl (by kernel_rfl) (by kernel_rfl) (by kernel_rfl) (fun _ _ _ h => h) (by kernel_rfl) hT ?_
            try simp only [List.setIfInBounds_toArray, List.set_cons_zero, List.set_cons_succ]
            refine skipD 53 (i := 19) rfl rfl (by kernel_rfl) (by kernel_rfl) (by kernel_rfl) (fun _ _ _ h => h) (by kernel_rfl) hT ?_
            try simp only [List.setIfInBounds_toArray, List.set_cons_zero, List.set_cons_succ]
            refine skipD 54 (i := 20) rfl rfl (by kernel_rfl) (by kernel_rfl) (by kernel_rfl) (fun _ _ _ h => h) (by kernel_rfl) hT ?_
            try simp only [List.setIfInBounds_toArray, List.set_cons_zero, List.set_cons_succ]
            refine skipD 55 (i := 21) rfl rfl (by kernel_rfl) (by kernel_rfl) (by kernel_rfl) (fun _ _ _ h => h) (by kernel_rfl) hT ?_
            try simp only [List.setIfInBounds_toArray, List.set_cons_zero, List.set_cons_succ]
            refine takeD 56 (i := 22) (v := .bool false) rfl rfl (by kernel_rfl) (by kernel_rfl) (by kernel_rfl) (fun _ _ _ h => h) (by kernel_rfl) (fun w0 hS => (by kernel_rfl)) hT ?_
            try simp only [List.setIfInBounds_toArray, List.set_cons_zero, List.set_cons_succ]
            refine wpAnyH_done (by kernel_rfl) ?_ _
            clear hT
            refine hK _ _ ?_
            clear hK K
            go_wp2
            exact ⟨⟨j + 1, by omega, by go_num, HB, HXb8, HXb9, HXb10, HXb11⟩, by simp [intOf]; omega⟩
          · have Q3 : Hid (decide (e.kind ≠ 0) = true) := Lib.hid (by simp [c3])
            have Q4 : Hid (decide (g j ≠ h j) = false) := Lib.hid (by rw [heq (.inr (.inr c3))]; simp)
            clear c1 c2 c3 heq
            go_upto_region 9 with (fail)
            rename_i K hK
            refine heldB (S := fun w' => HAt w' b8 h ∧ HAt w' b10 g ∧ EfAt w' b11 e) (by kernel_rfl) ?_
            intro V301 hb
            replace HB : Hid (Bel w V301) := Lib.hid (HB.out.trans hb)
            replace HXb8 : Hid (HAt V301 b8 h) := Lib.hid (HXb8.out.bel hb)
            replace HXb9 : Hid (InAt V301 b9 xo xd xa xb xn) := Lib.hid (HXb9.out.bel hb)
            replace HXb10 : Hid (HAt V301 b10 g) := Lib.hid (HXb10.out.bel hb)
            replace HXb11 : Hid (EfAt V301 b11 e) := Lib.hid (HXb11.out.bel hb)
            clear hb
            have hT : HAt V301 b8 h ∧ HAt V301 b10 g ∧ EfAt V301 b11 e := ⟨HXb8.out, HXb10.out, HXb11.out⟩
            refine takeD 34 (i := 0) (v := .int .i64 (j : Int)) rfl rfl (by kernel_rfl) (by kernel_rfl) (by kernel_rfl) (fun _ _ _ h => h) (by kernel_rfl) (fun w0 hS => rfl) hT ?_
            try simp only [List.setIfInBounds_toArray, List.set_cons_zero, List.set_cons_succ]
            refine takeD 35 (i := 1) (v := .int .i64 dd) rfl rfl (by kernel_rfl) (by kernel_rfl) (by kernel_rfl) (fun _ _ _ h => h) (by kernel_rfl) (fun w0 hS => rfl) hT ?_
            try simp only [List.setIfInBounds_toArray, List.set_cons_zero, List.set_cons_succ]
            refine takeD 36 (i := 2) (v := .bool false) rfl rfl (by kernel_rfl) (by kernel_rfl) (by kernel_rfl) (fun _ _ _ h => h) (by kernel_rfl) (fun w0 hS => (exec_neT rfl rfl rfl Q1.out w0)) hT ?_
            try simp only [List.setIfInBounds_toArray, List.set_cons_zero, List.set_cons_succ]
            refine takeD 37 (i := 3) (v := .bool false) rfl rfl (by kernel_rfl) (by kernel_rfl) (by kernel_rfl) (fun _ _ _ h => h) (by kernel_rfl) (fun w0 hS => rfl) hT ?_
            try simp only [List.setIfInBounds_toArray, List.set_cons_zero, List.set_cons_succ]
            refine takeD 38 (i := 4) (v := .int .i64 (j : Int)) rfl rfl (by kernel_rfl) (by kernel_rfl) (by kernel_rfl) (fun _ _ _ h => h) (by kernel_rfl) (fun w0 hS => rfl) hT ?_
            try simp only [List.setIfInBounds_toArray, List.set_cons_zero, List.set_cons_succ]
            refine takeD 39 (i := 5) (v := .bool false) rfl rfl (by kernel_rfl) (by kernel_rfl) (by kernel_rfl) (fun _ _ _ h => h) (by kernel_rfl) (fun w0 hS => (exec_eqF rfl rfl rfl Q2.out w0)) hT ?_
            try simp only [List.setIfInBounds_toArray, List.set_cons_zero, List.set_cons_succ]
            refine takeD 40 (i := 6) (v := .bool false) rfl rfl (by kernel_rfl) (by kernel_rfl) (by kernel_rfl) (fun _ _ _ h => h) (by kernel_rfl) (fun w0 hS => (by kernel_rfl)) hT ?_
            try simp only [List.setIfInBounds_toArray, List.set_cons_zero, List.set_cons_succ]
            refine takeD 41 (i := 7) (v := .bool false) rfl rfl (by kernel_rfl) (by kernel_rfl) (by kernel_rfl) (fun _ _ _ h => h) (by kernel_rfl) (fun w0 hS => rfl) hT ?_
            try simp only [List.setIfInBounds_toArray, List.set_cons_zero, List.set_cons_succ]
            refine takeD 42 (i := 8) (v := .pointer (some ⟨b11, 0, none⟩)) rfl rfl (by kernel_rfl) (by kernel_rfl) (by kernel_rfl) (fun _ _ _ h => h) (by kernel_rfl) (fun w0 hS => (by kernel_rfl)) hT ?_
            try simp only [List.setIfInBounds_toArray, List.set_cons_zero, List.set_cons_succ]
            refine takeD 43 (i := 9) (v := .int .i64 e.kind) rfl rfl (by kernel_rfl) (by kernel_rfl) (by kernel_rfl) (fun _ _ _ h => h) (by kernel_rfl) (fun w0 hS => (exec_cell 3 (.tmp 42) rfl ⟨b11, 0, none⟩ rfl _ _ (cell_of_heap (show EfAt w0 b11 e from hS.2.2) 0) Tryd.underlying3 rfl)) hT ?_
            try simp only [List.setIfInBounds_toArray, List.set_cons_zero, List.set_cons_succ]
            refine takeD 44 (i := 10) (v := .bool true) rfl rfl (by kernel_rfl) (by kernel_rfl) (by kernel_rfl) (fun _ _ _ h => h) (by kernel_rfl) (fun w0 hS => (exec_neT rfl rfl rfl Q3.out w0)) hT ?_
            try simp only [List.setIfInBounds_toArray, List.set_cons_zero, List.set_cons_succ]
            refine takeD 45 (i := 11) (v := .bool true) rfl rfl (by kernel_rfl) (by kernel_rfl) (by kernel_rfl) (fun _ _ _ h => h) (by kernel_rfl) (fun w0 hS => (by kernel_rfl)) hT ?_
            try simp only [List.setIfInBounds_toArray, List.set_cons_zero, List.set_cons_succ]
            refine takeD 46 (i := 12) (v := .bool true) rfl rfl (by kernel_rfl) (by kernel_rfl) (by kernel_rfl) (fun _ _ _ h => h) (by kernel_rfl) (fun w0 hS => rfl) hT ?_
            try simp only [List.setIfInBounds_toArray, List.set_cons_zero, List.set_cons_succ]
            refine takeD 47 (i := 13) (v := .int .i64 (j : Int)) rfl rfl (by kernel_rfl) (by kernel_rfl) (by kernel_rfl) (fun _ _ _ h => h) (by kernel_rfl) (fun w0 hS => rfl) hT ?_
            try simp only [List.setIfInBounds_toArray, List.set_cons_zero, List.set_cons_succ]
            refine takeD 48 (i := 14) (v := .pointer (some ⟨b10, 0, none⟩)) rfl rfl (by kernel_rfl) (by kernel_rfl) (by kernel_rfl) (fun _ _ _ h => h) (by kernel_rfl) (fun w0 hS => (by kernel_rfl)) hT ?_
            try simp only [List.setIfInBounds_toArray, List.set_cons_zero, List.set_cons_succ]
            refine takeD 49 (i := 15) (v := .pointer (some ⟨b10, j, none⟩)) rfl rfl (by kernel_rfl) (by kernel_rfl) (by kernel_rfl) (fun _ _ _ h => h) (by kernel_rfl) (fun w0 hS => (exec_reg rfl b10 j (by omega) rfl rfl _)) hT ?_
            try simp only [List.setIfInBounds_toArray, List.set_cons_zero, List.set_cons_succ]
            refine takeD 50 (i := 16) (v := .int .i64 (g j)) rfl rfl (by kernel_rfl) (by kernel_rfl) (by kernel_rfl) (fun _ _ _ h => h) (by kernel_rfl) (fun w0 hS => (exec_cell 3 (.tmp 49) rfl ⟨b10, j, none⟩ rfl _ _ ((hS.2.1).cell (j := j) (by omega)) Tryd.underlying3 rfl)) hT ?_
            try simp only [List.setIfInBounds_toArray, List.set_cons_zero, List.set_cons_succ]
            refine takeD 51 (i := 17) (v := .int .i64 (j : Int)) rfl rfl (by kernel_rfl) (by kernel_rfl) (by kernel_rfl) (fun _ _ _ h => h) (by kernel_rfl) (fun w0 hS => rfl) hT ?_
            try simp only [List.setIfInBounds_toArray, List.set_cons_zero, List.set_cons_succ]
            refine takeD 52 (i := 18) (v := .pointer (some ⟨b8, 0, none⟩)) rfl rfl (by kernel_rfl) (by kernel_rfl) (by kernel_rfl) (fun _ _ _ h => h) (by kernel_rfl) (fun w0 hS => (by kernel_rfl)) hT ?_
            try simp only [List.setIfInBounds_toArray, List.set_cons_zero, List.set_cons_succ]
            refine takeD 53 (i := 19) (v := .pointer (some ⟨b8, j, none⟩)) rfl rfl (by kernel_rfl) (by kernel_rfl) (by kernel_rfl) (fun _ _ _ h => h) (by kernel_rfl) (fun w0 hS => (exec_reg rfl b8 j (by omega) rfl rfl _)) hT ?_
            try simp only [List.setIfInBounds_toArray, List.set_cons_zero, List.set_cons_succ]
            refine takeD 54 (i := 20) (v := .int .i64 (h j)) rfl rfl (by kernel_rfl) (by kernel_rfl) (by kernel_rfl) (fun _ _ _ h => h) (by kernel_rfl) (fun w0 hS => (exec_cell 3 (.tmp 53) rfl ⟨b8, j, none⟩ rfl _ _ ((hS.1).cell (j := j) (by omega)) Tryd.underlying3 rfl)) hT ?_
            try simp only [List.setIfInBounds_toArray, List.set_cons_zero, List.set_cons_succ]
            refine takeD 55 (i := 21) (v := .bool false) rfl rfl (by kernel_rfl) (by kernel_rfl) (by kernel_rfl) (fun _ _ _ h => h) (by kernel_rfl) (fun w0 hS => (exec_neT rfl rfl rfl Q4.out w0)) hT ?_
            try simp only [List.setIfInBounds_toArray, List.set_cons_zero, List.set_cons_succ]
            refine takeD 56 (i := 22) (v := .bool false) rfl rfl (by kernel_rfl) (by kernel_rfl) (by kernel_rfl) (fun _ _ _ h => h) (by kernel_rfl) (fun w0 hS => (by kernel_rfl)) hT ?_
            try simp only [List.setIfInBounds_toArray, List.set_cons_zero, List.set_cons_succ]
            refine wpAnyH_done (by kernel_rfl) ?_ _
            clear hT
            refine hK _ _ ?_
            clear hK K
            go_wp2
            exact ⟨⟨j + 1, by omega, by go_num, HB, HXb8, HXb9, HXb10, HXb11⟩, by simp [intOf]; omega⟩
      · have Q1 : Hid (decide ((j : Int) ≠ dd) = true) := Lib.hid (by simp [c1])
        have Q4 : Hid (decide (g j ≠ h j) = false) := Lib.hid (by rw [heq (.inl c1)]; simp)
        clear c1 heq
        go_upto_region 9 with (fail)
        rename_i K hK
        refine heldB (S := fun w' => HAt w' b8 h ∧ HAt w' b10 g ∧ EfAt w' b11 e) (by kernel_rfl) ?_
        intro V301 hb
        replace HB : Hid (Bel w V301) := Lib.hid (HB.out.trans hb)
        replace HXb8 : Hid (HAt V301 b8 h) := Lib.hid (HXb8.out.bel hb)
        replace HXb9 : Hid (InAt V301 b9 xo xd xa xb xn) := Lib.hid (HXb9.out.bel hb)
        replace HXb10 : Hid (HAt V301 b10 g) := Lib.hid (HXb10.out.bel hb)
        replace HXb11 : Hid (EfAt V301 b11 e) := Lib.hid (HXb11.out.bel hb)
        clear hb
        have hT : HAt V301 b8 h ∧ HAt V301 b10 g ∧ EfAt V301 b11 e := ⟨HXb8.out, HXb10.out, HXb11.out⟩
        refine takeD 34 (i := 0) (v := .int .i64 (j : Int)) rfl rfl (by kernel_rfl) (by kernel_rfl) (by kernel_rfl) (fun _ _ _ h => h) (by kernel_rfl) (fun w0 hS => rfl) hT ?_
        try simp only [List.setIfInBounds_toArray, List.set_cons_zero, List.set_cons_succ]
        refine takeD 35 (i := 1) (v := .int .i64 dd) rfl rfl (by kernel_rfl) (by kernel_rfl) (by kernel_rfl) (fun _ _ _ h => h) (by kernel_rfl) (fun w0 hS => rfl) hT ?_
        try simp only [List.setIfInBounds_toArray, List.set_cons_zero, List.set_cons_succ]
        refine takeD 36 (i := 2) (v := .bool true) rfl rfl (by kernel_rfl) (by kernel_rfl) (by kernel_rfl) (fun _ _ _ h => h) (by kernel_rfl) (fun w0 hS => (exec_neT rfl rfl rfl Q1.out w0)) hT ?_
        try simp only [List.setIfInBounds_toArray, List.set_cons_zero, List.set_cons_succ]
        refine takeD 37 (i := 3) (v := .bool true) rfl rfl (by kernel_rfl) (by kernel_rfl) (by kernel_rfl) (fun _ _ _ h => h) (by kernel_rfl) (fun w0 hS => rfl) hT ?_
        try simp only [List.setIfInBounds_toArray, List.set_cons_zero, List.set_cons_succ]
        refine skipD 38 (i := 4) rfl rfl (by kernel_rfl) (by kernel_rfl) (by kernel_rfl) (fun _ _ _ h => h) (by kernel_rfl) hT ?_
        try simp only [List.setIfInBounds_toArray, List.set_cons_zero, List.set_cons_succ]
        refine skipD 39 (i := 5) rfl rfl (by kernel_rfl) (by kernel_rfl) (by kernel_rfl) (fun _ _ _ h => h) (by kernel_rfl) hT ?_
        try simp only [List.setIfInBounds_toArray, List.set_cons_zero, List.set_cons_succ]
        refine takeD 40 (i := 6) (v := .bool true) rfl rfl (by kernel_rfl) (by kernel_rfl) (by kernel_rfl) (fun _ _ _ h => h) (by kernel_rfl) (fun w0 hS => (by kernel_rfl)) hT ?_
        try simp only [List.setIfInBounds_toArray, List.set_cons_zero, List.set_cons_succ]
        refine takeD 41 (i := 7) (v := .bool true) rfl rfl (by kernel_rfl) (by kernel_rfl) (by kernel_rfl) (fun _ _ _ h => h) (by kernel_rfl) (fun w0 hS => rfl) hT ?_
        try simp only [List.setIfInBounds_toArray, List.set_cons_zero, List.set_cons_succ]
        refine skipD 42 (i := 8) rfl rfl (by kernel_rfl) (by kernel_rfl) (by kernel_rfl) (fun _ _ _ h => h) (by kernel_rfl) hT ?_
        try simp only [List.setIfInBounds_toArray, List.set_cons_zero, List.set_cons_succ]
        refine skipD 43 (i := 9) rfl rfl (by kernel_rfl) (by kernel_rfl) (by kernel_rfl) (fun _ _ _ h => h) (by kernel_rfl) hT ?_
        try simp only [List.setIfInBounds_toArray, List.set_cons_zero, List.set_cons_succ]
        refine skipD 44 (i := 10) rfl rfl (by kernel_rfl) (by kernel_rfl) (by kernel_rfl) (fun _ _ _ h => h) (by kernel_rfl) hT ?_
        try simp only [List.setIfInBounds_toArray, List.set_cons_zero, List.set_cons_succ]
        refine takeD 45 (i := 11) (v := .bool true) rfl rfl (by kernel_rfl) (by kernel_rfl) (by kernel_rfl) (fun _ _ _ h => h) (by kernel_rfl) (fun w0 hS => (by kernel_rfl)) hT ?_
        try simp only [List.setIfInBounds_toArray, List.set_cons_zero, List.set_cons_succ]
        refine takeD 46 (i := 12) (v := .bool true) rfl rfl (by kernel_rfl) (by kernel_rfl) (by kernel_rfl) (fun _ _ _ h => h) (by kernel_rfl) (fun w0 hS => rfl) hT ?_
        try simp only [List.setIfInBounds_toArray, List.set_cons_zero, List.set_cons_succ]
        refine takeD 47 (i := 13) (v := .int .i64 (j : Int)) rfl rfl (by kernel_rfl) (by kernel_rfl) (by kernel_rfl) (fun _ _ _ h => h) (by kernel_rfl) (fun w0 hS => rfl) hT ?_
        try simp only [List.setIfInBounds_toArray, List.set_cons_zero, List.set_cons_succ]
        refine takeD 48 (i := 14) (v := .pointer (some ⟨b10, 0, none⟩)) rfl rfl (by kernel_rfl) (by kernel_rfl) (by kernel_rfl) (fun _ _ _ h => h) (by kernel_rfl) (fun w0 hS => (by kernel_rfl)) hT ?_
        try simp only [List.setIfInBounds_toArray, List.set_cons_zero, List.set_cons_succ]
        refine takeD 49 (i := 15) (v := .pointer (some ⟨b10, j, none⟩)) rfl rfl (by kernel_rfl) (by kernel_rfl) (by kernel_rfl) (fun _ _ _ h => h) (by kernel_rfl) (fun w0 hS => (exec_reg rfl b10 j (by omega) rfl rfl _)) hT ?_
        try simp only [List.setIfInBounds_toArray, List.set_cons_zero, List.set_cons_succ]
        refine takeD 50 (i := 16) (v := .int .i64 (g j)) rfl rfl (by kernel_rfl) (by kernel_rfl) (by kernel_rfl) (fun _ _ _ h => h) (by kernel_rfl) (fun w0 hS => (exec_cell 3 (.tmp 49) rfl ⟨b10, j, none⟩ rfl _ _ ((hS.2.1).cell (j := j) (by omega)) Tryd.underlying3 rfl)) hT ?_
        try simp only [List.setIfInBounds_toArray, List.set_cons_zero, List.set_cons_succ]
        refine takeD 51 (i := 17) (v := .int .i64 (j : Int)) rfl rfl (by kernel_rfl) (by kernel_rfl) (by kernel_rfl) (fun _ _ _ h => h) (by kernel_rfl) (fun w0 hS => rfl) hT ?_
        try simp only [List.setIfInBounds_toArray, List.set_cons_zero, List.set_cons_succ]
        refine takeD 52 (i := 18) (v := .pointer (some ⟨b8, 0, none⟩)) rfl rfl (by kernel_rfl) (by kernel_rfl) (by kernel_rfl) (fun _ _ _ h => h) (by kernel_rfl) (fun w0 hS => (by kernel_rfl)) hT ?_
        try simp only [List.setIfInBounds_toArray, List.set_cons_zero, List.set_cons_succ]
        refine takeD 53 (i := 19) (v := .pointer (some ⟨b8, j, none⟩)) rfl rfl (by kernel_rfl) (by kernel_rfl) (by kernel_rfl) (fun _ _ _ h => h) (by kernel_rfl) (fun w0 hS => (exec_reg rfl b8 j (by omega) rfl rfl _)) hT ?_
        try simp only [List.setIfInBounds_toArray, List.set_cons_zero, List.set_cons_succ]
        refine takeD 54 (i := 20) (v := .int .i64 (h j)) rfl rfl (by kernel_rfl) (by kernel_rfl) (by kernel_rfl) (fun _ _ _ h => h) (by kernel_rfl) (fun w0 hS => (exec_cell 3 (.tmp 53) rfl ⟨b8, j, none⟩ rfl _ _ ((hS.1).cell (j := j) (by omega)) Tryd.underlying3 rfl)) hT ?_
        try simp only [List.setIfInBounds_toArray, List.set_cons_zero, List.set_cons_succ]
        refine takeD 55 (i := 21) (v := .bool false) rfl rfl (by kernel_rfl) (by kernel_rfl) (by kernel_rfl) (fun _ _ _ h => h) (by kernel_rfl) (fun w0 hS => (exec_neT rfl rfl rfl Q4.out w0)) hT ?_
        try simp only [List.setIfInBounds_toArray, List.set_cons_zero, List.set_cons_succ]
        refine takeD 56 (i := 22) (v := .bool false) rfl rfl (by kernel_rfl) (by kernel_rfl) (by kernel_rfl) (fun _ _ _ h => h) (by kernel_rfl) (fun w0 hS => (by kernel_rfl)) hT ?_
        try simp only [List.setIfInBounds_toArray, List.set_cons_zero, List.set_cons_succ]
        refine wpAnyH_done (by kernel_rfl) ?_ _
        clear hT
        refine hK _ _ ?_
        clear hK K
        go_wp2
        exact ⟨⟨j + 1, by omega, by go_num, HB, HXb8, HXb9, HXb10, HXb11⟩, by simp [intOf]; omega⟩
    · obtain rfl : j = 32 := by omega
      have i1 : ¬ ((32 : Nat) : Int) < 32 := by omega
      by_cases e40 : xo = 40
      · have E40 := Lib.hid e40
        clear e40
        go_upto_region 11 with (fail)
        rename_i K hK
        refine wp_region_list ?_
        with_reducible refine BigFrame.wpList_want ?_ (fun K2 hK2 => ?_)
        · kernel_rfl
        refine wp_one (w' := wr) (v := .pointer (some ⟨b9, 0, none⟩)) (by kernel_rfl) ?_
        with_reducible refine hK2 _ _ ?_
        clear hK2 K2
        try simp only [Act.put, List.setIfInBounds_toArray, List.set_cons_zero, List.set_cons_succ]
        with_reducible refine BigFrame.wpList_want ?_ (fun K2 hK2 => ?_)
        · kernel_rfl
        refine wp_one (w' := wr) (v := .int .i64 xo) (exec_cell 3 (.tmp 57) rfl ⟨b9, 0, none⟩ rfl _ _ HXb9.out.cells.1 Tryd.underlying3 rfl) ?_
        with_reducible refine hK2 _ _ ?_
        clear hK2 K2
        try simp only [Act.put, List.setIfInBounds_toArray, List.set_cons_zero, List.set_cons_succ]
        with_reducible refine BigFrame.wpList_want ?_ (fun K2 hK2 => ?_)
        · kernel_rfl
        refine wp_one (w' := wr) (v := .bool true) (exec_eqI rfl rfl rfl (E40.out) wr) ?_
        with_reducible refine hK2 _ _ ?_
        clear hK2 K2
        try simp only [Act.put, List.setIfInBounds_toArray, List.set_cons_zero, List.set_cons_succ]
        with_reducible refine BigFrame.wpList_want ?_ (fun K2 hK2 => ?_)
        · kernel_rfl
        refine wp_one (w' := wr) (v := .bool true) rfl ?_
        with_reducible refine hK2 _ _ ?_
        clear hK2 K2
        try simp only [Act.put, List.setIfInBounds_toArray, List.set_cons_zero, List.set_cons_succ]
        with_reducible refine wpList_skip ?_ ?_
        · kernel_rfl
        try simp only [Act.put, List.setIfInBounds_toArray, List.set_cons_zero, List.set_cons_succ]
        with_reducible refine wpList_skip ?_ ?_
        · kernel_rfl
        try simp only [Act.put, List.setIfInBounds_toArray, List.set_cons_zero, List.set_cons_succ]
        with_reducible refine wpList_skip ?_ ?_
        · kernel_rfl
        try simp only [Act.put, List.setIfInBounds_toArray, List.set_cons_zero, List.set_cons_succ]
        with_reducible refine BigFrame.wpList_want ?_ (fun K2 hK2 => ?_)
        · kernel_rfl
        refine wp_one (w' := wr) (v := .bool true) (by kernel_rfl) ?_
        with_reducible refine hK2 _ _ ?_
        clear hK2 K2
        try simp only [Act.put, List.setIfInBounds_toArray, List.set_cons_zero, List.set_cons_succ]
        with_reducible refine BigFrame.wpList_want ?_ (fun K2 hK2 => ?_)
        · kernel_rfl
        refine wp_one (w' := wr) (v := .bool true) rfl ?_
        with_reducible refine hK2 _ _ ?_
        clear hK2 K2
        try simp only [Act.put, List.setIfInBounds_toArray, List.set_cons_zero, List.set_cons_succ]
        with_reducible refine wpList_skip ?_ ?_
        · kernel_rfl
        try simp only [Act.put, List.setIfInBounds_toArray, List.set_cons_zero, List.set_cons_succ]
        with_reducible refine wpList_skip ?_ ?_
        · kernel_rfl
        try simp only [Act.put, List.setIfInBounds_toArray, List.set_cons_zero, List.set_cons_succ]
        with_reducible refine wpList_skip ?_ ?_
        · kernel_rfl
        try simp only [Act.put, List.setIfInBounds_toArray, List.set_cons_zero, List.set_cons_succ]
        with_reducible refine BigFrame.wpList_want ?_ (fun K2 hK2 => ?_)
        · kernel_rfl
        refine wp_one (w' := wr) (v := .bool true) (by kernel_rfl) ?_
        with_reducible refine hK2 _ _ ?_
        clear hK2 K2
        try simp only [Act.put, List.setIfInBounds_toArray, List.set_cons_zero, List.set_cons_succ]
        with_reducible refine BigFrame.wpList_want ?_ (fun K2 hK2 => ?_)
        · kernel_rfl
        refine wp_one (w' := wr) (v := .bool true) rfl ?_
        with_reducible refine hK2 _ _ ?_
        clear hK2 K2
        try simp only [Act.put, List.setIfInBounds_toArray, List.set_cons_zero, List.set_cons_succ]
        with_reducible refine wpList_skip ?_ ?_
        · kernel_rfl
        try simp only [Act.put, List.setIfInBounds_toArray, List.set_cons_zero, List.set_cons_succ]
        with_reducible refine wpList_skip ?_ ?_
        · kernel_rfl
        try simp only [Act.put, List.setIfInBounds_toArray, List.set_cons_zero, List.set_cons_succ]
        with_reducible refine wpList_skip ?_ ?_
        · kernel_rfl
        try simp only [Act.put, List.setIfInBounds_toArray, List.set_cons_zero, List.set_cons_succ]
        with_reducible refine BigFrame.wpList_want ?_ (fun K2 hK2 => ?_)
        · kernel_rfl
        refine wp_one (w' := wr) (v := .bool true) (by kernel_rfl) ?_
        with_reducible refine hK2 _ _ ?_
        clear hK2 K2
        try simp only [Act.put, List.setIfInBounds_toArray, List.set_cons_zero, List.set_cons_succ]
        with_reducible refine BigFrame.wpList_want ?_ (fun K2 hK2 => ?_)
        · kernel_rfl
        refine wp_one (w' := wr) (v := .bool true) rfl ?_
        with_reducible refine hK2 _ _ ?_
        clear hK2 K2
        try simp only [Act.put, List.setIfInBounds_toArray, List.set_cons_zero, List.set_cons_succ]
        refine wpList_nil ?_
        refine hK _ _ ?_
        clear hK K
        go_upto_region 12 with (fail)
        rename_i K hK
        refine wp_region_list ?_
        refine wpList_load_row rfl 28 (.tmp 10) rfl b10 rfl 28 (hC g) (0, 0) _ HXb10.out Tryd.underlying28 rfl (sz_hart _) ?_
        try simp only [Act.put, List.setIfInBounds_toArray, List.set_cons_zero, List.set_cons_succ]
        obtain ⟨hb, hx⟩ := box1 wr hZ 28
        refine wpList_one rfl (w' := wr.alloc (.cells hZ 28)) (v := .pointer (some ⟨wr.heap.size, 0, none⟩)) (by kernel_rfl) ?_
        try simp only [Act.put, List.setIfInBounds_toArray, List.set_cons_zero, List.set_cons_succ]
        have hl := lt_of_heap HXb11.out
        generalize wr.alloc (.cells hZ 28) = V401 at hb hx ⊢
        generalize wr.heap.size = b15 at hx hl ⊢
        have HG5 := Lib.hid hl
        clear hl
        replace HB : Hid (Bel w V401) := Lib.hid (HB.out.trans hb)
        replace HXb8 : Hid (HAt V401 b8 h) := Lib.hid (HXb8.out.bel hb)
        replace HXb9 : Hid (InAt V401 b9 xo xd xa xb xn) := Lib.hid (HXb9.out.bel hb)
        replace HXb10 : Hid (HAt V401 b10 g) := Lib.hid (HXb10.out.bel hb)
        replace HXb11 : Hid (EfAt V401 b11 e) := Lib.hid (HXb11.out.bel hb)
        have HXb15 : Hid (HAt V401 b15 (fun _ => 0)) := Lib.hid hx
        clear hb hx
        try simp only [Act.put, List.setIfInBounds_toArray, List.set_cons_zero, List.set_cons_succ]
        refine wpList_store_row rfl 28 (.tmp 15) (.tmp 75) rfl b15 (hC g) rfl rfl 28 (hC (fun _ => 0)) HXb15.out (sz_hart _) (by rw [hC_size, hC_size]) (hC_ones _) ?_
        have hn := row_same (cs := (hC g)) HXb15.out
        have hb := row_bel HB.out (g := b15) (by have := HG.out; have := HG1.out; have := HG2.out; have := HG3.out; have := HG4.out; have := HG5.out; omega) (hC g)
        have hb8 := (setRow_other V401 b15 b8 (hC g) (by have := HG.out; have := HG1.out; have := HG2.out; have := HG3.out; have := HG4.out; have := HG5.out; omega)).trans HXb8.out
        have hb9 := (setRow_other V401 b15 b9 (hC g) (by have := HG.out; have := HG1.out; have := HG2.out; have := HG3.out; have := HG4.out; have := HG5.out; omega)).trans HXb9.out
        have hb10 := (setRow_other V401 b15 b10 (hC g) (by have := HG.out; have := HG1.out; have := HG2.out; have := HG3.out; have := HG4.out; have := HG5.out; omega)).trans HXb10.out
        have hb11 := (setRow_other V401 b15 b11 (hC g) (by have := HG.out; have := HG1.out; have := HG2.out; have := HG3.out; have := HG4.out; have := HG5.out; omega)).trans HXb11.out
        generalize V401.setRow b15 (hC g) = V402 at hn hb hb8 hb9 hb10 hb11 ⊢
        clear HB HXb8 HXb9 HXb10 HXb11 HXb15
        have HB : Hid (Bel w V402) := Lib.hid hb
        have HXb8 : Hid (HAt V402 b8 h) := Lib.hid hb8
        have HXb9 : Hid (InAt V402 b9 xo xd xa xb xn) := Lib.hid hb9
        have HXb10 : Hid (HAt V402 b10 g) := Lib.hid hb10
        have HXb11 : Hid (EfAt V402 b11 e) := Lib.hid hb11
        have HXb15 : Hid (HAt V402 b15 g) := Lib.hid hn
        clear hn hb hb8 hb9 hb10 hb11
        try simp only [Act.put, List.setIfInBounds_toArray, List.set_cons_zero, List.set_cons_succ]
        refine wpList_nil ?_
        refine hK _ _ ?_
        clear hK K
        go_upto_region 13 with (fail)
        rename_i K hK
        refine wp_region_list ?_
        refine wpList_one rfl (w' := V402) (v := .pointer (some ⟨b8, 0, none⟩)) (by kernel_rfl) ?_
        try simp only [Act.put, List.setIfInBounds_toArray, List.set_cons_zero, List.set_cons_succ]
        refine wpList_one rfl (w' := V402) (v := rV h) (exec_regs (.tmp 76) rfl b8 rfl HXb8.out) ?_
        try simp only [Act.put, List.setIfInBounds_toArray, List.set_cons_zero, List.set_cons_succ]
        refine wpList_one rfl (w' := V402) (v := .pointer (some ⟨b15, 0, none⟩)) (by kernel_rfl) ?_
        try simp only [Act.put, List.setIfInBounds_toArray, List.set_cons_zero, List.set_cons_succ]
        refine wpList_store_regs rfl (.tmp 78) (.tmp 77) rfl b15 rfl h g rfl HXb15.out ?_
        intro V403 hn hsv
        have hb := hsv.bel HB.out (by have := HG.out; have := HG1.out; have := HG2.out; have := HG3.out; have := HG4.out; have := HG5.out; omega)
        have hb8 := (hsv.block b8 (lt_of_heap HXb8.out) (by have := HG.out; have := HG1.out; have := HG2.out; have := HG3.out; have := HG4.out; have := HG5.out; omega)).trans HXb8.out
        have hb9 := (hsv.block b9 (lt_of_heap HXb9.out) (by have := HG.out; have := HG1.out; have := HG2.out; have := HG3.out; have := HG4.out; have := HG5.out; omega)).trans HXb9.out
        have hb10 := (hsv.block b10 (lt_of_heap HXb10.out) (by have := HG.out; have := HG1.out; have := HG2.out; have := HG3.out; have := HG4.out; have := HG5.out; omega)).trans HXb10.out
        have hb11 := (hsv.block b11 (lt_of_heap HXb11.out) (by have := HG.out; have := HG1.out; have := HG2.out; have := HG3.out; have := HG4.out; have := HG5.out; omega)).trans HXb11.out
        clear hsv HB HXb8 HXb9 HXb10 HXb11 HXb15
        have HB : Hid (Bel w V403) := Lib.hid hb
        have HXb8 : Hid (HAt V403 b8 h) := Lib.hid hb8
        have HXb9 : Hid (InAt V403 b9 xo xd xa xb xn) := Lib.hid hb9
        have HXb10 : Hid (HAt V403 b10 g) := Lib.hid hb10
        have HXb11 : Hid (EfAt V403 b11 e) := Lib.hid hb11
        have HXb15 : Hid (HAt V403 b15 (regsOf h g)) := Lib.hid hn
        clear hn hb hb8 hb9 hb10 hb11
        try simp only [Act.put, List.setIfInBounds_toArray, List.set_cons_zero, List.set_cons_succ]
        refine wpList_nil ?_
        refine hK _ _ ?_
        clear hK K
        go_upto_region 14 with (fail)
        rename_i K hK
        refine wp_region_list ?_
        refine wpList_one rfl (w' := V403) (v := .pointer (some ⟨b8, 32, none⟩)) (by kernel_rfl) ?_
        try simp only [Act.put, List.setIfInBounds_toArray, List.set_cons_zero, List.set_cons_succ]
        refine wpList_load_cell rfl 3 (.tmp 79) rfl ⟨b8, 32, none⟩ rfl (.int .i64 (h 32)) _ (HXb8.out.cell (j := 32) (by omega)) Tryd.underlying3 rfl ?_
        try simp only [Act.put, List.setIfInBounds_toArray, List.set_cons_zero, List.set_cons_succ]
        refine wpList_one rfl (w' := V403) (v := .pointer (some ⟨b15, 32, none⟩)) (by kernel_rfl) ?_
        try simp only [Act.put, List.setIfInBounds_toArray, List.set_cons_zero, List.set_cons_succ]
        refine wpList_store_cell rfl 3 (.tmp 81) (.tmp 80) rfl b15 32 rfl (.int .i64 (h 32)) rfl (HXb15.out.cell (j := 32) (by omega)) (HXb15.out.frozen 32) sz_int rfl ?_
        have hn := HXb15.out.set (j := 32) (by omega) ((h 32))
        have hb := (Svg.set b15 32 V403 (.int .i64 ((h 32)))).bel HB.out (by have := HG.out; have := HG1.out; have := HG2.out; have := HG3.out; have := HG4.out; have := HG5.out; omega)
        have hb8 := ((Svg.set b15 32 V403 (.int .i64 ((h 32)))).block b8 (lt_of_heap HXb8.out) (by have := HG.out; have := HG1.out; have := HG2.out; have := HG3.out; have := HG4.out; have := HG5.out; omega)).trans HXb8.out
        have hb9 := ((Svg.set b15 32 V403 (.int .i64 ((h 32)))).block b9 (lt_of_heap HXb9.out) (by have := HG.out; have := HG1.out; have := HG2.out; have := HG3.out; have := HG4.out; have := HG5.out; omega)).trans HXb9.out
        have hb10 := ((Svg.set b15 32 V403 (.int .i64 ((h 32)))).block b10 (lt_of_heap HXb10.out) (by have := HG.out; have := HG1.out; have := HG2.out; have := HG3.out; have := HG4.out; have := HG5.out; omega)).trans HXb10.out
        have hb11 := ((Svg.set b15 32 V403 (.int .i64 ((h 32)))).block b11 (lt_of_heap HXb11.out) (by have := HG.out; have := HG1.out; have := HG2.out; have := HG3.out; have := HG4.out; have := HG5.out; omega)).trans HXb11.out
        generalize V403.setCell ⟨b15, 32, none⟩ (.int .i64 ((h 32))) = V404 at hn hb hb8 hb9 hb10 hb11  ⊢
        clear HB HXb8 HXb9 HXb10 HXb11 HXb15
        have HB : Hid (Bel w V404) := Lib.hid hb
        have HXb8 : Hid (HAt V404 b8 h) := Lib.hid hb8
        have HXb9 : Hid (InAt V404 b9 xo xd xa xb xn) := Lib.hid hb9
        have HXb10 : Hid (HAt V404 b10 g) := Lib.hid hb10
        have HXb11 : Hid (EfAt V404 b11 e) := Lib.hid hb11
        have HXb15 : Hid (HAt V404 b15 (up (regsOf h g) 32 ((h 32)))) := Lib.hid hn
        clear hn hb hb8 hb9 hb10 hb11
        try simp only [Act.put, List.setIfInBounds_toArray, List.set_cons_zero, List.set_cons_succ]
        refine wpList_nil ?_
        refine hK _ _ ?_
        clear hK K
        go_upto_region 15 with (fail)
        rename_i K hK
        refine wp_region_list ?_
        with_reducible refine BigFrame.wpList_want ?_ (fun K2 hK2 => ?_)
        · kernel_rfl
        refine wp_one (w' := V404) (v := .bool true) rfl ?_
        with_reducible refine hK2 _ _ ?_
        clear hK2 K2
        try simp only [Act.put, List.setIfInBounds_toArray, List.set_cons_zero, List.set_cons_succ]
        with_reducible refine BigFrame.wpList_want ?_ (fun K2 hK2 => ?_)
        · kernel_rfl
        refine wp_one (w' := V404) (v := .bool true) rfl ?_
        with_reducible refine hK2 _ _ ?_
        clear hK2 K2
        try simp only [Act.put, List.setIfInBounds_toArray, List.set_cons_zero, List.set_cons_succ]
        with_reducible refine BigFrame.wpList_want ?_ (fun K2 hK2 => ?_)
        · kernel_rfl
        refine wp_one (w' := V404) (v := .bool true) rfl ?_
        with_reducible refine hK2 _ _ ?_
        clear hK2 K2
        try simp only [Act.put, List.setIfInBounds_toArray, List.set_cons_zero, List.set_cons_succ]
        with_reducible refine BigFrame.wpList_want ?_ (fun K2 hK2 => ?_)
        · kernel_rfl
        refine wp_one (w' := V404) (v := .bool true) rfl ?_
        with_reducible refine hK2 _ _ ?_
        clear hK2 K2
        try simp only [Act.put, List.setIfInBounds_toArray, List.set_cons_zero, List.set_cons_succ]
        with_reducible refine wpList_skip ?_ ?_
        · kernel_rfl
        try simp only [Act.put, List.setIfInBounds_toArray, List.set_cons_zero, List.set_cons_succ]
        with_reducible refine wpList_skip ?_ ?_
        · kernel_rfl
        try simp only [Act.put, List.setIfInBounds_toArray, List.set_cons_zero, List.set_cons_succ]
        with_reducible refine wpList_skip ?_ ?_
        · kernel_rfl
        try simp only [Act.put, List.setIfInBounds_toArray, List.set_cons_zero, List.set_cons_succ]
        with_reducible refine BigFrame.wpList_want ?_ (fun K2 hK2 => ?_)
        · kernel_rfl
        refine wp_one (w' := V404) (v := .bool true) (by kernel_rfl) ?_
        with_reducible refine hK2 _ _ ?_
        clear hK2 K2
        try simp only [Act.put, List.setIfInBounds_toArray, List.set_cons_zero, List.set_cons_succ]
        with_reducible refine BigFrame.wpList_want ?_ (fun K2 hK2 => ?_)
        · kernel_rfl
        refine wp_one (w' := V404) (v := .bool true) (by kernel_rfl) ?_
        with_reducible refine hK2 _ _ ?_
        clear hK2 K2
        try simp only [Act.put, List.setIfInBounds_toArray, List.set_cons_zero, List.set_cons_succ]
        with_reducible refine BigFrame.wpList_want ?_ (fun K2 hK2 => ?_)
        · kernel_rfl
        refine wp_one (w' := V404) (v := .bool true) rfl ?_
        with_reducible refine hK2 _ _ ?_
        clear hK2 K2
        try simp only [Act.put, List.setIfInBounds_toArray, List.set_cons_zero, List.set_cons_succ]
        refine wpList_nil ?_
        refine hK _ _ ?_
        clear hK K
        go_wp2
        go_ret
        exact ⟨rfl, HB.out⟩
      have E40 := Lib.hid e40
      by_cases e41 : xo = 41
      · have E41 := Lib.hid e41
        clear e40 e41
        go_upto_region 11 with (fail)
        rename_i K hK
        refine wp_region_list ?_
        with_reducible refine BigFrame.wpList_want ?_ (fun K2 hK2 => ?_)
        · kernel_rfl
        refine wp_one (w' := wr) (v := .pointer (some ⟨b9, 0, none⟩)) (by kernel_rfl) ?_
        with_reducible refine hK2 _ _ ?_
        clear hK2 K2
        try simp only [Act.put, List.setIfInBounds_toArray, List.set_cons_zero, List.set_cons_succ]
        with_reducible refine BigFrame.wpList_want ?_ (fun K2 hK2 => ?_)
        · kernel_rfl
        refine wp_one (w' := wr) (v := .int .i64 xo) (exec_cell 3 (.tmp 57) rfl ⟨b9, 0, none⟩ rfl _ _ HXb9.out.cells.1 Tryd.underlying3 rfl) ?_
        with_reducible refine hK2 _ _ ?_
        clear hK2 K2
        try simp only [Act.put, List.setIfInBounds_toArray, List.set_cons_zero, List.set_cons_succ]
        with_reducible refine BigFrame.wpList_want ?_ (fun K2 hK2 => ?_)
        · kernel_rfl
        refine wp_one (w' := wr) (v := .bool false) (exec_eqF rfl rfl rfl (E40.out) wr) ?_
        with_reducible refine hK2 _ _ ?_
        clear hK2 K2
        try simp only [Act.put, List.setIfInBounds_toArray, List.set_cons_zero, List.set_cons_succ]
        with_reducible refine BigFrame.wpList_want ?_ (fun K2 hK2 => ?_)
        · kernel_rfl
        refine wp_one (w' := wr) (v := .bool false) rfl ?_
        with_reducible refine hK2 _ _ ?_
        clear hK2 K2
        try simp only [Act.put, List.setIfInBounds_toArray, List.set_cons_zero, List.set_cons_succ]
        with_reducible refine BigFrame.wpList_want ?_ (fun K2 hK2 => ?_)
        · kernel_rfl
        refine wp_one (w' := wr) (v := .pointer (some ⟨b9, 0, none⟩)) (by kernel_rfl) ?_
        with_reducible refine hK2 _ _ ?_
        clear hK2 K2
        try simp only [Act.put, List.setIfInBounds_toArray, List.set_cons_zero, List.set_cons_succ]
        with_reducible refine BigFrame.wpList_want ?_ (fun K2 hK2 => ?_)
        · kernel_rfl
        refine wp_one (w' := wr) (v := .int .i64 xo) (exec_cell 3 (.tmp 61) rfl ⟨b9, 0, none⟩ rfl _ _ HXb9.out.cells.1 Tryd.underlying3 rfl) ?_
        with_reducible refine hK2 _ _ ?_
        clear hK2 K2
        try simp only [Act.put, List.setIfInBounds_toArray, List.set_cons_zero, List.set_cons_succ]
        with_reducible refine BigFrame.wpList_want ?_ (fun K2 hK2 => ?_)
        · kernel_rfl
        refine wp_one (w' := wr) (v := .bool true) (exec_eqI rfl rfl rfl (E41.out) wr) ?_
        with_reducible refine hK2 _ _ ?_
        clear hK2 K2
        try simp only [Act.put, List.setIfInBounds_toArray, List.set_cons_zero, List.set_cons_succ]
        with_reducible refine BigFrame.wpList_want ?_ (fun K2 hK2 => ?_)
        · kernel_rfl
        refine wp_one (w' := wr) (v := .bool true) (by kernel_rfl) ?_
        with_reducible refine hK2 _ _ ?_
        clear hK2 K2
        try simp only [Act.put, List.setIfInBounds_toArray, List.set_cons_zero, List.set_cons_succ]
        with_reducible refine BigFrame.wpList_want ?_ (fun K2 hK2 => ?_)
        · kernel_rfl
        refine wp_one (w' := wr) (v := .bool true) rfl ?_
        with_reducible refine hK2 _ _ ?_
        clear hK2 K2
        try simp only [Act.put, List.setIfInBounds_toArray, List.set_cons_zero, List.set_cons_succ]
        with_reducible refine wpList_skip ?_ ?_
        · kernel_rfl
        try simp only [Act.put, List.setIfInBounds_toArray, List.set_cons_zero, List.set_cons_succ]
        with_reducible refine wpList_skip ?_ ?_
        · kernel_rfl
        try simp only [Act.put, List.setIfInBounds_toArray, List.set_cons_zero, List.set_cons_succ]
        with_reducible refine wpList_skip ?_ ?_
        · kernel_rfl
        try simp only [Act.put, List.setIfInBounds_toArray, List.set_cons_zero, List.set_cons_succ]
        with_reducible refine BigFrame.wpList_want ?_ (fun K2 hK2 => ?_)
        · kernel_rfl
        refine wp_one (w' := wr) (v := .bool true) (by kernel_rfl) ?_
        with_reducible refine hK2 _ _ ?_
        clear hK2 K2
        try simp only [Act.put, List.setIfInBounds_toArray, List.set_cons_zero, List.set_cons_succ]
        with_reducible refine BigFrame.wpList_want ?_ (fun K2 hK2 => ?_)
        · kernel_rfl
        refine wp_one (w' := wr) (v := .bool true) rfl ?_
        with_reducible refine hK2 _ _ ?_
        clear hK2 K2
        try simp only [Act.put, List.setIfInBounds_toArray, List.set_cons_zero, List.set_cons_succ]
        with_reducible refine wpList_skip ?_ ?_
        · kernel_rfl
        try simp only [Act.put, List.setIfInBounds_toArray, List.set_cons_zero, List.set_cons_succ]
        with_reducible refine wpList_skip ?_ ?_
        · kernel_rfl
        try simp only [Act.put, List.setIfInBounds_toArray, List.set_cons_zero, List.set_cons_succ]
        with_reducible refine wpList_skip ?_ ?_
        · kernel_rfl
        try simp only [Act.put, List.setIfInBounds_toArray, List.set_cons_zero, List.set_cons_succ]
        with_reducible refine BigFrame.wpList_want ?_ (fun K2 hK2 => ?_)
        · kernel_rfl
        refine wp_one (w' := wr) (v := .bool true) (by kernel_rfl) ?_
        with_reducible refine hK2 _ _ ?_
        clear hK2 K2
        try simp only [Act.put, List.setIfInBounds_toArray, List.set_cons_zero, List.set_cons_succ]
        with_reducible refine BigFrame.wpList_want ?_ (fun K2 hK2 => ?_)
        · kernel_rfl
        refine wp_one (w' := wr) (v := .bool true) rfl ?_
        with_reducible refine hK2 _ _ ?_
        clear hK2 K2
        try simp only [Act.put, List.setIfInBounds_toArray, List.set_cons_zero, List.set_cons_succ]
        refine wpList_nil ?_
        refine hK _ _ ?_
        clear hK K
        go_upto_region 12 with (fail)
        rename_i K hK
        refine wp_region_list ?_
        refine wpList_load_row rfl 28 (.tmp 10) rfl b10 rfl 28 (hC g) (0, 0) _ HXb10.out Tryd.underlying28 rfl (sz_hart _) ?_
        try simp only [Act.put, List.setIfInBounds_toArray, List.set_cons_zero, List.set_cons_succ]
        obtain ⟨hb, hx⟩ := box1 wr hZ 28
        refine wpList_one rfl (w' := wr.alloc (.cells hZ 28)) (v := .pointer (some ⟨wr.heap.size, 0, none⟩)) (by kernel_rfl) ?_
        try simp only [Act.put, List.setIfInBounds_toArray, List.set_cons_zero, List.set_cons_succ]
        have hl := lt_of_heap HXb11.out
        generalize wr.alloc (.cells hZ 28) = V401 at hb hx ⊢
        generalize wr.heap.size = b15 at hx hl ⊢
        have HG5 := Lib.hid hl
        clear hl
        replace HB : Hid (Bel w V401) := Lib.hid (HB.out.trans hb)
        replace HXb8 : Hid (HAt V401 b8 h) := Lib.hid (HXb8.out.bel hb)
        replace HXb9 : Hid (InAt V401 b9 xo xd xa xb xn) := Lib.hid (HXb9.out.bel hb)
        replace HXb10 : Hid (HAt V401 b10 g) := Lib.hid (HXb10.out.bel hb)
        replace HXb11 : Hid (EfAt V401 b11 e) := Lib.hid (HXb11.out.bel hb)
        have HXb15 : Hid (HAt V401 b15 (fun _ => 0)) := Lib.hid hx
        clear hb hx
        try simp only [Act.put, List.setIfInBounds_toArray, List.set_cons_zero, List.set_cons_succ]
        refine wpList_store_row rfl 28 (.tmp 15) (.tmp 75) rfl b15 (hC g) rfl rfl 28 (hC (fun _ => 0)) HXb15.out (sz_hart _) (by rw [hC_size, hC_size]) (hC_ones _) ?_
        have hn := row_same (cs := (hC g)) HXb15.out
        have hb := row_bel HB.out (g := b15) (by have := HG.out; have := HG1.out; have := HG2.out; have := HG3.out; have := HG4.out; have := HG5.out; omega) (hC g)
        have hb8 := (setRow_other V401 b15 b8 (hC g) (by have := HG.out; have := HG1.out; have := HG2.out; have := HG3.out; have := HG4.out; have := HG5.out; omega)).trans HXb8.out
        have hb9 := (setRow_other V401 b15 b9 (hC g) (by have := HG.out; have := HG1.out; have := HG2.out; have := HG3.out; have := HG4.out; have := HG5.out; omega)).trans HXb9.out
        have hb10 := (setRow_other V401 b15 b10 (hC g) (by have := HG.out; have := HG1.out; have := HG2.out; have := HG3.out; have := HG4.out; have := HG5.out; omega)).trans HXb10.out
        have hb11 := (setRow_other V401 b15 b11 (hC g) (by have := HG.out; have := HG1.out; have := HG2.out; have := HG3.out; have := HG4.out; have := HG5.out; omega)).trans HXb11.out
        generalize V401.setRow b15 (hC g) = V402 at hn hb hb8 hb9 hb10 hb11 ⊢
        clear HB HXb8 HXb9 HXb10 HXb11 HXb15
        have HB : Hid (Bel w V402) := Lib.hid hb
        have HXb8 : Hid (HAt V402 b8 h) := Lib.hid hb8
        have HXb9 : Hid (InAt V402 b9 xo xd xa xb xn) := Lib.hid hb9
        have HXb10 : Hid (HAt V402 b10 g) := Lib.hid hb10
        have HXb11 : Hid (EfAt V402 b11 e) := Lib.hid hb11
        have HXb15 : Hid (HAt V402 b15 g) := Lib.hid hn
        clear hn hb hb8 hb9 hb10 hb11
        try simp only [Act.put, List.setIfInBounds_toArray, List.set_cons_zero, List.set_cons_succ]
        refine wpList_nil ?_
        refine hK _ _ ?_
        clear hK K
        go_upto_region 13 with (fail)
        rename_i K hK
        refine wp_region_list ?_
        refine wpList_one rfl (w' := V402) (v := .pointer (some ⟨b8, 0, none⟩)) (by kernel_rfl) ?_
        try simp only [Act.put, List.setIfInBounds_toArray, List.set_cons_zero, List.set_cons_succ]
        refine wpList_one rfl (w' := V402) (v := rV h) (exec_regs (.tmp 76) rfl b8 rfl HXb8.out) ?_
        try simp only [Act.put, List.setIfInBounds_toArray, List.set_cons_zero, List.set_cons_succ]
        refine wpList_one rfl (w' := V402) (v := .pointer (some ⟨b15, 0, none⟩)) (by kernel_rfl) ?_
        try simp only [Act.put, List.setIfInBounds_toArray, List.set_cons_zero, List.set_cons_succ]
        refine wpList_store_regs rfl (.tmp 78) (.tmp 77) rfl b15 rfl h g rfl HXb15.out ?_
        intro V403 hn hsv
        have hb := hsv.bel HB.out (by have := HG.out; have := HG1.out; have := HG2.out; have := HG3.out; have := HG4.out; have := HG5.out; omega)
        have hb8 := (hsv.block b8 (lt_of_heap HXb8.out) (by have := HG.out; have := HG1.out; have := HG2.out; have := HG3.out; have := HG4.out; have := HG5.out; omega)).trans HXb8.out
        have hb9 := (hsv.block b9 (lt_of_heap HXb9.out) (by have := HG.out; have := HG1.out; have := HG2.out; have := HG3.out; have := HG4.out; have := HG5.out; omega)).trans HXb9.out
        have hb10 := (hsv.block b10 (lt_of_heap HXb10.out) (by have := HG.out; have := HG1.out; have := HG2.out; have := HG3.out; have := HG4.out; have := HG5.out; omega)).trans HXb10.out
        have hb11 := (hsv.block b11 (lt_of_heap HXb11.out) (by have := HG.out; have := HG1.out; have := HG2.out; have := HG3.out; have := HG4.out; have := HG5.out; omega)).trans HXb11.out
        clear hsv HB HXb8 HXb9 HXb10 HXb11 HXb15
        have HB : Hid (Bel w V403) := Lib.hid hb
        have HXb8 : Hid (HAt V403 b8 h) := Lib.hid hb8
        have HXb9 : Hid (InAt V403 b9 xo xd xa xb xn) := Lib.hid hb9
        have HXb10 : Hid (HAt V403 b10 g) := Lib.hid hb10
        have HXb11 : Hid (EfAt V403 b11 e) := Lib.hid hb11
        have HXb15 : Hid (HAt V403 b15 (regsOf h g)) := Lib.hid hn
        clear hn hb hb8 hb9 hb10 hb11
        try simp only [Act.put, List.setIfInBounds_toArray, List.set_cons_zero, List.set_cons_succ]
        refine wpList_nil ?_
        refine hK _ _ ?_
        clear hK K
        go_upto_region 14 with (fail)
        rename_i K hK
        refine wp_region_list ?_
        refine wpList_one rfl (w' := V403) (v := .pointer (some ⟨b8, 32, none⟩)) (by kernel_rfl) ?_
        try simp only [Act.put, List.setIfInBounds_toArray, List.set_cons_zero, List.set_cons_succ]
        refine wpList_load_cell rfl 3 (.tmp 79) rfl ⟨b8, 32, none⟩ rfl (.int .i64 (h 32)) _ (HXb8.out.cell (j := 32) (by omega)) Tryd.underlying3 rfl ?_
        try simp only [Act.put, List.setIfInBounds_toArray, List.set_cons_zero, List.set_cons_succ]
        refine wpList_one rfl (w' := V403) (v := .pointer (some ⟨b15, 32, none⟩)) (by kernel_rfl) ?_
        try simp only [Act.put, List.setIfInBounds_toArray, List.set_cons_zero, List.set_cons_succ]
        refine wpList_store_cell rfl 3 (.tmp 81) (.tmp 80) rfl b15 32 rfl (.int .i64 (h 32)) rfl (HXb15.out.cell (j := 32) (by omega)) (HXb15.out.frozen 32) sz_int rfl ?_
        have hn := HXb15.out.set (j := 32) (by omega) ((h 32))
        have hb := (Svg.set b15 32 V403 (.int .i64 ((h 32)))).bel HB.out (by have := HG.out; have := HG1.out; have := HG2.out; have := HG3.out; have := HG4.out; have := HG5.out; omega)
        have hb8 := ((Svg.set b15 32 V403 (.int .i64 ((h 32)))).block b8 (lt_of_heap HXb8.out) (by have := HG.out; have := HG1.out; have := HG2.out; have := HG3.out; have := HG4.out; have := HG5.out; omega)).trans HXb8.out
        have hb9 := ((Svg.set b15 32 V403 (.int .i64 ((h 32)))).block b9 (lt_of_heap HXb9.out) (by have := HG.out; have := HG1.out; have := HG2.out; have := HG3.out; have := HG4.out; have := HG5.out; omega)).trans HXb9.out
        have hb10 := ((Svg.set b15 32 V403 (.int .i64 ((h 32)))).block b10 (lt_of_heap HXb10.out) (by have := HG.out; have := HG1.out; have := HG2.out; have := HG3.out; have := HG4.out; have := HG5.out; omega)).trans HXb10.out
        have hb11 := ((Svg.set b15 32 V403 (.int .i64 ((h 32)))).block b11 (lt_of_heap HXb11.out) (by have := HG.out; have := HG1.out; have := HG2.out; have := HG3.out; have := HG4.out; have := HG5.out; omega)).trans HXb11.out
        generalize V403.setCell ⟨b15, 32, none⟩ (.int .i64 ((h 32))) = V404 at hn hb hb8 hb9 hb10 hb11  ⊢
        clear HB HXb8 HXb9 HXb10 HXb11 HXb15
        have HB : Hid (Bel w V404) := Lib.hid hb
        have HXb8 : Hid (HAt V404 b8 h) := Lib.hid hb8
        have HXb9 : Hid (InAt V404 b9 xo xd xa xb xn) := Lib.hid hb9
        have HXb10 : Hid (HAt V404 b10 g) := Lib.hid hb10
        have HXb11 : Hid (EfAt V404 b11 e) := Lib.hid hb11
        have HXb15 : Hid (HAt V404 b15 (up (regsOf h g) 32 ((h 32)))) := Lib.hid hn
        clear hn hb hb8 hb9 hb10 hb11
        try simp only [Act.put, List.setIfInBounds_toArray, List.set_cons_zero, List.set_cons_succ]
        refine wpList_nil ?_
        refine hK _ _ ?_
        clear hK K
        go_upto_region 15 with (fail)
        rename_i K hK
        refine wp_region_list ?_
        with_reducible refine BigFrame.wpList_want ?_ (fun K2 hK2 => ?_)
        · kernel_rfl
        refine wp_one (w' := V404) (v := .bool true) rfl ?_
        with_reducible refine hK2 _ _ ?_
        clear hK2 K2
        try simp only [Act.put, List.setIfInBounds_toArray, List.set_cons_zero, List.set_cons_succ]
        with_reducible refine BigFrame.wpList_want ?_ (fun K2 hK2 => ?_)
        · kernel_rfl
        refine wp_one (w' := V404) (v := .bool true) rfl ?_
        with_reducible refine hK2 _ _ ?_
        clear hK2 K2
        try simp only [Act.put, List.setIfInBounds_toArray, List.set_cons_zero, List.set_cons_succ]
        with_reducible refine BigFrame.wpList_want ?_ (fun K2 hK2 => ?_)
        · kernel_rfl
        refine wp_one (w' := V404) (v := .bool true) rfl ?_
        with_reducible refine hK2 _ _ ?_
        clear hK2 K2
        try simp only [Act.put, List.setIfInBounds_toArray, List.set_cons_zero, List.set_cons_succ]
        with_reducible refine BigFrame.wpList_want ?_ (fun K2 hK2 => ?_)
        · kernel_rfl
        refine wp_one (w' := V404) (v := .bool true) rfl ?_
        with_reducible refine hK2 _ _ ?_
        clear hK2 K2
        try simp only [Act.put, List.setIfInBounds_toArray, List.set_cons_zero, List.set_cons_succ]
        with_reducible refine wpList_skip ?_ ?_
        · kernel_rfl
        try simp only [Act.put, List.setIfInBounds_toArray, List.set_cons_zero, List.set_cons_succ]
        with_reducible refine wpList_skip ?_ ?_
        · kernel_rfl
        try simp only [Act.put, List.setIfInBounds_toArray, List.set_cons_zero, List.set_cons_succ]
        with_reducible refine wpList_skip ?_ ?_
        · kernel_rfl
        try simp only [Act.put, List.setIfInBounds_toArray, List.set_cons_zero, List.set_cons_succ]
        with_reducible refine BigFrame.wpList_want ?_ (fun K2 hK2 => ?_)
        · kernel_rfl
        refine wp_one (w' := V404) (v := .bool true) (by kernel_rfl) ?_
        with_reducible refine hK2 _ _ ?_
        clear hK2 K2
        try simp only [Act.put, List.setIfInBounds_toArray, List.set_cons_zero, List.set_cons_succ]
        with_reducible refine BigFrame.wpList_want ?_ (fun K2 hK2 => ?_)
        · kernel_rfl
        refine wp_one (w' := V404) (v := .bool true) (by kernel_rfl) ?_
        with_reducible refine hK2 _ _ ?_
        clear hK2 K2
        try simp only [Act.put, List.setIfInBounds_toArray, List.set_cons_zero, List.set_cons_succ]
        with_reducible refine BigFrame.wpList_want ?_ (fun K2 hK2 => ?_)
        · kernel_rfl
        refine wp_one (w' := V404) (v := .bool true) rfl ?_
        with_reducible refine hK2 _ _ ?_
        clear hK2 K2
        try simp only [Act.put, List.setIfInBounds_toArray, List.set_cons_zero, List.set_cons_succ]
        refine wpList_nil ?_
        refine hK _ _ ?_
        clear hK K
        go_wp2
        go_ret
        exact ⟨rfl, HB.out⟩
      have E41 := Lib.hid e41
      by_cases e42 : xo = 42
      · have E42 := Lib.hid e42
        clear e40 e41 e42
        go_upto_region 11 with (fail)
        rename_i K hK
        refine wp_region_list ?_
        with_reducible refine BigFrame.wpList_want ?_ (fun K2 hK2 => ?_)
        · kernel_rfl
        refine wp_one (w' := wr) (v := .pointer (some ⟨b9, 0, none⟩)) (by kernel_rfl) ?_
        with_reducible refine hK2 _ _ ?_
        clear hK2 K2
        try simp only [Act.put, List.setIfInBounds_toArray, List.set_cons_zero, List.set_cons_succ]
        with_reducible refine BigFrame.wpList_want ?_ (fun K2 hK2 => ?_)
        · kernel_rfl
        refine wp_one (w' := wr) (v := .int .i64 xo) (exec_cell 3 (.tmp 57) rfl ⟨b9, 0, none⟩ rfl _ _ HXb9.out.cells.1 Tryd.underlying3 rfl) ?_
        with_reducible refine hK2 _ _ ?_
        clear hK2 K2
        try simp only [Act.put, List.setIfInBounds_toArray, List.set_cons_zero, List.set_cons_succ]
        with_reducible refine BigFrame.wpList_want ?_ (fun K2 hK2 => ?_)
        · kernel_rfl
        refine wp_one (w' := wr) (v := .bool false) (exec_eqF rfl rfl rfl (E40.out) wr) ?_
        with_reducible refine hK2 _ _ ?_
        clear hK2 K2
        try simp only [Act.put, List.setIfInBounds_toArray, List.set_cons_zero, List.set_cons_succ]
        with_reducible refine BigFrame.wpList_want ?_ (fun K2 hK2 => ?_)
        · kernel_rfl
        refine wp_one (w' := wr) (v := .bool false) rfl ?_
        with_reducible refine hK2 _ _ ?_
        clear hK2 K2
        try simp only [Act.put, List.setIfInBounds_toArray, List.set_cons_zero, List.set_cons_succ]
        with_reducible refine BigFrame.wpList_want ?_ (fun K2 hK2 => ?_)
        · kernel_rfl
        refine wp_one (w' := wr) (v := .pointer (some ⟨b9, 0, none⟩)) (by kernel_rfl) ?_
        with_reducible refine hK2 _ _ ?_
        clear hK2 K2
        try simp only [Act.put, List.setIfInBounds_toArray, List.set_cons_zero, List.set_cons_succ]
        with_reducible refine BigFrame.wpList_want ?_ (fun K2 hK2 => ?_)
        · kernel_rfl
        refine wp_one (w' := wr) (v := .int .i64 xo) (exec_cell 3 (.tmp 61) rfl ⟨b9, 0, none⟩ rfl _ _ HXb9.out.cells.1 Tryd.underlying3 rfl) ?_
        with_reducible refine hK2 _ _ ?_
        clear hK2 K2
        try simp only [Act.put, List.setIfInBounds_toArray, List.set_cons_zero, List.set_cons_succ]
        with_reducible refine BigFrame.wpList_want ?_ (fun K2 hK2 => ?_)
        · kernel_rfl
        refine wp_one (w' := wr) (v := .bool false) (exec_eqF rfl rfl rfl (E41.out) wr) ?_
        with_reducible refine hK2 _ _ ?_
        clear hK2 K2
        try simp only [Act.put, List.setIfInBounds_toArray, List.set_cons_zero, List.set_cons_succ]
        with_reducible refine BigFrame.wpList_want ?_ (fun K2 hK2 => ?_)
        · kernel_rfl
        refine wp_one (w' := wr) (v := .bool false) (by kernel_rfl) ?_
        with_reducible refine hK2 _ _ ?_
        clear hK2 K2
        try simp only [Act.put, List.setIfInBounds_toArray, List.set_cons_zero, List.set_cons_succ]
        with_reducible refine BigFrame.wpList_want ?_ (fun K2 hK2 => ?_)
        · kernel_rfl
        refine wp_one (w' := wr) (v := .bool false) rfl ?_
        with_reducible refine hK2 _ _ ?_
        clear hK2 K2
        try simp only [Act.put, List.setIfInBounds_toArray, List.set_cons_zero, List.set_cons_succ]
        with_reducible refine BigFrame.wpList_want ?_ (fun K2 hK2 => ?_)
        · kernel_rfl
        refine wp_one (w' := wr) (v := .pointer (some ⟨b9, 0, none⟩)) (by kernel_rfl) ?_
        with_reducible refine hK2 _ _ ?_
        clear hK2 K2
        try simp only [Act.put, List.setIfInBounds_toArray, List.set_cons_zero, List.set_cons_succ]
        with_reducible refine BigFrame.wpList_want ?_ (fun K2 hK2 => ?_)
        · kernel_rfl
        refine wp_one (w' := wr) (v := .int .i64 xo) (exec_cell 3 (.tmp 66) rfl ⟨b9, 0, none⟩ rfl _ _ HXb9.out.cells.1 Tryd.underlying3 rfl) ?_
        with_reducible refine hK2 _ _ ?_
        clear hK2 K2
        try simp only [Act.put, List.setIfInBounds_toArray, List.set_cons_zero, List.set_cons_succ]
        with_reducible refine BigFrame.wpList_want ?_ (fun K2 hK2 => ?_)
        · kernel_rfl
        refine wp_one (w' := wr) (v := .bool true) (exec_eqI rfl rfl rfl (E42.out) wr) ?_
        with_reducible refine hK2 _ _ ?_
        clear hK2 K2
        try simp only [Act.put, List.setIfInBounds_toArray, List.set_cons_zero, List.set_cons_succ]
        with_reducible refine BigFrame.wpList_want ?_ (fun K2 hK2 => ?_)
        · kernel_rfl
        refine wp_one (w' := wr) (v := .bool true) (by kernel_rfl) ?_
        with_reducible refine hK2 _ _ ?_
        clear hK2 K2
        try simp only [Act.put, List.setIfInBounds_toArray, List.set_cons_zero, List.set_cons_succ]
        with_reducible refine BigFrame.wpList_want ?_ (fun K2 hK2 => ?_)
        · kernel_rfl
        refine wp_one (w' := wr) (v := .bool true) rfl ?_
        with_reducible refine hK2 _ _ ?_
        clear hK2 K2
        try simp only [Act.put, List.setIfInBounds_toArray, List.set_cons_zero, List.set_cons_succ]
        with_reducible refine wpList_skip ?_ ?_
        · kernel_rfl
        try simp only [Act.put, List.setIfInBounds_toArray, List.set_cons_zero, List.set_cons_succ]
        with_reducible refine wpList_skip ?_ ?_
        · kernel_rfl
        try simp only [Act.put, List.setIfInBounds_toArray, List.set_cons_zero, List.set_cons_succ]
        with_reducible refine wpList_skip ?_ ?_
        · kernel_rfl
        try simp only [Act.put, List.setIfInBounds_toArray, List.set_cons_zero, List.set_cons_succ]
        with_reducible refine BigFrame.wpList_want ?_ (fun K2 hK2 => ?_)
        · kernel_rfl
        refine wp_one (w' := wr) (v := .bool true) (by kernel_rfl) ?_
        with_reducible refine hK2 _ _ ?_
        clear hK2 K2
        try simp only [Act.put, List.setIfInBounds_toArray, List.set_cons_zero, List.set_cons_succ]
        with_reducible refine BigFrame.wpList_want ?_ (fun K2 hK2 => ?_)
        · kernel_rfl
        refine wp_one (w' := wr) (v := .bool true) rfl ?_
        with_reducible refine hK2 _ _ ?_
        clear hK2 K2
        try simp only [Act.put, List.setIfInBounds_toArray, List.set_cons_zero, List.set_cons_succ]
        refine wpList_nil ?_
        refine hK _ _ ?_
        clear hK K
        go_upto_region 12 with (fail)
        rename_i K hK
        refine wp_region_list ?_
        refine wpList_load_row rfl 28 (.tmp 10) rfl b10 rfl 28 (hC g) (0, 0) _ HXb10.out Tryd.underlying28 rfl (sz_hart _) ?_
        try simp only [Act.put, List.setIfInBounds_toArray, List.set_cons_zero, List.set_cons_succ]
        obtain ⟨hb, hx⟩ := box1 wr hZ 28
        refine wpList_one rfl (w' := wr.alloc (.cells hZ 28)) (v := .pointer (some ⟨wr.heap.size, 0, none⟩)) (by kernel_rfl) ?_
        try simp only [Act.put, List.setIfInBounds_toArray, List.set_cons_zero, List.set_cons_succ]
        have hl := lt_of_heap HXb11.out
        generalize wr.alloc (.cells hZ 28) = V401 at hb hx ⊢
        generalize wr.heap.size = b15 at hx hl ⊢
        have HG5 := Lib.hid hl
        clear hl
        replace HB : Hid (Bel w V401) := Lib.hid (HB.out.trans hb)
        replace HXb8 : Hid (HAt V401 b8 h) := Lib.hid (HXb8.out.bel hb)
        replace HXb9 : Hid (InAt V401 b9 xo xd xa xb xn) := Lib.hid (HXb9.out.bel hb)
        replace HXb10 : Hid (HAt V401 b10 g) := Lib.hid (HXb10.out.bel hb)
        replace HXb11 : Hid (EfAt V401 b11 e) := Lib.hid (HXb11.out.bel hb)
        have HXb15 : Hid (HAt V401 b15 (fun _ => 0)) := Lib.hid hx
        clear hb hx
        try simp only [Act.put, List.setIfInBounds_toArray, List.set_cons_zero, List.set_cons_succ]
        refine wpList_store_row rfl 28 (.tmp 15) (.tmp 75) rfl b15 (hC g) rfl rfl 28 (hC (fun _ => 0)) HXb15.out (sz_hart _) (by rw [hC_size, hC_size]) (hC_ones _) ?_
        have hn := row_same (cs := (hC g)) HXb15.out
        have hb := row_bel HB.out (g := b15) (by have := HG.out; have := HG1.out; have := HG2.out; have := HG3.out; have := HG4.out; have := HG5.out; omega) (hC g)
        have hb8 := (setRow_other V401 b15 b8 (hC g) (by have := HG.out; have := HG1.out; have := HG2.out; have := HG3.out; have := HG4.out; have := HG5.out; omega)).trans HXb8.out
        have hb9 := (setRow_other V401 b15 b9 (hC g) (by have := HG.out; have := HG1.out; have := HG2.out; have := HG3.out; have := HG4.out; have := HG5.out; omega)).trans HXb9.out
        have hb10 := (setRow_other V401 b15 b10 (hC g) (by have := HG.out; have := HG1.out; have := HG2.out; have := HG3.out; have := HG4.out; have := HG5.out; omega)).trans HXb10.out
        have hb11 := (setRow_other V401 b15 b11 (hC g) (by have := HG.out; have := HG1.out; have := HG2.out; have := HG3.out; have := HG4.out; have := HG5.out; omega)).trans HXb11.out
        generalize V401.setRow b15 (hC g) = V402 at hn hb hb8 hb9 hb10 hb11 ⊢
        clear HB HXb8 HXb9 HXb10 HXb11 HXb15
        have HB : Hid (Bel w V402) := Lib.hid hb
        have HXb8 : Hid (HAt V402 b8 h) := Lib.hid hb8
        have HXb9 : Hid (InAt V402 b9 xo xd xa xb xn) := Lib.hid hb9
        have HXb10 : Hid (HAt V402 b10 g) := Lib.hid hb10
        have HXb11 : Hid (EfAt V402 b11 e) := Lib.hid hb11
        have HXb15 : Hid (HAt V402 b15 g) := Lib.hid hn
        clear hn hb hb8 hb9 hb10 hb11
        try simp only [Act.put, List.setIfInBounds_toArray, List.set_cons_zero, List.set_cons_succ]
        refine wpList_nil ?_
        refine hK _ _ ?_
        clear hK K
        go_upto_region 13 with (fail)
        rename_i K hK
        refine wp_region_list ?_
        refine wpList_one rfl (w' := V402) (v := .pointer (some ⟨b8, 0, none⟩)) (by kernel_rfl) ?_
        try simp only [Act.put, List.setIfInBounds_toArray, List.set_cons_zero, List.set_cons_succ]
        refine wpList_one rfl (w' := V402) (v := rV h) (exec_regs (.tmp 76) rfl b8 rfl HXb8.out) ?_
        try simp only [Act.put, List.setIfInBounds_toArray, List.set_cons_zero, List.set_cons_succ]
        refine wpList_one rfl (w' := V402) (v := .pointer (some ⟨b15, 0, none⟩)) (by kernel_rfl) ?_
        try simp only [Act.put, List.setIfInBounds_toArray, List.set_cons_zero, List.set_cons_succ]
        refine wpList_store_regs rfl (.tmp 78) (.tmp 77) rfl b15 rfl h g rfl HXb15.out ?_
        intro V403 hn hsv
        have hb := hsv.bel HB.out (by have := HG.out; have := HG1.out; have := HG2.out; have := HG3.out; have := HG4.out; have := HG5.out; omega)
        have hb8 := (hsv.block b8 (lt_of_heap HXb8.out) (by have := HG.out; have := HG1.out; have := HG2.out; have := HG3.out; have := HG4.out; have := HG5.out; omega)).trans HXb8.out
        have hb9 := (hsv.block b9 (lt_of_heap HXb9.out) (by have := HG.out; have := HG1.out; have := HG2.out; have := HG3.out; have := HG4.out; have := HG5.out; omega)).trans HXb9.out
        have hb10 := (hsv.block b10 (lt_of_heap HXb10.out) (by have := HG.out; have := HG1.out; have := HG2.out; have := HG3.out; have := HG4.out; have := HG5.out; omega)).trans HXb10.out
        have hb11 := (hsv.block b11 (lt_of_heap HXb11.out) (by have := HG.out; have := HG1.out; have := HG2.out; have := HG3.out; have := HG4.out; have := HG5.out; omega)).trans HXb11.out
        clear hsv HB HXb8 HXb9 HXb10 HXb11 HXb15
        have HB : Hid (Bel w V403) := Lib.hid hb
        have HXb8 : Hid (HAt V403 b8 h) := Lib.hid hb8
        have HXb9 : Hid (InAt V403 b9 xo xd xa xb xn) := Lib.hid hb9
        have HXb10 : Hid (HAt V403 b10 g) := Lib.hid hb10
        have HXb11 : Hid (EfAt V403 b11 e) := Lib.hid hb11
        have HXb15 : Hid (HAt V403 b15 (regsOf h g)) := Lib.hid hn
        clear hn hb hb8 hb9 hb10 hb11
        try simp only [Act.put, List.setIfInBounds_toArray, List.set_cons_zero, List.set_cons_succ]
        refine wpList_nil ?_
        refine hK _ _ ?_
        clear hK K
        go_upto_region 14 with (fail)
        rename_i K hK
        refine wp_region_list ?_
        refine wpList_one rfl (w' := V403) (v := .pointer (some ⟨b8, 32, none⟩)) (by kernel_rfl) ?_
        try simp only [Act.put, List.setIfInBounds_toArray, List.set_cons_zero, List.set_cons_succ]
        refine wpList_load_cell rfl 3 (.tmp 79) rfl ⟨b8, 32, none⟩ rfl (.int .i64 (h 32)) _ (HXb8.out.cell (j := 32) (by omega)) Tryd.underlying3 rfl ?_
        try simp only [Act.put, List.setIfInBounds_toArray, List.set_cons_zero, List.set_cons_succ]
        refine wpList_one rfl (w' := V403) (v := .pointer (some ⟨b15, 32, none⟩)) (by kernel_rfl) ?_
        try simp only [Act.put, List.setIfInBounds_toArray, List.set_cons_zero, List.set_cons_succ]
        refine wpList_store_cell rfl 3 (.tmp 81) (.tmp 80) rfl b15 32 rfl (.int .i64 (h 32)) rfl (HXb15.out.cell (j := 32) (by omega)) (HXb15.out.frozen 32) sz_int rfl ?_
        have hn := HXb15.out.set (j := 32) (by omega) ((h 32))
        have hb := (Svg.set b15 32 V403 (.int .i64 ((h 32)))).bel HB.out (by have := HG.out; have := HG1.out; have := HG2.out; have := HG3.out; have := HG4.out; have := HG5.out; omega)
        have hb8 := ((Svg.set b15 32 V403 (.int .i64 ((h 32)))).block b8 (lt_of_heap HXb8.out) (by have := HG.out; have := HG1.out; have := HG2.out; have := HG3.out; have := HG4.out; have := HG5.out; omega)).trans HXb8.out
        have hb9 := ((Svg.set b15 32 V403 (.int .i64 ((h 32)))).block b9 (lt_of_heap HXb9.out) (by have := HG.out; have := HG1.out; have := HG2.out; have := HG3.out; have := HG4.out; have := HG5.out; omega)).trans HXb9.out
        have hb10 := ((Svg.set b15 32 V403 (.int .i64 ((h 32)))).block b10 (lt_of_heap HXb10.out) (by have := HG.out; have := HG1.out; have := HG2.out; have := HG3.out; have := HG4.out; have := HG5.out; omega)).trans HXb10.out
        have hb11 := ((Svg.set b15 32 V403 (.int .i64 ((h 32)))).block b11 (lt_of_heap HXb11.out) (by have := HG.out; have := HG1.out; have := HG2.out; have := HG3.out; have := HG4.out; have := HG5.out; omega)).trans HXb11.out
        generalize V403.setCell ⟨b15, 32, none⟩ (.int .i64 ((h 32))) = V404 at hn hb hb8 hb9 hb10 hb11  ⊢
        clear HB HXb8 HXb9 HXb10 HXb11 HXb15
        have HB : Hid (Bel w V404) := Lib.hid hb
        have HXb8 : Hid (HAt V404 b8 h) := Lib.hid hb8
        have HXb9 : Hid (InAt V404 b9 xo xd xa xb xn) := Lib.hid hb9
        have HXb10 : Hid (HAt V404 b10 g) := Lib.hid hb10
        have HXb11 : Hid (EfAt V404 b11 e) := Lib.hid hb11
        have HXb15 : Hid (HAt V404 b15 (up (regsOf h g) 32 ((h 32)))) := Lib.hid hn
        clear hn hb hb8 hb9 hb10 hb11
        try simp only [Act.put, List.setIfInBounds_toArray, List.set_cons_zero, List.set_cons_succ]
        refine wpList_nil ?_
        refine hK _ _ ?_
        clear hK K
        go_upto_region 15 with (fail)
        rename_i K hK
        refine wp_region_list ?_
        with_reducible refine BigFrame.wpList_want ?_ (fun K2 hK2 => ?_)
        · kernel_rfl
        refine wp_one (w' := V404) (v := .bool true) rfl ?_
        with_reducible refine hK2 _ _ ?_
        clear hK2 K2
        try simp only [Act.put, List.setIfInBounds_toArray, List.set_cons_zero, List.set_cons_succ]
        with_reducible refine BigFrame.wpList_want ?_ (fun K2 hK2 => ?_)
        · kernel_rfl
        refine wp_one (w' := V404) (v := .bool true) rfl ?_
        with_reducible refine hK2 _ _ ?_
        clear hK2 K2
        try simp only [Act.put, List.setIfInBounds_toArray, List.set_cons_zero, List.set_cons_succ]
        with_reducible refine BigFrame.wpList_want ?_ (fun K2 hK2 => ?_)
        · kernel_rfl
        refine wp_one (w' := V404) (v := .bool true) rfl ?_
        with_reducible refine hK2 _ _ ?_
        clear hK2 K2
        try simp only [Act.put, List.setIfInBounds_toArray, List.set_cons_zero, List.set_cons_succ]
        with_reducible refine BigFrame.wpList_want ?_ (fun K2 hK2 => ?_)
        · kernel_rfl
        refine wp_one (w' := V404) (v := .bool true) rfl ?_
        with_reducible refine hK2 _ _ ?_
        clear hK2 K2
        try simp only [Act.put, List.setIfInBounds_toArray, List.set_cons_zero, List.set_cons_succ]
        with_reducible refine wpList_skip ?_ ?_
        · kernel_rfl
        try simp only [Act.put, List.setIfInBounds_toArray, List.set_cons_zero, List.set_cons_succ]
        with_reducible refine wpList_skip ?_ ?_
        · kernel_rfl
        try simp only [Act.put, List.setIfInBounds_toArray, List.set_cons_zero, List.set_cons_succ]
        with_reducible refine wpList_skip ?_ ?_
        · kernel_rfl
        try simp only [Act.put, List.setIfInBounds_toArray, List.set_cons_zero, List.set_cons_succ]
        with_reducible refine BigFrame.wpList_want ?_ (fun K2 hK2 => ?_)
        · kernel_rfl
        refine wp_one (w' := V404) (v := .bool true) (by kernel_rfl) ?_
        with_reducible refine hK2 _ _ ?_
        clear hK2 K2
        try simp only [Act.put, List.setIfInBounds_toArray, List.set_cons_zero, List.set_cons_succ]
        with_reducible refine BigFrame.wpList_want ?_ (fun K2 hK2 => ?_)
        · kernel_rfl
        refine wp_one (w' := V404) (v := .bool true) (by kernel_rfl) ?_
        with_reducible refine hK2 _ _ ?_
        clear hK2 K2
        try simp only [Act.put, List.setIfInBounds_toArray, List.set_cons_zero, List.set_cons_succ]
        with_reducible refine BigFrame.wpList_want ?_ (fun K2 hK2 => ?_)
        · kernel_rfl
        refine wp_one (w' := V404) (v := .bool true) rfl ?_
        with_reducible refine hK2 _ _ ?_
        clear hK2 K2
        try simp only [Act.put, List.setIfInBounds_toArray, List.set_cons_zero, List.set_cons_succ]
        refine wpList_nil ?_
        refine hK _ _ ?_
        clear hK K
        go_wp2
        go_ret
        exact ⟨rfl, HB.out⟩
      have E42 := Lib.hid e42
      by_cases e44 : xo = 44
      · have E44 := Lib.hid e44
        clear e40 e41 e42 e44
        go_upto_region 11 with (fail)
        rename_i K hK
        refine wp_region_list ?_
        with_reducible refine BigFrame.wpList_want ?_ (fun K2 hK2 => ?_)
        · kernel_rfl
        refine wp_one (w' := wr) (v := .pointer (some ⟨b9, 0, none⟩)) (by kernel_rfl) ?_
        with_reducible refine hK2 _ _ ?_
        clear hK2 K2
        try simp only [Act.put, List.setIfInBounds_toArray, List.set_cons_zero, List.set_cons_succ]
        with_reducible refine BigFrame.wpList_want ?_ (fun K2 hK2 => ?_)
        · kernel_rfl
        refine wp_one (w' := wr) (v := .int .i64 xo) (exec_cell 3 (.tmp 57) rfl ⟨b9, 0, none⟩ rfl _ _ HXb9.out.cells.1 Tryd.underlying3 rfl) ?_
        with_reducible refine hK2 _ _ ?_
        clear hK2 K2
        try simp only [Act.put, List.setIfInBounds_toArray, List.set_cons_zero, List.set_cons_succ]
        with_reducible refine BigFrame.wpList_want ?_ (fun K2 hK2 => ?_)
        · kernel_rfl
        refine wp_one (w' := wr) (v := .bool false) (exec_eqF rfl rfl rfl (E40.out) wr) ?_
        with_reducible refine hK2 _ _ ?_
        clear hK2 K2
        try simp only [Act.put, List.setIfInBounds_toArray, List.set_cons_zero, List.set_cons_succ]
        with_reducible refine BigFrame.wpList_want ?_ (fun K2 hK2 => ?_)
        · kernel_rfl
        refine wp_one (w' := wr) (v := .bool false) rfl ?_
        with_reducible refine hK2 _ _ ?_
        clear hK2 K2
        try simp only [Act.put, List.setIfInBounds_toArray, List.set_cons_zero, List.set_cons_succ]
        with_reducible refine BigFrame.wpList_want ?_ (fun K2 hK2 => ?_)
        · kernel_rfl
        refine wp_one (w' := wr) (v := .pointer (some ⟨b9, 0, none⟩)) (by kernel_rfl) ?_
        with_reducible refine hK2 _ _ ?_
        clear hK2 K2
        try simp only [Act.put, List.setIfInBounds_toArray, List.set_cons_zero, List.set_cons_succ]
        with_reducible refine BigFrame.wpList_want ?_ (fun K2 hK2 => ?_)
        · kernel_rfl
        refine wp_one (w' := wr) (v := .int .i64 xo) (exec_cell 3 (.tmp 61) rfl ⟨b9, 0, none⟩ rfl _ _ HXb9.out.cells.1 Tryd.underlying3 rfl) ?_
        with_reducible refine hK2 _ _ ?_
        clear hK2 K2
        try simp only [Act.put, List.setIfInBounds_toArray, List.set_cons_zero, List.set_cons_succ]
        with_reducible refine BigFrame.wpList_want ?_ (fun K2 hK2 => ?_)
        · kernel_rfl
        refine wp_one (w' := wr) (v := .bool false) (exec_eqF rfl rfl rfl (E41.out) wr) ?_
        with_reducible refine hK2 _ _ ?_
        clear hK2 K2
        try simp only [Act.put, List.setIfInBounds_toArray, List.set_cons_zero, List.set_cons_succ]
        with_reducible refine BigFrame.wpList_want ?_ (fun K2 hK2 => ?_)
        · kernel_rfl
        refine wp_one (w' := wr) (v := .bool false) (by kernel_rfl) ?_
        with_reducible refine hK2 _ _ ?_
        clear hK2 K2
        try simp only [Act.put, List.setIfInBounds_toArray, List.set_cons_zero, List.set_cons_succ]
        with_reducible refine BigFrame.wpList_want ?_ (fun K2 hK2 => ?_)
        · kernel_rfl
        refine wp_one (w' := wr) (v := .bool false) rfl ?_
        with_reducible refine hK2 _ _ ?_
        clear hK2 K2
        try simp only [Act.put, List.setIfInBounds_toArray, List.set_cons_zero, List.set_cons_succ]
        with_reducible refine BigFrame.wpList_want ?_ (fun K2 hK2 => ?_)
        · kernel_rfl
        refine wp_one (w' := wr) (v := .pointer (some ⟨b9, 0, none⟩)) (by kernel_rfl) ?_
        with_reducible refine hK2 _ _ ?_
        clear hK2 K2
        try simp only [Act.put, List.setIfInBounds_toArray, List.set_cons_zero, List.set_cons_succ]
        with_reducible refine BigFrame.wpList_want ?_ (fun K2 hK2 => ?_)
        · kernel_rfl
        refine wp_one (w' := wr) (v := .int .i64 xo) (exec_cell 3 (.tmp 66) rfl ⟨b9, 0, none⟩ rfl _ _ HXb9.out.cells.1 Tryd.underlying3 rfl) ?_
        with_reducible refine hK2 _ _ ?_
        clear hK2 K2
        try simp only [Act.put, List.setIfInBounds_toArray, List.set_cons_zero, List.set_cons_succ]
        with_reducible refine BigFrame.wpList_want ?_ (fun K2 hK2 => ?_)
        · kernel_rfl
        refine wp_one (w' := wr) (v := .bool false) (exec_eqF rfl rfl rfl (E42.out) wr) ?_
        with_reducible refine hK2 _ _ ?_
        clear hK2 K2
        try simp only [Act.put, List.setIfInBounds_toArray, List.set_cons_zero, List.set_cons_succ]
        with_reducible refine BigFrame.wpList_want ?_ (fun K2 hK2 => ?_)
        · kernel_rfl
        refine wp_one (w' := wr) (v := .bool false) (by kernel_rfl) ?_
        with_reducible refine hK2 _ _ ?_
        clear hK2 K2
        try simp only [Act.put, List.setIfInBounds_toArray, List.set_cons_zero, List.set_cons_succ]
        with_reducible refine BigFrame.wpList_want ?_ (fun K2 hK2 => ?_)
        · kernel_rfl
        refine wp_one (w' := wr) (v := .bool false) rfl ?_
        with_reducible refine hK2 _ _ ?_
        clear hK2 K2
        try simp only [Act.put, List.setIfInBounds_toArray, List.set_cons_zero, List.set_cons_succ]
        with_reducible refine BigFrame.wpList_want ?_ (fun K2 hK2 => ?_)
        · kernel_rfl
        refine wp_one (w' := wr) (v := .pointer (some ⟨b9, 0, none⟩)) (by kernel_rfl) ?_
        with_reducible refine hK2 _ _ ?_
        clear hK2 K2
        try simp only [Act.put, List.setIfInBounds_toArray, List.set_cons_zero, List.set_cons_succ]
        with_reducible refine BigFrame.wpList_want ?_ (fun K2 hK2 => ?_)
        · kernel_rfl
        refine wp_one (w' := wr) (v := .int .i64 xo) (exec_cell 3 (.tmp 71) rfl ⟨b9, 0, none⟩ rfl _ _ HXb9.out.cells.1 Tryd.underlying3 rfl) ?_
        with_reducible refine hK2 _ _ ?_
        clear hK2 K2
        try simp only [Act.put, List.setIfInBounds_toArray, List.set_cons_zero, List.set_cons_succ]
        with_reducible refine BigFrame.wpList_want ?_ (fun K2 hK2 => ?_)
        · kernel_rfl
        refine wp_one (w' := wr) (v := .bool true) (exec_eqI rfl rfl rfl (E44.out) wr) ?_
        with_reducible refine hK2 _ _ ?_
        clear hK2 K2
        try simp only [Act.put, List.setIfInBounds_toArray, List.set_cons_zero, List.set_cons_succ]
        with_reducible refine BigFrame.wpList_want ?_ (fun K2 hK2 => ?_)
        · kernel_rfl
        refine wp_one (w' := wr) (v := .bool true) (by kernel_rfl) ?_
        with_reducible refine hK2 _ _ ?_
        clear hK2 K2
        try simp only [Act.put, List.setIfInBounds_toArray, List.set_cons_zero, List.set_cons_succ]
        with_reducible refine BigFrame.wpList_want ?_ (fun K2 hK2 => ?_)
        · kernel_rfl
        refine wp_one (w' := wr) (v := .bool true) rfl ?_
        with_reducible refine hK2 _ _ ?_
        clear hK2 K2
        try simp only [Act.put, List.setIfInBounds_toArray, List.set_cons_zero, List.set_cons_succ]
        refine wpList_nil ?_
        refine hK _ _ ?_
        clear hK K
        go_upto_region 12 with (fail)
        rename_i K hK
        refine wp_region_list ?_
        refine wpList_load_row rfl 28 (.tmp 10) rfl b10 rfl 28 (hC g) (0, 0) _ HXb10.out Tryd.underlying28 rfl (sz_hart _) ?_
        try simp only [Act.put, List.setIfInBounds_toArray, List.set_cons_zero, List.set_cons_succ]
        obtain ⟨hb, hx⟩ := box1 wr hZ 28
        refine wpList_one rfl (w' := wr.alloc (.cells hZ 28)) (v := .pointer (some ⟨wr.heap.size, 0, none⟩)) (by kernel_rfl) ?_
        try simp only [Act.put, List.setIfInBounds_toArray, List.set_cons_zero, List.set_cons_succ]
        have hl := lt_of_heap HXb11.out
        generalize wr.alloc (.cells hZ 28) = V401 at hb hx ⊢
        generalize wr.heap.size = b15 at hx hl ⊢
        have HG5 := Lib.hid hl
        clear hl
        replace HB : Hid (Bel w V401) := Lib.hid (HB.out.trans hb)
        replace HXb8 : Hid (HAt V401 b8 h) := Lib.hid (HXb8.out.bel hb)
        replace HXb9 : Hid (InAt V401 b9 xo xd xa xb xn) := Lib.hid (HXb9.out.bel hb)
        replace HXb10 : Hid (HAt V401 b10 g) := Lib.hid (HXb10.out.bel hb)
        replace HXb11 : Hid (EfAt V401 b11 e) := Lib.hid (HXb11.out.bel hb)
        have HXb15 : Hid (HAt V401 b15 (fun _ => 0)) := Lib.hid hx
        clear hb hx
        try simp only [Act.put, List.setIfInBounds_toArray, List.set_cons_zero, List.set_cons_succ]
        refine wpList_store_row rfl 28 (.tmp 15) (.tmp 75) rfl b15 (hC g) rfl rfl 28 (hC (fun _ => 0)) HXb15.out (sz_hart _) (by rw [hC_size, hC_size]) (hC_ones _) ?_
        have hn := row_same (cs := (hC g)) HXb15.out
        have hb := row_bel HB.out (g := b15) (by have := HG.out; have := HG1.out; have := HG2.out; have := HG3.out; have := HG4.out; have := HG5.out; omega) (hC g)
        have hb8 := (setRow_other V401 b15 b8 (hC g) (by have := HG.out; have := HG1.out; have := HG2.out; have := HG3.out; have := HG4.out; have := HG5.out; omega)).trans HXb8.out
        have hb9 := (setRow_other V401 b15 b9 (hC g) (by have := HG.out; have := HG1.out; have := HG2.out; have := HG3.out; have := HG4.out; have := HG5.out; omega)).trans HXb9.out
        have hb10 := (setRow_other V401 b15 b10 (hC g) (by have := HG.out; have := HG1.out; have := HG2.out; have := HG3.out; have := HG4.out; have := HG5.out; omega)).trans HXb10.out
        have hb11 := (setRow_other V401 b15 b11 (hC g) (by have := HG.out; have := HG1.out; have := HG2.out; have := HG3.out; have := HG4.out; have := HG5.out; omega)).trans HXb11.out
        generalize V401.setRow b15 (hC g) = V402 at hn hb hb8 hb9 hb10 hb11 ⊢
        clear HB HXb8 HXb9 HXb10 HXb11 HXb15
        have HB : Hid (Bel w V402) := Lib.hid hb
        have HXb8 : Hid (HAt V402 b8 h) := Lib.hid hb8
        have HXb9 : Hid (InAt V402 b9 xo xd xa xb xn) := Lib.hid hb9
        have HXb10 : Hid (HAt V402 b10 g) := Lib.hid hb10
        have HXb11 : Hid (EfAt V402 b11 e) := Lib.hid hb11
        have HXb15 : Hid (HAt V402 b15 g) := Lib.hid hn
        clear hn hb hb8 hb9 hb10 hb11
        try simp only [Act.put, List.setIfInBounds_toArray, List.set_cons_zero, List.set_cons_succ]
        refine wpList_nil ?_
        refine hK _ _ ?_
        clear hK K
        go_upto_region 13 with (fail)
        rename_i K hK
        refine wp_region_list ?_
        refine wpList_one rfl (w' := V402) (v := .pointer (some ⟨b8, 0, none⟩)) (by kernel_rfl) ?_
        try simp only [Act.put, List.setIfInBounds_toArray, List.set_cons_zero, List.set_cons_succ]
        refine wpList_one rfl (w' := V402) (v := rV h) (exec_regs (.tmp 76) rfl b8 rfl HXb8.out) ?_
        try simp only [Act.put, List.setIfInBounds_toArray, List.set_cons_zero, List.set_cons_succ]
        refine wpList_one rfl (w' := V402) (v := .pointer (some ⟨b15, 0, none⟩)) (by kernel_rfl) ?_
        try simp only [Act.put, List.setIfInBounds_toArray, List.set_cons_zero, List.set_cons_succ]
        refine wpList_store_regs rfl (.tmp 78) (.tmp 77) rfl b15 rfl h g rfl HXb15.out ?_
        intro V403 hn hsv
        have hb := hsv.bel HB.out (by have := HG.out; have := HG1.out; have := HG2.out; have := HG3.out; have := HG4.out; have := HG5.out; omega)
        have hb8 := (hsv.block b8 (lt_of_heap HXb8.out) (by have := HG.out; have := HG1.out; have := HG2.out; have := HG3.out; have := HG4.out; have := HG5.out; omega)).trans HXb8.out
        have hb9 := (hsv.block b9 (lt_of_heap HXb9.out) (by have := HG.out; have := HG1.out; have := HG2.out; have := HG3.out; have := HG4.out; have := HG5.out; omega)).trans HXb9.out
        have hb10 := (hsv.block b10 (lt_of_heap HXb10.out) (by have := HG.out; have := HG1.out; have := HG2.out; have := HG3.out; have := HG4.out; have := HG5.out; omega)).trans HXb10.out
        have hb11 := (hsv.block b11 (lt_of_heap HXb11.out) (by have := HG.out; have := HG1.out; have := HG2.out; have := HG3.out; have := HG4.out; have := HG5.out; omega)).trans HXb11.out
        clear hsv HB HXb8 HXb9 HXb10 HXb11 HXb15
        have HB : Hid (Bel w V403) := Lib.hid hb
        have HXb8 : Hid (HAt V403 b8 h) := Lib.hid hb8
        have HXb9 : Hid (InAt V403 b9 xo xd xa xb xn) := Lib.hid hb9
        have HXb10 : Hid (HAt V403 b10 g) := Lib.hid hb10
        have HXb11 : Hid (EfAt V403 b11 e) := Lib.hid hb11
        have HXb15 : Hid (HAt V403 b15 (regsOf h g)) := Lib.hid hn
        clear hn hb hb8 hb9 hb10 hb11
        try simp only [Act.put, List.setIfInBounds_toArray, List.set_cons_zero, List.set_cons_succ]
        refine wpList_nil ?_
        refine hK _ _ ?_
        clear hK K
        go_upto_region 14 with (fail)
        rename_i K hK
        refine wp_region_list ?_
        refine wpList_one rfl (w' := V403) (v := .pointer (some ⟨b8, 32, none⟩)) (by kernel_rfl) ?_
        try simp only [Act.put, List.setIfInBounds_toArray, List.set_cons_zero, List.set_cons_succ]
        refine wpList_load_cell rfl 3 (.tmp 79) rfl ⟨b8, 32, none⟩ rfl (.int .i64 (h 32)) _ (HXb8.out.cell (j := 32) (by omega)) Tryd.underlying3 rfl ?_
        try simp only [Act.put, List.setIfInBounds_toArray, List.set_cons_zero, List.set_cons_succ]
        refine wpList_one rfl (w' := V403) (v := .pointer (some ⟨b15, 32, none⟩)) (by kernel_rfl) ?_
        try simp only [Act.put, List.setIfInBounds_toArray, List.set_cons_zero, List.set_cons_succ]
        refine wpList_store_cell rfl 3 (.tmp 81) (.tmp 80) rfl b15 32 rfl (.int .i64 (h 32)) rfl (HXb15.out.cell (j := 32) (by omega)) (HXb15.out.frozen 32) sz_int rfl ?_
        have hn := HXb15.out.set (j := 32) (by omega) ((h 32))
        have hb := (Svg.set b15 32 V403 (.int .i64 ((h 32)))).bel HB.out (by have := HG.out; have := HG1.out; have := HG2.out; have := HG3.out; have := HG4.out; have := HG5.out; omega)
        have hb8 := ((Svg.set b15 32 V403 (.int .i64 ((h 32)))).block b8 (lt_of_heap HXb8.out) (by have := HG.out; have := HG1.out; have := HG2.out; have := HG3.out; have := HG4.out; have := HG5.out; omega)).trans HXb8.out
        have hb9 := ((Svg.set b15 32 V403 (.int .i64 ((h 32)))).block b9 (lt_of_heap HXb9.out) (by have := HG.out; have := HG1.out; have := HG2.out; have := HG3.out; have := HG4.out; have := HG5.out; omega)).trans HXb9.out
        have hb10 := ((Svg.set b15 32 V403 (.int .i64 ((h 32)))).block b10 (lt_of_heap HXb10.out) (by have := HG.out; have := HG1.out; have := HG2.out; have := HG3.out; have := HG4.out; have := HG5.out; omega)).trans HXb10.out
        have hb11 := ((Svg.set b15 32 V403 (.int .i64 ((h 32)))).block b11 (lt_of_heap HXb11.out) (by have := HG.out; have := HG1.out; have := HG2.out; have := HG3.out; have := HG4.out; have := HG5.out; omega)).trans HXb11.out
        generalize V403.setCell ⟨b15, 32, none⟩ (.int .i64 ((h 32))) = V404 at hn hb hb8 hb9 hb10 hb11  ⊢
        clear HB HXb8 HXb9 HXb10 HXb11 HXb15
        have HB : Hid (Bel w V404) := Lib.hid hb
        have HXb8 : Hid (HAt V404 b8 h) := Lib.hid hb8
        have HXb9 : Hid (InAt V404 b9 xo xd xa xb xn) := Lib.hid hb9
        have HXb10 : Hid (HAt V404 b10 g) := Lib.hid hb10
        have HXb11 : Hid (EfAt V404 b11 e) := Lib.hid hb11
        have HXb15 : Hid (HAt V404 b15 (up (regsOf h g) 32 ((h 32)))) := Lib.hid hn
        clear hn hb hb8 hb9 hb10 hb11
        try simp only [Act.put, List.setIfInBounds_toArray, List.set_cons_zero, List.set_cons_succ]
        refine wpList_nil ?_
        refine hK _ _ ?_
        clear hK K
        go_upto_region 15 with (fail)
        rename_i K hK
        refine wp_region_list ?_
        with_reducible refine BigFrame.wpList_want ?_ (fun K2 hK2 => ?_)
        · kernel_rfl
        refine wp_one (w' := V404) (v := .bool true) rfl ?_
        with_reducible refine hK2 _ _ ?_
        clear hK2 K2
        try simp only [Act.put, List.setIfInBounds_toArray, List.set_cons_zero, List.set_cons_succ]
        with_reducible refine BigFrame.wpList_want ?_ (fun K2 hK2 => ?_)
        · kernel_rfl
        refine wp_one (w' := V404) (v := .bool true) rfl ?_
        with_reducible refine hK2 _ _ ?_
        clear hK2 K2
        try simp only [Act.put, List.setIfInBounds_toArray, List.set_cons_zero, List.set_cons_succ]
        with_reducible refine BigFrame.wpList_want ?_ (fun K2 hK2 => ?_)
        · kernel_rfl
        refine wp_one (w' := V404) (v := .bool true) rfl ?_
        with_reducible refine hK2 _ _ ?_
        clear hK2 K2
        try simp only [Act.put, List.setIfInBounds_toArray, List.set_cons_zero, List.set_cons_succ]
        with_reducible refine BigFrame.wpList_want ?_ (fun K2 hK2 => ?_)
        · kernel_rfl
        refine wp_one (w' := V404) (v := .bool true) rfl ?_
        with_reducible refine hK2 _ _ ?_
        clear hK2 K2
        try simp only [Act.put, List.setIfInBounds_toArray, List.set_cons_zero, List.set_cons_succ]
        with_reducible refine wpList_skip ?_ ?_
        · kernel_rfl
        try simp only [Act.put, List.setIfInBounds_toArray, List.set_cons_zero, List.set_cons_succ]
        with_reducible refine wpList_skip ?_ ?_
        · kernel_rfl
        try simp only [Act.put, List.setIfInBounds_toArray, List.set_cons_zero, List.set_cons_succ]
        with_reducible refine wpList_skip ?_ ?_
        · kernel_rfl
        try simp only [Act.put, List.setIfInBounds_toArray, List.set_cons_zero, List.set_cons_succ]
        with_reducible refine BigFrame.wpList_want ?_ (fun K2 hK2 => ?_)
        · kernel_rfl
        refine wp_one (w' := V404) (v := .bool true) (by kernel_rfl) ?_
        with_reducible refine hK2 _ _ ?_
        clear hK2 K2
        try simp only [Act.put, List.setIfInBounds_toArray, List.set_cons_zero, List.set_cons_succ]
        with_reducible refine BigFrame.wpList_want ?_ (fun K2 hK2 => ?_)
        · kernel_rfl
        refine wp_one (w' := V404) (v := .bool true) (by kernel_rfl) ?_
        with_reducible refine hK2 _ _ ?_
        clear hK2 K2
        try simp only [Act.put, List.setIfInBounds_toArray, List.set_cons_zero, List.set_cons_succ]
        with_reducible refine BigFrame.wpList_want ?_ (fun K2 hK2 => ?_)
        · kernel_rfl
        refine wp_one (w' := V404) (v := .bool true) rfl ?_
        with_reducible refine hK2 _ _ ?_
        clear hK2 K2
        try simp only [Act.put, List.setIfInBounds_toArray, List.set_cons_zero, List.set_cons_succ]
        refine wpList_nil ?_
        refine hK _ _ ?_
        clear hK K
        go_wp2
        go_ret
        exact ⟨rfl, HB.out⟩
      have E44 := Lib.hid e44
      have C2 := Lib.hid (HC.out (by omega))
      clear e40 e41 e42 e44
      go_upto_region 11 with (fail)
      rename_i K hK
      refine wp_region_list ?_
      with_reducible refine BigFrame.wpList_want ?_ (fun K2 hK2 => ?_)
      · kernel_rfl
      refine wp_one (w' := wr) (v := .pointer (some ⟨b9, 0, none⟩)) (by kernel_rfl) ?_
      with_reducible refine hK2 _ _ ?_
      clear hK2 K2
      try simp only [Act.put, List.setIfInBounds_toArray, List.set_cons_zero, List.set_cons_succ]
      with_reducible refine BigFrame.wpList_want ?_ (fun K2 hK2 => ?_)
      · kernel_rfl
      refine wp_one (w' := wr) (v := .int .i64 xo) (exec_cell 3 (.tmp 57) rfl ⟨b9, 0, none⟩ rfl _ _ HXb9.out.cells.1 Tryd.underlying3 rfl) ?_
      with_reducible refine hK2 _ _ ?_
      clear hK2 K2
      try simp only [Act.put, List.setIfInBounds_toArray, List.set_cons_zero, List.set_cons_succ]
      with_reducible refine BigFrame.wpList_want ?_ (fun K2 hK2 => ?_)
      · kernel_rfl
      refine wp_one (w' := wr) (v := .bool false) (exec_eqF rfl rfl rfl (E40.out) wr) ?_
      with_reducible refine hK2 _ _ ?_
      clear hK2 K2
      try simp only [Act.put, List.setIfInBounds_toArray, List.set_cons_zero, List.set_cons_succ]
      with_reducible refine BigFrame.wpList_want ?_ (fun K2 hK2 => ?_)
      · kernel_rfl
      refine wp_one (w' := wr) (v := .bool false) rfl ?_
      with_reducible refine hK2 _ _ ?_
      clear hK2 K2
      try simp only [Act.put, List.setIfInBounds_toArray, List.set_cons_zero, List.set_cons_succ]
      with_reducible refine BigFrame.wpList_want ?_ (fun K2 hK2 => ?_)
      · kernel_rfl
      refine wp_one (w' := wr) (v := .pointer (some ⟨b9, 0, none⟩)) (by kernel_rfl) ?_
      with_reducible refine hK2 _ _ ?_
      clear hK2 K2
      try simp only [Act.put, List.setIfInBounds_toArray, List.set_cons_zero, List.set_cons_succ]
      with_reducible refine BigFrame.wpList_want ?_ (fun K2 hK2 => ?_)
      · kernel_rfl
      refine wp_one (w' := wr) (v := .int .i64 xo) (exec_cell 3 (.tmp 61) rfl ⟨b9, 0, none⟩ rfl _ _ HXb9.out.cells.1 Tryd.underlying3 rfl) ?_
      with_reducible refine hK2 _ _ ?_
      clear hK2 K2
      try simp only [Act.put, List.setIfInBounds_toArray, List.set_cons_zero, List.set_cons_succ]
      with_reducible refine BigFrame.wpList_want ?_ (fun K2 hK2 => ?_)
      · kernel_rfl
      refine wp_one (w' := wr) (v := .bool false) (exec_eqF rfl rfl rfl (E41.out) wr) ?_
      with_reducible refine hK2 _ _ ?_
      clear hK2 K2
      try simp only [Act.put, List.setIfInBounds_toArray, List.set_cons_zero, List.set_cons_succ]
      with_reducible refine BigFrame.wpList_want ?_ (fun K2 hK2 => ?_)
      · kernel_rfl
      refine wp_one (w' := wr) (v := .bool false) (by kernel_rfl) ?_
      with_reducible refine hK2 _ _ ?_
      clear hK2 K2
      try simp only [Act.put, List.setIfInBounds_toArray, List.set_cons_zero, List.set_cons_succ]
      with_reducible refine BigFrame.wpList_want ?_ (fun K2 hK2 => ?_)
      · kernel_rfl
      refine wp_one (w' := wr) (v := .bool false) rfl ?_
      with_reducible refine hK2 _ _ ?_
      clear hK2 K2
      try simp only [Act.put, List.setIfInBounds_toArray, List.set_cons_zero, List.set_cons_succ]
      with_reducible refine BigFrame.wpList_want ?_ (fun K2 hK2 => ?_)
      · kernel_rfl
      refine wp_one (w' := wr) (v := .pointer (some ⟨b9, 0, none⟩)) (by kernel_rfl) ?_
      with_reducible refine hK2 _ _ ?_
      clear hK2 K2
      try simp only [Act.put, List.setIfInBounds_toArray, List.set_cons_zero, List.set_cons_succ]
      with_reducible refine BigFrame.wpList_want ?_ (fun K2 hK2 => ?_)
      · kernel_rfl
      refine wp_one (w' := wr) (v := .int .i64 xo) (exec_cell 3 (.tmp 66) rfl ⟨b9, 0, none⟩ rfl _ _ HXb9.out.cells.1 Tryd.underlying3 rfl) ?_
      with_reducible refine hK2 _ _ ?_
      clear hK2 K2
      try simp only [Act.put, List.setIfInBounds_toArray, List.set_cons_zero, List.set_cons_succ]
      with_reducible refine BigFrame.wpList_want ?_ (fun K2 hK2 => ?_)
      · kernel_rfl
      refine wp_one (w' := wr) (v := .bool false) (exec_eqF rfl rfl rfl (E42.out) wr) ?_
      with_reducible refine hK2 _ _ ?_
      clear hK2 K2
      try simp only [Act.put, List.setIfInBounds_toArray, List.set_cons_zero, List.set_cons_succ]
      with_reducible refine BigFrame.wpList_want ?_ (fun K2 hK2 => ?_)
      · kernel_rfl
      refine wp_one (w' := wr) (v := .bool false) (by kernel_rfl) ?_
      with_reducible refine hK2 _ _ ?_
      clear hK2 K2
      try simp only [Act.put, List.setIfInBounds_toArray, List.set_cons_zero, List.set_cons_succ]
      with_reducible refine BigFrame.wpList_want ?_ (fun K2 hK2 => ?_)
      · kernel_rfl
      refine wp_one (w' := wr) (v := .bool false) rfl ?_
      with_reducible refine hK2 _ _ ?_
      clear hK2 K2
      try simp only [Act.put, List.setIfInBounds_toArray, List.set_cons_zero, List.set_cons_succ]
      with_reducible refine BigFrame.wpList_want ?_ (fun K2 hK2 => ?_)
      · kernel_rfl
      refine wp_one (w' := wr) (v := .pointer (some ⟨b9, 0, none⟩)) (by kernel_rfl) ?_
      with_reducible refine hK2 _ _ ?_
      clear hK2 K2
      try simp only [Act.put, List.setIfInBounds_toArray, List.set_cons_zero, List.set_cons_succ]
      with_reducible refine BigFrame.wpList_want ?_ (fun K2 hK2 => ?_)
      · kernel_rfl
      refine wp_one (w' := wr) (v := .int .i64 xo) (exec_cell 3 (.tmp 71) rfl ⟨b9, 0, none⟩ rfl _ _ HXb9.out.cells.1 Tryd.underlying3 rfl) ?_
      with_reducible refine hK2 _ _ ?_
      clear hK2 K2
      try simp only [Act.put, List.setIfInBounds_toArray, List.set_cons_zero, List.set_cons_succ]
      with_reducible refine BigFrame.wpList_want ?_ (fun K2 hK2 => ?_)
      · kernel_rfl
      refine wp_one (w' := wr) (v := .bool false) (exec_eqF rfl rfl rfl (E44.out) wr) ?_
      with_reducible refine hK2 _ _ ?_
      clear hK2 K2
      try simp only [Act.put, List.setIfInBounds_toArray, List.set_cons_zero, List.set_cons_succ]
      with_reducible refine BigFrame.wpList_want ?_ (fun K2 hK2 => ?_)
      · kernel_rfl
      refine wp_one (w' := wr) (v := .bool false) (by kernel_rfl) ?_
      with_reducible refine hK2 _ _ ?_
      clear hK2 K2
      try simp only [Act.put, List.setIfInBounds_toArray, List.set_cons_zero, List.set_cons_succ]
      with_reducible refine BigFrame.wpList_want ?_ (fun K2 hK2 => ?_)
      · kernel_rfl
      refine wp_one (w' := wr) (v := .bool false) rfl ?_
      with_reducible refine hK2 _ _ ?_
      clear hK2 K2
      try simp only [Act.put, List.setIfInBounds_toArray, List.set_cons_zero, List.set_cons_succ]
      refine wpList_nil ?_
      refine hK _ _ ?_
      clear hK K
      go_upto_region 12 with (fail)
      rename_i K hK
      refine wp_region_list ?_
      refine wpList_load_row rfl 28 (.tmp 10) rfl b10 rfl 28 (hC g) (0, 0) _ HXb10.out Tryd.underlying28 rfl (sz_hart _) ?_
      try simp only [Act.put, List.setIfInBounds_toArray, List.set_cons_zero, List.set_cons_succ]
      obtain ⟨hb, hx⟩ := box1 wr hZ 28
      refine wpList_one rfl (w' := wr.alloc (.cells hZ 28)) (v := .pointer (some ⟨wr.heap.size, 0, none⟩)) (by kernel_rfl) ?_
      try simp only [Act.put, List.setIfInBounds_toArray, List.set_cons_zero, List.set_cons_succ]
      have hl := lt_of_heap HXb11.out
      generalize wr.alloc (.cells hZ 28) = V401 at hb hx ⊢
      generalize wr.heap.size = b15 at hx hl ⊢
      have HG5 := Lib.hid hl
      clear hl
      replace HB : Hid (Bel w V401) := Lib.hid (HB.out.trans hb)
      replace HXb8 : Hid (HAt V401 b8 h) := Lib.hid (HXb8.out.bel hb)
      replace HXb9 : Hid (InAt V401 b9 xo xd xa xb xn) := Lib.hid (HXb9.out.bel hb)
      replace HXb10 : Hid (HAt V401 b10 g) := Lib.hid (HXb10.out.bel hb)
      replace HXb11 : Hid (EfAt V401 b11 e) := Lib.hid (HXb11.out.bel hb)
      have HXb15 : Hid (HAt V401 b15 (fun _ => 0)) := Lib.hid hx
      clear hb hx
      try simp only [Act.put, List.setIfInBounds_toArray, List.set_cons_zero, List.set_cons_succ]
      refine wpList_store_row rfl 28 (.tmp 15) (.tmp 75) rfl b15 (hC g) rfl rfl 28 (hC (fun _ => 0)) HXb15.out (sz_hart _) (by rw [hC_size, hC_size]) (hC_ones _) ?_
      have hn := row_same (cs := (hC g)) HXb15.out
      have hb := row_bel HB.out (g := b15) (by have := HG.out; have := HG1.out; have := HG2.out; have := HG3.out; have := HG4.out; have := HG5.out; omega) (hC g)
      have hb8 := (setRow_other V401 b15 b8 (hC g) (by have := HG.out; have := HG1.out; have := HG2.out; have := HG3.out; have := HG4.out; have := HG5.out; omega)).trans HXb8.out
      have hb9 := (setRow_other V401 b15 b9 (hC g) (by have := HG.out; have := HG1.out; have := HG2.out; have := HG3.out; have := HG4.out; have := HG5.out; omega)).trans HXb9.out
      have hb10 := (setRow_other V401 b15 b10 (hC g) (by have := HG.out; have := HG1.out; have := HG2.out; have := HG3.out; have := HG4.out; have := HG5.out; omega)).trans HXb10.out
      have hb11 := (setRow_other V401 b15 b11 (hC g) (by have := HG.out; have := HG1.out; have := HG2.out; have := HG3.out; have := HG4.out; have := HG5.out; omega)).trans HXb11.out
      generalize V401.setRow b15 (hC g) = V402 at hn hb hb8 hb9 hb10 hb11 ⊢
      clear HB HXb8 HXb9 HXb10 HXb11 HXb15
      have HB : Hid (Bel w V402) := Lib.hid hb
      have HXb8 : Hid (HAt V402 b8 h) := Lib.hid hb8
      have HXb9 : Hid (InAt V402 b9 xo xd xa xb xn) := Lib.hid hb9
      have HXb10 : Hid (HAt V402 b10 g) := Lib.hid hb10
      have HXb11 : Hid (EfAt V402 b11 e) := Lib.hid hb11
      have HXb15 : Hid (HAt V402 b15 g) := Lib.hid hn
      clear hn hb hb8 hb9 hb10 hb11
      try simp only [Act.put, List.setIfInBounds_toArray, List.set_cons_zero, List.set_cons_succ]
      refine wpList_nil ?_
      refine hK _ _ ?_
      clear hK K
      go_upto_region 13 with (fail)
      rename_i K hK
      refine wp_region_list ?_
      refine wpList_one rfl (w' := V402) (v := .pointer (some ⟨b8, 0, none⟩)) (by kernel_rfl) ?_
      try simp only [Act.put, List.setIfInBounds_toArray, List.set_cons_zero, List.set_cons_succ]
      refine wpList_one rfl (w' := V402) (v := rV h) (exec_regs (.tmp 76) rfl b8 rfl HXb8.out) ?_
      try simp only [Act.put, List.setIfInBounds_toArray, List.set_cons_zero, List.set_cons_succ]
      refine wpList_one rfl (w' := V402) (v := .pointer (some ⟨b15, 0, none⟩)) (by kernel_rfl) ?_
      try simp only [Act.put, List.setIfInBounds_toArray, List.set_cons_zero, List.set_cons_succ]
      refine wpList_store_regs rfl (.tmp 78) (.tmp 77) rfl b15 rfl h g rfl HXb15.out ?_
      intro V403 hn hsv
      have hb := hsv.bel HB.out (by have := HG.out; have := HG1.out; have := HG2.out; have := HG3.out; have := HG4.out; have := HG5.out; omega)
      have hb8 := (hsv.block b8 (lt_of_heap HXb8.out) (by have := HG.out; have := HG1.out; have := HG2.out; have := HG3.out; have := HG4.out; have := HG5.out; omega)).trans HXb8.out
      have hb9 := (hsv.block b9 (lt_of_heap HXb9.out) (by have := HG.out; have := HG1.out; have := HG2.out; have := HG3.out; have := HG4.out; have := HG5.out; omega)).trans HXb9.out
      have hb10 := (hsv.block b10 (lt_of_heap HXb10.out) (by have := HG.out; have := HG1.out; have := HG2.out; have := HG3.out; have := HG4.out; have := HG5.out; omega)).trans HXb10.out
      have hb11 := (hsv.block b11 (lt_of_heap HXb11.out) (by have := HG.out; have := HG1.out; have := HG2.out; have := HG3.out; have := HG4.out; have := HG5.out; omega)).trans HXb11.out
      clear hsv HB HXb8 HXb9 HXb10 HXb11 HXb15
      have HB : Hid (Bel w V403) := Lib.hid hb
      have HXb8 : Hid (HAt V403 b8 h) := Lib.hid hb8
      have HXb9 : Hid (InAt V403 b9 xo xd xa xb xn) := Lib.hid hb9
      have HXb10 : Hid (HAt V403 b10 g) := Lib.hid hb10
      have HXb11 : Hid (EfAt V403 b11 e) := Lib.hid hb11
      have HXb15 : Hid (HAt V403 b15 (regsOf h g)) := Lib.hid hn
      clear hn hb hb8 hb9 hb10 hb11
      try simp only [Act.put, List.setIfInBounds_toArray, List.set_cons_zero, List.set_cons_succ]
      refine wpList_nil ?_
      refine hK _ _ ?_
      clear hK K
      go_upto_region 14 with (fail)
      rename_i K hK
      refine wp_region_list ?_
      refine wpList_one rfl (w' := V403) (v := .pointer (some ⟨b8, 32, none⟩)) (by kernel_rfl) ?_
      try simp only [Act.put, List.setIfInBounds_toArray, List.set_cons_zero, List.set_cons_succ]
      refine wpList_load_cell rfl 3 (.tmp 79) rfl ⟨b8, 32, none⟩ rfl (.int .i64 (h 32)) _ (HXb8.out.cell (j := 32) (by omega)) Tryd.underlying3 rfl ?_
      try simp only [Act.put, List.setIfInBounds_toArray, List.set_cons_zero, List.set_cons_succ]
      refine wpList_one rfl (w' := V403) (v := .pointer (some ⟨b15, 32, none⟩)) (by kernel_rfl) ?_
      try simp only [Act.put, List.setIfInBounds_toArray, List.set_cons_zero, List.set_cons_succ]
      refine wpList_store_cell rfl 3 (.tmp 81) (.tmp 80) rfl b15 32 rfl (.int .i64 (h 32)) rfl (HXb15.out.cell (j := 32) (by omega)) (HXb15.out.frozen 32) sz_int rfl ?_
      have hn := HXb15.out.set (j := 32) (by omega) ((h 32))
      have hb := (Svg.set b15 32 V403 (.int .i64 ((h 32)))).bel HB.out (by have := HG.out; have := HG1.out; have := HG2.out; have := HG3.out; have := HG4.out; have := HG5.out; omega)
      have hb8 := ((Svg.set b15 32 V403 (.int .i64 ((h 32)))).block b8 (lt_of_heap HXb8.out) (by have := HG.out; have := HG1.out; have := HG2.out; have := HG3.out; have := HG4.out; have := HG5.out; omega)).trans HXb8.out
      have hb9 := ((Svg.set b15 32 V403 (.int .i64 ((h 32)))).block b9 (lt_of_heap HXb9.out) (by have := HG.out; have := HG1.out; have := HG2.out; have := HG3.out; have := HG4.out; have := HG5.out; omega)).trans HXb9.out
      have hb10 := ((Svg.set b15 32 V403 (.int .i64 ((h 32)))).block b10 (lt_of_heap HXb10.out) (by have := HG.out; have := HG1.out; have := HG2.out; have := HG3.out; have := HG4.out; have := HG5.out; omega)).trans HXb10.out
      have hb11 := ((Svg.set b15 32 V403 (.int .i64 ((h 32)))).block b11 (lt_of_heap HXb11.out) (by have := HG.out; have := HG1.out; have := HG2.out; have := HG3.out; have := HG4.out; have := HG5.out; omega)).trans HXb11.out
      generalize V403.setCell ⟨b15, 32, none⟩ (.int .i64 ((h 32))) = V404 at hn hb hb8 hb9 hb10 hb11  ⊢
      clear HB HXb8 HXb9 HXb10 HXb11 HXb15
      have HB : Hid (Bel w V404) := Lib.hid hb
      have HXb8 : Hid (HAt V404 b8 h) := Lib.hid hb8
      have HXb9 : Hid (InAt V404 b9 xo xd xa xb xn) := Lib.hid hb9
      have HXb10 : Hid (HAt V404 b10 g) := Lib.hid hb10
      have HXb11 : Hid (EfAt V404 b11 e) := Lib.hid hb11
      have HXb15 : Hid (HAt V404 b15 (up (regsOf h g) 32 ((h 32)))) := Lib.hid hn
      clear hn hb hb8 hb9 hb10 hb11
      try simp only [Act.put, List.setIfInBounds_toArray, List.set_cons_zero, List.set_cons_succ]
      refine wpList_nil ?_
      refine hK _ _ ?_
      clear hK K
      go_upto_region 15 with (fail)
      rename_i K hK
      refine wp_region_list ?_
      with_reducible refine BigFrame.wpList_want ?_ (fun K2 hK2 => ?_)
      · kernel_rfl
      refine wp_one (w' := V404) (v := .bool true) rfl ?_
      with_reducible refine hK2 _ _ ?_
      clear hK2 K2
      try simp only [Act.put, List.setIfInBounds_toArray, List.set_cons_zero, List.set_cons_succ]
      with_reducible refine BigFrame.wpList_want ?_ (fun K2 hK2 => ?_)
      · kernel_rfl
      refine wp_one (w' := V404) (v := .bool true) rfl ?_
      with_reducible refine hK2 _ _ ?_
      clear hK2 K2
      try simp only [Act.put, List.setIfInBounds_toArray, List.set_cons_zero, List.set_cons_succ]
      with_reducible refine BigFrame.wpList_want ?_ (fun K2 hK2 => ?_)
      · kernel_rfl
      refine wp_one (w' := V404) (v := .bool false) rfl ?_
      with_reducible refine hK2 _ _ ?_
      clear hK2 K2
      try simp only [Act.put, List.setIfInBounds_toArray, List.set_cons_zero, List.set_cons_succ]
      with_reducible refine BigFrame.wpList_want ?_ (fun K2 hK2 => ?_)
      · kernel_rfl
      refine wp_one (w' := V404) (v := .bool false) rfl ?_
      with_reducible refine hK2 _ _ ?_
      clear hK2 K2
      try simp only [Act.put, List.setIfInBounds_toArray, List.set_cons_zero, List.set_cons_succ]
      with_reducible refine BigFrame.wpList_want ?_ (fun K2 hK2 => ?_)
      · kernel_rfl
      refine wp_one (w' := V404) (v := hv (up (regsOf h g) 32 ((h 32)))) (exec_row 28 (.tmp 15) rfl b15 rfl 28 (hC (up (regsOf h g) 32 ((h 32)))) (0, 0) _ HXb15.out Tryd.underlying28 rfl (sz_hart _)) ?_
      with_reducible refine hK2 _ _ ?_
      clear hK2 K2
      try simp only [Act.put, List.setIfInBounds_toArray, List.set_cons_zero, List.set_cons_succ]
      with_reducible refine BigFrame.wpList_want ?_ (fun K2 hK2 => ?_)
      · kernel_rfl
      refine wp_one (w' := V404) (v := hv h) (exec_row 28 (.tmp 8) rfl b8 rfl 28 (hC h) (0, 0) _ HXb8.out Tryd.underlying28 rfl (sz_hart _)) ?_
      with_reducible refine hK2 _ _ ?_
      clear hK2 K2
      try simp only [Act.put, List.setIfInBounds_toArray, List.set_cons_zero, List.set_cons_succ]
      with_reducible refine BigFrame.wpList_want ?_ (fun K2 hK2 => ?_)
      · kernel_rfl
      refine wp_one (w' := V404) (v := .bool true) (exec_eqH rfl rfl rfl (C2.out) V404) ?_
      with_reducible refine hK2 _ _ ?_
      clear hK2 K2
      try simp only [Act.put, List.setIfInBounds_toArray, List.set_cons_zero, List.set_cons_succ]
      with_reducible refine BigFrame.wpList_want ?_ (fun K2 hK2 => ?_)
      · kernel_rfl
      refine wp_one (w' := V404) (v := .bool true) (by kernel_rfl) ?_
      with_reducible refine hK2 _ _ ?_
      clear hK2 K2
      try simp only [Act.put, List.setIfInBounds_toArray, List.set_cons_zero, List.set_cons_succ]
      with_reducible refine BigFrame.wpList_want ?_ (fun K2 hK2 => ?_)
      · kernel_rfl
      refine wp_one (w' := V404) (v := .bool true) (by kernel_rfl) ?_
      with_reducible refine hK2 _ _ ?_
      clear hK2 K2
      try simp only [Act.put, List.setIfInBounds_toArray, List.set_cons_zero, List.set_cons_succ]
      with_reducible refine BigFrame.wpList_want ?_ (fun K2 hK2 => ?_)
      · kernel_rfl
      refine wp_one (w' := V404) (v := .bool true) rfl ?_
      with_reducible refine hK2 _ _ ?_
      clear hK2 K2
      try simp only [Act.put, List.setIfInBounds_toArray, List.set_cons_zero, List.set_cons_succ]
      refine wpList_nil ?_
      refine hK _ _ ?_
      clear hK K
      go_wp2
      go_ret
      exact ⟨rfl, HB.out⟩
theorem stays_any (w : World) {P : Option Addr} {N C : Nat} {l : List Int} {i : Ins} {id : Int} (hO : OpsAt w) (hn : l.length = N) (hL : IntsQ w P l) (hNC : N ≤ C) (hi : Ins.wf i) :
    Calls Tryd.prog 4 #[.slice P N C, ival i, .int .i64 id] w (OneV (.bool true) w) := by
  obtain ⟨o, d, a, b, n⟩ := i
  obtain ⟨x, hx⟩ : ∃ x, Rv.fit ⟨o, d, a, b, n⟩ = x := ⟨_, rfl⟩
  have hr : Rv.right x = true := hx ▸ Rv.right_fit _
  obtain ⟨xo, xd, xa, xb, xn⟩ := x
  obtain ⟨h, hh⟩ : ∃ h, fitV l = h := ⟨_, rfl⟩
  obtain ⟨g, e, hs⟩ : ∃ g e, stepV h id ⟨xo, xd, xa, xb, xn⟩ = (g, e) := ⟨_, _, rfl⟩
  obtain ⟨s1, s2⟩ := stays hs
  refine stays_w w (Lib.hid hO) (Lib.hid hn) (Lib.hid hL) (Lib.hid hNC) (Lib.hid hh) (Lib.hid hi) (Lib.hid hx) (Lib.hid (right_wf14 hr)) (Lib.hid hs) (Lib.hid rfl) (Lib.hid s1) (Lib.hid fun hc i hi => ?_)
  by_cases c1 : i = 32
  · subst c1; exact up_at _ _ _
  rw [up_ne _ _ c1]
  by_cases c2 : i < 32
  · exact regsOf_lt _ _ c2
  rw [regsOf_ge _ _ c2]
  exact s2 hc i (by omega) hi
end Go.Proofs.YtgcgdjmlngfpeaaDoor
