/- Package hart: Step, by the kinds of instructions. -/
import Derived.Test.YtgcgdjmlngfpeaaDoorHCtl
import Derived.Test.YtgcgdjmlngfpeaaDoorHNum
import Derived.Test.YtgcgdjmlngfpeaaDoorHEff
namespace Go.Proofs.YtgcgdjmlngfpeaaDoor
open Go.RowKit Ht
set_option linter.unusedVariables false
set_option linter.unusedSimpArgs false
set_option maxRecDepth 100000
set_option maxHeartbeats 2000000
theorem right_bel {o d a b n : Int} {r : Bool} (hw : Ins.wf ⟨o, d, a, b, n⟩) (h : Rv.right ⟨o, d, a, b, n⟩ = r) (w : World) : Calls Tryd.prog 31 #[iv o d a b n] w (OneV (.bool r) w) :=
  (right_val hw h w).mono fun e w' hh => ⟨hh.1, hh.2.1⟩
theorem step_bad {h : H} {o d a b n id : Int} {w : World} (hw : Ins.wf ⟨o, d, a, b, n⟩) (hr : Rv.right ⟨o, d, a, b, n⟩ = false) : Calls Tryd.prog 16 #[hv h, .int .i64 id, iv o d a b n] w (OneV (.tuple #[hv h, .agg (eC eBad)]) w) := by
  have HW := Lib.hid hw
  have HRT := Lib.hid hr
  clear hw hr
  have hz := zero_hart
  go_enter Tryd.func16, Tryd.ntmps16
  go_upto_region 1 with (fail)
  obtain ⟨W0, hW, hb, hx3, hx5, hx6, hx7⟩ := boxes4 w (hC h) (iC o d a b n) hZ (eC e0) 28 24 28 34
  first | rw [← hW] | (show Code.wp _ _ _ _ ((((w.alloc (.cells (hC h) 28)).alloc (.cells (iC o d a b n) 24)).alloc (.cells hZ 28)).alloc (.cells (eC e0) 34)); rw [← hW])
  clear hz hW
  have hlt : w.heap.size < W0.heap.size := lt_of_heap hx3
  generalize hg : w.heap.size = g3 at hx3 hx5 hx6 hx7 hlt ⊢
  have HG := Lib.hid hg
  clear hg
  generalize hg : g3 + 1 = g5 at hx5 hx6 hx7 ⊢
  have HG1 := Lib.hid hg
  clear hg
  generalize hg : g5 + 1 = g6 at hx6 hx7 ⊢
  have HG2 := Lib.hid hg
  clear hg
  generalize hg : g6 + 1 = g7 at hx7 ⊢
  have HG3 := Lib.hid hg
  clear hg
  have HXg3 : Hid (HAt W0 g3 h) := Lib.hid hx3
  have HXg5 : Hid (InAt W0 g5 o d a b n) := Lib.hid hx5
  have HXg6 : Hid (HAt W0 g6 (fun _ => 0)) := Lib.hid hx6
  have HXg7 : Hid (EfAt W0 g7 e0) := Lib.hid hx7
  have HB : Hid (Bel w W0) := Lib.hid hb
  clear hb hlt hx3 hx5 hx6 hx7
  rename_i K hK
  refine wp_region_list ?_
  refine wpList_load_row rfl 24 (.tmp 5) rfl g5 rfl 24 (iC o d a b n) (0, 0) _ HXg5.out Tryd.underlying24 rfl (sz_ins _ _ _ _ _) ?_
  try simp only [Act.put, la, lz, ls]
  refine wpList_call rfl (f := 31) (args := #[iv o d a b n]) (v := .bool false) (by kernel_rfl) (right_bel HW.out HRT.out _) ?_
  intro V1 hb
  replace HB : Hid (Bel w V1) := Lib.hid (HB.out.trans hb)
  replace HXg3 : Hid (HAt V1 g3 h) := Lib.hid (HXg3.out.bel hb)
  replace HXg5 : Hid (InAt V1 g5 o d a b n) := Lib.hid (HXg5.out.bel hb)
  replace HXg6 : Hid (HAt V1 g6 (fun _ => 0)) := Lib.hid (HXg6.out.bel hb)
  replace HXg7 : Hid (EfAt V1 g7 e0) := Lib.hid (HXg7.out.bel hb)
  clear hb
  try simp only [Act.put, la, lz, ls]
  refine wpList_one rfl (w' := V1) (v := .bool true) (by kernel_rfl) ?_
  try simp only [Act.put, la, lz, ls]
  refine wpList_nil ?_
  refine hK _ _ ?_
  clear hK K
  go_upto_region 2 with (fail)
  rename_i K hK
  refine wp_region_list ?_
  refine wpList_load_row rfl 28 (.tmp 3) rfl g3 rfl 28 (hC h) (0, 0) _ HXg3.out Tryd.underlying28 rfl (sz_hart _) ?_
  try simp only [Act.put, la, lz, ls]
  refine wpList_call rfl (f := 32) (args := #[hv h]) (v := .tuple #[hv h, .agg (eC eBad)]) (by kernel_rfl) (bad_lit _ _) ?_
  intro V2 hb
  replace HB : Hid (Bel w V2) := Lib.hid (HB.out.trans hb)
  replace HXg3 : Hid (HAt V2 g3 h) := Lib.hid (HXg3.out.bel hb)
  replace HXg5 : Hid (InAt V2 g5 o d a b n) := Lib.hid (HXg5.out.bel hb)
  replace HXg6 : Hid (HAt V2 g6 (fun _ => 0)) := Lib.hid (HXg6.out.bel hb)
  replace HXg7 : Hid (EfAt V2 g7 e0) := Lib.hid (HXg7.out.bel hb)
  clear hb
  try simp only [Act.put, la, lz, ls]
  refine wpList_one rfl (w' := V2) (v := hv h) rfl ?_
  try simp only [Act.put, la, lz, ls]
  refine wpList_one rfl (w' := V2) (v := .agg (eC eBad)) rfl ?_
  try simp only [Act.put, la, lz, ls]
  refine wpList_store_row rfl 28 (.tmp 6) (.tmp 15) rfl g6 (hC h) rfl rfl 28 (hC (fun _ => 0)) HXg6.out (sz_hart _) (by rw [hC_size, hC_size]) (hC_ones _) ?_
  have hn := row_same (cs := (hC h)) HXg6.out
  have hb := row_bel HB.out (g := g6) (by have := HG.out; have := HG1.out; have := HG2.out; have := HG3.out; omega) (hC h)
  have hg3 := (setRow_other V2 g6 g3 (hC h) (by have := HG.out; have := HG1.out; have := HG2.out; have := HG3.out; omega)).trans HXg3.out
  have hg5 := (setRow_other V2 g6 g5 (hC h) (by have := HG.out; have := HG1.out; have := HG2.out; have := HG3.out; omega)).trans HXg5.out
  have hg7 := (setRow_other V2 g6 g7 (hC h) (by have := HG.out; have := HG1.out; have := HG2.out; have := HG3.out; omega)).trans HXg7.out
  generalize V2.setRow g6 (hC h) = V3 at hn hb hg3 hg5 hg7 ⊢
  clear HB HXg3 HXg5 HXg6 HXg7
  have HB : Hid (Bel w V3) := Lib.hid hb
  have HXg3 : Hid (HAt V3 g3 h) := Lib.hid hg3
  have HXg5 : Hid (InAt V3 g5 o d a b n) := Lib.hid hg5
  have HXg7 : Hid (EfAt V3 g7 e0) := Lib.hid hg7
  have HXg6 : Hid (HAt V3 g6 h) := Lib.hid hn
  clear hn hb hg3 hg5 hg7
  try simp only [Act.put, la, lz, ls]
  refine wpList_store_row rfl 34 (.tmp 7) (.tmp 16) rfl g7 (eC eBad) rfl rfl 34 (eC e0) HXg7.out (sz_eff _) rfl (eC_ones _) ?_
  have hn := row_same (cs := (eC eBad)) HXg7.out
  have hb := row_bel HB.out (g := g7) (by have := HG.out; have := HG1.out; have := HG2.out; have := HG3.out; omega) (eC eBad)
  have hg3 := (setRow_other V3 g7 g3 (eC eBad) (by have := HG.out; have := HG1.out; have := HG2.out; have := HG3.out; omega)).trans HXg3.out
  have hg5 := (setRow_other V3 g7 g5 (eC eBad) (by have := HG.out; have := HG1.out; have := HG2.out; have := HG3.out; omega)).trans HXg5.out
  have hg6 := (setRow_other V3 g7 g6 (eC eBad) (by have := HG.out; have := HG1.out; have := HG2.out; have := HG3.out; omega)).trans HXg6.out
  generalize V3.setRow g7 (eC eBad) = V4 at hn hb hg3 hg5 hg6 ⊢
  clear HB HXg3 HXg5 HXg6 HXg7
  have HB : Hid (Bel w V4) := Lib.hid hb
  have HXg3 : Hid (HAt V4 g3 h) := Lib.hid hg3
  have HXg5 : Hid (InAt V4 g5 o d a b n) := Lib.hid hg5
  have HXg6 : Hid (HAt V4 g6 h) := Lib.hid hg6
  have HXg7 : Hid (EfAt V4 g7 eBad) := Lib.hid hn
  clear hn hb hg3 hg5 hg6
  try simp only [Act.put, la, lz, ls]
  refine wpList_nil ?_
  refine hK _ _ (wp_ret ?_)
  exact bodyPost_ret (results_cells2 Tryd.results16 _ _ g6 g7 _ _ _ _ _ _ _ _ (by rfl) (by rfl) HXg6.out HXg7.out Tryd.underlying28 rfl (sz_hart _) Tryd.underlying34 rfl (sz_eff _)) (by rfl) ⟨rfl, HB.out⟩
theorem step_3 {h h1 h2 : H} {a b : Nat} {d n v id : Int} {e : Eff}  {w : World} (hw : Ins.wf ⟨3, d, a, b, n⟩) (hr : Rv.right ⟨3, d, a, b, n⟩ = true) (hc : ∀ W, Bel w W → Calls Tryd.prog 33 #[hv h, iv 3 d (a : Int) (b : Int) n] W (OneV (hv h1) W)) : Calls Tryd.prog 16 #[hv h, .int .i64 id, iv 3 d (a : Int) (b : Int) n] w (OneV (.tuple #[hv h1, .agg (eC e0)]) w) := by
  have HW := Lib.hid hw
  have HRT := Lib.hid hr
  clear hw hr
  have HC := Lib.hid hc
  clear hc
  have hz := zero_hart
  go_enter Tryd.func16, Tryd.ntmps16
  go_upto_region 1 with (fail)
  obtain ⟨W0, hW, hb, hx3, hx5, hx6, hx7⟩ := boxes4 w (hC h) (iC 3 d (a : Int) (b : Int) n) hZ (eC e0) 28 24 28 34
  first | rw [← hW] | (show Code.wp _ _ _ _ ((((w.alloc (.cells (hC h) 28)).alloc (.cells (iC 3 d (a : Int) (b : Int) n) 24)).alloc (.cells hZ 28)).alloc (.cells (eC e0) 34)); rw [← hW])
  clear hz hW
  have hlt : w.heap.size < W0.heap.size := lt_of_heap hx3
  generalize hg : w.heap.size = g3 at hx3 hx5 hx6 hx7 hlt ⊢
  have HG := Lib.hid hg
  clear hg
  generalize hg : g3 + 1 = g5 at hx5 hx6 hx7 ⊢
  have HG1 := Lib.hid hg
  clear hg
  generalize hg : g5 + 1 = g6 at hx6 hx7 ⊢
  have HG2 := Lib.hid hg
  clear hg
  generalize hg : g6 + 1 = g7 at hx7 ⊢
  have HG3 := Lib.hid hg
  clear hg
  have HXg3 : Hid (HAt W0 g3 h) := Lib.hid hx3
  have HXg5 : Hid (InAt W0 g5 3 d (a : Int) (b : Int) n) := Lib.hid hx5
  have HXg6 : Hid (HAt W0 g6 (fun _ => 0)) := Lib.hid hx6
  have HXg7 : Hid (EfAt W0 g7 e0) := Lib.hid hx7
  have HB : Hid (Bel w W0) := Lib.hid hb
  clear hb hlt hx3 hx5 hx6 hx7
  rename_i K hK
  refine wp_region_list ?_
  refine wpList_load_row rfl 24 (.tmp 5) rfl g5 rfl 24 (iC 3 d (a : Int) (b : Int) n) (0, 0) _ HXg5.out Tryd.underlying24 rfl (sz_ins _ _ _ _ _) ?_
  try simp only [Act.put, la, lz, ls]
  refine wpList_call rfl (f := 31) (args := #[iv 3 d (a : Int) (b : Int) n]) (v := .bool true) (by kernel_rfl) (right_bel HW.out HRT.out _) ?_
  intro V1 hb
  replace HB : Hid (Bel w V1) := Lib.hid (HB.out.trans hb)
  replace HXg3 : Hid (HAt V1 g3 h) := Lib.hid (HXg3.out.bel hb)
  replace HXg5 : Hid (InAt V1 g5 3 d (a : Int) (b : Int) n) := Lib.hid (HXg5.out.bel hb)
  replace HXg6 : Hid (HAt V1 g6 (fun _ => 0)) := Lib.hid (HXg6.out.bel hb)
  replace HXg7 : Hid (EfAt V1 g7 e0) := Lib.hid (HXg7.out.bel hb)
  clear hb
  try simp only [Act.put, la, lz, ls]
  refine wpList_one rfl (w' := V1) (v := .bool false) (by kernel_rfl) ?_
  try simp only [Act.put, la, lz, ls]
  refine wpList_nil ?_
  refine hK _ _ ?_
  clear hK K
  have kg5_0 := HXg5.out.cells.1
  go_upto_region 6 with (fail)
  rename_i K hK
  refine wp_region_list ?_
  refine wpList_load_row rfl 28 (.tmp 3) rfl g3 rfl 28 (hC h) (0, 0) _ HXg3.out Tryd.underlying28 rfl (sz_hart _) ?_
  try simp only [Act.put, la, lz, ls]
  refine wpList_load_row rfl 24 (.tmp 5) rfl g5 rfl 24 (iC 3 d (a : Int) (b : Int) n) (0, 0) _ HXg5.out Tryd.underlying24 rfl (sz_ins _ _ _ _ _) ?_
  try simp only [Act.put, la, lz, ls]
  refine wpList_call rfl (f := 33) (args := #[hv h, iv 3 d (a : Int) (b : Int) n]) (v := hv h1) (by kernel_rfl) (HC.out _ HB.out) ?_
  intro V2 hb
  replace HB : Hid (Bel w V2) := Lib.hid (HB.out.trans hb)
  replace HXg3 : Hid (HAt V2 g3 h) := Lib.hid (HXg3.out.bel hb)
  replace HXg5 : Hid (InAt V2 g5 3 d (a : Int) (b : Int) n) := Lib.hid (HXg5.out.bel hb)
  replace HXg6 : Hid (HAt V2 g6 (fun _ => 0)) := Lib.hid (HXg6.out.bel hb)
  replace HXg7 : Hid (EfAt V2 g7 e0) := Lib.hid (HXg7.out.bel hb)
  clear hb
  try simp only [Act.put, la, lz, ls]
  refine wpList_one rfl (w' := V2) (v := .agg (eC e0)) (by kernel_rfl) ?_
  try simp only [Act.put, la, lz, ls]
  refine wpList_store_row rfl 28 (.tmp 6) (.tmp 24) rfl g6 (hC h1) rfl rfl 28 (hC (fun _ => 0)) HXg6.out (sz_hart _) (by rw [hC_size, hC_size]) (hC_ones _) ?_
  have hn := row_same (cs := (hC h1)) HXg6.out
  have hb := row_bel HB.out (g := g6) (by have := HG.out; have := HG1.out; have := HG2.out; have := HG3.out; omega) (hC h1)
  have hg3 := (setRow_other V2 g6 g3 (hC h1) (by have := HG.out; have := HG1.out; have := HG2.out; have := HG3.out; omega)).trans HXg3.out
  have hg5 := (setRow_other V2 g6 g5 (hC h1) (by have := HG.out; have := HG1.out; have := HG2.out; have := HG3.out; omega)).trans HXg5.out
  have hg7 := (setRow_other V2 g6 g7 (hC h1) (by have := HG.out; have := HG1.out; have := HG2.out; have := HG3.out; omega)).trans HXg7.out
  generalize V2.setRow g6 (hC h1) = V3 at hn hb hg3 hg5 hg7 ⊢
  clear HB HXg3 HXg5 HXg6 HXg7
  have HB : Hid (Bel w V3) := Lib.hid hb
  have HXg3 : Hid (HAt V3 g3 h) := Lib.hid hg3
  have HXg5 : Hid (InAt V3 g5 3 d (a : Int) (b : Int) n) := Lib.hid hg5
  have HXg7 : Hid (EfAt V3 g7 e0) := Lib.hid hg7
  have HXg6 : Hid (HAt V3 g6 h1) := Lib.hid hn
  clear hn hb hg3 hg5 hg7
  try simp only [Act.put, la, lz, ls]
  refine wpList_store_row rfl 34 (.tmp 7) (.tmp 25) rfl g7 (eC e0) rfl rfl 34 (eC e0) HXg7.out (sz_eff _) rfl (eC_ones _) ?_
  have hn := row_same (cs := (eC e0)) HXg7.out
  have hb := row_bel HB.out (g := g7) (by have := HG.out; have := HG1.out; have := HG2.out; have := HG3.out; omega) (eC e0)
  have hg3 := (setRow_other V3 g7 g3 (eC e0) (by have := HG.out; have := HG1.out; have := HG2.out; have := HG3.out; omega)).trans HXg3.out
  have hg5 := (setRow_other V3 g7 g5 (eC e0) (by have := HG.out; have := HG1.out; have := HG2.out; have := HG3.out; omega)).trans HXg5.out
  have hg6 := (setRow_other V3 g7 g6 (eC e0) (by have := HG.out; have := HG1.out; have := HG2.out; have := HG3.out; omega)).trans HXg6.out
  generalize V3.setRow g7 (eC e0) = V4 at hn hb hg3 hg5 hg6 ⊢
  clear HB HXg3 HXg5 HXg6 HXg7
  have HB : Hid (Bel w V4) := Lib.hid hb
  have HXg3 : Hid (HAt V4 g3 h) := Lib.hid hg3
  have HXg5 : Hid (InAt V4 g5 3 d (a : Int) (b : Int) n) := Lib.hid hg5
  have HXg6 : Hid (HAt V4 g6 h1) := Lib.hid hg6
  have HXg7 : Hid (EfAt V4 g7 e0) := Lib.hid hn
  clear hn hb hg3 hg5 hg6
  try simp only [Act.put, la, lz, ls]
  refine wpList_nil ?_
  refine hK _ _ (wp_ret ?_)
  exact bodyPost_ret (results_cells2 Tryd.results16 _ _ g6 g7 _ _ _ _ _ _ _ _ (by rfl) (by rfl) HXg6.out HXg7.out Tryd.underlying28 rfl (sz_hart _) Tryd.underlying34 rfl (sz_eff _)) (by rfl) ⟨rfl, HB.out⟩
theorem step_4 {h h1 h2 : H} {a b : Nat} {d n v id : Int} {e : Eff}  {w : World} (hw : Ins.wf ⟨4, d, a, b, n⟩) (hr : Rv.right ⟨4, d, a, b, n⟩ = true) (hc : ∀ W, Bel w W → Calls Tryd.prog 33 #[hv h, iv 4 d (a : Int) (b : Int) n] W (OneV (hv h1) W)) : Calls Tryd.prog 16 #[hv h, .int .i64 id, iv 4 d (a : Int) (b : Int) n] w (OneV (.tuple #[hv h1, .agg (eC e0)]) w) := by
  have HW := Lib.hid hw
  have HRT := Lib.hid hr
  clear hw hr
  have HC := Lib.hid hc
  clear hc
  have hz := zero_hart
  go_enter Tryd.func16, Tryd.ntmps16
  go_upto_region 1 with (fail)
  obtain ⟨W0, hW, hb, hx3, hx5, hx6, hx7⟩ := boxes4 w (hC h) (iC 4 d (a : Int) (b : Int) n) hZ (eC e0) 28 24 28 34
  first | rw [← hW] | (show Code.wp _ _ _ _ ((((w.alloc (.cells (hC h) 28)).alloc (.cells (iC 4 d (a : Int) (b : Int) n) 24)).alloc (.cells hZ 28)).alloc (.cells (eC e0) 34)); rw [← hW])
  clear hz hW
  have hlt : w.heap.size < W0.heap.size := lt_of_heap hx3
  generalize hg : w.heap.size = g3 at hx3 hx5 hx6 hx7 hlt ⊢
  have HG := Lib.hid hg
  clear hg
  generalize hg : g3 + 1 = g5 at hx5 hx6 hx7 ⊢
  have HG1 := Lib.hid hg
  clear hg
  generalize hg : g5 + 1 = g6 at hx6 hx7 ⊢
  have HG2 := Lib.hid hg
  clear hg
  generalize hg : g6 + 1 = g7 at hx7 ⊢
  have HG3 := Lib.hid hg
  clear hg
  have HXg3 : Hid (HAt W0 g3 h) := Lib.hid hx3
  have HXg5 : Hid (InAt W0 g5 4 d (a : Int) (b : Int) n) := Lib.hid hx5
  have HXg6 : Hid (HAt W0 g6 (fun _ => 0)) := Lib.hid hx6
  have HXg7 : Hid (EfAt W0 g7 e0) := Lib.hid hx7
  have HB : Hid (Bel w W0) := Lib.hid hb
  clear hb hlt hx3 hx5 hx6 hx7
  rename_i K hK
  refine wp_region_list ?_
  refine wpList_load_row rfl 24 (.tmp 5) rfl g5 rfl 24 (iC 4 d (a : Int) (b : Int) n) (0, 0) _ HXg5.out Tryd.underlying24 rfl (sz_ins _ _ _ _ _) ?_
  try simp only [Act.put, la, lz, ls]
  refine wpList_call rfl (f := 31) (args := #[iv 4 d (a : Int) (b : Int) n]) (v := .bool true) (by kernel_rfl) (right_bel HW.out HRT.out _) ?_
  intro V1 hb
  replace HB : Hid (Bel w V1) := Lib.hid (HB.out.trans hb)
  replace HXg3 : Hid (HAt V1 g3 h) := Lib.hid (HXg3.out.bel hb)
  replace HXg5 : Hid (InAt V1 g5 4 d (a : Int) (b : Int) n) := Lib.hid (HXg5.out.bel hb)
  replace HXg6 : Hid (HAt V1 g6 (fun _ => 0)) := Lib.hid (HXg6.out.bel hb)
  replace HXg7 : Hid (EfAt V1 g7 e0) := Lib.hid (HXg7.out.bel hb)
  clear hb
  try simp only [Act.put, la, lz, ls]
  refine wpList_one rfl (w' := V1) (v := .bool false) (by kernel_rfl) ?_
  try simp only [Act.put, la, lz, ls]
  refine wpList_nil ?_
  refine hK _ _ ?_
  clear hK K
  have kg5_0 := HXg5.out.cells.1
  go_upto_region 6 with (fail)
  rename_i K hK
  refine wp_region_list ?_
  refine wpList_load_row rfl 28 (.tmp 3) rfl g3 rfl 28 (hC h) (0, 0) _ HXg3.out Tryd.underlying28 rfl (sz_hart _) ?_
  try simp only [Act.put, la, lz, ls]
  refine wpList_load_row rfl 24 (.tmp 5) rfl g5 rfl 24 (iC 4 d (a : Int) (b : Int) n) (0, 0) _ HXg5.out Tryd.underlying24 rfl (sz_ins _ _ _ _ _) ?_
  try simp only [Act.put, la, lz, ls]
  refine wpList_call rfl (f := 33) (args := #[hv h, iv 4 d (a : Int) (b : Int) n]) (v := hv h1) (by kernel_rfl) (HC.out _ HB.out) ?_
  intro V2 hb
  replace HB : Hid (Bel w V2) := Lib.hid (HB.out.trans hb)
  replace HXg3 : Hid (HAt V2 g3 h) := Lib.hid (HXg3.out.bel hb)
  replace HXg5 : Hid (InAt V2 g5 4 d (a : Int) (b : Int) n) := Lib.hid (HXg5.out.bel hb)
  replace HXg6 : Hid (HAt V2 g6 (fun _ => 0)) := Lib.hid (HXg6.out.bel hb)
  replace HXg7 : Hid (EfAt V2 g7 e0) := Lib.hid (HXg7.out.bel hb)
  clear hb
  try simp only [Act.put, la, lz, ls]
  refine wpList_one rfl (w' := V2) (v := .agg (eC e0)) (by kernel_rfl) ?_
  try simp only [Act.put, la, lz, ls]
  refine wpList_store_row rfl 28 (.tmp 6) (.tmp 24) rfl g6 (hC h1) rfl rfl 28 (hC (fun _ => 0)) HXg6.out (sz_hart _) (by rw [hC_size, hC_size]) (hC_ones _) ?_
  have hn := row_same (cs := (hC h1)) HXg6.out
  have hb := row_bel HB.out (g := g6) (by have := HG.out; have := HG1.out; have := HG2.out; have := HG3.out; omega) (hC h1)
  have hg3 := (setRow_other V2 g6 g3 (hC h1) (by have := HG.out; have := HG1.out; have := HG2.out; have := HG3.out; omega)).trans HXg3.out
  have hg5 := (setRow_other V2 g6 g5 (hC h1) (by have := HG.out; have := HG1.out; have := HG2.out; have := HG3.out; omega)).trans HXg5.out
  have hg7 := (setRow_other V2 g6 g7 (hC h1) (by have := HG.out; have := HG1.out; have := HG2.out; have := HG3.out; omega)).trans HXg7.out
  generalize V2.setRow g6 (hC h1) = V3 at hn hb hg3 hg5 hg7 ⊢
  clear HB HXg3 HXg5 HXg6 HXg7
  have HB : Hid (Bel w V3) := Lib.hid hb
  have HXg3 : Hid (HAt V3 g3 h) := Lib.hid hg3
  have HXg5 : Hid (InAt V3 g5 4 d (a : Int) (b : Int) n) := Lib.hid hg5
  have HXg7 : Hid (EfAt V3 g7 e0) := Lib.hid hg7
  have HXg6 : Hid (HAt V3 g6 h1) := Lib.hid hn
  clear hn hb hg3 hg5 hg7
  try simp only [Act.put, la, lz, ls]
  refine wpList_store_row rfl 34 (.tmp 7) (.tmp 25) rfl g7 (eC e0) rfl rfl 34 (eC e0) HXg7.out (sz_eff _) rfl (eC_ones _) ?_
  have hn := row_same (cs := (eC e0)) HXg7.out
  have hb := row_bel HB.out (g := g7) (by have := HG.out; have := HG1.out; have := HG2.out; have := HG3.out; omega) (eC e0)
  have hg3 := (setRow_other V3 g7 g3 (eC e0) (by have := HG.out; have := HG1.out; have := HG2.out; have := HG3.out; omega)).trans HXg3.out
  have hg5 := (setRow_other V3 g7 g5 (eC e0) (by have := HG.out; have := HG1.out; have := HG2.out; have := HG3.out; omega)).trans HXg5.out
  have hg6 := (setRow_other V3 g7 g6 (eC e0) (by have := HG.out; have := HG1.out; have := HG2.out; have := HG3.out; omega)).trans HXg6.out
  generalize V3.setRow g7 (eC e0) = V4 at hn hb hg3 hg5 hg6 ⊢
  clear HB HXg3 HXg5 HXg6 HXg7
  have HB : Hid (Bel w V4) := Lib.hid hb
  have HXg3 : Hid (HAt V4 g3 h) := Lib.hid hg3
  have HXg5 : Hid (InAt V4 g5 4 d (a : Int) (b : Int) n) := Lib.hid hg5
  have HXg6 : Hid (HAt V4 g6 h1) := Lib.hid hg6
  have HXg7 : Hid (EfAt V4 g7 e0) := Lib.hid hn
  clear hn hb hg3 hg5 hg6
  try simp only [Act.put, la, lz, ls]
  refine wpList_nil ?_
  refine hK _ _ (wp_ret ?_)
  exact bodyPost_ret (results_cells2 Tryd.results16 _ _ g6 g7 _ _ _ _ _ _ _ _ (by rfl) (by rfl) HXg6.out HXg7.out Tryd.underlying28 rfl (sz_hart _) Tryd.underlying34 rfl (sz_eff _)) (by rfl) ⟨rfl, HB.out⟩
theorem step_5 {h h1 h2 : H} {a b : Nat} {d n v id : Int} {e : Eff}  {w : World} (hw : Ins.wf ⟨5, d, a, b, n⟩) (hr : Rv.right ⟨5, d, a, b, n⟩ = true) (hc : ∀ W, Bel w W → Calls Tryd.prog 34 #[hv h, iv 5 d (a : Int) (b : Int) n] W (OneV (hv h1) W)) : Calls Tryd.prog 16 #[hv h, .int .i64 id, iv 5 d (a : Int) (b : Int) n] w (OneV (.tuple #[hv h1, .agg (eC e0)]) w) := by
  have HW := Lib.hid hw
  have HRT := Lib.hid hr
  clear hw hr
  have HC := Lib.hid hc
  clear hc
  have hz := zero_hart
  go_enter Tryd.func16, Tryd.ntmps16
  go_upto_region 1 with (fail)
  obtain ⟨W0, hW, hb, hx3, hx5, hx6, hx7⟩ := boxes4 w (hC h) (iC 5 d (a : Int) (b : Int) n) hZ (eC e0) 28 24 28 34
  first | rw [← hW] | (show Code.wp _ _ _ _ ((((w.alloc (.cells (hC h) 28)).alloc (.cells (iC 5 d (a : Int) (b : Int) n) 24)).alloc (.cells hZ 28)).alloc (.cells (eC e0) 34)); rw [← hW])
  clear hz hW
  have hlt : w.heap.size < W0.heap.size := lt_of_heap hx3
  generalize hg : w.heap.size = g3 at hx3 hx5 hx6 hx7 hlt ⊢
  have HG := Lib.hid hg
  clear hg
  generalize hg : g3 + 1 = g5 at hx5 hx6 hx7 ⊢
  have HG1 := Lib.hid hg
  clear hg
  generalize hg : g5 + 1 = g6 at hx6 hx7 ⊢
  have HG2 := Lib.hid hg
  clear hg
  generalize hg : g6 + 1 = g7 at hx7 ⊢
  have HG3 := Lib.hid hg
  clear hg
  have HXg3 : Hid (HAt W0 g3 h) := Lib.hid hx3
  have HXg5 : Hid (InAt W0 g5 5 d (a : Int) (b : Int) n) := Lib.hid hx5
  have HXg6 : Hid (HAt W0 g6 (fun _ => 0)) := Lib.hid hx6
  have HXg7 : Hid (EfAt W0 g7 e0) := Lib.hid hx7
  have HB : Hid (Bel w W0) := Lib.hid hb
  clear hb hlt hx3 hx5 hx6 hx7
  rename_i K hK
  refine wp_region_list ?_
  refine wpList_load_row rfl 24 (.tmp 5) rfl g5 rfl 24 (iC 5 d (a : Int) (b : Int) n) (0, 0) _ HXg5.out Tryd.underlying24 rfl (sz_ins _ _ _ _ _) ?_
  try simp only [Act.put, la, lz, ls]
  refine wpList_call rfl (f := 31) (args := #[iv 5 d (a : Int) (b : Int) n]) (v := .bool true) (by kernel_rfl) (right_bel HW.out HRT.out _) ?_
  intro V1 hb
  replace HB : Hid (Bel w V1) := Lib.hid (HB.out.trans hb)
  replace HXg3 : Hid (HAt V1 g3 h) := Lib.hid (HXg3.out.bel hb)
  replace HXg5 : Hid (InAt V1 g5 5 d (a : Int) (b : Int) n) := Lib.hid (HXg5.out.bel hb)
  replace HXg6 : Hid (HAt V1 g6 (fun _ => 0)) := Lib.hid (HXg6.out.bel hb)
  replace HXg7 : Hid (EfAt V1 g7 e0) := Lib.hid (HXg7.out.bel hb)
  clear hb
  try simp only [Act.put, la, lz, ls]
  refine wpList_one rfl (w' := V1) (v := .bool false) (by kernel_rfl) ?_
  try simp only [Act.put, la, lz, ls]
  refine wpList_nil ?_
  refine hK _ _ ?_
  clear hK K
  have kg5_0 := HXg5.out.cells.1
  go_upto_region 13 with (fail)
  rename_i K hK
  refine wp_region_list ?_
  refine wpList_load_row rfl 28 (.tmp 3) rfl g3 rfl 28 (hC h) (0, 0) _ HXg3.out Tryd.underlying28 rfl (sz_hart _) ?_
  try simp only [Act.put, la, lz, ls]
  refine wpList_load_row rfl 24 (.tmp 5) rfl g5 rfl 24 (iC 5 d (a : Int) (b : Int) n) (0, 0) _ HXg5.out Tryd.underlying24 rfl (sz_ins _ _ _ _ _) ?_
  try simp only [Act.put, la, lz, ls]
  refine wpList_call rfl (f := 34) (args := #[hv h, iv 5 d (a : Int) (b : Int) n]) (v := hv h1) (by kernel_rfl) (HC.out _ HB.out) ?_
  intro V2 hb
  replace HB : Hid (Bel w V2) := Lib.hid (HB.out.trans hb)
  replace HXg3 : Hid (HAt V2 g3 h) := Lib.hid (HXg3.out.bel hb)
  replace HXg5 : Hid (InAt V2 g5 5 d (a : Int) (b : Int) n) := Lib.hid (HXg5.out.bel hb)
  replace HXg6 : Hid (HAt V2 g6 (fun _ => 0)) := Lib.hid (HXg6.out.bel hb)
  replace HXg7 : Hid (EfAt V2 g7 e0) := Lib.hid (HXg7.out.bel hb)
  clear hb
  try simp only [Act.put, la, lz, ls]
  refine wpList_one rfl (w' := V2) (v := .agg (eC e0)) (by kernel_rfl) ?_
  try simp only [Act.put, la, lz, ls]
  refine wpList_store_row rfl 28 (.tmp 6) (.tmp 35) rfl g6 (hC h1) rfl rfl 28 (hC (fun _ => 0)) HXg6.out (sz_hart _) (by rw [hC_size, hC_size]) (hC_ones _) ?_
  have hn := row_same (cs := (hC h1)) HXg6.out
  have hb := row_bel HB.out (g := g6) (by have := HG.out; have := HG1.out; have := HG2.out; have := HG3.out; omega) (hC h1)
  have hg3 := (setRow_other V2 g6 g3 (hC h1) (by have := HG.out; have := HG1.out; have := HG2.out; have := HG3.out; omega)).trans HXg3.out
  have hg5 := (setRow_other V2 g6 g5 (hC h1) (by have := HG.out; have := HG1.out; have := HG2.out; have := HG3.out; omega)).trans HXg5.out
  have hg7 := (setRow_other V2 g6 g7 (hC h1) (by have := HG.out; have := HG1.out; have := HG2.out; have := HG3.out; omega)).trans HXg7.out
  generalize V2.setRow g6 (hC h1) = V3 at hn hb hg3 hg5 hg7 ⊢
  clear HB HXg3 HXg5 HXg6 HXg7
  have HB : Hid (Bel w V3) := Lib.hid hb
  have HXg3 : Hid (HAt V3 g3 h) := Lib.hid hg3
  have HXg5 : Hid (InAt V3 g5 5 d (a : Int) (b : Int) n) := Lib.hid hg5
  have HXg7 : Hid (EfAt V3 g7 e0) := Lib.hid hg7
  have HXg6 : Hid (HAt V3 g6 h1) := Lib.hid hn
  clear hn hb hg3 hg5 hg7
  try simp only [Act.put, la, lz, ls]
  refine wpList_store_row rfl 34 (.tmp 7) (.tmp 36) rfl g7 (eC e0) rfl rfl 34 (eC e0) HXg7.out (sz_eff _) rfl (eC_ones _) ?_
  have hn := row_same (cs := (eC e0)) HXg7.out
  have hb := row_bel HB.out (g := g7) (by have := HG.out; have := HG1.out; have := HG2.out; have := HG3.out; omega) (eC e0)
  have hg3 := (setRow_other V3 g7 g3 (eC e0) (by have := HG.out; have := HG1.out; have := HG2.out; have := HG3.out; omega)).trans HXg3.out
  have hg5 := (setRow_other V3 g7 g5 (eC e0) (by have := HG.out; have := HG1.out; have := HG2.out; have := HG3.out; omega)).trans HXg5.out
  have hg6 := (setRow_other V3 g7 g6 (eC e0) (by have := HG.out; have := HG1.out; have := HG2.out; have := HG3.out; omega)).trans HXg6.out
  generalize V3.setRow g7 (eC e0) = V4 at hn hb hg3 hg5 hg6 ⊢
  clear HB HXg3 HXg5 HXg6 HXg7
  have HB : Hid (Bel w V4) := Lib.hid hb
  have HXg3 : Hid (HAt V4 g3 h) := Lib.hid hg3
  have HXg5 : Hid (InAt V4 g5 5 d (a : Int) (b : Int) n) := Lib.hid hg5
  have HXg6 : Hid (HAt V4 g6 h1) := Lib.hid hg6
  have HXg7 : Hid (EfAt V4 g7 e0) := Lib.hid hn
  clear hn hb hg3 hg5 hg6
  try simp only [Act.put, la, lz, ls]
  refine wpList_nil ?_
  refine hK _ _ (wp_ret ?_)
  exact bodyPost_ret (results_cells2 Tryd.results16 _ _ g6 g7 _ _ _ _ _ _ _ _ (by rfl) (by rfl) HXg6.out HXg7.out Tryd.underlying28 rfl (sz_hart _) Tryd.underlying34 rfl (sz_eff _)) (by rfl) ⟨rfl, HB.out⟩
theorem step_6 {h h1 h2 : H} {a b : Nat} {d n v id : Int} {e : Eff}  {w : World} (hw : Ins.wf ⟨6, d, a, b, n⟩) (hr : Rv.right ⟨6, d, a, b, n⟩ = true) (hc : ∀ W, Bel w W → Calls Tryd.prog 34 #[hv h, iv 6 d (a : Int) (b : Int) n] W (OneV (hv h1) W)) : Calls Tryd.prog 16 #[hv h, .int .i64 id, iv 6 d (a : Int) (b : Int) n] w (OneV (.tuple #[hv h1, .agg (eC e0)]) w) := by
  have HW := Lib.hid hw
  have HRT := Lib.hid hr
  clear hw hr
  have HC := Lib.hid hc
  clear hc
  have hz := zero_hart
  go_enter Tryd.func16, Tryd.ntmps16
  go_upto_region 1 with (fail)
  obtain ⟨W0, hW, hb, hx3, hx5, hx6, hx7⟩ := boxes4 w (hC h) (iC 6 d (a : Int) (b : Int) n) hZ (eC e0) 28 24 28 34
  first | rw [← hW] | (show Code.wp _ _ _ _ ((((w.alloc (.cells (hC h) 28)).alloc (.cells (iC 6 d (a : Int) (b : Int) n) 24)).alloc (.cells hZ 28)).alloc (.cells (eC e0) 34)); rw [← hW])
  clear hz hW
  have hlt : w.heap.size < W0.heap.size := lt_of_heap hx3
  generalize hg : w.heap.size = g3 at hx3 hx5 hx6 hx7 hlt ⊢
  have HG := Lib.hid hg
  clear hg
  generalize hg : g3 + 1 = g5 at hx5 hx6 hx7 ⊢
  have HG1 := Lib.hid hg
  clear hg
  generalize hg : g5 + 1 = g6 at hx6 hx7 ⊢
  have HG2 := Lib.hid hg
  clear hg
  generalize hg : g6 + 1 = g7 at hx7 ⊢
  have HG3 := Lib.hid hg
  clear hg
  have HXg3 : Hid (HAt W0 g3 h) := Lib.hid hx3
  have HXg5 : Hid (InAt W0 g5 6 d (a : Int) (b : Int) n) := Lib.hid hx5
  have HXg6 : Hid (HAt W0 g6 (fun _ => 0)) := Lib.hid hx6
  have HXg7 : Hid (EfAt W0 g7 e0) := Lib.hid hx7
  have HB : Hid (Bel w W0) := Lib.hid hb
  clear hb hlt hx3 hx5 hx6 hx7
  rename_i K hK
  refine wp_region_list ?_
  refine wpList_load_row rfl 24 (.tmp 5) rfl g5 rfl 24 (iC 6 d (a : Int) (b : Int) n) (0, 0) _ HXg5.out Tryd.underlying24 rfl (sz_ins _ _ _ _ _) ?_
  try simp only [Act.put, la, lz, ls]
  refine wpList_call rfl (f := 31) (args := #[iv 6 d (a : Int) (b : Int) n]) (v := .bool true) (by kernel_rfl) (right_bel HW.out HRT.out _) ?_
  intro V1 hb
  replace HB : Hid (Bel w V1) := Lib.hid (HB.out.trans hb)
  replace HXg3 : Hid (HAt V1 g3 h) := Lib.hid (HXg3.out.bel hb)
  replace HXg5 : Hid (InAt V1 g5 6 d (a : Int) (b : Int) n) := Lib.hid (HXg5.out.bel hb)
  replace HXg6 : Hid (HAt V1 g6 (fun _ => 0)) := Lib.hid (HXg6.out.bel hb)
  replace HXg7 : Hid (EfAt V1 g7 e0) := Lib.hid (HXg7.out.bel hb)
  clear hb
  try simp only [Act.put, la, lz, ls]
  refine wpList_one rfl (w' := V1) (v := .bool false) (by kernel_rfl) ?_
  try simp only [Act.put, la, lz, ls]
  refine wpList_nil ?_
  refine hK _ _ ?_
  clear hK K
  have kg5_0 := HXg5.out.cells.1
  go_upto_region 13 with (fail)
  rename_i K hK
  refine wp_region_list ?_
  refine wpList_load_row rfl 28 (.tmp 3) rfl g3 rfl 28 (hC h) (0, 0) _ HXg3.out Tryd.underlying28 rfl (sz_hart _) ?_
  try simp only [Act.put, la, lz, ls]
  refine wpList_load_row rfl 24 (.tmp 5) rfl g5 rfl 24 (iC 6 d (a : Int) (b : Int) n) (0, 0) _ HXg5.out Tryd.underlying24 rfl (sz_ins _ _ _ _ _) ?_
  try simp only [Act.put, la, lz, ls]
  refine wpList_call rfl (f := 34) (args := #[hv h, iv 6 d (a : Int) (b : Int) n]) (v := hv h1) (by kernel_rfl) (HC.out _ HB.out) ?_
  intro V2 hb
  replace HB : Hid (Bel w V2) := Lib.hid (HB.out.trans hb)
  replace HXg3 : Hid (HAt V2 g3 h) := Lib.hid (HXg3.out.bel hb)
  replace HXg5 : Hid (InAt V2 g5 6 d (a : Int) (b : Int) n) := Lib.hid (HXg5.out.bel hb)
  replace HXg6 : Hid (HAt V2 g6 (fun _ => 0)) := Lib.hid (HXg6.out.bel hb)
  replace HXg7 : Hid (EfAt V2 g7 e0) := Lib.hid (HXg7.out.bel hb)
  clear hb
  try simp only [Act.put, la, lz, ls]
  refine wpList_one rfl (w' := V2) (v := .agg (eC e0)) (by kernel_rfl) ?_
  try simp only [Act.put, la, lz, ls]
  refine wpList_store_row rfl 28 (.tmp 6) (.tmp 35) rfl g6 (hC h1) rfl rfl 28 (hC (fun _ => 0)) HXg6.out (sz_hart _) (by rw [hC_size, hC_size]) (hC_ones _) ?_
  have hn := row_same (cs := (hC h1)) HXg6.out
  have hb := row_bel HB.out (g := g6) (by have := HG.out; have := HG1.out; have := HG2.out; have := HG3.out; omega) (hC h1)
  have hg3 := (setRow_other V2 g6 g3 (hC h1) (by have := HG.out; have := HG1.out; have := HG2.out; have := HG3.out; omega)).trans HXg3.out
  have hg5 := (setRow_other V2 g6 g5 (hC h1) (by have := HG.out; have := HG1.out; have := HG2.out; have := HG3.out; omega)).trans HXg5.out
  have hg7 := (setRow_other V2 g6 g7 (hC h1) (by have := HG.out; have := HG1.out; have := HG2.out; have := HG3.out; omega)).trans HXg7.out
  generalize V2.setRow g6 (hC h1) = V3 at hn hb hg3 hg5 hg7 ⊢
  clear HB HXg3 HXg5 HXg6 HXg7
  have HB : Hid (Bel w V3) := Lib.hid hb
  have HXg3 : Hid (HAt V3 g3 h) := Lib.hid hg3
  have HXg5 : Hid (InAt V3 g5 6 d (a : Int) (b : Int) n) := Lib.hid hg5
  have HXg7 : Hid (EfAt V3 g7 e0) := Lib.hid hg7
  have HXg6 : Hid (HAt V3 g6 h1) := Lib.hid hn
  clear hn hb hg3 hg5 hg7
  try simp only [Act.put, la, lz, ls]
  refine wpList_store_row rfl 34 (.tmp 7) (.tmp 36) rfl g7 (eC e0) rfl rfl 34 (eC e0) HXg7.out (sz_eff _) rfl (eC_ones _) ?_
  have hn := row_same (cs := (eC e0)) HXg7.out
  have hb := row_bel HB.out (g := g7) (by have := HG.out; have := HG1.out; have := HG2.out; have := HG3.out; omega) (eC e0)
  have hg3 := (setRow_other V3 g7 g3 (eC e0) (by have := HG.out; have := HG1.out; have := HG2.out; have := HG3.out; omega)).trans HXg3.out
  have hg5 := (setRow_other V3 g7 g5 (eC e0) (by have := HG.out; have := HG1.out; have := HG2.out; have := HG3.out; omega)).trans HXg5.out
  have hg6 := (setRow_other V3 g7 g6 (eC e0) (by have := HG.out; have := HG1.out; have := HG2.out; have := HG3.out; omega)).trans HXg6.out
  generalize V3.setRow g7 (eC e0) = V4 at hn hb hg3 hg5 hg6 ⊢
  clear HB HXg3 HXg5 HXg6 HXg7
  have HB : Hid (Bel w V4) := Lib.hid hb
  have HXg3 : Hid (HAt V4 g3 h) := Lib.hid hg3
  have HXg5 : Hid (InAt V4 g5 6 d (a : Int) (b : Int) n) := Lib.hid hg5
  have HXg6 : Hid (HAt V4 g6 h1) := Lib.hid hg6
  have HXg7 : Hid (EfAt V4 g7 e0) := Lib.hid hn
  clear hn hb hg3 hg5 hg6
  try simp only [Act.put, la, lz, ls]
  refine wpList_nil ?_
  refine hK _ _ (wp_ret ?_)
  exact bodyPost_ret (results_cells2 Tryd.results16 _ _ g6 g7 _ _ _ _ _ _ _ _ (by rfl) (by rfl) HXg6.out HXg7.out Tryd.underlying28 rfl (sz_hart _) Tryd.underlying34 rfl (sz_eff _)) (by rfl) ⟨rfl, HB.out⟩
theorem step_7 {h h1 h2 : H} {a b : Nat} {d n v id : Int} {e : Eff}  {w : World} (hw : Ins.wf ⟨7, d, a, b, n⟩) (hr : Rv.right ⟨7, d, a, b, n⟩ = true) (hc : ∀ W, Bel w W → Calls Tryd.prog 34 #[hv h, iv 7 d (a : Int) (b : Int) n] W (OneV (hv h1) W)) : Calls Tryd.prog 16 #[hv h, .int .i64 id, iv 7 d (a : Int) (b : Int) n] w (OneV (.tuple #[hv h1, .agg (eC e0)]) w) := by
  have HW := Lib.hid hw
  have HRT := Lib.hid hr
  clear hw hr
  have HC := Lib.hid hc
  clear hc
  have hz := zero_hart
  go_enter Tryd.func16, Tryd.ntmps16
  go_upto_region 1 with (fail)
  obtain ⟨W0, hW, hb, hx3, hx5, hx6, hx7⟩ := boxes4 w (hC h) (iC 7 d (a : Int) (b : Int) n) hZ (eC e0) 28 24 28 34
  first | rw [← hW] | (show Code.wp _ _ _ _ ((((w.alloc (.cells (hC h) 28)).alloc (.cells (iC 7 d (a : Int) (b : Int) n) 24)).alloc (.cells hZ 28)).alloc (.cells (eC e0) 34)); rw [← hW])
  clear hz hW
  have hlt : w.heap.size < W0.heap.size := lt_of_heap hx3
  generalize hg : w.heap.size = g3 at hx3 hx5 hx6 hx7 hlt ⊢
  have HG := Lib.hid hg
  clear hg
  generalize hg : g3 + 1 = g5 at hx5 hx6 hx7 ⊢
  have HG1 := Lib.hid hg
  clear hg
  generalize hg : g5 + 1 = g6 at hx6 hx7 ⊢
  have HG2 := Lib.hid hg
  clear hg
  generalize hg : g6 + 1 = g7 at hx7 ⊢
  have HG3 := Lib.hid hg
  clear hg
  have HXg3 : Hid (HAt W0 g3 h) := Lib.hid hx3
  have HXg5 : Hid (InAt W0 g5 7 d (a : Int) (b : Int) n) := Lib.hid hx5
  have HXg6 : Hid (HAt W0 g6 (fun _ => 0)) := Lib.hid hx6
  have HXg7 : Hid (EfAt W0 g7 e0) := Lib.hid hx7
  have HB : Hid (Bel w W0) := Lib.hid hb
  clear hb hlt hx3 hx5 hx6 hx7
  rename_i K hK
  refine wp_region_list ?_
  refine wpList_load_row rfl 24 (.tmp 5) rfl g5 rfl 24 (iC 7 d (a : Int) (b : Int) n) (0, 0) _ HXg5.out Tryd.underlying24 rfl (sz_ins _ _ _ _ _) ?_
  try simp only [Act.put, la, lz, ls]
  refine wpList_call rfl (f := 31) (args := #[iv 7 d (a : Int) (b : Int) n]) (v := .bool true) (by kernel_rfl) (right_bel HW.out HRT.out _) ?_
  intro V1 hb
  replace HB : Hid (Bel w V1) := Lib.hid (HB.out.trans hb)
  replace HXg3 : Hid (HAt V1 g3 h) := Lib.hid (HXg3.out.bel hb)
  replace HXg5 : Hid (InAt V1 g5 7 d (a : Int) (b : Int) n) := Lib.hid (HXg5.out.bel hb)
  replace HXg6 : Hid (HAt V1 g6 (fun _ => 0)) := Lib.hid (HXg6.out.bel hb)
  replace HXg7 : Hid (EfAt V1 g7 e0) := Lib.hid (HXg7.out.bel hb)
  clear hb
  try simp only [Act.put, la, lz, ls]
  refine wpList_one rfl (w' := V1) (v := .bool false) (by kernel_rfl) ?_
  try simp only [Act.put, la, lz, ls]
  refine wpList_nil ?_
  refine hK _ _ ?_
  clear hK K
  have kg5_0 := HXg5.out.cells.1
  go_upto_region 13 with (fail)
  rename_i K hK
  refine wp_region_list ?_
  refine wpList_load_row rfl 28 (.tmp 3) rfl g3 rfl 28 (hC h) (0, 0) _ HXg3.out Tryd.underlying28 rfl (sz_hart _) ?_
  try simp only [Act.put, la, lz, ls]
  refine wpList_load_row rfl 24 (.tmp 5) rfl g5 rfl 24 (iC 7 d (a : Int) (b : Int) n) (0, 0) _ HXg5.out Tryd.underlying24 rfl (sz_ins _ _ _ _ _) ?_
  try simp only [Act.put, la, lz, ls]
  refine wpList_call rfl (f := 34) (args := #[hv h, iv 7 d (a : Int) (b : Int) n]) (v := hv h1) (by kernel_rfl) (HC.out _ HB.out) ?_
  intro V2 hb
  replace HB : Hid (Bel w V2) := Lib.hid (HB.out.trans hb)
  replace HXg3 : Hid (HAt V2 g3 h) := Lib.hid (HXg3.out.bel hb)
  replace HXg5 : Hid (InAt V2 g5 7 d (a : Int) (b : Int) n) := Lib.hid (HXg5.out.bel hb)
  replace HXg6 : Hid (HAt V2 g6 (fun _ => 0)) := Lib.hid (HXg6.out.bel hb)
  replace HXg7 : Hid (EfAt V2 g7 e0) := Lib.hid (HXg7.out.bel hb)
  clear hb
  try simp only [Act.put, la, lz, ls]
  refine wpList_one rfl (w' := V2) (v := .agg (eC e0)) (by kernel_rfl) ?_
  try simp only [Act.put, la, lz, ls]
  refine wpList_store_row rfl 28 (.tmp 6) (.tmp 35) rfl g6 (hC h1) rfl rfl 28 (hC (fun _ => 0)) HXg6.out (sz_hart _) (by rw [hC_size, hC_size]) (hC_ones _) ?_
  have hn := row_same (cs := (hC h1)) HXg6.out
  have hb := row_bel HB.out (g := g6) (by have := HG.out; have := HG1.out; have := HG2.out; have := HG3.out; omega) (hC h1)
  have hg3 := (setRow_other V2 g6 g3 (hC h1) (by have := HG.out; have := HG1.out; have := HG2.out; have := HG3.out; omega)).trans HXg3.out
  have hg5 := (setRow_other V2 g6 g5 (hC h1) (by have := HG.out; have := HG1.out; have := HG2.out; have := HG3.out; omega)).trans HXg5.out
  have hg7 := (setRow_other V2 g6 g7 (hC h1) (by have := HG.out; have := HG1.out; have := HG2.out; have := HG3.out; omega)).trans HXg7.out
  generalize V2.setRow g6 (hC h1) = V3 at hn hb hg3 hg5 hg7 ⊢
  clear HB HXg3 HXg5 HXg6 HXg7
  have HB : Hid (Bel w V3) := Lib.hid hb
  have HXg3 : Hid (HAt V3 g3 h) := Lib.hid hg3
  have HXg5 : Hid (InAt V3 g5 7 d (a : Int) (b : Int) n) := Lib.hid hg5
  have HXg7 : Hid (EfAt V3 g7 e0) := Lib.hid hg7
  have HXg6 : Hid (HAt V3 g6 h1) := Lib.hid hn
  clear hn hb hg3 hg5 hg7
  try simp only [Act.put, la, lz, ls]
  refine wpList_store_row rfl 34 (.tmp 7) (.tmp 36) rfl g7 (eC e0) rfl rfl 34 (eC e0) HXg7.out (sz_eff _) rfl (eC_ones _) ?_
  have hn := row_same (cs := (eC e0)) HXg7.out
  have hb := row_bel HB.out (g := g7) (by have := HG.out; have := HG1.out; have := HG2.out; have := HG3.out; omega) (eC e0)
  have hg3 := (setRow_other V3 g7 g3 (eC e0) (by have := HG.out; have := HG1.out; have := HG2.out; have := HG3.out; omega)).trans HXg3.out
  have hg5 := (setRow_other V3 g7 g5 (eC e0) (by have := HG.out; have := HG1.out; have := HG2.out; have := HG3.out; omega)).trans HXg5.out
  have hg6 := (setRow_other V3 g7 g6 (eC e0) (by have := HG.out; have := HG1.out; have := HG2.out; have := HG3.out; omega)).trans HXg6.out
  generalize V3.setRow g7 (eC e0) = V4 at hn hb hg3 hg5 hg6 ⊢
  clear HB HXg3 HXg5 HXg6 HXg7
  have HB : Hid (Bel w V4) := Lib.hid hb
  have HXg3 : Hid (HAt V4 g3 h) := Lib.hid hg3
  have HXg5 : Hid (InAt V4 g5 7 d (a : Int) (b : Int) n) := Lib.hid hg5
  have HXg6 : Hid (HAt V4 g6 h1) := Lib.hid hg6
  have HXg7 : Hid (EfAt V4 g7 e0) := Lib.hid hn
  clear hn hb hg3 hg5 hg6
  try simp only [Act.put, la, lz, ls]
  refine wpList_nil ?_
  refine hK _ _ (wp_ret ?_)
  exact bodyPost_ret (results_cells2 Tryd.results16 _ _ g6 g7 _ _ _ _ _ _ _ _ (by rfl) (by rfl) HXg6.out HXg7.out Tryd.underlying28 rfl (sz_hart _) Tryd.underlying34 rfl (sz_eff _)) (by rfl) ⟨rfl, HB.out⟩
theorem step_8 {h h1 h2 : H} {a b : Nat} {d n v id : Int} {e : Eff}  {w : World} (hw : Ins.wf ⟨8, d, a, b, n⟩) (hr : Rv.right ⟨8, d, a, b, n⟩ = true) (hc : ∀ W, Bel w W → Calls Tryd.prog 34 #[hv h, iv 8 d (a : Int) (b : Int) n] W (OneV (hv h1) W)) : Calls Tryd.prog 16 #[hv h, .int .i64 id, iv 8 d (a : Int) (b : Int) n] w (OneV (.tuple #[hv h1, .agg (eC e0)]) w) := by
  have HW := Lib.hid hw
  have HRT := Lib.hid hr
  clear hw hr
  have HC := Lib.hid hc
  clear hc
  have hz := zero_hart
  go_enter Tryd.func16, Tryd.ntmps16
  go_upto_region 1 with (fail)
  obtain ⟨W0, hW, hb, hx3, hx5, hx6, hx7⟩ := boxes4 w (hC h) (iC 8 d (a : Int) (b : Int) n) hZ (eC e0) 28 24 28 34
  first | rw [← hW] | (show Code.wp _ _ _ _ ((((w.alloc (.cells (hC h) 28)).alloc (.cells (iC 8 d (a : Int) (b : Int) n) 24)).alloc (.cells hZ 28)).alloc (.cells (eC e0) 34)); rw [← hW])
  clear hz hW
  have hlt : w.heap.size < W0.heap.size := lt_of_heap hx3
  generalize hg : w.heap.size = g3 at hx3 hx5 hx6 hx7 hlt ⊢
  have HG := Lib.hid hg
  clear hg
  generalize hg : g3 + 1 = g5 at hx5 hx6 hx7 ⊢
  have HG1 := Lib.hid hg
  clear hg
  generalize hg : g5 + 1 = g6 at hx6 hx7 ⊢
  have HG2 := Lib.hid hg
  clear hg
  generalize hg : g6 + 1 = g7 at hx7 ⊢
  have HG3 := Lib.hid hg
  clear hg
  have HXg3 : Hid (HAt W0 g3 h) := Lib.hid hx3
  have HXg5 : Hid (InAt W0 g5 8 d (a : Int) (b : Int) n) := Lib.hid hx5
  have HXg6 : Hid (HAt W0 g6 (fun _ => 0)) := Lib.hid hx6
  have HXg7 : Hid (EfAt W0 g7 e0) := Lib.hid hx7
  have HB : Hid (Bel w W0) := Lib.hid hb
  clear hb hlt hx3 hx5 hx6 hx7
  rename_i K hK
  refine wp_region_list ?_
  refine wpList_load_row rfl 24 (.tmp 5) rfl g5 rfl 24 (iC 8 d (a : Int) (b : Int) n) (0, 0) _ HXg5.out Tryd.underlying24 rfl (sz_ins _ _ _ _ _) ?_
  try simp only [Act.put, la, lz, ls]
  refine wpList_call rfl (f := 31) (args := #[iv 8 d (a : Int) (b : Int) n]) (v := .bool true) (by kernel_rfl) (right_bel HW.out HRT.out _) ?_
  intro V1 hb
  replace HB : Hid (Bel w V1) := Lib.hid (HB.out.trans hb)
  replace HXg3 : Hid (HAt V1 g3 h) := Lib.hid (HXg3.out.bel hb)
  replace HXg5 : Hid (InAt V1 g5 8 d (a : Int) (b : Int) n) := Lib.hid (HXg5.out.bel hb)
  replace HXg6 : Hid (HAt V1 g6 (fun _ => 0)) := Lib.hid (HXg6.out.bel hb)
  replace HXg7 : Hid (EfAt V1 g7 e0) := Lib.hid (HXg7.out.bel hb)
  clear hb
  try simp only [Act.put, la, lz, ls]
  refine wpList_one rfl (w' := V1) (v := .bool false) (by kernel_rfl) ?_
  try simp only [Act.put, la, lz, ls]
  refine wpList_nil ?_
  refine hK _ _ ?_
  clear hK K
  have kg5_0 := HXg5.out.cells.1
  go_upto_region 13 with (fail)
  rename_i K hK
  refine wp_region_list ?_
  refine wpList_load_row rfl 28 (.tmp 3) rfl g3 rfl 28 (hC h) (0, 0) _ HXg3.out Tryd.underlying28 rfl (sz_hart _) ?_
  try simp only [Act.put, la, lz, ls]
  refine wpList_load_row rfl 24 (.tmp 5) rfl g5 rfl 24 (iC 8 d (a : Int) (b : Int) n) (0, 0) _ HXg5.out Tryd.underlying24 rfl (sz_ins _ _ _ _ _) ?_
  try simp only [Act.put, la, lz, ls]
  refine wpList_call rfl (f := 34) (args := #[hv h, iv 8 d (a : Int) (b : Int) n]) (v := hv h1) (by kernel_rfl) (HC.out _ HB.out) ?_
  intro V2 hb
  replace HB : Hid (Bel w V2) := Lib.hid (HB.out.trans hb)
  replace HXg3 : Hid (HAt V2 g3 h) := Lib.hid (HXg3.out.bel hb)
  replace HXg5 : Hid (InAt V2 g5 8 d (a : Int) (b : Int) n) := Lib.hid (HXg5.out.bel hb)
  replace HXg6 : Hid (HAt V2 g6 (fun _ => 0)) := Lib.hid (HXg6.out.bel hb)
  replace HXg7 : Hid (EfAt V2 g7 e0) := Lib.hid (HXg7.out.bel hb)
  clear hb
  try simp only [Act.put, la, lz, ls]
  refine wpList_one rfl (w' := V2) (v := .agg (eC e0)) (by kernel_rfl) ?_
  try simp only [Act.put, la, lz, ls]
  refine wpList_store_row rfl 28 (.tmp 6) (.tmp 35) rfl g6 (hC h1) rfl rfl 28 (hC (fun _ => 0)) HXg6.out (sz_hart _) (by rw [hC_size, hC_size]) (hC_ones _) ?_
  have hn := row_same (cs := (hC h1)) HXg6.out
  have hb := row_bel HB.out (g := g6) (by have := HG.out; have := HG1.out; have := HG2.out; have := HG3.out; omega) (hC h1)
  have hg3 := (setRow_other V2 g6 g3 (hC h1) (by have := HG.out; have := HG1.out; have := HG2.out; have := HG3.out; omega)).trans HXg3.out
  have hg5 := (setRow_other V2 g6 g5 (hC h1) (by have := HG.out; have := HG1.out; have := HG2.out; have := HG3.out; omega)).trans HXg5.out
  have hg7 := (setRow_other V2 g6 g7 (hC h1) (by have := HG.out; have := HG1.out; have := HG2.out; have := HG3.out; omega)).trans HXg7.out
  generalize V2.setRow g6 (hC h1) = V3 at hn hb hg3 hg5 hg7 ⊢
  clear HB HXg3 HXg5 HXg6 HXg7
  have HB : Hid (Bel w V3) := Lib.hid hb
  have HXg3 : Hid (HAt V3 g3 h) := Lib.hid hg3
  have HXg5 : Hid (InAt V3 g5 8 d (a : Int) (b : Int) n) := Lib.hid hg5
  have HXg7 : Hid (EfAt V3 g7 e0) := Lib.hid hg7
  have HXg6 : Hid (HAt V3 g6 h1) := Lib.hid hn
  clear hn hb hg3 hg5 hg7
  try simp only [Act.put, la, lz, ls]
  refine wpList_store_row rfl 34 (.tmp 7) (.tmp 36) rfl g7 (eC e0) rfl rfl 34 (eC e0) HXg7.out (sz_eff _) rfl (eC_ones _) ?_
  have hn := row_same (cs := (eC e0)) HXg7.out
  have hb := row_bel HB.out (g := g7) (by have := HG.out; have := HG1.out; have := HG2.out; have := HG3.out; omega) (eC e0)
  have hg3 := (setRow_other V3 g7 g3 (eC e0) (by have := HG.out; have := HG1.out; have := HG2.out; have := HG3.out; omega)).trans HXg3.out
  have hg5 := (setRow_other V3 g7 g5 (eC e0) (by have := HG.out; have := HG1.out; have := HG2.out; have := HG3.out; omega)).trans HXg5.out
  have hg6 := (setRow_other V3 g7 g6 (eC e0) (by have := HG.out; have := HG1.out; have := HG2.out; have := HG3.out; omega)).trans HXg6.out
  generalize V3.setRow g7 (eC e0) = V4 at hn hb hg3 hg5 hg6 ⊢
  clear HB HXg3 HXg5 HXg6 HXg7
  have HB : Hid (Bel w V4) := Lib.hid hb
  have HXg3 : Hid (HAt V4 g3 h) := Lib.hid hg3
  have HXg5 : Hid (InAt V4 g5 8 d (a : Int) (b : Int) n) := Lib.hid hg5
  have HXg6 : Hid (HAt V4 g6 h1) := Lib.hid hg6
  have HXg7 : Hid (EfAt V4 g7 e0) := Lib.hid hn
  clear hn hb hg3 hg5 hg6
  try simp only [Act.put, la, lz, ls]
  refine wpList_nil ?_
  refine hK _ _ (wp_ret ?_)
  exact bodyPost_ret (results_cells2 Tryd.results16 _ _ g6 g7 _ _ _ _ _ _ _ _ (by rfl) (by rfl) HXg6.out HXg7.out Tryd.underlying28 rfl (sz_hart _) Tryd.underlying34 rfl (sz_eff _)) (by rfl) ⟨rfl, HB.out⟩
theorem step_9 {h h1 h2 : H} {a b : Nat} {d n v id : Int} {e : Eff}  {w : World} (hw : Ins.wf ⟨9, d, a, b, n⟩) (hr : Rv.right ⟨9, d, a, b, n⟩ = true) (hc : ∀ W, Bel w W → Calls Tryd.prog 34 #[hv h, iv 9 d (a : Int) (b : Int) n] W (OneV (hv h1) W)) : Calls Tryd.prog 16 #[hv h, .int .i64 id, iv 9 d (a : Int) (b : Int) n] w (OneV (.tuple #[hv h1, .agg (eC e0)]) w) := by
  have HW := Lib.hid hw
  have HRT := Lib.hid hr
  clear hw hr
  have HC := Lib.hid hc
  clear hc
  have hz := zero_hart
  go_enter Tryd.func16, Tryd.ntmps16
  go_upto_region 1 with (fail)
  obtain ⟨W0, hW, hb, hx3, hx5, hx6, hx7⟩ := boxes4 w (hC h) (iC 9 d (a : Int) (b : Int) n) hZ (eC e0) 28 24 28 34
  first | rw [← hW] | (show Code.wp _ _ _ _ ((((w.alloc (.cells (hC h) 28)).alloc (.cells (iC 9 d (a : Int) (b : Int) n) 24)).alloc (.cells hZ 28)).alloc (.cells (eC e0) 34)); rw [← hW])
  clear hz hW
  have hlt : w.heap.size < W0.heap.size := lt_of_heap hx3
  generalize hg : w.heap.size = g3 at hx3 hx5 hx6 hx7 hlt ⊢
  have HG := Lib.hid hg
  clear hg
  generalize hg : g3 + 1 = g5 at hx5 hx6 hx7 ⊢
  have HG1 := Lib.hid hg
  clear hg
  generalize hg : g5 + 1 = g6 at hx6 hx7 ⊢
  have HG2 := Lib.hid hg
  clear hg
  generalize hg : g6 + 1 = g7 at hx7 ⊢
  have HG3 := Lib.hid hg
  clear hg
  have HXg3 : Hid (HAt W0 g3 h) := Lib.hid hx3
  have HXg5 : Hid (InAt W0 g5 9 d (a : Int) (b : Int) n) := Lib.hid hx5
  have HXg6 : Hid (HAt W0 g6 (fun _ => 0)) := Lib.hid hx6
  have HXg7 : Hid (EfAt W0 g7 e0) := Lib.hid hx7
  have HB : Hid (Bel w W0) := Lib.hid hb
  clear hb hlt hx3 hx5 hx6 hx7
  rename_i K hK
  refine wp_region_list ?_
  refine wpList_load_row rfl 24 (.tmp 5) rfl g5 rfl 24 (iC 9 d (a : Int) (b : Int) n) (0, 0) _ HXg5.out Tryd.underlying24 rfl (sz_ins _ _ _ _ _) ?_
  try simp only [Act.put, la, lz, ls]
  refine wpList_call rfl (f := 31) (args := #[iv 9 d (a : Int) (b : Int) n]) (v := .bool true) (by kernel_rfl) (right_bel HW.out HRT.out _) ?_
  intro V1 hb
  replace HB : Hid (Bel w V1) := Lib.hid (HB.out.trans hb)
  replace HXg3 : Hid (HAt V1 g3 h) := Lib.hid (HXg3.out.bel hb)
  replace HXg5 : Hid (InAt V1 g5 9 d (a : Int) (b : Int) n) := Lib.hid (HXg5.out.bel hb)
  replace HXg6 : Hid (HAt V1 g6 (fun _ => 0)) := Lib.hid (HXg6.out.bel hb)
  replace HXg7 : Hid (EfAt V1 g7 e0) := Lib.hid (HXg7.out.bel hb)
  clear hb
  try simp only [Act.put, la, lz, ls]
  refine wpList_one rfl (w' := V1) (v := .bool false) (by kernel_rfl) ?_
  try simp only [Act.put, la, lz, ls]
  refine wpList_nil ?_
  refine hK _ _ ?_
  clear hK K
  have kg5_0 := HXg5.out.cells.1
  go_upto_region 13 with (fail)
  rename_i K hK
  refine wp_region_list ?_
  refine wpList_load_row rfl 28 (.tmp 3) rfl g3 rfl 28 (hC h) (0, 0) _ HXg3.out Tryd.underlying28 rfl (sz_hart _) ?_
  try simp only [Act.put, la, lz, ls]
  refine wpList_load_row rfl 24 (.tmp 5) rfl g5 rfl 24 (iC 9 d (a : Int) (b : Int) n) (0, 0) _ HXg5.out Tryd.underlying24 rfl (sz_ins _ _ _ _ _) ?_
  try simp only [Act.put, la, lz, ls]
  refine wpList_call rfl (f := 34) (args := #[hv h, iv 9 d (a : Int) (b : Int) n]) (v := hv h1) (by kernel_rfl) (HC.out _ HB.out) ?_
  intro V2 hb
  replace HB : Hid (Bel w V2) := Lib.hid (HB.out.trans hb)
  replace HXg3 : Hid (HAt V2 g3 h) := Lib.hid (HXg3.out.bel hb)
  replace HXg5 : Hid (InAt V2 g5 9 d (a : Int) (b : Int) n) := Lib.hid (HXg5.out.bel hb)
  replace HXg6 : Hid (HAt V2 g6 (fun _ => 0)) := Lib.hid (HXg6.out.bel hb)
  replace HXg7 : Hid (EfAt V2 g7 e0) := Lib.hid (HXg7.out.bel hb)
  clear hb
  try simp only [Act.put, la, lz, ls]
  refine wpList_one rfl (w' := V2) (v := .agg (eC e0)) (by kernel_rfl) ?_
  try simp only [Act.put, la, lz, ls]
  refine wpList_store_row rfl 28 (.tmp 6) (.tmp 35) rfl g6 (hC h1) rfl rfl 28 (hC (fun _ => 0)) HXg6.out (sz_hart _) (by rw [hC_size, hC_size]) (hC_ones _) ?_
  have hn := row_same (cs := (hC h1)) HXg6.out
  have hb := row_bel HB.out (g := g6) (by have := HG.out; have := HG1.out; have := HG2.out; have := HG3.out; omega) (hC h1)
  have hg3 := (setRow_other V2 g6 g3 (hC h1) (by have := HG.out; have := HG1.out; have := HG2.out; have := HG3.out; omega)).trans HXg3.out
  have hg5 := (setRow_other V2 g6 g5 (hC h1) (by have := HG.out; have := HG1.out; have := HG2.out; have := HG3.out; omega)).trans HXg5.out
  have hg7 := (setRow_other V2 g6 g7 (hC h1) (by have := HG.out; have := HG1.out; have := HG2.out; have := HG3.out; omega)).trans HXg7.out
  generalize V2.setRow g6 (hC h1) = V3 at hn hb hg3 hg5 hg7 ⊢
  clear HB HXg3 HXg5 HXg6 HXg7
  have HB : Hid (Bel w V3) := Lib.hid hb
  have HXg3 : Hid (HAt V3 g3 h) := Lib.hid hg3
  have HXg5 : Hid (InAt V3 g5 9 d (a : Int) (b : Int) n) := Lib.hid hg5
  have HXg7 : Hid (EfAt V3 g7 e0) := Lib.hid hg7
  have HXg6 : Hid (HAt V3 g6 h1) := Lib.hid hn
  clear hn hb hg3 hg5 hg7
  try simp only [Act.put, la, lz, ls]
  refine wpList_store_row rfl 34 (.tmp 7) (.tmp 36) rfl g7 (eC e0) rfl rfl 34 (eC e0) HXg7.out (sz_eff _) rfl (eC_ones _) ?_
  have hn := row_same (cs := (eC e0)) HXg7.out
  have hb := row_bel HB.out (g := g7) (by have := HG.out; have := HG1.out; have := HG2.out; have := HG3.out; omega) (eC e0)
  have hg3 := (setRow_other V3 g7 g3 (eC e0) (by have := HG.out; have := HG1.out; have := HG2.out; have := HG3.out; omega)).trans HXg3.out
  have hg5 := (setRow_other V3 g7 g5 (eC e0) (by have := HG.out; have := HG1.out; have := HG2.out; have := HG3.out; omega)).trans HXg5.out
  have hg6 := (setRow_other V3 g7 g6 (eC e0) (by have := HG.out; have := HG1.out; have := HG2.out; have := HG3.out; omega)).trans HXg6.out
  generalize V3.setRow g7 (eC e0) = V4 at hn hb hg3 hg5 hg6 ⊢
  clear HB HXg3 HXg5 HXg6 HXg7
  have HB : Hid (Bel w V4) := Lib.hid hb
  have HXg3 : Hid (HAt V4 g3 h) := Lib.hid hg3
  have HXg5 : Hid (InAt V4 g5 9 d (a : Int) (b : Int) n) := Lib.hid hg5
  have HXg6 : Hid (HAt V4 g6 h1) := Lib.hid hg6
  have HXg7 : Hid (EfAt V4 g7 e0) := Lib.hid hn
  clear hn hb hg3 hg5 hg6
  try simp only [Act.put, la, lz, ls]
  refine wpList_nil ?_
  refine hK _ _ (wp_ret ?_)
  exact bodyPost_ret (results_cells2 Tryd.results16 _ _ g6 g7 _ _ _ _ _ _ _ _ (by rfl) (by rfl) HXg6.out HXg7.out Tryd.underlying28 rfl (sz_hart _) Tryd.underlying34 rfl (sz_eff _)) (by rfl) ⟨rfl, HB.out⟩
theorem step_10 {h h1 h2 : H} {a b : Nat} {d n v id : Int} {e : Eff}  {w : World} (hw : Ins.wf ⟨10, d, a, b, n⟩) (hr : Rv.right ⟨10, d, a, b, n⟩ = true) (hc : ∀ W, Bel w W → Calls Tryd.prog 34 #[hv h, iv 10 d (a : Int) (b : Int) n] W (OneV (hv h1) W)) : Calls Tryd.prog 16 #[hv h, .int .i64 id, iv 10 d (a : Int) (b : Int) n] w (OneV (.tuple #[hv h1, .agg (eC e0)]) w) := by
  have HW := Lib.hid hw
  have HRT := Lib.hid hr
  clear hw hr
  have HC := Lib.hid hc
  clear hc
  have hz := zero_hart
  go_enter Tryd.func16, Tryd.ntmps16
  go_upto_region 1 with (fail)
  obtain ⟨W0, hW, hb, hx3, hx5, hx6, hx7⟩ := boxes4 w (hC h) (iC 10 d (a : Int) (b : Int) n) hZ (eC e0) 28 24 28 34
  first | rw [← hW] | (show Code.wp _ _ _ _ ((((w.alloc (.cells (hC h) 28)).alloc (.cells (iC 10 d (a : Int) (b : Int) n) 24)).alloc (.cells hZ 28)).alloc (.cells (eC e0) 34)); rw [← hW])
  clear hz hW
  have hlt : w.heap.size < W0.heap.size := lt_of_heap hx3
  generalize hg : w.heap.size = g3 at hx3 hx5 hx6 hx7 hlt ⊢
  have HG := Lib.hid hg
  clear hg
  generalize hg : g3 + 1 = g5 at hx5 hx6 hx7 ⊢
  have HG1 := Lib.hid hg
  clear hg
  generalize hg : g5 + 1 = g6 at hx6 hx7 ⊢
  have HG2 := Lib.hid hg
  clear hg
  generalize hg : g6 + 1 = g7 at hx7 ⊢
  have HG3 := Lib.hid hg
  clear hg
  have HXg3 : Hid (HAt W0 g3 h) := Lib.hid hx3
  have HXg5 : Hid (InAt W0 g5 10 d (a : Int) (b : Int) n) := Lib.hid hx5
  have HXg6 : Hid (HAt W0 g6 (fun _ => 0)) := Lib.hid hx6
  have HXg7 : Hid (EfAt W0 g7 e0) := Lib.hid hx7
  have HB : Hid (Bel w W0) := Lib.hid hb
  clear hb hlt hx3 hx5 hx6 hx7
  rename_i K hK
  refine wp_region_list ?_
  refine wpList_load_row rfl 24 (.tmp 5) rfl g5 rfl 24 (iC 10 d (a : Int) (b : Int) n) (0, 0) _ HXg5.out Tryd.underlying24 rfl (sz_ins _ _ _ _ _) ?_
  try simp only [Act.put, la, lz, ls]
  refine wpList_call rfl (f := 31) (args := #[iv 10 d (a : Int) (b : Int) n]) (v := .bool true) (by kernel_rfl) (right_bel HW.out HRT.out _) ?_
  intro V1 hb
  replace HB : Hid (Bel w V1) := Lib.hid (HB.out.trans hb)
  replace HXg3 : Hid (HAt V1 g3 h) := Lib.hid (HXg3.out.bel hb)
  replace HXg5 : Hid (InAt V1 g5 10 d (a : Int) (b : Int) n) := Lib.hid (HXg5.out.bel hb)
  replace HXg6 : Hid (HAt V1 g6 (fun _ => 0)) := Lib.hid (HXg6.out.bel hb)
  replace HXg7 : Hid (EfAt V1 g7 e0) := Lib.hid (HXg7.out.bel hb)
  clear hb
  try simp only [Act.put, la, lz, ls]
  refine wpList_one rfl (w' := V1) (v := .bool false) (by kernel_rfl) ?_
  try simp only [Act.put, la, lz, ls]
  refine wpList_nil ?_
  refine hK _ _ ?_
  clear hK K
  have kg5_0 := HXg5.out.cells.1
  go_upto_region 13 with (fail)
  rename_i K hK
  refine wp_region_list ?_
  refine wpList_load_row rfl 28 (.tmp 3) rfl g3 rfl 28 (hC h) (0, 0) _ HXg3.out Tryd.underlying28 rfl (sz_hart _) ?_
  try simp only [Act.put, la, lz, ls]
  refine wpList_load_row rfl 24 (.tmp 5) rfl g5 rfl 24 (iC 10 d (a : Int) (b : Int) n) (0, 0) _ HXg5.out Tryd.underlying24 rfl (sz_ins _ _ _ _ _) ?_
  try simp only [Act.put, la, lz, ls]
  refine wpList_call rfl (f := 34) (args := #[hv h, iv 10 d (a : Int) (b : Int) n]) (v := hv h1) (by kernel_rfl) (HC.out _ HB.out) ?_
  intro V2 hb
  replace HB : Hid (Bel w V2) := Lib.hid (HB.out.trans hb)
  replace HXg3 : Hid (HAt V2 g3 h) := Lib.hid (HXg3.out.bel hb)
  replace HXg5 : Hid (InAt V2 g5 10 d (a : Int) (b : Int) n) := Lib.hid (HXg5.out.bel hb)
  replace HXg6 : Hid (HAt V2 g6 (fun _ => 0)) := Lib.hid (HXg6.out.bel hb)
  replace HXg7 : Hid (EfAt V2 g7 e0) := Lib.hid (HXg7.out.bel hb)
  clear hb
  try simp only [Act.put, la, lz, ls]
  refine wpList_one rfl (w' := V2) (v := .agg (eC e0)) (by kernel_rfl) ?_
  try simp only [Act.put, la, lz, ls]
  refine wpList_store_row rfl 28 (.tmp 6) (.tmp 35) rfl g6 (hC h1) rfl rfl 28 (hC (fun _ => 0)) HXg6.out (sz_hart _) (by rw [hC_size, hC_size]) (hC_ones _) ?_
  have hn := row_same (cs := (hC h1)) HXg6.out
  have hb := row_bel HB.out (g := g6) (by have := HG.out; have := HG1.out; have := HG2.out; have := HG3.out; omega) (hC h1)
  have hg3 := (setRow_other V2 g6 g3 (hC h1) (by have := HG.out; have := HG1.out; have := HG2.out; have := HG3.out; omega)).trans HXg3.out
  have hg5 := (setRow_other V2 g6 g5 (hC h1) (by have := HG.out; have := HG1.out; have := HG2.out; have := HG3.out; omega)).trans HXg5.out
  have hg7 := (setRow_other V2 g6 g7 (hC h1) (by have := HG.out; have := HG1.out; have := HG2.out; have := HG3.out; omega)).trans HXg7.out
  generalize V2.setRow g6 (hC h1) = V3 at hn hb hg3 hg5 hg7 ⊢
  clear HB HXg3 HXg5 HXg6 HXg7
  have HB : Hid (Bel w V3) := Lib.hid hb
  have HXg3 : Hid (HAt V3 g3 h) := Lib.hid hg3
  have HXg5 : Hid (InAt V3 g5 10 d (a : Int) (b : Int) n) := Lib.hid hg5
  have HXg7 : Hid (EfAt V3 g7 e0) := Lib.hid hg7
  have HXg6 : Hid (HAt V3 g6 h1) := Lib.hid hn
  clear hn hb hg3 hg5 hg7
  try simp only [Act.put, la, lz, ls]
  refine wpList_store_row rfl 34 (.tmp 7) (.tmp 36) rfl g7 (eC e0) rfl rfl 34 (eC e0) HXg7.out (sz_eff _) rfl (eC_ones _) ?_
  have hn := row_same (cs := (eC e0)) HXg7.out
  have hb := row_bel HB.out (g := g7) (by have := HG.out; have := HG1.out; have := HG2.out; have := HG3.out; omega) (eC e0)
  have hg3 := (setRow_other V3 g7 g3 (eC e0) (by have := HG.out; have := HG1.out; have := HG2.out; have := HG3.out; omega)).trans HXg3.out
  have hg5 := (setRow_other V3 g7 g5 (eC e0) (by have := HG.out; have := HG1.out; have := HG2.out; have := HG3.out; omega)).trans HXg5.out
  have hg6 := (setRow_other V3 g7 g6 (eC e0) (by have := HG.out; have := HG1.out; have := HG2.out; have := HG3.out; omega)).trans HXg6.out
  generalize V3.setRow g7 (eC e0) = V4 at hn hb hg3 hg5 hg6 ⊢
  clear HB HXg3 HXg5 HXg6 HXg7
  have HB : Hid (Bel w V4) := Lib.hid hb
  have HXg3 : Hid (HAt V4 g3 h) := Lib.hid hg3
  have HXg5 : Hid (InAt V4 g5 10 d (a : Int) (b : Int) n) := Lib.hid hg5
  have HXg6 : Hid (HAt V4 g6 h1) := Lib.hid hg6
  have HXg7 : Hid (EfAt V4 g7 e0) := Lib.hid hn
  clear hn hb hg3 hg5 hg6
  try simp only [Act.put, la, lz, ls]
  refine wpList_nil ?_
  refine hK _ _ (wp_ret ?_)
  exact bodyPost_ret (results_cells2 Tryd.results16 _ _ g6 g7 _ _ _ _ _ _ _ _ (by rfl) (by rfl) HXg6.out HXg7.out Tryd.underlying28 rfl (sz_hart _) Tryd.underlying34 rfl (sz_eff _)) (by rfl) ⟨rfl, HB.out⟩
theorem step_44 {h h1 h2 : H} {a b : Nat} {d n v id : Int} {e : Eff}  {w : World} (hw : Ins.wf ⟨44, d, a, b, n⟩) (hr : Rv.right ⟨44, d, a, b, n⟩ = true) (hc : ∀ W, Bel w W → Calls Tryd.prog 35 #[hv h] W (OneV (hv h1) W)) : Calls Tryd.prog 16 #[hv h, .int .i64 id, iv 44 d (a : Int) (b : Int) n] w (OneV (.tuple #[hv h1, .agg (eC e0)]) w) := by
  have HW := Lib.hid hw
  have HRT := Lib.hid hr
  clear hw hr
  have HC := Lib.hid hc
  clear hc
  have hz := zero_hart
  go_enter Tryd.func16, Tryd.ntmps16
  go_upto_region 1 with (fail)
  obtain ⟨W0, hW, hb, hx3, hx5, hx6, hx7⟩ := boxes4 w (hC h) (iC 44 d (a : Int) (b : Int) n) hZ (eC e0) 28 24 28 34
  first | rw [← hW] | (show Code.wp _ _ _ _ ((((w.alloc (.cells (hC h) 28)).alloc (.cells (iC 44 d (a : Int) (b : Int) n) 24)).alloc (.cells hZ 28)).alloc (.cells (eC e0) 34)); rw [← hW])
  clear hz hW
  have hlt : w.heap.size < W0.heap.size := lt_of_heap hx3
  generalize hg : w.heap.size = g3 at hx3 hx5 hx6 hx7 hlt ⊢
  have HG := Lib.hid hg
  clear hg
  generalize hg : g3 + 1 = g5 at hx5 hx6 hx7 ⊢
  have HG1 := Lib.hid hg
  clear hg
  generalize hg : g5 + 1 = g6 at hx6 hx7 ⊢
  have HG2 := Lib.hid hg
  clear hg
  generalize hg : g6 + 1 = g7 at hx7 ⊢
  have HG3 := Lib.hid hg
  clear hg
  have HXg3 : Hid (HAt W0 g3 h) := Lib.hid hx3
  have HXg5 : Hid (InAt W0 g5 44 d (a : Int) (b : Int) n) := Lib.hid hx5
  have HXg6 : Hid (HAt W0 g6 (fun _ => 0)) := Lib.hid hx6
  have HXg7 : Hid (EfAt W0 g7 e0) := Lib.hid hx7
  have HB : Hid (Bel w W0) := Lib.hid hb
  clear hb hlt hx3 hx5 hx6 hx7
  rename_i K hK
  refine wp_region_list ?_
  refine wpList_load_row rfl 24 (.tmp 5) rfl g5 rfl 24 (iC 44 d (a : Int) (b : Int) n) (0, 0) _ HXg5.out Tryd.underlying24 rfl (sz_ins _ _ _ _ _) ?_
  try simp only [Act.put, la, lz, ls]
  refine wpList_call rfl (f := 31) (args := #[iv 44 d (a : Int) (b : Int) n]) (v := .bool true) (by kernel_rfl) (right_bel HW.out HRT.out _) ?_
  intro V1 hb
  replace HB : Hid (Bel w V1) := Lib.hid (HB.out.trans hb)
  replace HXg3 : Hid (HAt V1 g3 h) := Lib.hid (HXg3.out.bel hb)
  replace HXg5 : Hid (InAt V1 g5 44 d (a : Int) (b : Int) n) := Lib.hid (HXg5.out.bel hb)
  replace HXg6 : Hid (HAt V1 g6 (fun _ => 0)) := Lib.hid (HXg6.out.bel hb)
  replace HXg7 : Hid (EfAt V1 g7 e0) := Lib.hid (HXg7.out.bel hb)
  clear hb
  try simp only [Act.put, la, lz, ls]
  refine wpList_one rfl (w' := V1) (v := .bool false) (by kernel_rfl) ?_
  try simp only [Act.put, la, lz, ls]
  refine wpList_nil ?_
  refine hK _ _ ?_
  clear hK K
  have kg5_0 := HXg5.out.cells.1
  go_upto_region 15 with (fail)
  rename_i K hK
  refine wp_region_list ?_
  refine wpList_load_row rfl 28 (.tmp 3) rfl g3 rfl 28 (hC h) (0, 0) _ HXg3.out Tryd.underlying28 rfl (sz_hart _) ?_
  try simp only [Act.put, la, lz, ls]
  refine wpList_call rfl (f := 35) (args := #[hv h]) (v := hv h1) (by kernel_rfl) (HC.out _ HB.out) ?_
  intro V2 hb
  replace HB : Hid (Bel w V2) := Lib.hid (HB.out.trans hb)
  replace HXg3 : Hid (HAt V2 g3 h) := Lib.hid (HXg3.out.bel hb)
  replace HXg5 : Hid (InAt V2 g5 44 d (a : Int) (b : Int) n) := Lib.hid (HXg5.out.bel hb)
  replace HXg6 : Hid (HAt V2 g6 (fun _ => 0)) := Lib.hid (HXg6.out.bel hb)
  replace HXg7 : Hid (EfAt V2 g7 e0) := Lib.hid (HXg7.out.bel hb)
  clear hb
  try simp only [Act.put, la, lz, ls]
  refine wpList_one rfl (w' := V2) (v := .agg (eC e0)) (by kernel_rfl) ?_
  try simp only [Act.put, la, lz, ls]
  refine wpList_store_row rfl 28 (.tmp 6) (.tmp 40) rfl g6 (hC h1) rfl rfl 28 (hC (fun _ => 0)) HXg6.out (sz_hart _) (by rw [hC_size, hC_size]) (hC_ones _) ?_
  have hn := row_same (cs := (hC h1)) HXg6.out
  have hb := row_bel HB.out (g := g6) (by have := HG.out; have := HG1.out; have := HG2.out; have := HG3.out; omega) (hC h1)
  have hg3 := (setRow_other V2 g6 g3 (hC h1) (by have := HG.out; have := HG1.out; have := HG2.out; have := HG3.out; omega)).trans HXg3.out
  have hg5 := (setRow_other V2 g6 g5 (hC h1) (by have := HG.out; have := HG1.out; have := HG2.out; have := HG3.out; omega)).trans HXg5.out
  have hg7 := (setRow_other V2 g6 g7 (hC h1) (by have := HG.out; have := HG1.out; have := HG2.out; have := HG3.out; omega)).trans HXg7.out
  generalize V2.setRow g6 (hC h1) = V3 at hn hb hg3 hg5 hg7 ⊢
  clear HB HXg3 HXg5 HXg6 HXg7
  have HB : Hid (Bel w V3) := Lib.hid hb
  have HXg3 : Hid (HAt V3 g3 h) := Lib.hid hg3
  have HXg5 : Hid (InAt V3 g5 44 d (a : Int) (b : Int) n) := Lib.hid hg5
  have HXg7 : Hid (EfAt V3 g7 e0) := Lib.hid hg7
  have HXg6 : Hid (HAt V3 g6 h1) := Lib.hid hn
  clear hn hb hg3 hg5 hg7
  try simp only [Act.put, la, lz, ls]
  refine wpList_store_row rfl 34 (.tmp 7) (.tmp 41) rfl g7 (eC e0) rfl rfl 34 (eC e0) HXg7.out (sz_eff _) rfl (eC_ones _) ?_
  have hn := row_same (cs := (eC e0)) HXg7.out
  have hb := row_bel HB.out (g := g7) (by have := HG.out; have := HG1.out; have := HG2.out; have := HG3.out; omega) (eC e0)
  have hg3 := (setRow_other V3 g7 g3 (eC e0) (by have := HG.out; have := HG1.out; have := HG2.out; have := HG3.out; omega)).trans HXg3.out
  have hg5 := (setRow_other V3 g7 g5 (eC e0) (by have := HG.out; have := HG1.out; have := HG2.out; have := HG3.out; omega)).trans HXg5.out
  have hg6 := (setRow_other V3 g7 g6 (eC e0) (by have := HG.out; have := HG1.out; have := HG2.out; have := HG3.out; omega)).trans HXg6.out
  generalize V3.setRow g7 (eC e0) = V4 at hn hb hg3 hg5 hg6 ⊢
  clear HB HXg3 HXg5 HXg6 HXg7
  have HB : Hid (Bel w V4) := Lib.hid hb
  have HXg3 : Hid (HAt V4 g3 h) := Lib.hid hg3
  have HXg5 : Hid (InAt V4 g5 44 d (a : Int) (b : Int) n) := Lib.hid hg5
  have HXg6 : Hid (HAt V4 g6 h1) := Lib.hid hg6
  have HXg7 : Hid (EfAt V4 g7 e0) := Lib.hid hn
  clear hn hb hg3 hg5 hg6
  try simp only [Act.put, la, lz, ls]
  refine wpList_nil ?_
  refine hK _ _ (wp_ret ?_)
  exact bodyPost_ret (results_cells2 Tryd.results16 _ _ g6 g7 _ _ _ _ _ _ _ _ (by rfl) (by rfl) HXg6.out HXg7.out Tryd.underlying28 rfl (sz_hart _) Tryd.underlying34 rfl (sz_eff _)) (by rfl) ⟨rfl, HB.out⟩
theorem step_40 {h h1 h2 : H} {a b : Nat} {d n v id : Int} {e : Eff}  {w : World} (hw : Ins.wf ⟨40, d, a, b, n⟩) (hr : Rv.right ⟨40, d, a, b, n⟩ = true) (hc : ∀ W, Bel w W → Calls Tryd.prog 36 #[hv h, .int .i64 id, iv 40 d (a : Int) (b : Int) n] W (OneV (.tuple #[hv h1, .agg (eC e)]) W)) : Calls Tryd.prog 16 #[hv h, .int .i64 id, iv 40 d (a : Int) (b : Int) n] w (OneV (.tuple #[hv h1, .agg (eC e)]) w) := by
  have HW := Lib.hid hw
  have HRT := Lib.hid hr
  clear hw hr
  have HC := Lib.hid hc
  clear hc
  have hz := zero_hart
  go_enter Tryd.func16, Tryd.ntmps16
  go_upto_region 1 with (fail)
  obtain ⟨W0, hW, hb, hx3, hx5, hx6, hx7⟩ := boxes4 w (hC h) (iC 40 d (a : Int) (b : Int) n) hZ (eC e0) 28 24 28 34
  first | rw [← hW] | (show Code.wp _ _ _ _ ((((w.alloc (.cells (hC h) 28)).alloc (.cells (iC 40 d (a : Int) (b : Int) n) 24)).alloc (.cells hZ 28)).alloc (.cells (eC e0) 34)); rw [← hW])
  clear hz hW
  have hlt : w.heap.size < W0.heap.size := lt_of_heap hx3
  generalize hg : w.heap.size = g3 at hx3 hx5 hx6 hx7 hlt ⊢
  have HG := Lib.hid hg
  clear hg
  generalize hg : g3 + 1 = g5 at hx5 hx6 hx7 ⊢
  have HG1 := Lib.hid hg
  clear hg
  generalize hg : g5 + 1 = g6 at hx6 hx7 ⊢
  have HG2 := Lib.hid hg
  clear hg
  generalize hg : g6 + 1 = g7 at hx7 ⊢
  have HG3 := Lib.hid hg
  clear hg
  have HXg3 : Hid (HAt W0 g3 h) := Lib.hid hx3
  have HXg5 : Hid (InAt W0 g5 40 d (a : Int) (b : Int) n) := Lib.hid hx5
  have HXg6 : Hid (HAt W0 g6 (fun _ => 0)) := Lib.hid hx6
  have HXg7 : Hid (EfAt W0 g7 e0) := Lib.hid hx7
  have HB : Hid (Bel w W0) := Lib.hid hb
  clear hb hlt hx3 hx5 hx6 hx7
  rename_i K hK
  refine wp_region_list ?_
  refine wpList_load_row rfl 24 (.tmp 5) rfl g5 rfl 24 (iC 40 d (a : Int) (b : Int) n) (0, 0) _ HXg5.out Tryd.underlying24 rfl (sz_ins _ _ _ _ _) ?_
  try simp only [Act.put, la, lz, ls]
  refine wpList_call rfl (f := 31) (args := #[iv 40 d (a : Int) (b : Int) n]) (v := .bool true) (by kernel_rfl) (right_bel HW.out HRT.out _) ?_
  intro V1 hb
  replace HB : Hid (Bel w V1) := Lib.hid (HB.out.trans hb)
  replace HXg3 : Hid (HAt V1 g3 h) := Lib.hid (HXg3.out.bel hb)
  replace HXg5 : Hid (InAt V1 g5 40 d (a : Int) (b : Int) n) := Lib.hid (HXg5.out.bel hb)
  replace HXg6 : Hid (HAt V1 g6 (fun _ => 0)) := Lib.hid (HXg6.out.bel hb)
  replace HXg7 : Hid (EfAt V1 g7 e0) := Lib.hid (HXg7.out.bel hb)
  clear hb
  try simp only [Act.put, la, lz, ls]
  refine wpList_one rfl (w' := V1) (v := .bool false) (by kernel_rfl) ?_
  try simp only [Act.put, la, lz, ls]
  refine wpList_nil ?_
  refine hK _ _ ?_
  clear hK K
  have kg5_0 := HXg5.out.cells.1
  go_upto_region 19 with (fail)
  rename_i K hK
  refine wp_region_list ?_
  refine wpList_load_row rfl 28 (.tmp 3) rfl g3 rfl 28 (hC h) (0, 0) _ HXg3.out Tryd.underlying28 rfl (sz_hart _) ?_
  try simp only [Act.put, la, lz, ls]
  refine wpList_one rfl (w' := V1) (v := .int .i64 id) rfl ?_
  try simp only [Act.put, la, lz, ls]
  refine wpList_load_row rfl 24 (.tmp 5) rfl g5 rfl 24 (iC 40 d (a : Int) (b : Int) n) (0, 0) _ HXg5.out Tryd.underlying24 rfl (sz_ins _ _ _ _ _) ?_
  try simp only [Act.put, la, lz, ls]
  refine wpList_call rfl (f := 36) (args := #[hv h, .int .i64 id, iv 40 d (a : Int) (b : Int) n]) (v := .tuple #[hv h1, .agg (eC e)]) (by kernel_rfl) (HC.out _ HB.out) ?_
  intro V2 hb
  replace HB : Hid (Bel w V2) := Lib.hid (HB.out.trans hb)
  replace HXg3 : Hid (HAt V2 g3 h) := Lib.hid (HXg3.out.bel hb)
  replace HXg5 : Hid (InAt V2 g5 40 d (a : Int) (b : Int) n) := Lib.hid (HXg5.out.bel hb)
  replace HXg6 : Hid (HAt V2 g6 (fun _ => 0)) := Lib.hid (HXg6.out.bel hb)
  replace HXg7 : Hid (EfAt V2 g7 e0) := Lib.hid (HXg7.out.bel hb)
  clear hb
  try simp only [Act.put, la, lz, ls]
  refine wpList_one rfl (w' := V2) (v := hv h1) rfl ?_
  try simp only [Act.put, la, lz, ls]
  refine wpList_one rfl (w' := V2) (v := .agg (eC e)) rfl ?_
  try simp only [Act.put, la, lz, ls]
  refine wpList_store_row rfl 28 (.tmp 6) (.tmp 50) rfl g6 (hC h1) rfl rfl 28 (hC (fun _ => 0)) HXg6.out (sz_hart _) (by rw [hC_size, hC_size]) (hC_ones _) ?_
  have hn := row_same (cs := (hC h1)) HXg6.out
  have hb := row_bel HB.out (g := g6) (by have := HG.out; have := HG1.out; have := HG2.out; have := HG3.out; omega) (hC h1)
  have hg3 := (setRow_other V2 g6 g3 (hC h1) (by have := HG.out; have := HG1.out; have := HG2.out; have := HG3.out; omega)).trans HXg3.out
  have hg5 := (setRow_other V2 g6 g5 (hC h1) (by have := HG.out; have := HG1.out; have := HG2.out; have := HG3.out; omega)).trans HXg5.out
  have hg7 := (setRow_other V2 g6 g7 (hC h1) (by have := HG.out; have := HG1.out; have := HG2.out; have := HG3.out; omega)).trans HXg7.out
  generalize V2.setRow g6 (hC h1) = V3 at hn hb hg3 hg5 hg7 ⊢
  clear HB HXg3 HXg5 HXg6 HXg7
  have HB : Hid (Bel w V3) := Lib.hid hb
  have HXg3 : Hid (HAt V3 g3 h) := Lib.hid hg3
  have HXg5 : Hid (InAt V3 g5 40 d (a : Int) (b : Int) n) := Lib.hid hg5
  have HXg7 : Hid (EfAt V3 g7 e0) := Lib.hid hg7
  have HXg6 : Hid (HAt V3 g6 h1) := Lib.hid hn
  clear hn hb hg3 hg5 hg7
  try simp only [Act.put, la, lz, ls]
  refine wpList_store_row rfl 34 (.tmp 7) (.tmp 51) rfl g7 (eC e) rfl rfl 34 (eC e0) HXg7.out (sz_eff _) rfl (eC_ones _) ?_
  have hn := row_same (cs := (eC e)) HXg7.out
  have hb := row_bel HB.out (g := g7) (by have := HG.out; have := HG1.out; have := HG2.out; have := HG3.out; omega) (eC e)
  have hg3 := (setRow_other V3 g7 g3 (eC e) (by have := HG.out; have := HG1.out; have := HG2.out; have := HG3.out; omega)).trans HXg3.out
  have hg5 := (setRow_other V3 g7 g5 (eC e) (by have := HG.out; have := HG1.out; have := HG2.out; have := HG3.out; omega)).trans HXg5.out
  have hg6 := (setRow_other V3 g7 g6 (eC e) (by have := HG.out; have := HG1.out; have := HG2.out; have := HG3.out; omega)).trans HXg6.out
  generalize V3.setRow g7 (eC e) = V4 at hn hb hg3 hg5 hg6 ⊢
  clear HB HXg3 HXg5 HXg6 HXg7
  have HB : Hid (Bel w V4) := Lib.hid hb
  have HXg3 : Hid (HAt V4 g3 h) := Lib.hid hg3
  have HXg5 : Hid (InAt V4 g5 40 d (a : Int) (b : Int) n) := Lib.hid hg5
  have HXg6 : Hid (HAt V4 g6 h1) := Lib.hid hg6
  have HXg7 : Hid (EfAt V4 g7 e) := Lib.hid hn
  clear hn hb hg3 hg5 hg6
  try simp only [Act.put, la, lz, ls]
  refine wpList_nil ?_
  refine hK _ _ (wp_ret ?_)
  exact bodyPost_ret (results_cells2 Tryd.results16 _ _ g6 g7 _ _ _ _ _ _ _ _ (by rfl) (by rfl) HXg6.out HXg7.out Tryd.underlying28 rfl (sz_hart _) Tryd.underlying34 rfl (sz_eff _)) (by rfl) ⟨rfl, HB.out⟩
theorem step_41 {h h1 h2 : H} {a b : Nat} {d n v id : Int} {e : Eff}  {w : World} (hw : Ins.wf ⟨41, d, a, b, n⟩) (hr : Rv.right ⟨41, d, a, b, n⟩ = true) (hc : ∀ W, Bel w W → Calls Tryd.prog 36 #[hv h, .int .i64 id, iv 41 d (a : Int) (b : Int) n] W (OneV (.tuple #[hv h1, .agg (eC e)]) W)) : Calls Tryd.prog 16 #[hv h, .int .i64 id, iv 41 d (a : Int) (b : Int) n] w (OneV (.tuple #[hv h1, .agg (eC e)]) w) := by
  have HW := Lib.hid hw
  have HRT := Lib.hid hr
  clear hw hr
  have HC := Lib.hid hc
  clear hc
  have hz := zero_hart
  go_enter Tryd.func16, Tryd.ntmps16
  go_upto_region 1 with (fail)
  obtain ⟨W0, hW, hb, hx3, hx5, hx6, hx7⟩ := boxes4 w (hC h) (iC 41 d (a : Int) (b : Int) n) hZ (eC e0) 28 24 28 34
  first | rw [← hW] | (show Code.wp _ _ _ _ ((((w.alloc (.cells (hC h) 28)).alloc (.cells (iC 41 d (a : Int) (b : Int) n) 24)).alloc (.cells hZ 28)).alloc (.cells (eC e0) 34)); rw [← hW])
  clear hz hW
  have hlt : w.heap.size < W0.heap.size := lt_of_heap hx3
  generalize hg : w.heap.size = g3 at hx3 hx5 hx6 hx7 hlt ⊢
  have HG := Lib.hid hg
  clear hg
  generalize hg : g3 + 1 = g5 at hx5 hx6 hx7 ⊢
  have HG1 := Lib.hid hg
  clear hg
  generalize hg : g5 + 1 = g6 at hx6 hx7 ⊢
  have HG2 := Lib.hid hg
  clear hg
  generalize hg : g6 + 1 = g7 at hx7 ⊢
  have HG3 := Lib.hid hg
  clear hg
  have HXg3 : Hid (HAt W0 g3 h) := Lib.hid hx3
  have HXg5 : Hid (InAt W0 g5 41 d (a : Int) (b : Int) n) := Lib.hid hx5
  have HXg6 : Hid (HAt W0 g6 (fun _ => 0)) := Lib.hid hx6
  have HXg7 : Hid (EfAt W0 g7 e0) := Lib.hid hx7
  have HB : Hid (Bel w W0) := Lib.hid hb
  clear hb hlt hx3 hx5 hx6 hx7
  rename_i K hK
  refine wp_region_list ?_
  refine wpList_load_row rfl 24 (.tmp 5) rfl g5 rfl 24 (iC 41 d (a : Int) (b : Int) n) (0, 0) _ HXg5.out Tryd.underlying24 rfl (sz_ins _ _ _ _ _) ?_
  try simp only [Act.put, la, lz, ls]
  refine wpList_call rfl (f := 31) (args := #[iv 41 d (a : Int) (b : Int) n]) (v := .bool true) (by kernel_rfl) (right_bel HW.out HRT.out _) ?_
  intro V1 hb
  replace HB : Hid (Bel w V1) := Lib.hid (HB.out.trans hb)
  replace HXg3 : Hid (HAt V1 g3 h) := Lib.hid (HXg3.out.bel hb)
  replace HXg5 : Hid (InAt V1 g5 41 d (a : Int) (b : Int) n) := Lib.hid (HXg5.out.bel hb)
  replace HXg6 : Hid (HAt V1 g6 (fun _ => 0)) := Lib.hid (HXg6.out.bel hb)
  replace HXg7 : Hid (EfAt V1 g7 e0) := Lib.hid (HXg7.out.bel hb)
  clear hb
  try simp only [Act.put, la, lz, ls]
  refine wpList_one rfl (w' := V1) (v := .bool false) (by kernel_rfl) ?_
  try simp only [Act.put, la, lz, ls]
  refine wpList_nil ?_
  refine hK _ _ ?_
  clear hK K
  have kg5_0 := HXg5.out.cells.1
  go_upto_region 19 with (fail)
  rename_i K hK
  refine wp_region_list ?_
  refine wpList_load_row rfl 28 (.tmp 3) rfl g3 rfl 28 (hC h) (0, 0) _ HXg3.out Tryd.underlying28 rfl (sz_hart _) ?_
  try simp only [Act.put, la, lz, ls]
  refine wpList_one rfl (w' := V1) (v := .int .i64 id) rfl ?_
  try simp only [Act.put, la, lz, ls]
  refine wpList_load_row rfl 24 (.tmp 5) rfl g5 rfl 24 (iC 41 d (a : Int) (b : Int) n) (0, 0) _ HXg5.out Tryd.underlying24 rfl (sz_ins _ _ _ _ _) ?_
  try simp only [Act.put, la, lz, ls]
  refine wpList_call rfl (f := 36) (args := #[hv h, .int .i64 id, iv 41 d (a : Int) (b : Int) n]) (v := .tuple #[hv h1, .agg (eC e)]) (by kernel_rfl) (HC.out _ HB.out) ?_
  intro V2 hb
  replace HB : Hid (Bel w V2) := Lib.hid (HB.out.trans hb)
  replace HXg3 : Hid (HAt V2 g3 h) := Lib.hid (HXg3.out.bel hb)
  replace HXg5 : Hid (InAt V2 g5 41 d (a : Int) (b : Int) n) := Lib.hid (HXg5.out.bel hb)
  replace HXg6 : Hid (HAt V2 g6 (fun _ => 0)) := Lib.hid (HXg6.out.bel hb)
  replace HXg7 : Hid (EfAt V2 g7 e0) := Lib.hid (HXg7.out.bel hb)
  clear hb
  try simp only [Act.put, la, lz, ls]
  refine wpList_one rfl (w' := V2) (v := hv h1) rfl ?_
  try simp only [Act.put, la, lz, ls]
  refine wpList_one rfl (w' := V2) (v := .agg (eC e)) rfl ?_
  try simp only [Act.put, la, lz, ls]
  refine wpList_store_row rfl 28 (.tmp 6) (.tmp 50) rfl g6 (hC h1) rfl rfl 28 (hC (fun _ => 0)) HXg6.out (sz_hart _) (by rw [hC_size, hC_size]) (hC_ones _) ?_
  have hn := row_same (cs := (hC h1)) HXg6.out
  have hb := row_bel HB.out (g := g6) (by have := HG.out; have := HG1.out; have := HG2.out; have := HG3.out; omega) (hC h1)
  have hg3 := (setRow_other V2 g6 g3 (hC h1) (by have := HG.out; have := HG1.out; have := HG2.out; have := HG3.out; omega)).trans HXg3.out
  have hg5 := (setRow_other V2 g6 g5 (hC h1) (by have := HG.out; have := HG1.out; have := HG2.out; have := HG3.out; omega)).trans HXg5.out
  have hg7 := (setRow_other V2 g6 g7 (hC h1) (by have := HG.out; have := HG1.out; have := HG2.out; have := HG3.out; omega)).trans HXg7.out
  generalize V2.setRow g6 (hC h1) = V3 at hn hb hg3 hg5 hg7 ⊢
  clear HB HXg3 HXg5 HXg6 HXg7
  have HB : Hid (Bel w V3) := Lib.hid hb
  have HXg3 : Hid (HAt V3 g3 h) := Lib.hid hg3
  have HXg5 : Hid (InAt V3 g5 41 d (a : Int) (b : Int) n) := Lib.hid hg5
  have HXg7 : Hid (EfAt V3 g7 e0) := Lib.hid hg7
  have HXg6 : Hid (HAt V3 g6 h1) := Lib.hid hn
  clear hn hb hg3 hg5 hg7
  try simp only [Act.put, la, lz, ls]
  refine wpList_store_row rfl 34 (.tmp 7) (.tmp 51) rfl g7 (eC e) rfl rfl 34 (eC e0) HXg7.out (sz_eff _) rfl (eC_ones _) ?_
  have hn := row_same (cs := (eC e)) HXg7.out
  have hb := row_bel HB.out (g := g7) (by have := HG.out; have := HG1.out; have := HG2.out; have := HG3.out; omega) (eC e)
  have hg3 := (setRow_other V3 g7 g3 (eC e) (by have := HG.out; have := HG1.out; have := HG2.out; have := HG3.out; omega)).trans HXg3.out
  have hg5 := (setRow_other V3 g7 g5 (eC e) (by have := HG.out; have := HG1.out; have := HG2.out; have := HG3.out; omega)).trans HXg5.out
  have hg6 := (setRow_other V3 g7 g6 (eC e) (by have := HG.out; have := HG1.out; have := HG2.out; have := HG3.out; omega)).trans HXg6.out
  generalize V3.setRow g7 (eC e) = V4 at hn hb hg3 hg5 hg6 ⊢
  clear HB HXg3 HXg5 HXg6 HXg7
  have HB : Hid (Bel w V4) := Lib.hid hb
  have HXg3 : Hid (HAt V4 g3 h) := Lib.hid hg3
  have HXg5 : Hid (InAt V4 g5 41 d (a : Int) (b : Int) n) := Lib.hid hg5
  have HXg6 : Hid (HAt V4 g6 h1) := Lib.hid hg6
  have HXg7 : Hid (EfAt V4 g7 e) := Lib.hid hn
  clear hn hb hg3 hg5 hg6
  try simp only [Act.put, la, lz, ls]
  refine wpList_nil ?_
  refine hK _ _ (wp_ret ?_)
  exact bodyPost_ret (results_cells2 Tryd.results16 _ _ g6 g7 _ _ _ _ _ _ _ _ (by rfl) (by rfl) HXg6.out HXg7.out Tryd.underlying28 rfl (sz_hart _) Tryd.underlying34 rfl (sz_eff _)) (by rfl) ⟨rfl, HB.out⟩
theorem step_42 {h h1 h2 : H} {a b : Nat} {d n v id : Int} {e : Eff}  {w : World} (hw : Ins.wf ⟨42, d, a, b, n⟩) (hr : Rv.right ⟨42, d, a, b, n⟩ = true) (hc : ∀ W, Bel w W → Calls Tryd.prog 36 #[hv h, .int .i64 id, iv 42 d (a : Int) (b : Int) n] W (OneV (.tuple #[hv h1, .agg (eC e)]) W)) : Calls Tryd.prog 16 #[hv h, .int .i64 id, iv 42 d (a : Int) (b : Int) n] w (OneV (.tuple #[hv h1, .agg (eC e)]) w) := by
  have HW := Lib.hid hw
  have HRT := Lib.hid hr
  clear hw hr
  have HC := Lib.hid hc
  clear hc
  have hz := zero_hart
  go_enter Tryd.func16, Tryd.ntmps16
  go_upto_region 1 with (fail)
  obtain ⟨W0, hW, hb, hx3, hx5, hx6, hx7⟩ := boxes4 w (hC h) (iC 42 d (a : Int) (b : Int) n) hZ (eC e0) 28 24 28 34
  first | rw [← hW] | (show Code.wp _ _ _ _ ((((w.alloc (.cells (hC h) 28)).alloc (.cells (iC 42 d (a : Int) (b : Int) n) 24)).alloc (.cells hZ 28)).alloc (.cells (eC e0) 34)); rw [← hW])
  clear hz hW
  have hlt : w.heap.size < W0.heap.size := lt_of_heap hx3
  generalize hg : w.heap.size = g3 at hx3 hx5 hx6 hx7 hlt ⊢
  have HG := Lib.hid hg
  clear hg
  generalize hg : g3 + 1 = g5 at hx5 hx6 hx7 ⊢
  have HG1 := Lib.hid hg
  clear hg
  generalize hg : g5 + 1 = g6 at hx6 hx7 ⊢
  have HG2 := Lib.hid hg
  clear hg
  generalize hg : g6 + 1 = g7 at hx7 ⊢
  have HG3 := Lib.hid hg
  clear hg
  have HXg3 : Hid (HAt W0 g3 h) := Lib.hid hx3
  have HXg5 : Hid (InAt W0 g5 42 d (a : Int) (b : Int) n) := Lib.hid hx5
  have HXg6 : Hid (HAt W0 g6 (fun _ => 0)) := Lib.hid hx6
  have HXg7 : Hid (EfAt W0 g7 e0) := Lib.hid hx7
  have HB : Hid (Bel w W0) := Lib.hid hb
  clear hb hlt hx3 hx5 hx6 hx7
  rename_i K hK
  refine wp_region_list ?_
  refine wpList_load_row rfl 24 (.tmp 5) rfl g5 rfl 24 (iC 42 d (a : Int) (b : Int) n) (0, 0) _ HXg5.out Tryd.underlying24 rfl (sz_ins _ _ _ _ _) ?_
  try simp only [Act.put, la, lz, ls]
  refine wpList_call rfl (f := 31) (args := #[iv 42 d (a : Int) (b : Int) n]) (v := .bool true) (by kernel_rfl) (right_bel HW.out HRT.out _) ?_
  intro V1 hb
  replace HB : Hid (Bel w V1) := Lib.hid (HB.out.trans hb)
  replace HXg3 : Hid (HAt V1 g3 h) := Lib.hid (HXg3.out.bel hb)
  replace HXg5 : Hid (InAt V1 g5 42 d (a : Int) (b : Int) n) := Lib.hid (HXg5.out.bel hb)
  replace HXg6 : Hid (HAt V1 g6 (fun _ => 0)) := Lib.hid (HXg6.out.bel hb)
  replace HXg7 : Hid (EfAt V1 g7 e0) := Lib.hid (HXg7.out.bel hb)
  clear hb
  try simp only [Act.put, la, lz, ls]
  refine wpList_one rfl (w' := V1) (v := .bool false) (by kernel_rfl) ?_
  try simp only [Act.put, la, lz, ls]
  refine wpList_nil ?_
  refine hK _ _ ?_
  clear hK K
  have kg5_0 := HXg5.out.cells.1
  go_upto_region 19 with (fail)
  rename_i K hK
  refine wp_region_list ?_
  refine wpList_load_row rfl 28 (.tmp 3) rfl g3 rfl 28 (hC h) (0, 0) _ HXg3.out Tryd.underlying28 rfl (sz_hart _) ?_
  try simp only [Act.put, la, lz, ls]
  refine wpList_one rfl (w' := V1) (v := .int .i64 id) rfl ?_
  try simp only [Act.put, la, lz, ls]
  refine wpList_load_row rfl 24 (.tmp 5) rfl g5 rfl 24 (iC 42 d (a : Int) (b : Int) n) (0, 0) _ HXg5.out Tryd.underlying24 rfl (sz_ins _ _ _ _ _) ?_
  try simp only [Act.put, la, lz, ls]
  refine wpList_call rfl (f := 36) (args := #[hv h, .int .i64 id, iv 42 d (a : Int) (b : Int) n]) (v := .tuple #[hv h1, .agg (eC e)]) (by kernel_rfl) (HC.out _ HB.out) ?_
  intro V2 hb
  replace HB : Hid (Bel w V2) := Lib.hid (HB.out.trans hb)
  replace HXg3 : Hid (HAt V2 g3 h) := Lib.hid (HXg3.out.bel hb)
  replace HXg5 : Hid (InAt V2 g5 42 d (a : Int) (b : Int) n) := Lib.hid (HXg5.out.bel hb)
  replace HXg6 : Hid (HAt V2 g6 (fun _ => 0)) := Lib.hid (HXg6.out.bel hb)
  replace HXg7 : Hid (EfAt V2 g7 e0) := Lib.hid (HXg7.out.bel hb)
  clear hb
  try simp only [Act.put, la, lz, ls]
  refine wpList_one rfl (w' := V2) (v := hv h1) rfl ?_
  try simp only [Act.put, la, lz, ls]
  refine wpList_one rfl (w' := V2) (v := .agg (eC e)) rfl ?_
  try simp only [Act.put, la, lz, ls]
  refine wpList_store_row rfl 28 (.tmp 6) (.tmp 50) rfl g6 (hC h1) rfl rfl 28 (hC (fun _ => 0)) HXg6.out (sz_hart _) (by rw [hC_size, hC_size]) (hC_ones _) ?_
  have hn := row_same (cs := (hC h1)) HXg6.out
  have hb := row_bel HB.out (g := g6) (by have := HG.out; have := HG1.out; have := HG2.out; have := HG3.out; omega) (hC h1)
  have hg3 := (setRow_other V2 g6 g3 (hC h1) (by have := HG.out; have := HG1.out; have := HG2.out; have := HG3.out; omega)).trans HXg3.out
  have hg5 := (setRow_other V2 g6 g5 (hC h1) (by have := HG.out; have := HG1.out; have := HG2.out; have := HG3.out; omega)).trans HXg5.out
  have hg7 := (setRow_other V2 g6 g7 (hC h1) (by have := HG.out; have := HG1.out; have := HG2.out; have := HG3.out; omega)).trans HXg7.out
  generalize V2.setRow g6 (hC h1) = V3 at hn hb hg3 hg5 hg7 ⊢
  clear HB HXg3 HXg5 HXg6 HXg7
  have HB : Hid (Bel w V3) := Lib.hid hb
  have HXg3 : Hid (HAt V3 g3 h) := Lib.hid hg3
  have HXg5 : Hid (InAt V3 g5 42 d (a : Int) (b : Int) n) := Lib.hid hg5
  have HXg7 : Hid (EfAt V3 g7 e0) := Lib.hid hg7
  have HXg6 : Hid (HAt V3 g6 h1) := Lib.hid hn
  clear hn hb hg3 hg5 hg7
  try simp only [Act.put, la, lz, ls]
  refine wpList_store_row rfl 34 (.tmp 7) (.tmp 51) rfl g7 (eC e) rfl rfl 34 (eC e0) HXg7.out (sz_eff _) rfl (eC_ones _) ?_
  have hn := row_same (cs := (eC e)) HXg7.out
  have hb := row_bel HB.out (g := g7) (by have := HG.out; have := HG1.out; have := HG2.out; have := HG3.out; omega) (eC e)
  have hg3 := (setRow_other V3 g7 g3 (eC e) (by have := HG.out; have := HG1.out; have := HG2.out; have := HG3.out; omega)).trans HXg3.out
  have hg5 := (setRow_other V3 g7 g5 (eC e) (by have := HG.out; have := HG1.out; have := HG2.out; have := HG3.out; omega)).trans HXg5.out
  have hg6 := (setRow_other V3 g7 g6 (eC e) (by have := HG.out; have := HG1.out; have := HG2.out; have := HG3.out; omega)).trans HXg6.out
  generalize V3.setRow g7 (eC e) = V4 at hn hb hg3 hg5 hg6 ⊢
  clear HB HXg3 HXg5 HXg6 HXg7
  have HB : Hid (Bel w V4) := Lib.hid hb
  have HXg3 : Hid (HAt V4 g3 h) := Lib.hid hg3
  have HXg5 : Hid (InAt V4 g5 42 d (a : Int) (b : Int) n) := Lib.hid hg5
  have HXg6 : Hid (HAt V4 g6 h1) := Lib.hid hg6
  have HXg7 : Hid (EfAt V4 g7 e) := Lib.hid hn
  clear hn hb hg3 hg5 hg6
  try simp only [Act.put, la, lz, ls]
  refine wpList_nil ?_
  refine hK _ _ (wp_ret ?_)
  exact bodyPost_ret (results_cells2 Tryd.results16 _ _ g6 g7 _ _ _ _ _ _ _ _ (by rfl) (by rfl) HXg6.out HXg7.out Tryd.underlying28 rfl (sz_hart _) Tryd.underlying34 rfl (sz_eff _)) (by rfl) ⟨rfl, HB.out⟩
theorem step_num {h h1 h2 : H} {a b : Nat} {d n v id : Int} {e : Eff} {o : Nat} {w : World} (hw : Ins.wf ⟨(o : Int), d, a, b, n⟩) (hr : Rv.right ⟨(o : Int), d, a, b, n⟩ = true) (hn : o ≠ 3 ∧ o ≠ 4 ∧ o ≠ 5 ∧ o ≠ 6 ∧ o ≠ 7 ∧ o ≠ 8 ∧ o ≠ 9 ∧ o ≠ 10 ∧ o ≠ 44 ∧ o ≠ 40 ∧ o ≠ 41 ∧ o ≠ 42) (hc : ∀ W, Bel w W → Calls Tryd.prog 37 #[hv h, iv (o : Int) d (a : Int) (b : Int) n] W (OneV (.tuple #[.int .i64 v, .bool true]) W)) (e1 : put h d v = h1) (e2 : Ht.go h1 4 = h2) : Calls Tryd.prog 16 #[hv h, .int .i64 id, iv (o : Int) d (a : Int) (b : Int) n] w (OneV (.tuple #[hv h2, .agg (eC e0)]) w) := by
  have HW := Lib.hid hw
  have HRT := Lib.hid hr
  clear hw hr
  have HC := Lib.hid hc
  have HP1 := Lib.hid e1
  have HP2 := Lib.hid e2
  clear hc e1 e2
  have n3 : ((o : Int) == 3) = false := by simp; omega
  have n4 : ((o : Int) == 4) = false := by simp; omega
  have n5 : ((o : Int) == 5) = false := by simp; omega
  have n6 : ((o : Int) == 6) = false := by simp; omega
  have n7 : ((o : Int) == 7) = false := by simp; omega
  have n8 : ((o : Int) == 8) = false := by simp; omega
  have n9 : ((o : Int) == 9) = false := by simp; omega
  have n10 : ((o : Int) == 10) = false := by simp; omega
  have n44 : ((o : Int) == 44) = false := by simp; omega
  have n40 : ((o : Int) == 40) = false := by simp; omega
  have n41 : ((o : Int) == 41) = false := by simp; omega
  have n42 : ((o : Int) == 42) = false := by simp; omega
  clear hn
  have hz := zero_hart
  go_enter Tryd.func16, Tryd.ntmps16
  go_upto_region 1 with (fail)
  obtain ⟨W0, hW, hb, hx3, hx5, hx6, hx7⟩ := boxes4 w (hC h) (iC (o : Int) d (a : Int) (b : Int) n) hZ (eC e0) 28 24 28 34
  first | rw [← hW] | (show Code.wp _ _ _ _ ((((w.alloc (.cells (hC h) 28)).alloc (.cells (iC (o : Int) d (a : Int) (b : Int) n) 24)).alloc (.cells hZ 28)).alloc (.cells (eC e0) 34)); rw [← hW])
  clear hz hW
  have hlt : w.heap.size < W0.heap.size := lt_of_heap hx3
  generalize hg : w.heap.size = g3 at hx3 hx5 hx6 hx7 hlt ⊢
  have HG := Lib.hid hg
  clear hg
  generalize hg : g3 + 1 = g5 at hx5 hx6 hx7 ⊢
  have HG1 := Lib.hid hg
  clear hg
  generalize hg : g5 + 1 = g6 at hx6 hx7 ⊢
  have HG2 := Lib.hid hg
  clear hg
  generalize hg : g6 + 1 = g7 at hx7 ⊢
  have HG3 := Lib.hid hg
  clear hg
  have HXg3 : Hid (HAt W0 g3 h) := Lib.hid hx3
  have HXg5 : Hid (InAt W0 g5 (o : Int) d (a : Int) (b : Int) n) := Lib.hid hx5
  have HXg6 : Hid (HAt W0 g6 (fun _ => 0)) := Lib.hid hx6
  have HXg7 : Hid (EfAt W0 g7 e0) := Lib.hid hx7
  have HB : Hid (Bel w W0) := Lib.hid hb
  clear hb hlt hx3 hx5 hx6 hx7
  rename_i K hK
  refine wp_region_list ?_
  refine wpList_load_row rfl 24 (.tmp 5) rfl g5 rfl 24 (iC (o : Int) d (a : Int) (b : Int) n) (0, 0) _ HXg5.out Tryd.underlying24 rfl (sz_ins _ _ _ _ _) ?_
  try simp only [Act.put, la, lz, ls]
  refine wpList_call rfl (f := 31) (args := #[iv (o : Int) d (a : Int) (b : Int) n]) (v := .bool true) (by kernel_rfl) (right_bel HW.out HRT.out _) ?_
  intro V1 hb
  replace HB : Hid (Bel w V1) := Lib.hid (HB.out.trans hb)
  replace HXg3 : Hid (HAt V1 g3 h) := Lib.hid (HXg3.out.bel hb)
  replace HXg5 : Hid (InAt V1 g5 (o : Int) d (a : Int) (b : Int) n) := Lib.hid (HXg5.out.bel hb)
  replace HXg6 : Hid (HAt V1 g6 (fun _ => 0)) := Lib.hid (HXg6.out.bel hb)
  replace HXg7 : Hid (EfAt V1 g7 e0) := Lib.hid (HXg7.out.bel hb)
  clear hb
  try simp only [Act.put, la, lz, ls]
  refine wpList_one rfl (w' := V1) (v := .bool false) (by kernel_rfl) ?_
  try simp only [Act.put, la, lz, ls]
  refine wpList_nil ?_
  refine hK _ _ ?_
  clear hK K
  have kg5_0 := HXg5.out.cells.1
  go_upto_region 20 with (fail)
  rename_i K hK
  refine wp_region_list ?_
  refine wpList_load_row rfl 28 (.tmp 3) rfl g3 rfl 28 (hC h) (0, 0) _ HXg3.out Tryd.underlying28 rfl (sz_hart _) ?_
  try simp only [Act.put, la, lz, ls]
  refine wpList_load_row rfl 24 (.tmp 5) rfl g5 rfl 24 (iC (o : Int) d (a : Int) (b : Int) n) (0, 0) _ HXg5.out Tryd.underlying24 rfl (sz_ins _ _ _ _ _) ?_
  try simp only [Act.put, la, lz, ls]
  refine wpList_call rfl (f := 37) (args := #[hv h, iv (o : Int) d (a : Int) (b : Int) n]) (v := .tuple #[.int .i64 v, .bool true]) (by kernel_rfl) (HC.out _ HB.out) ?_
  intro V2 hb
  replace HB : Hid (Bel w V2) := Lib.hid (HB.out.trans hb)
  replace HXg3 : Hid (HAt V2 g3 h) := Lib.hid (HXg3.out.bel hb)
  replace HXg5 : Hid (InAt V2 g5 (o : Int) d (a : Int) (b : Int) n) := Lib.hid (HXg5.out.bel hb)
  replace HXg6 : Hid (HAt V2 g6 (fun _ => 0)) := Lib.hid (HXg6.out.bel hb)
  replace HXg7 : Hid (EfAt V2 g7 e0) := Lib.hid (HXg7.out.bel hb)
  clear hb
  try simp only [Act.put, la, lz, ls]
  refine wpList_one rfl (w' := V2) (v := .tuple #[.int .i64 v, .bool true]) rfl ?_
  try simp only [Act.put, la, lz, ls]
  refine wpList_one rfl (w' := V2) (v := .int .i64 v) rfl ?_
  try simp only [Act.put, la, lz, ls]
  refine wpList_one rfl (w' := V2) (v := .bool true) rfl ?_
  try simp only [Act.put, la, lz, ls]
  refine wpList_one rfl (w' := V2) (v := .int .i64 v) rfl ?_
  try simp only [Act.put, la, lz, ls]
  refine wpList_one rfl (w' := V2) (v := .bool true) rfl ?_
  try simp only [Act.put, la, lz, ls]
  refine wpList_nil ?_
  refine hK _ _ ?_
  clear hK K
  go_upto_region 22 with (fail)
  rename_i K hK
  refine wp_region_list ?_
  refine wpList_load_row rfl 28 (.tmp 3) rfl g3 rfl 28 (hC h) (0, 0) _ HXg3.out Tryd.underlying28 rfl (sz_hart _) ?_
  try simp only [Act.put, la, lz, ls]
  refine wpList_one rfl (w' := V2) (v := .pointer (some ⟨g5, 1, none⟩)) (by kernel_rfl) ?_
  try simp only [Act.put, la, lz, ls]
  refine wpList_load_cell rfl 3 (.tmp 60) rfl ⟨g5, 1, none⟩ rfl (.int .i64 d) _ HXg5.out.cells.2.1 Tryd.underlying3 rfl ?_
  try simp only [Act.put, la, lz, ls]
  refine wpList_one rfl (w' := V2) (v := .int .i64 v) rfl ?_
  try simp only [Act.put, la, lz, ls]
  refine wpList_call rfl (f := 18) (args := #[hv h, .int .i64 d, .int .i64 v]) (v := hv h1) (by kernel_rfl) (put_lit HP1.out _) ?_
  intro V3 hb
  replace HB : Hid (Bel w V3) := Lib.hid (HB.out.trans hb)
  replace HXg3 : Hid (HAt V3 g3 h) := Lib.hid (HXg3.out.bel hb)
  replace HXg5 : Hid (InAt V3 g5 (o : Int) d (a : Int) (b : Int) n) := Lib.hid (HXg5.out.bel hb)
  replace HXg6 : Hid (HAt V3 g6 (fun _ => 0)) := Lib.hid (HXg6.out.bel hb)
  replace HXg7 : Hid (EfAt V3 g7 e0) := Lib.hid (HXg7.out.bel hb)
  clear hb
  try simp only [Act.put, la, lz, ls]
  refine wpList_call rfl (f := 38) (args := #[hv h1, .int .i64 4]) (v := hv h2) (by kernel_rfl) (goBy_lit HP2.out _) ?_
  intro V4 hb
  replace HB : Hid (Bel w V4) := Lib.hid (HB.out.trans hb)
  replace HXg3 : Hid (HAt V4 g3 h) := Lib.hid (HXg3.out.bel hb)
  replace HXg5 : Hid (InAt V4 g5 (o : Int) d (a : Int) (b : Int) n) := Lib.hid (HXg5.out.bel hb)
  replace HXg6 : Hid (HAt V4 g6 (fun _ => 0)) := Lib.hid (HXg6.out.bel hb)
  replace HXg7 : Hid (EfAt V4 g7 e0) := Lib.hid (HXg7.out.bel hb)
  clear hb
  try simp only [Act.put, la, lz, ls]
  refine wpList_one rfl (w' := V4) (v := .agg (eC e0)) (by kernel_rfl) ?_
  try simp only [Act.put, la, lz, ls]
  refine wpList_store_row rfl 28 (.tmp 6) (.tmp 64) rfl g6 (hC h2) rfl rfl 28 (hC (fun _ => 0)) HXg6.out (sz_hart _) (by rw [hC_size, hC_size]) (hC_ones _) ?_
  have hn := row_same (cs := (hC h2)) HXg6.out
  have hb := row_bel HB.out (g := g6) (by have := HG.out; have := HG1.out; have := HG2.out; have := HG3.out; omega) (hC h2)
  have hg3 := (setRow_other V4 g6 g3 (hC h2) (by have := HG.out; have := HG1.out; have := HG2.out; have := HG3.out; omega)).trans HXg3.out
  have hg5 := (setRow_other V4 g6 g5 (hC h2) (by have := HG.out; have := HG1.out; have := HG2.out; have := HG3.out; omega)).trans HXg5.out
  have hg7 := (setRow_other V4 g6 g7 (hC h2) (by have := HG.out; have := HG1.out; have := HG2.out; have := HG3.out; omega)).trans HXg7.out
  generalize V4.setRow g6 (hC h2) = V5 at hn hb hg3 hg5 hg7 ⊢
  clear HB HXg3 HXg5 HXg6 HXg7
  have HB : Hid (Bel w V5) := Lib.hid hb
  have HXg3 : Hid (HAt V5 g3 h) := Lib.hid hg3
  have HXg5 : Hid (InAt V5 g5 (o : Int) d (a : Int) (b : Int) n) := Lib.hid hg5
  have HXg7 : Hid (EfAt V5 g7 e0) := Lib.hid hg7
  have HXg6 : Hid (HAt V5 g6 h2) := Lib.hid hn
  clear hn hb hg3 hg5 hg7
  try simp only [Act.put, la, lz, ls]
  refine wpList_store_row rfl 34 (.tmp 7) (.tmp 65) rfl g7 (eC e0) rfl rfl 34 (eC e0) HXg7.out (sz_eff _) rfl (eC_ones _) ?_
  have hn := row_same (cs := (eC e0)) HXg7.out
  have hb := row_bel HB.out (g := g7) (by have := HG.out; have := HG1.out; have := HG2.out; have := HG3.out; omega) (eC e0)
  have hg3 := (setRow_other V5 g7 g3 (eC e0) (by have := HG.out; have := HG1.out; have := HG2.out; have := HG3.out; omega)).trans HXg3.out
  have hg5 := (setRow_other V5 g7 g5 (eC e0) (by have := HG.out; have := HG1.out; have := HG2.out; have := HG3.out; omega)).trans HXg5.out
  have hg6 := (setRow_other V5 g7 g6 (eC e0) (by have := HG.out; have := HG1.out; have := HG2.out; have := HG3.out; omega)).trans HXg6.out
  generalize V5.setRow g7 (eC e0) = V6 at hn hb hg3 hg5 hg6 ⊢
  clear HB HXg3 HXg5 HXg6 HXg7
  have HB : Hid (Bel w V6) := Lib.hid hb
  have HXg3 : Hid (HAt V6 g3 h) := Lib.hid hg3
  have HXg5 : Hid (InAt V6 g5 (o : Int) d (a : Int) (b : Int) n) := Lib.hid hg5
  have HXg6 : Hid (HAt V6 g6 h2) := Lib.hid hg6
  have HXg7 : Hid (EfAt V6 g7 e0) := Lib.hid hn
  clear hn hb hg3 hg5 hg6
  try simp only [Act.put, la, lz, ls]
  refine wpList_nil ?_
  refine hK _ _ (wp_ret ?_)
  exact bodyPost_ret (results_cells2 Tryd.results16 _ _ g6 g7 _ _ _ _ _ _ _ _ (by rfl) (by rfl) HXg6.out HXg7.out Tryd.underlying28 rfl (sz_hart _) Tryd.underlying34 rfl (sz_eff _)) (by rfl) ⟨rfl, HB.out⟩
theorem step_eff {h h1 h2 : H} {a b : Nat} {d n v id : Int} {e : Eff} {o : Nat} {w : World} (hw : Ins.wf ⟨(o : Int), d, a, b, n⟩) (hr : Rv.right ⟨(o : Int), d, a, b, n⟩ = true) (hn : o ≠ 3 ∧ o ≠ 4 ∧ o ≠ 5 ∧ o ≠ 6 ∧ o ≠ 7 ∧ o ≠ 8 ∧ o ≠ 9 ∧ o ≠ 10 ∧ o ≠ 44 ∧ o ≠ 40 ∧ o ≠ 41 ∧ o ≠ 42) (hc : ∀ W, Bel w W → Calls Tryd.prog 37 #[hv h, iv (o : Int) d (a : Int) (b : Int) n] W (OneV (.tuple #[.int .i64 v, .bool false]) W)) (he : ∀ W, Bel w W → Calls Tryd.prog 39 #[hv h, iv (o : Int) d (a : Int) (b : Int) n] W (OneV (.agg (eC e)) W)) (e1 : Ht.go h 4 = h1) : Calls Tryd.prog 16 #[hv h, .int .i64 id, iv (o : Int) d (a : Int) (b : Int) n] w (OneV (.tuple #[hv h1, .agg (eC e)]) w) := by
  have HW := Lib.hid hw
  have HRT := Lib.hid hr
  clear hw hr
  have HC := Lib.hid hc
  have HE := Lib.hid he
  have HP1 := Lib.hid e1
  clear hc he e1
  have n3 : ((o : Int) == 3) = false := by simp; omega
  have n4 : ((o : Int) == 4) = false := by simp; omega
  have n5 : ((o : Int) == 5) = false := by simp; omega
  have n6 : ((o : Int) == 6) = false := by simp; omega
  have n7 : ((o : Int) == 7) = false := by simp; omega
  have n8 : ((o : Int) == 8) = false := by simp; omega
  have n9 : ((o : Int) == 9) = false := by simp; omega
  have n10 : ((o : Int) == 10) = false := by simp; omega
  have n44 : ((o : Int) == 44) = false := by simp; omega
  have n40 : ((o : Int) == 40) = false := by simp; omega
  have n41 : ((o : Int) == 41) = false := by simp; omega
  have n42 : ((o : Int) == 42) = false := by simp; omega
  clear hn
  have hz := zero_hart
  go_enter Tryd.func16, Tryd.ntmps16
  go_upto_region 1 with (fail)
  obtain ⟨W0, hW, hb, hx3, hx5, hx6, hx7⟩ := boxes4 w (hC h) (iC (o : Int) d (a : Int) (b : Int) n) hZ (eC e0) 28 24 28 34
  first | rw [← hW] | (show Code.wp _ _ _ _ ((((w.alloc (.cells (hC h) 28)).alloc (.cells (iC (o : Int) d (a : Int) (b : Int) n) 24)).alloc (.cells hZ 28)).alloc (.cells (eC e0) 34)); rw [← hW])
  clear hz hW
  have hlt : w.heap.size < W0.heap.size := lt_of_heap hx3
  generalize hg : w.heap.size = g3 at hx3 hx5 hx6 hx7 hlt ⊢
  have HG := Lib.hid hg
  clear hg
  generalize hg : g3 + 1 = g5 at hx5 hx6 hx7 ⊢
  have HG1 := Lib.hid hg
  clear hg
  generalize hg : g5 + 1 = g6 at hx6 hx7 ⊢
  have HG2 := Lib.hid hg
  clear hg
  generalize hg : g6 + 1 = g7 at hx7 ⊢
  have HG3 := Lib.hid hg
  clear hg
  have HXg3 : Hid (HAt W0 g3 h) := Lib.hid hx3
  have HXg5 : Hid (InAt W0 g5 (o : Int) d (a : Int) (b : Int) n) := Lib.hid hx5
  have HXg6 : Hid (HAt W0 g6 (fun _ => 0)) := Lib.hid hx6
  have HXg7 : Hid (EfAt W0 g7 e0) := Lib.hid hx7
  have HB : Hid (Bel w W0) := Lib.hid hb
  clear hb hlt hx3 hx5 hx6 hx7
  rename_i K hK
  refine wp_region_list ?_
  refine wpList_load_row rfl 24 (.tmp 5) rfl g5 rfl 24 (iC (o : Int) d (a : Int) (b : Int) n) (0, 0) _ HXg5.out Tryd.underlying24 rfl (sz_ins _ _ _ _ _) ?_
  try simp only [Act.put, la, lz, ls]
  refine wpList_call rfl (f := 31) (args := #[iv (o : Int) d (a : Int) (b : Int) n]) (v := .bool true) (by kernel_rfl) (right_bel HW.out HRT.out _) ?_
  intro V1 hb
  replace HB : Hid (Bel w V1) := Lib.hid (HB.out.trans hb)
  replace HXg3 : Hid (HAt V1 g3 h) := Lib.hid (HXg3.out.bel hb)
  replace HXg5 : Hid (InAt V1 g5 (o : Int) d (a : Int) (b : Int) n) := Lib.hid (HXg5.out.bel hb)
  replace HXg6 : Hid (HAt V1 g6 (fun _ => 0)) := Lib.hid (HXg6.out.bel hb)
  replace HXg7 : Hid (EfAt V1 g7 e0) := Lib.hid (HXg7.out.bel hb)
  clear hb
  try simp only [Act.put, la, lz, ls]
  refine wpList_one rfl (w' := V1) (v := .bool false) (by kernel_rfl) ?_
  try simp only [Act.put, la, lz, ls]
  refine wpList_nil ?_
  refine hK _ _ ?_
  clear hK K
  have kg5_0 := HXg5.out.cells.1
  go_upto_region 20 with (fail)
  rename_i K hK
  refine wp_region_list ?_
  refine wpList_load_row rfl 28 (.tmp 3) rfl g3 rfl 28 (hC h) (0, 0) _ HXg3.out Tryd.underlying28 rfl (sz_hart _) ?_
  try simp only [Act.put, la, lz, ls]
  refine wpList_load_row rfl 24 (.tmp 5) rfl g5 rfl 24 (iC (o : Int) d (a : Int) (b : Int) n) (0, 0) _ HXg5.out Tryd.underlying24 rfl (sz_ins _ _ _ _ _) ?_
  try simp only [Act.put, la, lz, ls]
  refine wpList_call rfl (f := 37) (args := #[hv h, iv (o : Int) d (a : Int) (b : Int) n]) (v := .tuple #[.int .i64 v, .bool false]) (by kernel_rfl) (HC.out _ HB.out) ?_
  intro V2 hb
  replace HB : Hid (Bel w V2) := Lib.hid (HB.out.trans hb)
  replace HXg3 : Hid (HAt V2 g3 h) := Lib.hid (HXg3.out.bel hb)
  replace HXg5 : Hid (InAt V2 g5 (o : Int) d (a : Int) (b : Int) n) := Lib.hid (HXg5.out.bel hb)
  replace HXg6 : Hid (HAt V2 g6 (fun _ => 0)) := Lib.hid (HXg6.out.bel hb)
  replace HXg7 : Hid (EfAt V2 g7 e0) := Lib.hid (HXg7.out.bel hb)
  clear hb
  try simp only [Act.put, la, lz, ls]
  refine wpList_one rfl (w' := V2) (v := .tuple #[.int .i64 v, .bool false]) rfl ?_
  try simp only [Act.put, la, lz, ls]
  refine wpList_one rfl (w' := V2) (v := .int .i64 v) rfl ?_
  try simp only [Act.put, la, lz, ls]
  refine wpList_one rfl (w' := V2) (v := .bool false) rfl ?_
  try simp only [Act.put, la, lz, ls]
  refine wpList_one rfl (w' := V2) (v := .int .i64 v) rfl ?_
  try simp only [Act.put, la, lz, ls]
  refine wpList_one rfl (w' := V2) (v := .bool false) rfl ?_
  try simp only [Act.put, la, lz, ls]
  refine wpList_nil ?_
  refine hK _ _ ?_
  clear hK K
  go_upto_region 23 with (fail)
  rename_i K hK
  refine Upto.begin (z := 6) (T := fun w' => HAt w' g3 h ∧ InAt w' g5 (o : Int) d (a : Int) (b : Int) n) (by kernel_rfl) ?_
  have hb : Bel V2 V2.drew := (Bel.refl V2).drew
  generalize V2.drew = V3 at hb ⊢
  replace HB : Hid (Bel w V3) := Lib.hid (HB.out.trans hb)
  replace HXg3 : Hid (HAt V3 g3 h) := Lib.hid (HXg3.out.bel hb)
  replace HXg5 : Hid (InAt V3 g5 (o : Int) d (a : Int) (b : Int) n) := Lib.hid (HXg5.out.bel hb)
  replace HXg6 : Hid (HAt V3 g6 (fun _ => 0)) := Lib.hid (HXg6.out.bel hb)
  replace HXg7 : Hid (EfAt V3 g7 e0) := Lib.hid (HXg7.out.bel hb)
  clear hb
  have hT : HAt V3 g3 h ∧ InAt V3 g5 (o : Int) d (a : Int) (b : Int) n := ⟨HXg3.out, HXg5.out⟩
  refine takeU 66 (i := 0) (v := hv h) rfl rfl rfl (by kernel_rfl) (by kernel_rfl) (by kernel_rfl) (by kernel_rfl) (fun _ _ _ h => h) (by kernel_rfl) (fun w0 hS => (exec_row 28 (.tmp 3) rfl g3 rfl 28 (hC h) (0, 0) _ hS.1 Tryd.underlying28 rfl (sz_hart _))) hT ?_
  try simp only [la, lz, ls]
  refine takeU 68 (i := 2) (v := hv h) rfl rfl rfl (by kernel_rfl) (by kernel_rfl) (by kernel_rfl) (by kernel_rfl) (fun _ _ _ h => h) (by kernel_rfl) (fun w0 hS => (exec_row 28 (.tmp 3) rfl g3 rfl 28 (hC h) (0, 0) _ hS.1 Tryd.underlying28 rfl (sz_hart _))) hT ?_
  try simp only [la, lz, ls]
  refine takeU 69 (i := 3) (v := iv (o : Int) d (a : Int) (b : Int) n) rfl rfl rfl (by kernel_rfl) (by kernel_rfl) (by kernel_rfl) (by kernel_rfl) (fun _ _ _ h => h) (by kernel_rfl) (fun w0 hS => (exec_row 24 (.tmp 5) rfl g5 rfl 24 (iC (o : Int) d (a : Int) (b : Int) n) (0, 0) _ hS.2 Tryd.underlying24 rfl (sz_ins _ _ _ _ _))) hT ?_
  try simp only [la, lz, ls]
  refine callU 67 (i := 1) rfl rfl (by kernel_rfl) (by kernel_rfl) (f := 38) (args := #[hv h, .int .i64 4]) (v := hv h1) (by kernel_rfl) (goBy_lit HP1.out _) (fun w' hb => ⟨HXg3.out.bel hb, HXg5.out.bel hb⟩) ?_
  intro V4 hb
  try simp only [la, lz, ls]
  replace HB : Hid (Bel w V4) := Lib.hid (HB.out.trans hb)
  replace HXg3 : Hid (HAt V4 g3 h) := Lib.hid (HXg3.out.bel hb)
  replace HXg5 : Hid (InAt V4 g5 (o : Int) d (a : Int) (b : Int) n) := Lib.hid (HXg5.out.bel hb)
  replace HXg6 : Hid (HAt V4 g6 (fun _ => 0)) := Lib.hid (HXg6.out.bel hb)
  replace HXg7 : Hid (EfAt V4 g7 e0) := Lib.hid (HXg7.out.bel hb)
  clear hb hT
  have hT : HAt V4 g3 h ∧ InAt V4 g5 (o : Int) d (a : Int) (b : Int) n := ⟨HXg3.out, HXg5.out⟩
  refine callU 70 (i := 4) rfl rfl (by kernel_rfl) (by kernel_rfl) (f := 39) (args := #[hv h, iv (o : Int) d (a : Int) (b : Int) n]) (v := .agg (eC e)) (by kernel_rfl) (HE.out _ HB.out) (fun w' hb => ⟨HXg3.out.bel hb, HXg5.out.bel hb⟩) ?_
  intro V5 hb
  try simp only [la, lz, ls]
  replace HB : Hid (Bel w V5) := Lib.hid (HB.out.trans hb)
  replace HXg3 : Hid (HAt V5 g3 h) := Lib.hid (HXg3.out.bel hb)
  replace HXg5 : Hid (InAt V5 g5 (o : Int) d (a : Int) (b : Int) n) := Lib.hid (HXg5.out.bel hb)
  replace HXg6 : Hid (HAt V5 g6 (fun _ => 0)) := Lib.hid (HXg6.out.bel hb)
  replace HXg7 : Hid (EfAt V5 g7 e0) := Lib.hid (HXg7.out.bel hb)
  clear hb hT
  have hT : HAt V5 g3 h ∧ InAt V5 g5 (o : Int) d (a : Int) (b : Int) n := ⟨HXg3.out, HXg5.out⟩
  have hn := row_same (cs := (hC h1)) HXg6.out
  have hb := row_bel HB.out (g := g6) (by have := HG.out; have := HG1.out; have := HG2.out; have := HG3.out; omega) (hC h1)
  have hg3 := (setRow_other V5 g6 g3 (hC h1) (by have := HG.out; have := HG1.out; have := HG2.out; have := HG3.out; omega)).trans HXg3.out
  have hg5 := (setRow_other V5 g6 g5 (hC h1) (by have := HG.out; have := HG1.out; have := HG2.out; have := HG3.out; omega)).trans HXg5.out
  have hg7 := (setRow_other V5 g6 g7 (hC h1) (by have := HG.out; have := HG1.out; have := HG2.out; have := HG3.out; omega)).trans HXg7.out
  refine rowU (i := 5) rfl rfl (by kernel_rfl) (by kernel_rfl) 28 (.tmp 6) (.tmp 67) rfl g6 (hC h1) rfl rfl 28 (hC (fun _ => 0)) HXg6.out (sz_hart _) (by rw [hC_size, hC_size]) (hC_ones _) (⟨hg3, hg5⟩) ?_
  generalize V5.setRow g6 (hC h1) = V6 at hn hb hg3 hg5 hg7 ⊢
  clear hT HB HXg3 HXg5 HXg6 HXg7
  have HB : Hid (Bel w V6) := Lib.hid hb
  have HXg3 : Hid (HAt V6 g3 h) := Lib.hid hg3
  have HXg5 : Hid (InAt V6 g5 (o : Int) d (a : Int) (b : Int) n) := Lib.hid hg5
  have HXg7 : Hid (EfAt V6 g7 e0) := Lib.hid hg7
  have HXg6 : Hid (HAt V6 g6 h1) := Lib.hid hn
  clear hn hb hg3 hg5 hg7
  have hT : HAt V6 g3 h ∧ InAt V6 g5 (o : Int) d (a : Int) (b : Int) n := ⟨HXg3.out, HXg5.out⟩
  have hn := row_same (cs := (eC e)) HXg7.out
  have hb := row_bel HB.out (g := g7) (by have := HG.out; have := HG1.out; have := HG2.out; have := HG3.out; omega) (eC e)
  have hg3 := (setRow_other V6 g7 g3 (eC e) (by have := HG.out; have := HG1.out; have := HG2.out; have := HG3.out; omega)).trans HXg3.out
  have hg5 := (setRow_other V6 g7 g5 (eC e) (by have := HG.out; have := HG1.out; have := HG2.out; have := HG3.out; omega)).trans HXg5.out
  have hg6 := (setRow_other V6 g7 g6 (eC e) (by have := HG.out; have := HG1.out; have := HG2.out; have := HG3.out; omega)).trans HXg6.out
  refine rowL rfl rfl (by kernel_rfl) (by kernel_rfl) 34 (.tmp 7) (.tmp 70) rfl g7 (eC e) rfl rfl 34 (eC e0) HXg7.out (sz_eff _) rfl (eC_ones _) ?_
  generalize V6.setRow g7 (eC e) = V7 at hn hb hg3 hg5 hg6 ⊢
  clear hT HB HXg3 HXg5 HXg6 HXg7
  have HB : Hid (Bel w V7) := Lib.hid hb
  have HXg3 : Hid (HAt V7 g3 h) := Lib.hid hg3
  have HXg5 : Hid (InAt V7 g5 (o : Int) d (a : Int) (b : Int) n) := Lib.hid hg5
  have HXg6 : Hid (HAt V7 g6 h1) := Lib.hid hg6
  have HXg7 : Hid (EfAt V7 g7 e) := Lib.hid hn
  clear hn hb hg3 hg5 hg6
  have hT := True.intro
  refine Upto.done (by kernel_rfl) ?_ _
  clear hT
  refine hK _ _ (wp_ret ?_)
  exact bodyPost_ret (results_cells2 Tryd.results16 _ _ g6 g7 _ _ _ _ _ _ _ _ (by rfl) (by rfl) HXg6.out HXg7.out Tryd.underlying28 rfl (sz_hart _) Tryd.underlying34 rfl (sz_eff _)) (by rfl) ⟨rfl, HB.out⟩
end Go.Proofs.YtgcgdjmlngfpeaaDoor
