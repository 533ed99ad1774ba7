/- Package hart: what an instruction does beyond its hart; control registers. -/
import Derived.Test.YtgcgdjmlngfpeaaDoorHFn3
namespace Go.Proofs.YtgcgdjmlngfpeaaDoor
open Go.RowKit Ht
set_option linter.unusedVariables false
set_option linter.unusedSimpArgs false
set_option maxRecDepth 100000
set_option maxHeartbeats 2000000
theorem effect_11 {h : H} {a b : Nat} {d n x y m : Int} (ha : a < 32) (hb : b < 32) (hx : h a = x) (hy : h b = y) (hm : wrap32 (x + n) = m) (w : World) : Calls Tryd.prog 39 #[hv h, iv 11 d (a : Int) (b : Int) n] w (OneV (.agg (eC ⟨1, d, m, 0, 0⟩)) w) := by
  have HM := Lib.hid hm
  clear hm
  have hz := zero_hart
  go_enter Tryd.func39, Tryd.ntmps39
  go_upto_region 1 with (fail)
  obtain ⟨W0, hW, hb, hx2, hx3, hx4⟩ := boxes3 w (hC h) (iC 11 d (a : Int) (b : Int) n) (eC e0) 28 24 34
  first | rw [← hW] | (show Code.wp _ _ _ _ (((w.alloc (.cells (hC h) 28)).alloc (.cells (iC 11 d (a : Int) (b : Int) n) 24)).alloc (.cells (eC e0) 34)); rw [← hW])
  clear hz hW
  have hlt : w.heap.size < W0.heap.size := lt_of_heap hx2
  generalize hg : w.heap.size = g2 at hx2 hx3 hx4 hlt ⊢
  have HG := Lib.hid hg
  clear hg
  generalize hg : g2 + 1 = g3 at hx3 hx4 ⊢
  have HG1 := Lib.hid hg
  clear hg
  generalize hg : g3 + 1 = g4 at hx4 ⊢
  have HG2 := Lib.hid hg
  clear hg
  have HXg2 : Hid (HAt W0 g2 h) := Lib.hid hx2
  have HXg3 : Hid (InAt W0 g3 11 d (a : Int) (b : Int) n) := Lib.hid hx3
  have HXg4 : Hid (EfAt W0 g4 e0) := Lib.hid hx4
  have HB : Hid (Bel w W0) := Lib.hid hb
  clear hb hlt hx2 hx3 hx4
  go_upto_region 1 with (fail)
  rename_i K hK
  refine Upto.begin (z := 11) (T := fun w' => w'.cell? ⟨g2, a, none⟩ = some (.int .i64 (h a)) ∧ w'.cell? ⟨g2, b, none⟩ = some (.int .i64 (h b)) ∧ InAt w' g3 11 d (a : Int) (b : Int) n) (by kernel_rfl) ?_
  have hb : Bel W0 W0.drew := (Bel.refl W0).drew
  generalize W0.drew = V1 at hb ⊢
  replace HB : Hid (Bel w V1) := Lib.hid (HB.out.trans hb)
  replace HXg2 : Hid (HAt V1 g2 h) := Lib.hid (HXg2.out.bel hb)
  replace HXg3 : Hid (InAt V1 g3 11 d (a : Int) (b : Int) n) := Lib.hid (HXg3.out.bel hb)
  replace HXg4 : Hid (EfAt V1 g4 e0) := Lib.hid (HXg4.out.bel hb)
  clear hb
  have hT : V1.cell? ⟨g2, a, none⟩ = some (.int .i64 (h a)) ∧ V1.cell? ⟨g2, b, none⟩ = some (.int .i64 (h b)) ∧ InAt V1 g3 11 d (a : Int) (b : Int) n := ⟨HXg2.out.cell (j := a) (by omega), HXg2.out.cell (j := b) (by omega), HXg3.out⟩
  refine takeU 7 (i := 0) (v := .pointer (some ⟨g3, 2, none⟩)) rfl rfl rfl (by kernel_rfl) (by kernel_rfl) (by kernel_rfl) (by kernel_rfl) (fun _ _ _ h => h) (by kernel_rfl) (fun w0 hS => (by kernel_rfl)) hT ?_
  try simp only [la, lz, ls]
  refine takeU 8 (i := 1) (v := .int .i64 (a : Int)) rfl rfl rfl (by kernel_rfl) (by kernel_rfl) (by kernel_rfl) (by kernel_rfl) (fun _ _ _ h => h) (by kernel_rfl) (fun w0 hS => (exec_cell 3 (.tmp 7) rfl ⟨g3, 2, none⟩ rfl _ _ (hS.2.2).cells.2.2.1 Tryd.underlying3 rfl)) hT ?_
  try simp only [la, lz, ls]
  refine takeU 9 (i := 2) (v := .pointer (some ⟨g2, 0, none⟩)) rfl rfl rfl (by kernel_rfl) (by kernel_rfl) (by kernel_rfl) (by kernel_rfl) (fun _ _ _ h => h) (by kernel_rfl) (fun w0 hS => (by kernel_rfl)) hT ?_
  try simp only [la, lz, ls]
  refine takeU 10 (i := 3) (v := .pointer (some ⟨g2, a, none⟩)) rfl rfl rfl (by kernel_rfl) (by kernel_rfl) (by kernel_rfl) (by kernel_rfl) (fun _ _ _ h => h) (by kernel_rfl) (fun w0 hS => (exec_reg rfl g2 a (by omega) rfl rfl _)) hT ?_
  try simp only [la, lz, ls]
  refine takeU 11 (i := 4) (v := .int .i64 (h a)) rfl rfl rfl (by kernel_rfl) (by kernel_rfl) (by kernel_rfl) (by kernel_rfl) (fun _ _ _ h => h) (by kernel_rfl) (fun w0 hS => (exec_cell 3 (.tmp 10) rfl ⟨g2, a, none⟩ rfl _ _ hS.1 Tryd.underlying3 rfl)) hT ?_
  try simp only [la, lz, ls]
  refine takeU 12 (i := 5) (v := .pointer (some ⟨g3, 3, none⟩)) rfl rfl rfl (by kernel_rfl) (by kernel_rfl) (by kernel_rfl) (by kernel_rfl) (fun _ _ _ h => h) (by kernel_rfl) (fun w0 hS => (by kernel_rfl)) hT ?_
  try simp only [la, lz, ls]
  refine takeU 13 (i := 6) (v := .int .i64 (b : Int)) rfl rfl rfl (by kernel_rfl) (by kernel_rfl) (by kernel_rfl) (by kernel_rfl) (fun _ _ _ h => h) (by kernel_rfl) (fun w0 hS => (exec_cell 3 (.tmp 12) rfl ⟨g3, 3, none⟩ rfl _ _ (hS.2.2).cells.2.2.2.1 Tryd.underlying3 rfl)) hT ?_
  try simp only [la, lz, ls]
  refine takeU 14 (i := 7) (v := .pointer (some ⟨g2, 0, none⟩)) rfl rfl rfl (by kernel_rfl) (by kernel_rfl) (by kernel_rfl) (by kernel_rfl) (fun _ _ _ h => h) (by kernel_rfl) (fun w0 hS => (by kernel_rfl)) hT ?_
  try simp only [la, lz, ls]
  refine takeU 15 (i := 8) (v := .pointer (some ⟨g2, b, none⟩)) rfl rfl rfl (by kernel_rfl) (by kernel_rfl) (by kernel_rfl) (by kernel_rfl) (fun _ _ _ h => h) (by kernel_rfl) (fun w0 hS => (exec_reg rfl g2 b (by omega) rfl rfl _)) hT ?_
  try simp only [la, lz, ls]
  refine takeU 16 (i := 9) (v := .int .i64 (h b)) rfl rfl rfl (by kernel_rfl) (by kernel_rfl) (by kernel_rfl) (by kernel_rfl) (fun _ _ _ h => h) (by kernel_rfl) (fun w0 hS => (exec_cell 3 (.tmp 15) rfl ⟨g2, b, none⟩ rfl _ _ hS.2.1 Tryd.underlying3 rfl)) hT ?_
  try simp only [la, lz, ls]
  refine takeU 5 (i := 10) (v := .int .i64 (h a)) rfl rfl rfl (by kernel_rfl) (by kernel_rfl) (by kernel_rfl) (by kernel_rfl) (fun _ _ _ h => h) (by kernel_rfl) (fun w0 hS => rfl) hT ?_
  try simp only [la, lz, ls]
  refine pureU 6 (i := 11) rfl rfl (by kernel_rfl) (by kernel_rfl) (v := .int .i64 (h b)) rfl hT ?_
  try simp only [la, lz, ls]
  refine Upto.done (by kernel_rfl) ?_ _
  clear hT
  rw [hx, hy]
  refine hK _ _ ?_
  clear hK K
  have HX := Lib.hid hx
  clear hx hy
  have kg3_0 := HXg3.out.cells.1
  go_upto_region 4 with (fail)
  rename_i K hK
  refine Upto.begin (z := 8) (T := fun w' => InAt w' g3 11 d (a : Int) (b : Int) n) (by kernel_rfl) ?_
  have hb : Bel V1 V1.drew := (Bel.refl V1).drew
  generalize V1.drew = V2 at hb ⊢
  replace HB : Hid (Bel w V2) := Lib.hid (HB.out.trans hb)
  replace HXg2 : Hid (HAt V2 g2 h) := Lib.hid (HXg2.out.bel hb)
  replace HXg3 : Hid (InAt V2 g3 11 d (a : Int) (b : Int) n) := Lib.hid (HXg3.out.bel hb)
  replace HXg4 : Hid (EfAt V2 g4 e0) := Lib.hid (HXg4.out.bel hb)
  clear hb
  have hT : InAt V2 g3 11 d (a : Int) (b : Int) n := HXg3.out
  refine takeU 21 (i := 0) (v := .pointer (some ⟨g3, 1, none⟩)) rfl rfl rfl (by kernel_rfl) (by kernel_rfl) (by kernel_rfl) (by kernel_rfl) (fun _ _ _ h => h) (by kernel_rfl) (fun w0 hS => (by kernel_rfl)) hT ?_
  try simp only [la, lz, ls]
  refine takeU 22 (i := 1) (v := .int .i64 d) rfl rfl rfl (by kernel_rfl) (by kernel_rfl) (by kernel_rfl) (by kernel_rfl) (fun _ _ _ h => h) (by kernel_rfl) (fun w0 hS => (exec_cell 3 (.tmp 21) rfl ⟨g3, 1, none⟩ rfl _ _ hS.cells.2.1 Tryd.underlying3 rfl)) hT ?_
  try simp only [la, lz, ls]
  refine takeU 23 (i := 2) (v := .int .i64 x) rfl rfl rfl (by kernel_rfl) (by kernel_rfl) (by kernel_rfl) (by kernel_rfl) (fun _ _ _ h => h) (by kernel_rfl) (fun w0 hS => rfl) hT ?_
  try simp only [la, lz, ls]
  refine takeU 24 (i := 3) (v := .pointer (some ⟨g3, 4, none⟩)) rfl rfl rfl (by kernel_rfl) (by kernel_rfl) (by kernel_rfl) (by kernel_rfl) (fun _ _ _ h => h) (by kernel_rfl) (fun w0 hS => (by kernel_rfl)) hT ?_
  try simp only [la, lz, ls]
  refine takeU 25 (i := 4) (v := .int .i64 n) rfl rfl rfl (by kernel_rfl) (by kernel_rfl) (by kernel_rfl) (by kernel_rfl) (fun _ _ _ h => h) (by kernel_rfl) (fun w0 hS => (exec_cell 3 (.tmp 24) rfl ⟨g3, 4, none⟩ rfl _ _ hS.cells.2.2.2.2 Tryd.underlying3 rfl)) hT ?_
  try simp only [la, lz, ls]
  refine takeU 26 (i := 5) (v := .int .i64 (IntKind.i64.wrap (x + n))) rfl rfl rfl (by kernel_rfl) (by kernel_rfl) (by kernel_rfl) (by kernel_rfl) (fun _ _ _ h => h) (by kernel_rfl) (fun w0 hS => (by kernel_rfl)) hT ?_
  try simp only [la, lz, ls]
  refine callU 27 (i := 6) rfl rfl (by kernel_rfl) (by kernel_rfl) (f := 27) (args := #[.int .i64 (IntKind.i64.wrap (x + n))]) (v := .int .i64 m) (by kernel_rfl) (wl ((w32_i _).trans HM.out) _) (fun w' hb => HXg3.out.bel hb) ?_
  intro V3 hb
  try simp only [la, lz, ls]
  replace HB : Hid (Bel w V3) := Lib.hid (HB.out.trans hb)
  replace HXg2 : Hid (HAt V3 g2 h) := Lib.hid (HXg2.out.bel hb)
  replace HXg3 : Hid (InAt V3 g3 11 d (a : Int) (b : Int) n) := Lib.hid (HXg3.out.bel hb)
  replace HXg4 : Hid (EfAt V3 g4 e0) := Lib.hid (HXg4.out.bel hb)
  clear hb hT
  have hT : InAt V3 g3 11 d (a : Int) (b : Int) n := HXg3.out
  refine takeU 28 (i := 7) (v := .agg (eC ⟨1, d, m, 0, 0⟩)) rfl rfl rfl (by kernel_rfl) (by kernel_rfl) (by kernel_rfl) (by kernel_rfl) (fun _ _ _ h => h) (by kernel_rfl) (fun w0 hS => (by kernel_rfl)) hT ?_
  try simp only [la, lz, ls]
  have hn := row_same (cs := (eC ⟨1, d, m, 0, 0⟩)) HXg4.out
  have hb := row_bel HB.out (g := g4) (by have := HG.out; have := HG1.out; have := HG2.out; omega) (eC ⟨1, d, m, 0, 0⟩)
  have hg2 := (setRow_other V3 g4 g2 (eC ⟨1, d, m, 0, 0⟩) (by have := HG.out; have := HG1.out; have := HG2.out; omega)).trans HXg2.out
  have hg3 := (setRow_other V3 g4 g3 (eC ⟨1, d, m, 0, 0⟩) (by have := HG.out; have := HG1.out; have := HG2.out; omega)).trans HXg3.out
  refine rowL rfl rfl (by kernel_rfl) (by kernel_rfl) 34 (.tmp 4) (.tmp 28) rfl g4 (eC ⟨1, d, m, 0, 0⟩) rfl rfl 34 (eC e0) HXg4.out (sz_eff _) rfl (eC_ones _) ?_
  generalize V3.setRow g4 (eC ⟨1, d, m, 0, 0⟩) = V4 at hn hb hg2 hg3 ⊢
  clear hT HB HXg2 HXg3 HXg4
  have HB : Hid (Bel w V4) := Lib.hid hb
  have HXg2 : Hid (HAt V4 g2 h) := Lib.hid hg2
  have HXg3 : Hid (InAt V4 g3 11 d (a : Int) (b : Int) n) := Lib.hid hg3
  have HXg4 : Hid (EfAt V4 g4 ⟨1, d, m, 0, 0⟩) := Lib.hid hn
  clear hn hb hg2 hg3
  have hT := True.intro
  refine Upto.done (by kernel_rfl) ?_ _
  clear hT
  refine hK _ _ (wp_ret ?_)
  exact bodyPost_ret (results_cell_row Tryd.results39 _ _ g4 _ _ _ _ (by rfl) HXg4.out Tryd.underlying34 rfl (sz_eff _)) (by rfl) ⟨rfl, HB.out⟩
theorem effect_12 {h : H} {a b : Nat} {d n x y m : Int} (ha : a < 32) (hb : b < 32) (hx : h a = x) (hy : h b = y) (hm : wrap32 (x + n) = m) (w : World) : Calls Tryd.prog 39 #[hv h, iv 12 d (a : Int) (b : Int) n] w (OneV (.agg (eC ⟨2, 0, m, y, 0⟩)) w) := by
  have HM := Lib.hid hm
  clear hm
  have hz := zero_hart
  go_enter Tryd.func39, Tryd.ntmps39
  go_upto_region 1 with (fail)
  obtain ⟨W0, hW, hb, hx2, hx3, hx4⟩ := boxes3 w (hC h) (iC 12 d (a : Int) (b : Int) n) (eC e0) 28 24 34
  first | rw [← hW] | (show Code.wp _ _ _ _ (((w.alloc (.cells (hC h) 28)).alloc (.cells (iC 12 d (a : Int) (b : Int) n) 24)).alloc (.cells (eC e0) 34)); rw [← hW])
  clear hz hW
  have hlt : w.heap.size < W0.heap.size := lt_of_heap hx2
  generalize hg : w.heap.size = g2 at hx2 hx3 hx4 hlt ⊢
  have HG := Lib.hid hg
  clear hg
  generalize hg : g2 + 1 = g3 at hx3 hx4 ⊢
  have HG1 := Lib.hid hg
  clear hg
  generalize hg : g3 + 1 = g4 at hx4 ⊢
  have HG2 := Lib.hid hg
  clear hg
  have HXg2 : Hid (HAt W0 g2 h) := Lib.hid hx2
  have HXg3 : Hid (InAt W0 g3 12 d (a : Int) (b : Int) n) := Lib.hid hx3
  have HXg4 : Hid (EfAt W0 g4 e0) := Lib.hid hx4
  have HB : Hid (Bel w W0) := Lib.hid hb
  clear hb hlt hx2 hx3 hx4
  go_upto_region 1 with (fail)
  rename_i K hK
  refine Upto.begin (z := 11) (T := fun w' => w'.cell? ⟨g2, a, none⟩ = some (.int .i64 (h a)) ∧ w'.cell? ⟨g2, b, none⟩ = some (.int .i64 (h b)) ∧ InAt w' g3 12 d (a : Int) (b : Int) n) (by kernel_rfl) ?_
  have hb : Bel W0 W0.drew := (Bel.refl W0).drew
  generalize W0.drew = V1 at hb ⊢
  replace HB : Hid (Bel w V1) := Lib.hid (HB.out.trans hb)
  replace HXg2 : Hid (HAt V1 g2 h) := Lib.hid (HXg2.out.bel hb)
  replace HXg3 : Hid (InAt V1 g3 12 d (a : Int) (b : Int) n) := Lib.hid (HXg3.out.bel hb)
  replace HXg4 : Hid (EfAt V1 g4 e0) := Lib.hid (HXg4.out.bel hb)
  clear hb
  have hT : V1.cell? ⟨g2, a, none⟩ = some (.int .i64 (h a)) ∧ V1.cell? ⟨g2, b, none⟩ = some (.int .i64 (h b)) ∧ InAt V1 g3 12 d (a : Int) (b : Int) n := ⟨HXg2.out.cell (j := a) (by omega), HXg2.out.cell (j := b) (by omega), HXg3.out⟩
  refine takeU 7 (i := 0) (v := .pointer (some ⟨g3, 2, none⟩)) rfl rfl rfl (by kernel_rfl) (by kernel_rfl) (by kernel_rfl) (by kernel_rfl) (fun _ _ _ h => h) (by kernel_rfl) (fun w0 hS => (by kernel_rfl)) hT ?_
  try simp only [la, lz, ls]
  refine takeU 8 (i := 1) (v := .int .i64 (a : Int)) rfl rfl rfl (by kernel_rfl) (by kernel_rfl) (by kernel_rfl) (by kernel_rfl) (fun _ _ _ h => h) (by kernel_rfl) (fun w0 hS => (exec_cell 3 (.tmp 7) rfl ⟨g3, 2, none⟩ rfl _ _ (hS.2.2).cells.2.2.1 Tryd.underlying3 rfl)) hT ?_
  try simp only [la, lz, ls]
  refine takeU 9 (i := 2) (v := .pointer (some ⟨g2, 0, none⟩)) rfl rfl rfl (by kernel_rfl) (by kernel_rfl) (by kernel_rfl) (by kernel_rfl) (fun _ _ _ h => h) (by kernel_rfl) (fun w0 hS => (by kernel_rfl)) hT ?_
  try simp only [la, lz, ls]
  refine takeU 10 (i := 3) (v := .pointer (some ⟨g2, a, none⟩)) rfl rfl rfl (by kernel_rfl) (by kernel_rfl) (by kernel_rfl) (by kernel_rfl) (fun _ _ _ h => h) (by kernel_rfl) (fun w0 hS => (exec_reg rfl g2 a (by omega) rfl rfl _)) hT ?_
  try simp only [la, lz, ls]
  refine takeU 11 (i := 4) (v := .int .i64 (h a)) rfl rfl rfl (by kernel_rfl) (by kernel_rfl) (by kernel_rfl) (by kernel_rfl) (fun _ _ _ h => h) (by kernel_rfl) (fun w0 hS => (exec_cell 3 (.tmp 10) rfl ⟨g2, a, none⟩ rfl _ _ hS.1 Tryd.underlying3 rfl)) hT ?_
  try simp only [la, lz, ls]
  refine takeU 12 (i := 5) (v := .pointer (some ⟨g3, 3, none⟩)) rfl rfl rfl (by kernel_rfl) (by kernel_rfl) (by kernel_rfl) (by kernel_rfl) (fun _ _ _ h => h) (by kernel_rfl) (fun w0 hS => (by kernel_rfl)) hT ?_
  try simp only [la, lz, ls]
  refine takeU 13 (i := 6) (v := .int .i64 (b : Int)) rfl rfl rfl (by kernel_rfl) (by kernel_rfl) (by kernel_rfl) (by kernel_rfl) (fun _ _ _ h => h) (by kernel_rfl) (fun w0 hS => (exec_cell 3 (.tmp 12) rfl ⟨g3, 3, none⟩ rfl _ _ (hS.2.2).cells.2.2.2.1 Tryd.underlying3 rfl)) hT ?_
  try simp only [la, lz, ls]
  refine takeU 14 (i := 7) (v := .pointer (some ⟨g2, 0, none⟩)) rfl rfl rfl (by kernel_rfl) (by kernel_rfl) (by kernel_rfl) (by kernel_rfl) (fun _ _ _ h => h) (by kernel_rfl) (fun w0 hS => (by kernel_rfl)) hT ?_
  try simp only [la, lz, ls]
  refine takeU 15 (i := 8) (v := .pointer (some ⟨g2, b, none⟩)) rfl rfl rfl (by kernel_rfl) (by kernel_rfl) (by kernel_rfl) (by kernel_rfl) (fun _ _ _ h => h) (by kernel_rfl) (fun w0 hS => (exec_reg rfl g2 b (by omega) rfl rfl _)) hT ?_
  try simp only [la, lz, ls]
  refine takeU 16 (i := 9) (v := .int .i64 (h b)) rfl rfl rfl (by kernel_rfl) (by kernel_rfl) (by kernel_rfl) (by kernel_rfl) (fun _ _ _ h => h) (by kernel_rfl) (fun w0 hS => (exec_cell 3 (.tmp 15) rfl ⟨g2, b, none⟩ rfl _ _ hS.2.1 Tryd.underlying3 rfl)) hT ?_
  try simp only [la, lz, ls]
  refine takeU 5 (i := 10) (v := .int .i64 (h a)) rfl rfl rfl (by kernel_rfl) (by kernel_rfl) (by kernel_rfl) (by kernel_rfl) (fun _ _ _ h => h) (by kernel_rfl) (fun w0 hS => rfl) hT ?_
  try simp only [la, lz, ls]
  refine pureU 6 (i := 11) rfl rfl (by kernel_rfl) (by kernel_rfl) (v := .int .i64 (h b)) rfl hT ?_
  try simp only [la, lz, ls]
  refine Upto.done (by kernel_rfl) ?_ _
  clear hT
  rw [hx, hy]
  refine hK _ _ ?_
  clear hK K
  have HX := Lib.hid hx
  clear hx hy
  have kg3_0 := HXg3.out.cells.1
  go_upto_region 6 with (fail)
  rename_i K hK
  refine wp_region_list ?_
  refine wpList_one rfl (w' := V1) (v := .int .i64 x) rfl ?_
  try simp only [Act.put, la, lz, ls]
  refine wpList_one rfl (w' := V1) (v := .pointer (some ⟨g3, 4, none⟩)) (by kernel_rfl) ?_
  try simp only [Act.put, la, lz, ls]
  refine wpList_load_cell rfl 3 (.tmp 32) rfl ⟨g3, 4, none⟩ rfl (.int .i64 n) _ HXg3.out.cells.2.2.2.2 Tryd.underlying3 rfl ?_
  try simp only [Act.put, la, lz, ls]
  refine wpList_one rfl (w' := V1) (v := .int .i64 (IntKind.i64.wrap (x + n))) (by kernel_rfl) ?_
  try simp only [Act.put, la, lz, ls]
  refine wpList_call rfl (f := 27) (args := #[.int .i64 (IntKind.i64.wrap (x + n))]) (v := .int .i64 m) (by kernel_rfl) (wl ((w32_i _).trans HM.out) _) ?_
  intro V2 hb
  replace HB : Hid (Bel w V2) := Lib.hid (HB.out.trans hb)
  replace HXg2 : Hid (HAt V2 g2 h) := Lib.hid (HXg2.out.bel hb)
  replace HXg3 : Hid (InAt V2 g3 12 d (a : Int) (b : Int) n) := Lib.hid (HXg3.out.bel hb)
  replace HXg4 : Hid (EfAt V2 g4 e0) := Lib.hid (HXg4.out.bel hb)
  clear hb
  try simp only [Act.put, la, lz, ls]
  refine wpList_one rfl (w' := V2) (v := .int .i64 y) rfl ?_
  try simp only [Act.put, la, lz, ls]
  refine wpList_one rfl (w' := V2) (v := .agg (eC ⟨2, 0, m, y, 0⟩)) (by kernel_rfl) ?_
  try simp only [Act.put, la, lz, ls]
  refine wpList_store_row rfl 34 (.tmp 4) (.tmp 37) rfl g4 (eC ⟨2, 0, m, y, 0⟩) rfl rfl 34 (eC e0) HXg4.out (sz_eff _) rfl (eC_ones _) ?_
  have hn := row_same (cs := (eC ⟨2, 0, m, y, 0⟩)) HXg4.out
  have hb := row_bel HB.out (g := g4) (by have := HG.out; have := HG1.out; have := HG2.out; omega) (eC ⟨2, 0, m, y, 0⟩)
  have hg2 := (setRow_other V2 g4 g2 (eC ⟨2, 0, m, y, 0⟩) (by have := HG.out; have := HG1.out; have := HG2.out; omega)).trans HXg2.out
  have hg3 := (setRow_other V2 g4 g3 (eC ⟨2, 0, m, y, 0⟩) (by have := HG.out; have := HG1.out; have := HG2.out; omega)).trans HXg3.out
  generalize V2.setRow g4 (eC ⟨2, 0, m, y, 0⟩) = V3 at hn hb hg2 hg3 ⊢
  clear HB HXg2 HXg3 HXg4
  have HB : Hid (Bel w V3) := Lib.hid hb
  have HXg2 : Hid (HAt V3 g2 h) := Lib.hid hg2
  have HXg3 : Hid (InAt V3 g3 12 d (a : Int) (b : Int) n) := Lib.hid hg3
  have HXg4 : Hid (EfAt V3 g4 ⟨2, 0, m, y, 0⟩) := Lib.hid hn
  clear hn hb hg2 hg3
  try simp only [Act.put, la, lz, ls]
  refine wpList_nil ?_
  refine hK _ _ (wp_ret ?_)
  exact bodyPost_ret (results_cell_row Tryd.results39 _ _ g4 _ _ _ _ (by rfl) HXg4.out Tryd.underlying34 rfl (sz_eff _)) (by rfl) ⟨rfl, HB.out⟩
theorem effect_39 {h : H} {a b : Nat} {d n x y m : Int} (ha : a < 32) (hb : b < 32) (hx : h a = x) (hy : h b = y) (hm : wrap32 (x + n) = m) (w : World) : Calls Tryd.prog 39 #[hv h, iv 39 d (a : Int) (b : Int) n] w (OneV (.agg (eC ⟨6, 0, 0, 0, 0⟩)) w) := by
  have HM := Lib.hid hm
  clear hm
  have hz := zero_hart
  go_enter Tryd.func39, Tryd.ntmps39
  go_upto_region 1 with (fail)
  obtain ⟨W0, hW, hb, hx2, hx3, hx4⟩ := boxes3 w (hC h) (iC 39 d (a : Int) (b : Int) n) (eC e0) 28 24 34
  first | rw [← hW] | (show Code.wp _ _ _ _ (((w.alloc (.cells (hC h) 28)).alloc (.cells (iC 39 d (a : Int) (b : Int) n) 24)).alloc (.cells (eC e0) 34)); rw [← hW])
  clear hz hW
  have hlt : w.heap.size < W0.heap.size := lt_of_heap hx2
  generalize hg : w.heap.size = g2 at hx2 hx3 hx4 hlt ⊢
  have HG := Lib.hid hg
  clear hg
  generalize hg : g2 + 1 = g3 at hx3 hx4 ⊢
  have HG1 := Lib.hid hg
  clear hg
  generalize hg : g3 + 1 = g4 at hx4 ⊢
  have HG2 := Lib.hid hg
  clear hg
  have HXg2 : Hid (HAt W0 g2 h) := Lib.hid hx2
  have HXg3 : Hid (InAt W0 g3 39 d (a : Int) (b : Int) n) := Lib.hid hx3
  have HXg4 : Hid (EfAt W0 g4 e0) := Lib.hid hx4
  have HB : Hid (Bel w W0) := Lib.hid hb
  clear hb hlt hx2 hx3 hx4
  go_upto_region 1 with (fail)
  rename_i K hK
  refine Upto.begin (z := 11) (T := fun w' => w'.cell? ⟨g2, a, none⟩ = some (.int .i64 (h a)) ∧ w'.cell? ⟨g2, b, none⟩ = some (.int .i64 (h b)) ∧ InAt w' g3 39 d (a : Int) (b : Int) n) (by kernel_rfl) ?_
  have hb : Bel W0 W0.drew := (Bel.refl W0).drew
  generalize W0.drew = V1 at hb ⊢
  replace HB : Hid (Bel w V1) := Lib.hid (HB.out.trans hb)
  replace HXg2 : Hid (HAt V1 g2 h) := Lib.hid (HXg2.out.bel hb)
  replace HXg3 : Hid (InAt V1 g3 39 d (a : Int) (b : Int) n) := Lib.hid (HXg3.out.bel hb)
  replace HXg4 : Hid (EfAt V1 g4 e0) := Lib.hid (HXg4.out.bel hb)
  clear hb
  have hT : V1.cell? ⟨g2, a, none⟩ = some (.int .i64 (h a)) ∧ V1.cell? ⟨g2, b, none⟩ = some (.int .i64 (h b)) ∧ InAt V1 g3 39 d (a : Int) (b : Int) n := ⟨HXg2.out.cell (j := a) (by omega), HXg2.out.cell (j := b) (by omega), HXg3.out⟩
  refine takeU 7 (i := 0) (v := .pointer (some ⟨g3, 2, none⟩)) rfl rfl rfl (by kernel_rfl) (by kernel_rfl) (by kernel_rfl) (by kernel_rfl) (fun _ _ _ h => h) (by kernel_rfl) (fun w0 hS => (by kernel_rfl)) hT ?_
  try simp only [la, lz, ls]
  refine takeU 8 (i := 1) (v := .int .i64 (a : Int)) rfl rfl rfl (by kernel_rfl) (by kernel_rfl) (by kernel_rfl) (by kernel_rfl) (fun _ _ _ h => h) (by kernel_rfl) (fun w0 hS => (exec_cell 3 (.tmp 7) rfl ⟨g3, 2, none⟩ rfl _ _ (hS.2.2).cells.2.2.1 Tryd.underlying3 rfl)) hT ?_
  try simp only [la, lz, ls]
  refine takeU 9 (i := 2) (v := .pointer (some ⟨g2, 0, none⟩)) rfl rfl rfl (by kernel_rfl) (by kernel_rfl) (by kernel_rfl) (by kernel_rfl) (fun _ _ _ h => h) (by kernel_rfl) (fun w0 hS => (by kernel_rfl)) hT ?_
  try simp only [la, lz, ls]
  refine takeU 10 (i := 3) (v := .pointer (some ⟨g2, a, none⟩)) rfl rfl rfl (by kernel_rfl) (by kernel_rfl) (by kernel_rfl) (by kernel_rfl) (fun _ _ _ h => h) (by kernel_rfl) (fun w0 hS => (exec_reg rfl g2 a (by omega) rfl rfl _)) hT ?_
  try simp only [la, lz, ls]
  refine takeU 11 (i := 4) (v := .int .i64 (h a)) rfl rfl rfl (by kernel_rfl) (by kernel_rfl) (by kernel_rfl) (by kernel_rfl) (fun _ _ _ h => h) (by kernel_rfl) (fun w0 hS => (exec_cell 3 (.tmp 10) rfl ⟨g2, a, none⟩ rfl _ _ hS.1 Tryd.underlying3 rfl)) hT ?_
  try simp only [la, lz, ls]
  refine takeU 12 (i := 5) (v := .pointer (some ⟨g3, 3, none⟩)) rfl rfl rfl (by kernel_rfl) (by kernel_rfl) (by kernel_rfl) (by kernel_rfl) (fun _ _ _ h => h) (by kernel_rfl) (fun w0 hS => (by kernel_rfl)) hT ?_
  try simp only [la, lz, ls]
  refine takeU 13 (i := 6) (v := .int .i64 (b : Int)) rfl rfl rfl (by kernel_rfl) (by kernel_rfl) (by kernel_rfl) (by kernel_rfl) (fun _ _ _ h => h) (by kernel_rfl) (fun w0 hS => (exec_cell 3 (.tmp 12) rfl ⟨g3, 3, none⟩ rfl _ _ (hS.2.2).cells.2.2.2.1 Tryd.underlying3 rfl)) hT ?_
  try simp only [la, lz, ls]
  refine takeU 14 (i := 7) (v := .pointer (some ⟨g2, 0, none⟩)) rfl rfl rfl (by kernel_rfl) (by kernel_rfl) (by kernel_rfl) (by kernel_rfl) (fun _ _ _ h => h) (by kernel_rfl) (fun w0 hS => (by kernel_rfl)) hT ?_
  try simp only [la, lz, ls]
  refine takeU 15 (i := 8) (v := .pointer (some ⟨g2, b, none⟩)) rfl rfl rfl (by kernel_rfl) (by kernel_rfl) (by kernel_rfl) (by kernel_rfl) (fun _ _ _ h => h) (by kernel_rfl) (fun w0 hS => (exec_reg rfl g2 b (by omega) rfl rfl _)) hT ?_
  try simp only [la, lz, ls]
  refine takeU 16 (i := 9) (v := .int .i64 (h b)) rfl rfl rfl (by kernel_rfl) (by kernel_rfl) (by kernel_rfl) (by kernel_rfl) (fun _ _ _ h => h) (by kernel_rfl) (fun w0 hS => (exec_cell 3 (.tmp 15) rfl ⟨g2, b, none⟩ rfl _ _ hS.2.1 Tryd.underlying3 rfl)) hT ?_
  try simp only [la, lz, ls]
  refine takeU 5 (i := 10) (v := .int .i64 (h a)) rfl rfl rfl (by kernel_rfl) (by kernel_rfl) (by kernel_rfl) (by kernel_rfl) (fun _ _ _ h => h) (by kernel_rfl) (fun w0 hS => rfl) hT ?_
  try simp only [la, lz, ls]
  refine pureU 6 (i := 11) rfl rfl (by kernel_rfl) (by kernel_rfl) (v := .int .i64 (h b)) rfl hT ?_
  try simp only [la, lz, ls]
  refine Upto.done (by kernel_rfl) ?_ _
  clear hT
  rw [hx, hy]
  refine hK _ _ ?_
  clear hK K
  have HX := Lib.hid hx
  clear hx hy
  have kg3_0 := HXg3.out.cells.1
  go_upto_region 8 with (fail)
  rename_i K hK
  refine wp_region_list ?_
  refine wpList_one rfl (w' := V1) (v := .agg (eC ⟨6, 0, 0, 0, 0⟩)) (by kernel_rfl) ?_
  try simp only [Act.put, la, lz, ls]
  refine wpList_store_row rfl 34 (.tmp 4) (.tmp 40) rfl g4 (eC ⟨6, 0, 0, 0, 0⟩) rfl rfl 34 (eC e0) HXg4.out (sz_eff _) rfl (eC_ones _) ?_
  have hn := row_same (cs := (eC ⟨6, 0, 0, 0, 0⟩)) HXg4.out
  have hb := row_bel HB.out (g := g4) (by have := HG.out; have := HG1.out; have := HG2.out; omega) (eC ⟨6, 0, 0, 0, 0⟩)
  have hg2 := (setRow_other V1 g4 g2 (eC ⟨6, 0, 0, 0, 0⟩) (by have := HG.out; have := HG1.out; have := HG2.out; omega)).trans HXg2.out
  have hg3 := (setRow_other V1 g4 g3 (eC ⟨6, 0, 0, 0, 0⟩) (by have := HG.out; have := HG1.out; have := HG2.out; omega)).trans HXg3.out
  generalize V1.setRow g4 (eC ⟨6, 0, 0, 0, 0⟩) = V2 at hn hb hg2 hg3 ⊢
  clear HB HXg2 HXg3 HXg4
  have HB : Hid (Bel w V2) := Lib.hid hb
  have HXg2 : Hid (HAt V2 g2 h) := Lib.hid hg2
  have HXg3 : Hid (InAt V2 g3 39 d (a : Int) (b : Int) n) := Lib.hid hg3
  have HXg4 : Hid (EfAt V2 g4 ⟨6, 0, 0, 0, 0⟩) := Lib.hid hn
  clear hn hb hg2 hg3
  try simp only [Act.put, la, lz, ls]
  refine wpList_nil ?_
  refine hK _ _ (wp_ret ?_)
  exact bodyPost_ret (results_cell_row Tryd.results39 _ _ g4 _ _ _ _ (by rfl) HXg4.out Tryd.underlying34 rfl (sz_eff _)) (by rfl) ⟨rfl, HB.out⟩
theorem effect_46 {h : H} {a b : Nat} {d n x y m : Int} (ha : a < 32) (hb : b < 32) (hx : h a = x) (hy : h b = y) (hm : wrap32 (x + n) = m) (w : World) : Calls Tryd.prog 39 #[hv h, iv 46 d (a : Int) (b : Int) n] w (OneV (.agg (eC ⟨3, d, x, 0, 0⟩)) w) := by
  have HM := Lib.hid hm
  clear hm
  have hz := zero_hart
  go_enter Tryd.func39, Tryd.ntmps39
  go_upto_region 1 with (fail)
  obtain ⟨W0, hW, hb, hx2, hx3, hx4⟩ := boxes3 w (hC h) (iC 46 d (a : Int) (b : Int) n) (eC e0) 28 24 34
  first | rw [← hW] | (show Code.wp _ _ _ _ (((w.alloc (.cells (hC h) 28)).alloc (.cells (iC 46 d (a : Int) (b : Int) n) 24)).alloc (.cells (eC e0) 34)); rw [← hW])
  clear hz hW
  have hlt : w.heap.size < W0.heap.size := lt_of_heap hx2
  generalize hg : w.heap.size = g2 at hx2 hx3 hx4 hlt ⊢
  have HG := Lib.hid hg
  clear hg
  generalize hg : g2 + 1 = g3 at hx3 hx4 ⊢
  have HG1 := Lib.hid hg
  clear hg
  generalize hg : g3 + 1 = g4 at hx4 ⊢
  have HG2 := Lib.hid hg
  clear hg
  have HXg2 : Hid (HAt W0 g2 h) := Lib.hid hx2
  have HXg3 : Hid (InAt W0 g3 46 d (a : Int) (b : Int) n) := Lib.hid hx3
  have HXg4 : Hid (EfAt W0 g4 e0) := Lib.hid hx4
  have HB : Hid (Bel w W0) := Lib.hid hb
  clear hb hlt hx2 hx3 hx4
  go_upto_region 1 with (fail)
  rename_i K hK
  refine Upto.begin (z := 11) (T := fun w' => w'.cell? ⟨g2, a, none⟩ = some (.int .i64 (h a)) ∧ w'.cell? ⟨g2, b, none⟩ = some (.int .i64 (h b)) ∧ InAt w' g3 46 d (a : Int) (b : Int) n) (by kernel_rfl) ?_
  have hb : Bel W0 W0.drew := (Bel.refl W0).drew
  generalize W0.drew = V1 at hb ⊢
  replace HB : Hid (Bel w V1) := Lib.hid (HB.out.trans hb)
  replace HXg2 : Hid (HAt V1 g2 h) := Lib.hid (HXg2.out.bel hb)
  replace HXg3 : Hid (InAt V1 g3 46 d (a : Int) (b : Int) n) := Lib.hid (HXg3.out.bel hb)
  replace HXg4 : Hid (EfAt V1 g4 e0) := Lib.hid (HXg4.out.bel hb)
  clear hb
  have hT : V1.cell? ⟨g2, a, none⟩ = some (.int .i64 (h a)) ∧ V1.cell? ⟨g2, b, none⟩ = some (.int .i64 (h b)) ∧ InAt V1 g3 46 d (a : Int) (b : Int) n := ⟨HXg2.out.cell (j := a) (by omega), HXg2.out.cell (j := b) (by omega), HXg3.out⟩
  refine takeU 7 (i := 0) (v := .pointer (some ⟨g3, 2, none⟩)) rfl rfl rfl (by kernel_rfl) (by kernel_rfl) (by kernel_rfl) (by kernel_rfl) (fun _ _ _ h => h) (by kernel_rfl) (fun w0 hS => (by kernel_rfl)) hT ?_
  try simp only [la, lz, ls]
  refine takeU 8 (i := 1) (v := .int .i64 (a : Int)) rfl rfl rfl (by kernel_rfl) (by kernel_rfl) (by kernel_rfl) (by kernel_rfl) (fun _ _ _ h => h) (by kernel_rfl) (fun w0 hS => (exec_cell 3 (.tmp 7) rfl ⟨g3, 2, none⟩ rfl _ _ (hS.2.2).cells.2.2.1 Tryd.underlying3 rfl)) hT ?_
  try simp only [la, lz, ls]
  refine takeU 9 (i := 2) (v := .pointer (some ⟨g2, 0, none⟩)) rfl rfl rfl (by kernel_rfl) (by kernel_rfl) (by kernel_rfl) (by kernel_rfl) (fun _ _ _ h => h) (by kernel_rfl) (fun w0 hS => (by kernel_rfl)) hT ?_
  try simp only [la, lz, ls]
  refine takeU 10 (i := 3) (v := .pointer (some ⟨g2, a, none⟩)) rfl rfl rfl (by kernel_rfl) (by kernel_rfl) (by kernel_rfl) (by kernel_rfl) (fun _ _ _ h => h) (by kernel_rfl) (fun w0 hS => (exec_reg rfl g2 a (by omega) rfl rfl _)) hT ?_
  try simp only [la, lz, ls]
  refine takeU 11 (i := 4) (v := .int .i64 (h a)) rfl rfl rfl (by kernel_rfl) (by kernel_rfl) (by kernel_rfl) (by kernel_rfl) (fun _ _ _ h => h) (by kernel_rfl) (fun w0 hS => (exec_cell 3 (.tmp 10) rfl ⟨g2, a, none⟩ rfl _ _ hS.1 Tryd.underlying3 rfl)) hT ?_
  try simp only [la, lz, ls]
  refine takeU 12 (i := 5) (v := .pointer (some ⟨g3, 3, none⟩)) rfl rfl rfl (by kernel_rfl) (by kernel_rfl) (by kernel_rfl) (by kernel_rfl) (fun _ _ _ h => h) (by kernel_rfl) (fun w0 hS => (by kernel_rfl)) hT ?_
  try simp only [la, lz, ls]
  refine takeU 13 (i := 6) (v := .int .i64 (b : Int)) rfl rfl rfl (by kernel_rfl) (by kernel_rfl) (by kernel_rfl) (by kernel_rfl) (fun _ _ _ h => h) (by kernel_rfl) (fun w0 hS => (exec_cell 3 (.tmp 12) rfl ⟨g3, 3, none⟩ rfl _ _ (hS.2.2).cells.2.2.2.1 Tryd.underlying3 rfl)) hT ?_
  try simp only [la, lz, ls]
  refine takeU 14 (i := 7) (v := .pointer (some ⟨g2, 0, none⟩)) rfl rfl rfl (by kernel_rfl) (by kernel_rfl) (by kernel_rfl) (by kernel_rfl) (fun _ _ _ h => h) (by kernel_rfl) (fun w0 hS => (by kernel_rfl)) hT ?_
  try simp only [la, lz, ls]
  refine takeU 15 (i := 8) (v := .pointer (some ⟨g2, b, none⟩)) rfl rfl rfl (by kernel_rfl) (by kernel_rfl) (by kernel_rfl) (by kernel_rfl) (fun _ _ _ h => h) (by kernel_rfl) (fun w0 hS => (exec_reg rfl g2 b (by omega) rfl rfl _)) hT ?_
  try simp only [la, lz, ls]
  refine takeU 16 (i := 9) (v := .int .i64 (h b)) rfl rfl rfl (by kernel_rfl) (by kernel_rfl) (by kernel_rfl) (by kernel_rfl) (fun _ _ _ h => h) (by kernel_rfl) (fun w0 hS => (exec_cell 3 (.tmp 15) rfl ⟨g2, b, none⟩ rfl _ _ hS.2.1 Tryd.underlying3 rfl)) hT ?_
  try simp only [la, lz, ls]
  refine takeU 5 (i := 10) (v := .int .i64 (h a)) rfl rfl rfl (by kernel_rfl) (by kernel_rfl) (by kernel_rfl) (by kernel_rfl) (fun _ _ _ h => h) (by kernel_rfl) (fun w0 hS => rfl) hT ?_
  try simp only [la, lz, ls]
  refine pureU 6 (i := 11) rfl rfl (by kernel_rfl) (by kernel_rfl) (v := .int .i64 (h b)) rfl hT ?_
  try simp only [la, lz, ls]
  refine Upto.done (by kernel_rfl) ?_ _
  clear hT
  rw [hx, hy]
  refine hK _ _ ?_
  clear hK K
  have HX := Lib.hid hx
  clear hx hy
  have kg3_0 := HXg3.out.cells.1
  go_upto_region 10 with (fail)
  rename_i K hK
  refine wp_region_list ?_
  refine wpList_one rfl (w' := V1) (v := .pointer (some ⟨g3, 1, none⟩)) (by kernel_rfl) ?_
  try simp only [Act.put, la, lz, ls]
  refine wpList_load_cell rfl 3 (.tmp 43) rfl ⟨g3, 1, none⟩ rfl (.int .i64 d) _ HXg3.out.cells.2.1 Tryd.underlying3 rfl ?_
  try simp only [Act.put, la, lz, ls]
  refine wpList_one rfl (w' := V1) (v := .int .i64 x) rfl ?_
  try simp only [Act.put, la, lz, ls]
  refine wpList_one rfl (w' := V1) (v := .agg (eC ⟨3, d, x, 0, 0⟩)) (by kernel_rfl) ?_
  try simp only [Act.put, la, lz, ls]
  refine wpList_store_row rfl 34 (.tmp 4) (.tmp 46) rfl g4 (eC ⟨3, d, x, 0, 0⟩) rfl rfl 34 (eC e0) HXg4.out (sz_eff _) rfl (eC_ones _) ?_
  have hn := row_same (cs := (eC ⟨3, d, x, 0, 0⟩)) HXg4.out
  have hb := row_bel HB.out (g := g4) (by have := HG.out; have := HG1.out; have := HG2.out; omega) (eC ⟨3, d, x, 0, 0⟩)
  have hg2 := (setRow_other V1 g4 g2 (eC ⟨3, d, x, 0, 0⟩) (by have := HG.out; have := HG1.out; have := HG2.out; omega)).trans HXg2.out
  have hg3 := (setRow_other V1 g4 g3 (eC ⟨3, d, x, 0, 0⟩) (by have := HG.out; have := HG1.out; have := HG2.out; omega)).trans HXg3.out
  generalize V1.setRow g4 (eC ⟨3, d, x, 0, 0⟩) = V2 at hn hb hg2 hg3 ⊢
  clear HB HXg2 HXg3 HXg4
  have HB : Hid (Bel w V2) := Lib.hid hb
  have HXg2 : Hid (HAt V2 g2 h) := Lib.hid hg2
  have HXg3 : Hid (InAt V2 g3 46 d (a : Int) (b : Int) n) := Lib.hid hg3
  have HXg4 : Hid (EfAt V2 g4 ⟨3, d, x, 0, 0⟩) := Lib.hid hn
  clear hn hb hg2 hg3
  try simp only [Act.put, la, lz, ls]
  refine wpList_nil ?_
  refine hK _ _ (wp_ret ?_)
  exact bodyPost_ret (results_cell_row Tryd.results39 _ _ g4 _ _ _ _ (by rfl) HXg4.out Tryd.underlying34 rfl (sz_eff _)) (by rfl) ⟨rfl, HB.out⟩
theorem effect_47 {h : H} {a b : Nat} {d n x y m : Int} (ha : a < 32) (hb : b < 32) (hx : h a = x) (hy : h b = y) (hm : wrap32 (x + n) = m) (w : World) : Calls Tryd.prog 39 #[hv h, iv 47 d (a : Int) (b : Int) n] w (OneV (.agg (eC ⟨4, d, x, y, 0⟩)) w) := by
  have HM := Lib.hid hm
  clear hm
  have hz := zero_hart
  go_enter Tryd.func39, Tryd.ntmps39
  go_upto_region 1 with (fail)
  obtain ⟨W0, hW, hb, hx2, hx3, hx4⟩ := boxes3 w (hC h) (iC 47 d (a : Int) (b : Int) n) (eC e0) 28 24 34
  first | rw [← hW] | (show Code.wp _ _ _ _ (((w.alloc (.cells (hC h) 28)).alloc (.cells (iC 47 d (a : Int) (b : Int) n) 24)).alloc (.cells (eC e0) 34)); rw [← hW])
  clear hz hW
  have hlt : w.heap.size < W0.heap.size := lt_of_heap hx2
  generalize hg : w.heap.size = g2 at hx2 hx3 hx4 hlt ⊢
  have HG := Lib.hid hg
  clear hg
  generalize hg : g2 + 1 = g3 at hx3 hx4 ⊢
  have HG1 := Lib.hid hg
  clear hg
  generalize hg : g3 + 1 = g4 at hx4 ⊢
  have HG2 := Lib.hid hg
  clear hg
  have HXg2 : Hid (HAt W0 g2 h) := Lib.hid hx2
  have HXg3 : Hid (InAt W0 g3 47 d (a : Int) (b : Int) n) := Lib.hid hx3
  have HXg4 : Hid (EfAt W0 g4 e0) := Lib.hid hx4
  have HB : Hid (Bel w W0) := Lib.hid hb
  clear hb hlt hx2 hx3 hx4
  go_upto_region 1 with (fail)
  rename_i K hK
  refine Upto.begin (z := 11) (T := fun w' => w'.cell? ⟨g2, a, none⟩ = some (.int .i64 (h a)) ∧ w'.cell? ⟨g2, b, none⟩ = some (.int .i64 (h b)) ∧ InAt w' g3 47 d (a : Int) (b : Int) n) (by kernel_rfl) ?_
  have hb : Bel W0 W0.drew := (Bel.refl W0).drew
  generalize W0.drew = V1 at hb ⊢
  replace HB : Hid (Bel w V1) := Lib.hid (HB.out.trans hb)
  replace HXg2 : Hid (HAt V1 g2 h) := Lib.hid (HXg2.out.bel hb)
  replace HXg3 : Hid (InAt V1 g3 47 d (a : Int) (b : Int) n) := Lib.hid (HXg3.out.bel hb)
  replace HXg4 : Hid (EfAt V1 g4 e0) := Lib.hid (HXg4.out.bel hb)
  clear hb
  have hT : V1.cell? ⟨g2, a, none⟩ = some (.int .i64 (h a)) ∧ V1.cell? ⟨g2, b, none⟩ = some (.int .i64 (h b)) ∧ InAt V1 g3 47 d (a : Int) (b : Int) n := ⟨HXg2.out.cell (j := a) (by omega), HXg2.out.cell (j := b) (by omega), HXg3.out⟩
  refine takeU 7 (i := 0) (v := .pointer (some ⟨g3, 2, none⟩)) rfl rfl rfl (by kernel_rfl) (by kernel_rfl) (by kernel_rfl) (by kernel_rfl) (fun _ _ _ h => h) (by kernel_rfl) (fun w0 hS => (by kernel_rfl)) hT ?_
  try simp only [la, lz, ls]
  refine takeU 8 (i := 1) (v := .int .i64 (a : Int)) rfl rfl rfl (by kernel_rfl) (by kernel_rfl) (by kernel_rfl) (by kernel_rfl) (fun _ _ _ h => h) (by kernel_rfl) (fun w0 hS => (exec_cell 3 (.tmp 7) rfl ⟨g3, 2, none⟩ rfl _ _ (hS.2.2).cells.2.2.1 Tryd.underlying3 rfl)) hT ?_
  try simp only [la, lz, ls]
  refine takeU 9 (i := 2) (v := .pointer (some ⟨g2, 0, none⟩)) rfl rfl rfl (by kernel_rfl) (by kernel_rfl) (by kernel_rfl) (by kernel_rfl) (fun _ _ _ h => h) (by kernel_rfl) (fun w0 hS => (by kernel_rfl)) hT ?_
  try simp only [la, lz, ls]
  refine takeU 10 (i := 3) (v := .pointer (some ⟨g2, a, none⟩)) rfl rfl rfl (by kernel_rfl) (by kernel_rfl) (by kernel_rfl) (by kernel_rfl) (fun _ _ _ h => h) (by kernel_rfl) (fun w0 hS => (exec_reg rfl g2 a (by omega) rfl rfl _)) hT ?_
  try simp only [la, lz, ls]
  refine takeU 11 (i := 4) (v := .int .i64 (h a)) rfl rfl rfl (by kernel_rfl) (by kernel_rfl) (by kernel_rfl) (by kernel_rfl) (fun _ _ _ h => h) (by kernel_rfl) (fun w0 hS => (exec_cell 3 (.tmp 10) rfl ⟨g2, a, none⟩ rfl _ _ hS.1 Tryd.underlying3 rfl)) hT ?_
  try simp only [la, lz, ls]
  refine takeU 12 (i := 5) (v := .pointer (some ⟨g3, 3, none⟩)) rfl rfl rfl (by kernel_rfl) (by kernel_rfl) (by kernel_rfl) (by kernel_rfl) (fun _ _ _ h => h) (by kernel_rfl) (fun w0 hS => (by kernel_rfl)) hT ?_
  try simp only [la, lz, ls]
  refine takeU 13 (i := 6) (v := .int .i64 (b : Int)) rfl rfl rfl (by kernel_rfl) (by kernel_rfl) (by kernel_rfl) (by kernel_rfl) (fun _ _ _ h => h) (by kernel_rfl) (fun w0 hS => (exec_cell 3 (.tmp 12) rfl ⟨g3, 3, none⟩ rfl _ _ (hS.2.2).cells.2.2.2.1 Tryd.underlying3 rfl)) hT ?_
  try simp only [la, lz, ls]
  refine takeU 14 (i := 7) (v := .pointer (some ⟨g2, 0, none⟩)) rfl rfl rfl (by kernel_rfl) (by kernel_rfl) (by kernel_rfl) (by kernel_rfl) (fun _ _ _ h => h) (by kernel_rfl) (fun w0 hS => (by kernel_rfl)) hT ?_
  try simp only [la, lz, ls]
  refine takeU 15 (i := 8) (v := .pointer (some ⟨g2, b, none⟩)) rfl rfl rfl (by kernel_rfl) (by kernel_rfl) (by kernel_rfl) (by kernel_rfl) (fun _ _ _ h => h) (by kernel_rfl) (fun w0 hS => (exec_reg rfl g2 b (by omega) rfl rfl _)) hT ?_
  try simp only [la, lz, ls]
  refine takeU 16 (i := 9) (v := .int .i64 (h b)) rfl rfl rfl (by kernel_rfl) (by kernel_rfl) (by kernel_rfl) (by kernel_rfl) (fun _ _ _ h => h) (by kernel_rfl) (fun w0 hS => (exec_cell 3 (.tmp 15) rfl ⟨g2, b, none⟩ rfl _ _ hS.2.1 Tryd.underlying3 rfl)) hT ?_
  try simp only [la, lz, ls]
  refine takeU 5 (i := 10) (v := .int .i64 (h a)) rfl rfl rfl (by kernel_rfl) (by kernel_rfl) (by kernel_rfl) (by kernel_rfl) (fun _ _ _ h => h) (by kernel_rfl) (fun w0 hS => rfl) hT ?_
  try simp only [la, lz, ls]
  refine pureU 6 (i := 11) rfl rfl (by kernel_rfl) (by kernel_rfl) (v := .int .i64 (h b)) rfl hT ?_
  try simp only [la, lz, ls]
  refine Upto.done (by kernel_rfl) ?_ _
  clear hT
  rw [hx, hy]
  refine hK _ _ ?_
  clear hK K
  have HX := Lib.hid hx
  clear hx hy
  have kg3_0 := HXg3.out.cells.1
  go_upto_region 12 with (fail)
  rename_i K hK
  refine wp_region_list ?_
  refine wpList_one rfl (w' := V1) (v := .pointer (some ⟨g3, 1, none⟩)) (by kernel_rfl) ?_
  try simp only [Act.put, la, lz, ls]
  refine wpList_load_cell rfl 3 (.tmp 49) rfl ⟨g3, 1, none⟩ rfl (.int .i64 d) _ HXg3.out.cells.2.1 Tryd.underlying3 rfl ?_
  try simp only [Act.put, la, lz, ls]
  refine wpList_one rfl (w' := V1) (v := .int .i64 x) rfl ?_
  try simp only [Act.put, la, lz, ls]
  refine wpList_one rfl (w' := V1) (v := .int .i64 y) rfl ?_
  try simp only [Act.put, la, lz, ls]
  refine wpList_one rfl (w' := V1) (v := .agg (eC ⟨4, d, x, y, 0⟩)) (by kernel_rfl) ?_
  try simp only [Act.put, la, lz, ls]
  refine wpList_store_row rfl 34 (.tmp 4) (.tmp 53) rfl g4 (eC ⟨4, d, x, y, 0⟩) rfl rfl 34 (eC e0) HXg4.out (sz_eff _) rfl (eC_ones _) ?_
  have hn := row_same (cs := (eC ⟨4, d, x, y, 0⟩)) HXg4.out
  have hb := row_bel HB.out (g := g4) (by have := HG.out; have := HG1.out; have := HG2.out; omega) (eC ⟨4, d, x, y, 0⟩)
  have hg2 := (setRow_other V1 g4 g2 (eC ⟨4, d, x, y, 0⟩) (by have := HG.out; have := HG1.out; have := HG2.out; omega)).trans HXg2.out
  have hg3 := (setRow_other V1 g4 g3 (eC ⟨4, d, x, y, 0⟩) (by have := HG.out; have := HG1.out; have := HG2.out; omega)).trans HXg3.out
  generalize V1.setRow g4 (eC ⟨4, d, x, y, 0⟩) = V2 at hn hb hg2 hg3 ⊢
  clear HB HXg2 HXg3 HXg4
  have HB : Hid (Bel w V2) := Lib.hid hb
  have HXg2 : Hid (HAt V2 g2 h) := Lib.hid hg2
  have HXg3 : Hid (InAt V2 g3 47 d (a : Int) (b : Int) n) := Lib.hid hg3
  have HXg4 : Hid (EfAt V2 g4 ⟨4, d, x, y, 0⟩) := Lib.hid hn
  clear hn hb hg2 hg3
  try simp only [Act.put, la, lz, ls]
  refine wpList_nil ?_
  refine hK _ _ (wp_ret ?_)
  exact bodyPost_ret (results_cell_row Tryd.results39 _ _ g4 _ _ _ _ (by rfl) HXg4.out Tryd.underlying34 rfl (sz_eff _)) (by rfl) ⟨rfl, HB.out⟩
theorem effect_48 {h : H} {a b : Nat} {d n x y m : Int} (ha : a < 32) (hb : b < 32) (hx : h a = x) (hy : h b = y) (hm : wrap32 (x + n) = m) (w : World) : Calls Tryd.prog 39 #[hv h, iv 48 d (a : Int) (b : Int) n] w (OneV (.agg (eC ⟨5, d, x, y, 0⟩)) w) := by
  have HM := Lib.hid hm
  clear hm
  have hz := zero_hart
  go_enter Tryd.func39, Tryd.ntmps39
  go_upto_region 1 with (fail)
  obtain ⟨W0, hW, hb, hx2, hx3, hx4⟩ := boxes3 w (hC h) (iC 48 d (a : Int) (b : Int) n) (eC e0) 28 24 34
  first | rw [← hW] | (show Code.wp _ _ _ _ (((w.alloc (.cells (hC h) 28)).alloc (.cells (iC 48 d (a : Int) (b : Int) n) 24)).alloc (.cells (eC e0) 34)); rw [← hW])
  clear hz hW
  have hlt : w.heap.size < W0.heap.size := lt_of_heap hx2
  generalize hg : w.heap.size = g2 at hx2 hx3 hx4 hlt ⊢
  have HG := Lib.hid hg
  clear hg
  generalize hg : g2 + 1 = g3 at hx3 hx4 ⊢
  have HG1 := Lib.hid hg
  clear hg
  generalize hg : g3 + 1 = g4 at hx4 ⊢
  have HG2 := Lib.hid hg
  clear hg
  have HXg2 : Hid (HAt W0 g2 h) := Lib.hid hx2
  have HXg3 : Hid (InAt W0 g3 48 d (a : Int) (b : Int) n) := Lib.hid hx3
  have HXg4 : Hid (EfAt W0 g4 e0) := Lib.hid hx4
  have HB : Hid (Bel w W0) := Lib.hid hb
  clear hb hlt hx2 hx3 hx4
  go_upto_region 1 with (fail)
  rename_i K hK
  refine Upto.begin (z := 11) (T := fun w' => w'.cell? ⟨g2, a, none⟩ = some (.int .i64 (h a)) ∧ w'.cell? ⟨g2, b, none⟩ = some (.int .i64 (h b)) ∧ InAt w' g3 48 d (a : Int) (b : Int) n) (by kernel_rfl) ?_
  have hb : Bel W0 W0.drew := (Bel.refl W0).drew
  generalize W0.drew = V1 at hb ⊢
  replace HB : Hid (Bel w V1) := Lib.hid (HB.out.trans hb)
  replace HXg2 : Hid (HAt V1 g2 h) := Lib.hid (HXg2.out.bel hb)
  replace HXg3 : Hid (InAt V1 g3 48 d (a : Int) (b : Int) n) := Lib.hid (HXg3.out.bel hb)
  replace HXg4 : Hid (EfAt V1 g4 e0) := Lib.hid (HXg4.out.bel hb)
  clear hb
  have hT : V1.cell? ⟨g2, a, none⟩ = some (.int .i64 (h a)) ∧ V1.cell? ⟨g2, b, none⟩ = some (.int .i64 (h b)) ∧ InAt V1 g3 48 d (a : Int) (b : Int) n := ⟨HXg2.out.cell (j := a) (by omega), HXg2.out.cell (j := b) (by omega), HXg3.out⟩
  refine takeU 7 (i := 0) (v := .pointer (some ⟨g3, 2, none⟩)) rfl rfl rfl (by kernel_rfl) (by kernel_rfl) (by kernel_rfl) (by kernel_rfl) (fun _ _ _ h => h) (by kernel_rfl) (fun w0 hS => (by kernel_rfl)) hT ?_
  try simp only [la, lz, ls]
  refine takeU 8 (i := 1) (v := .int .i64 (a : Int)) rfl rfl rfl (by kernel_rfl) (by kernel_rfl) (by kernel_rfl) (by kernel_rfl) (fun _ _ _ h => h) (by kernel_rfl) (fun w0 hS => (exec_cell 3 (.tmp 7) rfl ⟨g3, 2, none⟩ rfl _ _ (hS.2.2).cells.2.2.1 Tryd.underlying3 rfl)) hT ?_
  try simp only [la, lz, ls]
  refine takeU 9 (i := 2) (v := .pointer (some ⟨g2, 0, none⟩)) rfl rfl rfl (by kernel_rfl) (by kernel_rfl) (by kernel_rfl) (by kernel_rfl) (fun _ _ _ h => h) (by kernel_rfl) (fun w0 hS => (by kernel_rfl)) hT ?_
  try simp only [la, lz, ls]
  refine takeU 10 (i := 3) (v := .pointer (some ⟨g2, a, none⟩)) rfl rfl rfl (by kernel_rfl) (by kernel_rfl) (by kernel_rfl) (by kernel_rfl) (fun _ _ _ h => h) (by kernel_rfl) (fun w0 hS => (exec_reg rfl g2 a (by omega) rfl rfl _)) hT ?_
  try simp only [la, lz, ls]
  refine takeU 11 (i := 4) (v := .int .i64 (h a)) rfl rfl rfl (by kernel_rfl) (by kernel_rfl) (by kernel_rfl) (by kernel_rfl) (fun _ _ _ h => h) (by kernel_rfl) (fun w0 hS => (exec_cell 3 (.tmp 10) rfl ⟨g2, a, none⟩ rfl _ _ hS.1 Tryd.underlying3 rfl)) hT ?_
  try simp only [la, lz, ls]
  refine takeU 12 (i := 5) (v := .pointer (some ⟨g3, 3, none⟩)) rfl rfl rfl (by kernel_rfl) (by kernel_rfl) (by kernel_rfl) (by kernel_rfl) (fun _ _ _ h => h) (by kernel_rfl) (fun w0 hS => (by kernel_rfl)) hT ?_
  try simp only [la, lz, ls]
  refine takeU 13 (i := 6) (v := .int .i64 (b : Int)) rfl rfl rfl (by kernel_rfl) (by kernel_rfl) (by kernel_rfl) (by kernel_rfl) (fun _ _ _ h => h) (by kernel_rfl) (fun w0 hS => (exec_cell 3 (.tmp 12) rfl ⟨g3, 3, none⟩ rfl _ _ (hS.2.2).cells.2.2.2.1 Tryd.underlying3 rfl)) hT ?_
  try simp only [la, lz, ls]
  refine takeU 14 (i := 7) (v := .pointer (some ⟨g2, 0, none⟩)) rfl rfl rfl (by kernel_rfl) (by kernel_rfl) (by kernel_rfl) (by kernel_rfl) (fun _ _ _ h => h) (by kernel_rfl) (fun w0 hS => (by kernel_rfl)) hT ?_
  try simp only [la, lz, ls]
  refine takeU 15 (i := 8) (v := .pointer (some ⟨g2, b, none⟩)) rfl rfl rfl (by kernel_rfl) (by kernel_rfl) (by kernel_rfl) (by kernel_rfl) (fun _ _ _ h => h) (by kernel_rfl) (fun w0 hS => (exec_reg rfl g2 b (by omega) rfl rfl _)) hT ?_
  try simp only [la, lz, ls]
  refine takeU 16 (i := 9) (v := .int .i64 (h b)) rfl rfl rfl (by kernel_rfl) (by kernel_rfl) (by kernel_rfl) (by kernel_rfl) (fun _ _ _ h => h) (by kernel_rfl) (fun w0 hS => (exec_cell 3 (.tmp 15) rfl ⟨g2, b, none⟩ rfl _ _ hS.2.1 Tryd.underlying3 rfl)) hT ?_
  try simp only [la, lz, ls]
  refine takeU 5 (i := 10) (v := .int .i64 (h a)) rfl rfl rfl (by kernel_rfl) (by kernel_rfl) (by kernel_rfl) (by kernel_rfl) (fun _ _ _ h => h) (by kernel_rfl) (fun w0 hS => rfl) hT ?_
  try simp only [la, lz, ls]
  refine pureU 6 (i := 11) rfl rfl (by kernel_rfl) (by kernel_rfl) (v := .int .i64 (h b)) rfl hT ?_
  try simp only [la, lz, ls]
  refine Upto.done (by kernel_rfl) ?_ _
  clear hT
  rw [hx, hy]
  refine hK _ _ ?_
  clear hK K
  have HX := Lib.hid hx
  clear hx hy
  have kg3_0 := HXg3.out.cells.1
  go_upto_region 14 with (fail)
  rename_i K hK
  refine wp_region_list ?_
  refine wpList_one rfl (w' := V1) (v := .pointer (some ⟨g3, 1, none⟩)) (by kernel_rfl) ?_
  try simp only [Act.put, la, lz, ls]
  refine wpList_load_cell rfl 3 (.tmp 56) rfl ⟨g3, 1, none⟩ rfl (.int .i64 d) _ HXg3.out.cells.2.1 Tryd.underlying3 rfl ?_
  try simp only [Act.put, la, lz, ls]
  refine wpList_one rfl (w' := V1) (v := .int .i64 x) rfl ?_
  try simp only [Act.put, la, lz, ls]
  refine wpList_one rfl (w' := V1) (v := .int .i64 y) rfl ?_
  try simp only [Act.put, la, lz, ls]
  refine wpList_one rfl (w' := V1) (v := .agg (eC ⟨5, d, x, y, 0⟩)) (by kernel_rfl) ?_
  try simp only [Act.put, la, lz, ls]
  refine wpList_store_row rfl 34 (.tmp 4) (.tmp 60) rfl g4 (eC ⟨5, d, x, y, 0⟩) rfl rfl 34 (eC e0) HXg4.out (sz_eff _) rfl (eC_ones _) ?_
  have hn := row_same (cs := (eC ⟨5, d, x, y, 0⟩)) HXg4.out
  have hb := row_bel HB.out (g := g4) (by have := HG.out; have := HG1.out; have := HG2.out; omega) (eC ⟨5, d, x, y, 0⟩)
  have hg2 := (setRow_other V1 g4 g2 (eC ⟨5, d, x, y, 0⟩) (by have := HG.out; have := HG1.out; have := HG2.out; omega)).trans HXg2.out
  have hg3 := (setRow_other V1 g4 g3 (eC ⟨5, d, x, y, 0⟩) (by have := HG.out; have := HG1.out; have := HG2.out; omega)).trans HXg3.out
  generalize V1.setRow g4 (eC ⟨5, d, x, y, 0⟩) = V2 at hn hb hg2 hg3 ⊢
  clear HB HXg2 HXg3 HXg4
  have HB : Hid (Bel w V2) := Lib.hid hb
  have HXg2 : Hid (HAt V2 g2 h) := Lib.hid hg2
  have HXg3 : Hid (InAt V2 g3 48 d (a : Int) (b : Int) n) := Lib.hid hg3
  have HXg4 : Hid (EfAt V2 g4 ⟨5, d, x, y, 0⟩) := Lib.hid hn
  clear hn hb hg2 hg3
  try simp only [Act.put, la, lz, ls]
  refine wpList_nil ?_
  refine hK _ _ (wp_ret ?_)
  exact bodyPost_ret (results_cell_row Tryd.results39 _ _ g4 _ _ _ _ (by rfl) HXg4.out Tryd.underlying34 rfl (sz_eff _)) (by rfl) ⟨rfl, HB.out⟩
theorem effect_49 {h : H} {a b : Nat} {d n x y m : Int} (ha : a < 32) (hb : b < 32) (hx : h a = x) (hy : h b = y) (hm : wrap32 (x + n) = m) (w : World) : Calls Tryd.prog 39 #[hv h, iv 49 d (a : Int) (b : Int) n] w (OneV (.agg (eC ⟨5, d, x, y, 1⟩)) w) := by
  have HM := Lib.hid hm
  clear hm
  have hz := zero_hart
  go_enter Tryd.func39, Tryd.ntmps39
  go_upto_region 1 with (fail)
  obtain ⟨W0, hW, hb, hx2, hx3, hx4⟩ := boxes3 w (hC h) (iC 49 d (a : Int) (b : Int) n) (eC e0) 28 24 34
  first | rw [← hW] | (show Code.wp _ _ _ _ (((w.alloc (.cells (hC h) 28)).alloc (.cells (iC 49 d (a : Int) (b : Int) n) 24)).alloc (.cells (eC e0) 34)); rw [← hW])
  clear hz hW
  have hlt : w.heap.size < W0.heap.size := lt_of_heap hx2
  generalize hg : w.heap.size = g2 at hx2 hx3 hx4 hlt ⊢
  have HG := Lib.hid hg
  clear hg
  generalize hg : g2 + 1 = g3 at hx3 hx4 ⊢
  have HG1 := Lib.hid hg
  clear hg
  generalize hg : g3 + 1 = g4 at hx4 ⊢
  have HG2 := Lib.hid hg
  clear hg
  have HXg2 : Hid (HAt W0 g2 h) := Lib.hid hx2
  have HXg3 : Hid (InAt W0 g3 49 d (a : Int) (b : Int) n) := Lib.hid hx3
  have HXg4 : Hid (EfAt W0 g4 e0) := Lib.hid hx4
  have HB : Hid (Bel w W0) := Lib.hid hb
  clear hb hlt hx2 hx3 hx4
  go_upto_region 1 with (fail)
  rename_i K hK
  refine Upto.begin (z := 11) (T := fun w' => w'.cell? ⟨g2, a, none⟩ = some (.int .i64 (h a)) ∧ w'.cell? ⟨g2, b, none⟩ = some (.int .i64 (h b)) ∧ InAt w' g3 49 d (a : Int) (b : Int) n) (by kernel_rfl) ?_
  have hb : Bel W0 W0.drew := (Bel.refl W0).drew
  generalize W0.drew = V1 at hb ⊢
  replace HB : Hid (Bel w V1) := Lib.hid (HB.out.trans hb)
  replace HXg2 : Hid (HAt V1 g2 h) := Lib.hid (HXg2.out.bel hb)
  replace HXg3 : Hid (InAt V1 g3 49 d (a : Int) (b : Int) n) := Lib.hid (HXg3.out.bel hb)
  replace HXg4 : Hid (EfAt V1 g4 e0) := Lib.hid (HXg4.out.bel hb)
  clear hb
  have hT : V1.cell? ⟨g2, a, none⟩ = some (.int .i64 (h a)) ∧ V1.cell? ⟨g2, b, none⟩ = some (.int .i64 (h b)) ∧ InAt V1 g3 49 d (a : Int) (b : Int) n := ⟨HXg2.out.cell (j := a) (by omega), HXg2.out.cell (j := b) (by omega), HXg3.out⟩
  refine takeU 7 (i := 0) (v := .pointer (some ⟨g3, 2, none⟩)) rfl rfl rfl (by kernel_rfl) (by kernel_rfl) (by kernel_rfl) (by kernel_rfl) (fun _ _ _ h => h) (by kernel_rfl) (fun w0 hS => (by kernel_rfl)) hT ?_
  try simp only [la, lz, ls]
  refine takeU 8 (i := 1) (v := .int .i64 (a : Int)) rfl rfl rfl (by kernel_rfl) (by kernel_rfl) (by kernel_rfl) (by kernel_rfl) (fun _ _ _ h => h) (by kernel_rfl) (fun w0 hS => (exec_cell 3 (.tmp 7) rfl ⟨g3, 2, none⟩ rfl _ _ (hS.2.2).cells.2.2.1 Tryd.underlying3 rfl)) hT ?_
  try simp only [la, lz, ls]
  refine takeU 9 (i := 2) (v := .pointer (some ⟨g2, 0, none⟩)) rfl rfl rfl (by kernel_rfl) (by kernel_rfl) (by kernel_rfl) (by kernel_rfl) (fun _ _ _ h => h) (by kernel_rfl) (fun w0 hS => (by kernel_rfl)) hT ?_
  try simp only [la, lz, ls]
  refine takeU 10 (i := 3) (v := .pointer (some ⟨g2, a, none⟩)) rfl rfl rfl (by kernel_rfl) (by kernel_rfl) (by kernel_rfl) (by kernel_rfl) (fun _ _ _ h => h) (by kernel_rfl) (fun w0 hS => (exec_reg rfl g2 a (by omega) rfl rfl _)) hT ?_
  try simp only [la, lz, ls]
  refine takeU 11 (i := 4) (v := .int .i64 (h a)) rfl rfl rfl (by kernel_rfl) (by kernel_rfl) (by kernel_rfl) (by kernel_rfl) (fun _ _ _ h => h) (by kernel_rfl) (fun w0 hS => (exec_cell 3 (.tmp 10) rfl ⟨g2, a, none⟩ rfl _ _ hS.1 Tryd.underlying3 rfl)) hT ?_
  try simp only [la, lz, ls]
  refine takeU 12 (i := 5) (v := .pointer (some ⟨g3, 3, none⟩)) rfl rfl rfl (by kernel_rfl) (by kernel_rfl) (by kernel_rfl) (by kernel_rfl) (fun _ _ _ h => h) (by kernel_rfl) (fun w0 hS => (by kernel_rfl)) hT ?_
  try simp only [la, lz, ls]
  refine takeU 13 (i := 6) (v := .int .i64 (b : Int)) rfl rfl rfl (by kernel_rfl) (by kernel_rfl) (by kernel_rfl) (by kernel_rfl) (fun _ _ _ h => h) (by kernel_rfl) (fun w0 hS => (exec_cell 3 (.tmp 12) rfl ⟨g3, 3, none⟩ rfl _ _ (hS.2.2).cells.2.2.2.1 Tryd.underlying3 rfl)) hT ?_
  try simp only [la, lz, ls]
  refine takeU 14 (i := 7) (v := .pointer (some ⟨g2, 0, none⟩)) rfl rfl rfl (by kernel_rfl) (by kernel_rfl) (by kernel_rfl) (by kernel_rfl) (fun _ _ _ h => h) (by kernel_rfl) (fun w0 hS => (by kernel_rfl)) hT ?_
  try simp only [la, lz, ls]
  refine takeU 15 (i := 8) (v := .pointer (some ⟨g2, b, none⟩)) rfl rfl rfl (by kernel_rfl) (by kernel_rfl) (by kernel_rfl) (by kernel_rfl) (fun _ _ _ h => h) (by kernel_rfl) (fun w0 hS => (exec_reg rfl g2 b (by omega) rfl rfl _)) hT ?_
  try simp only [la, lz, ls]
  refine takeU 16 (i := 9) (v := .int .i64 (h b)) rfl rfl rfl (by kernel_rfl) (by kernel_rfl) (by kernel_rfl) (by kernel_rfl) (fun _ _ _ h => h) (by kernel_rfl) (fun w0 hS => (exec_cell 3 (.tmp 15) rfl ⟨g2, b, none⟩ rfl _ _ hS.2.1 Tryd.underlying3 rfl)) hT ?_
  try simp only [la, lz, ls]
  refine takeU 5 (i := 10) (v := .int .i64 (h a)) rfl rfl rfl (by kernel_rfl) (by kernel_rfl) (by kernel_rfl) (by kernel_rfl) (fun _ _ _ h => h) (by kernel_rfl) (fun w0 hS => rfl) hT ?_
  try simp only [la, lz, ls]
  refine pureU 6 (i := 11) rfl rfl (by kernel_rfl) (by kernel_rfl) (v := .int .i64 (h b)) rfl hT ?_
  try simp only [la, lz, ls]
  refine Upto.done (by kernel_rfl) ?_ _
  clear hT
  rw [hx, hy]
  refine hK _ _ ?_
  clear hK K
  have HX := Lib.hid hx
  clear hx hy
  have kg3_0 := HXg3.out.cells.1
  go_upto_region 16 with (fail)
  rename_i K hK
  refine wp_region_list ?_
  refine wpList_one rfl (w' := V1) (v := .pointer (some ⟨g3, 1, none⟩)) (by kernel_rfl) ?_
  try simp only [Act.put, la, lz, ls]
  refine wpList_load_cell rfl 3 (.tmp 63) rfl ⟨g3, 1, none⟩ rfl (.int .i64 d) _ HXg3.out.cells.2.1 Tryd.underlying3 rfl ?_
  try simp only [Act.put, la, lz, ls]
  refine wpList_one rfl (w' := V1) (v := .int .i64 x) rfl ?_
  try simp only [Act.put, la, lz, ls]
  refine wpList_one rfl (w' := V1) (v := .int .i64 y) rfl ?_
  try simp only [Act.put, la, lz, ls]
  refine wpList_one rfl (w' := V1) (v := .agg (eC ⟨5, d, x, y, 1⟩)) (by kernel_rfl) ?_
  try simp only [Act.put, la, lz, ls]
  refine wpList_store_row rfl 34 (.tmp 4) (.tmp 67) rfl g4 (eC ⟨5, d, x, y, 1⟩) rfl rfl 34 (eC e0) HXg4.out (sz_eff _) rfl (eC_ones _) ?_
  have hn := row_same (cs := (eC ⟨5, d, x, y, 1⟩)) HXg4.out
  have hb := row_bel HB.out (g := g4) (by have := HG.out; have := HG1.out; have := HG2.out; omega) (eC ⟨5, d, x, y, 1⟩)
  have hg2 := (setRow_other V1 g4 g2 (eC ⟨5, d, x, y, 1⟩) (by have := HG.out; have := HG1.out; have := HG2.out; omega)).trans HXg2.out
  have hg3 := (setRow_other V1 g4 g3 (eC ⟨5, d, x, y, 1⟩) (by have := HG.out; have := HG1.out; have := HG2.out; omega)).trans HXg3.out
  generalize V1.setRow g4 (eC ⟨5, d, x, y, 1⟩) = V2 at hn hb hg2 hg3 ⊢
  clear HB HXg2 HXg3 HXg4
  have HB : Hid (Bel w V2) := Lib.hid hb
  have HXg2 : Hid (HAt V2 g2 h) := Lib.hid hg2
  have HXg3 : Hid (InAt V2 g3 49 d (a : Int) (b : Int) n) := Lib.hid hg3
  have HXg4 : Hid (EfAt V2 g4 ⟨5, d, x, y, 1⟩) := Lib.hid hn
  clear hn hb hg2 hg3
  try simp only [Act.put, la, lz, ls]
  refine wpList_nil ?_
  refine hK _ _ (wp_ret ?_)
  exact bodyPost_ret (results_cell_row Tryd.results39 _ _ g4 _ _ _ _ (by rfl) HXg4.out Tryd.underlying34 rfl (sz_eff _)) (by rfl) ⟨rfl, HB.out⟩
theorem effect_43 {h : H} {a b : Nat} {d n x y m : Int} (ha : a < 32) (hb : b < 32) (hx : h a = x) (hy : h b = y) (hm : wrap32 (x + n) = m) (w : World) : Calls Tryd.prog 39 #[hv h, iv 43 d (a : Int) (b : Int) n] w (OneV (.agg (eC ⟨7, 0, 0, 0, 0⟩)) w) := by
  have HM := Lib.hid hm
  clear hm
  have hz := zero_hart
  go_enter Tryd.func39, Tryd.ntmps39
  go_upto_region 1 with (fail)
  obtain ⟨W0, hW, hb, hx2, hx3, hx4⟩ := boxes3 w (hC h) (iC 43 d (a : Int) (b : Int) n) (eC e0) 28 24 34
  first | rw [← hW] | (show Code.wp _ _ _ _ (((w.alloc (.cells (hC h) 28)).alloc (.cells (iC 43 d (a : Int) (b : Int) n) 24)).alloc (.cells (eC e0) 34)); rw [← hW])
  clear hz hW
  have hlt : w.heap.size < W0.heap.size := lt_of_heap hx2
  generalize hg : w.heap.size = g2 at hx2 hx3 hx4 hlt ⊢
  have HG := Lib.hid hg
  clear hg
  generalize hg : g2 + 1 = g3 at hx3 hx4 ⊢
  have HG1 := Lib.hid hg
  clear hg
  generalize hg : g3 + 1 = g4 at hx4 ⊢
  have HG2 := Lib.hid hg
  clear hg
  have HXg2 : Hid (HAt W0 g2 h) := Lib.hid hx2
  have HXg3 : Hid (InAt W0 g3 43 d (a : Int) (b : Int) n) := Lib.hid hx3
  have HXg4 : Hid (EfAt W0 g4 e0) := Lib.hid hx4
  have HB : Hid (Bel w W0) := Lib.hid hb
  clear hb hlt hx2 hx3 hx4
  go_upto_region 1 with (fail)
  rename_i K hK
  refine Upto.begin (z := 11) (T := fun w' => w'.cell? ⟨g2, a, none⟩ = some (.int .i64 (h a)) ∧ w'.cell? ⟨g2, b, none⟩ = some (.int .i64 (h b)) ∧ InAt w' g3 43 d (a : Int) (b : Int) n) (by kernel_rfl) ?_
  have hb : Bel W0 W0.drew := (Bel.refl W0).drew
  generalize W0.drew = V1 at hb ⊢
  replace HB : Hid (Bel w V1) := Lib.hid (HB.out.trans hb)
  replace HXg2 : Hid (HAt V1 g2 h) := Lib.hid (HXg2.out.bel hb)
  replace HXg3 : Hid (InAt V1 g3 43 d (a : Int) (b : Int) n) := Lib.hid (HXg3.out.bel hb)
  replace HXg4 : Hid (EfAt V1 g4 e0) := Lib.hid (HXg4.out.bel hb)
  clear hb
  have hT : V1.cell? ⟨g2, a, none⟩ = some (.int .i64 (h a)) ∧ V1.cell? ⟨g2, b, none⟩ = some (.int .i64 (h b)) ∧ InAt V1 g3 43 d (a : Int) (b : Int) n := ⟨HXg2.out.cell (j := a) (by omega), HXg2.out.cell (j := b) (by omega), HXg3.out⟩
  refine takeU 7 (i := 0) (v := .pointer (some ⟨g3, 2, none⟩)) rfl rfl rfl (by kernel_rfl) (by kernel_rfl) (by kernel_rfl) (by kernel_rfl) (fun _ _ _ h => h) (by kernel_rfl) (fun w0 hS => (by kernel_rfl)) hT ?_
  try simp only [la, lz, ls]
  refine takeU 8 (i := 1) (v := .int .i64 (a : Int)) rfl rfl rfl (by kernel_rfl) (by kernel_rfl) (by kernel_rfl) (by kernel_rfl) (fun _ _ _ h => h) (by kernel_rfl) (fun w0 hS => (exec_cell 3 (.tmp 7) rfl ⟨g3, 2, none⟩ rfl _ _ (hS.2.2).cells.2.2.1 Tryd.underlying3 rfl)) hT ?_
  try simp only [la, lz, ls]
  refine takeU 9 (i := 2) (v := .pointer (some ⟨g2, 0, none⟩)) rfl rfl rfl (by kernel_rfl) (by kernel_rfl) (by kernel_rfl) (by kernel_rfl) (fun _ _ _ h => h) (by kernel_rfl) (fun w0 hS => (by kernel_rfl)) hT ?_
  try simp only [la, lz, ls]
  refine takeU 10 (i := 3) (v := .pointer (some ⟨g2, a, none⟩)) rfl rfl rfl (by kernel_rfl) (by kernel_rfl) (by kernel_rfl) (by kernel_rfl) (fun _ _ _ h => h) (by kernel_rfl) (fun w0 hS => (exec_reg rfl g2 a (by omega) rfl rfl _)) hT ?_
  try simp only [la, lz, ls]
  refine takeU 11 (i := 4) (v := .int .i64 (h a)) rfl rfl rfl (by kernel_rfl) (by kernel_rfl) (by kernel_rfl) (by kernel_rfl) (fun _ _ _ h => h) (by kernel_rfl) (fun w0 hS => (exec_cell 3 (.tmp 10) rfl ⟨g2, a, none⟩ rfl _ _ hS.1 Tryd.underlying3 rfl)) hT ?_
  try simp only [la, lz, ls]
  refine takeU 12 (i := 5) (v := .pointer (some ⟨g3, 3, none⟩)) rfl rfl rfl (by kernel_rfl) (by kernel_rfl) (by kernel_rfl) (by kernel_rfl) (fun _ _ _ h => h) (by kernel_rfl) (fun w0 hS => (by kernel_rfl)) hT ?_
  try simp only [la, lz, ls]
  refine takeU 13 (i := 6) (v := .int .i64 (b : Int)) rfl rfl rfl (by kernel_rfl) (by kernel_rfl) (by kernel_rfl) (by kernel_rfl) (fun _ _ _ h => h) (by kernel_rfl) (fun w0 hS => (exec_cell 3 (.tmp 12) rfl ⟨g3, 3, none⟩ rfl _ _ (hS.2.2).cells.2.2.2.1 Tryd.underlying3 rfl)) hT ?_
  try simp only [la, lz, ls]
  refine takeU 14 (i := 7) (v := .pointer (some ⟨g2, 0, none⟩)) rfl rfl rfl (by kernel_rfl) (by kernel_rfl) (by kernel_rfl) (by kernel_rfl) (fun _ _ _ h => h) (by kernel_rfl) (fun w0 hS => (by kernel_rfl)) hT ?_
  try simp only [la, lz, ls]
  refine takeU 15 (i := 8) (v := .pointer (some ⟨g2, b, none⟩)) rfl rfl rfl (by kernel_rfl) (by kernel_rfl) (by kernel_rfl) (by kernel_rfl) (fun _ _ _ h => h) (by kernel_rfl) (fun w0 hS => (exec_reg rfl g2 b (by omega) rfl rfl _)) hT ?_
  try simp only [la, lz, ls]
  refine takeU 16 (i := 9) (v := .int .i64 (h b)) rfl rfl rfl (by kernel_rfl) (by kernel_rfl) (by kernel_rfl) (by kernel_rfl) (fun _ _ _ h => h) (by kernel_rfl) (fun w0 hS => (exec_cell 3 (.tmp 15) rfl ⟨g2, b, none⟩ rfl _ _ hS.2.1 Tryd.underlying3 rfl)) hT ?_
  try simp only [la, lz, ls]
  refine takeU 5 (i := 10) (v := .int .i64 (h a)) rfl rfl rfl (by kernel_rfl) (by kernel_rfl) (by kernel_rfl) (by kernel_rfl) (fun _ _ _ h => h) (by kernel_rfl) (fun w0 hS => rfl) hT ?_
  try simp only [la, lz, ls]
  refine pureU 6 (i := 11) rfl rfl (by kernel_rfl) (by kernel_rfl) (v := .int .i64 (h b)) rfl hT ?_
  try simp only [la, lz, ls]
  refine Upto.done (by kernel_rfl) ?_ _
  clear hT
  rw [hx, hy]
  refine hK _ _ ?_
  clear hK K
  have HX := Lib.hid hx
  clear hx hy
  have kg3_0 := HXg3.out.cells.1
  go_upto_region 18 with (fail)
  rename_i K hK
  refine wp_region_list ?_
  refine wpList_one rfl (w' := V1) (v := .agg (eC ⟨7, 0, 0, 0, 0⟩)) (by kernel_rfl) ?_
  try simp only [Act.put, la, lz, ls]
  refine wpList_store_row rfl 34 (.tmp 4) (.tmp 70) rfl g4 (eC ⟨7, 0, 0, 0, 0⟩) rfl rfl 34 (eC e0) HXg4.out (sz_eff _) rfl (eC_ones _) ?_
  have hn := row_same (cs := (eC ⟨7, 0, 0, 0, 0⟩)) HXg4.out
  have hb := row_bel HB.out (g := g4) (by have := HG.out; have := HG1.out; have := HG2.out; omega) (eC ⟨7, 0, 0, 0, 0⟩)
  have hg2 := (setRow_other V1 g4 g2 (eC ⟨7, 0, 0, 0, 0⟩) (by have := HG.out; have := HG1.out; have := HG2.out; omega)).trans HXg2.out
  have hg3 := (setRow_other V1 g4 g3 (eC ⟨7, 0, 0, 0, 0⟩) (by have := HG.out; have := HG1.out; have := HG2.out; omega)).trans HXg3.out
  generalize V1.setRow g4 (eC ⟨7, 0, 0, 0, 0⟩) = V2 at hn hb hg2 hg3 ⊢
  clear HB HXg2 HXg3 HXg4
  have HB : Hid (Bel w V2) := Lib.hid hb
  have HXg2 : Hid (HAt V2 g2 h) := Lib.hid hg2
  have HXg3 : Hid (InAt V2 g3 43 d (a : Int) (b : Int) n) := Lib.hid hg3
  have HXg4 : Hid (EfAt V2 g4 ⟨7, 0, 0, 0, 0⟩) := Lib.hid hn
  clear hn hb hg2 hg3
  try simp only [Act.put, la, lz, ls]
  refine wpList_nil ?_
  refine hK _ _ (wp_ret ?_)
  exact bodyPost_ret (results_cell_row Tryd.results39 _ _ g4 _ _ _ _ (by rfl) HXg4.out Tryd.underlying34 rfl (sz_eff _)) (by rfl) ⟨rfl, HB.out⟩
theorem effect_45 {h : H} {a b : Nat} {d n x y m : Int} (ha : a < 32) (hb : b < 32) (hx : h a = x) (hy : h b = y) (hm : wrap32 (x + n) = m) (w : World) : Calls Tryd.prog 39 #[hv h, iv 45 d (a : Int) (b : Int) n] w (OneV (.agg (eC ⟨8, 0, 0, 0, 0⟩)) w) := by
  have HM := Lib.hid hm
  clear hm
  have hz := zero_hart
  go_enter Tryd.func39, Tryd.ntmps39
  go_upto_region 1 with (fail)
  obtain ⟨W0, hW, hb, hx2, hx3, hx4⟩ := boxes3 w (hC h) (iC 45 d (a : Int) (b : Int) n) (eC e0) 28 24 34
  first | rw [← hW] | (show Code.wp _ _ _ _ (((w.alloc (.cells (hC h) 28)).alloc (.cells (iC 45 d (a : Int) (b : Int) n) 24)).alloc (.cells (eC e0) 34)); rw [← hW])
  clear hz hW
  have hlt : w.heap.size < W0.heap.size := lt_of_heap hx2
  generalize hg : w.heap.size = g2 at hx2 hx3 hx4 hlt ⊢
  have HG := Lib.hid hg
  clear hg
  generalize hg : g2 + 1 = g3 at hx3 hx4 ⊢
  have HG1 := Lib.hid hg
  clear hg
  generalize hg : g3 + 1 = g4 at hx4 ⊢
  have HG2 := Lib.hid hg
  clear hg
  have HXg2 : Hid (HAt W0 g2 h) := Lib.hid hx2
  have HXg3 : Hid (InAt W0 g3 45 d (a : Int) (b : Int) n) := Lib.hid hx3
  have HXg4 : Hid (EfAt W0 g4 e0) := Lib.hid hx4
  have HB : Hid (Bel w W0) := Lib.hid hb
  clear hb hlt hx2 hx3 hx4
  go_upto_region 1 with (fail)
  rename_i K hK
  refine Upto.begin (z := 11) (T := fun w' => w'.cell? ⟨g2, a, none⟩ = some (.int .i64 (h a)) ∧ w'.cell? ⟨g2, b, none⟩ = some (.int .i64 (h b)) ∧ InAt w' g3 45 d (a : Int) (b : Int) n) (by kernel_rfl) ?_
  have hb : Bel W0 W0.drew := (Bel.refl W0).drew
  generalize W0.drew = V1 at hb ⊢
  replace HB : Hid (Bel w V1) := Lib.hid (HB.out.trans hb)
  replace HXg2 : Hid (HAt V1 g2 h) := Lib.hid (HXg2.out.bel hb)
  replace HXg3 : Hid (InAt V1 g3 45 d (a : Int) (b : Int) n) := Lib.hid (HXg3.out.bel hb)
  replace HXg4 : Hid (EfAt V1 g4 e0) := Lib.hid (HXg4.out.bel hb)
  clear hb
  have hT : V1.cell? ⟨g2, a, none⟩ = some (.int .i64 (h a)) ∧ V1.cell? ⟨g2, b, none⟩ = some (.int .i64 (h b)) ∧ InAt V1 g3 45 d (a : Int) (b : Int) n := ⟨HXg2.out.cell (j := a) (by omega), HXg2.out.cell (j := b) (by omega), HXg3.out⟩
  refine takeU 7 (i := 0) (v := .pointer (some ⟨g3, 2, none⟩)) rfl rfl rfl (by kernel_rfl) (by kernel_rfl) (by kernel_rfl) (by kernel_rfl) (fun _ _ _ h => h) (by kernel_rfl) (fun w0 hS => (by kernel_rfl)) hT ?_
  try simp only [la, lz, ls]
  refine takeU 8 (i := 1) (v := .int .i64 (a : Int)) rfl rfl rfl (by kernel_rfl) (by kernel_rfl) (by kernel_rfl) (by kernel_rfl) (fun _ _ _ h => h) (by kernel_rfl) (fun w0 hS => (exec_cell 3 (.tmp 7) rfl ⟨g3, 2, none⟩ rfl _ _ (hS.2.2).cells.2.2.1 Tryd.underlying3 rfl)) hT ?_
  try simp only [la, lz, ls]
  refine takeU 9 (i := 2) (v := .pointer (some ⟨g2, 0, none⟩)) rfl rfl rfl (by kernel_rfl) (by kernel_rfl) (by kernel_rfl) (by kernel_rfl) (fun _ _ _ h => h) (by kernel_rfl) (fun w0 hS => (by kernel_rfl)) hT ?_
  try simp only [la, lz, ls]
  refine takeU 10 (i := 3) (v := .pointer (some ⟨g2, a, none⟩)) rfl rfl rfl (by kernel_rfl) (by kernel_rfl) (by kernel_rfl) (by kernel_rfl) (fun _ _ _ h => h) (by kernel_rfl) (fun w0 hS => (exec_reg rfl g2 a (by omega) rfl rfl _)) hT ?_
  try simp only [la, lz, ls]
  refine takeU 11 (i := 4) (v := .int .i64 (h a)) rfl rfl rfl (by kernel_rfl) (by kernel_rfl) (by kernel_rfl) (by kernel_rfl) (fun _ _ _ h => h) (by kernel_rfl) (fun w0 hS => (exec_cell 3 (.tmp 10) rfl ⟨g2, a, none⟩ rfl _ _ hS.1 Tryd.underlying3 rfl)) hT ?_
  try simp only [la, lz, ls]
  refine takeU 12 (i := 5) (v := .pointer (some ⟨g3, 3, none⟩)) rfl rfl rfl (by kernel_rfl) (by kernel_rfl) (by kernel_rfl) (by kernel_rfl) (fun _ _ _ h => h) (by kernel_rfl) (fun w0 hS => (by kernel_rfl)) hT ?_
  try simp only [la, lz, ls]
  refine takeU 13 (i := 6) (v := .int .i64 (b : Int)) rfl rfl rfl (by kernel_rfl) (by kernel_rfl) (by kernel_rfl) (by kernel_rfl) (fun _ _ _ h => h) (by kernel_rfl) (fun w0 hS => (exec_cell 3 (.tmp 12) rfl ⟨g3, 3, none⟩ rfl _ _ (hS.2.2).cells.2.2.2.1 Tryd.underlying3 rfl)) hT ?_
  try simp only [la, lz, ls]
  refine takeU 14 (i := 7) (v := .pointer (some ⟨g2, 0, none⟩)) rfl rfl rfl (by kernel_rfl) (by kernel_rfl) (by kernel_rfl) (by kernel_rfl) (fun _ _ _ h => h) (by kernel_rfl) (fun w0 hS => (by kernel_rfl)) hT ?_
  try simp only [la, lz, ls]
  refine takeU 15 (i := 8) (v := .pointer (some ⟨g2, b, none⟩)) rfl rfl rfl (by kernel_rfl) (by kernel_rfl) (by kernel_rfl) (by kernel_rfl) (fun _ _ _ h => h) (by kernel_rfl) (fun w0 hS => (exec_reg rfl g2 b (by omega) rfl rfl _)) hT ?_
  try simp only [la, lz, ls]
  refine takeU 16 (i := 9) (v := .int .i64 (h b)) rfl rfl rfl (by kernel_rfl) (by kernel_rfl) (by kernel_rfl) (by kernel_rfl) (fun _ _ _ h => h) (by kernel_rfl) (fun w0 hS => (exec_cell 3 (.tmp 15) rfl ⟨g2, b, none⟩ rfl _ _ hS.2.1 Tryd.underlying3 rfl)) hT ?_
  try simp only [la, lz, ls]
  refine takeU 5 (i := 10) (v := .int .i64 (h a)) rfl rfl rfl (by kernel_rfl) (by kernel_rfl) (by kernel_rfl) (by kernel_rfl) (fun _ _ _ h => h) (by kernel_rfl) (fun w0 hS => rfl) hT ?_
  try simp only [la, lz, ls]
  refine pureU 6 (i := 11) rfl rfl (by kernel_rfl) (by kernel_rfl) (v := .int .i64 (h b)) rfl hT ?_
  try simp only [la, lz, ls]
  refine Upto.done (by kernel_rfl) ?_ _
  clear hT
  rw [hx, hy]
  refine hK _ _ ?_
  clear hK K
  have HX := Lib.hid hx
  clear hx hy
  have kg3_0 := HXg3.out.cells.1
  go_upto_region 19 with (fail)
  rename_i K hK
  refine wp_region_list ?_
  refine wpList_one rfl (w' := V1) (v := .agg (eC ⟨8, 0, 0, 0, 0⟩)) (by kernel_rfl) ?_
  try simp only [Act.put, la, lz, ls]
  refine wpList_store_row rfl 34 (.tmp 4) (.tmp 71) rfl g4 (eC ⟨8, 0, 0, 0, 0⟩) rfl rfl 34 (eC e0) HXg4.out (sz_eff _) rfl (eC_ones _) ?_
  have hn := row_same (cs := (eC ⟨8, 0, 0, 0, 0⟩)) HXg4.out
  have hb := row_bel HB.out (g := g4) (by have := HG.out; have := HG1.out; have := HG2.out; omega) (eC ⟨8, 0, 0, 0, 0⟩)
  have hg2 := (setRow_other V1 g4 g2 (eC ⟨8, 0, 0, 0, 0⟩) (by have := HG.out; have := HG1.out; have := HG2.out; omega)).trans HXg2.out
  have hg3 := (setRow_other V1 g4 g3 (eC ⟨8, 0, 0, 0, 0⟩) (by have := HG.out; have := HG1.out; have := HG2.out; omega)).trans HXg3.out
  generalize V1.setRow g4 (eC ⟨8, 0, 0, 0, 0⟩) = V2 at hn hb hg2 hg3 ⊢
  clear HB HXg2 HXg3 HXg4
  have HB : Hid (Bel w V2) := Lib.hid hb
  have HXg2 : Hid (HAt V2 g2 h) := Lib.hid hg2
  have HXg3 : Hid (InAt V2 g3 45 d (a : Int) (b : Int) n) := Lib.hid hg3
  have HXg4 : Hid (EfAt V2 g4 ⟨8, 0, 0, 0, 0⟩) := Lib.hid hn
  clear hn hb hg2 hg3
  try simp only [Act.put, la, lz, ls]
  refine wpList_nil ?_
  refine hK _ _ (wp_ret ?_)
  exact bodyPost_ret (results_cell_row Tryd.results39 _ _ g4 _ _ _ _ (by rfl) HXg4.out Tryd.underlying34 rfl (sz_eff _)) (by rfl) ⟨rfl, HB.out⟩
end Go.Proofs.YtgcgdjmlngfpeaaDoor
