/- Package hart: branch, jump. -/
import Derived.Test.YtgcgdjmlngfpeaaDoorHFn2
namespace Go.Proofs.YtgcgdjmlngfpeaaDoor
open Go.RowKit Ht
set_option linter.unusedVariables false
set_option linter.unusedSimpArgs false
set_option maxRecDepth 100000
theorem w32_i (x : Int) : wrap32 (IntKind.i64.wrap x) = wrap32 x := by
  rw [IntKind.wrap_i64]; unfold wrap32; omega
theorem branch_true {h h1 : H} {o a b : Nat} {d n x v : Int} {q : Bool} {w : World} (ho : o < 50) (ha : a < 32) (hb : b < 32) (h0 : 0 < w.heap.size) (hop : w.cell? ⟨0, o, none⟩ = some (.int .i64 x)) (hvx : Plain.two x (h a) (h b) = v) (hq : Plain.isTwo x = q)
    (er : (if o = 8 ∨ o = 10 then decide (v = 0) else decide (v ≠ 0)) = true) (e : Ht.go h n = h1) : Calls Tryd.prog 34 #[hv h, iv (o : Int) d (a : Int) (b : Int) n] w (OneV (hv h1) w) := by
  have HE := Lib.hid er
  have HZ := Lib.hid h0
  have HOP := Lib.hid hop
  have HV := Lib.hid hvx
  have HQ := Lib.hid hq
  have HG1x := Lib.hid e
  clear e er h0 hop hvx hq
  have hz := zero_hart
  go_enter Tryd.func34, Tryd.ntmps34
  go_upto_region 1 with (fail)
  obtain ⟨W0, hW, hb, hx2, hx3, hx4⟩ := boxes3 w (hC h) (iC (o : Int) d (a : Int) (b : Int) n) hZ 28 24 28
  first | rw [← hW] | (show Code.wp _ _ _ _ (((w.alloc (.cells (hC h) 28)).alloc (.cells (iC (o : Int) d (a : Int) (b : Int) n) 24)).alloc (.cells hZ 28)); rw [← hW])
  clear hz hW
  have hlt : w.heap.size < W0.heap.size := lt_of_heap hx2
  generalize hg : w.heap.size = g2 at hx2 hx3 hx4 hlt ⊢
  have HG := Lib.hid hg
  clear hg
  generalize hg : g2 + 1 = g3 at hx3 hx4 ⊢
  have HG1 := Lib.hid hg
  clear hg
  generalize hg : g3 + 1 = g4 at hx4 ⊢
  have HG2 := Lib.hid hg
  clear hg
  have HXg2 : Hid (HAt W0 g2 h) := Lib.hid hx2
  have HXg3 : Hid (InAt W0 g3 (o : Int) d (a : Int) (b : Int) n) := Lib.hid hx3
  have HXg4 : Hid (HAt W0 g4 (fun _ => 0)) := Lib.hid hx4
  have HB : Hid (Bel w W0) := Lib.hid hb
  clear hb hlt hx2 hx3 hx4
  rename_i K hK
  refine wp_region_list ?_
  refine wpList_load_row rfl 28 (.tmp 2) rfl g2 rfl 28 (hC h) (0, 0) _ HXg2.out Tryd.underlying28 rfl (sz_hart _) ?_
  try simp only [Act.put, la, lz, ls]
  refine wpList_load_row rfl 24 (.tmp 3) rfl g3 rfl 24 (iC (o : Int) d (a : Int) (b : Int) n) (0, 0) _ HXg3.out Tryd.underlying24 rfl (sz_ins _ _ _ _ _) ?_
  try simp only [Act.put, la, lz, ls]
  refine wpList_call rfl (f := 60) (args := #[hv h, iv (o : Int) d (a : Int) (b : Int) n]) (v := .bool true) (by kernel_rfl) (leads_lit ho ha hb (Nat.lt_of_lt_of_le HZ.out HB.out.size) ((HB.out.cell (p := ⟨0, o, none⟩) HZ.out).trans HOP.out) HV.out HQ.out HE.out) ?_
  intro V1 hb
  replace HB : Hid (Bel w V1) := Lib.hid (HB.out.trans hb)
  replace HXg2 : Hid (HAt V1 g2 h) := Lib.hid (HXg2.out.bel hb)
  replace HXg3 : Hid (InAt V1 g3 (o : Int) d (a : Int) (b : Int) n) := Lib.hid (HXg3.out.bel hb)
  replace HXg4 : Hid (HAt V1 g4 (fun _ => 0)) := Lib.hid (HXg4.out.bel hb)
  clear hb
  try simp only [Act.put, la, lz, ls]
  refine wpList_nil ?_
  refine hK _ _ ?_
  clear hK K
  go_upto_region 2 with (fail)
  rename_i K hK
  refine wp_region_list ?_
  refine wpList_load_row rfl 28 (.tmp 2) rfl g2 rfl 28 (hC h) (0, 0) _ HXg2.out Tryd.underlying28 rfl (sz_hart _) ?_
  try simp only [Act.put, la, lz, ls]
  refine wpList_one rfl (w' := V1) (v := .pointer (some ⟨g3, 4, none⟩)) (by kernel_rfl) ?_
  try simp only [Act.put, la, lz, ls]
  refine wpList_load_cell rfl 3 (.tmp 9) rfl ⟨g3, 4, none⟩ rfl (.int .i64 n) _ HXg3.out.cells.2.2.2.2 Tryd.underlying3 rfl ?_
  try simp only [Act.put, la, lz, ls]
  refine wpList_call rfl (f := 38) (args := #[hv h, .int .i64 n]) (v := hv h1) (by kernel_rfl) (goBy_lit HG1x.out _) ?_
  intro V2 hb
  replace HB : Hid (Bel w V2) := Lib.hid (HB.out.trans hb)
  replace HXg2 : Hid (HAt V2 g2 h) := Lib.hid (HXg2.out.bel hb)
  replace HXg3 : Hid (InAt V2 g3 (o : Int) d (a : Int) (b : Int) n) := Lib.hid (HXg3.out.bel hb)
  replace HXg4 : Hid (HAt V2 g4 (fun _ => 0)) := Lib.hid (HXg4.out.bel hb)
  clear hb
  try simp only [Act.put, la, lz, ls]
  refine wpList_store_row rfl 28 (.tmp 4) (.tmp 11) rfl g4 (hC h1) rfl rfl 28 (hC (fun _ => 0)) HXg4.out (sz_hart _) (by rw [hC_size, hC_size]) (hC_ones _) ?_
  have hn := row_same (cs := (hC h1)) HXg4.out
  have hb := row_bel HB.out (g := g4) (by have := HG.out; have := HG1.out; have := HG2.out; omega) (hC h1)
  have hg2 := (setRow_other V2 g4 g2 (hC h1) (by have := HG.out; have := HG1.out; have := HG2.out; omega)).trans HXg2.out
  have hg3 := (setRow_other V2 g4 g3 (hC h1) (by have := HG.out; have := HG1.out; have := HG2.out; omega)).trans HXg3.out
  generalize V2.setRow g4 (hC h1) = V3 at hn hb hg2 hg3 ⊢
  clear HB HXg2 HXg3 HXg4
  have HB : Hid (Bel w V3) := Lib.hid hb
  have HXg2 : Hid (HAt V3 g2 h) := Lib.hid hg2
  have HXg3 : Hid (InAt V3 g3 (o : Int) d (a : Int) (b : Int) n) := Lib.hid hg3
  have HXg4 : Hid (HAt V3 g4 h1) := Lib.hid hn
  clear hn hb hg2 hg3
  try simp only [Act.put, la, lz, ls]
  refine wpList_nil ?_
  refine hK _ _ (wp_ret ?_)
  exact bodyPost_ret (results_cell_row Tryd.results34 _ _ g4 _ _ _ _ (by rfl) HXg4.out Tryd.underlying28 rfl (sz_hart _)) (by rfl) ⟨rfl, HB.out⟩
theorem branch_false {h h1 : H} {o a b : Nat} {d n x v : Int} {q : Bool} {w : World} (ho : o < 50) (ha : a < 32) (hb : b < 32) (h0 : 0 < w.heap.size) (hop : w.cell? ⟨0, o, none⟩ = some (.int .i64 x)) (hvx : Plain.two x (h a) (h b) = v) (hq : Plain.isTwo x = q)
    (er : (if o = 8 ∨ o = 10 then decide (v = 0) else decide (v ≠ 0)) = false) (e : Ht.go h 4 = h1) : Calls Tryd.prog 34 #[hv h, iv (o : Int) d (a : Int) (b : Int) n] w (OneV (hv h1) w) := by
  have HE := Lib.hid er
  have HZ := Lib.hid h0
  have HOP := Lib.hid hop
  have HV := Lib.hid hvx
  have HQ := Lib.hid hq
  have HG1x := Lib.hid e
  clear e er h0 hop hvx hq
  have hz := zero_hart
  go_enter Tryd.func34, Tryd.ntmps34
  go_upto_region 1 with (fail)
  obtain ⟨W0, hW, hb, hx2, hx3, hx4⟩ := boxes3 w (hC h) (iC (o : Int) d (a : Int) (b : Int) n) hZ 28 24 28
  first | rw [← hW] | (show Code.wp _ _ _ _ (((w.alloc (.cells (hC h) 28)).alloc (.cells (iC (o : Int) d (a : Int) (b : Int) n) 24)).alloc (.cells hZ 28)); rw [← hW])
  clear hz hW
  have hlt : w.heap.size < W0.heap.size := lt_of_heap hx2
  generalize hg : w.heap.size = g2 at hx2 hx3 hx4 hlt ⊢
  have HG := Lib.hid hg
  clear hg
  generalize hg : g2 + 1 = g3 at hx3 hx4 ⊢
  have HG1 := Lib.hid hg
  clear hg
  generalize hg : g3 + 1 = g4 at hx4 ⊢
  have HG2 := Lib.hid hg
  clear hg
  have HXg2 : Hid (HAt W0 g2 h) := Lib.hid hx2
  have HXg3 : Hid (InAt W0 g3 (o : Int) d (a : Int) (b : Int) n) := Lib.hid hx3
  have HXg4 : Hid (HAt W0 g4 (fun _ => 0)) := Lib.hid hx4
  have HB : Hid (Bel w W0) := Lib.hid hb
  clear hb hlt hx2 hx3 hx4
  rename_i K hK
  refine wp_region_list ?_
  refine wpList_load_row rfl 28 (.tmp 2) rfl g2 rfl 28 (hC h) (0, 0) _ HXg2.out Tryd.underlying28 rfl (sz_hart _) ?_
  try simp only [Act.put, la, lz, ls]
  refine wpList_load_row rfl 24 (.tmp 3) rfl g3 rfl 24 (iC (o : Int) d (a : Int) (b : Int) n) (0, 0) _ HXg3.out Tryd.underlying24 rfl (sz_ins _ _ _ _ _) ?_
  try simp only [Act.put, la, lz, ls]
  refine wpList_call rfl (f := 60) (args := #[hv h, iv (o : Int) d (a : Int) (b : Int) n]) (v := .bool false) (by kernel_rfl) (leads_lit ho ha hb (Nat.lt_of_lt_of_le HZ.out HB.out.size) ((HB.out.cell (p := ⟨0, o, none⟩) HZ.out).trans HOP.out) HV.out HQ.out HE.out) ?_
  intro V1 hb
  replace HB : Hid (Bel w V1) := Lib.hid (HB.out.trans hb)
  replace HXg2 : Hid (HAt V1 g2 h) := Lib.hid (HXg2.out.bel hb)
  replace HXg3 : Hid (InAt V1 g3 (o : Int) d (a : Int) (b : Int) n) := Lib.hid (HXg3.out.bel hb)
  replace HXg4 : Hid (HAt V1 g4 (fun _ => 0)) := Lib.hid (HXg4.out.bel hb)
  clear hb
  try simp only [Act.put, la, lz, ls]
  refine wpList_nil ?_
  refine hK _ _ ?_
  clear hK K
  go_upto_region 3 with (fail)
  rename_i K hK
  refine wp_region_list ?_
  refine wpList_load_row rfl 28 (.tmp 2) rfl g2 rfl 28 (hC h) (0, 0) _ HXg2.out Tryd.underlying28 rfl (sz_hart _) ?_
  try simp only [Act.put, la, lz, ls]
  refine wpList_call rfl (f := 38) (args := #[hv h, .int .i64 4]) (v := hv h1) (by kernel_rfl) (goBy_lit HG1x.out _) ?_
  intro V2 hb
  replace HB : Hid (Bel w V2) := Lib.hid (HB.out.trans hb)
  replace HXg2 : Hid (HAt V2 g2 h) := Lib.hid (HXg2.out.bel hb)
  replace HXg3 : Hid (InAt V2 g3 (o : Int) d (a : Int) (b : Int) n) := Lib.hid (HXg3.out.bel hb)
  replace HXg4 : Hid (HAt V2 g4 (fun _ => 0)) := Lib.hid (HXg4.out.bel hb)
  clear hb
  try simp only [Act.put, la, lz, ls]
  refine wpList_store_row rfl 28 (.tmp 4) (.tmp 13) rfl g4 (hC h1) rfl rfl 28 (hC (fun _ => 0)) HXg4.out (sz_hart _) (by rw [hC_size, hC_size]) (hC_ones _) ?_
  have hn := row_same (cs := (hC h1)) HXg4.out
  have hb := row_bel HB.out (g := g4) (by have := HG.out; have := HG1.out; have := HG2.out; omega) (hC h1)
  have hg2 := (setRow_other V2 g4 g2 (hC h1) (by have := HG.out; have := HG1.out; have := HG2.out; omega)).trans HXg2.out
  have hg3 := (setRow_other V2 g4 g3 (hC h1) (by have := HG.out; have := HG1.out; have := HG2.out; omega)).trans HXg3.out
  generalize V2.setRow g4 (hC h1) = V3 at hn hb hg2 hg3 ⊢
  clear HB HXg2 HXg3 HXg4
  have HB : Hid (Bel w V3) := Lib.hid hb
  have HXg2 : Hid (HAt V3 g2 h) := Lib.hid hg2
  have HXg3 : Hid (InAt V3 g3 (o : Int) d (a : Int) (b : Int) n) := Lib.hid hg3
  have HXg4 : Hid (HAt V3 g4 h1) := Lib.hid hn
  clear hn hb hg2 hg3
  try simp only [Act.put, la, lz, ls]
  refine wpList_nil ?_
  refine hK _ _ (wp_ret ?_)
  exact bodyPost_ret (results_cell_row Tryd.results34 _ _ g4 _ _ _ _ (by rfl) HXg4.out Tryd.underlying28 rfl (sz_hart _)) (by rfl) ⟨rfl, HB.out⟩
theorem jump_3 {h h1 h' : H} {a b : Nat} {d n p1 p2 m : Int} (ha : a < 32) (e1 : place h n = p1) (e2 : place h 4 = p2) (e3 : put h d p2 = h1) (e4 : wrap32 (h a + n) = m) (e : up h1 32 p1 = h') (w : World) : Calls Tryd.prog 33 #[hv h, iv 3 d (a : Int) (b : Int) n] w (OneV (hv h') w) := by
  subst e
  have HP1 := Lib.hid e1
  have HP2 := Lib.hid e2
  have HP3 := Lib.hid e3
  have HM := Lib.hid e4
  clear e1 e2 e3 e4
  have hz := zero_hart
  go_enter Tryd.func33, Tryd.ntmps33
  go_upto_region 1 with (fail)
  obtain ⟨W0, hW, hb, hx2, hx3, hx4⟩ := boxes3 w (hC h) (iC 3 d (a : Int) (b : Int) n) hZ 28 24 28
  first | rw [← hW] | (show Code.wp _ _ _ _ (((w.alloc (.cells (hC h) 28)).alloc (.cells (iC 3 d (a : Int) (b : Int) n) 24)).alloc (.cells hZ 28)); rw [← hW])
  clear hz hW
  have hlt : w.heap.size < W0.heap.size := lt_of_heap hx2
  generalize hg : w.heap.size = g2 at hx2 hx3 hx4 hlt ⊢
  have HG := Lib.hid hg
  clear hg
  generalize hg : g2 + 1 = g3 at hx3 hx4 ⊢
  have HG1 := Lib.hid hg
  clear hg
  generalize hg : g3 + 1 = g4 at hx4 ⊢
  have HG2 := Lib.hid hg
  clear hg
  have HXg2 : Hid (HAt W0 g2 h) := Lib.hid hx2
  have HXg3 : Hid (InAt W0 g3 3 d (a : Int) (b : Int) n) := Lib.hid hx3
  have HXg4 : Hid (HAt W0 g4 (fun _ => 0)) := Lib.hid hx4
  have HB : Hid (Bel w W0) := Lib.hid hb
  clear hb hlt hx2 hx3 hx4
  rename_i K hK
  refine wp_region_list ?_
  refine wpList_load_row rfl 28 (.tmp 2) rfl g2 rfl 28 (hC h) (0, 0) _ HXg2.out Tryd.underlying28 rfl (sz_hart _) ?_
  try simp only [Act.put, la, lz, ls]
  refine wpList_one rfl (w' := W0) (v := .pointer (some ⟨g3, 4, none⟩)) (by kernel_rfl) ?_
  try simp only [Act.put, la, lz, ls]
  refine wpList_load_cell rfl 3 (.tmp 7) rfl ⟨g3, 4, none⟩ rfl (.int .i64 n) _ HXg3.out.cells.2.2.2.2 Tryd.underlying3 rfl ?_
  try simp only [Act.put, la, lz, ls]
  refine wpList_call rfl (f := 59) (args := #[hv h, .int .i64 n]) (v := .int .i64 p1) (by kernel_rfl) (place_lit HP1.out _) ?_
  intro V1 hb
  replace HB : Hid (Bel w V1) := Lib.hid (HB.out.trans hb)
  replace HXg2 : Hid (HAt V1 g2 h) := Lib.hid (HXg2.out.bel hb)
  replace HXg3 : Hid (InAt V1 g3 3 d (a : Int) (b : Int) n) := Lib.hid (HXg3.out.bel hb)
  replace HXg4 : Hid (HAt V1 g4 (fun _ => 0)) := Lib.hid (HXg4.out.bel hb)
  clear hb
  try simp only [Act.put, la, lz, ls]
  refine wpList_one rfl (w' := V1) (v := .int .i64 p1) rfl ?_
  try simp only [Act.put, la, lz, ls]
  refine wpList_nil ?_
  refine hK _ _ ?_
  clear hK K
  have kg3_0 := HXg3.out.cells.1
  go_upto_region 4 with (fail)
  rename_i K hK
  refine Upto.begin (z := 6) (T := fun w' => HAt w' g2 h ∧ InAt w' g3 3 d (a : Int) (b : Int) n) (by kernel_rfl) ?_
  have hb : Bel V1 V1.drew := (Bel.refl V1).drew
  generalize V1.drew = V2 at hb ⊢
  replace HB : Hid (Bel w V2) := Lib.hid (HB.out.trans hb)
  replace HXg2 : Hid (HAt V2 g2 h) := Lib.hid (HXg2.out.bel hb)
  replace HXg3 : Hid (InAt V2 g3 3 d (a : Int) (b : Int) n) := Lib.hid (HXg3.out.bel hb)
  replace HXg4 : Hid (HAt V2 g4 (fun _ => 0)) := Lib.hid (HXg4.out.bel hb)
  clear hb
  have hT : HAt V2 g2 h ∧ InAt V2 g3 3 d (a : Int) (b : Int) n := ⟨HXg2.out, HXg3.out⟩
  refine takeU 23 (i := 0) (v := hv h) rfl rfl rfl (by kernel_rfl) (by kernel_rfl) (by kernel_rfl) (by kernel_rfl) (fun _ _ _ h => h) (by kernel_rfl) (fun w0 hS => (exec_row 28 (.tmp 2) rfl g2 rfl 28 (hC h) (0, 0) _ hS.1 Tryd.underlying28 rfl (sz_hart _))) hT ?_
  try simp only [la, lz, ls]
  refine takeU 24 (i := 1) (v := .pointer (some ⟨g3, 1, none⟩)) rfl rfl rfl (by kernel_rfl) (by kernel_rfl) (by kernel_rfl) (by kernel_rfl) (fun _ _ _ h => h) (by kernel_rfl) (fun w0 hS => (by kernel_rfl)) hT ?_
  try simp only [la, lz, ls]
  refine takeU 25 (i := 2) (v := .int .i64 d) rfl rfl rfl (by kernel_rfl) (by kernel_rfl) (by kernel_rfl) (by kernel_rfl) (fun _ _ _ h => h) (by kernel_rfl) (fun w0 hS => (exec_cell 3 (.tmp 24) rfl ⟨g3, 1, none⟩ rfl _ _ (hS.2).cells.2.1 Tryd.underlying3 rfl)) hT ?_
  try simp only [la, lz, ls]
  refine takeU 26 (i := 3) (v := hv h) rfl rfl rfl (by kernel_rfl) (by kernel_rfl) (by kernel_rfl) (by kernel_rfl) (fun _ _ _ h => h) (by kernel_rfl) (fun w0 hS => (exec_row 28 (.tmp 2) rfl g2 rfl 28 (hC h) (0, 0) _ hS.1 Tryd.underlying28 rfl (sz_hart _))) hT ?_
  try simp only [la, lz, ls]
  refine callU 27 (i := 4) rfl rfl (by kernel_rfl) (by kernel_rfl) (f := 59) (args := #[hv h, .int .i64 4]) (v := .int .i64 p2) (by kernel_rfl) (place_lit HP2.out _) (fun w' hb => ⟨HXg2.out.bel hb, HXg3.out.bel hb⟩) ?_
  intro V3 hb
  try simp only [la, lz, ls]
  replace HB : Hid (Bel w V3) := Lib.hid (HB.out.trans hb)
  replace HXg2 : Hid (HAt V3 g2 h) := Lib.hid (HXg2.out.bel hb)
  replace HXg3 : Hid (InAt V3 g3 3 d (a : Int) (b : Int) n) := Lib.hid (HXg3.out.bel hb)
  replace HXg4 : Hid (HAt V3 g4 (fun _ => 0)) := Lib.hid (HXg4.out.bel hb)
  clear hb hT
  have hT : HAt V3 g2 h ∧ InAt V3 g3 3 d (a : Int) (b : Int) n := ⟨HXg2.out, HXg3.out⟩
  refine callU 28 (i := 5) rfl rfl (by kernel_rfl) (by kernel_rfl) (f := 18) (args := #[hv h, .int .i64 d, .int .i64 p2]) (v := hv h1) (by kernel_rfl) (put_lit HP3.out _) (fun w' hb => ⟨HXg2.out.bel hb, HXg3.out.bel hb⟩) ?_
  intro V4 hb
  try simp only [la, lz, ls]
  replace HB : Hid (Bel w V4) := Lib.hid (HB.out.trans hb)
  replace HXg2 : Hid (HAt V4 g2 h) := Lib.hid (HXg2.out.bel hb)
  replace HXg3 : Hid (InAt V4 g3 3 d (a : Int) (b : Int) n) := Lib.hid (HXg3.out.bel hb)
  replace HXg4 : Hid (HAt V4 g4 (fun _ => 0)) := Lib.hid (HXg4.out.bel hb)
  clear hb hT
  have hT : HAt V4 g2 h ∧ InAt V4 g3 3 d (a : Int) (b : Int) n := ⟨HXg2.out, HXg3.out⟩
  have hn := row_same (cs := (hC h1)) HXg2.out
  have hb := row_bel HB.out (g := g2) (by have := HG.out; have := HG1.out; have := HG2.out; omega) (hC h1)
  have hg3 := (setRow_other V4 g2 g3 (hC h1) (by have := HG.out; have := HG1.out; have := HG2.out; omega)).trans HXg3.out
  have hg4 := (setRow_other V4 g2 g4 (hC h1) (by have := HG.out; have := HG1.out; have := HG2.out; omega)).trans HXg4.out
  refine rowL rfl rfl (by kernel_rfl) (by kernel_rfl) 28 (.tmp 2) (.tmp 28) rfl g2 (hC h1) rfl rfl 28 (hC h) HXg2.out (sz_hart _) (by rw [hC_size, hC_size]) (hC_ones _) ?_
  generalize V4.setRow g2 (hC h1) = V5 at hn hb hg3 hg4 ⊢
  clear hT HB HXg2 HXg3 HXg4
  have HB : Hid (Bel w V5) := Lib.hid hb
  have HXg3 : Hid (InAt V5 g3 3 d (a : Int) (b : Int) n) := Lib.hid hg3
  have HXg4 : Hid (HAt V5 g4 (fun _ => 0)) := Lib.hid hg4
  have HXg2 : Hid (HAt V5 g2 h1) := Lib.hid hn
  clear hn hb hg3 hg4
  have hT := True.intro
  refine Upto.done (by kernel_rfl) ?_ _
  clear hT
  refine hK _ _ ?_
  clear hK K kg3_0
  go_upto_region 5 with (fail)
  rename_i K hK
  refine wp_region_list ?_
  refine wpList_one rfl (w' := V5) (v := .int .i64 p1) rfl ?_
  try simp only [Act.put, la, lz, ls]
  refine wpList_one rfl (w' := V5) (v := .pointer (some ⟨g2, 32, none⟩)) (by kernel_rfl) ?_
  try simp only [Act.put, la, lz, ls]
  refine wpList_store_cell rfl 3 (.tmp 30) (.tmp 29) rfl g2 32 rfl (.int .i64 p1) rfl (HXg2.out.cell (j := 32) (by omega)) (HXg2.out.frozen 32) sz_int rfl ?_
  have hn := HXg2.out.set (j := 32) (by omega) (p1)
  have hb := (Svg.set g2 32 V5 (.int .i64 (p1))).bel HB.out (by have := HG.out; have := HG1.out; have := HG2.out; omega)
  have hg3 := ((Svg.set g2 32 V5 (.int .i64 (p1))).block g3 (lt_of_heap HXg3.out) (by have := HG.out; have := HG1.out; have := HG2.out; omega)).trans HXg3.out
  have hg4 := ((Svg.set g2 32 V5 (.int .i64 (p1))).block g4 (lt_of_heap HXg4.out) (by have := HG.out; have := HG1.out; have := HG2.out; omega)).trans HXg4.out
  generalize V5.setCell ⟨g2, 32, none⟩ (.int .i64 (p1)) = V6 at hn hb hg3 hg4  ⊢
  clear HB HXg2 HXg3 HXg4
  have HB : Hid (Bel w V6) := Lib.hid hb
  have HXg3 : Hid (InAt V6 g3 3 d (a : Int) (b : Int) n) := Lib.hid hg3
  have HXg4 : Hid (HAt V6 g4 (fun _ => 0)) := Lib.hid hg4
  have HXg2 : Hid (HAt V6 g2 (up h1 32 (p1))) := Lib.hid hn
  clear hn hb hg3 hg4
  try simp only [Act.put, la, lz, ls]
  refine wpList_nil ?_
  refine hK _ _ ?_
  clear hK K
  go_upto_region 6 with (fail)
  rename_i K hK
  refine wp_region_list ?_
  refine wpList_load_row rfl 28 (.tmp 2) rfl g2 rfl 28 (hC (up h1 32 (p1))) (0, 0) _ HXg2.out Tryd.underlying28 rfl (sz_hart _) ?_
  try simp only [Act.put, la, lz, ls]
  refine wpList_store_row rfl 28 (.tmp 4) (.tmp 31) rfl g4 (hC (up h1 32 (p1))) rfl rfl 28 (hC (fun _ => 0)) HXg4.out (sz_hart _) (by rw [hC_size, hC_size]) (hC_ones _) ?_
  have hn := row_same (cs := (hC (up h1 32 (p1)))) HXg4.out
  have hb := row_bel HB.out (g := g4) (by have := HG.out; have := HG1.out; have := HG2.out; omega) (hC (up h1 32 (p1)))
  have hg2 := (setRow_other V6 g4 g2 (hC (up h1 32 (p1))) (by have := HG.out; have := HG1.out; have := HG2.out; omega)).trans HXg2.out
  have hg3 := (setRow_other V6 g4 g3 (hC (up h1 32 (p1))) (by have := HG.out; have := HG1.out; have := HG2.out; omega)).trans HXg3.out
  generalize V6.setRow g4 (hC (up h1 32 (p1))) = V7 at hn hb hg2 hg3 ⊢
  clear HB HXg2 HXg3 HXg4
  have HB : Hid (Bel w V7) := Lib.hid hb
  have HXg2 : Hid (HAt V7 g2 (up h1 32 (p1))) := Lib.hid hg2
  have HXg3 : Hid (InAt V7 g3 3 d (a : Int) (b : Int) n) := Lib.hid hg3
  have HXg4 : Hid (HAt V7 g4 (up h1 32 (p1))) := Lib.hid hn
  clear hn hb hg2 hg3
  try simp only [Act.put, la, lz, ls]
  refine wpList_nil ?_
  refine hK _ _ (wp_ret ?_)
  exact bodyPost_ret (results_cell_row Tryd.results33 _ _ g4 _ _ _ _ (by rfl) HXg4.out Tryd.underlying28 rfl (sz_hart _)) (by rfl) ⟨rfl, HB.out⟩
theorem jump_4 {h h1 h' : H} {a b : Nat} {d n p1 p2 m : Int} (ha : a < 32) (e1 : place h n = p1) (e2 : place h 4 = p2) (e3 : put h d p2 = h1) (e4 : wrap32 (h a + n) = m) (e : up h1 32 (bits .andNot .i64 m 1) = h') (w : World) : Calls Tryd.prog 33 #[hv h, iv 4 d (a : Int) (b : Int) n] w (OneV (hv h') w) := by
  subst e
  have HP1 := Lib.hid e1
  have HP2 := Lib.hid e2
  have HP3 := Lib.hid e3
  have HM := Lib.hid e4
  clear e1 e2 e3 e4
  have hz := zero_hart
  go_enter Tryd.func33, Tryd.ntmps33
  go_upto_region 1 with (fail)
  obtain ⟨W0, hW, hb, hx2, hx3, hx4⟩ := boxes3 w (hC h) (iC 4 d (a : Int) (b : Int) n) hZ 28 24 28
  first | rw [← hW] | (show Code.wp _ _ _ _ (((w.alloc (.cells (hC h) 28)).alloc (.cells (iC 4 d (a : Int) (b : Int) n) 24)).alloc (.cells hZ 28)); rw [← hW])
  clear hz hW
  have hlt : w.heap.size < W0.heap.size := lt_of_heap hx2
  generalize hg : w.heap.size = g2 at hx2 hx3 hx4 hlt ⊢
  have HG := Lib.hid hg
  clear hg
  generalize hg : g2 + 1 = g3 at hx3 hx4 ⊢
  have HG1 := Lib.hid hg
  clear hg
  generalize hg : g3 + 1 = g4 at hx4 ⊢
  have HG2 := Lib.hid hg
  clear hg
  have HXg2 : Hid (HAt W0 g2 h) := Lib.hid hx2
  have HXg3 : Hid (InAt W0 g3 4 d (a : Int) (b : Int) n) := Lib.hid hx3
  have HXg4 : Hid (HAt W0 g4 (fun _ => 0)) := Lib.hid hx4
  have HB : Hid (Bel w W0) := Lib.hid hb
  clear hb hlt hx2 hx3 hx4
  rename_i K hK
  refine wp_region_list ?_
  refine wpList_load_row rfl 28 (.tmp 2) rfl g2 rfl 28 (hC h) (0, 0) _ HXg2.out Tryd.underlying28 rfl (sz_hart _) ?_
  try simp only [Act.put, la, lz, ls]
  refine wpList_one rfl (w' := W0) (v := .pointer (some ⟨g3, 4, none⟩)) (by kernel_rfl) ?_
  try simp only [Act.put, la, lz, ls]
  refine wpList_load_cell rfl 3 (.tmp 7) rfl ⟨g3, 4, none⟩ rfl (.int .i64 n) _ HXg3.out.cells.2.2.2.2 Tryd.underlying3 rfl ?_
  try simp only [Act.put, la, lz, ls]
  refine wpList_call rfl (f := 59) (args := #[hv h, .int .i64 n]) (v := .int .i64 p1) (by kernel_rfl) (place_lit HP1.out _) ?_
  intro V1 hb
  replace HB : Hid (Bel w V1) := Lib.hid (HB.out.trans hb)
  replace HXg2 : Hid (HAt V1 g2 h) := Lib.hid (HXg2.out.bel hb)
  replace HXg3 : Hid (InAt V1 g3 4 d (a : Int) (b : Int) n) := Lib.hid (HXg3.out.bel hb)
  replace HXg4 : Hid (HAt V1 g4 (fun _ => 0)) := Lib.hid (HXg4.out.bel hb)
  clear hb
  try simp only [Act.put, la, lz, ls]
  refine wpList_one rfl (w' := V1) (v := .int .i64 p1) rfl ?_
  try simp only [Act.put, la, lz, ls]
  refine wpList_nil ?_
  refine hK _ _ ?_
  clear hK K
  have kg3_0 := HXg3.out.cells.1
  obtain ⟨xa, hxa⟩ : ∃ x, h a = x := ⟨_, rfl⟩
  have HXA := Lib.hid hxa
  clear hxa
  go_upto_region 3 with (fail)
  rename_i K hK
  refine Upto.begin (z := 10) (T := fun w' => HAt w' g2 h ∧ InAt w' g3 4 d (a : Int) (b : Int) n) (by kernel_rfl) ?_
  have hb : Bel V1 V1.drew := (Bel.refl V1).drew
  generalize V1.drew = V2 at hb ⊢
  replace HB : Hid (Bel w V2) := Lib.hid (HB.out.trans hb)
  replace HXg2 : Hid (HAt V2 g2 h) := Lib.hid (HXg2.out.bel hb)
  replace HXg3 : Hid (InAt V2 g3 4 d (a : Int) (b : Int) n) := Lib.hid (HXg3.out.bel hb)
  replace HXg4 : Hid (HAt V2 g4 (fun _ => 0)) := Lib.hid (HXg4.out.bel hb)
  clear hb
  have hT : HAt V2 g2 h ∧ InAt V2 g3 4 d (a : Int) (b : Int) n := ⟨HXg2.out, HXg3.out⟩
  refine takeU 13 (i := 0) (v := .pointer (some ⟨g3, 2, none⟩)) rfl rfl rfl (by kernel_rfl) (by kernel_rfl) (by kernel_rfl) (by kernel_rfl) (fun _ _ _ h => h) (by kernel_rfl) (fun w0 hS => (by kernel_rfl)) hT ?_
  try simp only [la, lz, ls]
  refine takeU 14 (i := 1) (v := .int .i64 (a : Int)) rfl rfl rfl (by kernel_rfl) (by kernel_rfl) (by kernel_rfl) (by kernel_rfl) (fun _ _ _ h => h) (by kernel_rfl) (fun w0 hS => (exec_cell 3 (.tmp 13) rfl ⟨g3, 2, none⟩ rfl _ _ (hS.2).cells.2.2.1 Tryd.underlying3 rfl)) hT ?_
  try simp only [la, lz, ls]
  refine takeU 15 (i := 2) (v := .pointer (some ⟨g2, 0, none⟩)) rfl rfl rfl (by kernel_rfl) (by kernel_rfl) (by kernel_rfl) (by kernel_rfl) (fun _ _ _ h => h) (by kernel_rfl) (fun w0 hS => (by kernel_rfl)) hT ?_
  try simp only [la, lz, ls]
  refine takeU 16 (i := 3) (v := .pointer (some ⟨g2, a, none⟩)) rfl rfl rfl (by kernel_rfl) (by kernel_rfl) (by kernel_rfl) (by kernel_rfl) (fun _ _ _ h => h) (by kernel_rfl) (fun w0 hS => (exec_reg rfl g2 a (by omega) rfl rfl _)) hT ?_
  try simp only [la, lz, ls]
  refine takeU 17 (i := 4) (v := .int .i64 (h a)) rfl rfl rfl (by kernel_rfl) (by kernel_rfl) (by kernel_rfl) (by kernel_rfl) (fun _ _ _ h => h) (by kernel_rfl) (fun w0 hS => (exec_cell 3 (.tmp 16) rfl ⟨g2, a, none⟩ rfl _ _ ((hS.1).cell (j := a) (by omega)) Tryd.underlying3 rfl)) hT ?_
  try simp only [la, lz, ls]
  refine takeU 18 (i := 5) (v := .pointer (some ⟨g3, 4, none⟩)) rfl rfl rfl (by kernel_rfl) (by kernel_rfl) (by kernel_rfl) (by kernel_rfl) (fun _ _ _ h => h) (by kernel_rfl) (fun w0 hS => (by kernel_rfl)) hT ?_
  try simp only [la, lz, ls]
  refine takeU 19 (i := 6) (v := .int .i64 n) rfl rfl rfl (by kernel_rfl) (by kernel_rfl) (by kernel_rfl) (by kernel_rfl) (fun _ _ _ h => h) (by kernel_rfl) (fun w0 hS => (exec_cell 3 (.tmp 18) rfl ⟨g3, 4, none⟩ rfl _ _ (hS.2).cells.2.2.2.2 Tryd.underlying3 rfl)) hT ?_
  try simp only [la, lz, ls]
  refine takeU 20 (i := 7) (v := .int .i64 (IntKind.i64.wrap (h a + n))) rfl rfl rfl (by kernel_rfl) (by kernel_rfl) (by kernel_rfl) (by kernel_rfl) (fun _ _ _ h => h) (by kernel_rfl) (fun w0 hS => (by kernel_rfl)) hT ?_
  try simp only [la, lz, ls]
  refine callU 21 (i := 8) rfl rfl (by kernel_rfl) (by kernel_rfl) (f := 27) (args := #[.int .i64 (IntKind.i64.wrap (h a + n))]) (v := .int .i64 m) (by kernel_rfl) (wl ((w32_i _).trans HM.out) _) (fun w' hb => ⟨HXg2.out.bel hb, HXg3.out.bel hb⟩) ?_
  intro V3 hb
  try simp only [la, lz, ls]
  replace HB : Hid (Bel w V3) := Lib.hid (HB.out.trans hb)
  replace HXg2 : Hid (HAt V3 g2 h) := Lib.hid (HXg2.out.bel hb)
  replace HXg3 : Hid (InAt V3 g3 4 d (a : Int) (b : Int) n) := Lib.hid (HXg3.out.bel hb)
  replace HXg4 : Hid (HAt V3 g4 (fun _ => 0)) := Lib.hid (HXg4.out.bel hb)
  clear hb hT
  have hT : HAt V3 g2 h ∧ InAt V3 g3 4 d (a : Int) (b : Int) n := ⟨HXg2.out, HXg3.out⟩
  refine takeU 22 (i := 9) (v := .int .i64 (bits .andNot .i64 m 1)) rfl rfl rfl (by kernel_rfl) (by kernel_rfl) (by kernel_rfl) (by kernel_rfl) (fun _ _ _ h => h) (by kernel_rfl) (fun w0 hS => (by kernel_rfl)) hT ?_
  try simp only [la, lz, ls]
  refine pureU 5 (i := 10) rfl rfl (by kernel_rfl) (by kernel_rfl) (v := .int .i64 (bits .andNot .i64 m 1)) rfl hT ?_
  try simp only [la, lz, ls]
  refine Upto.done (by kernel_rfl) ?_ _
  clear hT
  refine hK _ _ ?_
  clear hK K kg3_0
  go_upto_region 4 with (fail)
  rename_i K hK
  refine Upto.begin (z := 6) (T := fun w' => HAt w' g2 h ∧ InAt w' g3 4 d (a : Int) (b : Int) n) (by kernel_rfl) ?_
  have hb : Bel V3 V3.drew := (Bel.refl V3).drew
  generalize V3.drew = V4 at hb ⊢
  replace HB : Hid (Bel w V4) := Lib.hid (HB.out.trans hb)
  replace HXg2 : Hid (HAt V4 g2 h) := Lib.hid (HXg2.out.bel hb)
  replace HXg3 : Hid (InAt V4 g3 4 d (a : Int) (b : Int) n) := Lib.hid (HXg3.out.bel hb)
  replace HXg4 : Hid (HAt V4 g4 (fun _ => 0)) := Lib.hid (HXg4.out.bel hb)
  clear hb
  have hT : HAt V4 g2 h ∧ InAt V4 g3 4 d (a : Int) (b : Int) n := ⟨HXg2.out, HXg3.out⟩
  refine takeU 23 (i := 0) (v := hv h) rfl rfl rfl (by kernel_rfl) (by kernel_rfl) (by kernel_rfl) (by kernel_rfl) (fun _ _ _ h => h) (by kernel_rfl) (fun w0 hS => (exec_row 28 (.tmp 2) rfl g2 rfl 28 (hC h) (0, 0) _ hS.1 Tryd.underlying28 rfl (sz_hart _))) hT ?_
  try simp only [la, lz, ls]
  refine takeU 24 (i := 1) (v := .pointer (some ⟨g3, 1, none⟩)) rfl rfl rfl (by kernel_rfl) (by kernel_rfl) (by kernel_rfl) (by kernel_rfl) (fun _ _ _ h => h) (by kernel_rfl) (fun w0 hS => (by kernel_rfl)) hT ?_
  try simp only [la, lz, ls]
  refine takeU 25 (i := 2) (v := .int .i64 d) rfl rfl rfl (by kernel_rfl) (by kernel_rfl) (by kernel_rfl) (by kernel_rfl) (fun _ _ _ h => h) (by kernel_rfl) (fun w0 hS => (exec_cell 3 (.tmp 24) rfl ⟨g3, 1, none⟩ rfl _ _ (hS.2).cells.2.1 Tryd.underlying3 rfl)) hT ?_
  try simp only [la, lz, ls]
  refine takeU 26 (i := 3) (v := hv h) rfl rfl rfl (by kernel_rfl) (by kernel_rfl) (by kernel_rfl) (by kernel_rfl) (fun _ _ _ h => h) (by kernel_rfl) (fun w0 hS => (exec_row 28 (.tmp 2) rfl g2 rfl 28 (hC h) (0, 0) _ hS.1 Tryd.underlying28 rfl (sz_hart _))) hT ?_
  try simp only [la, lz, ls]
  refine callU 27 (i := 4) rfl rfl (by kernel_rfl) (by kernel_rfl) (f := 59) (args := #[hv h, .int .i64 4]) (v := .int .i64 p2) (by kernel_rfl) (place_lit HP2.out _) (fun w' hb => ⟨HXg2.out.bel hb, HXg3.out.bel hb⟩) ?_
  intro V5 hb
  try simp only [la, lz, ls]
  replace HB : Hid (Bel w V5) := Lib.hid (HB.out.trans hb)
  replace HXg2 : Hid (HAt V5 g2 h) := Lib.hid (HXg2.out.bel hb)
  replace HXg3 : Hid (InAt V5 g3 4 d (a : Int) (b : Int) n) := Lib.hid (HXg3.out.bel hb)
  replace HXg4 : Hid (HAt V5 g4 (fun _ => 0)) := Lib.hid (HXg4.out.bel hb)
  clear hb hT
  have hT : HAt V5 g2 h ∧ InAt V5 g3 4 d (a : Int) (b : Int) n := ⟨HXg2.out, HXg3.out⟩
  refine callU 28 (i := 5) rfl rfl (by kernel_rfl) (by kernel_rfl) (f := 18) (args := #[hv h, .int .i64 d, .int .i64 p2]) (v := hv h1) (by kernel_rfl) (put_lit HP3.out _) (fun w' hb => ⟨HXg2.out.bel hb, HXg3.out.bel hb⟩) ?_
  intro V6 hb
  try simp only [la, lz, ls]
  replace HB : Hid (Bel w V6) := Lib.hid (HB.out.trans hb)
  replace HXg2 : Hid (HAt V6 g2 h) := Lib.hid (HXg2.out.bel hb)
  replace HXg3 : Hid (InAt V6 g3 4 d (a : Int) (b : Int) n) := Lib.hid (HXg3.out.bel hb)
  replace HXg4 : Hid (HAt V6 g4 (fun _ => 0)) := Lib.hid (HXg4.out.bel hb)
  clear hb hT
  have hT : HAt V6 g2 h ∧ InAt V6 g3 4 d (a : Int) (b : Int) n := ⟨HXg2.out, HXg3.out⟩
  have hn := row_same (cs := (hC h1)) HXg2.out
  have hb := row_bel HB.out (g := g2) (by have := HG.out; have := HG1.out; have := HG2.out; omega) (hC h1)
  have hg3 := (setRow_other V6 g2 g3 (hC h1) (by have := HG.out; have := HG1.out; have := HG2.out; omega)).trans HXg3.out
  have hg4 := (setRow_other V6 g2 g4 (hC h1) (by have := HG.out; have := HG1.out; have := HG2.out; omega)).trans HXg4.out
  refine rowL rfl rfl (by kernel_rfl) (by kernel_rfl) 28 (.tmp 2) (.tmp 28) rfl g2 (hC h1) rfl rfl 28 (hC h) HXg2.out (sz_hart _) (by rw [hC_size, hC_size]) (hC_ones _) ?_
  generalize V6.setRow g2 (hC h1) = V7 at hn hb hg3 hg4 ⊢
  clear hT HB HXg2 HXg3 HXg4
  have HB : Hid (Bel w V7) := Lib.hid hb
  have HXg3 : Hid (InAt V7 g3 4 d (a : Int) (b : Int) n) := Lib.hid hg3
  have HXg4 : Hid (HAt V7 g4 (fun _ => 0)) := Lib.hid hg4
  have HXg2 : Hid (HAt V7 g2 h1) := Lib.hid hn
  clear hn hb hg3 hg4
  have hT := True.intro
  refine Upto.done (by kernel_rfl) ?_ _
  clear hT
  refine hK _ _ ?_
  clear hK K
  go_upto_region 5 with (fail)
  rename_i K hK
  refine wp_region_list ?_
  refine wpList_one rfl (w' := V7) (v := .int .i64 (bits .andNot .i64 m 1)) rfl ?_
  try simp only [Act.put, la, lz, ls]
  refine wpList_one rfl (w' := V7) (v := .pointer (some ⟨g2, 32, none⟩)) (by kernel_rfl) ?_
  try simp only [Act.put, la, lz, ls]
  refine wpList_store_cell rfl 3 (.tmp 30) (.tmp 29) rfl g2 32 rfl (.int .i64 (bits .andNot .i64 m 1)) rfl (HXg2.out.cell (j := 32) (by omega)) (HXg2.out.frozen 32) sz_int rfl ?_
  have hn := HXg2.out.set (j := 32) (by omega) ((bits .andNot .i64 m 1))
  have hb := (Svg.set g2 32 V7 (.int .i64 ((bits .andNot .i64 m 1)))).bel HB.out (by have := HG.out; have := HG1.out; have := HG2.out; omega)
  have hg3 := ((Svg.set g2 32 V7 (.int .i64 ((bits .andNot .i64 m 1)))).block g3 (lt_of_heap HXg3.out) (by have := HG.out; have := HG1.out; have := HG2.out; omega)).trans HXg3.out
  have hg4 := ((Svg.set g2 32 V7 (.int .i64 ((bits .andNot .i64 m 1)))).block g4 (lt_of_heap HXg4.out) (by have := HG.out; have := HG1.out; have := HG2.out; omega)).trans HXg4.out
  generalize V7.setCell ⟨g2, 32, none⟩ (.int .i64 ((bits .andNot .i64 m 1))) = V8 at hn hb hg3 hg4  ⊢
  clear HB HXg2 HXg3 HXg4
  have HB : Hid (Bel w V8) := Lib.hid hb
  have HXg3 : Hid (InAt V8 g3 4 d (a : Int) (b : Int) n) := Lib.hid hg3
  have HXg4 : Hid (HAt V8 g4 (fun _ => 0)) := Lib.hid hg4
  have HXg2 : Hid (HAt V8 g2 (up h1 32 ((bits .andNot .i64 m 1)))) := Lib.hid hn
  clear hn hb hg3 hg4
  try simp only [Act.put, la, lz, ls]
  refine wpList_nil ?_
  refine hK _ _ ?_
  clear hK K
  go_upto_region 6 with (fail)
  rename_i K hK
  refine wp_region_list ?_
  refine wpList_load_row rfl 28 (.tmp 2) rfl g2 rfl 28 (hC (up h1 32 ((bits .andNot .i64 m 1)))) (0, 0) _ HXg2.out Tryd.underlying28 rfl (sz_hart _) ?_
  try simp only [Act.put, la, lz, ls]
  refine wpList_store_row rfl 28 (.tmp 4) (.tmp 31) rfl g4 (hC (up h1 32 ((bits .andNot .i64 m 1)))) rfl rfl 28 (hC (fun _ => 0)) HXg4.out (sz_hart _) (by rw [hC_size, hC_size]) (hC_ones _) ?_
  have hn := row_same (cs := (hC (up h1 32 ((bits .andNot .i64 m 1))))) HXg4.out
  have hb := row_bel HB.out (g := g4) (by have := HG.out; have := HG1.out; have := HG2.out; omega) (hC (up h1 32 ((bits .andNot .i64 m 1))))
  have hg2 := (setRow_other V8 g4 g2 (hC (up h1 32 ((bits .andNot .i64 m 1)))) (by have := HG.out; have := HG1.out; have := HG2.out; omega)).trans HXg2.out
  have hg3 := (setRow_other V8 g4 g3 (hC (up h1 32 ((bits .andNot .i64 m 1)))) (by have := HG.out; have := HG1.out; have := HG2.out; omega)).trans HXg3.out
  generalize V8.setRow g4 (hC (up h1 32 ((bits .andNot .i64 m 1)))) = V9 at hn hb hg2 hg3 ⊢
  clear HB HXg2 HXg3 HXg4
  have HB : Hid (Bel w V9) := Lib.hid hb
  have HXg2 : Hid (HAt V9 g2 (up h1 32 ((bits .andNot .i64 m 1)))) := Lib.hid hg2
  have HXg3 : Hid (InAt V9 g3 4 d (a : Int) (b : Int) n) := Lib.hid hg3
  have HXg4 : Hid (HAt V9 g4 (up h1 32 ((bits .andNot .i64 m 1)))) := Lib.hid hn
  clear hn hb hg2 hg3
  try simp only [Act.put, la, lz, ls]
  refine wpList_nil ?_
  refine hK _ _ (wp_ret ?_)
  exact bodyPost_ret (results_cell_row Tryd.results33 _ _ g4 _ _ _ _ (by rfl) HXg4.out Tryd.underlying28 rfl (sz_hart _)) (by rfl) ⟨rfl, HB.out⟩
end Go.Proofs.YtgcgdjmlngfpeaaDoor
