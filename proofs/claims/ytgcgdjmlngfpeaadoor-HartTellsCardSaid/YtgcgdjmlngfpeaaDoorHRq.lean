/- The document of layer 14, its own functions: Put, Trap, back, Lets. -/
import Derived.Test.YtgcgdjmlngfpeaaDoorHLaw1
section
namespace Go.Proofs.YtgcgdjmlngfpeaaDoor
open Go.RowKit Ht
set_option linter.unusedVariables false
set_option linter.unusedSimpArgs false
set_option maxRecDepth 100000
theorem rwl {n r : Int} (h : wrap32 n = r) (w : World) : Calls Tryd.prog 41 #[.int .i64 n] w (OneV (.int .i64 r) w) :=
  (rwrap_lit h w).mono fun e w' hh => ⟨hh.1, by rw [← hh.2]; exact Bel.refl _⟩
theorem rput_in {h : H} {A : Nat} {n : Int} (h1 : 1 ≤ A) (h2 : A < 32) (w : World) : Calls Tryd.prog 19 #[hv h, .int .i64 (A : Int), .int .i64 n] w (OneV (hv (up h A (wrap32 n))) w) := by
  obtain ⟨m, hm⟩ : ∃ m, wrap32 n = m := ⟨_, rfl⟩
  rw [hm]
  have HM := Lib.hid hm
  clear hm
  have l1 : (1 : Int) ≤ A := by omega
  have l2 : (A : Int) ≤ 31 := by omega
  have hz := zero_hart
  go_enter Tryd.func19, Tryd.ntmps19
  go_upto_region 1 with (fail)
  obtain ⟨W0, hW, hb, hx3, hx6⟩ := boxes2 w (hC h) hZ 28 28
  first | rw [← hW] | (show Code.wp _ _ _ _ ((w.alloc (.cells (hC h) 28)).alloc (.cells hZ 28)); rw [← hW])
  clear hz hW
  have hlt : w.heap.size < W0.heap.size := lt_of_heap hx3
  generalize hg : w.heap.size = g3 at hx3 hx6 hlt ⊢
  have HG := Lib.hid hg
  clear hg
  generalize hg : g3 + 1 = g6 at hx6 ⊢
  have HG1 := Lib.hid hg
  clear hg
  have HXg3 : Hid (HAt W0 g3 h) := Lib.hid hx3
  have HXg6 : Hid (HAt W0 g6 (fun _ => 0)) := Lib.hid hx6
  have HB : Hid (Bel w W0) := Lib.hid hb
  clear hb hlt hx3 hx6
  go_upto_region 2 with (fail)
  rename_i K hK
  refine wp_region_list ?_
  refine wpList_one rfl (w' := W0) (v := .int .i64 (A : Int)) rfl ?_
  try simp only [Act.put, la, lz, ls]
  refine wpList_one rfl (w' := W0) (v := .int .i64 n) rfl ?_
  try simp only [Act.put, la, lz, ls]
  refine wpList_call rfl (f := 41) (args := #[.int .i64 n]) (v := .int .i64 m) (by kernel_rfl) (rwl HM.out _) ?_
  intro V1 hb
  replace HB : Hid (Bel w V1) := Lib.hid (HB.out.trans hb)
  replace HXg3 : Hid (HAt V1 g3 h) := Lib.hid (HXg3.out.bel hb)
  replace HXg6 : Hid (HAt V1 g6 (fun _ => 0)) := Lib.hid (HXg6.out.bel hb)
  clear hb
  try simp only [Act.put, la, lz, ls]
  refine wpList_one rfl (w' := V1) (v := .pointer (some ⟨g3, 0, none⟩)) (by kernel_rfl) ?_
  try simp only [Act.put, la, lz, ls]
  refine wpList_one rfl (w' := V1) (v := .pointer (some ⟨g3, A, none⟩)) (exec_reg rfl g3 A (by omega) rfl rfl _) ?_
  try simp only [Act.put, la, lz, ls]
  refine wpList_store_cell rfl 3 (.tmp 17) (.tmp 15) rfl g3 A rfl (.int .i64 m) rfl (HXg3.out.cell (j := A) (by omega)) (HXg3.out.frozen A) sz_int rfl ?_
  have hn := HXg3.out.set (j := A) (by omega) (m)
  have hb := (Svg.set g3 A V1 (.int .i64 (m))).bel HB.out (by have := HG.out; have := HG1.out; omega)
  have hg6 := ((Svg.set g3 A V1 (.int .i64 (m))).block g6 (lt_of_heap HXg6.out) (by have := HG.out; have := HG1.out; omega)).trans HXg6.out
  generalize V1.setCell ⟨g3, A, none⟩ (.int .i64 (m)) = V2 at hn hb hg6  ⊢
  clear HB HXg3 HXg6
  have HB : Hid (Bel w V2) := Lib.hid hb
  have HXg6 : Hid (HAt V2 g6 (fun _ => 0)) := Lib.hid hg6
  have HXg3 : Hid (HAt V2 g3 (up h A (m))) := Lib.hid hn
  clear hn hb hg6
  try simp only [Act.put, la, lz, ls]
  refine wpList_nil ?_
  refine hK _ _ ?_
  clear hK K
  go_upto_region 3 with (fail)
  rename_i K hK
  refine wp_region_list ?_
  refine wpList_load_row rfl 28 (.tmp 3) rfl g3 rfl 28 (hC (up h A (m))) (0, 0) _ HXg3.out Tryd.underlying28 rfl (sz_hart _) ?_
  try simp only [Act.put, la, lz, ls]
  refine wpList_store_row rfl 28 (.tmp 6) (.tmp 18) rfl g6 (hC (up h A (m))) rfl rfl 28 (hC (fun _ => 0)) HXg6.out (sz_hart _) (by rw [hC_size, hC_size]) (hC_ones _) ?_
  have hn := row_same (cs := (hC (up h A (m)))) HXg6.out
  have hb := row_bel HB.out (g := g6) (by have := HG.out; have := HG1.out; omega) (hC (up h A (m)))
  have hg3 := (setRow_other V2 g6 g3 (hC (up h A (m))) (by have := HG.out; have := HG1.out; omega)).trans HXg3.out
  generalize V2.setRow g6 (hC (up h A (m))) = V3 at hn hb hg3 ⊢
  clear HB HXg3 HXg6
  have HB : Hid (Bel w V3) := Lib.hid hb
  have HXg3 : Hid (HAt V3 g3 (up h A (m))) := Lib.hid hg3
  have HXg6 : Hid (HAt V3 g6 (up h A (m))) := Lib.hid hn
  clear hn hb hg3
  try simp only [Act.put, la, lz, ls]
  refine wpList_nil ?_
  refine hK _ _ (wp_ret ?_)
  exact bodyPost_ret (results_cell_row Tryd.results19 _ _ g6 _ _ _ _ (by rfl) HXg6.out Tryd.underlying28 rfl (sz_hart _)) (by rfl) ⟨rfl, HB.out⟩
theorem rput_lo {h : H} {d n : Int} (hd : d < 1) (w : World) : Calls Tryd.prog 19 #[hv h, .int .i64 d, .int .i64 n] w (OneV (hv h) w) := by
  have hd2 : ¬ (1 : Int) ≤ d := by omega
  have hz := zero_hart
  go_enter Tryd.func19, Tryd.ntmps19
  go_upto_region 1 with (fail)
  obtain ⟨W0, hW, hb, hx3, hx6⟩ := boxes2 w (hC h) hZ 28 28
  first | rw [← hW] | (show Code.wp _ _ _ _ ((w.alloc (.cells (hC h) 28)).alloc (.cells hZ 28)); rw [← hW])
  clear hz hW
  have hlt : w.heap.size < W0.heap.size := lt_of_heap hx3
  generalize hg : w.heap.size = g3 at hx3 hx6 hlt ⊢
  have HG := Lib.hid hg
  clear hg
  generalize hg : g3 + 1 = g6 at hx6 ⊢
  have HG1 := Lib.hid hg
  clear hg
  have HXg3 : Hid (HAt W0 g3 h) := Lib.hid hx3
  have HXg6 : Hid (HAt W0 g6 (fun _ => 0)) := Lib.hid hx6
  have HB : Hid (Bel w W0) := Lib.hid hb
  clear hb hlt hx3 hx6
  go_upto_region 3 with (fail)
  rename_i K hK
  refine wp_region_list ?_
  refine wpList_load_row rfl 28 (.tmp 3) rfl g3 rfl 28 (hC h) (0, 0) _ HXg3.out Tryd.underlying28 rfl (sz_hart _) ?_
  try simp only [Act.put, la, lz, ls]
  refine wpList_store_row rfl 28 (.tmp 6) (.tmp 18) rfl g6 (hC h) rfl rfl 28 (hC (fun _ => 0)) HXg6.out (sz_hart _) (by rw [hC_size, hC_size]) (hC_ones _) ?_
  have hn := row_same (cs := (hC h)) HXg6.out
  have hb := row_bel HB.out (g := g6) (by have := HG.out; have := HG1.out; omega) (hC h)
  have hg3 := (setRow_other W0 g6 g3 (hC h) (by have := HG.out; have := HG1.out; omega)).trans HXg3.out
  generalize W0.setRow g6 (hC h) = V1 at hn hb hg3 ⊢
  clear HB HXg3 HXg6
  have HB : Hid (Bel w V1) := Lib.hid hb
  have HXg3 : Hid (HAt V1 g3 h) := Lib.hid hg3
  have HXg6 : Hid (HAt V1 g6 h) := Lib.hid hn
  clear hn hb hg3
  try simp only [Act.put, la, lz, ls]
  refine wpList_nil ?_
  refine hK _ _ (wp_ret ?_)
  exact bodyPost_ret (results_cell_row Tryd.results19 _ _ g6 _ _ _ _ (by rfl) HXg6.out Tryd.underlying28 rfl (sz_hart _)) (by rfl) ⟨rfl, HB.out⟩
theorem rput_hi {h : H} {d n : Int} (hd : ¬ d ≤ 31) (w : World) : Calls Tryd.prog 19 #[hv h, .int .i64 d, .int .i64 n] w (OneV (hv h) w) := by
  have hd2 : (1 : Int) ≤ d := by omega
  have hz := zero_hart
  go_enter Tryd.func19, Tryd.ntmps19
  go_upto_region 1 with (fail)
  obtain ⟨W0, hW, hb, hx3, hx6⟩ := boxes2 w (hC h) hZ 28 28
  first | rw [← hW] | (show Code.wp _ _ _ _ ((w.alloc (.cells (hC h) 28)).alloc (.cells hZ 28)); rw [← hW])
  clear hz hW
  have hlt : w.heap.size < W0.heap.size := lt_of_heap hx3
  generalize hg : w.heap.size = g3 at hx3 hx6 hlt ⊢
  have HG := Lib.hid hg
  clear hg
  generalize hg : g3 + 1 = g6 at hx6 ⊢
  have HG1 := Lib.hid hg
  clear hg
  have HXg3 : Hid (HAt W0 g3 h) := Lib.hid hx3
  have HXg6 : Hid (HAt W0 g6 (fun _ => 0)) := Lib.hid hx6
  have HB : Hid (Bel w W0) := Lib.hid hb
  clear hb hlt hx3 hx6
  go_upto_region 3 with (fail)
  rename_i K hK
  refine wp_region_list ?_
  refine wpList_load_row rfl 28 (.tmp 3) rfl g3 rfl 28 (hC h) (0, 0) _ HXg3.out Tryd.underlying28 rfl (sz_hart _) ?_
  try simp only [Act.put, la, lz, ls]
  refine wpList_store_row rfl 28 (.tmp 6) (.tmp 18) rfl g6 (hC h) rfl rfl 28 (hC (fun _ => 0)) HXg6.out (sz_hart _) (by rw [hC_size, hC_size]) (hC_ones _) ?_
  have hn := row_same (cs := (hC h)) HXg6.out
  have hb := row_bel HB.out (g := g6) (by have := HG.out; have := HG1.out; omega) (hC h)
  have hg3 := (setRow_other W0 g6 g3 (hC h) (by have := HG.out; have := HG1.out; omega)).trans HXg3.out
  generalize W0.setRow g6 (hC h) = V1 at hn hb hg3 ⊢
  clear HB HXg3 HXg6
  have HB : Hid (Bel w V1) := Lib.hid hb
  have HXg3 : Hid (HAt V1 g3 h) := Lib.hid hg3
  have HXg6 : Hid (HAt V1 g6 h) := Lib.hid hn
  clear hn hb hg3
  try simp only [Act.put, la, lz, ls]
  refine wpList_nil ?_
  refine hK _ _ (wp_ret ?_)
  exact bodyPost_ret (results_cell_row Tryd.results19 _ _ g6 _ _ _ _ (by rfl) HXg6.out Tryd.underlying28 rfl (sz_hart _)) (by rfl) ⟨rfl, HB.out⟩
theorem rput_lit {h h' : H} {d n : Int} (e : put h d n = h') (w : World) : Calls Tryd.prog 19 #[hv h, .int .i64 d, .int .i64 n] w (OneV (hv h') w) := by
  subst e
  unfold put
  by_cases c1 : d < 1
  · rw [if_neg (by omega)]; exact rput_lo c1 w
  · by_cases c2 : d ≤ 31
    · rw [if_pos ⟨by omega, by omega⟩]
      obtain ⟨A, hA⟩ := Int.eq_ofNat_of_zero_le (show 0 ≤ d by omega)
      subst hA
      exact rput_in (by omega) (by omega) w
    · rw [if_neg (by omega)]; exact rput_hi c2 w
theorem rtrap_lit {h h' : H} {c m y8 y2 z : Int} (hm : wrap32 c = m) (h8 : IntKind.i64.wrap ((h 33).tdiv 8) = y8) (h2 : y8.tmod 2 = y2) (hz : IntKind.i64.wrap (128 * y2) = z) (e : up (up (up (up h 36 (h 32)) 37 m) 32 (h 34)) 33 z = h') (w : World) :
    Calls Tryd.prog 21 #[hv h, .int .i64 c] w (OneV (hv h') w) := by
  subst e
  have HM := Lib.hid hm
  have Y8 := Lib.hid h8
  have Y2 := Lib.hid h2
  have Z := Lib.hid hz
  clear hm h8 h2 hz
  have hz := zero_hart
  go_enter Tryd.func21, Tryd.ntmps21
  go_upto_region 1 with (fail)
  obtain ⟨W0, hW, hb, hx2, hx4⟩ := boxes2 w (hC h) hZ 28 28
  first | rw [← hW] | (show Code.wp _ _ _ _ ((w.alloc (.cells (hC h) 28)).alloc (.cells hZ 28)); rw [← hW])
  clear hz hW
  have hlt : w.heap.size < W0.heap.size := lt_of_heap hx2
  generalize hg : w.heap.size = g2 at hx2 hx4 hlt ⊢
  have HG := Lib.hid hg
  clear hg
  generalize hg : g2 + 1 = g4 at hx4 ⊢
  have HG1 := Lib.hid hg
  clear hg
  have HXg2 : Hid (HAt W0 g2 h) := Lib.hid hx2
  have HXg4 : Hid (HAt W0 g4 (fun _ => 0)) := Lib.hid hx4
  have HB : Hid (Bel w W0) := Lib.hid hb
  clear hb hlt hx2 hx4
  rename_i K hK
  refine wp_region_list ?_
  refine wpList_one rfl (w' := W0) (v := .pointer (some ⟨g2, 32, none⟩)) (by kernel_rfl) ?_
  try simp only [Act.put, la, lz, ls]
  refine wpList_load_cell rfl 3 (.tmp 6) rfl ⟨g2, 32, none⟩ rfl (.int .i64 (h 32)) _ (HXg2.out.cell (j := 32) (by omega)) Tryd.underlying3 rfl ?_
  try simp only [Act.put, la, lz, ls]
  refine wpList_one rfl (w' := W0) (v := .pointer (some ⟨g2, 36, none⟩)) (by kernel_rfl) ?_
  try simp only [Act.put, la, lz, ls]
  refine wpList_store_cell rfl 3 (.tmp 8) (.tmp 7) rfl g2 36 rfl (.int .i64 (h 32)) rfl (HXg2.out.cell (j := 36) (by omega)) (HXg2.out.frozen 36) sz_int rfl ?_
  have hn := HXg2.out.set (j := 36) (by omega) ((h 32))
  have hb := (Svg.set g2 36 W0 (.int .i64 ((h 32)))).bel HB.out (by have := HG.out; have := HG1.out; omega)
  have hg4 := ((Svg.set g2 36 W0 (.int .i64 ((h 32)))).block g4 (lt_of_heap HXg4.out) (by have := HG.out; have := HG1.out; omega)).trans HXg4.out
  generalize W0.setCell ⟨g2, 36, none⟩ (.int .i64 ((h 32))) = V1 at hn hb hg4  ⊢
  clear HB HXg2 HXg4
  have HB : Hid (Bel w V1) := Lib.hid hb
  have HXg4 : Hid (HAt V1 g4 (fun _ => 0)) := Lib.hid hg4
  have HXg2 : Hid (HAt V1 g2 (up h 36 ((h 32)))) := Lib.hid hn
  clear hn hb hg4
  try simp only [Act.put, la, lz, ls]
  refine wpList_nil ?_
  refine hK _ _ ?_
  clear hK K
  go_upto_region 2 with (fail)
  rename_i K hK
  refine wp_region_list ?_
  refine wpList_one rfl (w' := V1) (v := .int .i64 c) rfl ?_
  try simp only [Act.put, la, lz, ls]
  refine wpList_call rfl (f := 41) (args := #[.int .i64 c]) (v := .int .i64 m) (by kernel_rfl) (rwl HM.out _) ?_
  intro V2 hb
  replace HB : Hid (Bel w V2) := Lib.hid (HB.out.trans hb)
  replace HXg2 : Hid (HAt V2 g2 (up h 36 ((h 32)))) := Lib.hid (HXg2.out.bel hb)
  replace HXg4 : Hid (HAt V2 g4 (fun _ => 0)) := Lib.hid (HXg4.out.bel hb)
  clear hb
  try simp only [Act.put, la, lz, ls]
  refine wpList_one rfl (w' := V2) (v := .pointer (some ⟨g2, 37, none⟩)) (by kernel_rfl) ?_
  try simp only [Act.put, la, lz, ls]
  refine wpList_store_cell rfl 3 (.tmp 11) (.tmp 10) rfl g2 37 rfl (.int .i64 m) rfl (HXg2.out.cell (j := 37) (by omega)) (HXg2.out.frozen 37) sz_int rfl ?_
  have hn := HXg2.out.set (j := 37) (by omega) (m)
  have hb := (Svg.set g2 37 V2 (.int .i64 (m))).bel HB.out (by have := HG.out; have := HG1.out; omega)
  have hg4 := ((Svg.set g2 37 V2 (.int .i64 (m))).block g4 (lt_of_heap HXg4.out) (by have := HG.out; have := HG1.out; omega)).trans HXg4.out
  generalize V2.setCell ⟨g2, 37, none⟩ (.int .i64 (m)) = V3 at hn hb hg4  ⊢
  clear HB HXg2 HXg4
  have HB : Hid (Bel w V3) := Lib.hid hb
  have HXg4 : Hid (HAt V3 g4 (fun _ => 0)) := Lib.hid hg4
  have HXg2 : Hid (HAt V3 g2 (up (up h 36 ((h 32))) 37 (m))) := Lib.hid hn
  clear hn hb hg4
  try simp only [Act.put, la, lz, ls]
  refine wpList_nil ?_
  refine hK _ _ ?_
  clear hK K
  go_upto_region 3 with (fail)
  rename_i K hK
  refine wp_region_list ?_
  refine wpList_one rfl (w' := V3) (v := .pointer (some ⟨g2, 34, none⟩)) (by kernel_rfl) ?_
  try simp only [Act.put, la, lz, ls]
  refine wpList_load_cell rfl 3 (.tmp 12) rfl ⟨g2, 34, none⟩ rfl (.int .i64 ((up (up h 36 ((h 32))) 37 (m)) 34)) _ (HXg2.out.cell (j := 34) (by omega)) Tryd.underlying3 rfl ?_
  try simp only [Act.put, la, lz, ls]
  refine wpList_one rfl (w' := V3) (v := .pointer (some ⟨g2, 32, none⟩)) (by kernel_rfl) ?_
  try simp only [Act.put, la, lz, ls]
  refine wpList_store_cell rfl 3 (.tmp 14) (.tmp 13) rfl g2 32 rfl (.int .i64 ((up (up h 36 ((h 32))) 37 (m)) 34)) rfl (HXg2.out.cell (j := 32) (by omega)) (HXg2.out.frozen 32) sz_int rfl ?_
  have hn := HXg2.out.set (j := 32) (by omega) (((up (up h 36 ((h 32))) 37 (m)) 34))
  have hb := (Svg.set g2 32 V3 (.int .i64 (((up (up h 36 ((h 32))) 37 (m)) 34)))).bel HB.out (by have := HG.out; have := HG1.out; omega)
  have hg4 := ((Svg.set g2 32 V3 (.int .i64 (((up (up h 36 ((h 32))) 37 (m)) 34)))).block g4 (lt_of_heap HXg4.out) (by have := HG.out; have := HG1.out; omega)).trans HXg4.out
  generalize V3.setCell ⟨g2, 32, none⟩ (.int .i64 (((up (up h 36 ((h 32))) 37 (m)) 34))) = V4 at hn hb hg4  ⊢
  clear HB HXg2 HXg4
  have HB : Hid (Bel w V4) := Lib.hid hb
  have HXg4 : Hid (HAt V4 g4 (fun _ => 0)) := Lib.hid hg4
  have HXg2 : Hid (HAt V4 g2 (up (up (up h 36 ((h 32))) 37 (m)) 32 (((up (up h 36 ((h 32))) 37 (m)) 34)))) := Lib.hid hn
  clear hn hb hg4
  try simp only [Act.put, la, lz, ls]
  refine wpList_nil ?_
  refine hK _ _ ?_
  clear hK K
  go_upto_region 4 with (fail)
  rename_i K hK
  refine wp_region_list ?_
  refine wpList_one rfl (w' := V4) (v := .pointer (some ⟨g2, 33, none⟩)) (by kernel_rfl) ?_
  try simp only [Act.put, la, lz, ls]
  refine wpList_load_cell rfl 3 (.tmp 15) rfl ⟨g2, 33, none⟩ rfl (.int .i64 ((up (up (up h 36 ((h 32))) 37 (m)) 32 (((up (up h 36 ((h 32))) 37 (m)) 34))) 33)) _ (HXg2.out.cell (j := 33) (by omega)) Tryd.underlying3 rfl ?_
  try simp only [Act.put, la, lz, ls]
  refine wpList_one rfl (w' := V4) (v := .int .i64 y8) (exec_quo rfl rfl rfl (by decide) Y8.out _) ?_
  try simp only [Act.put, la, lz, ls]
  refine wpList_one rfl (w' := V4) (v := .int .i64 y2) (exec_rem rfl rfl rfl (by decide) Y2.out _) ?_
  try simp only [Act.put, la, lz, ls]
  refine wpList_one rfl (w' := V4) (v := .int .i64 y2) rfl ?_
  try simp only [Act.put, la, lz, ls]
  refine wpList_nil ?_
  refine hK _ _ ?_
  clear hK K
  go_upto_region 5 with (fail)
  rename_i K hK
  refine wp_region_list ?_
  refine wpList_one rfl (w' := V4) (v := .int .i64 y2) rfl ?_
  try simp only [Act.put, la, lz, ls]
  refine wpList_one rfl (w' := V4) (v := .int .i64 z) (exec_mul rfl rfl rfl Z.out _) ?_
  try simp only [Act.put, la, lz, ls]
  refine wpList_one rfl (w' := V4) (v := .pointer (some ⟨g2, 33, none⟩)) (by kernel_rfl) ?_
  try simp only [Act.put, la, lz, ls]
  refine wpList_store_cell rfl 3 (.tmp 21) (.tmp 20) rfl g2 33 rfl (.int .i64 z) rfl (HXg2.out.cell (j := 33) (by omega)) (HXg2.out.frozen 33) sz_int rfl ?_
  have hn := HXg2.out.set (j := 33) (by omega) (z)
  have hb := (Svg.set g2 33 V4 (.int .i64 (z))).bel HB.out (by have := HG.out; have := HG1.out; omega)
  have hg4 := ((Svg.set g2 33 V4 (.int .i64 (z))).block g4 (lt_of_heap HXg4.out) (by have := HG.out; have := HG1.out; omega)).trans HXg4.out
  generalize V4.setCell ⟨g2, 33, none⟩ (.int .i64 (z)) = V5 at hn hb hg4  ⊢
  clear HB HXg2 HXg4
  have HB : Hid (Bel w V5) := Lib.hid hb
  have HXg4 : Hid (HAt V5 g4 (fun _ => 0)) := Lib.hid hg4
  have HXg2 : Hid (HAt V5 g2 (up (up (up (up h 36 ((h 32))) 37 (m)) 32 (((up (up h 36 ((h 32))) 37 (m)) 34))) 33 (z))) := Lib.hid hn
  clear hn hb hg4
  try simp only [Act.put, la, lz, ls]
  refine wpList_nil ?_
  refine hK _ _ ?_
  clear hK K
  go_upto_region 6 with (fail)
  rename_i K hK
  refine wp_region_list ?_
  refine wpList_load_row rfl 28 (.tmp 2) rfl g2 rfl 28 (hC (up (up (up (up h 36 ((h 32))) 37 (m)) 32 (((up (up h 36 ((h 32))) 37 (m)) 34))) 33 (z))) (0, 0) _ HXg2.out Tryd.underlying28 rfl (sz_hart _) ?_
  try simp only [Act.put, la, lz, ls]
  refine wpList_store_row rfl 28 (.tmp 4) (.tmp 22) rfl g4 (hC (up (up (up (up h 36 ((h 32))) 37 (m)) 32 (((up (up h 36 ((h 32))) 37 (m)) 34))) 33 (z))) rfl rfl 28 (hC (fun _ => 0)) HXg4.out (sz_hart _) (by rw [hC_size, hC_size]) (hC_ones _) ?_
  have hn := row_same (cs := (hC (up (up (up (up h 36 ((h 32))) 37 (m)) 32 (((up (up h 36 ((h 32))) 37 (m)) 34))) 33 (z)))) HXg4.out
  have hb := row_bel HB.out (g := g4) (by have := HG.out; have := HG1.out; omega) (hC (up (up (up (up h 36 ((h 32))) 37 (m)) 32 (((up (up h 36 ((h 32))) 37 (m)) 34))) 33 (z)))
  have hg2 := (setRow_other V5 g4 g2 (hC (up (up (up (up h 36 ((h 32))) 37 (m)) 32 (((up (up h 36 ((h 32))) 37 (m)) 34))) 33 (z))) (by have := HG.out; have := HG1.out; omega)).trans HXg2.out
  generalize V5.setRow g4 (hC (up (up (up (up h 36 ((h 32))) 37 (m)) 32 (((up (up h 36 ((h 32))) 37 (m)) 34))) 33 (z))) = V6 at hn hb hg2 ⊢
  clear HB HXg2 HXg4
  have HB : Hid (Bel w V6) := Lib.hid hb
  have HXg2 : Hid (HAt V6 g2 (up (up (up (up h 36 ((h 32))) 37 (m)) 32 (((up (up h 36 ((h 32))) 37 (m)) 34))) 33 (z))) := Lib.hid hg2
  have HXg4 : Hid (HAt V6 g4 (up (up (up (up h 36 ((h 32))) 37 (m)) 32 (((up (up h 36 ((h 32))) 37 (m)) 34))) 33 (z))) := Lib.hid hn
  clear hn hb hg2
  try simp only [Act.put, la, lz, ls]
  refine wpList_nil ?_
  refine hK _ _ (wp_ret ?_)
  exact bodyPost_ret (results_cell_row Tryd.results21 _ _ g4 _ _ _ _ (by rfl) HXg4.out Tryd.underlying28 rfl (sz_hart _)) (by rfl) ⟨rfl, HB.out⟩
theorem rback_lit {h h' : H} {y8 y2 z0 z : Int} (h8 : IntKind.i64.wrap ((h 33).tdiv 128) = y8) (h2 : y8.tmod 2 = y2) (h0 : IntKind.i64.wrap (8 * y2) = z0) (hz : IntKind.i64.wrap (128 + z0) = z) (e : up (up h 32 (h 36)) 33 z = h') (w : World) :
    Calls Tryd.prog 45 #[hv h] w (OneV (hv h') w) := by
  subst e
  have Y8 := Lib.hid h8
  have Y2 := Lib.hid h2
  have Z0 := Lib.hid h0
  have Z := Lib.hid hz
  clear h8 h2 h0 hz
  have hz := zero_hart
  go_enter Tryd.func45, Tryd.ntmps45
  go_upto_region 1 with (fail)
  obtain ⟨W0, hW, hb, hx1, hx2⟩ := boxes2 w (hC h) hZ 28 28
  first | rw [← hW] | (show Code.wp _ _ _ _ ((w.alloc (.cells (hC h) 28)).alloc (.cells hZ 28)); rw [← hW])
  clear hz hW
  have hlt : w.heap.size < W0.heap.size := lt_of_heap hx1
  generalize hg : w.heap.size = g1 at hx1 hx2 hlt ⊢
  have HG := Lib.hid hg
  clear hg
  generalize hg : g1 + 1 = g2 at hx2 ⊢
  have HG1 := Lib.hid hg
  clear hg
  have HXg1 : Hid (HAt W0 g1 h) := Lib.hid hx1
  have HXg2 : Hid (HAt W0 g2 (fun _ => 0)) := Lib.hid hx2
  have HB : Hid (Bel w W0) := Lib.hid hb
  clear hb hlt hx1 hx2
  rename_i K hK
  refine wp_region_list ?_
  refine wpList_one rfl (w' := W0) (v := .pointer (some ⟨g1, 36, none⟩)) (by kernel_rfl) ?_
  try simp only [Act.put, la, lz, ls]
  refine wpList_load_cell rfl 3 (.tmp 4) rfl ⟨g1, 36, none⟩ rfl (.int .i64 (h 36)) _ (HXg1.out.cell (j := 36) (by omega)) Tryd.underlying3 rfl ?_
  try simp only [Act.put, la, lz, ls]
  refine wpList_one rfl (w' := W0) (v := .pointer (some ⟨g1, 32, none⟩)) (by kernel_rfl) ?_
  try simp only [Act.put, la, lz, ls]
  refine wpList_store_cell rfl 3 (.tmp 6) (.tmp 5) rfl g1 32 rfl (.int .i64 (h 36)) rfl (HXg1.out.cell (j := 32) (by omega)) (HXg1.out.frozen 32) sz_int rfl ?_
  have hn := HXg1.out.set (j := 32) (by omega) ((h 36))
  have hb := (Svg.set g1 32 W0 (.int .i64 ((h 36)))).bel HB.out (by have := HG.out; have := HG1.out; omega)
  have hg2 := ((Svg.set g1 32 W0 (.int .i64 ((h 36)))).block g2 (lt_of_heap HXg2.out) (by have := HG.out; have := HG1.out; omega)).trans HXg2.out
  generalize W0.setCell ⟨g1, 32, none⟩ (.int .i64 ((h 36))) = V1 at hn hb hg2  ⊢
  clear HB HXg1 HXg2
  have HB : Hid (Bel w V1) := Lib.hid hb
  have HXg2 : Hid (HAt V1 g2 (fun _ => 0)) := Lib.hid hg2
  have HXg1 : Hid (HAt V1 g1 (up h 32 ((h 36)))) := Lib.hid hn
  clear hn hb hg2
  try simp only [Act.put, la, lz, ls]
  refine wpList_nil ?_
  refine hK _ _ ?_
  clear hK K
  go_upto_region 2 with (fail)
  rename_i K hK
  refine wp_region_list ?_
  refine wpList_one rfl (w' := V1) (v := .pointer (some ⟨g1, 33, none⟩)) (by kernel_rfl) ?_
  try simp only [Act.put, la, lz, ls]
  refine wpList_load_cell rfl 3 (.tmp 7) rfl ⟨g1, 33, none⟩ rfl (.int .i64 ((up h 32 ((h 36))) 33)) _ (HXg1.out.cell (j := 33) (by omega)) Tryd.underlying3 rfl ?_
  try simp only [Act.put, la, lz, ls]
  refine wpList_one rfl (w' := V1) (v := .int .i64 y8) (exec_quo rfl rfl rfl (by decide) Y8.out _) ?_
  try simp only [Act.put, la, lz, ls]
  refine wpList_one rfl (w' := V1) (v := .int .i64 y2) (exec_rem rfl rfl rfl (by decide) Y2.out _) ?_
  try simp only [Act.put, la, lz, ls]
  refine wpList_one rfl (w' := V1) (v := .int .i64 y2) rfl ?_
  try simp only [Act.put, la, lz, ls]
  refine wpList_nil ?_
  refine hK _ _ ?_
  clear hK K
  go_upto_region 3 with (fail)
  rename_i K hK
  refine wp_region_list ?_
  refine wpList_one rfl (w' := V1) (v := .int .i64 y2) rfl ?_
  try simp only [Act.put, la, lz, ls]
  refine wpList_one rfl (w' := V1) (v := .int .i64 z0) (exec_mul rfl rfl rfl Z0.out _) ?_
  try simp only [Act.put, la, lz, ls]
  refine wpList_one rfl (w' := V1) (v := .int .i64 z) (exec_add rfl rfl rfl Z.out _) ?_
  try simp only [Act.put, la, lz, ls]
  refine wpList_one rfl (w' := V1) (v := .pointer (some ⟨g1, 33, none⟩)) (by kernel_rfl) ?_
  try simp only [Act.put, la, lz, ls]
  refine wpList_store_cell rfl 3 (.tmp 14) (.tmp 13) rfl g1 33 rfl (.int .i64 z) rfl (HXg1.out.cell (j := 33) (by omega)) (HXg1.out.frozen 33) sz_int rfl ?_
  have hn := HXg1.out.set (j := 33) (by omega) (z)
  have hb := (Svg.set g1 33 V1 (.int .i64 (z))).bel HB.out (by have := HG.out; have := HG1.out; omega)
  have hg2 := ((Svg.set g1 33 V1 (.int .i64 (z))).block g2 (lt_of_heap HXg2.out) (by have := HG.out; have := HG1.out; omega)).trans HXg2.out
  generalize V1.setCell ⟨g1, 33, none⟩ (.int .i64 (z)) = V2 at hn hb hg2  ⊢
  clear HB HXg1 HXg2
  have HB : Hid (Bel w V2) := Lib.hid hb
  have HXg2 : Hid (HAt V2 g2 (fun _ => 0)) := Lib.hid hg2
  have HXg1 : Hid (HAt V2 g1 (up (up h 32 ((h 36))) 33 (z))) := Lib.hid hn
  clear hn hb hg2
  try simp only [Act.put, la, lz, ls]
  refine wpList_nil ?_
  refine hK _ _ ?_
  clear hK K
  go_upto_region 4 with (fail)
  rename_i K hK
  refine wp_region_list ?_
  refine wpList_load_row rfl 28 (.tmp 1) rfl g1 rfl 28 (hC (up (up h 32 ((h 36))) 33 (z))) (0, 0) _ HXg1.out Tryd.underlying28 rfl (sz_hart _) ?_
  try simp only [Act.put, la, lz, ls]
  refine wpList_store_row rfl 28 (.tmp 2) (.tmp 15) rfl g2 (hC (up (up h 32 ((h 36))) 33 (z))) rfl rfl 28 (hC (fun _ => 0)) HXg2.out (sz_hart _) (by rw [hC_size, hC_size]) (hC_ones _) ?_
  have hn := row_same (cs := (hC (up (up h 32 ((h 36))) 33 (z)))) HXg2.out
  have hb := row_bel HB.out (g := g2) (by have := HG.out; have := HG1.out; omega) (hC (up (up h 32 ((h 36))) 33 (z)))
  have hg1 := (setRow_other V2 g2 g1 (hC (up (up h 32 ((h 36))) 33 (z))) (by have := HG.out; have := HG1.out; omega)).trans HXg1.out
  generalize V2.setRow g2 (hC (up (up h 32 ((h 36))) 33 (z))) = V3 at hn hb hg1 ⊢
  clear HB HXg1 HXg2
  have HB : Hid (Bel w V3) := Lib.hid hb
  have HXg1 : Hid (HAt V3 g1 (up (up h 32 ((h 36))) 33 (z))) := Lib.hid hg1
  have HXg2 : Hid (HAt V3 g2 (up (up h 32 ((h 36))) 33 (z))) := Lib.hid hn
  clear hn hb hg1
  try simp only [Act.put, la, lz, ls]
  refine wpList_nil ?_
  refine hK _ _ (wp_ret ?_)
  exact bodyPost_ret (results_cell_row Tryd.results45 _ _ g2 _ _ _ _ (by rfl) HXg2.out Tryd.underlying28 rfl (sz_hart _)) (by rfl) ⟨rfl, HB.out⟩
end Go.Proofs.YtgcgdjmlngfpeaaDoor
end
section
namespace Go.Proofs.YtgcgdjmlngfpeaaDoor
open Go.RowKit Ht
set_option linter.unusedVariables false
set_option linter.unusedSimpArgs false
set_option maxRecDepth 100000
theorem rctl_768 (h : H) (id : Int) (w : World) : Calls Tryd.prog 70 #[hv h, .int .i64 id, .int .i64 768] w (OneV (.tuple #[.int .i64 (h 33), .bool true]) w) := by
  have hz := zero_hart
  go_enter Tryd.func70, Tryd.ntmps70
  go_upto_region 1 with (fail)
  obtain ⟨W0, hW, hb, hx3⟩ : ∃ W, W = w.alloc (.cells (hC h) 28) ∧ Bel w W ∧ W.heap[w.heap.size]? = some (.cells (hC h) 28 (0, 0)) := ⟨_, rfl, box1 w _ _⟩
  first | rw [← hW] | (show Code.wp _ _ _ _ w.alloc (.cells (hC h) 28); rw [← hW])
  clear hz hW
  have hlt : w.heap.size < W0.heap.size := lt_of_heap hx3
  generalize hg : w.heap.size = g3 at hx3 hlt ⊢
  have HG := Lib.hid hg
  clear hg
  have HXg3 : Hid (HAt W0 g3 h) := Lib.hid hx3
  have HB : Hid (Bel w W0) := Lib.hid hb
  clear hb hlt hx3
  have k1 := HXg3.out.cell (j := 33) (by omega)
  go_wp2
  exact bodyPost_ret (results_tmp2 Tryd.results70 _ _ _) (by rfl) ⟨rfl, HB.out⟩
theorem rctl_773 (h : H) (id : Int) (w : World) : Calls Tryd.prog 70 #[hv h, .int .i64 id, .int .i64 773] w (OneV (.tuple #[.int .i64 (h 34), .bool true]) w) := by
  have hz := zero_hart
  go_enter Tryd.func70, Tryd.ntmps70
  go_upto_region 1 with (fail)
  obtain ⟨W0, hW, hb, hx3⟩ : ∃ W, W = w.alloc (.cells (hC h) 28) ∧ Bel w W ∧ W.heap[w.heap.size]? = some (.cells (hC h) 28 (0, 0)) := ⟨_, rfl, box1 w _ _⟩
  first | rw [← hW] | (show Code.wp _ _ _ _ w.alloc (.cells (hC h) 28); rw [← hW])
  clear hz hW
  have hlt : w.heap.size < W0.heap.size := lt_of_heap hx3
  generalize hg : w.heap.size = g3 at hx3 hlt ⊢
  have HG := Lib.hid hg
  clear hg
  have HXg3 : Hid (HAt W0 g3 h) := Lib.hid hx3
  have HB : Hid (Bel w W0) := Lib.hid hb
  clear hb hlt hx3
  have k1 := HXg3.out.cell (j := 34) (by omega)
  go_wp2
  exact bodyPost_ret (results_tmp2 Tryd.results70 _ _ _) (by rfl) ⟨rfl, HB.out⟩
theorem rctl_832 (h : H) (id : Int) (w : World) : Calls Tryd.prog 70 #[hv h, .int .i64 id, .int .i64 832] w (OneV (.tuple #[.int .i64 (h 35), .bool true]) w) := by
  have hz := zero_hart
  go_enter Tryd.func70, Tryd.ntmps70
  go_upto_region 1 with (fail)
  obtain ⟨W0, hW, hb, hx3⟩ : ∃ W, W = w.alloc (.cells (hC h) 28) ∧ Bel w W ∧ W.heap[w.heap.size]? = some (.cells (hC h) 28 (0, 0)) := ⟨_, rfl, box1 w _ _⟩
  first | rw [← hW] | (show Code.wp _ _ _ _ w.alloc (.cells (hC h) 28); rw [← hW])
  clear hz hW
  have hlt : w.heap.size < W0.heap.size := lt_of_heap hx3
  generalize hg : w.heap.size = g3 at hx3 hlt ⊢
  have HG := Lib.hid hg
  clear hg
  have HXg3 : Hid (HAt W0 g3 h) := Lib.hid hx3
  have HB : Hid (Bel w W0) := Lib.hid hb
  clear hb hlt hx3
  have k1 := HXg3.out.cell (j := 35) (by omega)
  go_wp2
  exact bodyPost_ret (results_tmp2 Tryd.results70 _ _ _) (by rfl) ⟨rfl, HB.out⟩
theorem rctl_833 (h : H) (id : Int) (w : World) : Calls Tryd.prog 70 #[hv h, .int .i64 id, .int .i64 833] w (OneV (.tuple #[.int .i64 (h 36), .bool true]) w) := by
  have hz := zero_hart
  go_enter Tryd.func70, Tryd.ntmps70
  go_upto_region 1 with (fail)
  obtain ⟨W0, hW, hb, hx3⟩ : ∃ W, W = w.alloc (.cells (hC h) 28) ∧ Bel w W ∧ W.heap[w.heap.size]? = some (.cells (hC h) 28 (0, 0)) := ⟨_, rfl, box1 w _ _⟩
  first | rw [← hW] | (show Code.wp _ _ _ _ w.alloc (.cells (hC h) 28); rw [← hW])
  clear hz hW
  have hlt : w.heap.size < W0.heap.size := lt_of_heap hx3
  generalize hg : w.heap.size = g3 at hx3 hlt ⊢
  have HG := Lib.hid hg
  clear hg
  have HXg3 : Hid (HAt W0 g3 h) := Lib.hid hx3
  have HB : Hid (Bel w W0) := Lib.hid hb
  clear hb hlt hx3
  have k1 := HXg3.out.cell (j := 36) (by omega)
  go_wp2
  exact bodyPost_ret (results_tmp2 Tryd.results70 _ _ _) (by rfl) ⟨rfl, HB.out⟩
theorem rctl_834 (h : H) (id : Int) (w : World) : Calls Tryd.prog 70 #[hv h, .int .i64 id, .int .i64 834] w (OneV (.tuple #[.int .i64 (h 37), .bool true]) w) := by
  have hz := zero_hart
  go_enter Tryd.func70, Tryd.ntmps70
  go_upto_region 1 with (fail)
  obtain ⟨W0, hW, hb, hx3⟩ : ∃ W, W = w.alloc (.cells (hC h) 28) ∧ Bel w W ∧ W.heap[w.heap.size]? = some (.cells (hC h) 28 (0, 0)) := ⟨_, rfl, box1 w _ _⟩
  first | rw [← hW] | (show Code.wp _ _ _ _ w.alloc (.cells (hC h) 28); rw [← hW])
  clear hz hW
  have hlt : w.heap.size < W0.heap.size := lt_of_heap hx3
  generalize hg : w.heap.size = g3 at hx3 hlt ⊢
  have HG := Lib.hid hg
  clear hg
  have HXg3 : Hid (HAt W0 g3 h) := Lib.hid hx3
  have HB : Hid (Bel w W0) := Lib.hid hb
  clear hb hlt hx3
  have k1 := HXg3.out.cell (j := 37) (by omega)
  go_wp2
  exact bodyPost_ret (results_tmp2 Tryd.results70 _ _ _) (by rfl) ⟨rfl, HB.out⟩
theorem rctl_1984 (h : H) (id : Int) (w : World) : Calls Tryd.prog 70 #[hv h, .int .i64 id, .int .i64 1984] w (OneV (.tuple #[.int .i64 (h 38), .bool true]) w) := by
  have hz := zero_hart
  go_enter Tryd.func70, Tryd.ntmps70
  go_upto_region 1 with (fail)
  obtain ⟨W0, hW, hb, hx3⟩ : ∃ W, W = w.alloc (.cells (hC h) 28) ∧ Bel w W ∧ W.heap[w.heap.size]? = some (.cells (hC h) 28 (0, 0)) := ⟨_, rfl, box1 w _ _⟩
  first | rw [← hW] | (show Code.wp _ _ _ _ w.alloc (.cells (hC h) 28); rw [← hW])
  clear hz hW
  have hlt : w.heap.size < W0.heap.size := lt_of_heap hx3
  generalize hg : w.heap.size = g3 at hx3 hlt ⊢
  have HG := Lib.hid hg
  clear hg
  have HXg3 : Hid (HAt W0 g3 h) := Lib.hid hx3
  have HB : Hid (Bel w W0) := Lib.hid hb
  clear hb hlt hx3
  have k1 := HXg3.out.cell (j := 38) (by omega)
  go_wp2
  exact bodyPost_ret (results_tmp2 Tryd.results70 _ _ _) (by rfl) ⟨rfl, HB.out⟩
theorem rctl_3860 (h : H) {id m : Int} (hm : wrap32 id = m) (w : World) : Calls Tryd.prog 70 #[hv h, .int .i64 id, .int .i64 3860] w (OneV (.tuple #[.int .i64 m, .bool true]) w) := by
  have HM := Lib.hid hm
  clear hm
  have hz := zero_hart
  go_enter Tryd.func70, Tryd.ntmps70
  go_upto_region 1 with (fail)
  obtain ⟨W0, hW, hb, hx3⟩ : ∃ W, W = w.alloc (.cells (hC h) 28) ∧ Bel w W ∧ W.heap[w.heap.size]? = some (.cells (hC h) 28 (0, 0)) := ⟨_, rfl, box1 w _ _⟩
  first | rw [← hW] | (show Code.wp _ _ _ _ w.alloc (.cells (hC h) 28); rw [← hW])
  clear hz hW
  have hlt : w.heap.size < W0.heap.size := lt_of_heap hx3
  generalize hg : w.heap.size = g3 at hx3 hlt ⊢
  have HG := Lib.hid hg
  clear hg
  have HXg3 : Hid (HAt W0 g3 h) := Lib.hid hx3
  have HB : Hid (Bel w W0) := Lib.hid hb
  clear hb hlt hx3
  go_wp2_with fail
  refine (rwrap_lit HM.out _).mono ?_
  rintro e W ⟨rfl, rfl⟩
  go_wp2
  exact bodyPost_ret (results_tmp2 Tryd.results70 _ _ _) (by rfl) ⟨rfl, HB.out⟩
theorem rctl_none (h : H) {id n : Int} (hn : n ≠ 768 ∧ n ≠ 773 ∧ n ≠ 832 ∧ n ≠ 833 ∧ n ≠ 834 ∧ n ≠ 1984 ∧ n ≠ 3860) (w : World) : Calls Tryd.prog 70 #[hv h, .int .i64 id, .int .i64 n] w (OneV (.tuple #[.int .i64 0, .bool false]) w) := by
  have n768 : (n == 768) = false := by simp; omega
  have n773 : (n == 773) = false := by simp; omega
  have n832 : (n == 832) = false := by simp; omega
  have n833 : (n == 833) = false := by simp; omega
  have n834 : (n == 834) = false := by simp; omega
  have n1984 : (n == 1984) = false := by simp; omega
  have n3860 : (n == 3860) = false := by simp; omega
  clear hn
  have hz := zero_hart
  go_enter Tryd.func70, Tryd.ntmps70
  go_upto_region 1 with (fail)
  obtain ⟨W0, hW, hb, hx3⟩ : ∃ W, W = w.alloc (.cells (hC h) 28) ∧ Bel w W ∧ W.heap[w.heap.size]? = some (.cells (hC h) 28 (0, 0)) := ⟨_, rfl, box1 w _ _⟩
  first | rw [← hW] | (show Code.wp _ _ _ _ w.alloc (.cells (hC h) 28); rw [← hW])
  clear hz hW
  have hlt : w.heap.size < W0.heap.size := lt_of_heap hx3
  generalize hg : w.heap.size = g3 at hx3 hlt ⊢
  have HG := Lib.hid hg
  clear hg
  have HXg3 : Hid (HAt W0 g3 h) := Lib.hid hx3
  have HB : Hid (Bel w W0) := Lib.hid hb
  clear hb hlt hx3
  go_wp2
  exact bodyPost_ret (results_tmp2 Tryd.results70 _ _ _) (by rfl) ⟨rfl, HB.out⟩
theorem rtl {x y z v : Int} {q : Bool} (h : Plain.two x y z = v) (hq : Plain.isTwo x = q) (w : World) : Calls Tryd.prog 42 #[.int .i64 x, .int .i64 y, .int .i64 z] w (OneV (.tuple #[.int .i64 v, .bool q]) w) :=
  (rtwo_val h hq w).mono fun e w' hh => ⟨hh.1, by rw [← hh.2]; exact Bel.refl _⟩
theorem rset_768 {h h' : H} {z u v : Int} (hu : Plain.two 6 z 136 = u) (hvv : Plain.two 6 z (-4) = v) (e : up h 33 u = h') (w : World) : Calls Tryd.prog 72 #[hv h, .int .i64 768, .int .i64 z] w (OneV (hv h') w) := by
  subst e
  have HU := Lib.hid hu
  have HV := Lib.hid hvv
  clear hu hvv
  have hz := zero_hart
  go_enter Tryd.func72, Tryd.ntmps72
  go_upto_region 1 with (fail)
  obtain ⟨W0, hW, hb, hx3, hx6⟩ := boxes2 w (hC h) hZ 28 28
  first | rw [← hW] | (show Code.wp _ _ _ _ ((w.alloc (.cells (hC h) 28)).alloc (.cells hZ 28)); rw [← hW])
  clear hz hW
  have hlt : w.heap.size < W0.heap.size := lt_of_heap hx3
  generalize hg : w.heap.size = g3 at hx3 hx6 hlt ⊢
  have HG := Lib.hid hg
  clear hg
  generalize hg : g3 + 1 = g6 at hx6 ⊢
  have HG1 := Lib.hid hg
  clear hg
  have HXg3 : Hid (HAt W0 g3 h) := Lib.hid hx3
  have HXg6 : Hid (HAt W0 g6 (fun _ => 0)) := Lib.hid hx6
  have HB : Hid (Bel w W0) := Lib.hid hb
  clear hb hlt hx3 hx6
  rename_i K hK
  refine wp_region_list ?_
  refine wpList_one rfl (w' := W0) (v := .int .i64 z) rfl ?_
  try simp only [Act.put, la, lz, ls]
  refine wpList_call rfl (f := 42) (args := #[.int .i64 6, .int .i64 z, .int .i64 (-4)]) (v := .tuple #[.int .i64 v, .bool true]) (by kernel_rfl) (rtl HV.out (by rfl) _) ?_
  intro V1 hb
  replace HB : Hid (Bel w V1) := Lib.hid (HB.out.trans hb)
  replace HXg3 : Hid (HAt V1 g3 h) := Lib.hid (HXg3.out.bel hb)
  replace HXg6 : Hid (HAt V1 g6 (fun _ => 0)) := Lib.hid (HXg6.out.bel hb)
  clear hb
  try simp only [Act.put, la, lz, ls]
  refine wpList_one rfl (w' := V1) (v := .tuple #[.int .i64 v, .bool true]) rfl ?_
  try simp only [Act.put, la, lz, ls]
  refine wpList_one rfl (w' := V1) (v := .int .i64 v) rfl ?_
  try simp only [Act.put, la, lz, ls]
  refine wpList_one rfl (w' := V1) (v := .bool true) rfl ?_
  try simp only [Act.put, la, lz, ls]
  refine wpList_one rfl (w' := V1) (v := .int .i64 v) rfl ?_
  try simp only [Act.put, la, lz, ls]
  refine wpList_one rfl (w' := V1) (v := .bool true) rfl ?_
  try simp only [Act.put, la, lz, ls]
  refine wpList_nil ?_
  refine hK _ _ ?_
  clear hK K
  go_upto_region 4 with (fail)
  rename_i K hK
  refine wp_region_list ?_
  refine wpList_one rfl (w' := V1) (v := .int .i64 z) rfl ?_
  try simp only [Act.put, la, lz, ls]
  refine wpList_call rfl (f := 42) (args := #[.int .i64 6, .int .i64 z, .int .i64 136]) (v := .tuple #[.int .i64 u, .bool true]) (by kernel_rfl) (rtl HU.out (by rfl) _) ?_
  intro V2 hb
  replace HB : Hid (Bel w V2) := Lib.hid (HB.out.trans hb)
  replace HXg3 : Hid (HAt V2 g3 h) := Lib.hid (HXg3.out.bel hb)
  replace HXg6 : Hid (HAt V2 g6 (fun _ => 0)) := Lib.hid (HXg6.out.bel hb)
  clear hb
  try simp only [Act.put, la, lz, ls]
  refine wpList_one rfl (w' := V2) (v := .tuple #[.int .i64 u, .bool true]) rfl ?_
  try simp only [Act.put, la, lz, ls]
  refine wpList_one rfl (w' := V2) (v := .int .i64 u) rfl ?_
  try simp only [Act.put, la, lz, ls]
  refine wpList_one rfl (w' := V2) (v := .bool true) rfl ?_
  try simp only [Act.put, la, lz, ls]
  refine wpList_one rfl (w' := V2) (v := .pointer (some ⟨g3, 33, none⟩)) (by kernel_rfl) ?_
  try simp only [Act.put, la, lz, ls]
  refine wpList_store_cell rfl 3 (.tmp 22) (.tmp 20) rfl g3 33 rfl (.int .i64 u) rfl (HXg3.out.cell (j := 33) (by omega)) (HXg3.out.frozen 33) sz_int rfl ?_
  have hn := HXg3.out.set (j := 33) (by omega) (u)
  have hb := (Svg.set g3 33 V2 (.int .i64 (u))).bel HB.out (by have := HG.out; have := HG1.out; omega)
  have hg6 := ((Svg.set g3 33 V2 (.int .i64 (u))).block g6 (lt_of_heap HXg6.out) (by have := HG.out; have := HG1.out; omega)).trans HXg6.out
  generalize V2.setCell ⟨g3, 33, none⟩ (.int .i64 (u)) = V3 at hn hb hg6  ⊢
  clear HB HXg3 HXg6
  have HB : Hid (Bel w V3) := Lib.hid hb
  have HXg6 : Hid (HAt V3 g6 (fun _ => 0)) := Lib.hid hg6
  have HXg3 : Hid (HAt V3 g3 (up h 33 (u))) := Lib.hid hn
  clear hn hb hg6
  try simp only [Act.put, la, lz, ls]
  refine wpList_nil ?_
  refine hK _ _ ?_
  clear hK K
  go_upto_region 15 with (fail)
  rename_i K hK
  refine wp_region_list ?_
  refine wpList_load_row rfl 28 (.tmp 3) rfl g3 rfl 28 (hC (up h 33 (u))) (0, 0) _ HXg3.out Tryd.underlying28 rfl (sz_hart _) ?_
  try simp only [Act.put, la, lz, ls]
  refine wpList_store_row rfl 28 (.tmp 6) (.tmp 43) rfl g6 (hC (up h 33 (u))) rfl rfl 28 (hC (fun _ => 0)) HXg6.out (sz_hart _) (by rw [hC_size, hC_size]) (hC_ones _) ?_
  have hn := row_same (cs := (hC (up h 33 (u)))) HXg6.out
  have hb := row_bel HB.out (g := g6) (by have := HG.out; have := HG1.out; omega) (hC (up h 33 (u)))
  have hg3 := (setRow_other V3 g6 g3 (hC (up h 33 (u))) (by have := HG.out; have := HG1.out; omega)).trans HXg3.out
  generalize V3.setRow g6 (hC (up h 33 (u))) = V4 at hn hb hg3 ⊢
  clear HB HXg3 HXg6
  have HB : Hid (Bel w V4) := Lib.hid hb
  have HXg3 : Hid (HAt V4 g3 (up h 33 (u))) := Lib.hid hg3
  have HXg6 : Hid (HAt V4 g6 (up h 33 (u))) := Lib.hid hn
  clear hn hb hg3
  try simp only [Act.put, la, lz, ls]
  refine wpList_nil ?_
  refine hK _ _ (wp_ret ?_)
  exact bodyPost_ret (results_cell_row Tryd.results72 _ _ g6 _ _ _ _ (by rfl) HXg6.out Tryd.underlying28 rfl (sz_hart _)) (by rfl) ⟨rfl, HB.out⟩
theorem rset_773 {h h' : H} {z u v : Int} (hu : Plain.two 6 z 136 = u) (hvv : Plain.two 6 z (-4) = v) (e : up h 34 v = h') (w : World) : Calls Tryd.prog 72 #[hv h, .int .i64 773, .int .i64 z] w (OneV (hv h') w) := by
  subst e
  have HU := Lib.hid hu
  have HV := Lib.hid hvv
  clear hu hvv
  have hz := zero_hart
  go_enter Tryd.func72, Tryd.ntmps72
  go_upto_region 1 with (fail)
  obtain ⟨W0, hW, hb, hx3, hx6⟩ := boxes2 w (hC h) hZ 28 28
  first | rw [← hW] | (show Code.wp _ _ _ _ ((w.alloc (.cells (hC h) 28)).alloc (.cells hZ 28)); rw [← hW])
  clear hz hW
  have hlt : w.heap.size < W0.heap.size := lt_of_heap hx3
  generalize hg : w.heap.size = g3 at hx3 hx6 hlt ⊢
  have HG := Lib.hid hg
  clear hg
  generalize hg : g3 + 1 = g6 at hx6 ⊢
  have HG1 := Lib.hid hg
  clear hg
  have HXg3 : Hid (HAt W0 g3 h) := Lib.hid hx3
  have HXg6 : Hid (HAt W0 g6 (fun _ => 0)) := Lib.hid hx6
  have HB : Hid (Bel w W0) := Lib.hid hb
  clear hb hlt hx3 hx6
  rename_i K hK
  refine wp_region_list ?_
  refine wpList_one rfl (w' := W0) (v := .int .i64 z) rfl ?_
  try simp only [Act.put, la, lz, ls]
  refine wpList_call rfl (f := 42) (args := #[.int .i64 6, .int .i64 z, .int .i64 (-4)]) (v := .tuple #[.int .i64 v, .bool true]) (by kernel_rfl) (rtl HV.out (by rfl) _) ?_
  intro V1 hb
  replace HB : Hid (Bel w V1) := Lib.hid (HB.out.trans hb)
  replace HXg3 : Hid (HAt V1 g3 h) := Lib.hid (HXg3.out.bel hb)
  replace HXg6 : Hid (HAt V1 g6 (fun _ => 0)) := Lib.hid (HXg6.out.bel hb)
  clear hb
  try simp only [Act.put, la, lz, ls]
  refine wpList_one rfl (w' := V1) (v := .tuple #[.int .i64 v, .bool true]) rfl ?_
  try simp only [Act.put, la, lz, ls]
  refine wpList_one rfl (w' := V1) (v := .int .i64 v) rfl ?_
  try simp only [Act.put, la, lz, ls]
  refine wpList_one rfl (w' := V1) (v := .bool true) rfl ?_
  try simp only [Act.put, la, lz, ls]
  refine wpList_one rfl (w' := V1) (v := .int .i64 v) rfl ?_
  try simp only [Act.put, la, lz, ls]
  refine wpList_one rfl (w' := V1) (v := .bool true) rfl ?_
  try simp only [Act.put, la, lz, ls]
  refine wpList_nil ?_
  refine hK _ _ ?_
  clear hK K
  go_upto_region 6 with (fail)
  rename_i K hK
  refine wp_region_list ?_
  refine wpList_one rfl (w' := V1) (v := .int .i64 v) rfl ?_
  try simp only [Act.put, la, lz, ls]
  refine wpList_one rfl (w' := V1) (v := .pointer (some ⟨g3, 34, none⟩)) (by kernel_rfl) ?_
  try simp only [Act.put, la, lz, ls]
  refine wpList_store_cell rfl 3 (.tmp 26) (.tmp 25) rfl g3 34 rfl (.int .i64 v) rfl (HXg3.out.cell (j := 34) (by omega)) (HXg3.out.frozen 34) sz_int rfl ?_
  have hn := HXg3.out.set (j := 34) (by omega) (v)
  have hb := (Svg.set g3 34 V1 (.int .i64 (v))).bel HB.out (by have := HG.out; have := HG1.out; omega)
  have hg6 := ((Svg.set g3 34 V1 (.int .i64 (v))).block g6 (lt_of_heap HXg6.out) (by have := HG.out; have := HG1.out; omega)).trans HXg6.out
  generalize V1.setCell ⟨g3, 34, none⟩ (.int .i64 (v)) = V2 at hn hb hg6  ⊢
  clear HB HXg3 HXg6
  have HB : Hid (Bel w V2) := Lib.hid hb
  have HXg6 : Hid (HAt V2 g6 (fun _ => 0)) := Lib.hid hg6
  have HXg3 : Hid (HAt V2 g3 (up h 34 (v))) := Lib.hid hn
  clear hn hb hg6
  try simp only [Act.put, la, lz, ls]
  refine wpList_nil ?_
  refine hK _ _ ?_
  clear hK K
  go_upto_region 15 with (fail)
  rename_i K hK
  refine wp_region_list ?_
  refine wpList_load_row rfl 28 (.tmp 3) rfl g3 rfl 28 (hC (up h 34 (v))) (0, 0) _ HXg3.out Tryd.underlying28 rfl (sz_hart _) ?_
  try simp only [Act.put, la, lz, ls]
  refine wpList_store_row rfl 28 (.tmp 6) (.tmp 43) rfl g6 (hC (up h 34 (v))) rfl rfl 28 (hC (fun _ => 0)) HXg6.out (sz_hart _) (by rw [hC_size, hC_size]) (hC_ones _) ?_
  have hn := row_same (cs := (hC (up h 34 (v)))) HXg6.out
  have hb := row_bel HB.out (g := g6) (by have := HG.out; have := HG1.out; omega) (hC (up h 34 (v)))
  have hg3 := (setRow_other V2 g6 g3 (hC (up h 34 (v))) (by have := HG.out; have := HG1.out; omega)).trans HXg3.out
  generalize V2.setRow g6 (hC (up h 34 (v))) = V3 at hn hb hg3 ⊢
  clear HB HXg3 HXg6
  have HB : Hid (Bel w V3) := Lib.hid hb
  have HXg3 : Hid (HAt V3 g3 (up h 34 (v))) := Lib.hid hg3
  have HXg6 : Hid (HAt V3 g6 (up h 34 (v))) := Lib.hid hn
  clear hn hb hg3
  try simp only [Act.put, la, lz, ls]
  refine wpList_nil ?_
  refine hK _ _ (wp_ret ?_)
  exact bodyPost_ret (results_cell_row Tryd.results72 _ _ g6 _ _ _ _ (by rfl) HXg6.out Tryd.underlying28 rfl (sz_hart _)) (by rfl) ⟨rfl, HB.out⟩
theorem rset_832 {h h' : H} {z u v : Int} (hu : Plain.two 6 z 136 = u) (hvv : Plain.two 6 z (-4) = v) (e : up h 35 z = h') (w : World) : Calls Tryd.prog 72 #[hv h, .int .i64 832, .int .i64 z] w (OneV (hv h') w) := by
  subst e
  have HU := Lib.hid hu
  have HV := Lib.hid hvv
  clear hu hvv
  have hz := zero_hart
  go_enter Tryd.func72, Tryd.ntmps72
  go_upto_region 1 with (fail)
  obtain ⟨W0, hW, hb, hx3, hx6⟩ := boxes2 w (hC h) hZ 28 28
  first | rw [← hW] | (show Code.wp _ _ _ _ ((w.alloc (.cells (hC h) 28)).alloc (.cells hZ 28)); rw [← hW])
  clear hz hW
  have hlt : w.heap.size < W0.heap.size := lt_of_heap hx3
  generalize hg : w.heap.size = g3 at hx3 hx6 hlt ⊢
  have HG := Lib.hid hg
  clear hg
  generalize hg : g3 + 1 = g6 at hx6 ⊢
  have HG1 := Lib.hid hg
  clear hg
  have HXg3 : Hid (HAt W0 g3 h) := Lib.hid hx3
  have HXg6 : Hid (HAt W0 g6 (fun _ => 0)) := Lib.hid hx6
  have HB : Hid (Bel w W0) := Lib.hid hb
  clear hb hlt hx3 hx6
  rename_i K hK
  refine wp_region_list ?_
  refine wpList_one rfl (w' := W0) (v := .int .i64 z) rfl ?_
  try simp only [Act.put, la, lz, ls]
  refine wpList_call rfl (f := 42) (args := #[.int .i64 6, .int .i64 z, .int .i64 (-4)]) (v := .tuple #[.int .i64 v, .bool true]) (by kernel_rfl) (rtl HV.out (by rfl) _) ?_
  intro V1 hb
  replace HB : Hid (Bel w V1) := Lib.hid (HB.out.trans hb)
  replace HXg3 : Hid (HAt V1 g3 h) := Lib.hid (HXg3.out.bel hb)
  replace HXg6 : Hid (HAt V1 g6 (fun _ => 0)) := Lib.hid (HXg6.out.bel hb)
  clear hb
  try simp only [Act.put, la, lz, ls]
  refine wpList_one rfl (w' := V1) (v := .tuple #[.int .i64 v, .bool true]) rfl ?_
  try simp only [Act.put, la, lz, ls]
  refine wpList_one rfl (w' := V1) (v := .int .i64 v) rfl ?_
  try simp only [Act.put, la, lz, ls]
  refine wpList_one rfl (w' := V1) (v := .bool true) rfl ?_
  try simp only [Act.put, la, lz, ls]
  refine wpList_one rfl (w' := V1) (v := .int .i64 v) rfl ?_
  try simp only [Act.put, la, lz, ls]
  refine wpList_one rfl (w' := V1) (v := .bool true) rfl ?_
  try simp only [Act.put, la, lz, ls]
  refine wpList_nil ?_
  refine hK _ _ ?_
  clear hK K
  go_upto_region 8 with (fail)
  rename_i K hK
  refine wp_region_list ?_
  refine wpList_one rfl (w' := V1) (v := .int .i64 z) rfl ?_
  try simp only [Act.put, la, lz, ls]
  refine wpList_one rfl (w' := V1) (v := .pointer (some ⟨g3, 35, none⟩)) (by kernel_rfl) ?_
  try simp only [Act.put, la, lz, ls]
  refine wpList_store_cell rfl 3 (.tmp 30) (.tmp 29) rfl g3 35 rfl (.int .i64 z) rfl (HXg3.out.cell (j := 35) (by omega)) (HXg3.out.frozen 35) sz_int rfl ?_
  have hn := HXg3.out.set (j := 35) (by omega) (z)
  have hb := (Svg.set g3 35 V1 (.int .i64 (z))).bel HB.out (by have := HG.out; have := HG1.out; omega)
  have hg6 := ((Svg.set g3 35 V1 (.int .i64 (z))).block g6 (lt_of_heap HXg6.out) (by have := HG.out; have := HG1.out; omega)).trans HXg6.out
  generalize V1.setCell ⟨g3, 35, none⟩ (.int .i64 (z)) = V2 at hn hb hg6  ⊢
  clear HB HXg3 HXg6
  have HB : Hid (Bel w V2) := Lib.hid hb
  have HXg6 : Hid (HAt V2 g6 (fun _ => 0)) := Lib.hid hg6
  have HXg3 : Hid (HAt V2 g3 (up h 35 (z))) := Lib.hid hn
  clear hn hb hg6
  try simp only [Act.put, la, lz, ls]
  refine wpList_nil ?_
  refine hK _ _ ?_
  clear hK K
  go_upto_region 15 with (fail)
  rename_i K hK
  refine wp_region_list ?_
  refine wpList_load_row rfl 28 (.tmp 3) rfl g3 rfl 28 (hC (up h 35 (z))) (0, 0) _ HXg3.out Tryd.underlying28 rfl (sz_hart _) ?_
  try simp only [Act.put, la, lz, ls]
  refine wpList_store_row rfl 28 (.tmp 6) (.tmp 43) rfl g6 (hC (up h 35 (z))) rfl rfl 28 (hC (fun _ => 0)) HXg6.out (sz_hart _) (by rw [hC_size, hC_size]) (hC_ones _) ?_
  have hn := row_same (cs := (hC (up h 35 (z)))) HXg6.out
  have hb := row_bel HB.out (g := g6) (by have := HG.out; have := HG1.out; omega) (hC (up h 35 (z)))
  have hg3 := (setRow_other V2 g6 g3 (hC (up h 35 (z))) (by have := HG.out; have := HG1.out; omega)).trans HXg3.out
  generalize V2.setRow g6 (hC (up h 35 (z))) = V3 at hn hb hg3 ⊢
  clear HB HXg3 HXg6
  have HB : Hid (Bel w V3) := Lib.hid hb
  have HXg3 : Hid (HAt V3 g3 (up h 35 (z))) := Lib.hid hg3
  have HXg6 : Hid (HAt V3 g6 (up h 35 (z))) := Lib.hid hn
  clear hn hb hg3
  try simp only [Act.put, la, lz, ls]
  refine wpList_nil ?_
  refine hK _ _ (wp_ret ?_)
  exact bodyPost_ret (results_cell_row Tryd.results72 _ _ g6 _ _ _ _ (by rfl) HXg6.out Tryd.underlying28 rfl (sz_hart _)) (by rfl) ⟨rfl, HB.out⟩
theorem rset_833 {h h' : H} {z u v : Int} (hu : Plain.two 6 z 136 = u) (hvv : Plain.two 6 z (-4) = v) (e : up h 36 v = h') (w : World) : Calls Tryd.prog 72 #[hv h, .int .i64 833, .int .i64 z] w (OneV (hv h') w) := by
  subst e
  have HU := Lib.hid hu
  have HV := Lib.hid hvv
  clear hu hvv
  have hz := zero_hart
  go_enter Tryd.func72, Tryd.ntmps72
  go_upto_region 1 with (fail)
  obtain ⟨W0, hW, hb, hx3, hx6⟩ := boxes2 w (hC h) hZ 28 28
  first | rw [← hW] | (show Code.wp _ _ _ _ ((w.alloc (.cells (hC h) 28)).alloc (.cells hZ 28)); rw [← hW])
  clear hz hW
  have hlt : w.heap.size < W0.heap.size := lt_of_heap hx3
  generalize hg : w.heap.size = g3 at hx3 hx6 hlt ⊢
  have HG := Lib.hid hg
  clear hg
  generalize hg : g3 + 1 = g6 at hx6 ⊢
  have HG1 := Lib.hid hg
  clear hg
  have HXg3 : Hid (HAt W0 g3 h) := Lib.hid hx3
  have HXg6 : Hid (HAt W0 g6 (fun _ => 0)) := Lib.hid hx6
  have HB : Hid (Bel w W0) := Lib.hid hb
  clear hb hlt hx3 hx6
  rename_i K hK
  refine wp_region_list ?_
  refine wpList_one rfl (w' := W0) (v := .int .i64 z) rfl ?_
  try simp only [Act.put, la, lz, ls]
  refine wpList_call rfl (f := 42) (args := #[.int .i64 6, .int .i64 z, .int .i64 (-4)]) (v := .tuple #[.int .i64 v, .bool true]) (by kernel_rfl) (rtl HV.out (by rfl) _) ?_
  intro V1 hb
  replace HB : Hid (Bel w V1) := Lib.hid (HB.out.trans hb)
  replace HXg3 : Hid (HAt V1 g3 h) := Lib.hid (HXg3.out.bel hb)
  replace HXg6 : Hid (HAt V1 g6 (fun _ => 0)) := Lib.hid (HXg6.out.bel hb)
  clear hb
  try simp only [Act.put, la, lz, ls]
  refine wpList_one rfl (w' := V1) (v := .tuple #[.int .i64 v, .bool true]) rfl ?_
  try simp only [Act.put, la, lz, ls]
  refine wpList_one rfl (w' := V1) (v := .int .i64 v) rfl ?_
  try simp only [Act.put, la, lz, ls]
  refine wpList_one rfl (w' := V1) (v := .bool true) rfl ?_
  try simp only [Act.put, la, lz, ls]
  refine wpList_one rfl (w' := V1) (v := .int .i64 v) rfl ?_
  try simp only [Act.put, la, lz, ls]
  refine wpList_one rfl (w' := V1) (v := .bool true) rfl ?_
  try simp only [Act.put, la, lz, ls]
  refine wpList_nil ?_
  refine hK _ _ ?_
  clear hK K
  go_upto_region 10 with (fail)
  rename_i K hK
  refine wp_region_list ?_
  refine wpList_one rfl (w' := V1) (v := .int .i64 v) rfl ?_
  try simp only [Act.put, la, lz, ls]
  refine wpList_one rfl (w' := V1) (v := .pointer (some ⟨g3, 36, none⟩)) (by kernel_rfl) ?_
  try simp only [Act.put, la, lz, ls]
  refine wpList_store_cell rfl 3 (.tmp 34) (.tmp 33) rfl g3 36 rfl (.int .i64 v) rfl (HXg3.out.cell (j := 36) (by omega)) (HXg3.out.frozen 36) sz_int rfl ?_
  have hn := HXg3.out.set (j := 36) (by omega) (v)
  have hb := (Svg.set g3 36 V1 (.int .i64 (v))).bel HB.out (by have := HG.out; have := HG1.out; omega)
  have hg6 := ((Svg.set g3 36 V1 (.int .i64 (v))).block g6 (lt_of_heap HXg6.out) (by have := HG.out; have := HG1.out; omega)).trans HXg6.out
  generalize V1.setCell ⟨g3, 36, none⟩ (.int .i64 (v)) = V2 at hn hb hg6  ⊢
  clear HB HXg3 HXg6
  have HB : Hid (Bel w V2) := Lib.hid hb
  have HXg6 : Hid (HAt V2 g6 (fun _ => 0)) := Lib.hid hg6
  have HXg3 : Hid (HAt V2 g3 (up h 36 (v))) := Lib.hid hn
  clear hn hb hg6
  try simp only [Act.put, la, lz, ls]
  refine wpList_nil ?_
  refine hK _ _ ?_
  clear hK K
  go_upto_region 15 with (fail)
  rename_i K hK
  refine wp_region_list ?_
  refine wpList_load_row rfl 28 (.tmp 3) rfl g3 rfl 28 (hC (up h 36 (v))) (0, 0) _ HXg3.out Tryd.underlying28 rfl (sz_hart _) ?_
  try simp only [Act.put, la, lz, ls]
  refine wpList_store_row rfl 28 (.tmp 6) (.tmp 43) rfl g6 (hC (up h 36 (v))) rfl rfl 28 (hC (fun _ => 0)) HXg6.out (sz_hart _) (by rw [hC_size, hC_size]) (hC_ones _) ?_
  have hn := row_same (cs := (hC (up h 36 (v)))) HXg6.out
  have hb := row_bel HB.out (g := g6) (by have := HG.out; have := HG1.out; omega) (hC (up h 36 (v)))
  have hg3 := (setRow_other V2 g6 g3 (hC (up h 36 (v))) (by have := HG.out; have := HG1.out; omega)).trans HXg3.out
  generalize V2.setRow g6 (hC (up h 36 (v))) = V3 at hn hb hg3 ⊢
  clear HB HXg3 HXg6
  have HB : Hid (Bel w V3) := Lib.hid hb
  have HXg3 : Hid (HAt V3 g3 (up h 36 (v))) := Lib.hid hg3
  have HXg6 : Hid (HAt V3 g6 (up h 36 (v))) := Lib.hid hn
  clear hn hb hg3
  try simp only [Act.put, la, lz, ls]
  refine wpList_nil ?_
  refine hK _ _ (wp_ret ?_)
  exact bodyPost_ret (results_cell_row Tryd.results72 _ _ g6 _ _ _ _ (by rfl) HXg6.out Tryd.underlying28 rfl (sz_hart _)) (by rfl) ⟨rfl, HB.out⟩
theorem rset_834 {h h' : H} {z u v : Int} (hu : Plain.two 6 z 136 = u) (hvv : Plain.two 6 z (-4) = v) (e : up h 37 z = h') (w : World) : Calls Tryd.prog 72 #[hv h, .int .i64 834, .int .i64 z] w (OneV (hv h') w) := by
  subst e
  have HU := Lib.hid hu
  have HV := Lib.hid hvv
  clear hu hvv
  have hz := zero_hart
  go_enter Tryd.func72, Tryd.ntmps72
  go_upto_region 1 with (fail)
  obtain ⟨W0, hW, hb, hx3, hx6⟩ := boxes2 w (hC h) hZ 28 28
  first | rw [← hW] | (show Code.wp _ _ _ _ ((w.alloc (.cells (hC h) 28)).alloc (.cells hZ 28)); rw [← hW])
  clear hz hW
  have hlt : w.heap.size < W0.heap.size := lt_of_heap hx3
  generalize hg : w.heap.size = g3 at hx3 hx6 hlt ⊢
  have HG := Lib.hid hg
  clear hg
  generalize hg : g3 + 1 = g6 at hx6 ⊢
  have HG1 := Lib.hid hg
  clear hg
  have HXg3 : Hid (HAt W0 g3 h) := Lib.hid hx3
  have HXg6 : Hid (HAt W0 g6 (fun _ => 0)) := Lib.hid hx6
  have HB : Hid (Bel w W0) := Lib.hid hb
  clear hb hlt hx3 hx6
  rename_i K hK
  refine wp_region_list ?_
  refine wpList_one rfl (w' := W0) (v := .int .i64 z) rfl ?_
  try simp only [Act.put, la, lz, ls]
  refine wpList_call rfl (f := 42) (args := #[.int .i64 6, .int .i64 z, .int .i64 (-4)]) (v := .tuple #[.int .i64 v, .bool true]) (by kernel_rfl) (rtl HV.out (by rfl) _) ?_
  intro V1 hb
  replace HB : Hid (Bel w V1) := Lib.hid (HB.out.trans hb)
  replace HXg3 : Hid (HAt V1 g3 h) := Lib.hid (HXg3.out.bel hb)
  replace HXg6 : Hid (HAt V1 g6 (fun _ => 0)) := Lib.hid (HXg6.out.bel hb)
  clear hb
  try simp only [Act.put, la, lz, ls]
  refine wpList_one rfl (w' := V1) (v := .tuple #[.int .i64 v, .bool true]) rfl ?_
  try simp only [Act.put, la, lz, ls]
  refine wpList_one rfl (w' := V1) (v := .int .i64 v) rfl ?_
  try simp only [Act.put, la, lz, ls]
  refine wpList_one rfl (w' := V1) (v := .bool true) rfl ?_
  try simp only [Act.put, la, lz, ls]
  refine wpList_one rfl (w' := V1) (v := .int .i64 v) rfl ?_
  try simp only [Act.put, la, lz, ls]
  refine wpList_one rfl (w' := V1) (v := .bool true) rfl ?_
  try simp only [Act.put, la, lz, ls]
  refine wpList_nil ?_
  refine hK _ _ ?_
  clear hK K
  go_upto_region 12 with (fail)
  rename_i K hK
  refine wp_region_list ?_
  refine wpList_one rfl (w' := V1) (v := .int .i64 z) rfl ?_
  try simp only [Act.put, la, lz, ls]
  refine wpList_one rfl (w' := V1) (v := .pointer (some ⟨g3, 37, none⟩)) (by kernel_rfl) ?_
  try simp only [Act.put, la, lz, ls]
  refine wpList_store_cell rfl 3 (.tmp 38) (.tmp 37) rfl g3 37 rfl (.int .i64 z) rfl (HXg3.out.cell (j := 37) (by omega)) (HXg3.out.frozen 37) sz_int rfl ?_
  have hn := HXg3.out.set (j := 37) (by omega) (z)
  have hb := (Svg.set g3 37 V1 (.int .i64 (z))).bel HB.out (by have := HG.out; have := HG1.out; omega)
  have hg6 := ((Svg.set g3 37 V1 (.int .i64 (z))).block g6 (lt_of_heap HXg6.out) (by have := HG.out; have := HG1.out; omega)).trans HXg6.out
  generalize V1.setCell ⟨g3, 37, none⟩ (.int .i64 (z)) = V2 at hn hb hg6  ⊢
  clear HB HXg3 HXg6
  have HB : Hid (Bel w V2) := Lib.hid hb
  have HXg6 : Hid (HAt V2 g6 (fun _ => 0)) := Lib.hid hg6
  have HXg3 : Hid (HAt V2 g3 (up h 37 (z))) := Lib.hid hn
  clear hn hb hg6
  try simp only [Act.put, la, lz, ls]
  refine wpList_nil ?_
  refine hK _ _ ?_
  clear hK K
  go_upto_region 15 with (fail)
  rename_i K hK
  refine wp_region_list ?_
  refine wpList_load_row rfl 28 (.tmp 3) rfl g3 rfl 28 (hC (up h 37 (z))) (0, 0) _ HXg3.out Tryd.underlying28 rfl (sz_hart _) ?_
  try simp only [Act.put, la, lz, ls]
  refine wpList_store_row rfl 28 (.tmp 6) (.tmp 43) rfl g6 (hC (up h 37 (z))) rfl rfl 28 (hC (fun _ => 0)) HXg6.out (sz_hart _) (by rw [hC_size, hC_size]) (hC_ones _) ?_
  have hn := row_same (cs := (hC (up h 37 (z)))) HXg6.out
  have hb := row_bel HB.out (g := g6) (by have := HG.out; have := HG1.out; omega) (hC (up h 37 (z)))
  have hg3 := (setRow_other V2 g6 g3 (hC (up h 37 (z))) (by have := HG.out; have := HG1.out; omega)).trans HXg3.out
  generalize V2.setRow g6 (hC (up h 37 (z))) = V3 at hn hb hg3 ⊢
  clear HB HXg3 HXg6
  have HB : Hid (Bel w V3) := Lib.hid hb
  have HXg3 : Hid (HAt V3 g3 (up h 37 (z))) := Lib.hid hg3
  have HXg6 : Hid (HAt V3 g6 (up h 37 (z))) := Lib.hid hn
  clear hn hb hg3
  try simp only [Act.put, la, lz, ls]
  refine wpList_nil ?_
  refine hK _ _ (wp_ret ?_)
  exact bodyPost_ret (results_cell_row Tryd.results72 _ _ g6 _ _ _ _ (by rfl) HXg6.out Tryd.underlying28 rfl (sz_hart _)) (by rfl) ⟨rfl, HB.out⟩
theorem rset_1984 {h h' : H} {z u v : Int} (hu : Plain.two 6 z 136 = u) (hvv : Plain.two 6 z (-4) = v) (e : up h 38 z = h') (w : World) : Calls Tryd.prog 72 #[hv h, .int .i64 1984, .int .i64 z] w (OneV (hv h') w) := by
  subst e
  have HU := Lib.hid hu
  have HV := Lib.hid hvv
  clear hu hvv
  have hz := zero_hart
  go_enter Tryd.func72, Tryd.ntmps72
  go_upto_region 1 with (fail)
  obtain ⟨W0, hW, hb, hx3, hx6⟩ := boxes2 w (hC h) hZ 28 28
  first | rw [← hW] | (show Code.wp _ _ _ _ ((w.alloc (.cells (hC h) 28)).alloc (.cells hZ 28)); rw [← hW])
  clear hz hW
  have hlt : w.heap.size < W0.heap.size := lt_of_heap hx3
  generalize hg : w.heap.size = g3 at hx3 hx6 hlt ⊢
  have HG := Lib.hid hg
  clear hg
  generalize hg : g3 + 1 = g6 at hx6 ⊢
  have HG1 := Lib.hid hg
  clear hg
  have HXg3 : Hid (HAt W0 g3 h) := Lib.hid hx3
  have HXg6 : Hid (HAt W0 g6 (fun _ => 0)) := Lib.hid hx6
  have HB : Hid (Bel w W0) := Lib.hid hb
  clear hb hlt hx3 hx6
  rename_i K hK
  refine wp_region_list ?_
  refine wpList_one rfl (w' := W0) (v := .int .i64 z) rfl ?_
  try simp only [Act.put, la, lz, ls]
  refine wpList_call rfl (f := 42) (args := #[.int .i64 6, .int .i64 z, .int .i64 (-4)]) (v := .tuple #[.int .i64 v, .bool true]) (by kernel_rfl) (rtl HV.out (by rfl) _) ?_
  intro V1 hb
  replace HB : Hid (Bel w V1) := Lib.hid (HB.out.trans hb)
  replace HXg3 : Hid (HAt V1 g3 h) := Lib.hid (HXg3.out.bel hb)
  replace HXg6 : Hid (HAt V1 g6 (fun _ => 0)) := Lib.hid (HXg6.out.bel hb)
  clear hb
  try simp only [Act.put, la, lz, ls]
  refine wpList_one rfl (w' := V1) (v := .tuple #[.int .i64 v, .bool true]) rfl ?_
  try simp only [Act.put, la, lz, ls]
  refine wpList_one rfl (w' := V1) (v := .int .i64 v) rfl ?_
  try simp only [Act.put, la, lz, ls]
  refine wpList_one rfl (w' := V1) (v := .bool true) rfl ?_
  try simp only [Act.put, la, lz, ls]
  refine wpList_one rfl (w' := V1) (v := .int .i64 v) rfl ?_
  try simp only [Act.put, la, lz, ls]
  refine wpList_one rfl (w' := V1) (v := .bool true) rfl ?_
  try simp only [Act.put, la, lz, ls]
  refine wpList_nil ?_
  refine hK _ _ ?_
  clear hK K
  go_upto_region 14 with (fail)
  rename_i K hK
  refine wp_region_list ?_
  refine wpList_one rfl (w' := V1) (v := .int .i64 z) rfl ?_
  try simp only [Act.put, la, lz, ls]
  refine wpList_one rfl (w' := V1) (v := .pointer (some ⟨g3, 38, none⟩)) (by kernel_rfl) ?_
  try simp only [Act.put, la, lz, ls]
  refine wpList_store_cell rfl 3 (.tmp 42) (.tmp 41) rfl g3 38 rfl (.int .i64 z) rfl (HXg3.out.cell (j := 38) (by omega)) (HXg3.out.frozen 38) sz_int rfl ?_
  have hn := HXg3.out.set (j := 38) (by omega) (z)
  have hb := (Svg.set g3 38 V1 (.int .i64 (z))).bel HB.out (by have := HG.out; have := HG1.out; omega)
  have hg6 := ((Svg.set g3 38 V1 (.int .i64 (z))).block g6 (lt_of_heap HXg6.out) (by have := HG.out; have := HG1.out; omega)).trans HXg6.out
  generalize V1.setCell ⟨g3, 38, none⟩ (.int .i64 (z)) = V2 at hn hb hg6  ⊢
  clear HB HXg3 HXg6
  have HB : Hid (Bel w V2) := Lib.hid hb
  have HXg6 : Hid (HAt V2 g6 (fun _ => 0)) := Lib.hid hg6
  have HXg3 : Hid (HAt V2 g3 (up h 38 (z))) := Lib.hid hn
  clear hn hb hg6
  try simp only [Act.put, la, lz, ls]
  refine wpList_nil ?_
  refine hK _ _ ?_
  clear hK K
  go_upto_region 15 with (fail)
  rename_i K hK
  refine wp_region_list ?_
  refine wpList_load_row rfl 28 (.tmp 3) rfl g3 rfl 28 (hC (up h 38 (z))) (0, 0) _ HXg3.out Tryd.underlying28 rfl (sz_hart _) ?_
  try simp only [Act.put, la, lz, ls]
  refine wpList_store_row rfl 28 (.tmp 6) (.tmp 43) rfl g6 (hC (up h 38 (z))) rfl rfl 28 (hC (fun _ => 0)) HXg6.out (sz_hart _) (by rw [hC_size, hC_size]) (hC_ones _) ?_
  have hn := row_same (cs := (hC (up h 38 (z)))) HXg6.out
  have hb := row_bel HB.out (g := g6) (by have := HG.out; have := HG1.out; omega) (hC (up h 38 (z)))
  have hg3 := (setRow_other V2 g6 g3 (hC (up h 38 (z))) (by have := HG.out; have := HG1.out; omega)).trans HXg3.out
  generalize V2.setRow g6 (hC (up h 38 (z))) = V3 at hn hb hg3 ⊢
  clear HB HXg3 HXg6
  have HB : Hid (Bel w V3) := Lib.hid hb
  have HXg3 : Hid (HAt V3 g3 (up h 38 (z))) := Lib.hid hg3
  have HXg6 : Hid (HAt V3 g6 (up h 38 (z))) := Lib.hid hn
  clear hn hb hg3
  try simp only [Act.put, la, lz, ls]
  refine wpList_nil ?_
  refine hK _ _ (wp_ret ?_)
  exact bodyPost_ret (results_cell_row Tryd.results72 _ _ g6 _ _ _ _ (by rfl) HXg6.out Tryd.underlying28 rfl (sz_hart _)) (by rfl) ⟨rfl, HB.out⟩
theorem rset_3860 {h : H} {z v : Int} (hvv : Plain.two 6 z (-4) = v) (w : World) : Calls Tryd.prog 72 #[hv h, .int .i64 3860, .int .i64 z] w (OneV (hv h) w) := by
  have HV := Lib.hid hvv
  clear hvv
  have hz := zero_hart
  go_enter Tryd.func72, Tryd.ntmps72
  go_upto_region 1 with (fail)
  obtain ⟨W0, hW, hb, hx3, hx6⟩ := boxes2 w (hC h) hZ 28 28
  first | rw [← hW] | (show Code.wp _ _ _ _ ((w.alloc (.cells (hC h) 28)).alloc (.cells hZ 28)); rw [← hW])
  clear hz hW
  have hlt : w.heap.size < W0.heap.size := lt_of_heap hx3
  generalize hg : w.heap.size = g3 at hx3 hx6 hlt ⊢
  have HG := Lib.hid hg
  clear hg
  generalize hg : g3 + 1 = g6 at hx6 ⊢
  have HG1 := Lib.hid hg
  clear hg
  have HXg3 : Hid (HAt W0 g3 h) := Lib.hid hx3
  have HXg6 : Hid (HAt W0 g6 (fun _ => 0)) := Lib.hid hx6
  have HB : Hid (Bel w W0) := Lib.hid hb
  clear hb hlt hx3 hx6
  rename_i K hK
  refine wp_region_list ?_
  refine wpList_one rfl (w' := W0) (v := .int .i64 z) rfl ?_
  try simp only [Act.put, la, lz, ls]
  refine wpList_call rfl (f := 42) (args := #[.int .i64 6, .int .i64 z, .int .i64 (-4)]) (v := .tuple #[.int .i64 v, .bool true]) (by kernel_rfl) (rtl HV.out (by rfl) _) ?_
  intro V1 hb
  replace HB : Hid (Bel w V1) := Lib.hid (HB.out.trans hb)
  replace HXg3 : Hid (HAt V1 g3 h) := Lib.hid (HXg3.out.bel hb)
  replace HXg6 : Hid (HAt V1 g6 (fun _ => 0)) := Lib.hid (HXg6.out.bel hb)
  clear hb
  try simp only [Act.put, la, lz, ls]
  refine wpList_one rfl (w' := V1) (v := .tuple #[.int .i64 v, .bool true]) rfl ?_
  try simp only [Act.put, la, lz, ls]
  refine wpList_one rfl (w' := V1) (v := .int .i64 v) rfl ?_
  try simp only [Act.put, la, lz, ls]
  refine wpList_one rfl (w' := V1) (v := .bool true) rfl ?_
  try simp only [Act.put, la, lz, ls]
  refine wpList_one rfl (w' := V1) (v := .int .i64 v) rfl ?_
  try simp only [Act.put, la, lz, ls]
  refine wpList_one rfl (w' := V1) (v := .bool true) rfl ?_
  try simp only [Act.put, la, lz, ls]
  refine wpList_nil ?_
  refine hK _ _ ?_
  clear hK K
  go_upto_region 15 with (fail)
  rename_i K hK
  refine wp_region_list ?_
  refine wpList_load_row rfl 28 (.tmp 3) rfl g3 rfl 28 (hC h) (0, 0) _ HXg3.out Tryd.underlying28 rfl (sz_hart _) ?_
  try simp only [Act.put, la, lz, ls]
  refine wpList_store_row rfl 28 (.tmp 6) (.tmp 43) rfl g6 (hC h) rfl rfl 28 (hC (fun _ => 0)) HXg6.out (sz_hart _) (by rw [hC_size, hC_size]) (hC_ones _) ?_
  have hn := row_same (cs := (hC h)) HXg6.out
  have hb := row_bel HB.out (g := g6) (by have := HG.out; have := HG1.out; omega) (hC h)
  have hg3 := (setRow_other V1 g6 g3 (hC h) (by have := HG.out; have := HG1.out; omega)).trans HXg3.out
  generalize V1.setRow g6 (hC h) = V2 at hn hb hg3 ⊢
  clear HB HXg3 HXg6
  have HB : Hid (Bel w V2) := Lib.hid hb
  have HXg3 : Hid (HAt V2 g3 h) := Lib.hid hg3
  have HXg6 : Hid (HAt V2 g6 h) := Lib.hid hn
  clear hn hb hg3
  try simp only [Act.put, la, lz, ls]
  refine wpList_nil ?_
  refine hK _ _ (wp_ret ?_)
  exact bodyPost_ret (results_cell_row Tryd.results72 _ _ g6 _ _ _ _ (by rfl) HXg6.out Tryd.underlying28 rfl (sz_hart _)) (by rfl) ⟨rfl, HB.out⟩
end Go.Proofs.YtgcgdjmlngfpeaaDoor
end
section
namespace Go.Proofs.YtgcgdjmlngfpeaaDoor
open Go.RowKit Ht
set_option linter.unusedVariables false
set_option linter.unusedSimpArgs false
theorem uns_true {a b r : Int} (hr : (if b % 4294967296 = 0 then a else a % 4294967296 % (b % 4294967296)) = r) (w : World) : Calls Tryd.prog 74 #[.int .i64 a, .int .i64 b, .bool true] w (OneV (.int .i64 r) w) := by
  obtain ⟨x, hx⟩ : ∃ x, a % 4294967296 = x := ⟨_, rfl⟩
  obtain ⟨y, hy⟩ : ∃ y, b % 4294967296 = y := ⟨_, rfl⟩
  have bx : 0 ≤ x ∧ x < 4294967296 := by omega
  have bby : 0 ≤ y ∧ y < 4294967296 := by omega
  rw [hx, hy] at hr
  have HX := Lib.hid hx
  have HY := Lib.hid hy
  clear hx hy
  by_cases c : y = 0
  · subst c
    rw [if_pos rfl] at hr
    subst hr
    go_enter Tryd.func74, Tryd.ntmps74
    go_wp2_with fail
    refine (rword_lit HX.out _).mono ?_
    rintro e W ⟨rfl, rfl⟩
    go_wp2_with fail
    refine (rword_lit HY.out _).mono ?_
    rintro e W ⟨rfl, rfl⟩
    go_wp2
    first | (go_ret; exact ⟨rfl, Bel.refl _⟩) | exact bodyPost_ret (results_tmp rfl _ _) rfl ⟨rfl, Bel.refl _⟩
  · rw [if_neg c] at hr
    have HR := Lib.hid hr
    clear hr
    have c2 : (y == 0) = false := by simpa using c
    have hyp : 0 < y := by omega
    have bx1 := bx.1
    have by1 := bby.1
    go_enter Tryd.func74, Tryd.ntmps74
    go_wp2_with fail
    refine (rword_lit HX.out _).mono ?_
    rintro e W ⟨rfl, rfl⟩
    go_wp2_with fail
    refine (rword_lit HY.out _).mono ?_
    rintro e W ⟨rfl, rfl⟩
    go_wp2
    try rw [HR.out]
    first | (go_ret; exact ⟨rfl, Bel.refl _⟩) | (go_ret; exact ⟨rI HR.out, Bel.refl _⟩)
theorem uns_false {a b r : Int} (hr : (if b % 4294967296 = 0 then -1 else a % 4294967296 / (b % 4294967296)) = r) (w : World) : Calls Tryd.prog 74 #[.int .i64 a, .int .i64 b, .bool false] w (OneV (.int .i64 r) w) := by
  obtain ⟨x, hx⟩ : ∃ x, a % 4294967296 = x := ⟨_, rfl⟩
  obtain ⟨y, hy⟩ : ∃ y, b % 4294967296 = y := ⟨_, rfl⟩
  have bx : 0 ≤ x ∧ x < 4294967296 := by omega
  have bby : 0 ≤ y ∧ y < 4294967296 := by omega
  rw [hx, hy] at hr
  have HX := Lib.hid hx
  have HY := Lib.hid hy
  clear hx hy
  by_cases c : y = 0
  · subst c
    rw [if_pos rfl] at hr
    subst hr
    go_enter Tryd.func74, Tryd.ntmps74
    go_wp2_with fail
    refine (rword_lit HX.out _).mono ?_
    rintro e W ⟨rfl, rfl⟩
    go_wp2_with fail
    refine (rword_lit HY.out _).mono ?_
    rintro e W ⟨rfl, rfl⟩
    go_wp2
    first | (go_ret; exact ⟨rfl, Bel.refl _⟩) | exact bodyPost_ret (results_tmp rfl _ _) rfl ⟨rfl, Bel.refl _⟩
  · rw [if_neg c] at hr
    have HR := Lib.hid hr
    clear hr
    have c2 : (y == 0) = false := by simpa using c
    have hyp : 0 < y := by omega
    have bx1 := bx.1
    have by1 := bby.1
    go_enter Tryd.func74, Tryd.ntmps74
    go_wp2_with fail
    refine (rword_lit HX.out _).mono ?_
    rintro e W ⟨rfl, rfl⟩
    go_wp2_with fail
    refine (rword_lit HY.out _).mono ?_
    rintro e W ⟨rfl, rfl⟩
    go_wp2
    try rw [HR.out]
    first | (go_ret; exact ⟨rfl, Bel.refl _⟩) | (go_ret; exact ⟨rI HR.out, Bel.refl _⟩)
theorem goes_5 {a b : Int} {r : Bool} (hr : decide (a = b) = r) (w : World) : Calls Tryd.prog 43 #[.int .i64 5, .int .i64 a, .int .i64 b] w (OneV (.bool r) w) := by
  obtain ⟨x, hx⟩ : ∃ x, a % 4294967296 = x := ⟨_, rfl⟩
  obtain ⟨y, hy⟩ : ∃ y, b % 4294967296 = y := ⟨_, rfl⟩
  try rw [hx, hy] at hr
  have HX := Lib.hid hx
  have HY := Lib.hid hy
  have HR := Lib.hid hr
  clear hx hy hr
  go_enter Tryd.func43, Tryd.ntmps43
  go_wp2_with fail
  refine (rword_lit HX.out _).mono ?_
  rintro e W ⟨rfl, rfl⟩
  go_wp2_with fail
  refine (rword_lit HY.out _).mono ?_
  rintro e W ⟨rfl, rfl⟩
  go_wp2
  go_ret
  refine ⟨rB ?_, Bel.refl _⟩
  first | exact HR.out | (rw [← HR.out]; done) | (rw [← HR.out]; first | rfl | (simp; done) | (simp [bne, BEq.beq]; done) | (by_cases c : a = b <;> simp [c]))
theorem goes_6 {a b : Int} {r : Bool} (hr : decide (a ≠ b) = r) (w : World) : Calls Tryd.prog 43 #[.int .i64 6, .int .i64 a, .int .i64 b] w (OneV (.bool r) w) := by
  obtain ⟨x, hx⟩ : ∃ x, a % 4294967296 = x := ⟨_, rfl⟩
  obtain ⟨y, hy⟩ : ∃ y, b % 4294967296 = y := ⟨_, rfl⟩
  try rw [hx, hy] at hr
  have HX := Lib.hid hx
  have HY := Lib.hid hy
  have HR := Lib.hid hr
  clear hx hy hr
  go_enter Tryd.func43, Tryd.ntmps43
  go_wp2_with fail
  refine (rword_lit HX.out _).mono ?_
  rintro e W ⟨rfl, rfl⟩
  go_wp2_with fail
  refine (rword_lit HY.out _).mono ?_
  rintro e W ⟨rfl, rfl⟩
  go_wp2
  go_ret
  refine ⟨rB ?_, Bel.refl _⟩
  first | exact HR.out | (rw [← HR.out]; done) | (rw [← HR.out]; first | rfl | (simp; done) | (simp [bne, BEq.beq]; done) | (by_cases c : a = b <;> simp [c]))
theorem goes_7 {a b : Int} {r : Bool} (hr : decide (a < b) = r) (w : World) : Calls Tryd.prog 43 #[.int .i64 7, .int .i64 a, .int .i64 b] w (OneV (.bool r) w) := by
  obtain ⟨x, hx⟩ : ∃ x, a % 4294967296 = x := ⟨_, rfl⟩
  obtain ⟨y, hy⟩ : ∃ y, b % 4294967296 = y := ⟨_, rfl⟩
  try rw [hx, hy] at hr
  have HX := Lib.hid hx
  have HY := Lib.hid hy
  have HR := Lib.hid hr
  clear hx hy hr
  go_enter Tryd.func43, Tryd.ntmps43
  go_wp2_with fail
  refine (rword_lit HX.out _).mono ?_
  rintro e W ⟨rfl, rfl⟩
  go_wp2_with fail
  refine (rword_lit HY.out _).mono ?_
  rintro e W ⟨rfl, rfl⟩
  go_wp2
  go_ret
  refine ⟨rB ?_, Bel.refl _⟩
  first | exact HR.out | (rw [← HR.out]; done) | (rw [← HR.out]; first | rfl | (simp; done) | (simp [bne, BEq.beq]; done) | (by_cases c : a = b <;> simp [c]))
theorem goes_8 {a b : Int} {r : Bool} (hr : decide (b ≤ a) = r) (w : World) : Calls Tryd.prog 43 #[.int .i64 8, .int .i64 a, .int .i64 b] w (OneV (.bool r) w) := by
  obtain ⟨x, hx⟩ : ∃ x, a % 4294967296 = x := ⟨_, rfl⟩
  obtain ⟨y, hy⟩ : ∃ y, b % 4294967296 = y := ⟨_, rfl⟩
  try rw [hx, hy] at hr
  have HX := Lib.hid hx
  have HY := Lib.hid hy
  have HR := Lib.hid hr
  clear hx hy hr
  go_enter Tryd.func43, Tryd.ntmps43
  go_wp2_with fail
  refine (rword_lit HX.out _).mono ?_
  rintro e W ⟨rfl, rfl⟩
  go_wp2_with fail
  refine (rword_lit HY.out _).mono ?_
  rintro e W ⟨rfl, rfl⟩
  go_wp2
  go_ret
  refine ⟨rB ?_, Bel.refl _⟩
  first | exact HR.out | (rw [← HR.out]; done) | (rw [← HR.out]; first | rfl | (simp; done) | (simp [bne, BEq.beq]; done) | (by_cases c : a = b <;> simp [c]))
theorem goes_9 {a b : Int} {r : Bool} (hr : decide (a % 4294967296 < b % 4294967296) = r) (w : World) : Calls Tryd.prog 43 #[.int .i64 9, .int .i64 a, .int .i64 b] w (OneV (.bool r) w) := by
  obtain ⟨x, hx⟩ : ∃ x, a % 4294967296 = x := ⟨_, rfl⟩
  obtain ⟨y, hy⟩ : ∃ y, b % 4294967296 = y := ⟨_, rfl⟩
  try rw [hx, hy] at hr
  have HX := Lib.hid hx
  have HY := Lib.hid hy
  have HR := Lib.hid hr
  clear hx hy hr
  go_enter Tryd.func43, Tryd.ntmps43
  go_wp2_with fail
  refine (rword_lit HX.out _).mono ?_
  rintro e W ⟨rfl, rfl⟩
  go_wp2_with fail
  refine (rword_lit HY.out _).mono ?_
  rintro e W ⟨rfl, rfl⟩
  go_wp2
  go_ret
  refine ⟨rB ?_, Bel.refl _⟩
  first | exact HR.out | (rw [← HR.out]; done) | (rw [← HR.out]; first | rfl | (simp; done) | (simp [bne, BEq.beq]; done) | (by_cases c : a = b <;> simp [c]))
theorem goes_10 {a b : Int} {r : Bool} (hr : decide (b % 4294967296 ≤ a % 4294967296) = r) (w : World) : Calls Tryd.prog 43 #[.int .i64 10, .int .i64 a, .int .i64 b] w (OneV (.bool r) w) := by
  obtain ⟨x, hx⟩ : ∃ x, a % 4294967296 = x := ⟨_, rfl⟩
  obtain ⟨y, hy⟩ : ∃ y, b % 4294967296 = y := ⟨_, rfl⟩
  try rw [hx, hy] at hr
  have HX := Lib.hid hx
  have HY := Lib.hid hy
  have HR := Lib.hid hr
  clear hx hy hr
  go_enter Tryd.func43, Tryd.ntmps43
  go_wp2_with fail
  refine (rword_lit HX.out _).mono ?_
  rintro e W ⟨rfl, rfl⟩
  go_wp2_with fail
  refine (rword_lit HY.out _).mono ?_
  rintro e W ⟨rfl, rfl⟩
  go_wp2
  go_ret
  refine ⟨rB ?_, Bel.refl _⟩
  first | exact HR.out | (rw [← HR.out]; done) | (rw [← HR.out]; first | rfl | (simp; done) | (simp [bne, BEq.beq]; done) | (by_cases c : a = b <;> simp [c]))
end Go.Proofs.YtgcgdjmlngfpeaaDoor
end
section
namespace Go.Proofs.YtgcgdjmlngfpeaaDoor
open Go.RowKit Ht
set_option linter.unusedVariables false
set_option linter.unusedSimpArgs false
set_option maxHeartbeats 2000000
theorem rtwo_13 {a b r : Int} (hr : Plain.two 1 a b = r) (w : World) : Calls Tryd.prog 46 #[.int .i64 13, .int .i64 a, .int .i64 b] w fun e w' => e = .returned (.tuple #[.int .i64 r, .bool true]) ∧ Bel w w' := by
  have HR := Lib.hid hr
  clear hr
  go_enter Tryd.func46, Tryd.ntmps46
  go_wp2_with fail
  refine (rtwo_val (q := true) HR.out (by rfl) _).mono ?_
  rintro e W ⟨rfl, rfl⟩
  go_wp2
  exact bodyPost_ret (results_tmp2 Tryd.results46 _ _ _) (by rfl) ⟨rfl, Bel.refl _⟩
theorem rtwo_22 {a b r : Int} (hr : Plain.two 1 a b = r) (w : World) : Calls Tryd.prog 46 #[.int .i64 22, .int .i64 a, .int .i64 b] w fun e w' => e = .returned (.tuple #[.int .i64 r, .bool true]) ∧ Bel w w' := by
  have HR := Lib.hid hr
  clear hr
  go_enter Tryd.func46, Tryd.ntmps46
  go_wp2_with fail
  refine (rtwo_val (q := true) HR.out (by rfl) _).mono ?_
  rintro e W ⟨rfl, rfl⟩
  go_wp2
  exact bodyPost_ret (results_tmp2 Tryd.results46 _ _ _) (by rfl) ⟨rfl, Bel.refl _⟩
theorem rtwo_23 {a b r : Int} (hr : Plain.two 2 a b = r) (w : World) : Calls Tryd.prog 46 #[.int .i64 23, .int .i64 a, .int .i64 b] w fun e w' => e = .returned (.tuple #[.int .i64 r, .bool true]) ∧ Bel w w' := by
  have HR := Lib.hid hr
  clear hr
  go_enter Tryd.func46, Tryd.ntmps46
  go_wp2_with fail
  refine (rtwo_val (q := true) HR.out (by rfl) _).mono ?_
  rintro e W ⟨rfl, rfl⟩
  go_wp2
  exact bodyPost_ret (results_tmp2 Tryd.results46 _ _ _) (by rfl) ⟨rfl, Bel.refl _⟩
theorem rtwo_16 {a b r : Int} (hr : Plain.two 8 a b = r) (w : World) : Calls Tryd.prog 46 #[.int .i64 16, .int .i64 a, .int .i64 b] w fun e w' => e = .returned (.tuple #[.int .i64 r, .bool true]) ∧ Bel w w' := by
  have HR := Lib.hid hr
  clear hr
  go_enter Tryd.func46, Tryd.ntmps46
  go_wp2_with fail
  refine (rtwo_val (q := true) HR.out (by rfl) _).mono ?_
  rintro e W ⟨rfl, rfl⟩
  go_wp2
  exact bodyPost_ret (results_tmp2 Tryd.results46 _ _ _) (by rfl) ⟨rfl, Bel.refl _⟩
theorem rtwo_27 {a b r : Int} (hr : Plain.two 8 a b = r) (w : World) : Calls Tryd.prog 46 #[.int .i64 27, .int .i64 a, .int .i64 b] w fun e w' => e = .returned (.tuple #[.int .i64 r, .bool true]) ∧ Bel w w' := by
  have HR := Lib.hid hr
  clear hr
  go_enter Tryd.func46, Tryd.ntmps46
  go_wp2_with fail
  refine (rtwo_val (q := true) HR.out (by rfl) _).mono ?_
  rintro e W ⟨rfl, rfl⟩
  go_wp2
  exact bodyPost_ret (results_tmp2 Tryd.results46 _ _ _) (by rfl) ⟨rfl, Bel.refl _⟩
theorem rtwo_17 {a b r : Int} (hr : Plain.two 7 a b = r) (w : World) : Calls Tryd.prog 46 #[.int .i64 17, .int .i64 a, .int .i64 b] w fun e w' => e = .returned (.tuple #[.int .i64 r, .bool true]) ∧ Bel w w' := by
  have HR := Lib.hid hr
  clear hr
  go_enter Tryd.func46, Tryd.ntmps46
  go_wp2_with fail
  refine (rtwo_val (q := true) HR.out (by rfl) _).mono ?_
  rintro e W ⟨rfl, rfl⟩
  go_wp2
  exact bodyPost_ret (results_tmp2 Tryd.results46 _ _ _) (by rfl) ⟨rfl, Bel.refl _⟩
theorem rtwo_30 {a b r : Int} (hr : Plain.two 7 a b = r) (w : World) : Calls Tryd.prog 46 #[.int .i64 30, .int .i64 a, .int .i64 b] w fun e w' => e = .returned (.tuple #[.int .i64 r, .bool true]) ∧ Bel w w' := by
  have HR := Lib.hid hr
  clear hr
  go_enter Tryd.func46, Tryd.ntmps46
  go_wp2_with fail
  refine (rtwo_val (q := true) HR.out (by rfl) _).mono ?_
  rintro e W ⟨rfl, rfl⟩
  go_wp2
  exact bodyPost_ret (results_tmp2 Tryd.results46 _ _ _) (by rfl) ⟨rfl, Bel.refl _⟩
theorem rtwo_18 {a b r : Int} (hr : Plain.two 6 a b = r) (w : World) : Calls Tryd.prog 46 #[.int .i64 18, .int .i64 a, .int .i64 b] w fun e w' => e = .returned (.tuple #[.int .i64 r, .bool true]) ∧ Bel w w' := by
  have HR := Lib.hid hr
  clear hr
  go_enter Tryd.func46, Tryd.ntmps46
  go_wp2_with fail
  refine (rtwo_val (q := true) HR.out (by rfl) _).mono ?_
  rintro e W ⟨rfl, rfl⟩
  go_wp2
  exact bodyPost_ret (results_tmp2 Tryd.results46 _ _ _) (by rfl) ⟨rfl, Bel.refl _⟩
theorem rtwo_31 {a b r : Int} (hr : Plain.two 6 a b = r) (w : World) : Calls Tryd.prog 46 #[.int .i64 31, .int .i64 a, .int .i64 b] w fun e w' => e = .returned (.tuple #[.int .i64 r, .bool true]) ∧ Bel w w' := by
  have HR := Lib.hid hr
  clear hr
  go_enter Tryd.func46, Tryd.ntmps46
  go_wp2_with fail
  refine (rtwo_val (q := true) HR.out (by rfl) _).mono ?_
  rintro e W ⟨rfl, rfl⟩
  go_wp2
  exact bodyPost_ret (results_tmp2 Tryd.results46 _ _ _) (by rfl) ⟨rfl, Bel.refl _⟩
theorem rtwo_19 {a b r : Int} (hr : Plain.two 9 a b = r) (w : World) : Calls Tryd.prog 46 #[.int .i64 19, .int .i64 a, .int .i64 b] w fun e w' => e = .returned (.tuple #[.int .i64 r, .bool true]) ∧ Bel w w' := by
  have HR := Lib.hid hr
  clear hr
  go_enter Tryd.func46, Tryd.ntmps46
  go_wp2_with fail
  refine (rtwo_val (q := true) HR.out (by rfl) _).mono ?_
  rintro e W ⟨rfl, rfl⟩
  go_wp2
  exact bodyPost_ret (results_tmp2 Tryd.results46 _ _ _) (by rfl) ⟨rfl, Bel.refl _⟩
theorem rtwo_24 {a b r : Int} (hr : Plain.two 9 a b = r) (w : World) : Calls Tryd.prog 46 #[.int .i64 24, .int .i64 a, .int .i64 b] w fun e w' => e = .returned (.tuple #[.int .i64 r, .bool true]) ∧ Bel w w' := by
  have HR := Lib.hid hr
  clear hr
  go_enter Tryd.func46, Tryd.ntmps46
  go_wp2_with fail
  refine (rtwo_val (q := true) HR.out (by rfl) _).mono ?_
  rintro e W ⟨rfl, rfl⟩
  go_wp2
  exact bodyPost_ret (results_tmp2 Tryd.results46 _ _ _) (by rfl) ⟨rfl, Bel.refl _⟩
theorem rtwo_21 {a b r : Int} (hr : Plain.two 10 a b = r) (w : World) : Calls Tryd.prog 46 #[.int .i64 21, .int .i64 a, .int .i64 b] w fun e w' => e = .returned (.tuple #[.int .i64 r, .bool true]) ∧ Bel w w' := by
  have HR := Lib.hid hr
  clear hr
  go_enter Tryd.func46, Tryd.ntmps46
  go_wp2_with fail
  refine (rtwo_val (q := true) HR.out (by rfl) _).mono ?_
  rintro e W ⟨rfl, rfl⟩
  go_wp2
  exact bodyPost_ret (results_tmp2 Tryd.results46 _ _ _) (by rfl) ⟨rfl, Bel.refl _⟩
theorem rtwo_29 {a b r : Int} (hr : Plain.two 10 a b = r) (w : World) : Calls Tryd.prog 46 #[.int .i64 29, .int .i64 a, .int .i64 b] w fun e w' => e = .returned (.tuple #[.int .i64 r, .bool true]) ∧ Bel w w' := by
  have HR := Lib.hid hr
  clear hr
  go_enter Tryd.func46, Tryd.ntmps46
  go_wp2_with fail
  refine (rtwo_val (q := true) HR.out (by rfl) _).mono ?_
  rintro e W ⟨rfl, rfl⟩
  go_wp2
  exact bodyPost_ret (results_tmp2 Tryd.results46 _ _ _) (by rfl) ⟨rfl, Bel.refl _⟩
theorem rtwo_14 {a b r : Int} (hr : Plain.two 11 a b = r) (w : World) : Calls Tryd.prog 46 #[.int .i64 14, .int .i64 a, .int .i64 b] w fun e w' => e = .returned (.tuple #[.int .i64 r, .bool true]) ∧ Bel w w' := by
  have HR := Lib.hid hr
  clear hr
  go_enter Tryd.func46, Tryd.ntmps46
  go_wp2_with fail
  refine (rtwo_val (q := true) HR.out (by rfl) _).mono ?_
  rintro e W ⟨rfl, rfl⟩
  go_wp2
  exact bodyPost_ret (results_tmp2 Tryd.results46 _ _ _) (by rfl) ⟨rfl, Bel.refl _⟩
theorem rtwo_25 {a b r : Int} (hr : Plain.two 11 a b = r) (w : World) : Calls Tryd.prog 46 #[.int .i64 25, .int .i64 a, .int .i64 b] w fun e w' => e = .returned (.tuple #[.int .i64 r, .bool true]) ∧ Bel w w' := by
  have HR := Lib.hid hr
  clear hr
  go_enter Tryd.func46, Tryd.ntmps46
  go_wp2_with fail
  refine (rtwo_val (q := true) HR.out (by rfl) _).mono ?_
  rintro e W ⟨rfl, rfl⟩
  go_wp2
  exact bodyPost_ret (results_tmp2 Tryd.results46 _ _ _) (by rfl) ⟨rfl, Bel.refl _⟩
theorem rtwo_15 {a b r : Int} (hr : Plain.two 12 a b = r) (w : World) : Calls Tryd.prog 46 #[.int .i64 15, .int .i64 a, .int .i64 b] w fun e w' => e = .returned (.tuple #[.int .i64 r, .bool true]) ∧ Bel w w' := by
  have HR := Lib.hid hr
  clear hr
  go_enter Tryd.func46, Tryd.ntmps46
  go_wp2_with fail
  refine (rtwo_val (q := true) HR.out (by rfl) _).mono ?_
  rintro e W ⟨rfl, rfl⟩
  go_wp2
  exact bodyPost_ret (results_tmp2 Tryd.results46 _ _ _) (by rfl) ⟨rfl, Bel.refl _⟩
theorem rtwo_26 {a b r : Int} (hr : Plain.two 12 a b = r) (w : World) : Calls Tryd.prog 46 #[.int .i64 26, .int .i64 a, .int .i64 b] w fun e w' => e = .returned (.tuple #[.int .i64 r, .bool true]) ∧ Bel w w' := by
  have HR := Lib.hid hr
  clear hr
  go_enter Tryd.func46, Tryd.ntmps46
  go_wp2_with fail
  refine (rtwo_val (q := true) HR.out (by rfl) _).mono ?_
  rintro e W ⟨rfl, rfl⟩
  go_wp2
  exact bodyPost_ret (results_tmp2 Tryd.results46 _ _ _) (by rfl) ⟨rfl, Bel.refl _⟩
theorem rtwo_32 {a b r : Int} (hr : Plain.two 3 a b = r) (w : World) : Calls Tryd.prog 46 #[.int .i64 32, .int .i64 a, .int .i64 b] w fun e w' => e = .returned (.tuple #[.int .i64 r, .bool true]) ∧ Bel w w' := by
  have HR := Lib.hid hr
  clear hr
  go_enter Tryd.func46, Tryd.ntmps46
  go_wp2_with fail
  refine (rtwo_val (q := true) HR.out (by rfl) _).mono ?_
  rintro e W ⟨rfl, rfl⟩
  go_wp2
  exact bodyPost_ret (results_tmp2 Tryd.results46 _ _ _) (by rfl) ⟨rfl, Bel.refl _⟩
theorem rtwo_35 {a b r : Int} (hr : Plain.two 4 a b = r) (w : World) : Calls Tryd.prog 46 #[.int .i64 35, .int .i64 a, .int .i64 b] w fun e w' => e = .returned (.tuple #[.int .i64 r, .bool true]) ∧ Bel w w' := by
  have HR := Lib.hid hr
  clear hr
  go_enter Tryd.func46, Tryd.ntmps46
  go_wp2_with fail
  refine (rtwo_val (q := true) HR.out (by rfl) _).mono ?_
  rintro e W ⟨rfl, rfl⟩
  go_wp2
  exact bodyPost_ret (results_tmp2 Tryd.results46 _ _ _) (by rfl) ⟨rfl, Bel.refl _⟩
theorem rtwo_37 {a b r : Int} (hr : Plain.two 5 a b = r) (w : World) : Calls Tryd.prog 46 #[.int .i64 37, .int .i64 a, .int .i64 b] w fun e w' => e = .returned (.tuple #[.int .i64 r, .bool true]) ∧ Bel w w' := by
  have HR := Lib.hid hr
  clear hr
  go_enter Tryd.func46, Tryd.ntmps46
  go_wp2_with fail
  refine (rtwo_val (q := true) HR.out (by rfl) _).mono ?_
  rintro e W ⟨rfl, rfl⟩
  go_wp2
  exact bodyPost_ret (results_tmp2 Tryd.results46 _ _ _) (by rfl) ⟨rfl, Bel.refl _⟩
theorem rtwo_33 {a b r : Int} (hr : Plain.high a b true = r) (w : World) : Calls Tryd.prog 46 #[.int .i64 33, .int .i64 a, .int .i64 b] w fun e w' => e = .returned (.tuple #[.int .i64 r, .bool true]) ∧ Bel w w' := by
  have HR := Lib.hid hr
  clear hr
  go_enter Tryd.func46, Tryd.ntmps46
  go_wp2_with fail
  refine (rhigh_lit HR.out _).mono ?_
  rintro e W ⟨rfl, rfl⟩
  go_wp2
  exact bodyPost_ret (results_tmp2 Tryd.results46 _ _ _) (by rfl) ⟨rfl, Bel.refl _⟩
theorem rtwo_34 {a b r : Int} (hr : Plain.high a b false = r) (w : World) : Calls Tryd.prog 46 #[.int .i64 34, .int .i64 a, .int .i64 b] w fun e w' => e = .returned (.tuple #[.int .i64 r, .bool true]) ∧ Bel w w' := by
  have HR := Lib.hid hr
  clear hr
  go_enter Tryd.func46, Tryd.ntmps46
  go_wp2_with fail
  refine (rhigh_lit HR.out _).mono ?_
  rintro e W ⟨rfl, rfl⟩
  go_wp2
  exact bodyPost_ret (results_tmp2 Tryd.results46 _ _ _) (by rfl) ⟨rfl, Bel.refl _⟩
theorem rtwo_36 {a b r : Int} (hr : (if b % 4294967296 = 0 then -1 else a % 4294967296 / (b % 4294967296)) = r) (w : World) : Calls Tryd.prog 46 #[.int .i64 36, .int .i64 a, .int .i64 b] w fun e w' => e = .returned (.tuple #[.int .i64 r, .bool true]) ∧ Bel w w' := by
  have HR := Lib.hid hr
  clear hr
  go_enter Tryd.func46, Tryd.ntmps46
  go_wp2_with fail
  refine (uns_false HR.out _).mono ?_
  rintro e W ⟨rfl, hb⟩
  go_wp2
  exact bodyPost_ret (results_tmp2 Tryd.results46 _ _ _) (by rfl) ⟨rfl, hb⟩
theorem rtwo_38 {a b r : Int} (hr : (if b % 4294967296 = 0 then a else a % 4294967296 % (b % 4294967296)) = r) (w : World) : Calls Tryd.prog 46 #[.int .i64 38, .int .i64 a, .int .i64 b] w fun e w' => e = .returned (.tuple #[.int .i64 r, .bool true]) ∧ Bel w w' := by
  have HR := Lib.hid hr
  clear hr
  go_enter Tryd.func46, Tryd.ntmps46
  go_wp2_with fail
  refine (uns_true HR.out _).mono ?_
  rintro e W ⟨rfl, hb⟩
  go_wp2
  exact bodyPost_ret (results_tmp2 Tryd.results46 _ _ _) (by rfl) ⟨rfl, hb⟩
end Go.Proofs.YtgcgdjmlngfpeaaDoor
end
