/- Package hart: place, bad, goBy, Put, divided, Lets. -/
import Derived.Test.YtgcgdjmlngfpeaaDoorHBase
namespace Go.Proofs.YtgcgdjmlngfpeaaDoor
open Go.RowKit Ht
set_option linter.unusedVariables false
set_option linter.unusedSimpArgs false
set_option maxRecDepth 100000
theorem results_cells2 {P : Program} {fn : Func} {p q : Tmp} {ty ty2 : TypeId} (h : fn.results = #[.cell p ty, .cell q ty2]) (tmps : Array Value) (w : World) (g g2 : Nat) (t t2 : TypeId) (cs cs2 : Array Value) (fr fr2 : Nat × Nat) (d d2 : TypeDesc)
    (hp : tmps.getD p undef = .pointer (some ⟨g, 0, none⟩)) (hq : tmps.getD q undef = .pointer (some ⟨g2, 0, none⟩)) (hg : w.heap[g]? = some (.cells cs t fr)) (hg2 : w.heap[g2]? = some (.cells cs2 t2 fr2))
    (hu : P.underlying ty = some d) (hd : (match d with | .struct _ | .array _ _ => true | _ => false) = true) (hi : (P.info? ty).map (·.size) = some cs.size)
    (hu2 : P.underlying ty2 = some d2) (hd2 : (match d2 with | .struct _ | .array _ _ => true | _ => false) = true) (hi2 : (P.info? ty2).map (·.size) = some cs2.size) :
    (results fn tmps).run P w = .ok (.tuple #[.agg cs, .agg cs2]) w := by
  have hp' : tmps[p]?.getD undef = .pointer (some ⟨g, 0, none⟩) := by simpa using hp
  have hq' : tmps[q]?.getD undef = .pointer (some ⟨g2, 0, none⟩) := by simpa using hq
  simp [results, h, hp', hq', asAddr, run_loadVar_row w g t ty cs fr d hg hu hd hi, run_loadVar_row w g2 t2 ty2 cs2 fr2 d2 hg2 hu2 hd2 hi2]
theorem place_lit {h : H} {n r : Int} (e : place h n = r) (w : World) : Calls Tryd.prog 59 #[hv h, .int .i64 n] w (OneV (.int .i64 r) w) := by
  subst e
  have hz := zero_hart
  go_enter Tryd.func59, Tryd.ntmps59
  go_upto_region 1 with (fail)
  obtain ⟨W0, hW, hb, hx2⟩ : ∃ W, W = w.alloc (.cells (hC h) 28) ∧ Bel w W ∧ W.heap[w.heap.size]? = some (.cells (hC h) 28 (0, 0)) := ⟨_, rfl, box1 w _ _⟩
  first | rw [← hW] | (show Code.wp _ _ _ _ w.alloc (.cells (hC h) 28); rw [← hW])
  clear hz hW
  have hlt : w.heap.size < W0.heap.size := lt_of_heap hx2
  generalize hg : w.heap.size = g2 at hx2 hlt ⊢
  have HG := Lib.hid hg
  clear hg
  have HXg2 : Hid (HAt W0 g2 h) := Lib.hid hx2
  have HB : Hid (Bel w W0) := Lib.hid hb
  clear hb hlt hx2
  have kg2_32 := (HXg2.out.cell (j := 32) (by omega))
  go_wp2_with fail
  refine (wrap_any _ _).mono ?_
  rintro e W ⟨rfl, rfl⟩
  go_wp2
  go_ret
  exact ⟨rI (by unfold Ht.place; exact Plain.w32_w64 _), HB.out⟩
theorem bad_lit (h : H) (w : World) : Calls Tryd.prog 32 #[hv h] w (OneV (.tuple #[hv h, .agg (eC eBad)]) w) := by
  have hz := zero_hart
  go_enter Tryd.func32, Tryd.ntmps32
  go_upto_region 1 with (fail)
  obtain ⟨W0, hW, hb, hx1, hx2, hx3⟩ := boxes3 w (hC h) hZ (eC e0) 28 28 34
  first | rw [← hW] | (show Code.wp _ _ _ _ (((w.alloc (.cells (hC h) 28)).alloc (.cells hZ 28)).alloc (.cells (eC e0) 34)); rw [← hW])
  clear hz hW
  have hlt : w.heap.size < W0.heap.size := lt_of_heap hx1
  generalize hg : w.heap.size = g1 at hx1 hx2 hx3 hlt ⊢
  have HG := Lib.hid hg
  clear hg
  generalize hg : g1 + 1 = g2 at hx2 hx3 ⊢
  have HG1 := Lib.hid hg
  clear hg
  generalize hg : g2 + 1 = g3 at hx3 ⊢
  have HG2 := Lib.hid hg
  clear hg
  have HXg1 : Hid (HAt W0 g1 h) := Lib.hid hx1
  have HXg2 : Hid (HAt W0 g2 (fun _ => 0)) := Lib.hid hx2
  have HXg3 : Hid (EfAt W0 g3 e0) := Lib.hid hx3
  have HB : Hid (Bel w W0) := Lib.hid hb
  clear hb hlt hx1 hx2 hx3
  go_upto_region 1 with (fail)
  rename_i K hK
  refine wp_region_list ?_
  refine wpList_load_row rfl 28 (.tmp 1) rfl g1 rfl 28 (hC h) (0, 0) _ HXg1.out Tryd.underlying28 rfl (sz_hart _) ?_
  try simp only [Act.put, la, lz, ls]
  refine wpList_one rfl (w' := W0) (v := .agg (eC eBad)) (by kernel_rfl) ?_
  try simp only [Act.put, la, lz, ls]
  refine wpList_store_row rfl 28 (.tmp 2) (.tmp 4) rfl g2 (hC h) rfl rfl 28 (hC (fun _ => 0)) HXg2.out (sz_hart _) (by rw [hC_size, hC_size]) (hC_ones _) ?_
  have hn := row_same (cs := (hC h)) HXg2.out
  have hb := row_bel HB.out (g := g2) (by have := HG.out; have := HG1.out; have := HG2.out; omega) (hC h)
  have hg1 := (setRow_other W0 g2 g1 (hC h) (by have := HG.out; have := HG1.out; have := HG2.out; omega)).trans HXg1.out
  have hg3 := (setRow_other W0 g2 g3 (hC h) (by have := HG.out; have := HG1.out; have := HG2.out; omega)).trans HXg3.out
  generalize W0.setRow g2 (hC h) = V1 at hn hb hg1 hg3 ⊢
  clear HB HXg1 HXg2 HXg3
  have HB : Hid (Bel w V1) := Lib.hid hb
  have HXg1 : Hid (HAt V1 g1 h) := Lib.hid hg1
  have HXg3 : Hid (EfAt V1 g3 e0) := Lib.hid hg3
  have HXg2 : Hid (HAt V1 g2 h) := Lib.hid hn
  clear hn hb hg1 hg3
  try simp only [Act.put, la, lz, ls]
  refine wpList_store_row rfl 34 (.tmp 3) (.tmp 5) rfl g3 (eC eBad) rfl rfl 34 (eC e0) HXg3.out (sz_eff _) rfl (eC_ones _) ?_
  have hn := row_same (cs := (eC eBad)) HXg3.out
  have hb := row_bel HB.out (g := g3) (by have := HG.out; have := HG1.out; have := HG2.out; omega) (eC eBad)
  have hg1 := (setRow_other V1 g3 g1 (eC eBad) (by have := HG.out; have := HG1.out; have := HG2.out; omega)).trans HXg1.out
  have hg2 := (setRow_other V1 g3 g2 (eC eBad) (by have := HG.out; have := HG1.out; have := HG2.out; omega)).trans HXg2.out
  generalize V1.setRow g3 (eC eBad) = V2 at hn hb hg1 hg2 ⊢
  clear HB HXg1 HXg2 HXg3
  have HB : Hid (Bel w V2) := Lib.hid hb
  have HXg1 : Hid (HAt V2 g1 h) := Lib.hid hg1
  have HXg2 : Hid (HAt V2 g2 h) := Lib.hid hg2
  have HXg3 : Hid (EfAt V2 g3 eBad) := Lib.hid hn
  clear hn hb hg1 hg2
  try simp only [Act.put, la, lz, ls]
  refine wpList_nil ?_
  refine hK _ _ (wp_ret ?_)
  exact bodyPost_ret (results_cells2 Tryd.results32 _ _ g2 g3 _ _ _ _ _ _ _ _ (by rfl) (by rfl) HXg2.out HXg3.out Tryd.underlying28 rfl (sz_hart _) Tryd.underlying34 rfl (sz_eff _)) (by rfl) ⟨rfl, HB.out⟩
theorem goBy_lit {h h' : H} {n : Int} (e : Ht.go h n = h') (w : World) : Calls Tryd.prog 38 #[hv h, .int .i64 n] w (OneV (hv h') w) := by
  subst e
  unfold Ht.go
  obtain ⟨p, hp⟩ : ∃ p, place h n = p := ⟨_, rfl⟩
  rw [hp]
  have hz := zero_hart
  go_enter Tryd.func38, Tryd.ntmps38
  go_upto_region 1 with (fail)
  obtain ⟨W0, hW, hb, hx2, hx4⟩ := boxes2 w (hC h) hZ 28 28
  first | rw [← hW] | (show Code.wp _ _ _ _ ((w.alloc (.cells (hC h) 28)).alloc (.cells hZ 28)); rw [← hW])
  clear hz hW
  have hlt : w.heap.size < W0.heap.size := lt_of_heap hx2
  generalize hg : w.heap.size = g2 at hx2 hx4 hlt ⊢
  have HG := Lib.hid hg
  clear hg
  generalize hg : g2 + 1 = g4 at hx4 ⊢
  have HG1 := Lib.hid hg
  clear hg
  have HXg2 : Hid (HAt W0 g2 h) := Lib.hid hx2
  have HXg4 : Hid (HAt W0 g4 (fun _ => 0)) := Lib.hid hx4
  have HB : Hid (Bel w W0) := Lib.hid hb
  clear hb hlt hx2 hx4
  rename_i K hK
  refine wp_region_list ?_
  refine wpList_load_row rfl 28 (.tmp 2) rfl g2 rfl 28 (hC h) (0, 0) _ HXg2.out Tryd.underlying28 rfl (sz_hart _) ?_
  try simp only [Act.put, la, lz, ls]
  refine wpList_one rfl (w' := W0) (v := .int .i64 n) rfl ?_
  try simp only [Act.put, la, lz, ls]
  refine wpList_call rfl (f := 59) (args := #[hv h, .int .i64 n]) (v := .int .i64 p) (by kernel_rfl) (place_lit hp _) ?_
  intro V1 hb
  replace HB : Hid (Bel w V1) := Lib.hid (HB.out.trans hb)
  replace HXg2 : Hid (HAt V1 g2 h) := Lib.hid (HXg2.out.bel hb)
  replace HXg4 : Hid (HAt V1 g4 (fun _ => 0)) := Lib.hid (HXg4.out.bel hb)
  clear hb
  try simp only [Act.put, la, lz, ls]
  refine wpList_one rfl (w' := V1) (v := .pointer (some ⟨g2, 32, none⟩)) (by kernel_rfl) ?_
  try simp only [Act.put, la, lz, ls]
  refine wpList_store_cell rfl 3 (.tmp 8) (.tmp 7) rfl g2 32 rfl (.int .i64 p) rfl (HXg2.out.cell (j := 32) (by omega)) (HXg2.out.frozen 32) sz_int rfl ?_
  have hn := HXg2.out.set (j := 32) (by omega) (p)
  have hb := (Svg.set g2 32 V1 (.int .i64 (p))).bel HB.out (by have := HG.out; have := HG1.out; omega)
  have hg4 := ((Svg.set g2 32 V1 (.int .i64 (p))).block g4 (lt_of_heap HXg4.out) (by have := HG.out; have := HG1.out; omega)).trans HXg4.out
  generalize V1.setCell ⟨g2, 32, none⟩ (.int .i64 (p)) = V2 at hn hb hg4  ⊢
  clear HB HXg2 HXg4
  have HB : Hid (Bel w V2) := Lib.hid hb
  have HXg4 : Hid (HAt V2 g4 (fun _ => 0)) := Lib.hid hg4
  have HXg2 : Hid (HAt V2 g2 (up h 32 (p))) := Lib.hid hn
  clear hn hb hg4
  refine wpList_nil ?_
  refine hK _ _ ?_
  clear hK K
  go_upto_region 2 with (fail)
  rename_i K hK
  refine wp_region_list ?_
  refine wpList_load_row rfl 28 (.tmp 2) rfl g2 rfl 28 (hC (up h 32 (p))) (0, 0) _ HXg2.out Tryd.underlying28 rfl (sz_hart _) ?_
  try simp only [Act.put, la, lz, ls]
  refine wpList_store_row rfl 28 (.tmp 4) (.tmp 9) rfl g4 (hC (up h 32 (p))) rfl rfl 28 (hC (fun _ => 0)) HXg4.out (sz_hart _) (by rw [hC_size, hC_size]) (hC_ones _) ?_
  have hn := row_same (cs := (hC (up h 32 (p)))) HXg4.out
  have hb := row_bel HB.out (g := g4) (by have := HG.out; have := HG1.out; omega) (hC (up h 32 (p)))
  have hg2 := (setRow_other V2 g4 g2 (hC (up h 32 (p))) (by have := HG.out; have := HG1.out; omega)).trans HXg2.out
  generalize V2.setRow g4 (hC (up h 32 (p))) = V3 at hn hb hg2 ⊢
  clear HB HXg2 HXg4
  have HB : Hid (Bel w V3) := Lib.hid hb
  have HXg2 : Hid (HAt V3 g2 (up h 32 (p))) := Lib.hid hg2
  have HXg4 : Hid (HAt V3 g4 (up h 32 (p))) := Lib.hid hn
  clear hn hb hg2
  try simp only [Act.put, la, lz, ls]
  refine wpList_nil ?_
  refine hK _ _ (wp_ret ?_)
  exact bodyPost_ret (results_cell_row Tryd.results38 _ _ g4 _ _ _ _ (by rfl) HXg4.out Tryd.underlying28 rfl (sz_hart _)) (by rfl) ⟨rfl, HB.out⟩
theorem wl {n r : Int} (h : wrap32 n = r) (w : World) : Calls Tryd.prog 27 #[.int .i64 n] w (OneV (.int .i64 r) w) := by
  subst h
  exact (wrap_any n w).mono fun e w' h => ⟨h.1, by rw [← h.2]; exact Bel.refl _⟩
set_option maxHeartbeats 4000000 in
theorem put_in {h : H} {A : Nat} {n : Int} (h1 : 1 ≤ A) (h2 : A < 32) (w : World) : Calls Tryd.prog 18 #[hv h, .int .i64 (A : Int), .int .i64 n] w (OneV (hv (up h A (wrap32 n))) w) := by
  obtain ⟨m, hm⟩ : ∃ m, wrap32 n = m := ⟨_, rfl⟩
  rw [hm]
  have HM := Lib.hid hm
  clear hm
  have l1 : (1 : Int) ≤ A := by omega
  have l2 : (A : Int) < 32 := by omega
  have hz := zero_hart
  go_enter Tryd.func18, Tryd.ntmps18
  go_upto_region 1 with (fail)
  obtain ⟨W0, hW, hb, hx3, hx6⟩ := boxes2 w (hC h) hZ 28 28
  first | rw [← hW] | (show Code.wp _ _ _ _ ((w.alloc (.cells (hC h) 28)).alloc (.cells hZ 28)); rw [← hW])
  clear hz hW
  have hlt : w.heap.size < W0.heap.size := lt_of_heap hx3
  generalize hg : w.heap.size = g3 at hx3 hx6 hlt ⊢
  have HG := Lib.hid hg
  clear hg
  generalize hg : g3 + 1 = g6 at hx6 ⊢
  have HG1 := Lib.hid hg
  clear hg
  have HXg3 : Hid (HAt W0 g3 h) := Lib.hid hx3
  have HXg6 : Hid (HAt W0 g6 (fun _ => 0)) := Lib.hid hx6
  have HB : Hid (Bel w W0) := Lib.hid hb
  clear hb hlt hx3 hx6
  go_upto_region 2 with (fail)
  rename_i K hK
  refine wp_region_list ?_
  refine wpList_one rfl (w' := W0) (v := .int .i64 (A : Int)) rfl ?_
  try simp only [Act.put, la, lz, ls]
  refine wpList_one rfl (w' := W0) (v := .int .i64 n) rfl ?_
  try simp only [Act.put, la, lz, ls]
  refine wpList_call rfl (f := 27) (args := #[.int .i64 n]) (v := .int .i64 m) (by kernel_rfl) (wl HM.out _) ?_
  intro V1 hb
  replace HB : Hid (Bel w V1) := Lib.hid (HB.out.trans hb)
  replace HXg3 : Hid (HAt V1 g3 h) := Lib.hid (HXg3.out.bel hb)
  replace HXg6 : Hid (HAt V1 g6 (fun _ => 0)) := Lib.hid (HXg6.out.bel hb)
  clear hb
  try simp only [Act.put, la, lz, ls]
  refine wpList_one rfl (w' := V1) (v := .pointer (some ⟨g3, 0, none⟩)) (by kernel_rfl) ?_
  try simp only [Act.put, la, lz, ls]
  refine wpList_one rfl (w' := V1) (v := .pointer (some ⟨g3, A, none⟩)) (exec_reg rfl g3 A (by omega) rfl rfl _) ?_
  try simp only [Act.put, la, lz, ls]
  refine wpList_store_cell rfl 3 (.tmp 17) (.tmp 15) rfl g3 A rfl (.int .i64 m) rfl (HXg3.out.cell (j := A) (by omega)) (HXg3.out.frozen A) sz_int rfl ?_
  have hn := HXg3.out.set (j := A) (by omega) (m)
  have hb := (Svg.set g3 A V1 (.int .i64 (m))).bel HB.out (by have := HG.out; have := HG1.out; omega)
  have hg6 := ((Svg.set g3 A V1 (.int .i64 (m))).block g6 (lt_of_heap HXg6.out) (by have := HG.out; have := HG1.out; omega)).trans HXg6.out
  generalize V1.setCell ⟨g3, A, none⟩ (.int .i64 (m)) = V2 at hn hb hg6  ⊢
  clear HB HXg3 HXg6
  have HB : Hid (Bel w V2) := Lib.hid hb
  have HXg6 : Hid (HAt V2 g6 (fun _ => 0)) := Lib.hid hg6
  have HXg3 : Hid (HAt V2 g3 (up h A (m))) := Lib.hid hn
  clear hn hb hg6
  try simp only [Act.put, la, lz, ls]
  refine wpList_nil ?_
  refine hK _ _ ?_
  clear hK K
  go_upto_region 3 with (fail)
  rename_i K hK
  refine wp_region_list ?_
  refine wpList_load_row rfl 28 (.tmp 3) rfl g3 rfl 28 (hC (up h A (m))) (0, 0) _ HXg3.out Tryd.underlying28 rfl (sz_hart _) ?_
  try simp only [Act.put, la, lz, ls]
  refine wpList_store_row rfl 28 (.tmp 6) (.tmp 18) rfl g6 (hC (up h A (m))) rfl rfl 28 (hC (fun _ => 0)) HXg6.out (sz_hart _) (by rw [hC_size, hC_size]) (hC_ones _) ?_
  have hn := row_same (cs := (hC (up h A (m)))) HXg6.out
  have hb := row_bel HB.out (g := g6) (by have := HG.out; have := HG1.out; omega) (hC (up h A (m)))
  have hg3 := (setRow_other V2 g6 g3 (hC (up h A (m))) (by have := HG.out; have := HG1.out; omega)).trans HXg3.out
  generalize V2.setRow g6 (hC (up h A (m))) = V3 at hn hb hg3 ⊢
  clear HB HXg3 HXg6
  have HB : Hid (Bel w V3) := Lib.hid hb
  have HXg3 : Hid (HAt V3 g3 (up h A (m))) := Lib.hid hg3
  have HXg6 : Hid (HAt V3 g6 (up h A (m))) := Lib.hid hn
  clear hn hb hg3
  try simp only [Act.put, la, lz, ls]
  refine wpList_nil ?_
  refine hK _ _ (wp_ret ?_)
  exact bodyPost_ret (results_cell_row Tryd.results18 _ _ g6 _ _ _ _ (by rfl) HXg6.out Tryd.underlying28 rfl (sz_hart _)) (by rfl) ⟨rfl, HB.out⟩
theorem put_lo {h : H} {d n : Int} (hd : d < 1) (w : World) : Calls Tryd.prog 18 #[hv h, .int .i64 d, .int .i64 n] w (OneV (hv h) w) := by
  have hd2 : ¬ (1 : Int) ≤ d := by omega
  have hz := zero_hart
  go_enter Tryd.func18, Tryd.ntmps18
  go_upto_region 1 with (fail)
  obtain ⟨W0, hW, hb, hx3, hx6⟩ := boxes2 w (hC h) hZ 28 28
  first | rw [← hW] | (show Code.wp _ _ _ _ ((w.alloc (.cells (hC h) 28)).alloc (.cells hZ 28)); rw [← hW])
  clear hz hW
  have hlt : w.heap.size < W0.heap.size := lt_of_heap hx3
  generalize hg : w.heap.size = g3 at hx3 hx6 hlt ⊢
  have HG := Lib.hid hg
  clear hg
  generalize hg : g3 + 1 = g6 at hx6 ⊢
  have HG1 := Lib.hid hg
  clear hg
  have HXg3 : Hid (HAt W0 g3 h) := Lib.hid hx3
  have HXg6 : Hid (HAt W0 g6 (fun _ => 0)) := Lib.hid hx6
  have HB : Hid (Bel w W0) := Lib.hid hb
  clear hb hlt hx3 hx6
  go_upto_region 3 with (fail)
  rename_i K hK
  refine wp_region_list ?_
  refine wpList_load_row rfl 28 (.tmp 3) rfl g3 rfl 28 (hC h) (0, 0) _ HXg3.out Tryd.underlying28 rfl (sz_hart _) ?_
  try simp only [Act.put, la, lz, ls]
  refine wpList_store_row rfl 28 (.tmp 6) (.tmp 18) rfl g6 (hC h) rfl rfl 28 (hC (fun _ => 0)) HXg6.out (sz_hart _) (by rw [hC_size, hC_size]) (hC_ones _) ?_
  have hn := row_same (cs := (hC h)) HXg6.out
  have hb := row_bel HB.out (g := g6) (by have := HG.out; have := HG1.out; omega) (hC h)
  have hg3 := (setRow_other W0 g6 g3 (hC h) (by have := HG.out; have := HG1.out; omega)).trans HXg3.out
  generalize W0.setRow g6 (hC h) = V1 at hn hb hg3 ⊢
  clear HB HXg3 HXg6
  have HB : Hid (Bel w V1) := Lib.hid hb
  have HXg3 : Hid (HAt V1 g3 h) := Lib.hid hg3
  have HXg6 : Hid (HAt V1 g6 h) := Lib.hid hn
  clear hn hb hg3
  try simp only [Act.put, la, lz, ls]
  refine wpList_nil ?_
  refine hK _ _ (wp_ret ?_)
  exact bodyPost_ret (results_cell_row Tryd.results18 _ _ g6 _ _ _ _ (by rfl) HXg6.out Tryd.underlying28 rfl (sz_hart _)) (by rfl) ⟨rfl, HB.out⟩
theorem put_hi {h : H} {d n : Int} (hd : ¬ d < 32) (w : World) : Calls Tryd.prog 18 #[hv h, .int .i64 d, .int .i64 n] w (OneV (hv h) w) := by
  have hd2 : (1 : Int) ≤ d := by omega
  have hz := zero_hart
  go_enter Tryd.func18, Tryd.ntmps18
  go_upto_region 1 with (fail)
  obtain ⟨W0, hW, hb, hx3, hx6⟩ := boxes2 w (hC h) hZ 28 28
  first | rw [← hW] | (show Code.wp _ _ _ _ ((w.alloc (.cells (hC h) 28)).alloc (.cells hZ 28)); rw [← hW])
  clear hz hW
  have hlt : w.heap.size < W0.heap.size := lt_of_heap hx3
  generalize hg : w.heap.size = g3 at hx3 hx6 hlt ⊢
  have HG := Lib.hid hg
  clear hg
  generalize hg : g3 + 1 = g6 at hx6 ⊢
  have HG1 := Lib.hid hg
  clear hg
  have HXg3 : Hid (HAt W0 g3 h) := Lib.hid hx3
  have HXg6 : Hid (HAt W0 g6 (fun _ => 0)) := Lib.hid hx6
  have HB : Hid (Bel w W0) := Lib.hid hb
  clear hb hlt hx3 hx6
  go_upto_region 3 with (fail)
  rename_i K hK
  refine wp_region_list ?_
  refine wpList_load_row rfl 28 (.tmp 3) rfl g3 rfl 28 (hC h) (0, 0) _ HXg3.out Tryd.underlying28 rfl (sz_hart _) ?_
  try simp only [Act.put, la, lz, ls]
  refine wpList_store_row rfl 28 (.tmp 6) (.tmp 18) rfl g6 (hC h) rfl rfl 28 (hC (fun _ => 0)) HXg6.out (sz_hart _) (by rw [hC_size, hC_size]) (hC_ones _) ?_
  have hn := row_same (cs := (hC h)) HXg6.out
  have hb := row_bel HB.out (g := g6) (by have := HG.out; have := HG1.out; omega) (hC h)
  have hg3 := (setRow_other W0 g6 g3 (hC h) (by have := HG.out; have := HG1.out; omega)).trans HXg3.out
  generalize W0.setRow g6 (hC h) = V1 at hn hb hg3 ⊢
  clear HB HXg3 HXg6
  have HB : Hid (Bel w V1) := Lib.hid hb
  have HXg3 : Hid (HAt V1 g3 h) := Lib.hid hg3
  have HXg6 : Hid (HAt V1 g6 h) := Lib.hid hn
  clear hn hb hg3
  try simp only [Act.put, la, lz, ls]
  refine wpList_nil ?_
  refine hK _ _ (wp_ret ?_)
  exact bodyPost_ret (results_cell_row Tryd.results18 _ _ g6 _ _ _ _ (by rfl) HXg6.out Tryd.underlying28 rfl (sz_hart _)) (by rfl) ⟨rfl, HB.out⟩
theorem put_lit {h h' : H} {d n : Int} (e : put h d n = h') (w : World) : Calls Tryd.prog 18 #[hv h, .int .i64 d, .int .i64 n] w (OneV (hv h') w) := by
  subst e
  unfold put
  by_cases c1 : d < 1
  · rw [if_neg (by omega)]; exact put_lo c1 w
  · by_cases c2 : d < 32
    · rw [if_pos ⟨by omega, c2⟩]
      obtain ⟨A, hA⟩ := Int.eq_ofNat_of_zero_le (show 0 ≤ d by omega)
      subst hA
      exact put_in (by omega) (by omega) w
    · rw [if_neg (by omega)]; exact put_hi c2 w
theorem lets_lit {h : H} {p : Int} {r : Bool} (e : (decide (bits .and .i64 (h 33) 8 ≠ 0) && decide (h 38 < p)) = r) (w : World) : Calls Tryd.prog 22 #[hv h, .int .i64 p] w (OneV (.bool r) w) := by
  obtain ⟨z, hz8⟩ : ∃ z, bits .and .i64 (h 33) 8 = z := ⟨_, rfl⟩
  rw [hz8] at e
  have HZ8 := Lib.hid hz8
  have HE := Lib.hid e
  clear hz8 e
  have hz := zero_hart
  go_enter Tryd.func22, Tryd.ntmps22
  go_upto_region 1 with (fail)
  obtain ⟨W0, hW, hb, hx2⟩ : ∃ W, W = w.alloc (.cells (hC h) 28) ∧ Bel w W ∧ W.heap[w.heap.size]? = some (.cells (hC h) 28 (0, 0)) := ⟨_, rfl, box1 w _ _⟩
  first | rw [← hW] | (show Code.wp _ _ _ _ w.alloc (.cells (hC h) 28); rw [← hW])
  clear hz hW
  have hlt : w.heap.size < W0.heap.size := lt_of_heap hx2
  generalize hg : w.heap.size = g2 at hx2 hlt ⊢
  have HG := Lib.hid hg
  clear hg
  have HXg2 : Hid (HAt W0 g2 h) := Lib.hid hx2
  have HB : Hid (Bel w W0) := Lib.hid hb
  clear hb hlt hx2
  have kg2_33 := (HXg2.out.cell (j := 33) (by omega))
  have kg2_38 := (HXg2.out.cell (j := 38) (by omega))
  have hz8 := HZ8.out
  by_cases c : z = 0
  · have he := HE.out
    subst c
    rw [decide_eq_false (by simp), Bool.false_and] at he
    subst he
    clear HE
    go_wp2
    go_ret
    exact ⟨rfl, HB.out⟩
  · have he := HE.out
    rw [decide_eq_true c, Bool.true_and] at he
    have hz0 : (z != 0) = true := by simpa using c
    clear HE
    by_cases c2 : h 38 < p
    · rw [decide_eq_true c2] at he
      subst he
      go_wp2
      go_ret
      exact ⟨rfl, HB.out⟩
    · rw [decide_eq_false c2] at he
      subst he
      go_wp2
      go_ret
      exact ⟨rfl, HB.out⟩
end Go.Proofs.YtgcgdjmlngfpeaaDoor
