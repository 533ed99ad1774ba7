/- Package hart: second, back, Trap, leads, branch, jump. -/
import Derived.Test.YtgcgdjmlngfpeaaDoorHFn1
import Derived.Test.YtgcgdjmlngfpeaaDoorHDraw
namespace Go.Proofs.YtgcgdjmlngfpeaaDoor
open Go.RowKit Ht
set_option linter.unusedVariables false
set_option linter.unusedSimpArgs false
set_option maxRecDepth 100000
theorem second_lit {h : H} {o d n r : Int} {a b : Nat} (hb : b < 32) (e : (if (b : Int) = 0 then n else h b) = r) (w : World) : Calls Tryd.prog 62 #[hv h, iv o d (a : Int) (b : Int) n] w (OneV (.int .i64 r) w) := by
  have lb : (b : Int) < 32 := by omega
  have HE := Lib.hid e
  clear e
  have hz := zero_hart
  go_enter Tryd.func62, Tryd.ntmps62
  go_upto_region 1 with (fail)
  obtain ⟨W0, hW, hb, hx2, hx3⟩ := boxes2 w (hC h) (iC o d (a : Int) (b : Int) n) 28 24
  first | rw [← hW] | (show Code.wp _ _ _ _ ((w.alloc (.cells (hC h) 28)).alloc (.cells (iC o d (a : Int) (b : Int) n) 24)); rw [← hW])
  clear hz hW
  have hlt : w.heap.size < W0.heap.size := lt_of_heap hx2
  generalize hg : w.heap.size = g2 at hx2 hx3 hlt ⊢
  have HG := Lib.hid hg
  clear hg
  generalize hg : g2 + 1 = g3 at hx3 ⊢
  have HG1 := Lib.hid hg
  clear hg
  have HXg2 : Hid (HAt W0 g2 h) := Lib.hid hx2
  have HXg3 : Hid (InAt W0 g3 o d (a : Int) (b : Int) n) := Lib.hid hx3
  have HB : Hid (Bel w W0) := Lib.hid hb
  clear hb hlt hx2 hx3
  have kg3_3 := HXg3.out.cells.2.2.2.1
  have kg3_4 := HXg3.out.cells.2.2.2.2
  have kg2_b := (HXg2.out.cell (j := b) (by omega))
  have e := HE.out
  by_cases c : (b : Int) = 0
  · rw [if_pos c] at e
    subst e
    have c2 : ((b : Int) != 0) = false := by simpa using c
    clear HE
    go_wp2
    go_ret
    exact ⟨rfl, HB.out⟩
  · rw [if_neg c] at e
    subst e
    have c2 : ((b : Int) != 0) = true := by simpa using c
    clear HE
    go_wp2
    go_ret
    exact ⟨rfl, HB.out⟩
def backS (s : Int) : Int := bits .or .i64 (bits .or .i64 (bits .andNot .i64 s 8) (bits .and .i64 s 128 / 16)) 128
theorem back_lit {h h' : H} {s z : Int} (hs : h 33 = s) (hz : backS s = z) (e : up (up h 32 (h 36)) 33 z = h') (w : World) : Calls Tryd.prog 35 #[hv h] w (OneV (hv h') w) := by
  subst e
  have HS := Lib.hid hs
  have HZ : Hid (bits .or .i64 (bits .or .i64 (bits .andNot .i64 s 8) (bits .and .i64 s 128 / 16)) 128 = z) := Lib.hid hz
  clear hs hz
  have hz := zero_hart
  go_enter Tryd.func35, Tryd.ntmps35
  go_upto_region 1 with (fail)
  obtain ⟨W0, hW, hb, hx1, hx2⟩ := boxes2 w (hC h) hZ 28 28
  first | rw [← hW] | (show Code.wp _ _ _ _ ((w.alloc (.cells (hC h) 28)).alloc (.cells hZ 28)); rw [← hW])
  clear hz hW
  have hlt : w.heap.size < W0.heap.size := lt_of_heap hx1
  generalize hg : w.heap.size = g1 at hx1 hx2 hlt ⊢
  have HG := Lib.hid hg
  clear hg
  generalize hg : g1 + 1 = g2 at hx2 ⊢
  have HG1 := Lib.hid hg
  clear hg
  have HXg1 : Hid (HAt W0 g1 h) := Lib.hid hx1
  have HXg2 : Hid (HAt W0 g2 (fun _ => 0)) := Lib.hid hx2
  have HB : Hid (Bel w W0) := Lib.hid hb
  clear hb hlt hx1 hx2
  go_upto_region 1 with (fail)
  rename_i K hK
  refine wp_region_list ?_
  refine wpList_one rfl (w' := W0) (v := .pointer (some ⟨g1, 36, none⟩)) (by kernel_rfl) ?_
  try simp only [Act.put, la, lz, ls]
  refine wpList_load_cell rfl 3 (.tmp 3) rfl ⟨g1, 36, none⟩ rfl (.int .i64 (h 36)) _ (HXg1.out.cell (j := 36) (by omega)) Tryd.underlying3 rfl ?_
  try simp only [Act.put, la, lz, ls]
  refine wpList_one rfl (w' := W0) (v := .pointer (some ⟨g1, 32, none⟩)) (by kernel_rfl) ?_
  try simp only [Act.put, la, lz, ls]
  refine wpList_store_cell rfl 3 (.tmp 5) (.tmp 4) rfl g1 32 rfl (.int .i64 (h 36)) rfl (HXg1.out.cell (j := 32) (by omega)) (HXg1.out.frozen 32) sz_int rfl ?_
  have hn := HXg1.out.set (j := 32) (by omega) ((h 36))
  have hb := (Svg.set g1 32 W0 (.int .i64 ((h 36)))).bel HB.out (by have := HG.out; have := HG1.out; omega)
  have hg2 := ((Svg.set g1 32 W0 (.int .i64 ((h 36)))).block g2 (lt_of_heap HXg2.out) (by have := HG.out; have := HG1.out; omega)).trans HXg2.out
  generalize W0.setCell ⟨g1, 32, none⟩ (.int .i64 ((h 36))) = V1 at hn hb hg2  ⊢
  clear HB HXg1 HXg2
  have HB : Hid (Bel w V1) := Lib.hid hb
  have HXg2 : Hid (HAt V1 g2 (fun _ => 0)) := Lib.hid hg2
  have HXg1 : Hid (HAt V1 g1 (up h 32 ((h 36)))) := Lib.hid hn
  clear hn hb hg2
  try simp only [Act.put, la, lz, ls]
  refine wpList_nil ?_
  refine hK _ _ ?_
  clear hK K
  have k33 : V1.cell? ⟨g1, 33, none⟩ = some (.int .i64 s) := by rw [HXg1.out.cell (by omega)]; simp only [up, Nat.reduceEqDiff, if_false]; rw [HS.out]
  have y33 := HXg1.out.frozen 33
  go_upto_region 3 with (fail)
  rw [HZ.out]
  clear k33 y33
  have hn := HXg1.out.set (j := 33) (by omega) (z)
  have hb := (Svg.set g1 33 V1 (.int .i64 (z))).bel HB.out (by have := HG.out; have := HG1.out; omega)
  have hg2 := ((Svg.set g1 33 V1 (.int .i64 (z))).block g2 (lt_of_heap HXg2.out) (by have := HG.out; have := HG1.out; omega)).trans HXg2.out
  generalize V1.setCell ⟨g1, 33, none⟩ (.int .i64 (z)) = V2 at hn hb hg2  ⊢
  clear HB HXg1 HXg2
  have HB : Hid (Bel w V2) := Lib.hid hb
  have HXg2 : Hid (HAt V2 g2 (fun _ => 0)) := Lib.hid hg2
  have HXg1 : Hid (HAt V2 g1 (up (up h 32 ((h 36))) 33 (z))) := Lib.hid hn
  clear hn hb hg2
  rename_i K hK
  refine wp_region_list ?_
  refine wpList_load_row rfl 28 (.tmp 1) rfl g1 rfl 28 (hC (up (up h 32 ((h 36))) 33 (z))) (0, 0) _ HXg1.out Tryd.underlying28 rfl (sz_hart _) ?_
  try simp only [Act.put, la, lz, ls]
  refine wpList_store_row rfl 28 (.tmp 2) (.tmp 16) rfl g2 (hC (up (up h 32 ((h 36))) 33 (z))) rfl rfl 28 (hC (fun _ => 0)) HXg2.out (sz_hart _) (by rw [hC_size, hC_size]) (hC_ones _) ?_
  have hn := row_same (cs := (hC (up (up h 32 ((h 36))) 33 (z)))) HXg2.out
  have hb := row_bel HB.out (g := g2) (by have := HG.out; have := HG1.out; omega) (hC (up (up h 32 ((h 36))) 33 (z)))
  have hg1 := (setRow_other V2 g2 g1 (hC (up (up h 32 ((h 36))) 33 (z))) (by have := HG.out; have := HG1.out; omega)).trans HXg1.out
  generalize V2.setRow g2 (hC (up (up h 32 ((h 36))) 33 (z))) = V3 at hn hb hg1 ⊢
  clear HB HXg1 HXg2
  have HB : Hid (Bel w V3) := Lib.hid hb
  have HXg1 : Hid (HAt V3 g1 (up (up h 32 ((h 36))) 33 (z))) := Lib.hid hg1
  have HXg2 : Hid (HAt V3 g2 (up (up h 32 ((h 36))) 33 (z))) := Lib.hid hn
  clear hn hb hg1
  try simp only [Act.put, la, lz, ls]
  refine wpList_nil ?_
  refine hK _ _ (wp_ret ?_)
  exact bodyPost_ret (results_cell_row Tryd.results35 _ _ g2 _ _ _ _ (by rfl) HXg2.out Tryd.underlying28 rfl (sz_hart _)) (by rfl) ⟨rfl, HB.out⟩
def trapS (s : Int) : Int := bits .or .i64 (bits .andNot .i64 s 136) (wrap64 (bits .and .i64 s 8 * 16))
theorem trap_lit {h h' : H} {c m s z : Int} (hm : wrap32 c = m) (hs : h 33 = s) (hz : trapS s = z) (e : up (up (up (up h 36 (h 32)) 37 m) 32 (h 34)) 33 z = h') (w : World) : Calls Tryd.prog 20 #[hv h, .int .i64 c] w (OneV (hv h') w) := by
  subst e
  have HM := Lib.hid hm
  have HS := Lib.hid hs
  have HZ : Hid (bits .or .i64 (bits .andNot .i64 s 136) (wrap64 (bits .and .i64 s 8 * 16)) = z) := Lib.hid hz
  clear hm hs hz
  have hz := zero_hart
  go_enter Tryd.func20, Tryd.ntmps20
  go_upto_region 1 with (fail)
  obtain ⟨W0, hW, hb, hx2, hx4⟩ := boxes2 w (hC h) hZ 28 28
  first | rw [← hW] | (show Code.wp _ _ _ _ ((w.alloc (.cells (hC h) 28)).alloc (.cells hZ 28)); rw [← hW])
  clear hz hW
  have hlt : w.heap.size < W0.heap.size := lt_of_heap hx2
  generalize hg : w.heap.size = g2 at hx2 hx4 hlt ⊢
  have HG := Lib.hid hg
  clear hg
  generalize hg : g2 + 1 = g4 at hx4 ⊢
  have HG1 := Lib.hid hg
  clear hg
  have HXg2 : Hid (HAt W0 g2 h) := Lib.hid hx2
  have HXg4 : Hid (HAt W0 g4 (fun _ => 0)) := Lib.hid hx4
  have HB : Hid (Bel w W0) := Lib.hid hb
  clear hb hlt hx2 hx4
  go_upto_region 1 with (fail)
  rename_i K hK
  refine Upto.begin (z := 11) (T := fun w' => w'.cell? ⟨g2, 32, none⟩ = some (.int .i64 (h 32)) ∧ w'.cell? ⟨g2, 34, none⟩ = some (.int .i64 (h 34))) (by kernel_rfl) ?_
  have hb : Bel W0 W0.drew := (Bel.refl W0).drew
  generalize W0.drew = V1 at hb ⊢
  replace HB : Hid (Bel w V1) := Lib.hid (HB.out.trans hb)
  replace HXg2 : Hid (HAt V1 g2 h) := Lib.hid (HXg2.out.bel hb)
  replace HXg4 : Hid (HAt V1 g4 (fun _ => 0)) := Lib.hid (HXg4.out.bel hb)
  clear hb
  have hT : V1.cell? ⟨g2, 32, none⟩ = some (.int .i64 (h 32)) ∧ V1.cell? ⟨g2, 34, none⟩ = some (.int .i64 (h 34)) := ⟨HXg2.out.cell (j := 32) (by omega), HXg2.out.cell (j := 34) (by omega)⟩
  refine takeU 5 (i := 0) (v := .pointer (some ⟨g2, 32, none⟩)) rfl rfl rfl (by kernel_rfl) (by kernel_rfl) (by kernel_rfl) (by kernel_rfl) (fun _ _ _ h => h) (by kernel_rfl) (fun w0 hS => (by kernel_rfl)) hT ?_
  try simp only [la, lz, ls]
  refine takeU 6 (i := 1) (v := .int .i64 (h 32)) rfl rfl rfl (by kernel_rfl) (by kernel_rfl) (by kernel_rfl) (by kernel_rfl) (fun _ _ _ h => h) (by kernel_rfl) (fun w0 hS => (exec_cell 3 (.tmp 5) rfl ⟨g2, 32, none⟩ rfl _ _ hS.1 Tryd.underlying3 rfl)) hT ?_
  try simp only [la, lz, ls]
  refine takeU 7 (i := 2) (v := .int .i64 c) rfl rfl rfl (by kernel_rfl) (by kernel_rfl) (by kernel_rfl) (by kernel_rfl) (fun _ _ _ h => h) (by kernel_rfl) (fun w0 hS => rfl) hT ?_
  try simp only [la, lz, ls]
  refine takeU 9 (i := 4) (v := .pointer (some ⟨g2, 34, none⟩)) rfl rfl rfl (by kernel_rfl) (by kernel_rfl) (by kernel_rfl) (by kernel_rfl) (fun _ _ _ h => h) (by kernel_rfl) (fun w0 hS => (by kernel_rfl)) hT ?_
  try simp only [la, lz, ls]
  refine takeU 10 (i := 5) (v := .int .i64 (h 34)) rfl rfl rfl (by kernel_rfl) (by kernel_rfl) (by kernel_rfl) (by kernel_rfl) (fun _ _ _ h => h) (by kernel_rfl) (fun w0 hS => (exec_cell 3 (.tmp 9) rfl ⟨g2, 34, none⟩ rfl _ _ hS.2 Tryd.underlying3 rfl)) hT ?_
  try simp only [la, lz, ls]
  refine takeU 11 (i := 6) (v := .pointer (some ⟨g2, 36, none⟩)) rfl rfl rfl (by kernel_rfl) (by kernel_rfl) (by kernel_rfl) (by kernel_rfl) (fun _ _ _ h => h) (by kernel_rfl) (fun w0 hS => (by kernel_rfl)) hT ?_
  try simp only [la, lz, ls]
  refine callU 8 (i := 3) rfl rfl (by kernel_rfl) (by kernel_rfl) (f := 27) (args := #[.int .i64 c]) (v := .int .i64 m) (by kernel_rfl) (wl HM.out _) (fun w' hb => ⟨(HXg2.out.bel hb).cell (j := 32) (by omega), (HXg2.out.bel hb).cell (j := 34) (by omega)⟩) ?_
  intro V2 hb
  try simp only [la, lz, ls]
  replace HB : Hid (Bel w V2) := Lib.hid (HB.out.trans hb)
  replace HXg2 : Hid (HAt V2 g2 h) := Lib.hid (HXg2.out.bel hb)
  replace HXg4 : Hid (HAt V2 g4 (fun _ => 0)) := Lib.hid (HXg4.out.bel hb)
  clear hb hT
  have hT : V2.cell? ⟨g2, 32, none⟩ = some (.int .i64 (h 32)) ∧ V2.cell? ⟨g2, 34, none⟩ = some (.int .i64 (h 34)) := ⟨HXg2.out.cell (j := 32) (by omega), HXg2.out.cell (j := 34) (by omega)⟩
  have hT2 : (V2.setCell ⟨g2, 36, none⟩ (.int .i64 (h 32))).cell? ⟨g2, 32, none⟩ = some (.int .i64 (h 32)) ∧ (V2.setCell ⟨g2, 36, none⟩ (.int .i64 (h 32))).cell? ⟨g2, 34, none⟩ = some (.int .i64 (h 34)) := ⟨((HXg2.out.set (j := 36) (by decide) _).cell (j := 32) (by decide)).trans (congrArg (fun x => some (Value.int .i64 x)) (up_ne _ _ (by decide))), ((HXg2.out.set (j := 36) (by decide) _).cell (j := 34) (by decide)).trans (congrArg (fun x => some (Value.int .i64 x)) (up_ne _ _ (by decide)))⟩
  refine cellU (i := 7) rfl rfl (by kernel_rfl) (by kernel_rfl) 3 (.tmp 11) (.tmp 6) rfl g2 36 rfl (.int .i64 (h 32)) rfl (HXg2.out.cell (j := 36) (by omega)) (HXg2.out.frozen 36) sz_int rfl hT2 ?_
  clear hT
  have hn := HXg2.out.set (j := 36) (by omega) ((h 32))
  have hb := (Svg.set g2 36 V2 (.int .i64 ((h 32)))).bel HB.out (by have := HG.out; have := HG1.out; omega)
  have hg4 := ((Svg.set g2 36 V2 (.int .i64 ((h 32)))).block g4 (lt_of_heap HXg4.out) (by have := HG.out; have := HG1.out; omega)).trans HXg4.out
  generalize V2.setCell ⟨g2, 36, none⟩ (.int .i64 ((h 32))) = V3 at hn hb hg4 hT2 ⊢
  clear HB HXg2 HXg4
  have HB : Hid (Bel w V3) := Lib.hid hb
  have HXg4 : Hid (HAt V3 g4 (fun _ => 0)) := Lib.hid hg4
  have HXg2 : Hid (HAt V3 g2 (up h 36 ((h 32)))) := Lib.hid hn
  clear hn hb hg4
  have hT := hT2
  clear hT2
  refine takeU 12 (i := 8) (v := .pointer (some ⟨g2, 37, none⟩)) rfl rfl rfl (by kernel_rfl) (by kernel_rfl) (by kernel_rfl) (by kernel_rfl) (fun _ _ _ h => h) (by kernel_rfl) (fun w0 hS => (by kernel_rfl)) hT ?_
  try simp only [la, lz, ls]
  have hT2 : (V3.setCell ⟨g2, 37, none⟩ (.int .i64 m)).cell? ⟨g2, 32, none⟩ = some (.int .i64 (h 32)) ∧ (V3.setCell ⟨g2, 37, none⟩ (.int .i64 m)).cell? ⟨g2, 34, none⟩ = some (.int .i64 (h 34)) := ⟨((HXg2.out.set (j := 37) (by decide) _).cell (j := 32) (by decide)).trans (congrArg (fun x => some (Value.int .i64 x)) (up_ne _ _ (by decide))), ((HXg2.out.set (j := 37) (by decide) _).cell (j := 34) (by decide)).trans (congrArg (fun x => some (Value.int .i64 x)) (up_ne _ _ (by decide)))⟩
  refine cellU (i := 9) rfl rfl (by kernel_rfl) (by kernel_rfl) 3 (.tmp 12) (.tmp 8) rfl g2 37 rfl (.int .i64 m) rfl (HXg2.out.cell (j := 37) (by omega)) (HXg2.out.frozen 37) sz_int rfl hT2 ?_
  clear hT
  have hn := HXg2.out.set (j := 37) (by omega) (m)
  have hb := (Svg.set g2 37 V3 (.int .i64 (m))).bel HB.out (by have := HG.out; have := HG1.out; omega)
  have hg4 := ((Svg.set g2 37 V3 (.int .i64 (m))).block g4 (lt_of_heap HXg4.out) (by have := HG.out; have := HG1.out; omega)).trans HXg4.out
  generalize V3.setCell ⟨g2, 37, none⟩ (.int .i64 (m)) = V4 at hn hb hg4 hT2 ⊢
  clear HB HXg2 HXg4
  have HB : Hid (Bel w V4) := Lib.hid hb
  have HXg4 : Hid (HAt V4 g4 (fun _ => 0)) := Lib.hid hg4
  have HXg2 : Hid (HAt V4 g2 (up (up h 36 ((h 32))) 37 (m))) := Lib.hid hn
  clear hn hb hg4
  have hT := hT2
  clear hT2
  refine takeU 13 (i := 10) (v := .pointer (some ⟨g2, 32, none⟩)) rfl rfl rfl (by kernel_rfl) (by kernel_rfl) (by kernel_rfl) (by kernel_rfl) (fun _ _ _ h => h) (by kernel_rfl) (fun w0 hS => (by kernel_rfl)) hT ?_
  try simp only [la, lz, ls]
  refine cellL rfl rfl (by kernel_rfl) (by kernel_rfl) 3 (.tmp 13) (.tmp 10) rfl g2 32 rfl (.int .i64 (h 34)) rfl (HXg2.out.cell (j := 32) (by omega)) (HXg2.out.frozen 32) sz_int rfl ?_
  have hn := HXg2.out.set (j := 32) (by omega) ((h 34))
  have hb := (Svg.set g2 32 V4 (.int .i64 ((h 34)))).bel HB.out (by have := HG.out; have := HG1.out; omega)
  have hg4 := ((Svg.set g2 32 V4 (.int .i64 ((h 34)))).block g4 (lt_of_heap HXg4.out) (by have := HG.out; have := HG1.out; omega)).trans HXg4.out
  generalize V4.setCell ⟨g2, 32, none⟩ (.int .i64 ((h 34))) = V5 at hn hb hg4  ⊢
  clear HB HXg2 HXg4
  have HB : Hid (Bel w V5) := Lib.hid hb
  have HXg4 : Hid (HAt V5 g4 (fun _ => 0)) := Lib.hid hg4
  have HXg2 : Hid (HAt V5 g2 (up (up (up h 36 ((h 32))) 37 (m)) 32 ((h 34)))) := Lib.hid hn
  clear hn hb hg4
  refine Upto.done (by kernel_rfl) ?_ _
  clear hT
  refine hK _ _ ?_
  clear hK K
  have k33 : V5.cell? ⟨g2, 33, none⟩ = some (.int .i64 s) := by rw [HXg2.out.cell (by omega)]; simp only [up, Nat.reduceEqDiff, if_false]; rw [HS.out]
  have y33 := HXg2.out.frozen 33
  go_upto_region 3 with (fail)
  rw [HZ.out]
  clear k33 y33
  have hn := HXg2.out.set (j := 33) (by omega) (z)
  have hb := (Svg.set g2 33 V5 (.int .i64 (z))).bel HB.out (by have := HG.out; have := HG1.out; omega)
  have hg4 := ((Svg.set g2 33 V5 (.int .i64 (z))).block g4 (lt_of_heap HXg4.out) (by have := HG.out; have := HG1.out; omega)).trans HXg4.out
  generalize V5.setCell ⟨g2, 33, none⟩ (.int .i64 (z)) = V6 at hn hb hg4  ⊢
  clear HB HXg2 HXg4
  have HB : Hid (Bel w V6) := Lib.hid hb
  have HXg4 : Hid (HAt V6 g4 (fun _ => 0)) := Lib.hid hg4
  have HXg2 : Hid (HAt V6 g2 (up (up (up (up h 36 ((h 32))) 37 (m)) 32 ((h 34))) 33 (z))) := Lib.hid hn
  clear hn hb hg4
  rename_i K hK
  refine wp_region_list ?_
  refine wpList_load_row rfl 28 (.tmp 2) rfl g2 rfl 28 (hC (up (up (up (up h 36 ((h 32))) 37 (m)) 32 ((h 34))) 33 (z))) (0, 0) _ HXg2.out Tryd.underlying28 rfl (sz_hart _) ?_
  try simp only [Act.put, la, lz, ls]
  refine wpList_store_row rfl 28 (.tmp 4) (.tmp 23) rfl g4 (hC (up (up (up (up h 36 ((h 32))) 37 (m)) 32 ((h 34))) 33 (z))) rfl rfl 28 (hC (fun _ => 0)) HXg4.out (sz_hart _) (by rw [hC_size, hC_size]) (hC_ones _) ?_
  have hn := row_same (cs := (hC (up (up (up (up h 36 ((h 32))) 37 (m)) 32 ((h 34))) 33 (z)))) HXg4.out
  have hb := row_bel HB.out (g := g4) (by have := HG.out; have := HG1.out; omega) (hC (up (up (up (up h 36 ((h 32))) 37 (m)) 32 ((h 34))) 33 (z)))
  have hg2 := (setRow_other V6 g4 g2 (hC (up (up (up (up h 36 ((h 32))) 37 (m)) 32 ((h 34))) 33 (z))) (by have := HG.out; have := HG1.out; omega)).trans HXg2.out
  generalize V6.setRow g4 (hC (up (up (up (up h 36 ((h 32))) 37 (m)) 32 ((h 34))) 33 (z))) = V7 at hn hb hg2 ⊢
  clear HB HXg2 HXg4
  have HB : Hid (Bel w V7) := Lib.hid hb
  have HXg2 : Hid (HAt V7 g2 (up (up (up (up h 36 ((h 32))) 37 (m)) 32 ((h 34))) 33 (z))) := Lib.hid hg2
  have HXg4 : Hid (HAt V7 g4 (up (up (up (up h 36 ((h 32))) 37 (m)) 32 ((h 34))) 33 (z))) := Lib.hid hn
  clear hn hb hg2
  try simp only [Act.put, la, lz, ls]
  refine wpList_nil ?_
  refine hK _ _ (wp_ret ?_)
  exact bodyPost_ret (results_cell_row Tryd.results20 _ _ g4 _ _ _ _ (by rfl) HXg4.out Tryd.underlying28 rfl (sz_hart _)) (by rfl) ⟨rfl, HB.out⟩
theorem tl {x y z v : Int} {q : Bool} (h : Plain.two x y z = v) (hq : Plain.isTwo x = q) (w : World) : Calls Tryd.prog 25 #[.int .i64 x, .int .i64 y, .int .i64 z] w (OneV (.tuple #[.int .i64 v, .bool q]) w) :=
  (two_val h hq w).mono fun e w' hh => ⟨hh.1, by rw [← hh.2]; exact Bel.refl _⟩
theorem leads_lit {h : H} {o a b : Nat} {d n x v : Int} {q r : Bool} {w : World} (ho : o < 50) (ha : a < 32) (hb : b < 32) (h0 : 0 < w.heap.size) (hop : w.cell? ⟨0, o, none⟩ = some (.int .i64 x)) (hvx : Plain.two x (h a) (h b) = v) (hq : Plain.isTwo x = q)
    (e : (if o = 8 ∨ o = 10 then decide (v = 0) else decide (v ≠ 0)) = r) : Calls Tryd.prog 60 #[hv h, iv (o : Int) d (a : Int) (b : Int) n] w (OneV (.bool r) w) := by
  have HE := Lib.hid e
  have HZ := Lib.hid h0
  have HOP := Lib.hid hop
  clear e h0 hop
  have hz := zero_hart
  go_enter Tryd.func60, Tryd.ntmps60
  go_upto_region 1 with (fail)
  obtain ⟨W0, hW, hb, hx2, hx3⟩ := boxes2 w (hC h) (iC (o : Int) d (a : Int) (b : Int) n) 28 24
  first | rw [← hW] | (show Code.wp _ _ _ _ ((w.alloc (.cells (hC h) 28)).alloc (.cells (iC (o : Int) d (a : Int) (b : Int) n) 24)); rw [← hW])
  clear hz hW
  have hlt : w.heap.size < W0.heap.size := lt_of_heap hx2
  generalize hg : w.heap.size = g2 at hx2 hx3 hlt ⊢
  have HG := Lib.hid hg
  clear hg
  generalize hg : g2 + 1 = g3 at hx3 ⊢
  have HG1 := Lib.hid hg
  clear hg
  have HXg2 : Hid (HAt W0 g2 h) := Lib.hid hx2
  have HXg3 : Hid (InAt W0 g3 (o : Int) d (a : Int) (b : Int) n) := Lib.hid hx3
  have HB : Hid (Bel w W0) := Lib.hid hb
  clear hb hlt hx2 hx3
  obtain ⟨xa, hxa⟩ : ∃ x, h a = x := ⟨_, rfl⟩
  obtain ⟨xb, hxb⟩ : ∃ x, h b = x := ⟨_, rfl⟩
  rw [hxa, hxb] at hvx
  have HV := Lib.hid hvx
  have HQ := Lib.hid hq
  clear hvx hq
  have HXA := Lib.hid hxa
  have HXB := Lib.hid hxb
  clear hxa hxb
  go_upto_region 1 with (fail)
  rename_i K hK
  refine Upto.begin (z := 19) (T := fun w' => HAt w' g2 h ∧ InAt w' g3 (o : Int) d (a : Int) (b : Int) n ∧ w'.cell? ⟨0, o, none⟩ = some (.int .i64 x)) (by kernel_rfl) ?_
  have hb : Bel W0 W0.drew := (Bel.refl W0).drew
  generalize W0.drew = V1 at hb ⊢
  replace HB : Hid (Bel w V1) := Lib.hid (HB.out.trans hb)
  replace HXg2 : Hid (HAt V1 g2 h) := Lib.hid (HXg2.out.bel hb)
  replace HXg3 : Hid (InAt V1 g3 (o : Int) d (a : Int) (b : Int) n) := Lib.hid (HXg3.out.bel hb)
  clear hb
  have hT : HAt V1 g2 h ∧ InAt V1 g3 (o : Int) d (a : Int) (b : Int) n ∧ V1.cell? ⟨0, o, none⟩ = some (.int .i64 x) := ⟨HXg2.out, HXg3.out, (HB.out.cell (p := ⟨0, o, none⟩) HZ.out).trans HOP.out⟩
  refine takeU 8 (i := 0) (v := .pointer (some ⟨g3, 0, none⟩)) rfl rfl rfl (by kernel_rfl) (by kernel_rfl) (by kernel_rfl) (by kernel_rfl) (fun _ _ _ h => h) (by kernel_rfl) (fun w0 hS => (by kernel_rfl)) hT ?_
  try simp only [la, lz, ls]
  refine takeU 9 (i := 1) (v := .int .i64 (o : Int)) rfl rfl rfl (by kernel_rfl) (by kernel_rfl) (by kernel_rfl) (by kernel_rfl) (fun _ _ _ h => h) (by kernel_rfl) (fun w0 hS => (exec_cell 3 (.tmp 8) rfl ⟨g3, 0, none⟩ rfl _ _ (hS.2.1).cells.1 Tryd.underlying3 rfl)) hT ?_
  try simp only [la, lz, ls]
  refine takeU 10 (i := 2) (v := .pointer (some ⟨0, o, none⟩)) rfl rfl rfl (by kernel_rfl) (by kernel_rfl) (by kernel_rfl) (by kernel_rfl) (fun _ _ _ h => h) (by kernel_rfl) (fun w0 hS => (exec_opr rfl 0 o (by omega) rfl rfl _)) hT ?_
  try simp only [la, lz, ls]
  refine takeU 11 (i := 3) (v := .int .i64 x) rfl rfl rfl (by kernel_rfl) (by kernel_rfl) (by kernel_rfl) (by kernel_rfl) (fun _ _ _ h => h) (by kernel_rfl) (fun w0 hS => (exec_cell 3 (.tmp 10) rfl ⟨0, o, none⟩ rfl _ _ hS.2.2 Tryd.underlying3 rfl)) hT ?_
  try simp only [la, lz, ls]
  refine takeU 12 (i := 4) (v := .pointer (some ⟨g3, 2, none⟩)) rfl rfl rfl (by kernel_rfl) (by kernel_rfl) (by kernel_rfl) (by kernel_rfl) (fun _ _ _ h => h) (by kernel_rfl) (fun w0 hS => (by kernel_rfl)) hT ?_
  try simp only [la, lz, ls]
  refine takeU 13 (i := 5) (v := .int .i64 (a : Int)) rfl rfl rfl (by kernel_rfl) (by kernel_rfl) (by kernel_rfl) (by kernel_rfl) (fun _ _ _ h => h) (by kernel_rfl) (fun w0 hS => (exec_cell 3 (.tmp 12) rfl ⟨g3, 2, none⟩ rfl _ _ (hS.2.1).cells.2.2.1 Tryd.underlying3 rfl)) hT ?_
  try simp only [la, lz, ls]
  refine takeU 14 (i := 6) (v := .pointer (some ⟨g2, 0, none⟩)) rfl rfl rfl (by kernel_rfl) (by kernel_rfl) (by kernel_rfl) (by kernel_rfl) (fun _ _ _ h => h) (by kernel_rfl) (fun w0 hS => (by kernel_rfl)) hT ?_
  try simp only [la, lz, ls]
  refine takeU 15 (i := 7) (v := .pointer (some ⟨g2, a, none⟩)) rfl rfl rfl (by kernel_rfl) (by kernel_rfl) (by kernel_rfl) (by kernel_rfl) (fun _ _ _ h => h) (by kernel_rfl) (fun w0 hS => (exec_reg rfl g2 a (by omega) rfl rfl _)) hT ?_
  try simp only [la, lz, ls]
  refine takeU 16 (i := 8) (v := .int .i64 (h a)) rfl rfl rfl (by kernel_rfl) (by kernel_rfl) (by kernel_rfl) (by kernel_rfl) (fun _ _ _ h => h) (by kernel_rfl) (fun w0 hS => (exec_cell 3 (.tmp 15) rfl ⟨g2, a, none⟩ rfl _ _ ((hS.1).cell (j := a) (by omega)) Tryd.underlying3 rfl)) hT ?_
  try simp only [la, lz, ls]
  refine takeU 17 (i := 9) (v := .pointer (some ⟨g3, 3, none⟩)) rfl rfl rfl (by kernel_rfl) (by kernel_rfl) (by kernel_rfl) (by kernel_rfl) (fun _ _ _ h => h) (by kernel_rfl) (fun w0 hS => (by kernel_rfl)) hT ?_
  try simp only [la, lz, ls]
  refine takeU 18 (i := 10) (v := .int .i64 (b : Int)) rfl rfl rfl (by kernel_rfl) (by kernel_rfl) (by kernel_rfl) (by kernel_rfl) (fun _ _ _ h => h) (by kernel_rfl) (fun w0 hS => (exec_cell 3 (.tmp 17) rfl ⟨g3, 3, none⟩ rfl _ _ (hS.2.1).cells.2.2.2.1 Tryd.underlying3 rfl)) hT ?_
  try simp only [la, lz, ls]
  refine takeU 19 (i := 11) (v := .pointer (some ⟨g2, 0, none⟩)) rfl rfl rfl (by kernel_rfl) (by kernel_rfl) (by kernel_rfl) (by kernel_rfl) (fun _ _ _ h => h) (by kernel_rfl) (fun w0 hS => (by kernel_rfl)) hT ?_
  try simp only [la, lz, ls]
  refine takeU 20 (i := 12) (v := .pointer (some ⟨g2, b, none⟩)) rfl rfl rfl (by kernel_rfl) (by kernel_rfl) (by kernel_rfl) (by kernel_rfl) (fun _ _ _ h => h) (by kernel_rfl) (fun w0 hS => (exec_reg rfl g2 b (by omega) rfl rfl _)) hT ?_
  try simp only [la, lz, ls]
  refine takeU 21 (i := 13) (v := .int .i64 (h b)) rfl rfl rfl (by kernel_rfl) (by kernel_rfl) (by kernel_rfl) (by kernel_rfl) (fun _ _ _ h => h) (by kernel_rfl) (fun w0 hS => (exec_cell 3 (.tmp 20) rfl ⟨g2, b, none⟩ rfl _ _ ((hS.1).cell (j := b) (by omega)) Tryd.underlying3 rfl)) hT ?_
  try simp only [la, lz, ls]
  refine callU 22 (i := 14) rfl rfl (by kernel_rfl) (by kernel_rfl) (f := 25) (args := #[.int .i64 x, .int .i64 (h a), .int .i64 (h b)]) (v := .tuple #[.int .i64 v, .bool q]) (by kernel_rfl) (tl (by rw [HXA.out, HXB.out]; exact HV.out) HQ.out _) (fun w' hb => ⟨HXg2.out.bel hb, HXg3.out.bel hb, ((HB.out.trans hb).cell (p := ⟨0, o, none⟩) HZ.out).trans HOP.out⟩) ?_
  intro V2 hb
  try simp only [la, lz, ls]
  replace HB : Hid (Bel w V2) := Lib.hid (HB.out.trans hb)
  replace HXg2 : Hid (HAt V2 g2 h) := Lib.hid (HXg2.out.bel hb)
  replace HXg3 : Hid (InAt V2 g3 (o : Int) d (a : Int) (b : Int) n) := Lib.hid (HXg3.out.bel hb)
  clear hb hT
  have hT : HAt V2 g2 h ∧ InAt V2 g3 (o : Int) d (a : Int) (b : Int) n ∧ V2.cell? ⟨0, o, none⟩ = some (.int .i64 x) := ⟨HXg2.out, HXg3.out, (HB.out.cell (p := ⟨0, o, none⟩) HZ.out).trans HOP.out⟩
  refine takeU 7 (i := 15) (v := .tuple #[.int .i64 v, .bool q]) rfl rfl rfl (by kernel_rfl) (by kernel_rfl) (by kernel_rfl) (by kernel_rfl) (fun _ _ _ h => h) (by kernel_rfl) (fun w0 hS => rfl) hT ?_
  try simp only [la, lz, ls]
  refine takeU 23 (i := 16) (v := .int .i64 v) rfl rfl rfl (by kernel_rfl) (by kernel_rfl) (by kernel_rfl) (by kernel_rfl) (fun _ _ _ h => h) (by kernel_rfl) (fun w0 hS => rfl) hT ?_
  try simp only [la, lz, ls]
  refine takeU 24 (i := 17) (v := .bool q) rfl rfl rfl (by kernel_rfl) (by kernel_rfl) (by kernel_rfl) (by kernel_rfl) (fun _ _ _ h => h) (by kernel_rfl) (fun w0 hS => rfl) hT ?_
  try simp only [la, lz, ls]
  refine takeU 5 (i := 18) (v := .int .i64 v) rfl rfl rfl (by kernel_rfl) (by kernel_rfl) (by kernel_rfl) (by kernel_rfl) (fun _ _ _ h => h) (by kernel_rfl) (fun w0 hS => rfl) hT ?_
  try simp only [la, lz, ls]
  refine pureU 6 (i := 19) rfl rfl (by kernel_rfl) (by kernel_rfl) (v := .bool q) rfl hT ?_
  try simp only [la, lz, ls]
  refine Upto.done (by kernel_rfl) ?_ _
  clear hT
  refine hK _ _ ?_
  clear hK K
  have kg3_0 := HXg3.out.cells.1
  have e := HE.out
  clear HE
  have hv0 : (v == 0) = decide (v = 0) := by by_cases c : v = 0 <;> simp [c]
  have hv1 : (v != 0) = decide (v ≠ 0) := by by_cases c : v = 0 <;> simp [c]
  by_cases c8 : o = 8
  · have k8 : ((o : Int) == 8) = true := by subst c8; rfl
    rw [if_pos (.inl c8)] at e
    subst e
    go_wp2
    go_ret
    exact ⟨rB (by assumption), HB.out⟩
  · have k8 : ((o : Int) == 8) = false := by simp; omega
    by_cases c10 : o = 10
    · have k10 : ((o : Int) == 10) = true := by subst c10; rfl
      rw [if_pos (.inr c10)] at e
      subst e
      go_wp2
      go_ret
      exact ⟨rB (by assumption), HB.out⟩
    · have k10 : ((o : Int) == 10) = false := by simp; omega
      rw [if_neg (by omega)] at e
      subst e
      go_wp2
      go_ret
      exact ⟨rB (by assumption), HB.out⟩
end Go.Proofs.YtgcgdjmlngfpeaaDoor
