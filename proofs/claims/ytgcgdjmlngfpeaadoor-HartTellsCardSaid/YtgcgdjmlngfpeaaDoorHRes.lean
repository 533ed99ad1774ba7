/- The document of layer 14, its own functions: moves to the right, Lets, control registers. -/
import Derived.Test.YtgcgdjmlngfpeaaDoorHRq
import Derived.Test.YtgcgdjmlngfpeaaDoorHPl2
import Derived.Test.YtgcgdjmlngfpeaaDoorEAll
section
namespace Go.Proofs.YtgcgdjmlngfpeaaDoor
open Go.RowKit Ht
set_option linter.unusedVariables false
set_option linter.unusedSimpArgs false
set_option maxRecDepth 100000
set_option maxHeartbeats 4000000
theorem rtwo_20 {a b r : Int} (hr : a % 4294967296 / 2 ^ (b % 32).toNat = r) (w : World) : Calls Tryd.prog 46 #[.int .i64 20, .int .i64 a, .int .i64 b] w fun e w' => e = .returned (.tuple #[.int .i64 r, .bool true]) ∧ Bel w w' := by
  obtain ⟨x, hx⟩ : ∃ x, a % 4294967296 = x := ⟨_, rfl⟩
  obtain ⟨y, hy⟩ : ∃ y, b % 4294967296 = y := ⟨_, rfl⟩
  obtain ⟨k, hk⟩ : ∃ k : Nat, b % 32 = k := ⟨(b % 32).toNat, by omega⟩
  have by1 : 0 ≤ y := by omega
  have e2 : y % 32 = (k : Int) := by omega
  have e3 : y.tmod 32 = (k : Int) := by rw [Int.tmod_eq_emod_of_nonneg by1]; exact e2
  have hk0 : (0 : Int) ≤ k := by omega
  have hk1 : (k : Int) < 64 := by omega
  rw [hx, hk, Int.toNat_natCast] at hr
  have HX := Lib.hid hx
  have HY := Lib.hid hy
  have HR := Lib.hid hr
  clear hx hy hk hr
  go_enter Tryd.func46, Tryd.ntmps46
  go_wp2_with fail
  refine (rword_lit HX.out _).mono ?_
  rintro e W ⟨rfl, rfl⟩
  go_wp2_with fail
  refine (rword_lit HY.out _).mono ?_
  rintro e W ⟨rfl, rfl⟩
  go_wp2
  refine bodyPost_ret (results_tmp2 Tryd.results46 _ _ _) (by rfl) ⟨?_, Bel.refl _⟩
  rw [← HR.out]
  rfl
theorem rtwo_28 {a b r : Int} (hr : a % 4294967296 / 2 ^ (b % 32).toNat = r) (w : World) : Calls Tryd.prog 46 #[.int .i64 28, .int .i64 a, .int .i64 b] w fun e w' => e = .returned (.tuple #[.int .i64 r, .bool true]) ∧ Bel w w' := by
  obtain ⟨x, hx⟩ : ∃ x, a % 4294967296 = x := ⟨_, rfl⟩
  obtain ⟨y, hy⟩ : ∃ y, b % 4294967296 = y := ⟨_, rfl⟩
  obtain ⟨k, hk⟩ : ∃ k : Nat, b % 32 = k := ⟨(b % 32).toNat, by omega⟩
  have by1 : 0 ≤ y := by omega
  have e2 : y % 32 = (k : Int) := by omega
  have e3 : y.tmod 32 = (k : Int) := by rw [Int.tmod_eq_emod_of_nonneg by1]; exact e2
  have hk0 : (0 : Int) ≤ k := by omega
  have hk1 : (k : Int) < 64 := by omega
  rw [hx, hk, Int.toNat_natCast] at hr
  have HX := Lib.hid hx
  have HY := Lib.hid hy
  have HR := Lib.hid hr
  clear hx hy hk hr
  go_enter Tryd.func46, Tryd.ntmps46
  go_wp2_with fail
  refine (rword_lit HX.out _).mono ?_
  rintro e W ⟨rfl, rfl⟩
  go_wp2_with fail
  refine (rword_lit HY.out _).mono ?_
  rintro e W ⟨rfl, rfl⟩
  go_wp2
  refine bodyPost_ret (results_tmp2 Tryd.results46 _ _ _) (by rfl) ⟨?_, Bel.refl _⟩
  rw [← HR.out]
  rfl
theorem rlets_true {h : H} {p y8 y2 : Int} {r : Bool} (h8 : IntKind.i64.wrap ((h 33).tdiv 8) = y8) (h2 : y8.tmod 2 = y2) (h1 : y2 = 1) (hg : decide (h 38 < p) = r) (w : World) :
    Calls Tryd.prog 23 #[hv h, .int .i64 p] w (OneV (.bool r) w) := by
  have Y8 := Lib.hid h8
  have Y2 := Lib.hid h2
  have Y1 := Lib.hid h1
  have G0 := Lib.hid hg
  clear h8 h2 h1 hg
  have hz := zero_hart
  go_enter Tryd.func23, Tryd.ntmps23
  go_upto_region 1 with (fail)
  obtain ⟨W0, hW, hb, hx2⟩ : ∃ W, W = w.alloc (.cells (hC h) 28) ∧ Bel w W ∧ W.heap[w.heap.size]? = some (.cells (hC h) 28 (0, 0)) := ⟨_, rfl, box1 w _ _⟩
  first | rw [← hW] | (show Code.wp _ _ _ _ w.alloc (.cells (hC h) 28); rw [← hW])
  clear hz hW
  have hlt : w.heap.size < W0.heap.size := lt_of_heap hx2
  generalize hg : w.heap.size = g2 at hx2 hlt ⊢
  have HG := Lib.hid hg
  clear hg
  have HXg2 : Hid (HAt W0 g2 h) := Lib.hid hx2
  have HB : Hid (Bel w W0) := Lib.hid hb
  clear hb hlt hx2
  rename_i K hK
  refine wp_region_list ?_
  with_reducible refine BigFrame.wpList_want ?_ (fun K2 hK2 => ?_)
  · kernel_rfl
  refine wp_one (w' := W0) (v := .pointer (some ⟨g2, 33, none⟩)) (by kernel_rfl) ?_
  with_reducible refine hK2 _ _ ?_
  clear hK2 K2
  try simp only [Act.put, la, lz, ls]
  with_reducible refine BigFrame.wpList_want ?_ (fun K2 hK2 => ?_)
  · kernel_rfl
  refine wp_one (w' := W0) (v := .int .i64 (h 33)) (exec_cell 3 (.tmp 5) rfl ⟨g2, 33, none⟩ rfl _ _ (HXg2.out.cell (j := 33) (by omega)) Tryd.underlying3 rfl) ?_
  with_reducible refine hK2 _ _ ?_
  clear hK2 K2
  try simp only [Act.put, la, lz, ls]
  with_reducible refine BigFrame.wpList_want ?_ (fun K2 hK2 => ?_)
  · kernel_rfl
  refine wp_one (w' := W0) (v := .int .i64 y8) (exec_quo rfl rfl rfl (by decide) Y8.out W0) ?_
  with_reducible refine hK2 _ _ ?_
  clear hK2 K2
  try simp only [Act.put, la, lz, ls]
  with_reducible refine BigFrame.wpList_want ?_ (fun K2 hK2 => ?_)
  · kernel_rfl
  refine wp_one (w' := W0) (v := .int .i64 y2) (exec_rem rfl rfl rfl (by decide) Y2.out W0) ?_
  with_reducible refine hK2 _ _ ?_
  clear hK2 K2
  try simp only [Act.put, la, lz, ls]
  with_reducible refine BigFrame.wpList_want ?_ (fun K2 hK2 => ?_)
  · kernel_rfl
  refine wp_one (w' := W0) (v := .bool true) (exec_eqI rfl rfl rfl Y1.out W0) ?_
  with_reducible refine hK2 _ _ ?_
  clear hK2 K2
  try simp only [Act.put, la, lz, ls]
  with_reducible refine BigFrame.wpList_want ?_ (fun K2 hK2 => ?_)
  · kernel_rfl
  refine wp_one (w' := W0) (v := .bool true) rfl ?_
  with_reducible refine hK2 _ _ ?_
  clear hK2 K2
  try simp only [Act.put, la, lz, ls]
  with_reducible refine BigFrame.wpList_want ?_ (fun K2 hK2 => ?_)
  · kernel_rfl
  refine wp_one (w' := W0) (v := .int .i64 p) rfl ?_
  with_reducible refine hK2 _ _ ?_
  clear hK2 K2
  try simp only [Act.put, la, lz, ls]
  with_reducible refine BigFrame.wpList_want ?_ (fun K2 hK2 => ?_)
  · kernel_rfl
  refine wp_one (w' := W0) (v := .pointer (some ⟨g2, 38, none⟩)) (by kernel_rfl) ?_
  with_reducible refine hK2 _ _ ?_
  clear hK2 K2
  try simp only [Act.put, la, lz, ls]
  with_reducible refine BigFrame.wpList_want ?_ (fun K2 hK2 => ?_)
  · kernel_rfl
  refine wp_one (w' := W0) (v := .int .i64 (h 38)) (exec_cell 3 (.tmp 12) rfl ⟨g2, 38, none⟩ rfl _ _ (HXg2.out.cell (j := 38) (by omega)) Tryd.underlying3 rfl) ?_
  with_reducible refine hK2 _ _ ?_
  clear hK2 K2
  try simp only [Act.put, la, lz, ls]
  with_reducible refine BigFrame.wpList_want ?_ (fun K2 hK2 => ?_)
  · kernel_rfl
  refine wp_one (w' := W0) (v := .bool r) (exec_gtr rfl rfl rfl G0.out W0) ?_
  with_reducible refine hK2 _ _ ?_
  clear hK2 K2
  try simp only [Act.put, la, lz, ls]
  with_reducible refine BigFrame.wpList_want ?_ (fun K2 hK2 => ?_)
  · kernel_rfl
  refine wp_one (w' := W0) (v := .bool r) (by kernel_rfl) ?_
  with_reducible refine hK2 _ _ ?_
  clear hK2 K2
  try simp only [Act.put, la, lz, ls]
  with_reducible refine BigFrame.wpList_want ?_ (fun K2 hK2 => ?_)
  · kernel_rfl
  refine wp_one (w' := W0) (v := .bool r) rfl ?_
  with_reducible refine hK2 _ _ ?_
  clear hK2 K2
  try simp only [Act.put, la, lz, ls]
  refine wpList_nil ?_
  refine hK _ _ ?_
  clear hK K
  go_wp2
  go_ret
  exact ⟨rfl, HB.out⟩
theorem rlets_false {h : H} {p y8 y2 : Int} {r : Bool} (h8 : IntKind.i64.wrap ((h 33).tdiv 8) = y8) (h2 : y8.tmod 2 = y2) (h1 : y2 ≠ 1) (w : World) :
    Calls Tryd.prog 23 #[hv h, .int .i64 p] w (OneV (.bool false) w) := by
  have Y8 := Lib.hid h8
  have Y2 := Lib.hid h2
  have Y1 := Lib.hid h1
  
  clear h8 h2 h1 
  have hz := zero_hart
  go_enter Tryd.func23, Tryd.ntmps23
  go_upto_region 1 with (fail)
  obtain ⟨W0, hW, hb, hx2⟩ : ∃ W, W = w.alloc (.cells (hC h) 28) ∧ Bel w W ∧ W.heap[w.heap.size]? = some (.cells (hC h) 28 (0, 0)) := ⟨_, rfl, box1 w _ _⟩
  first | rw [← hW] | (show Code.wp _ _ _ _ w.alloc (.cells (hC h) 28); rw [← hW])
  clear hz hW
  have hlt : w.heap.size < W0.heap.size := lt_of_heap hx2
  generalize hg : w.heap.size = g2 at hx2 hlt ⊢
  have HG := Lib.hid hg
  clear hg
  have HXg2 : Hid (HAt W0 g2 h) := Lib.hid hx2
  have HB : Hid (Bel w W0) := Lib.hid hb
  clear hb hlt hx2
  rename_i K hK
  refine wp_region_list ?_
  with_reducible refine BigFrame.wpList_want ?_ (fun K2 hK2 => ?_)
  · kernel_rfl
  refine wp_one (w' := W0) (v := .pointer (some ⟨g2, 33, none⟩)) (by kernel_rfl) ?_
  with_reducible refine hK2 _ _ ?_
  clear hK2 K2
  try simp only [Act.put, la, lz, ls]
  with_reducible refine BigFrame.wpList_want ?_ (fun K2 hK2 => ?_)
  · kernel_rfl
  refine wp_one (w' := W0) (v := .int .i64 (h 33)) (exec_cell 3 (.tmp 5) rfl ⟨g2, 33, none⟩ rfl _ _ (HXg2.out.cell (j := 33) (by omega)) Tryd.underlying3 rfl) ?_
  with_reducible refine hK2 _ _ ?_
  clear hK2 K2
  try simp only [Act.put, la, lz, ls]
  with_reducible refine BigFrame.wpList_want ?_ (fun K2 hK2 => ?_)
  · kernel_rfl
  refine wp_one (w' := W0) (v := .int .i64 y8) (exec_quo rfl rfl rfl (by decide) Y8.out W0) ?_
  with_reducible refine hK2 _ _ ?_
  clear hK2 K2
  try simp only [Act.put, la, lz, ls]
  with_reducible refine BigFrame.wpList_want ?_ (fun K2 hK2 => ?_)
  · kernel_rfl
  refine wp_one (w' := W0) (v := .int .i64 y2) (exec_rem rfl rfl rfl (by decide) Y2.out W0) ?_
  with_reducible refine hK2 _ _ ?_
  clear hK2 K2
  try simp only [Act.put, la, lz, ls]
  with_reducible refine BigFrame.wpList_want ?_ (fun K2 hK2 => ?_)
  · kernel_rfl
  refine wp_one (w' := W0) (v := .bool false) (exec_eqF rfl rfl rfl Y1.out W0) ?_
  with_reducible refine hK2 _ _ ?_
  clear hK2 K2
  try simp only [Act.put, la, lz, ls]
  with_reducible refine BigFrame.wpList_want ?_ (fun K2 hK2 => ?_)
  · kernel_rfl
  refine wp_one (w' := W0) (v := .bool false) rfl ?_
  with_reducible refine hK2 _ _ ?_
  clear hK2 K2
  try simp only [Act.put, la, lz, ls]
  with_reducible refine wpList_skip ?_ ?_
  · kernel_rfl
  try simp only [Act.put, la, lz, ls]
  with_reducible refine wpList_skip ?_ ?_
  · kernel_rfl
  try simp only [Act.put, la, lz, ls]
  with_reducible refine wpList_skip ?_ ?_
  · kernel_rfl
  try simp only [Act.put, la, lz, ls]
  with_reducible refine wpList_skip ?_ ?_
  · kernel_rfl
  try simp only [Act.put, la, lz, ls]
  with_reducible refine BigFrame.wpList_want ?_ (fun K2 hK2 => ?_)
  · kernel_rfl
  refine wp_one (w' := W0) (v := .bool false) (by kernel_rfl) ?_
  with_reducible refine hK2 _ _ ?_
  clear hK2 K2
  try simp only [Act.put, la, lz, ls]
  with_reducible refine BigFrame.wpList_want ?_ (fun K2 hK2 => ?_)
  · kernel_rfl
  refine wp_one (w' := W0) (v := .bool false) rfl ?_
  with_reducible refine hK2 _ _ ?_
  clear hK2 K2
  try simp only [Act.put, la, lz, ls]
  refine wpList_nil ?_
  refine hK _ _ ?_
  clear hK K
  go_wp2
  go_ret
  exact ⟨rfl, HB.out⟩
theorem rol {x y v : Int} {q : Bool} (h : Plain.one x y = v) (hq : Plain.isOne x = q) (w : World) : Calls Tryd.prog 71 #[.int .i64 x, .int .i64 y] w (OneV (.tuple #[.int .i64 v, .bool q]) w) :=
  (rone_val h hq w).mono fun e w' hh => ⟨hh.1, by rw [← hh.2]; exact Bel.refl _⟩
theorem rcsr_bad {h : H} {id o d b n : Int} {A : Nat} (HC : ∀ W, Calls Tryd.prog 70 #[hv h, .int .i64 id, .int .i64 n] W (OneV (.tuple #[.int .i64 0, .bool false]) W)) {w : World} :
    Calls Tryd.prog 44 #[hv h, .int .i64 id, iv o d (A : Int) b n] w (OneV (.tuple #[hv h, .agg (eC eBad)]) w) := by
  have hz := zero_hart
  go_enter Tryd.func44, Tryd.ntmps44
  go_upto_region 1 with (fail)
  obtain ⟨W0, hW, hb, hx3, hx5, hx6, hx7⟩ := boxes4 w (hC h) (iC o d (A : Int) b n) hZ (eC e0) 28 24 28 34
  first | rw [← hW] | (show Code.wp _ _ _ _ ((((w.alloc (.cells (hC h) 28)).alloc (.cells (iC o d (A : Int) b n) 24)).alloc (.cells hZ 28)).alloc (.cells (eC e0) 34)); rw [← hW])
  clear hz hW
  have hlt : w.heap.size < W0.heap.size := lt_of_heap hx3
  generalize hg : w.heap.size = g3 at hx3 hx5 hx6 hx7 hlt ⊢
  have HG := Lib.hid hg
  clear hg
  generalize hg : g3 + 1 = g5 at hx5 hx6 hx7 ⊢
  have HG1 := Lib.hid hg
  clear hg
  generalize hg : g5 + 1 = g6 at hx6 hx7 ⊢
  have HG2 := Lib.hid hg
  clear hg
  generalize hg : g6 + 1 = g7 at hx7 ⊢
  have HG3 := Lib.hid hg
  clear hg
  have HXg3 : Hid (HAt W0 g3 h) := Lib.hid hx3
  have HXg5 : Hid (InAt W0 g5 o d (A : Int) b n) := Lib.hid hx5
  have HXg6 : Hid (HAt W0 g6 (fun _ => 0)) := Lib.hid hx6
  have HXg7 : Hid (EfAt W0 g7 e0) := Lib.hid hx7
  have HB : Hid (Bel w W0) := Lib.hid hb
  clear hb hlt hx3 hx5 hx6 hx7
  rename_i K hK
  refine wp_region_list ?_
  refine wpList_load_row rfl 28 (.tmp 3) rfl g3 rfl 28 (hC h) (0, 0) _ HXg3.out Tryd.underlying28 rfl (sz_hart _) ?_
  try simp only [Act.put, la, lz, ls]
  refine wpList_one rfl (w' := W0) (v := .int .i64 id) rfl ?_
  try simp only [Act.put, la, lz, ls]
  refine wpList_one rfl (w' := W0) (v := .pointer (some ⟨g5, 4, none⟩)) (by kernel_rfl) ?_
  try simp only [Act.put, la, lz, ls]
  refine wpList_load_cell rfl 3 (.tmp 17) rfl ⟨g5, 4, none⟩ rfl (.int .i64 n) _ HXg5.out.cells.2.2.2.2 Tryd.underlying3 rfl ?_
  try simp only [Act.put, la, lz, ls]
  refine wpList_call rfl (f := 70) (args := #[hv h, .int .i64 id, .int .i64 n]) (v := .tuple #[.int .i64 0, .bool false]) (by kernel_rfl) (HC _) ?_
  intro V1 hb
  replace HB : Hid (Bel w V1) := Lib.hid (HB.out.trans hb)
  replace HXg3 : Hid (HAt V1 g3 h) := Lib.hid (HXg3.out.bel hb)
  replace HXg5 : Hid (InAt V1 g5 o d (A : Int) b n) := Lib.hid (HXg5.out.bel hb)
  replace HXg6 : Hid (HAt V1 g6 (fun _ => 0)) := Lib.hid (HXg6.out.bel hb)
  replace HXg7 : Hid (EfAt V1 g7 e0) := Lib.hid (HXg7.out.bel hb)
  clear hb
  try simp only [Act.put, la, lz, ls]
  refine wpList_one rfl (w' := V1) (v := .tuple #[.int .i64 0, .bool false]) rfl ?_
  try simp only [Act.put, la, lz, ls]
  refine wpList_one rfl (w' := V1) (v := .int .i64 0) rfl ?_
  try simp only [Act.put, la, lz, ls]
  refine wpList_one rfl (w' := V1) (v := .bool false) rfl ?_
  try simp only [Act.put, la, lz, ls]
  refine wpList_one rfl (w' := V1) (v := .int .i64 0) rfl ?_
  try simp only [Act.put, la, lz, ls]
  refine wpList_one rfl (w' := V1) (v := .bool false) rfl ?_
  try simp only [Act.put, la, lz, ls]
  refine wpList_nil ?_
  refine hK _ _ ?_
  clear hK K
  go_upto_region 2 with (fail)
  rename_i K hK
  refine wp_region_list ?_
  refine wpList_one rfl (w' := V1) (v := .bool false) rfl ?_
  try simp only [Act.put, la, lz, ls]
  refine wpList_one rfl (w' := V1) (v := .bool true) (by kernel_rfl) ?_
  try simp only [Act.put, la, lz, ls]
  refine wpList_nil ?_
  refine hK _ _ ?_
  clear hK K
  go_upto_region 3 with (fail)
  rename_i K hK
  refine wp_region_list ?_
  refine wpList_load_row rfl 28 (.tmp 3) rfl g3 rfl 28 (hC h) (0, 0) _ HXg3.out Tryd.underlying28 rfl (sz_hart _) ?_
  try simp only [Act.put, la, lz, ls]
  refine wpList_one rfl (w' := V1) (v := .agg (eC eBad)) (by kernel_rfl) ?_
  try simp only [Act.put, la, lz, ls]
  refine wpList_store_row rfl 28 (.tmp 6) (.tmp 24) rfl g6 (hC h) rfl rfl 28 (hC (fun _ => 0)) HXg6.out (sz_hart _) (by rw [hC_size, hC_size]) (hC_ones _) ?_
  have hn := row_same (cs := (hC h)) HXg6.out
  have hb := row_bel HB.out (g := g6) (by have := HG.out; have := HG1.out; have := HG2.out; have := HG3.out; omega) (hC h)
  have hg3 := (setRow_other V1 g6 g3 (hC h) (by have := HG.out; have := HG1.out; have := HG2.out; have := HG3.out; omega)).trans HXg3.out
  have hg5 := (setRow_other V1 g6 g5 (hC h) (by have := HG.out; have := HG1.out; have := HG2.out; have := HG3.out; omega)).trans HXg5.out
  have hg7 := (setRow_other V1 g6 g7 (hC h) (by have := HG.out; have := HG1.out; have := HG2.out; have := HG3.out; omega)).trans HXg7.out
  generalize V1.setRow g6 (hC h) = V2 at hn hb hg3 hg5 hg7 ⊢
  clear HB HXg3 HXg5 HXg6 HXg7
  have HB : Hid (Bel w V2) := Lib.hid hb
  have HXg3 : Hid (HAt V2 g3 h) := Lib.hid hg3
  have HXg5 : Hid (InAt V2 g5 o d (A : Int) b n) := Lib.hid hg5
  have HXg7 : Hid (EfAt V2 g7 e0) := Lib.hid hg7
  have HXg6 : Hid (HAt V2 g6 h) := Lib.hid hn
  clear hn hb hg3 hg5 hg7
  try simp only [Act.put, la, lz, ls]
  refine wpList_store_row rfl 34 (.tmp 7) (.tmp 25) rfl g7 (eC eBad) rfl rfl 34 (eC e0) HXg7.out (sz_eff _) rfl (eC_ones _) ?_
  have hn := row_same (cs := (eC eBad)) HXg7.out
  have hb := row_bel HB.out (g := g7) (by have := HG.out; have := HG1.out; have := HG2.out; have := HG3.out; omega) (eC eBad)
  have hg3 := (setRow_other V2 g7 g3 (eC eBad) (by have := HG.out; have := HG1.out; have := HG2.out; have := HG3.out; omega)).trans HXg3.out
  have hg5 := (setRow_other V2 g7 g5 (eC eBad) (by have := HG.out; have := HG1.out; have := HG2.out; have := HG3.out; omega)).trans HXg5.out
  have hg6 := (setRow_other V2 g7 g6 (eC eBad) (by have := HG.out; have := HG1.out; have := HG2.out; have := HG3.out; omega)).trans HXg6.out
  generalize V2.setRow g7 (eC eBad) = V3 at hn hb hg3 hg5 hg6 ⊢
  clear HB HXg3 HXg5 HXg6 HXg7
  have HB : Hid (Bel w V3) := Lib.hid hb
  have HXg3 : Hid (HAt V3 g3 h) := Lib.hid hg3
  have HXg5 : Hid (InAt V3 g5 o d (A : Int) b n) := Lib.hid hg5
  have HXg6 : Hid (HAt V3 g6 h) := Lib.hid hg6
  have HXg7 : Hid (EfAt V3 g7 eBad) := Lib.hid hn
  clear hn hb hg3 hg5 hg6
  try simp only [Act.put, la, lz, ls]
  refine wpList_nil ?_
  refine hK _ _ (wp_ret ?_)
  exact bodyPost_ret (results_cells2 Tryd.results44 _ _ g6 g7 _ _ _ _ _ _ _ _ (by rfl) (by rfl) HXg6.out HXg7.out Tryd.underlying28 rfl (sz_hart _) Tryd.underlying34 rfl (sz_eff _)) (by rfl) ⟨rfl, HB.out⟩
theorem rcsr {h h1 h2 : H} {o id d b n was x z m : Int} {A : Nat} (lA : A < 32) (HC : Hid (∀ W, Calls Tryd.prog 70 #[hv h, .int .i64 id, .int .i64 n] W (OneV (.tuple #[.int .i64 was, .bool true]) W))) (hx : Plain.one 17 (h A) = x) (hz1 : o = 41 → Plain.two 7 was (h A) = z) (hz2 : o = 42 → Plain.two 6 was x = z) (hz0 : o ≠ 41 → o ≠ 42 → h A = z)
    (HS : Hid (∀ W, Calls Tryd.prog 72 #[hv h, .int .i64 n, .int .i64 z] W (OneV (hv h1) W))) (hp : put h1 d was = h2) (hm : wrap32 (h 32 + 4) = m) {w : World} :
    Calls Tryd.prog 44 #[hv h, .int .i64 id, iv o d (A : Int) b n] w (OneV (.tuple #[hv (up h2 32 m), .agg (eC e0)]) w) := by
  have HX := Lib.hid hx
  have Z1 := Lib.hid hz1
  have Z2 := Lib.hid hz2
  have Z0 := Lib.hid hz0
  have HP := Lib.hid hp
  have HM := Lib.hid hm
  clear hx hz1 hz2 hz0 hp hm
  have hz := zero_hart
  go_enter Tryd.func44, Tryd.ntmps44
  go_upto_region 1 with (fail)
  obtain ⟨W0, hW, hb, hx3, hx5, hx6, hx7⟩ := boxes4 w (hC h) (iC o d (A : Int) b n) hZ (eC e0) 28 24 28 34
  first | rw [← hW] | (show Code.wp _ _ _ _ ((((w.alloc (.cells (hC h) 28)).alloc (.cells (iC o d (A : Int) b n) 24)).alloc (.cells hZ 28)).alloc (.cells (eC e0) 34)); rw [← hW])
  clear hz hW
  have hlt : w.heap.size < W0.heap.size := lt_of_heap hx3
  generalize hg : w.heap.size = g3 at hx3 hx5 hx6 hx7 hlt ⊢
  have HG := Lib.hid hg
  clear hg
  generalize hg : g3 + 1 = g5 at hx5 hx6 hx7 ⊢
  have HG1 := Lib.hid hg
  clear hg
  generalize hg : g5 + 1 = g6 at hx6 hx7 ⊢
  have HG2 := Lib.hid hg
  clear hg
  generalize hg : g6 + 1 = g7 at hx7 ⊢
  have HG3 := Lib.hid hg
  clear hg
  have HXg3 : Hid (HAt W0 g3 h) := Lib.hid hx3
  have HXg5 : Hid (InAt W0 g5 o d (A : Int) b n) := Lib.hid hx5
  have HXg6 : Hid (HAt W0 g6 (fun _ => 0)) := Lib.hid hx6
  have HXg7 : Hid (EfAt W0 g7 e0) := Lib.hid hx7
  have HB : Hid (Bel w W0) := Lib.hid hb
  clear hb hlt hx3 hx5 hx6 hx7
  rename_i K hK
  refine wp_region_list ?_
  refine wpList_load_row rfl 28 (.tmp 3) rfl g3 rfl 28 (hC h) (0, 0) _ HXg3.out Tryd.underlying28 rfl (sz_hart _) ?_
  try simp only [Act.put, la, lz, ls]
  refine wpList_one rfl (w' := W0) (v := .int .i64 id) rfl ?_
  try simp only [Act.put, la, lz, ls]
  refine wpList_one rfl (w' := W0) (v := .pointer (some ⟨g5, 4, none⟩)) (by kernel_rfl) ?_
  try simp only [Act.put, la, lz, ls]
  refine wpList_load_cell rfl 3 (.tmp 17) rfl ⟨g5, 4, none⟩ rfl (.int .i64 n) _ HXg5.out.cells.2.2.2.2 Tryd.underlying3 rfl ?_
  try simp only [Act.put, la, lz, ls]
  refine wpList_call rfl (f := 70) (args := #[hv h, .int .i64 id, .int .i64 n]) (v := .tuple #[.int .i64 was, .bool true]) (by kernel_rfl) (HC.out _) ?_
  intro V1 hb
  replace HB : Hid (Bel w V1) := Lib.hid (HB.out.trans hb)
  replace HXg3 : Hid (HAt V1 g3 h) := Lib.hid (HXg3.out.bel hb)
  replace HXg5 : Hid (InAt V1 g5 o d (A : Int) b n) := Lib.hid (HXg5.out.bel hb)
  replace HXg6 : Hid (HAt V1 g6 (fun _ => 0)) := Lib.hid (HXg6.out.bel hb)
  replace HXg7 : Hid (EfAt V1 g7 e0) := Lib.hid (HXg7.out.bel hb)
  clear hb
  try simp only [Act.put, la, lz, ls]
  refine wpList_one rfl (w' := V1) (v := .tuple #[.int .i64 was, .bool true]) rfl ?_
  try simp only [Act.put, la, lz, ls]
  refine wpList_one rfl (w' := V1) (v := .int .i64 was) rfl ?_
  try simp only [Act.put, la, lz, ls]
  refine wpList_one rfl (w' := V1) (v := .bool true) rfl ?_
  try simp only [Act.put, la, lz, ls]
  refine wpList_one rfl (w' := V1) (v := .int .i64 was) rfl ?_
  try simp only [Act.put, la, lz, ls]
  refine wpList_one rfl (w' := V1) (v := .bool true) rfl ?_
  try simp only [Act.put, la, lz, ls]
  refine wpList_nil ?_
  refine hK _ _ ?_
  clear hK K
  go_upto_region 2 with (fail)
  rename_i K hK
  refine wp_region_list ?_
  refine wpList_one rfl (w' := V1) (v := .bool true) rfl ?_
  try simp only [Act.put, la, lz, ls]
  refine wpList_one rfl (w' := V1) (v := .bool false) (by kernel_rfl) ?_
  try simp only [Act.put, la, lz, ls]
  refine wpList_nil ?_
  refine hK _ _ ?_
  clear hK K
  go_upto_region 4 with (fail)
  rename_i K hK
  refine wp_region_list ?_
  refine wpList_one rfl (w' := V1) (v := .pointer (some ⟨g5, 2, none⟩)) (by kernel_rfl) ?_
  try simp only [Act.put, la, lz, ls]
  refine wpList_load_cell rfl 3 (.tmp 26) rfl ⟨g5, 2, none⟩ rfl (.int .i64 (A : Int)) _ HXg5.out.cells.2.2.1 Tryd.underlying3 rfl ?_
  try simp only [Act.put, la, lz, ls]
  refine wpList_one rfl (w' := V1) (v := .pointer (some ⟨g3, 0, none⟩)) (by kernel_rfl) ?_
  try simp only [Act.put, la, lz, ls]
  refine wpList_one rfl (w' := V1) (v := .pointer (some ⟨g3, A, none⟩)) (exec_reg rfl g3 A (by omega) rfl rfl _) ?_
  try simp only [Act.put, la, lz, ls]
  refine wpList_load_cell rfl 3 (.tmp 29) rfl ⟨g3, A, none⟩ rfl (.int .i64 (h A)) _ (HXg3.out.cell (j := A) (by omega)) Tryd.underlying3 rfl ?_
  try simp only [Act.put, la, lz, ls]
  refine wpList_one rfl (w' := V1) (v := .int .i64 (h A)) rfl ?_
  try simp only [Act.put, la, lz, ls]
  refine wpList_nil ?_
  refine hK _ _ ?_
  clear hK K
  go_upto_region 5 with (fail)
  rename_i K hK
  refine wp_region_list ?_
  refine wpList_one rfl (w' := V1) (v := .int .i64 (h A)) rfl ?_
  try simp only [Act.put, la, lz, ls]
  refine wpList_call rfl (f := 71) (args := #[.int .i64 17, .int .i64 (h A)]) (v := .tuple #[.int .i64 x, .bool true]) (by kernel_rfl) (rol HX.out (by rfl) _) ?_
  intro V2 hb
  replace HB : Hid (Bel w V2) := Lib.hid (HB.out.trans hb)
  replace HXg3 : Hid (HAt V2 g3 h) := Lib.hid (HXg3.out.bel hb)
  replace HXg5 : Hid (InAt V2 g5 o d (A : Int) b n) := Lib.hid (HXg5.out.bel hb)
  replace HXg6 : Hid (HAt V2 g6 (fun _ => 0)) := Lib.hid (HXg6.out.bel hb)
  replace HXg7 : Hid (EfAt V2 g7 e0) := Lib.hid (HXg7.out.bel hb)
  clear hb
  try simp only [Act.put, la, lz, ls]
  refine wpList_one rfl (w' := V2) (v := .tuple #[.int .i64 x, .bool true]) rfl ?_
  try simp only [Act.put, la, lz, ls]
  refine wpList_one rfl (w' := V2) (v := .int .i64 x) rfl ?_
  try simp only [Act.put, la, lz, ls]
  refine wpList_one rfl (w' := V2) (v := .bool true) rfl ?_
  try simp only [Act.put, la, lz, ls]
  refine wpList_one rfl (w' := V2) (v := .int .i64 x) rfl ?_
  try simp only [Act.put, la, lz, ls]
  refine wpList_one rfl (w' := V2) (v := .bool true) rfl ?_
  try simp only [Act.put, la, lz, ls]
  refine wpList_nil ?_
  refine hK _ _ ?_
  clear hK K
  go_upto_region 6 with (fail)
  rename_i K hK
  refine wp_region_list ?_
  refine wpList_one rfl (w' := V2) (v := .pointer (some ⟨g5, 0, none⟩)) (by kernel_rfl) ?_
  try simp only [Act.put, la, lz, ls]
  refine wpList_load_cell rfl 3 (.tmp 36) rfl ⟨g5, 0, none⟩ rfl (.int .i64 o) _ HXg5.out.cells.1 Tryd.underlying3 rfl ?_
  try simp only [Act.put, la, lz, ls]
  refine wpList_nil ?_
  refine hK _ _ ?_
  clear hK K
  go_upto_block 0 with (fail)
  go_cut [10] (fun v wx => v = .int .i64 z ∧ Hid (Bel w wx) ∧ Hid (HAt wx g3 h) ∧ Hid (InAt wx g5 o d (A : Int) b n) ∧ Hid (HAt wx g6 (fun _ => 0)) ∧ Hid (EfAt wx g7 e0))
  case first =>
    rename_i JJ KJ hJ hK0
    by_cases c1 : o = 41
    · have hz := Z1.out c1
      have HZ := Lib.hid hz
      have EQ := Lib.hid c1
      clear hz c1
      go_upto_region 7 with (fail)
      rename_i K hK
      refine wp_region_list ?_
      refine wpList_one rfl (w' := V2) (v := .bool true) (exec_eqI rfl rfl rfl EQ.out _) ?_
      try simp only [Act.put, la, lz, ls]
      refine wpList_one rfl (w' := V2) (v := .bool true) rfl ?_
      try simp only [Act.put, la, lz, ls]
      refine wpList_nil ?_
      refine hK _ _ ?_
      clear hK K
      go_upto_region 8 with (fail)
      refine wp_region_list ?_
      refine wpList_one rfl (w' := V2) (v := .int .i64 was) rfl ?_
      try simp only [Act.put, la, lz, ls]
      refine wpList_one rfl (w' := V2) (v := .int .i64 (h A)) rfl ?_
      try simp only [Act.put, la, lz, ls]
      refine wpList_call rfl (f := 42) (args := #[.int .i64 7, .int .i64 was, .int .i64 (h A)]) (v := .tuple #[.int .i64 z, .bool true]) (by kernel_rfl) (rtl HZ.out (by rfl) _) ?_
      intro V3 hb
      replace HB : Hid (Bel w V3) := Lib.hid (HB.out.trans hb)
      replace HXg3 : Hid (HAt V3 g3 h) := Lib.hid (HXg3.out.bel hb)
      replace HXg5 : Hid (InAt V3 g5 o d (A : Int) b n) := Lib.hid (HXg5.out.bel hb)
      replace HXg6 : Hid (HAt V3 g6 (fun _ => 0)) := Lib.hid (HXg6.out.bel hb)
      replace HXg7 : Hid (EfAt V3 g7 e0) := Lib.hid (HXg7.out.bel hb)
      clear hb
      try simp only [Act.put, la, lz, ls]
      refine wpList_one rfl (w' := V3) (v := .tuple #[.int .i64 z, .bool true]) rfl ?_
      try simp only [Act.put, la, lz, ls]
      refine wpList_one rfl (w' := V3) (v := .int .i64 z) rfl ?_
      try simp only [Act.put, la, lz, ls]
      refine wpList_one rfl (w' := V3) (v := .bool true) rfl ?_
      try simp only [Act.put, la, lz, ls]
      refine wpList_one rfl (w' := V3) (v := .int .i64 z) rfl ?_
      try simp only [Act.put, la, lz, ls]
      refine wpList_nil ?_
      refine hK0 _ _ ?_
      first | go_meet | (go_wp2_with fail; go_meet)
      exact ⟨rfl, HB, HXg3, HXg5, HXg6, HXg7⟩
    have N1 := Lib.hid c1
    clear c1
    go_upto_region 7 with (fail)
    rename_i K hK
    refine wp_region_list ?_
    refine wpList_one rfl (w' := V2) (v := .bool false) (exec_eqF rfl rfl rfl N1.out _) ?_
    try simp only [Act.put, la, lz, ls]
    refine wpList_one rfl (w' := V2) (v := .bool false) rfl ?_
    try simp only [Act.put, la, lz, ls]
    refine wpList_nil ?_
    refine hK _ _ ?_
    clear hK K
    by_cases c2 : o = 42
    · have hz := Z2.out c2
      have HZ := Lib.hid hz
      have EQ := Lib.hid c2
      clear hz c2
      go_upto_region 9 with (fail)
      rename_i K hK
      refine wp_region_list ?_
      refine wpList_one rfl (w' := V2) (v := .bool true) (exec_eqI rfl rfl rfl EQ.out _) ?_
      try simp only [Act.put, la, lz, ls]
      refine wpList_one rfl (w' := V2) (v := .bool true) rfl ?_
      try simp only [Act.put, la, lz, ls]
      refine wpList_nil ?_
      refine hK _ _ ?_
      clear hK K
      go_upto_region 10 with (fail)
      refine wp_region_list ?_
      refine wpList_one rfl (w' := V2) (v := .int .i64 was) rfl ?_
      try simp only [Act.put, la, lz, ls]
      refine wpList_one rfl (w' := V2) (v := .int .i64 x) rfl ?_
      try simp only [Act.put, la, lz, ls]
      refine wpList_call rfl (f := 42) (args := #[.int .i64 6, .int .i64 was, .int .i64 x]) (v := .tuple #[.int .i64 z, .bool true]) (by kernel_rfl) (rtl HZ.out (by rfl) _) ?_
      intro V3 hb
      replace HB : Hid (Bel w V3) := Lib.hid (HB.out.trans hb)
      replace HXg3 : Hid (HAt V3 g3 h) := Lib.hid (HXg3.out.bel hb)
      replace HXg5 : Hid (InAt V3 g5 o d (A : Int) b n) := Lib.hid (HXg5.out.bel hb)
      replace HXg6 : Hid (HAt V3 g6 (fun _ => 0)) := Lib.hid (HXg6.out.bel hb)
      replace HXg7 : Hid (EfAt V3 g7 e0) := Lib.hid (HXg7.out.bel hb)
      clear hb
      try simp only [Act.put, la, lz, ls]
      refine wpList_one rfl (w' := V3) (v := .tuple #[.int .i64 z, .bool true]) rfl ?_
      try simp only [Act.put, la, lz, ls]
      refine wpList_one rfl (w' := V3) (v := .int .i64 z) rfl ?_
      try simp only [Act.put, la, lz, ls]
      refine wpList_one rfl (w' := V3) (v := .bool true) rfl ?_
      try simp only [Act.put, la, lz, ls]
      refine wpList_one rfl (w' := V3) (v := .int .i64 z) rfl ?_
      try simp only [Act.put, la, lz, ls]
      refine wpList_nil ?_
      refine hK0 _ _ ?_
      first | go_meet | (go_wp2_with fail; go_meet)
      exact ⟨rfl, HB, HXg3, HXg5, HXg6, HXg7⟩
    have N2 := Lib.hid c2
    clear c2
    go_upto_region 9 with (fail)
    rename_i K hK
    refine wp_region_list ?_
    refine wpList_one rfl (w' := V2) (v := .bool false) (exec_eqF rfl rfl rfl N2.out _) ?_
    try simp only [Act.put, la, lz, ls]
    refine wpList_one rfl (w' := V2) (v := .bool false) rfl ?_
    try simp only [Act.put, la, lz, ls]
    refine wpList_nil ?_
    refine hK _ _ ?_
    clear hK K
    first | go_meet | (go_wp2_with fail; go_meet)
    exact ⟨by rw [Z0.out N1.out N2.out], HB, HXg3, HXg5, HXg6, HXg7⟩
  case rest =>
    clear HB HXg3 HXg5 HXg6 HXg7
    obtain ⟨rfl, HB, HXg3, HXg5, HXg6, HXg7⟩ := hcut
    go_upto_region 11 with (fail)
    rename_i K hK
    exact wp_meet1 _ (fun b13 V313 => Bel w V313 ∧ HAt V313 g3 h ∧ InAt V313 g5 o d (A : Int) b n ∧ HAt V313 g6 (fun _ => 0) ∧ EfAt V313 g7 e0 ∧ HAt V313 b13 h2 ∧ (g7 < b13)) (by
      refine Upto.begin (z := 10) (T := fun w' => HAt w' g3 h ∧ InAt w' g5 o d (A : Int) b n) (by kernel_rfl) ?_
      have hb : Bel wc wc.drew := (Bel.refl wc).drew
      generalize wc.drew = V301 at hb ⊢
      replace HB : Hid (Bel w V301) := Lib.hid (HB.out.trans hb)
      replace HXg3 : Hid (HAt V301 g3 h) := Lib.hid (HXg3.out.bel hb)
      replace HXg5 : Hid (InAt V301 g5 o d (A : Int) b n) := Lib.hid (HXg5.out.bel hb)
      replace HXg6 : Hid (HAt V301 g6 (fun _ => 0)) := Lib.hid (HXg6.out.bel hb)
      replace HXg7 : Hid (EfAt V301 g7 e0) := Lib.hid (HXg7.out.bel hb)
      clear hb
      have hT : HAt V301 g3 h ∧ InAt V301 g5 o d (A : Int) b n := ⟨HXg3.out, HXg5.out⟩
      refine takeU 54 (i := 0) (v := hv h) rfl rfl rfl (by kernel_rfl) (by kernel_rfl) (by kernel_rfl) (by kernel_rfl) (fun _ _ _ h => nomatch h.1) (by kernel_rfl) (fun w0 hS => (exec_row 28 (.tmp 3) rfl g3 rfl 28 (hC h) (0, 0) _ hS.1 Tryd.underlying28 rfl (sz_hart _))) hT ?_
      try simp only [la, lz, ls]
      refine takeU 55 (i := 1) (v := .pointer (some ⟨g5, 4, none⟩)) rfl rfl rfl (by kernel_rfl) (by kernel_rfl) (by kernel_rfl) (by kernel_rfl) (fun _ _ _ h => nomatch h.1) (by kernel_rfl) (fun w0 hS => (by kernel_rfl)) hT ?_
      try simp only [la, lz, ls]
      refine takeU 56 (i := 2) (v := .int .i64 n) rfl rfl rfl (by kernel_rfl) (by kernel_rfl) (by kernel_rfl) (by kernel_rfl) (fun _ _ _ h => nomatch h.1) (by kernel_rfl) (fun w0 hS => (exec_cell 3 (.tmp 55) rfl ⟨g5, 4, none⟩ rfl _ _ (hS.2).cells.2.2.2.2 Tryd.underlying3 rfl)) hT ?_
      try simp only [la, lz, ls]
      refine takeU 57 (i := 3) (v := .int .i64 z) rfl rfl rfl (by kernel_rfl) (by kernel_rfl) (by kernel_rfl) (by kernel_rfl) (fun _ _ _ h => nomatch h.1) (by kernel_rfl) (fun w0 hS => rfl) hT ?_
      try simp only [la, lz, ls]
      refine takeU 59 (i := 5) (v := .pointer (some ⟨g5, 1, none⟩)) rfl rfl rfl (by kernel_rfl) (by kernel_rfl) (by kernel_rfl) (by kernel_rfl) (fun _ _ _ h => nomatch h.1) (by kernel_rfl) (fun w0 hS => (by kernel_rfl)) hT ?_
      try simp only [la, lz, ls]
      refine takeU 60 (i := 6) (v := .int .i64 d) rfl rfl rfl (by kernel_rfl) (by kernel_rfl) (by kernel_rfl) (by kernel_rfl) (fun _ _ _ h => nomatch h.1) (by kernel_rfl) (fun w0 hS => (exec_cell 3 (.tmp 59) rfl ⟨g5, 1, none⟩ rfl _ _ (hS.2).cells.2.1 Tryd.underlying3 rfl)) hT ?_
      try simp only [la, lz, ls]
      refine takeU 61 (i := 7) (v := .int .i64 was) rfl rfl rfl (by kernel_rfl) (by kernel_rfl) (by kernel_rfl) (by kernel_rfl) (fun _ _ _ h => nomatch h.1) (by kernel_rfl) (fun w0 hS => rfl) hT ?_
      try simp only [la, lz, ls]
      refine Upto.two (i := 4) (j := 9) (by kernel_rfl) ?_ ?_
      ·
        refine callC 58 (i := 4) rfl rfl (by kernel_rfl) (f := 72) (args := #[hv h, .int .i64 n, .int .i64 z]) (v := hv h1) (by kernel_rfl) (HS.out _) (fun w' hb => ⟨HXg3.out.bel hb, HXg5.out.bel hb⟩) ?_
        intro V302 hb
        try simp only [la, lz, ls]
        replace HB : Hid (Bel w V302) := Lib.hid (HB.out.trans hb)
        replace HXg3 : Hid (HAt V302 g3 h) := Lib.hid (HXg3.out.bel hb)
        replace HXg5 : Hid (InAt V302 g5 o d (A : Int) b n) := Lib.hid (HXg5.out.bel hb)
        replace HXg6 : Hid (HAt V302 g6 (fun _ => 0)) := Lib.hid (HXg6.out.bel hb)
        replace HXg7 : Hid (EfAt V302 g7 e0) := Lib.hid (HXg7.out.bel hb)
        clear hb hT
        have hT : HAt V302 g3 h ∧ InAt V302 g5 o d (A : Int) b n := ⟨HXg3.out, HXg5.out⟩
        refine Upto.two (i := 8) (j := 9) (by kernel_rfl) ?_ ?_
        ·
          refine callC 62 (i := 8) rfl rfl (by kernel_rfl) (f := 19) (args := #[hv h1, .int .i64 d, .int .i64 was]) (v := hv h2) (by kernel_rfl) (rput_lit HP.out _) (fun w' hb => ⟨HXg3.out.bel hb, HXg5.out.bel hb⟩) ?_
          intro V303 hb
          try simp only [la, lz, ls]
          replace HB : Hid (Bel w V303) := Lib.hid (HB.out.trans hb)
          replace HXg3 : Hid (HAt V303 g3 h) := Lib.hid (HXg3.out.bel hb)
          replace HXg5 : Hid (InAt V303 g5 o d (A : Int) b n) := Lib.hid (HXg5.out.bel hb)
          replace HXg6 : Hid (HAt V303 g6 (fun _ => 0)) := Lib.hid (HXg6.out.bel hb)
          replace HXg7 : Hid (EfAt V303 g7 e0) := Lib.hid (HXg7.out.bel hb)
          clear hb hT
          have hT : HAt V303 g3 h ∧ InAt V303 g5 o d (A : Int) b n := ⟨HXg3.out, HXg5.out⟩
          refine Upto.one (i := 9) (by kernel_rfl) ?_
          obtain ⟨hb, hx⟩ := box1 V303 hZ 28
          refine stepC 13 (i := 9) rfl rfl (by kernel_rfl) (w' := V303.alloc (.cells hZ 28)) (v := .pointer (some ⟨V303.heap.size, 0, none⟩)) (by kernel_rfl) (⟨HXg3.out.bel hb, HXg5.out.bel hb⟩) ?_
          try simp only [la, lz, ls]
          have hl := lt_of_heap HXg7.out
          clear hT
          generalize V303.alloc (.cells hZ 28) = V304 at hb hx ⊢
          generalize V303.heap.size = b13 at hx hl ⊢
          have HG4 := Lib.hid hl
          clear hl
          replace HB : Hid (Bel w V304) := Lib.hid (HB.out.trans hb)
          replace HXg3 : Hid (HAt V304 g3 h) := Lib.hid (HXg3.out.bel hb)
          replace HXg5 : Hid (InAt V304 g5 o d (A : Int) b n) := Lib.hid (HXg5.out.bel hb)
          replace HXg6 : Hid (HAt V304 g6 (fun _ => 0)) := Lib.hid (HXg6.out.bel hb)
          replace HXg7 : Hid (EfAt V304 g7 e0) := Lib.hid (HXg7.out.bel hb)
          have HXb13 : Hid (HAt V304 b13 (fun _ => 0)) := Lib.hid hx
          clear hb hx
          have hT : HAt V304 g3 h ∧ InAt V304 g5 o d (A : Int) b n := ⟨HXg3.out, HXg5.out⟩
          have hn := row_same (cs := (hC h2)) HXb13.out
          have hb := row_bel HB.out (g := b13) (by have := HG.out; have := HG1.out; have := HG2.out; have := HG3.out; have := HG4.out; omega) (hC h2)
          have hg3 := (setRow_other V304 b13 g3 (hC h2) (by have := HG.out; have := HG1.out; have := HG2.out; have := HG3.out; have := HG4.out; omega)).trans HXg3.out
          have hg5 := (setRow_other V304 b13 g5 (hC h2) (by have := HG.out; have := HG1.out; have := HG2.out; have := HG3.out; have := HG4.out; omega)).trans HXg5.out
          have hg6 := (setRow_other V304 b13 g6 (hC h2) (by have := HG.out; have := HG1.out; have := HG2.out; have := HG3.out; have := HG4.out; omega)).trans HXg6.out
          have hg7 := (setRow_other V304 b13 g7 (hC h2) (by have := HG.out; have := HG1.out; have := HG2.out; have := HG3.out; have := HG4.out; omega)).trans HXg7.out
          refine rowL rfl rfl (by kernel_rfl) (by kernel_rfl) 28 (.tmp 13) (.tmp 62) rfl b13 (hC h2) rfl rfl 28 (hC (fun _ => 0)) HXb13.out (sz_hart _) (by rw [hC_size, hC_size]) (hC_ones _) ?_
          generalize V304.setRow b13 (hC h2) = V305 at hn hb hg3 hg5 hg6 hg7 ⊢
          clear hT HB HXg3 HXg5 HXg6 HXg7 HXb13
          have HB : Hid (Bel w V305) := Lib.hid hb
          have HXg3 : Hid (HAt V305 g3 h) := Lib.hid hg3
          have HXg5 : Hid (InAt V305 g5 o d (A : Int) b n) := Lib.hid hg5
          have HXg6 : Hid (HAt V305 g6 (fun _ => 0)) := Lib.hid hg6
          have HXg7 : Hid (EfAt V305 g7 e0) := Lib.hid hg7
          have HXb13 : Hid (HAt V305 b13 h2) := Lib.hid hn
          clear hn hb hg3 hg5 hg6 hg7
          have hT := True.intro
          refine Upto.done (by kernel_rfl) ?_ _
          clear hT
          exact ⟨rfl, b13, rfl, HB.out, HXg3.out, HXg5.out, HXg6.out, HXg7.out, HXb13.out, (by have := HG4.out; omega)⟩
        ·
          obtain ⟨hb, hx⟩ := box1 V302 hZ 28
          refine stepC 13 (i := 9) rfl rfl (by kernel_rfl) (w' := V302.alloc (.cells hZ 28)) (v := .pointer (some ⟨V302.heap.size, 0, none⟩)) (by kernel_rfl) (⟨HXg3.out.bel hb, HXg5.out.bel hb⟩) ?_
          try simp only [la, lz, ls]
          have hl := lt_of_heap HXg7.out
          clear hT
          generalize V302.alloc (.cells hZ 28) = V306 at hb hx ⊢
          generalize V302.heap.size = b13 at hx hl ⊢
          have HG4 := Lib.hid hl
          clear hl
          replace HB : Hid (Bel w V306) := Lib.hid (HB.out.trans hb)
          replace HXg3 : Hid (HAt V306 g3 h) := Lib.hid (HXg3.out.bel hb)
          replace HXg5 : Hid (InAt V306 g5 o d (A : Int) b n) := Lib.hid (HXg5.out.bel hb)
          replace HXg6 : Hid (HAt V306 g6 (fun _ => 0)) := Lib.hid (HXg6.out.bel hb)
          replace HXg7 : Hid (EfAt V306 g7 e0) := Lib.hid (HXg7.out.bel hb)
          have HXb13 : Hid (HAt V306 b13 (fun _ => 0)) := Lib.hid hx
          clear hb hx
          have hT : HAt V306 g3 h ∧ InAt V306 g5 o d (A : Int) b n := ⟨HXg3.out, HXg5.out⟩
          refine Upto.one (i := 8) (by kernel_rfl) ?_
          refine callC 62 (i := 8) rfl rfl (by kernel_rfl) (f := 19) (args := #[hv h1, .int .i64 d, .int .i64 was]) (v := hv h2) (by kernel_rfl) (rput_lit HP.out _) (fun w' hb => ⟨HXg3.out.bel hb, HXg5.out.bel hb⟩) ?_
          intro V307 hb
          try simp only [la, lz, ls]
          replace HB : Hid (Bel w V307) := Lib.hid (HB.out.trans hb)
          replace HXg3 : Hid (HAt V307 g3 h) := Lib.hid (HXg3.out.bel hb)
          replace HXg5 : Hid (InAt V307 g5 o d (A : Int) b n) := Lib.hid (HXg5.out.bel hb)
          replace HXg6 : Hid (HAt V307 g6 (fun _ => 0)) := Lib.hid (HXg6.out.bel hb)
          replace HXg7 : Hid (EfAt V307 g7 e0) := Lib.hid (HXg7.out.bel hb)
          replace HXb13 : Hid (HAt V307 b13 (fun _ => 0)) := Lib.hid (HXb13.out.bel hb)
          clear hb hT
          have hT : HAt V307 g3 h ∧ InAt V307 g5 o d (A : Int) b n := ⟨HXg3.out, HXg5.out⟩
          have hn := row_same (cs := (hC h2)) HXb13.out
          have hb := row_bel HB.out (g := b13) (by have := HG.out; have := HG1.out; have := HG2.out; have := HG3.out; have := HG4.out; omega) (hC h2)
          have hg3 := (setRow_other V307 b13 g3 (hC h2) (by have := HG.out; have := HG1.out; have := HG2.out; have := HG3.out; have := HG4.out; omega)).trans HXg3.out
          have hg5 := (setRow_other V307 b13 g5 (hC h2) (by have := HG.out; have := HG1.out; have := HG2.out; have := HG3.out; have := HG4.out; omega)).trans HXg5.out
          have hg6 := (setRow_other V307 b13 g6 (hC h2) (by have := HG.out; have := HG1.out; have := HG2.out; have := HG3.out; have := HG4.out; omega)).trans HXg6.out
          have hg7 := (setRow_other V307 b13 g7 (hC h2) (by have := HG.out; have := HG1.out; have := HG2.out; have := HG3.out; have := HG4.out; omega)).trans HXg7.out
          refine rowL rfl rfl (by kernel_rfl) (by kernel_rfl) 28 (.tmp 13) (.tmp 62) rfl b13 (hC h2) rfl rfl 28 (hC (fun _ => 0)) HXb13.out (sz_hart _) (by rw [hC_size, hC_size]) (hC_ones _) ?_
          generalize V307.setRow b13 (hC h2) = V308 at hn hb hg3 hg5 hg6 hg7 ⊢
          clear hT HB HXg3 HXg5 HXg6 HXg7 HXb13
          have HB : Hid (Bel w V308) := Lib.hid hb
          have HXg3 : Hid (HAt V308 g3 h) := Lib.hid hg3
          have HXg5 : Hid (InAt V308 g5 o d (A : Int) b n) := Lib.hid hg5
          have HXg6 : Hid (HAt V308 g6 (fun _ => 0)) := Lib.hid hg6
          have HXg7 : Hid (EfAt V308 g7 e0) := Lib.hid hg7
          have HXb13 : Hid (HAt V308 b13 h2) := Lib.hid hn
          clear hn hb hg3 hg5 hg6 hg7
          have hT := True.intro
          refine Upto.done (by kernel_rfl) ?_ _
          clear hT
          exact ⟨rfl, b13, rfl, HB.out, HXg3.out, HXg5.out, HXg6.out, HXg7.out, HXb13.out, (by have := HG4.out; omega)⟩
      ·
        obtain ⟨hb, hx⟩ := box1 V301 hZ 28
        refine stepC 13 (i := 9) rfl rfl (by kernel_rfl) (w' := V301.alloc (.cells hZ 28)) (v := .pointer (some ⟨V301.heap.size, 0, none⟩)) (by kernel_rfl) (⟨HXg3.out.bel hb, HXg5.out.bel hb⟩) ?_
        try simp only [la, lz, ls]
        have hl := lt_of_heap HXg7.out
        clear hT
        generalize V301.alloc (.cells hZ 28) = V309 at hb hx ⊢
        generalize V301.heap.size = b13 at hx hl ⊢
        have HG4 := Lib.hid hl
        clear hl
        replace HB : Hid (Bel w V309) := Lib.hid (HB.out.trans hb)
        replace HXg3 : Hid (HAt V309 g3 h) := Lib.hid (HXg3.out.bel hb)
        replace HXg5 : Hid (InAt V309 g5 o d (A : Int) b n) := Lib.hid (HXg5.out.bel hb)
        replace HXg6 : Hid (HAt V309 g6 (fun _ => 0)) := Lib.hid (HXg6.out.bel hb)
        replace HXg7 : Hid (EfAt V309 g7 e0) := Lib.hid (HXg7.out.bel hb)
        have HXb13 : Hid (HAt V309 b13 (fun _ => 0)) := Lib.hid hx
        clear hb hx
        have hT : HAt V309 g3 h ∧ InAt V309 g5 o d (A : Int) b n := ⟨HXg3.out, HXg5.out⟩
        refine Upto.one (i := 4) (by kernel_rfl) ?_
        refine callC 58 (i := 4) rfl rfl (by kernel_rfl) (f := 72) (args := #[hv h, .int .i64 n, .int .i64 z]) (v := hv h1) (by kernel_rfl) (HS.out _) (fun w' hb => ⟨HXg3.out.bel hb, HXg5.out.bel hb⟩) ?_
        intro V310 hb
        try simp only [la, lz, ls]
        replace HB : Hid (Bel w V310) := Lib.hid (HB.out.trans hb)
        replace HXg3 : Hid (HAt V310 g3 h) := Lib.hid (HXg3.out.bel hb)
        replace HXg5 : Hid (InAt V310 g5 o d (A : Int) b n) := Lib.hid (HXg5.out.bel hb)
        replace HXg6 : Hid (HAt V310 g6 (fun _ => 0)) := Lib.hid (HXg6.out.bel hb)
        replace HXg7 : Hid (EfAt V310 g7 e0) := Lib.hid (HXg7.out.bel hb)
        replace HXb13 : Hid (HAt V310 b13 (fun _ => 0)) := Lib.hid (HXb13.out.bel hb)
        clear hb hT
        have hT : HAt V310 g3 h ∧ InAt V310 g5 o d (A : Int) b n := ⟨HXg3.out, HXg5.out⟩
        refine Upto.one (i := 8) (by kernel_rfl) ?_
        refine callC 62 (i := 8) rfl rfl (by kernel_rfl) (f := 19) (args := #[hv h1, .int .i64 d, .int .i64 was]) (v := hv h2) (by kernel_rfl) (rput_lit HP.out _) (fun w' hb => ⟨HXg3.out.bel hb, HXg5.out.bel hb⟩) ?_
        intro V311 hb
        try simp only [la, lz, ls]
        replace HB : Hid (Bel w V311) := Lib.hid (HB.out.trans hb)
        replace HXg3 : Hid (HAt V311 g3 h) := Lib.hid (HXg3.out.bel hb)
        replace HXg5 : Hid (InAt V311 g5 o d (A : Int) b n) := Lib.hid (HXg5.out.bel hb)
        replace HXg6 : Hid (HAt V311 g6 (fun _ => 0)) := Lib.hid (HXg6.out.bel hb)
        replace HXg7 : Hid (EfAt V311 g7 e0) := Lib.hid (HXg7.out.bel hb)
        replace HXb13 : Hid (HAt V311 b13 (fun _ => 0)) := Lib.hid (HXb13.out.bel hb)
        clear hb hT
        have hT : HAt V311 g3 h ∧ InAt V311 g5 o d (A : Int) b n := ⟨HXg3.out, HXg5.out⟩
        have hn := row_same (cs := (hC h2)) HXb13.out
        have hb := row_bel HB.out (g := b13) (by have := HG.out; have := HG1.out; have := HG2.out; have := HG3.out; have := HG4.out; omega) (hC h2)
        have hg3 := (setRow_other V311 b13 g3 (hC h2) (by have := HG.out; have := HG1.out; have := HG2.out; have := HG3.out; have := HG4.out; omega)).trans HXg3.out
        have hg5 := (setRow_other V311 b13 g5 (hC h2) (by have := HG.out; have := HG1.out; have := HG2.out; have := HG3.out; have := HG4.out; omega)).trans HXg5.out
        have hg6 := (setRow_other V311 b13 g6 (hC h2) (by have := HG.out; have := HG1.out; have := HG2.out; have := HG3.out; have := HG4.out; omega)).trans HXg6.out
        have hg7 := (setRow_other V311 b13 g7 (hC h2) (by have := HG.out; have := HG1.out; have := HG2.out; have := HG3.out; have := HG4.out; omega)).trans HXg7.out
        refine rowL rfl rfl (by kernel_rfl) (by kernel_rfl) 28 (.tmp 13) (.tmp 62) rfl b13 (hC h2) rfl rfl 28 (hC (fun _ => 0)) HXb13.out (sz_hart _) (by rw [hC_size, hC_size]) (hC_ones _) ?_
        generalize V311.setRow b13 (hC h2) = V312 at hn hb hg3 hg5 hg6 hg7 ⊢
        clear hT HB HXg3 HXg5 HXg6 HXg7 HXb13
        have HB : Hid (Bel w V312) := Lib.hid hb
        have HXg3 : Hid (HAt V312 g3 h) := Lib.hid hg3
        have HXg5 : Hid (InAt V312 g5 o d (A : Int) b n) := Lib.hid hg5
        have HXg6 : Hid (HAt V312 g6 (fun _ => 0)) := Lib.hid hg6
        have HXg7 : Hid (EfAt V312 g7 e0) := Lib.hid hg7
        have HXb13 : Hid (HAt V312 b13 h2) := Lib.hid hn
        clear hn hb hg3 hg5 hg6 hg7
        have hT := True.intro
        refine Upto.done (by kernel_rfl) ?_ _
        clear hT
        exact ⟨rfl, b13, rfl, HB.out, HXg3.out, HXg5.out, HXg6.out, HXg7.out, HXb13.out, (by have := HG4.out; omega)⟩) (by
      rintro b13 V313 ⟨hb, hx_g3, hx_g5, hx_g6, hx_g7, hx_b13, hg_0⟩
      clear HB HXg3 HXg5 HXg6 HXg7
      have HB : Hid (Bel w V313) := Lib.hid hb
      have HXg3 : Hid (HAt V313 g3 h) := Lib.hid hx_g3
      have HXg5 : Hid (InAt V313 g5 o d (A : Int) b n) := Lib.hid hx_g5
      have HXg6 : Hid (HAt V313 g6 (fun _ => 0)) := Lib.hid hx_g6
      have HXg7 : Hid (EfAt V313 g7 e0) := Lib.hid hx_g7
      have HXb13 : Hid (HAt V313 b13 h2) := Lib.hid hx_b13
      have HG4 := Lib.hid hg_0
      clear hb hx_g3 hx_g5 hx_g6 hx_g7 hx_b13 hg_0
      go_upto_region 12 with (fail)
      rename_i K hK
      refine wp_region_list ?_
      refine wpList_one rfl (w' := V313) (v := .pointer (some ⟨g3, 32, none⟩)) (by kernel_rfl) ?_
      try simp only [Act.put, la, lz, ls]
      refine wpList_load_cell rfl 3 (.tmp 63) rfl ⟨g3, 32, none⟩ rfl (.int .i64 (h 32)) _ (HXg3.out.cell (j := 32) (by omega)) Tryd.underlying3 rfl ?_
      try simp only [Act.put, la, lz, ls]
      refine wpList_one rfl (w' := V313) (v := .int .i64 (IntKind.i64.wrap (h 32 + 4))) (by kernel_rfl) ?_
      try simp only [Act.put, la, lz, ls]
      refine wpList_call rfl (f := 41) (args := #[.int .i64 (IntKind.i64.wrap (h 32 + 4))]) (v := .int .i64 m) (by kernel_rfl) (rwl ((w32_i _).trans HM.out) _) ?_
      intro V314 hb
      replace HB : Hid (Bel w V314) := Lib.hid (HB.out.trans hb)
      replace HXg3 : Hid (HAt V314 g3 h) := Lib.hid (HXg3.out.bel hb)
      replace HXg5 : Hid (InAt V314 g5 o d (A : Int) b n) := Lib.hid (HXg5.out.bel hb)
      replace HXg6 : Hid (HAt V314 g6 (fun _ => 0)) := Lib.hid (HXg6.out.bel hb)
      replace HXg7 : Hid (EfAt V314 g7 e0) := Lib.hid (HXg7.out.bel hb)
      replace HXb13 : Hid (HAt V314 b13 h2) := Lib.hid (HXb13.out.bel hb)
      clear hb
      try simp only [Act.put, la, lz, ls]
      refine wpList_one rfl (w' := V314) (v := .pointer (some ⟨b13, 32, none⟩)) (by kernel_rfl) ?_
      try simp only [Act.put, la, lz, ls]
      refine wpList_store_cell rfl 3 (.tmp 67) (.tmp 66) rfl b13 32 rfl (.int .i64 m) rfl (HXb13.out.cell (j := 32) (by omega)) (HXb13.out.frozen 32) sz_int rfl ?_
      have hn := HXb13.out.set (j := 32) (by omega) (m)
      have hb := (Svg.set b13 32 V314 (.int .i64 (m))).bel HB.out (by have := HG.out; have := HG1.out; have := HG2.out; have := HG3.out; have := HG4.out; omega)
      have hg3 := ((Svg.set b13 32 V314 (.int .i64 (m))).block g3 (lt_of_heap HXg3.out) (by have := HG.out; have := HG1.out; have := HG2.out; have := HG3.out; have := HG4.out; omega)).trans HXg3.out
      have hg5 := ((Svg.set b13 32 V314 (.int .i64 (m))).block g5 (lt_of_heap HXg5.out) (by have := HG.out; have := HG1.out; have := HG2.out; have := HG3.out; have := HG4.out; omega)).trans HXg5.out
      have hg6 := ((Svg.set b13 32 V314 (.int .i64 (m))).block g6 (lt_of_heap HXg6.out) (by have := HG.out; have := HG1.out; have := HG2.out; have := HG3.out; have := HG4.out; omega)).trans HXg6.out
      have hg7 := ((Svg.set b13 32 V314 (.int .i64 (m))).block g7 (lt_of_heap HXg7.out) (by have := HG.out; have := HG1.out; have := HG2.out; have := HG3.out; have := HG4.out; omega)).trans HXg7.out
      generalize V314.setCell ⟨b13, 32, none⟩ (.int .i64 (m)) = V315 at hn hb hg3 hg5 hg6 hg7  ⊢
      clear HB HXg3 HXg5 HXg6 HXg7 HXb13
      have HB : Hid (Bel w V315) := Lib.hid hb
      have HXg3 : Hid (HAt V315 g3 h) := Lib.hid hg3
      have HXg5 : Hid (InAt V315 g5 o d (A : Int) b n) := Lib.hid hg5
      have HXg6 : Hid (HAt V315 g6 (fun _ => 0)) := Lib.hid hg6
      have HXg7 : Hid (EfAt V315 g7 e0) := Lib.hid hg7
      have HXb13 : Hid (HAt V315 b13 (up h2 32 (m))) := Lib.hid hn
      clear hn hb hg3 hg5 hg6 hg7
      try simp only [Act.put, la, lz, ls]
      refine wpList_nil ?_
      refine hK _ _ ?_
      clear hK K
      go_upto_region 13 with (fail)
      rename_i K hK
      refine wp_region_list ?_
      refine wpList_load_row rfl 28 (.tmp 13) rfl b13 rfl 28 (hC (up h2 32 (m))) (0, 0) _ HXb13.out Tryd.underlying28 rfl (sz_hart _) ?_
      try simp only [Act.put, la, lz, ls]
      refine wpList_one rfl (w' := V315) (v := .agg (eC e0)) (by kernel_rfl) ?_
      try simp only [Act.put, la, lz, ls]
      refine wpList_store_row rfl 28 (.tmp 6) (.tmp 68) rfl g6 (hC (up h2 32 (m))) rfl rfl 28 (hC (fun _ => 0)) HXg6.out (sz_hart _) (by rw [hC_size, hC_size]) (hC_ones _) ?_
      have hn := row_same (cs := (hC (up h2 32 (m)))) HXg6.out
      have hb := row_bel HB.out (g := g6) (by have := HG.out; have := HG1.out; have := HG2.out; have := HG3.out; have := HG4.out; omega) (hC (up h2 32 (m)))
      have hg3 := (setRow_other V315 g6 g3 (hC (up h2 32 (m))) (by have := HG.out; have := HG1.out; have := HG2.out; have := HG3.out; have := HG4.out; omega)).trans HXg3.out
      have hg5 := (setRow_other V315 g6 g5 (hC (up h2 32 (m))) (by have := HG.out; have := HG1.out; have := HG2.out; have := HG3.out; have := HG4.out; omega)).trans HXg5.out
      have hg7 := (setRow_other V315 g6 g7 (hC (up h2 32 (m))) (by have := HG.out; have := HG1.out; have := HG2.out; have := HG3.out; have := HG4.out; omega)).trans HXg7.out
      have hb13 := (setRow_other V315 g6 b13 (hC (up h2 32 (m))) (by have := HG.out; have := HG1.out; have := HG2.out; have := HG3.out; have := HG4.out; omega)).trans HXb13.out
      generalize V315.setRow g6 (hC (up h2 32 (m))) = V316 at hn hb hg3 hg5 hg7 hb13 ⊢
      clear HB HXg3 HXg5 HXg6 HXg7 HXb13
      have HB : Hid (Bel w V316) := Lib.hid hb
      have HXg3 : Hid (HAt V316 g3 h) := Lib.hid hg3
      have HXg5 : Hid (InAt V316 g5 o d (A : Int) b n) := Lib.hid hg5
      have HXg7 : Hid (EfAt V316 g7 e0) := Lib.hid hg7
      have HXb13 : Hid (HAt V316 b13 (up h2 32 (m))) := Lib.hid hb13
      have HXg6 : Hid (HAt V316 g6 (up h2 32 (m))) := Lib.hid hn
      clear hn hb hg3 hg5 hg7 hb13
      try simp only [Act.put, la, lz, ls]
      refine wpList_store_row rfl 34 (.tmp 7) (.tmp 69) rfl g7 (eC e0) rfl rfl 34 (eC e0) HXg7.out (sz_eff _) rfl (eC_ones _) ?_
      have hn := row_same (cs := (eC e0)) HXg7.out
      have hb := row_bel HB.out (g := g7) (by have := HG.out; have := HG1.out; have := HG2.out; have := HG3.out; have := HG4.out; omega) (eC e0)
      have hg3 := (setRow_other V316 g7 g3 (eC e0) (by have := HG.out; have := HG1.out; have := HG2.out; have := HG3.out; have := HG4.out; omega)).trans HXg3.out
      have hg5 := (setRow_other V316 g7 g5 (eC e0) (by have := HG.out; have := HG1.out; have := HG2.out; have := HG3.out; have := HG4.out; omega)).trans HXg5.out
      have hg6 := (setRow_other V316 g7 g6 (eC e0) (by have := HG.out; have := HG1.out; have := HG2.out; have := HG3.out; have := HG4.out; omega)).trans HXg6.out
      have hb13 := (setRow_other V316 g7 b13 (eC e0) (by have := HG.out; have := HG1.out; have := HG2.out; have := HG3.out; have := HG4.out; omega)).trans HXb13.out
      generalize V316.setRow g7 (eC e0) = V317 at hn hb hg3 hg5 hg6 hb13 ⊢
      clear HB HXg3 HXg5 HXg6 HXg7 HXb13
      have HB : Hid (Bel w V317) := Lib.hid hb
      have HXg3 : Hid (HAt V317 g3 h) := Lib.hid hg3
      have HXg5 : Hid (InAt V317 g5 o d (A : Int) b n) := Lib.hid hg5
      have HXg6 : Hid (HAt V317 g6 (up h2 32 (m))) := Lib.hid hg6
      have HXb13 : Hid (HAt V317 b13 (up h2 32 (m))) := Lib.hid hb13
      have HXg7 : Hid (EfAt V317 g7 e0) := Lib.hid hn
      clear hn hb hg3 hg5 hg6 hb13
      try simp only [Act.put, la, lz, ls]
      refine wpList_nil ?_
      refine hK _ _ (wp_ret ?_)
      exact bodyPost_ret (results_cells2 Tryd.results44 _ _ g6 g7 _ _ _ _ _ _ _ _ (by rfl) (by rfl) HXg6.out HXg7.out Tryd.underlying28 rfl (sz_hart _) Tryd.underlying34 rfl (sz_eff _)) (by rfl) ⟨rfl, HB.out⟩)
end Go.Proofs.YtgcgdjmlngfpeaaDoor
end
section
namespace Go.Proofs.YtgcgdjmlngfpeaaDoor
open Go.RowKit Ht
open Rv (Ins)
set_option linter.unusedVariables false
set_option linter.unusedSimpArgs false
set_option maxRecDepth 100000
set_option maxHeartbeats 8000000
theorem rrw {op d a b n : Int} {r : Bool} (h : Rv.right ⟨op, d, a, b, n⟩ = r) (w : World) : Calls Tryd.prog 40 #[iv op d a b n] w (OneV (.bool r) w) :=
  (rightR_val h w).mono fun e w' hh => ⟨hh.1, hh.2.bel⟩
theorem row_w {op f lo mi hi : Int} {s : ByteArray} (h : Rv.rowVals op = [.string s, .int .u8 f, .int .i64 lo, .int .i64 mi, .int .i64 hi]) (w : World) : Calls Tryd.prog 30 #[.int .i64 op] w (OneV (.agg #[.string s, .int .u8 f, .int .i64 lo, .int .i64 mi, .int .i64 hi]) w) :=
  (rowof_lit h w).mono fun e w' hh => ⟨hh.1, hh.2.bel⟩
theorem exec_e8T {o : Oper} {ρ : Operand → Value} {x y : Operand} {t' : TypeId} (ho : o.op = .binOp .eql 5 x y t') {a b : Int} (hx : ρ x = .int .u8 a) (hy : ρ y = .int .u8 b) (h : a = b) (w : World) : (execOp ρ o).run Tryd.prog w = .ok (.value (.bool true)) w := by
  subst h
  unfold execOp
  simp only [ho, hx, hy]
  simp [go_sem, Tryd.underlying5]
theorem exec_e8F {o : Oper} {ρ : Operand → Value} {x y : Operand} {t' : TypeId} (ho : o.op = .binOp .eql 5 x y t') {a b : Int} (hx : ρ x = .int .u8 a) (hy : ρ y = .int .u8 b) (h : a ≠ b) (w : World) : (execOp ρ o).run Tryd.prog w = .ok (.value (.bool false)) w := by
  unfold execOp
  simp only [ho, hx, hy]
  simp [go_sem, Tryd.underlying5, h]
theorem rstep_bad {h : H} {id o d a b n : Int} (RT : Rv.right ⟨o, d, a, b, n⟩ = false) {w : World} : Calls Tryd.prog 17 #[hv h, .int .i64 id, iv o d a b n] w (OneV (.tuple #[hv h, .agg (eC eBad)]) w) := by
  have RTh := Lib.hid RT
  clear RT
  have hz := zero_hart
  go_enter Tryd.func17, Tryd.ntmps17
  go_upto_region 1 with (fail)
  obtain ⟨W0, hW, hb, hx3, hx5, hx6, hx7⟩ := boxes4 w (hC h) (iC o d a b n) hZ (eC e0) 28 24 28 34
  first | rw [← hW] | (show Code.wp _ _ _ _ ((((w.alloc (.cells (hC h) 28)).alloc (.cells (iC o d a b n) 24)).alloc (.cells hZ 28)).alloc (.cells (eC e0) 34)); rw [← hW])
  clear hz hW
  have hlt : w.heap.size < W0.heap.size := lt_of_heap hx3
  generalize hg : w.heap.size = g3 at hx3 hx5 hx6 hx7 hlt ⊢
  have HG := Lib.hid hg
  clear hg
  generalize hg : g3 + 1 = g5 at hx5 hx6 hx7 ⊢
  have HG1 := Lib.hid hg
  clear hg
  generalize hg : g5 + 1 = g6 at hx6 hx7 ⊢
  have HG2 := Lib.hid hg
  clear hg
  generalize hg : g6 + 1 = g7 at hx7 ⊢
  have HG3 := Lib.hid hg
  clear hg
  have HXg3 : Hid (HAt W0 g3 h) := Lib.hid hx3
  have HXg5 : Hid (InAt W0 g5 o d a b n) := Lib.hid hx5
  have HXg6 : Hid (HAt W0 g6 (fun _ => 0)) := Lib.hid hx6
  have HXg7 : Hid (EfAt W0 g7 e0) := Lib.hid hx7
  have HB : Hid (Bel w W0) := Lib.hid hb
  clear hb hlt hx3 hx5 hx6 hx7
  rename_i K hK
  refine wp_region_list ?_
  refine wpList_load_row rfl 24 (.tmp 5) rfl g5 rfl 24 (iC o d a b n) (0, 0) _ HXg5.out Tryd.underlying24 rfl (sz_ins _ _ _ _ _) ?_
  try simp only [Act.put, la, lz, ls]
  refine wpList_call rfl (f := 40) (args := #[iv o d a b n]) (v := .bool false) (by kernel_rfl) (rrw RTh.out _) ?_
  intro V1 hb
  replace HB : Hid (Bel w V1) := Lib.hid (HB.out.trans hb)
  replace HXg3 : Hid (HAt V1 g3 h) := Lib.hid (HXg3.out.bel hb)
  replace HXg5 : Hid (InAt V1 g5 o d a b n) := Lib.hid (HXg5.out.bel hb)
  replace HXg6 : Hid (HAt V1 g6 (fun _ => 0)) := Lib.hid (HXg6.out.bel hb)
  replace HXg7 : Hid (EfAt V1 g7 e0) := Lib.hid (HXg7.out.bel hb)
  clear hb
  try simp only [Act.put, la, lz, ls]
  refine wpList_one rfl (w' := V1) (v := .bool false) rfl ?_
  try simp only [Act.put, la, lz, ls]
  refine wpList_nil ?_
  refine hK _ _ ?_
  clear hK K
  go_upto_region 2 with (fail)
  rename_i K hK
  refine wp_region_list ?_
  refine wpList_one rfl (w' := V1) (v := .bool false) rfl ?_
  try simp only [Act.put, la, lz, ls]
  refine wpList_one rfl (w' := V1) (v := .bool true) (by kernel_rfl) ?_
  try simp only [Act.put, la, lz, ls]
  refine wpList_nil ?_
  refine hK _ _ ?_
  clear hK K
  go_upto_region 3 with (fail)
  rename_i K hK
  refine wp_region_list ?_
  refine wpList_load_row rfl 28 (.tmp 3) rfl g3 rfl 28 (hC h) (0, 0) _ HXg3.out Tryd.underlying28 rfl (sz_hart _) ?_
  try simp only [Act.put, la, lz, ls]
  refine wpList_one rfl (w' := V1) (v := .agg (eC eBad)) (by kernel_rfl) ?_
  try simp only [Act.put, la, lz, ls]
  refine wpList_store_row rfl 28 (.tmp 6) (.tmp 24) rfl g6 (hC h) rfl rfl 28 (hC (fun _ => 0)) HXg6.out (sz_hart _) (by rw [hC_size, hC_size]) (hC_ones _) ?_
  have hn := row_same (cs := (hC h)) HXg6.out
  have hb := row_bel HB.out (g := g6) (by have := HG.out; have := HG1.out; have := HG2.out; have := HG3.out; omega) (hC h)
  have hg3 := (setRow_other V1 g6 g3 (hC h) (by have := HG.out; have := HG1.out; have := HG2.out; have := HG3.out; omega)).trans HXg3.out
  have hg5 := (setRow_other V1 g6 g5 (hC h) (by have := HG.out; have := HG1.out; have := HG2.out; have := HG3.out; omega)).trans HXg5.out
  have hg7 := (setRow_other V1 g6 g7 (hC h) (by have := HG.out; have := HG1.out; have := HG2.out; have := HG3.out; omega)).trans HXg7.out
  generalize V1.setRow g6 (hC h) = V2 at hn hb hg3 hg5 hg7 ⊢
  clear HB HXg3 HXg5 HXg6 HXg7
  have HB : Hid (Bel w V2) := Lib.hid hb
  have HXg3 : Hid (HAt V2 g3 h) := Lib.hid hg3
  have HXg5 : Hid (InAt V2 g5 o d a b n) := Lib.hid hg5
  have HXg7 : Hid (EfAt V2 g7 e0) := Lib.hid hg7
  have HXg6 : Hid (HAt V2 g6 h) := Lib.hid hn
  clear hn hb hg3 hg5 hg7
  try simp only [Act.put, la, lz, ls]
  refine wpList_store_row rfl 34 (.tmp 7) (.tmp 25) rfl g7 (eC eBad) rfl rfl 34 (eC e0) HXg7.out (sz_eff _) rfl (eC_ones _) ?_
  have hn := row_same (cs := (eC eBad)) HXg7.out
  have hb := row_bel HB.out (g := g7) (by have := HG.out; have := HG1.out; have := HG2.out; have := HG3.out; omega) (eC eBad)
  have hg3 := (setRow_other V2 g7 g3 (eC eBad) (by have := HG.out; have := HG1.out; have := HG2.out; have := HG3.out; omega)).trans HXg3.out
  have hg5 := (setRow_other V2 g7 g5 (eC eBad) (by have := HG.out; have := HG1.out; have := HG2.out; have := HG3.out; omega)).trans HXg5.out
  have hg6 := (setRow_other V2 g7 g6 (eC eBad) (by have := HG.out; have := HG1.out; have := HG2.out; have := HG3.out; omega)).trans HXg6.out
  generalize V2.setRow g7 (eC eBad) = V3 at hn hb hg3 hg5 hg6 ⊢
  clear HB HXg3 HXg5 HXg6 HXg7
  have HB : Hid (Bel w V3) := Lib.hid hb
  have HXg3 : Hid (HAt V3 g3 h) := Lib.hid hg3
  have HXg5 : Hid (InAt V3 g5 o d a b n) := Lib.hid hg5
  have HXg6 : Hid (HAt V3 g6 h) := Lib.hid hg6
  have HXg7 : Hid (EfAt V3 g7 eBad) := Lib.hid hn
  clear hn hb hg3 hg5 hg6
  try simp only [Act.put, la, lz, ls]
  refine wpList_nil ?_
  refine hK _ _ (wp_ret ?_)
  exact bodyPost_ret (results_cells2 Tryd.results17 _ _ g6 g7 _ _ _ _ _ _ _ _ (by rfl) (by rfl) HXg6.out HXg7.out Tryd.underlying28 rfl (sz_hart _) Tryd.underlying34 rfl (sz_eff _)) (by rfl) ⟨rfl, HB.out⟩
theorem rstep_all {h h' : H} {id o d n m4 mN F : Int} {A B : Nat} {e : Eff} (RT : Rv.right ⟨o, d, A, B, n⟩ = true) (lA : A < 32) (lB : B < 32) (hm4 : wrap32 (h 32 + 4) = m4) (hmN : wrap32 (h 32 + n) = mN) (hF : Rv.form o = F)
    (K1 : Hid (o = 1 → ∃ q1 h1, IntKind.i64.wrap (4096 * n) = q1 ∧ put h d q1 = h1 ∧ h' = up h1 32 m4 ∧ e = e0))
    (K2 : Hid (o = 2 → ∃ q1 v h1, IntKind.i64.wrap (4096 * n) = q1 ∧ IntKind.i64.wrap (h 32 + q1) = v ∧ put h d v = h1 ∧ h' = up h1 32 m4 ∧ e = e0))
    (K3 : Hid (o = 3 → ∃ h1, put h d m4 = h1 ∧ h' = up h1 32 mN ∧ e = e0))
    (K4 : Hid (o = 4 → ∃ h1 q1 v, put h d m4 = h1 ∧ IntKind.i64.wrap (h A + n) = q1 ∧ Plain.two 6 q1 (-2) = v ∧ h' = up h1 32 v ∧ e = e0))
    (K66 : Hid (F = 66 → ∃ q : Bool, (∀ W, Calls Tryd.prog 43 #[.int .i64 o, .int .i64 (h A), .int .i64 (h B)] W (OneV (.bool q) W)) ∧ h' = up h 32 (if q = true then mN else m4) ∧ e = e0))
    (K11 : Hid (o = 11 → ∃ ad, wrap32 (h A + n) = ad ∧ h' = up h 32 m4 ∧ e = ⟨1, d, ad, 0, 0⟩))
    (K12 : Hid (o = 12 → ∃ ad, wrap32 (h A + n) = ad ∧ h' = up h 32 m4 ∧ e = ⟨2, 0, ad, h B, 0⟩))
    (K39 : Hid (o = 39 → h' = up h 32 m4 ∧ e = ⟨6, 0, 0, 0, 0⟩))
    (K46 : Hid (o = 46 → h' = up h 32 m4 ∧ e = ⟨3, d, h A, 0, 0⟩))
    (K47 : Hid (o = 47 → h' = up h 32 m4 ∧ e = ⟨4, d, h A, h B, 0⟩))
    (K48 : Hid (o = 48 → h' = up h 32 m4 ∧ e = ⟨5, d, h A, h B, 0⟩))
    (K49 : Hid (o = 49 → h' = up h 32 m4 ∧ e = ⟨5, d, h A, h B, 1⟩))
    (K67 : Hid (F = 67 → ∀ W, Calls Tryd.prog 44 #[hv h, .int .i64 id, iv o d (A : Int) (B : Int) n] W (OneV (.tuple #[hv h', .agg (eC e)]) W)))
    (K43 : Hid (o = 43 → h' = up h 32 m4 ∧ e = ⟨7, 0, 0, 0, 0⟩))
    (K45 : Hid (o = 45 → h' = up h 32 m4 ∧ e = ⟨8, 0, 0, 0, 0⟩))
    (K44 : Hid (o = 44 → (∀ W, Calls Tryd.prog 45 #[hv h] W (OneV (hv h') W)) ∧ e = e0))
    (K82 : Hid (F = 82 → ∃ v h1, (∀ W, Calls Tryd.prog 46 #[.int .i64 o, .int .i64 (h A), .int .i64 (h B)] W (OneV (.tuple #[.int .i64 v, .bool true]) W)) ∧ put h d v = h1 ∧ h' = up h1 32 m4 ∧ e = e0))
    (K0 : Hid (o ≠ 1 ∧ o ≠ 2 ∧ o ≠ 3 ∧ o ≠ 4 ∧ F ≠ 66 ∧ o ≠ 11 ∧ o ≠ 12 ∧ o ≠ 39 ∧ o ≠ 46 ∧ o ≠ 47 ∧ o ≠ 48 ∧ o ≠ 49 ∧ F ≠ 67 ∧ o ≠ 43 ∧ o ≠ 45 ∧ o ≠ 44 ∧ F ≠ 82 → ∃ v h1, (∀ W, Calls Tryd.prog 46 #[.int .i64 o, .int .i64 (h A), .int .i64 n] W (OneV (.tuple #[.int .i64 v, .bool true]) W)) ∧ put h d v = h1 ∧ h' = up h1 32 m4 ∧ e = e0)) {w : World} :
    Calls Tryd.prog 17 #[hv h, .int .i64 id, iv o d (A : Int) (B : Int) n] w (OneV (.tuple #[hv h', .agg (eC e)]) w) := by
  have RTh := Lib.hid RT
  have M4 := Lib.hid hm4
  have MN := Lib.hid hmN
  obtain ⟨s, lo, mi, hi, hrv⟩ : ∃ (s : ByteArray) (lo mi hi : Int), Rv.rowVals o = [.string s, .int .u8 F, .int .i64 lo, .int .i64 mi, .int .i64 hi] := ⟨_, _, _, _, by rw [← hF]; rfl⟩
  have RV := Lib.hid hrv
  clear RT hm4 hmN hrv hF
  have hz := zero_hart
  go_enter Tryd.func17, Tryd.ntmps17
  go_upto_region 1 with (fail)
  obtain ⟨W0, hW, hb, hx3, hx5, hx6, hx7⟩ := boxes4 w (hC h) (iC o d (A : Int) (B : Int) n) hZ (eC e0) 28 24 28 34
  first | rw [← hW] | (show Code.wp _ _ _ _ ((((w.alloc (.cells (hC h) 28)).alloc (.cells (iC o d (A : Int) (B : Int) n) 24)).alloc (.cells hZ 28)).alloc (.cells (eC e0) 34)); rw [← hW])
  clear hz hW
  have hlt : w.heap.size < W0.heap.size := lt_of_heap hx3
  generalize hg : w.heap.size = g3 at hx3 hx5 hx6 hx7 hlt ⊢
  have HG := Lib.hid hg
  clear hg
  generalize hg : g3 + 1 = g5 at hx5 hx6 hx7 ⊢
  have HG1 := Lib.hid hg
  clear hg
  generalize hg : g5 + 1 = g6 at hx6 hx7 ⊢
  have HG2 := Lib.hid hg
  clear hg
  generalize hg : g6 + 1 = g7 at hx7 ⊢
  have HG3 := Lib.hid hg
  clear hg
  have HXg3 : Hid (HAt W0 g3 h) := Lib.hid hx3
  have HXg5 : Hid (InAt W0 g5 o d (A : Int) (B : Int) n) := Lib.hid hx5
  have HXg6 : Hid (HAt W0 g6 (fun _ => 0)) := Lib.hid hx6
  have HXg7 : Hid (EfAt W0 g7 e0) := Lib.hid hx7
  have HB : Hid (Bel w W0) := Lib.hid hb
  clear hb hlt hx3 hx5 hx6 hx7
  rename_i K hK
  refine wp_region_list ?_
  refine wpList_load_row rfl 24 (.tmp 5) rfl g5 rfl 24 (iC o d (A : Int) (B : Int) n) (0, 0) _ HXg5.out Tryd.underlying24 rfl (sz_ins _ _ _ _ _) ?_
  try simp only [Act.put, la, lz, ls]
  refine wpList_call rfl (f := 40) (args := #[iv o d (A : Int) (B : Int) n]) (v := .bool true) (by kernel_rfl) (rrw RTh.out _) ?_
  intro V1 hb
  replace HB : Hid (Bel w V1) := Lib.hid (HB.out.trans hb)
  replace HXg3 : Hid (HAt V1 g3 h) := Lib.hid (HXg3.out.bel hb)
  replace HXg5 : Hid (InAt V1 g5 o d (A : Int) (B : Int) n) := Lib.hid (HXg5.out.bel hb)
  replace HXg6 : Hid (HAt V1 g6 (fun _ => 0)) := Lib.hid (HXg6.out.bel hb)
  replace HXg7 : Hid (EfAt V1 g7 e0) := Lib.hid (HXg7.out.bel hb)
  clear hb
  try simp only [Act.put, la, lz, ls]
  refine wpList_one rfl (w' := V1) (v := .bool true) rfl ?_
  try simp only [Act.put, la, lz, ls]
  refine wpList_nil ?_
  refine hK _ _ ?_
  clear hK K
  go_upto_region 2 with (fail)
  rename_i K hK
  refine wp_region_list ?_
  refine wpList_one rfl (w' := V1) (v := .bool true) rfl ?_
  try simp only [Act.put, la, lz, ls]
  refine wpList_one rfl (w' := V1) (v := .bool false) (by kernel_rfl) ?_
  try simp only [Act.put, la, lz, ls]
  refine wpList_nil ?_
  refine hK _ _ ?_
  clear hK K
  go_upto_region 4 with (fail)
  rename_i K hK
  refine wp_region_list ?_
  refine wpList_one rfl (w' := V1) (v := .pointer (some ⟨g5, 2, none⟩)) (by kernel_rfl) ?_
  try simp only [Act.put, la, lz, ls]
  refine wpList_load_cell rfl 3 (.tmp 26) rfl ⟨g5, 2, none⟩ rfl (.int .i64 (A : Int)) _ HXg5.out.cells.2.2.1 Tryd.underlying3 rfl ?_
  try simp only [Act.put, la, lz, ls]
  refine wpList_one rfl (w' := V1) (v := .pointer (some ⟨g3, 0, none⟩)) (by kernel_rfl) ?_
  try simp only [Act.put, la, lz, ls]
  refine wpList_one rfl (w' := V1) (v := .pointer (some ⟨g3, A, none⟩)) (exec_reg rfl g3 A (by omega) rfl rfl _) ?_
  try simp only [Act.put, la, lz, ls]
  refine wpList_load_cell rfl 3 (.tmp 29) rfl ⟨g3, A, none⟩ rfl (.int .i64 (h A)) _ (HXg3.out.cell (j := A) (by omega)) Tryd.underlying3 rfl ?_
  try simp only [Act.put, la, lz, ls]
  refine wpList_one rfl (w' := V1) (v := .int .i64 (h A)) rfl ?_
  try simp only [Act.put, la, lz, ls]
  refine wpList_nil ?_
  refine hK _ _ ?_
  clear hK K
  go_upto_region 5 with (fail)
  rename_i K hK
  refine wp_region_list ?_
  refine wpList_one rfl (w' := V1) (v := .pointer (some ⟨g5, 3, none⟩)) (by kernel_rfl) ?_
  try simp only [Act.put, la, lz, ls]
  refine wpList_load_cell rfl 3 (.tmp 31) rfl ⟨g5, 3, none⟩ rfl (.int .i64 (B : Int)) _ HXg5.out.cells.2.2.2.1 Tryd.underlying3 rfl ?_
  try simp only [Act.put, la, lz, ls]
  refine wpList_one rfl (w' := V1) (v := .pointer (some ⟨g3, 0, none⟩)) (by kernel_rfl) ?_
  try simp only [Act.put, la, lz, ls]
  refine wpList_one rfl (w' := V1) (v := .pointer (some ⟨g3, B, none⟩)) (exec_reg rfl g3 B (by omega) rfl rfl _) ?_
  try simp only [Act.put, la, lz, ls]
  refine wpList_load_cell rfl 3 (.tmp 34) rfl ⟨g3, B, none⟩ rfl (.int .i64 (h B)) _ (HXg3.out.cell (j := B) (by omega)) Tryd.underlying3 rfl ?_
  try simp only [Act.put, la, lz, ls]
  refine wpList_one rfl (w' := V1) (v := .int .i64 (h B)) rfl ?_
  try simp only [Act.put, la, lz, ls]
  refine wpList_nil ?_
  refine hK _ _ ?_
  clear hK K
  go_upto_region 6 with (fail)
  rename_i K hK
  refine wp_region_list ?_
  refine wpList_one rfl (w' := V1) (v := .pointer (some ⟨g3, 32, none⟩)) (by kernel_rfl) ?_
  try simp only [Act.put, la, lz, ls]
  refine wpList_load_cell rfl 3 (.tmp 36) rfl ⟨g3, 32, none⟩ rfl (.int .i64 (h 32)) _ (HXg3.out.cell (j := 32) (by omega)) Tryd.underlying3 rfl ?_
  try simp only [Act.put, la, lz, ls]
  refine wpList_one rfl (w' := V1) (v := .int .i64 (IntKind.i64.wrap (h 32 + 4))) (by kernel_rfl) ?_
  try simp only [Act.put, la, lz, ls]
  refine wpList_call rfl (f := 41) (args := #[.int .i64 (IntKind.i64.wrap (h 32 + 4))]) (v := .int .i64 m4) (by kernel_rfl) (rwl ((w32_i _).trans M4.out) _) ?_
  intro V2 hb
  replace HB : Hid (Bel w V2) := Lib.hid (HB.out.trans hb)
  replace HXg3 : Hid (HAt V2 g3 h) := Lib.hid (HXg3.out.bel hb)
  replace HXg5 : Hid (InAt V2 g5 o d (A : Int) (B : Int) n) := Lib.hid (HXg5.out.bel hb)
  replace HXg6 : Hid (HAt V2 g6 (fun _ => 0)) := Lib.hid (HXg6.out.bel hb)
  replace HXg7 : Hid (EfAt V2 g7 e0) := Lib.hid (HXg7.out.bel hb)
  clear hb
  try simp only [Act.put, la, lz, ls]
  refine wpList_one rfl (w' := V2) (v := .int .i64 m4) rfl ?_
  try simp only [Act.put, la, lz, ls]
  refine wpList_nil ?_
  refine hK _ _ ?_
  clear hK K
  go_upto_region 7 with (fail)
  rename_i K hK
  refine wp_region_list ?_
  refine wpList_one rfl (w' := V2) (v := .pointer (some ⟨g3, 32, none⟩)) (by kernel_rfl) ?_
  try simp only [Act.put, la, lz, ls]
  refine wpList_load_cell rfl 3 (.tmp 40) rfl ⟨g3, 32, none⟩ rfl (.int .i64 (h 32)) _ (HXg3.out.cell (j := 32) (by omega)) Tryd.underlying3 rfl ?_
  try simp only [Act.put, la, lz, ls]
  refine wpList_one rfl (w' := V2) (v := .pointer (some ⟨g5, 4, none⟩)) (by kernel_rfl) ?_
  try simp only [Act.put, la, lz, ls]
  refine wpList_load_cell rfl 3 (.tmp 42) rfl ⟨g5, 4, none⟩ rfl (.int .i64 n) _ HXg5.out.cells.2.2.2.2 Tryd.underlying3 rfl ?_
  try simp only [Act.put, la, lz, ls]
  refine wpList_one rfl (w' := V2) (v := .int .i64 (IntKind.i64.wrap (h 32 + n))) (by kernel_rfl) ?_
  try simp only [Act.put, la, lz, ls]
  refine wpList_call rfl (f := 41) (args := #[.int .i64 (IntKind.i64.wrap (h 32 + n))]) (v := .int .i64 mN) (by kernel_rfl) (rwl ((w32_i _).trans MN.out) _) ?_
  intro V3 hb
  replace HB : Hid (Bel w V3) := Lib.hid (HB.out.trans hb)
  replace HXg3 : Hid (HAt V3 g3 h) := Lib.hid (HXg3.out.bel hb)
  replace HXg5 : Hid (InAt V3 g5 o d (A : Int) (B : Int) n) := Lib.hid (HXg5.out.bel hb)
  replace HXg6 : Hid (HAt V3 g6 (fun _ => 0)) := Lib.hid (HXg6.out.bel hb)
  replace HXg7 : Hid (EfAt V3 g7 e0) := Lib.hid (HXg7.out.bel hb)
  clear hb
  try simp only [Act.put, la, lz, ls]
  refine wpList_one rfl (w' := V3) (v := .int .i64 mN) rfl ?_
  try simp only [Act.put, la, lz, ls]
  refine wpList_nil ?_
  refine hK _ _ ?_
  clear hK K
  go_upto_region 8 with (fail)
  rename_i K hK
  refine wp_region_list ?_
  refine wpList_one rfl (w' := V3) (v := .pointer (some ⟨g5, 0, none⟩)) (by kernel_rfl) ?_
  try simp only [Act.put, la, lz, ls]
  refine wpList_load_cell rfl 3 (.tmp 46) rfl ⟨g5, 0, none⟩ rfl (.int .i64 o) _ HXg5.out.cells.1 Tryd.underlying3 rfl ?_
  try simp only [Act.put, la, lz, ls]
  refine wpList_call rfl (f := 30) (args := #[.int .i64 o]) (v := .agg #[.string s, .int .u8 F, .int .i64 lo, .int .i64 mi, .int .i64 hi]) (by kernel_rfl) (row_w RV.out _) ?_
  intro V4 hb
  replace HB : Hid (Bel w V4) := Lib.hid (HB.out.trans hb)
  replace HXg3 : Hid (HAt V4 g3 h) := Lib.hid (HXg3.out.bel hb)
  replace HXg5 : Hid (InAt V4 g5 o d (A : Int) (B : Int) n) := Lib.hid (HXg5.out.bel hb)
  replace HXg6 : Hid (HAt V4 g6 (fun _ => 0)) := Lib.hid (HXg6.out.bel hb)
  replace HXg7 : Hid (EfAt V4 g7 e0) := Lib.hid (HXg7.out.bel hb)
  clear hb
  try simp only [Act.put, la, lz, ls]
  refine wpList_one rfl (w' := V4) (v := .int .u8 F) (by kernel_rfl) ?_
  try simp only [Act.put, la, lz, ls]
  refine wpList_one rfl (w' := V4) (v := .int .u8 F) rfl ?_
  try simp only [Act.put, la, lz, ls]
  refine wpList_nil ?_
  refine hK _ _ ?_
  clear hK K
  go_upto_region 9 with (fail)
  rename_i K hK
  refine wp_region_list ?_
  obtain ⟨hb, hx⟩ := box1 V4 (eC e0) 34
  refine wpList_one rfl (w' := V4.alloc (.cells (eC e0) 34)) (v := .pointer (some ⟨V4.heap.size, 0, none⟩)) (by kernel_rfl) ?_
  try simp only [Act.put, la, lz, ls]
  have hl := lt_of_heap HXg7.out
  generalize V4.alloc (.cells (eC e0) 34) = V5 at hb hx ⊢
  generalize V4.heap.size = b14 at hx hl ⊢
  have HG4 := Lib.hid hl
  clear hl
  replace HB : Hid (Bel w V5) := Lib.hid (HB.out.trans hb)
  replace HXg3 : Hid (HAt V5 g3 h) := Lib.hid (HXg3.out.bel hb)
  replace HXg5 : Hid (InAt V5 g5 o d (A : Int) (B : Int) n) := Lib.hid (HXg5.out.bel hb)
  replace HXg6 : Hid (HAt V5 g6 (fun _ => 0)) := Lib.hid (HXg6.out.bel hb)
  replace HXg7 : Hid (EfAt V5 g7 e0) := Lib.hid (HXg7.out.bel hb)
  have HXb14 : Hid (EfAt V5 b14 e0) := Lib.hid hx
  clear hb hx
  try simp only [Act.put, la, lz, ls]
  refine wpList_nil ?_
  refine hK _ _ ?_
  clear hK K
  go_upto_block 0 with (fail)
  go_cut [11] (fun v wx => ∃ (hh : H) (ee : Eff) (pc : Int), v = .int .i64 pc ∧ Hid (h' = up hh 32 pc) ∧ Hid (e = ee) ∧ Hid (Bel w wx) ∧ Hid (HAt wx g3 hh) ∧ Hid (HAt wx g6 (fun _ => 0)) ∧ Hid (EfAt wx g7 e0) ∧ Hid (EfAt wx b14 ee))
  case first =>
    rename_i JJ KJ hJ hK0
    by_cases c1 : o = 1
    · clear K2 K3 K4 K66 K11 K12 K39 K46 K47 K48 K49 K67 K43 K45 K44 K82 K0
      obtain ⟨q1, h1, p1, p2, pEH, pEE⟩ := K1.out c1
      have EQ := Lib.hid c1
      have EH := Lib.hid pEH
      have EE := Lib.hid pEE
      have Q1 := Lib.hid p1
      have HP := Lib.hid p2
      clear pEH pEE p1 p2
      clear c1
      go_upto_region 12 with (fail)
      rename_i K hK
      refine wp_region_list ?_
      refine wpList_one rfl (w' := V5) (v := .pointer (some ⟨g5, 0, none⟩)) (by kernel_rfl) ?_
      try simp only [Act.put, la, lz, ls]
      refine wpList_load_cell rfl 3 (.tmp 65) rfl ⟨g5, 0, none⟩ rfl (.int .i64 o) _ HXg5.out.cells.1 Tryd.underlying3 rfl ?_
      try simp only [Act.put, la, lz, ls]
      refine wpList_one rfl (w' := V5) (v := .bool true) (exec_eqI rfl rfl rfl EQ.out _) ?_
      try simp only [Act.put, la, lz, ls]
      refine wpList_one rfl (w' := V5) (v := .bool true) rfl ?_
      try simp only [Act.put, la, lz, ls]
      refine wpList_nil ?_
      refine hK _ _ ?_
      clear hK K
      go_upto_region 13 with (fail)
      refine wp_region_list ?_
      refine wpList_load_row rfl 28 (.tmp 3) rfl g3 rfl 28 (hC h) (0, 0) _ HXg3.out Tryd.underlying28 rfl (sz_hart _) ?_
      try simp only [Act.put, la, lz, ls]
      refine wpList_one rfl (w' := V5) (v := .pointer (some ⟨g5, 1, none⟩)) (by kernel_rfl) ?_
      try simp only [Act.put, la, lz, ls]
      refine wpList_load_cell rfl 3 (.tmp 69) rfl ⟨g5, 1, none⟩ rfl (.int .i64 d) _ HXg5.out.cells.2.1 Tryd.underlying3 rfl ?_
      try simp only [Act.put, la, lz, ls]
      refine wpList_one rfl (w' := V5) (v := .pointer (some ⟨g5, 4, none⟩)) (by kernel_rfl) ?_
      try simp only [Act.put, la, lz, ls]
      refine wpList_load_cell rfl 3 (.tmp 71) rfl ⟨g5, 4, none⟩ rfl (.int .i64 n) _ HXg5.out.cells.2.2.2.2 Tryd.underlying3 rfl ?_
      try simp only [Act.put, la, lz, ls]
      refine wpList_one rfl (w' := V5) (v := .int .i64 q1) (exec_mul rfl rfl rfl Q1.out _) ?_
      try simp only [Act.put, la, lz, ls]
      refine wpList_call rfl (f := 19) (args := #[hv h, .int .i64 d, .int .i64 q1]) (v := hv h1) (by kernel_rfl) (rput_lit HP.out _) ?_
      intro V6 hb
      replace HB : Hid (Bel w V6) := Lib.hid (HB.out.trans hb)
      replace HXg3 : Hid (HAt V6 g3 h) := Lib.hid (HXg3.out.bel hb)
      replace HXg5 : Hid (InAt V6 g5 o d (A : Int) (B : Int) n) := Lib.hid (HXg5.out.bel hb)
      replace HXg6 : Hid (HAt V6 g6 (fun _ => 0)) := Lib.hid (HXg6.out.bel hb)
      replace HXg7 : Hid (EfAt V6 g7 e0) := Lib.hid (HXg7.out.bel hb)
      replace HXb14 : Hid (EfAt V6 b14 e0) := Lib.hid (HXb14.out.bel hb)
      clear hb
      try simp only [Act.put, la, lz, ls]
      refine wpList_store_row rfl 28 (.tmp 3) (.tmp 74) rfl g3 (hC h1) rfl rfl 28 (hC h) HXg3.out (sz_hart _) (by rw [hC_size, hC_size]) (hC_ones _) ?_
      have hn := row_same (cs := (hC h1)) HXg3.out
      have hb := row_bel HB.out (g := g3) (by have := HG.out; have := HG1.out; have := HG2.out; have := HG3.out; have := HG4.out; omega) (hC h1)
      have hg5 := (setRow_other V6 g3 g5 (hC h1) (by have := HG.out; have := HG1.out; have := HG2.out; have := HG3.out; have := HG4.out; omega)).trans HXg5.out
      have hg6 := (setRow_other V6 g3 g6 (hC h1) (by have := HG.out; have := HG1.out; have := HG2.out; have := HG3.out; have := HG4.out; omega)).trans HXg6.out
      have hg7 := (setRow_other V6 g3 g7 (hC h1) (by have := HG.out; have := HG1.out; have := HG2.out; have := HG3.out; have := HG4.out; omega)).trans HXg7.out
      have hb14 := (setRow_other V6 g3 b14 (hC h1) (by have := HG.out; have := HG1.out; have := HG2.out; have := HG3.out; have := HG4.out; omega)).trans HXb14.out
      generalize V6.setRow g3 (hC h1) = V7 at hn hb hg5 hg6 hg7 hb14 ⊢
      clear HB HXg3 HXg5 HXg6 HXg7 HXb14
      have HB : Hid (Bel w V7) := Lib.hid hb
      have HXg5 : Hid (InAt V7 g5 o d (A : Int) (B : Int) n) := Lib.hid hg5
      have HXg6 : Hid (HAt V7 g6 (fun _ => 0)) := Lib.hid hg6
      have HXg7 : Hid (EfAt V7 g7 e0) := Lib.hid hg7
      have HXb14 : Hid (EfAt V7 b14 e0) := Lib.hid hb14
      have HXg3 : Hid (HAt V7 g3 h1) := Lib.hid hn
      clear hn hb hg5 hg6 hg7 hb14
      try simp only [Act.put, la, lz, ls]
      refine wpList_nil ?_
      refine hK0 _ _ ?_
      first | go_meet | (go_wp2_with fail; go_meet)
      exact ⟨_, _, _, rfl, EH, EE, HB, HXg3, HXg6, HXg7, HXb14⟩
    have N1 := Lib.hid c1
    clear c1 K1
    go_upto_region 12 with (fail)
    rename_i K hK
    refine wp_region_list ?_
    refine wpList_one rfl (w' := V5) (v := .pointer (some ⟨g5, 0, none⟩)) (by kernel_rfl) ?_
    try simp only [Act.put, la, lz, ls]
    refine wpList_load_cell rfl 3 (.tmp 65) rfl ⟨g5, 0, none⟩ rfl (.int .i64 o) _ HXg5.out.cells.1 Tryd.underlying3 rfl ?_
    try simp only [Act.put, la, lz, ls]
    refine wpList_one rfl (w' := V5) (v := .bool false) (exec_eqF rfl rfl rfl N1.out _) ?_
    try simp only [Act.put, la, lz, ls]
    refine wpList_one rfl (w' := V5) (v := .bool false) rfl ?_
    try simp only [Act.put, la, lz, ls]
    refine wpList_nil ?_
    refine hK _ _ ?_
    clear hK K
    by_cases c2 : o = 2
    · clear K3 K4 K66 K11 K12 K39 K46 K47 K48 K49 K67 K43 K45 K44 K82 K0
      obtain ⟨q1, v, h1, p1, p2, p3, pEH, pEE⟩ := K2.out c2
      have EQ := Lib.hid c2
      have EH := Lib.hid pEH
      have EE := Lib.hid pEE
      have Q1 := Lib.hid p1
      have Q2 := Lib.hid p2
      have HP := Lib.hid p3
      clear pEH pEE p1 p2 p3
      clear c2
      go_upto_region 14 with (fail)
      rename_i K hK
      refine wp_region_list ?_
      refine wpList_one rfl (w' := V5) (v := .pointer (some ⟨g5, 0, none⟩)) (by kernel_rfl) ?_
      try simp only [Act.put, la, lz, ls]
      refine wpList_load_cell rfl 3 (.tmp 76) rfl ⟨g5, 0, none⟩ rfl (.int .i64 o) _ HXg5.out.cells.1 Tryd.underlying3 rfl ?_
      try simp only [Act.put, la, lz, ls]
      refine wpList_one rfl (w' := V5) (v := .bool true) (exec_eqI rfl rfl rfl EQ.out _) ?_
      try simp only [Act.put, la, lz, ls]
      refine wpList_one rfl (w' := V5) (v := .bool true) rfl ?_
      try simp only [Act.put, la, lz, ls]
      refine wpList_nil ?_
      refine hK _ _ ?_
      clear hK K
      go_upto_region 15 with (fail)
      refine wp_region_list ?_
      refine wpList_load_row rfl 28 (.tmp 3) rfl g3 rfl 28 (hC h) (0, 0) _ HXg3.out Tryd.underlying28 rfl (sz_hart _) ?_
      try simp only [Act.put, la, lz, ls]
      refine wpList_one rfl (w' := V5) (v := .pointer (some ⟨g5, 1, none⟩)) (by kernel_rfl) ?_
      try simp only [Act.put, la, lz, ls]
      refine wpList_load_cell rfl 3 (.tmp 80) rfl ⟨g5, 1, none⟩ rfl (.int .i64 d) _ HXg5.out.cells.2.1 Tryd.underlying3 rfl ?_
      try simp only [Act.put, la, lz, ls]
      refine wpList_one rfl (w' := V5) (v := .pointer (some ⟨g3, 32, none⟩)) (by kernel_rfl) ?_
      try simp only [Act.put, la, lz, ls]
      refine wpList_load_cell rfl 3 (.tmp 82) rfl ⟨g3, 32, none⟩ rfl (.int .i64 (h 32)) _ (HXg3.out.cell (j := 32) (by omega)) Tryd.underlying3 rfl ?_
      try simp only [Act.put, la, lz, ls]
      refine wpList_one rfl (w' := V5) (v := .pointer (some ⟨g5, 4, none⟩)) (by kernel_rfl) ?_
      try simp only [Act.put, la, lz, ls]
      refine wpList_load_cell rfl 3 (.tmp 84) rfl ⟨g5, 4, none⟩ rfl (.int .i64 n) _ HXg5.out.cells.2.2.2.2 Tryd.underlying3 rfl ?_
      try simp only [Act.put, la, lz, ls]
      refine wpList_one rfl (w' := V5) (v := .int .i64 q1) (exec_mul rfl rfl rfl Q1.out _) ?_
      try simp only [Act.put, la, lz, ls]
      refine wpList_one rfl (w' := V5) (v := .int .i64 v) (exec_add rfl rfl rfl Q2.out _) ?_
      try simp only [Act.put, la, lz, ls]
      refine wpList_call rfl (f := 19) (args := #[hv h, .int .i64 d, .int .i64 v]) (v := hv h1) (by kernel_rfl) (rput_lit HP.out _) ?_
      intro V6 hb
      replace HB : Hid (Bel w V6) := Lib.hid (HB.out.trans hb)
      replace HXg3 : Hid (HAt V6 g3 h) := Lib.hid (HXg3.out.bel hb)
      replace HXg5 : Hid (InAt V6 g5 o d (A : Int) (B : Int) n) := Lib.hid (HXg5.out.bel hb)
      replace HXg6 : Hid (HAt V6 g6 (fun _ => 0)) := Lib.hid (HXg6.out.bel hb)
      replace HXg7 : Hid (EfAt V6 g7 e0) := Lib.hid (HXg7.out.bel hb)
      replace HXb14 : Hid (EfAt V6 b14 e0) := Lib.hid (HXb14.out.bel hb)
      clear hb
      try simp only [Act.put, la, lz, ls]
      refine wpList_store_row rfl 28 (.tmp 3) (.tmp 88) rfl g3 (hC h1) rfl rfl 28 (hC h) HXg3.out (sz_hart _) (by rw [hC_size, hC_size]) (hC_ones _) ?_
      have hn := row_same (cs := (hC h1)) HXg3.out
      have hb := row_bel HB.out (g := g3) (by have := HG.out; have := HG1.out; have := HG2.out; have := HG3.out; have := HG4.out; omega) (hC h1)
      have hg5 := (setRow_other V6 g3 g5 (hC h1) (by have := HG.out; have := HG1.out; have := HG2.out; have := HG3.out; have := HG4.out; omega)).trans HXg5.out
      have hg6 := (setRow_other V6 g3 g6 (hC h1) (by have := HG.out; have := HG1.out; have := HG2.out; have := HG3.out; have := HG4.out; omega)).trans HXg6.out
      have hg7 := (setRow_other V6 g3 g7 (hC h1) (by have := HG.out; have := HG1.out; have := HG2.out; have := HG3.out; have := HG4.out; omega)).trans HXg7.out
      have hb14 := (setRow_other V6 g3 b14 (hC h1) (by have := HG.out; have := HG1.out; have := HG2.out; have := HG3.out; have := HG4.out; omega)).trans HXb14.out
      generalize V6.setRow g3 (hC h1) = V7 at hn hb hg5 hg6 hg7 hb14 ⊢
      clear HB HXg3 HXg5 HXg6 HXg7 HXb14
      have HB : Hid (Bel w V7) := Lib.hid hb
      have HXg5 : Hid (InAt V7 g5 o d (A : Int) (B : Int) n) := Lib.hid hg5
      have HXg6 : Hid (HAt V7 g6 (fun _ => 0)) := Lib.hid hg6
      have HXg7 : Hid (EfAt V7 g7 e0) := Lib.hid hg7
      have HXb14 : Hid (EfAt V7 b14 e0) := Lib.hid hb14
      have HXg3 : Hid (HAt V7 g3 h1) := Lib.hid hn
      clear hn hb hg5 hg6 hg7 hb14
      try simp only [Act.put, la, lz, ls]
      refine wpList_nil ?_
      refine hK0 _ _ ?_
      first | go_meet | (go_wp2_with fail; go_meet)
      exact ⟨_, _, _, rfl, EH, EE, HB, HXg3, HXg6, HXg7, HXb14⟩
    have N2 := Lib.hid c2
    clear c2 K2
    go_upto_region 14 with (fail)
    rename_i K hK
    refine wp_region_list ?_
    refine wpList_one rfl (w' := V5) (v := .pointer (some ⟨g5, 0, none⟩)) (by kernel_rfl) ?_
    try simp only [Act.put, la, lz, ls]
    refine wpList_load_cell rfl 3 (.tmp 76) rfl ⟨g5, 0, none⟩ rfl (.int .i64 o) _ HXg5.out.cells.1 Tryd.underlying3 rfl ?_
    try simp only [Act.put, la, lz, ls]
    refine wpList_one rfl (w' := V5) (v := .bool false) (exec_eqF rfl rfl rfl N2.out _) ?_
    try simp only [Act.put, la, lz, ls]
    refine wpList_one rfl (w' := V5) (v := .bool false) rfl ?_
    try simp only [Act.put, la, lz, ls]
    refine wpList_nil ?_
    refine hK _ _ ?_
    clear hK K
    by_cases c3 : o = 3
    · clear K4 K66 K11 K12 K39 K46 K47 K48 K49 K67 K43 K45 K44 K82 K0
      obtain ⟨h1, p1, pEH, pEE⟩ := K3.out c3
      have EQ := Lib.hid c3
      have EH := Lib.hid pEH
      have EE := Lib.hid pEE
      have HP := Lib.hid p1
      clear pEH pEE p1
      clear c3
      go_upto_region 16 with (fail)
      rename_i K hK
      refine wp_region_list ?_
      refine wpList_one rfl (w' := V5) (v := .pointer (some ⟨g5, 0, none⟩)) (by kernel_rfl) ?_
      try simp only [Act.put, la, lz, ls]
      refine wpList_load_cell rfl 3 (.tmp 90) rfl ⟨g5, 0, none⟩ rfl (.int .i64 o) _ HXg5.out.cells.1 Tryd.underlying3 rfl ?_
      try simp only [Act.put, la, lz, ls]
      refine wpList_one rfl (w' := V5) (v := .bool true) (exec_eqI rfl rfl rfl EQ.out _) ?_
      try simp only [Act.put, la, lz, ls]
      refine wpList_one rfl (w' := V5) (v := .bool true) rfl ?_
      try simp only [Act.put, la, lz, ls]
      refine wpList_nil ?_
      refine hK _ _ ?_
      clear hK K
      go_upto_region 17 with (fail)
      rename_i K hK
      refine wp_region_list ?_
      refine wpList_load_row rfl 28 (.tmp 3) rfl g3 rfl 28 (hC h) (0, 0) _ HXg3.out Tryd.underlying28 rfl (sz_hart _) ?_
      try simp only [Act.put, la, lz, ls]
      refine wpList_one rfl (w' := V5) (v := .pointer (some ⟨g5, 1, none⟩)) (by kernel_rfl) ?_
      try simp only [Act.put, la, lz, ls]
      refine wpList_load_cell rfl 3 (.tmp 94) rfl ⟨g5, 1, none⟩ rfl (.int .i64 d) _ HXg5.out.cells.2.1 Tryd.underlying3 rfl ?_
      try simp only [Act.put, la, lz, ls]
      refine wpList_one rfl (w' := V5) (v := .int .i64 m4) rfl ?_
      try simp only [Act.put, la, lz, ls]
      refine wpList_call rfl (f := 19) (args := #[hv h, .int .i64 d, .int .i64 m4]) (v := hv h1) (by kernel_rfl) (rput_lit HP.out _) ?_
      intro V6 hb
      replace HB : Hid (Bel w V6) := Lib.hid (HB.out.trans hb)
      replace HXg3 : Hid (HAt V6 g3 h) := Lib.hid (HXg3.out.bel hb)
      replace HXg5 : Hid (InAt V6 g5 o d (A : Int) (B : Int) n) := Lib.hid (HXg5.out.bel hb)
      replace HXg6 : Hid (HAt V6 g6 (fun _ => 0)) := Lib.hid (HXg6.out.bel hb)
      replace HXg7 : Hid (EfAt V6 g7 e0) := Lib.hid (HXg7.out.bel hb)
      replace HXb14 : Hid (EfAt V6 b14 e0) := Lib.hid (HXb14.out.bel hb)
      clear hb
      try simp only [Act.put, la, lz, ls]
      refine wpList_store_row rfl 28 (.tmp 3) (.tmp 97) rfl g3 (hC h1) rfl rfl 28 (hC h) HXg3.out (sz_hart _) (by rw [hC_size, hC_size]) (hC_ones _) ?_
      have hn := row_same (cs := (hC h1)) HXg3.out
      have hb := row_bel HB.out (g := g3) (by have := HG.out; have := HG1.out; have := HG2.out; have := HG3.out; have := HG4.out; omega) (hC h1)
      have hg5 := (setRow_other V6 g3 g5 (hC h1) (by have := HG.out; have := HG1.out; have := HG2.out; have := HG3.out; have := HG4.out; omega)).trans HXg5.out
      have hg6 := (setRow_other V6 g3 g6 (hC h1) (by have := HG.out; have := HG1.out; have := HG2.out; have := HG3.out; have := HG4.out; omega)).trans HXg6.out
      have hg7 := (setRow_other V6 g3 g7 (hC h1) (by have := HG.out; have := HG1.out; have := HG2.out; have := HG3.out; have := HG4.out; omega)).trans HXg7.out
      have hb14 := (setRow_other V6 g3 b14 (hC h1) (by have := HG.out; have := HG1.out; have := HG2.out; have := HG3.out; have := HG4.out; omega)).trans HXb14.out
      generalize V6.setRow g3 (hC h1) = V7 at hn hb hg5 hg6 hg7 hb14 ⊢
      clear HB HXg3 HXg5 HXg6 HXg7 HXb14
      have HB : Hid (Bel w V7) := Lib.hid hb
      have HXg5 : Hid (InAt V7 g5 o d (A : Int) (B : Int) n) := Lib.hid hg5
      have HXg6 : Hid (HAt V7 g6 (fun _ => 0)) := Lib.hid hg6
      have HXg7 : Hid (EfAt V7 g7 e0) := Lib.hid hg7
      have HXb14 : Hid (EfAt V7 b14 e0) := Lib.hid hb14
      have HXg3 : Hid (HAt V7 g3 h1) := Lib.hid hn
      clear hn hb hg5 hg6 hg7 hb14
      try simp only [Act.put, la, lz, ls]
      refine wpList_nil ?_
      refine hK _ _ ?_
      clear hK K
      go_upto_region 18 with (fail)
      refine wp_region_list ?_
      refine wpList_one rfl (w' := V7) (v := .int .i64 mN) rfl ?_
      try simp only [Act.put, la, lz, ls]
      refine wpList_one rfl (w' := V7) (v := .int .i64 mN) rfl ?_
      try simp only [Act.put, la, lz, ls]
      refine wpList_nil ?_
      refine hK0 _ _ ?_
      first | go_meet | (go_wp2_with fail; go_meet)
      exact ⟨_, _, _, rfl, EH, EE, HB, HXg3, HXg6, HXg7, HXb14⟩
    have N3 := Lib.hid c3
    clear c3 K3
    go_upto_region 16 with (fail)
    rename_i K hK
    refine wp_region_list ?_
    refine wpList_one rfl (w' := V5) (v := .pointer (some ⟨g5, 0, none⟩)) (by kernel_rfl) ?_
    try simp only [Act.put, la, lz, ls]
    refine wpList_load_cell rfl 3 (.tmp 90) rfl ⟨g5, 0, none⟩ rfl (.int .i64 o) _ HXg5.out.cells.1 Tryd.underlying3 rfl ?_
    try simp only [Act.put, la, lz, ls]
    refine wpList_one rfl (w' := V5) (v := .bool false) (exec_eqF rfl rfl rfl N3.out _) ?_
    try simp only [Act.put, la, lz, ls]
    refine wpList_one rfl (w' := V5) (v := .bool false) rfl ?_
    try simp only [Act.put, la, lz, ls]
    refine wpList_nil ?_
    refine hK _ _ ?_
    clear hK K
    by_cases c4 : o = 4
    · clear K66 K11 K12 K39 K46 K47 K48 K49 K67 K43 K45 K44 K82 K0
      obtain ⟨h1, q1, v, p1, p2, p3, pEH, pEE⟩ := K4.out c4
      have EQ := Lib.hid c4
      have EH := Lib.hid pEH
      have EE := Lib.hid pEE
      have HP := Lib.hid p1
      have Q1 := Lib.hid p2
      have HV := Lib.hid p3
      clear pEH pEE p1 p2 p3
      clear c4
      go_upto_region 19 with (fail)
      rename_i K hK
      refine wp_region_list ?_
      refine wpList_one rfl (w' := V5) (v := .pointer (some ⟨g5, 0, none⟩)) (by kernel_rfl) ?_
      try simp only [Act.put, la, lz, ls]
      refine wpList_load_cell rfl 3 (.tmp 100) rfl ⟨g5, 0, none⟩ rfl (.int .i64 o) _ HXg5.out.cells.1 Tryd.underlying3 rfl ?_
      try simp only [Act.put, la, lz, ls]
      refine wpList_one rfl (w' := V5) (v := .bool true) (exec_eqI rfl rfl rfl EQ.out _) ?_
      try simp only [Act.put, la, lz, ls]
      refine wpList_one rfl (w' := V5) (v := .bool true) rfl ?_
      try simp only [Act.put, la, lz, ls]
      refine wpList_nil ?_
      refine hK _ _ ?_
      clear hK K
      go_upto_region 20 with (fail)
      rename_i K hK
      refine wp_region_list ?_
      refine wpList_load_row rfl 28 (.tmp 3) rfl g3 rfl 28 (hC h) (0, 0) _ HXg3.out Tryd.underlying28 rfl (sz_hart _) ?_
      try simp only [Act.put, la, lz, ls]
      refine wpList_one rfl (w' := V5) (v := .pointer (some ⟨g5, 1, none⟩)) (by kernel_rfl) ?_
      try simp only [Act.put, la, lz, ls]
      refine wpList_load_cell rfl 3 (.tmp 104) rfl ⟨g5, 1, none⟩ rfl (.int .i64 d) _ HXg5.out.cells.2.1 Tryd.underlying3 rfl ?_
      try simp only [Act.put, la, lz, ls]
      refine wpList_one rfl (w' := V5) (v := .int .i64 m4) rfl ?_
      try simp only [Act.put, la, lz, ls]
      refine wpList_call rfl (f := 19) (args := #[hv h, .int .i64 d, .int .i64 m4]) (v := hv h1) (by kernel_rfl) (rput_lit HP.out _) ?_
      intro V6 hb
      replace HB : Hid (Bel w V6) := Lib.hid (HB.out.trans hb)
      replace HXg3 : Hid (HAt V6 g3 h) := Lib.hid (HXg3.out.bel hb)
      replace HXg5 : Hid (InAt V6 g5 o d (A : Int) (B : Int) n) := Lib.hid (HXg5.out.bel hb)
      replace HXg6 : Hid (HAt V6 g6 (fun _ => 0)) := Lib.hid (HXg6.out.bel hb)
      replace HXg7 : Hid (EfAt V6 g7 e0) := Lib.hid (HXg7.out.bel hb)
      replace HXb14 : Hid (EfAt V6 b14 e0) := Lib.hid (HXb14.out.bel hb)
      clear hb
      try simp only [Act.put, la, lz, ls]
      refine wpList_store_row rfl 28 (.tmp 3) (.tmp 107) rfl g3 (hC h1) rfl rfl 28 (hC h) HXg3.out (sz_hart _) (by rw [hC_size, hC_size]) (hC_ones _) ?_
      have hn := row_same (cs := (hC h1)) HXg3.out
      have hb := row_bel HB.out (g := g3) (by have := HG.out; have := HG1.out; have := HG2.out; have := HG3.out; have := HG4.out; omega) (hC h1)
      have hg5 := (setRow_other V6 g3 g5 (hC h1) (by have := HG.out; have := HG1.out; have := HG2.out; have := HG3.out; have := HG4.out; omega)).trans HXg5.out
      have hg6 := (setRow_other V6 g3 g6 (hC h1) (by have := HG.out; have := HG1.out; have := HG2.out; have := HG3.out; have := HG4.out; omega)).trans HXg6.out
      have hg7 := (setRow_other V6 g3 g7 (hC h1) (by have := HG.out; have := HG1.out; have := HG2.out; have := HG3.out; have := HG4.out; omega)).trans HXg7.out
      have hb14 := (setRow_other V6 g3 b14 (hC h1) (by have := HG.out; have := HG1.out; have := HG2.out; have := HG3.out; have := HG4.out; omega)).trans HXb14.out
      generalize V6.setRow g3 (hC h1) = V7 at hn hb hg5 hg6 hg7 hb14 ⊢
      clear HB HXg3 HXg5 HXg6 HXg7 HXb14
      have HB : Hid (Bel w V7) := Lib.hid hb
      have HXg5 : Hid (InAt V7 g5 o d (A : Int) (B : Int) n) := Lib.hid hg5
      have HXg6 : Hid (HAt V7 g6 (fun _ => 0)) := Lib.hid hg6
      have HXg7 : Hid (EfAt V7 g7 e0) := Lib.hid hg7
      have HXb14 : Hid (EfAt V7 b14 e0) := Lib.hid hb14
      have HXg3 : Hid (HAt V7 g3 h1) := Lib.hid hn
      clear hn hb hg5 hg6 hg7 hb14
      try simp only [Act.put, la, lz, ls]
      refine wpList_nil ?_
      refine hK _ _ ?_
      clear hK K
      go_upto_region 21 with (fail)
      refine wp_region_list ?_
      refine wpList_one rfl (w' := V7) (v := .int .i64 (h A)) rfl ?_
      try simp only [Act.put, la, lz, ls]
      refine wpList_one rfl (w' := V7) (v := .pointer (some ⟨g5, 4, none⟩)) (by kernel_rfl) ?_
      try simp only [Act.put, la, lz, ls]
      refine wpList_load_cell rfl 3 (.tmp 110) rfl ⟨g5, 4, none⟩ rfl (.int .i64 n) _ HXg5.out.cells.2.2.2.2 Tryd.underlying3 rfl ?_
      try simp only [Act.put, la, lz, ls]
      refine wpList_one rfl (w' := V7) (v := .int .i64 q1) (exec_add rfl rfl rfl Q1.out _) ?_
      try simp only [Act.put, la, lz, ls]
      refine wpList_call rfl (f := 42) (args := #[.int .i64 6, .int .i64 q1, .int .i64 (-2)]) (v := .tuple #[.int .i64 v, .bool true]) (by kernel_rfl) (rtl HV.out (by rfl) _) ?_
      intro V8 hb
      replace HB : Hid (Bel w V8) := Lib.hid (HB.out.trans hb)
      replace HXg3 : Hid (HAt V8 g3 h1) := Lib.hid (HXg3.out.bel hb)
      replace HXg5 : Hid (InAt V8 g5 o d (A : Int) (B : Int) n) := Lib.hid (HXg5.out.bel hb)
      replace HXg6 : Hid (HAt V8 g6 (fun _ => 0)) := Lib.hid (HXg6.out.bel hb)
      replace HXg7 : Hid (EfAt V8 g7 e0) := Lib.hid (HXg7.out.bel hb)
      replace HXb14 : Hid (EfAt V8 b14 e0) := Lib.hid (HXb14.out.bel hb)
      clear hb
      try simp only [Act.put, la, lz, ls]
      refine wpList_one rfl (w' := V8) (v := .tuple #[.int .i64 v, .bool true]) rfl ?_
      try simp only [Act.put, la, lz, ls]
      refine wpList_one rfl (w' := V8) (v := .int .i64 v) rfl ?_
      try simp only [Act.put, la, lz, ls]
      refine wpList_one rfl (w' := V8) (v := .bool true) rfl ?_
      try simp only [Act.put, la, lz, ls]
      refine wpList_one rfl (w' := V8) (v := .int .i64 v) rfl ?_
      try simp only [Act.put, la, lz, ls]
      refine wpList_nil ?_
      refine hK0 _ _ ?_
      first | go_meet | (go_wp2_with fail; go_meet)
      exact ⟨_, _, _, rfl, EH, EE, HB, HXg3, HXg6, HXg7, HXb14⟩
    have N4 := Lib.hid c4
    clear c4 K4
    go_upto_region 19 with (fail)
    rename_i K hK
    refine wp_region_list ?_
    refine wpList_one rfl (w' := V5) (v := .pointer (some ⟨g5, 0, none⟩)) (by kernel_rfl) ?_
    try simp only [Act.put, la, lz, ls]
    refine wpList_load_cell rfl 3 (.tmp 100) rfl ⟨g5, 0, none⟩ rfl (.int .i64 o) _ HXg5.out.cells.1 Tryd.underlying3 rfl ?_
    try simp only [Act.put, la, lz, ls]
    refine wpList_one rfl (w' := V5) (v := .bool false) (exec_eqF rfl rfl rfl N4.out _) ?_
    try simp only [Act.put, la, lz, ls]
    refine wpList_one rfl (w' := V5) (v := .bool false) rfl ?_
    try simp only [Act.put, la, lz, ls]
    refine wpList_nil ?_
    refine hK _ _ ?_
    clear hK K
    by_cases c66 : F = 66
    · clear K11 K12 K39 K46 K47 K48 K49 K67 K43 K45 K44 K82 K0
      obtain ⟨q, p1, pEH, pEE⟩ := K66.out c66
      have EQ := Lib.hid c66
      have HGO := Lib.hid p1
      have EE := Lib.hid pEE
      clear c66 p1 pEE
      go_upto_region 22 with (fail)
      rename_i K hK
      refine wp_region_list ?_
      refine wpList_one rfl (w' := V5) (v := .int .u8 F) rfl ?_
      try simp only [Act.put, la, lz, ls]
      refine wpList_one rfl (w' := V5) (v := .bool true) (exec_e8T rfl rfl rfl EQ.out _) ?_
      try simp only [Act.put, la, lz, ls]
      refine wpList_one rfl (w' := V5) (v := .bool true) rfl ?_
      try simp only [Act.put, la, lz, ls]
      refine wpList_nil ?_
      refine hK _ _ ?_
      clear hK K
      go_upto_region 23 with (fail)
      rename_i K hK
      refine wp_region_list ?_
      refine wpList_one rfl (w' := V5) (v := .pointer (some ⟨g5, 0, none⟩)) (by kernel_rfl) ?_
      try simp only [Act.put, la, lz, ls]
      refine wpList_load_cell rfl 3 (.tmp 119) rfl ⟨g5, 0, none⟩ rfl (.int .i64 o) _ HXg5.out.cells.1 Tryd.underlying3 rfl ?_
      try simp only [Act.put, la, lz, ls]
      refine wpList_one rfl (w' := V5) (v := .int .i64 (h A)) rfl ?_
      try simp only [Act.put, la, lz, ls]
      refine wpList_one rfl (w' := V5) (v := .int .i64 (h B)) rfl ?_
      try simp only [Act.put, la, lz, ls]
      refine wpList_call rfl (f := 43) (args := #[.int .i64 o, .int .i64 (h A), .int .i64 (h B)]) (v := .bool q) (by kernel_rfl) (HGO.out _) ?_
      intro V6 hb
      replace HB : Hid (Bel w V6) := Lib.hid (HB.out.trans hb)
      replace HXg3 : Hid (HAt V6 g3 h) := Lib.hid (HXg3.out.bel hb)
      replace HXg5 : Hid (InAt V6 g5 o d (A : Int) (B : Int) n) := Lib.hid (HXg5.out.bel hb)
      replace HXg6 : Hid (HAt V6 g6 (fun _ => 0)) := Lib.hid (HXg6.out.bel hb)
      replace HXg7 : Hid (EfAt V6 g7 e0) := Lib.hid (HXg7.out.bel hb)
      replace HXb14 : Hid (EfAt V6 b14 e0) := Lib.hid (HXb14.out.bel hb)
      clear hb
      try simp only [Act.put, la, lz, ls]
      refine wpList_one rfl (w' := V6) (v := .bool q) rfl ?_
      try simp only [Act.put, la, lz, ls]
      refine wpList_nil ?_
      refine hK _ _ ?_
      clear hK K
      cases q with
      | true =>
        go_upto_region 24 with (fail)
        rename_i K hK
        refine wp_region_list ?_
        refine wpList_one rfl (w' := V6) (v := .bool true) rfl ?_
        try simp only [Act.put, la, lz, ls]
        refine wpList_nil ?_
        refine hK _ _ ?_
        clear hK K
        have EH := Lib.hid pEH
        clear pEH
        go_upto_region 25 with (fail)
        refine wp_region_list ?_
        refine wpList_one rfl (w' := V6) (v := .int .i64 mN) rfl ?_
        try simp only [Act.put, la, lz, ls]
        refine wpList_one rfl (w' := V6) (v := .int .i64 mN) rfl ?_
        try simp only [Act.put, la, lz, ls]
        refine wpList_nil ?_
        refine hK0 _ _ ?_
        first | go_meet | (go_wp2_with fail; go_meet)
        exact ⟨_, _, _, rfl, EH, EE, HB, HXg3, HXg6, HXg7, HXb14⟩
      | false =>
        go_upto_region 24 with (fail)
        rename_i K hK
        refine wp_region_list ?_
        refine wpList_one rfl (w' := V6) (v := .bool false) rfl ?_
        try simp only [Act.put, la, lz, ls]
        refine wpList_nil ?_
        refine hK _ _ ?_
        clear hK K
        have EH := Lib.hid pEH
        clear pEH
        first | go_meet | (go_wp2_with fail; go_meet)
        exact ⟨_, _, _, rfl, EH, EE, HB, HXg3, HXg6, HXg7, HXb14⟩
    have N66 := Lib.hid c66
    clear c66 K66
    go_upto_region 22 with (fail)
    rename_i K hK
    refine wp_region_list ?_
    refine wpList_one rfl (w' := V5) (v := .int .u8 F) rfl ?_
    try simp only [Act.put, la, lz, ls]
    refine wpList_one rfl (w' := V5) (v := .bool false) (exec_e8F rfl rfl rfl N66.out _) ?_
    try simp only [Act.put, la, lz, ls]
    refine wpList_one rfl (w' := V5) (v := .bool false) rfl ?_
    try simp only [Act.put, la, lz, ls]
    refine wpList_nil ?_
    refine hK _ _ ?_
    clear hK K
    by_cases c11 : o = 11
    · clear K12 K39 K46 K47 K48 K49 K67 K43 K45 K44 K82 K0
      obtain ⟨ad, p1, pEH, pEE⟩ := K11.out c11
      have EQ := Lib.hid c11
      have EH := Lib.hid pEH
      have EE := Lib.hid pEE
      have HA := Lib.hid p1
      clear pEH pEE p1
      clear c11
      go_upto_region 26 with (fail)
      rename_i K hK
      refine wp_region_list ?_
      refine wpList_one rfl (w' := V5) (v := .pointer (some ⟨g5, 0, none⟩)) (by kernel_rfl) ?_
      try simp only [Act.put, la, lz, ls]
      refine wpList_load_cell rfl 3 (.tmp 127) rfl ⟨g5, 0, none⟩ rfl (.int .i64 o) _ HXg5.out.cells.1 Tryd.underlying3 rfl ?_
      try simp only [Act.put, la, lz, ls]
      refine wpList_one rfl (w' := V5) (v := .bool true) (exec_eqI rfl rfl rfl EQ.out _) ?_
      try simp only [Act.put, la, lz, ls]
      refine wpList_one rfl (w' := V5) (v := .bool true) rfl ?_
      try simp only [Act.put, la, lz, ls]
      refine wpList_nil ?_
      refine hK _ _ ?_
      clear hK K
      go_upto_region 27 with (fail)
      refine Upto.begin (z := 8) (T := fun w' => HAt w' g3 h ∧ InAt w' g5 o d (A : Int) (B : Int) n) (by kernel_rfl) ?_
      have hb : Bel V5 V5.drew := (Bel.refl V5).drew
      generalize V5.drew = V6 at hb ⊢
      replace HB : Hid (Bel w V6) := Lib.hid (HB.out.trans hb)
      replace HXg3 : Hid (HAt V6 g3 h) := Lib.hid (HXg3.out.bel hb)
      replace HXg5 : Hid (InAt V6 g5 o d (A : Int) (B : Int) n) := Lib.hid (HXg5.out.bel hb)
      replace HXg6 : Hid (HAt V6 g6 (fun _ => 0)) := Lib.hid (HXg6.out.bel hb)
      replace HXg7 : Hid (EfAt V6 g7 e0) := Lib.hid (HXg7.out.bel hb)
      replace HXb14 : Hid (EfAt V6 b14 e0) := Lib.hid (HXb14.out.bel hb)
      clear hb
      have hT : HAt V6 g3 h ∧ InAt V6 g5 o d (A : Int) (B : Int) n := ⟨HXg3.out, HXg5.out⟩
      refine takeU 130 (i := 0) (v := .pointer (some ⟨g5, 1, none⟩)) rfl rfl rfl (by kernel_rfl) (by kernel_rfl) (by kernel_rfl) (by kernel_rfl) (fun _ _ _ h => h) (by kernel_rfl) (fun w0 hS => (by kernel_rfl)) hT ?_
      try simp only [la, lz, ls]
      refine takeU 131 (i := 1) (v := .int .i64 d) rfl rfl rfl (by kernel_rfl) (by kernel_rfl) (by kernel_rfl) (by kernel_rfl) (fun _ _ _ h => h) (by kernel_rfl) (fun w0 hS => (exec_cell 3 (.tmp 130) rfl ⟨g5, 1, none⟩ rfl _ _ (hS.2).cells.2.1 Tryd.underlying3 rfl)) hT ?_
      try simp only [la, lz, ls]
      refine takeU 132 (i := 2) (v := .int .i64 (h A)) rfl rfl rfl (by kernel_rfl) (by kernel_rfl) (by kernel_rfl) (by kernel_rfl) (fun _ _ _ h => h) (by kernel_rfl) (fun w0 hS => rfl) hT ?_
      try simp only [la, lz, ls]
      refine takeU 133 (i := 3) (v := .pointer (some ⟨g5, 4, none⟩)) rfl rfl rfl (by kernel_rfl) (by kernel_rfl) (by kernel_rfl) (by kernel_rfl) (fun _ _ _ h => h) (by kernel_rfl) (fun w0 hS => (by kernel_rfl)) hT ?_
      try simp only [la, lz, ls]
      refine takeU 134 (i := 4) (v := .int .i64 n) rfl rfl rfl (by kernel_rfl) (by kernel_rfl) (by kernel_rfl) (by kernel_rfl) (fun _ _ _ h => h) (by kernel_rfl) (fun w0 hS => (exec_cell 3 (.tmp 133) rfl ⟨g5, 4, none⟩ rfl _ _ (hS.2).cells.2.2.2.2 Tryd.underlying3 rfl)) hT ?_
      try simp only [la, lz, ls]
      refine takeU 135 (i := 5) (v := .int .i64 (IntKind.i64.wrap (h A + n))) rfl rfl rfl (by kernel_rfl) (by kernel_rfl) (by kernel_rfl) (by kernel_rfl) (fun _ _ _ h => h) (by kernel_rfl) (fun w0 hS => (by kernel_rfl)) hT ?_
      try simp only [la, lz, ls]
      refine callU 136 (i := 6) rfl rfl (by kernel_rfl) (by kernel_rfl) (f := 41) (args := #[.int .i64 (IntKind.i64.wrap (h A + n))]) (v := .int .i64 ad) (by kernel_rfl) (rwl ((w32_i _).trans HA.out) _) (fun w' hb => ⟨HXg3.out.bel hb, HXg5.out.bel hb⟩) ?_
      intro V7 hb
      try simp only [la, lz, ls]
      replace HB : Hid (Bel w V7) := Lib.hid (HB.out.trans hb)
      replace HXg3 : Hid (HAt V7 g3 h) := Lib.hid (HXg3.out.bel hb)
      replace HXg5 : Hid (InAt V7 g5 o d (A : Int) (B : Int) n) := Lib.hid (HXg5.out.bel hb)
      replace HXg6 : Hid (HAt V7 g6 (fun _ => 0)) := Lib.hid (HXg6.out.bel hb)
      replace HXg7 : Hid (EfAt V7 g7 e0) := Lib.hid (HXg7.out.bel hb)
      replace HXb14 : Hid (EfAt V7 b14 e0) := Lib.hid (HXb14.out.bel hb)
      clear hb hT
      have hT : HAt V7 g3 h ∧ InAt V7 g5 o d (A : Int) (B : Int) n := ⟨HXg3.out, HXg5.out⟩
      refine takeU 137 (i := 7) (v := .agg (eC ⟨1, d, ad, 0, 0⟩)) rfl rfl rfl (by kernel_rfl) (by kernel_rfl) (by kernel_rfl) (by kernel_rfl) (fun _ _ _ h => h) (by kernel_rfl) (fun w0 hS => (by kernel_rfl)) hT ?_
      try simp only [la, lz, ls]
      have hn := row_same (cs := (eC ⟨1, d, ad, 0, 0⟩)) HXb14.out
      have hb := row_bel HB.out (g := b14) (by have := HG.out; have := HG1.out; have := HG2.out; have := HG3.out; have := HG4.out; omega) (eC ⟨1, d, ad, 0, 0⟩)
      have hg3 := (setRow_other V7 b14 g3 (eC ⟨1, d, ad, 0, 0⟩) (by have := HG.out; have := HG1.out; have := HG2.out; have := HG3.out; have := HG4.out; omega)).trans HXg3.out
      have hg5 := (setRow_other V7 b14 g5 (eC ⟨1, d, ad, 0, 0⟩) (by have := HG.out; have := HG1.out; have := HG2.out; have := HG3.out; have := HG4.out; omega)).trans HXg5.out
      have hg6 := (setRow_other V7 b14 g6 (eC ⟨1, d, ad, 0, 0⟩) (by have := HG.out; have := HG1.out; have := HG2.out; have := HG3.out; have := HG4.out; omega)).trans HXg6.out
      have hg7 := (setRow_other V7 b14 g7 (eC ⟨1, d, ad, 0, 0⟩) (by have := HG.out; have := HG1.out; have := HG2.out; have := HG3.out; have := HG4.out; omega)).trans HXg7.out
      refine rowL rfl rfl (by kernel_rfl) (by kernel_rfl) 34 (.tmp 14) (.tmp 137) rfl b14 (eC ⟨1, d, ad, 0, 0⟩) rfl rfl 34 (eC e0) HXb14.out (sz_eff _) rfl (eC_ones _) ?_
      generalize V7.setRow b14 (eC ⟨1, d, ad, 0, 0⟩) = V8 at hn hb hg3 hg5 hg6 hg7 ⊢
      clear hT HB HXg3 HXg5 HXg6 HXg7 HXb14
      have HB : Hid (Bel w V8) := Lib.hid hb
      have HXg3 : Hid (HAt V8 g3 h) := Lib.hid hg3
      have HXg5 : Hid (InAt V8 g5 o d (A : Int) (B : Int) n) := Lib.hid hg5
      have HXg6 : Hid (HAt V8 g6 (fun _ => 0)) := Lib.hid hg6
      have HXg7 : Hid (EfAt V8 g7 e0) := Lib.hid hg7
      have HXb14 : Hid (EfAt V8 b14 ⟨1, d, ad, 0, 0⟩) := Lib.hid hn
      clear hn hb hg3 hg5 hg6 hg7
      have hT := True.intro
      refine Upto.done (by kernel_rfl) ?_ _
      clear hT
      refine hK0 _ _ ?_
      first | go_meet | (go_wp2_with fail; go_meet)
      exact ⟨_, _, _, rfl, EH, EE, HB, HXg3, HXg6, HXg7, HXb14⟩
    have N11 := Lib.hid c11
    clear c11 K11
    go_upto_region 26 with (fail)
    rename_i K hK
    refine wp_region_list ?_
    refine wpList_one rfl (w' := V5) (v := .pointer (some ⟨g5, 0, none⟩)) (by kernel_rfl) ?_
    try simp only [Act.put, la, lz, ls]
    refine wpList_load_cell rfl 3 (.tmp 127) rfl ⟨g5, 0, none⟩ rfl (.int .i64 o) _ HXg5.out.cells.1 Tryd.underlying3 rfl ?_
    try simp only [Act.put, la, lz, ls]
    refine wpList_one rfl (w' := V5) (v := .bool false) (exec_eqF rfl rfl rfl N11.out _) ?_
    try simp only [Act.put, la, lz, ls]
    refine wpList_one rfl (w' := V5) (v := .bool false) rfl ?_
    try simp only [Act.put, la, lz, ls]
    refine wpList_nil ?_
    refine hK _ _ ?_
    clear hK K
    by_cases c12 : o = 12
    · clear K39 K46 K47 K48 K49 K67 K43 K45 K44 K82 K0
      obtain ⟨ad, p1, pEH, pEE⟩ := K12.out c12
      have EQ := Lib.hid c12
      have EH := Lib.hid pEH
      have EE := Lib.hid pEE
      have HA := Lib.hid p1
      clear pEH pEE p1
      clear c12
      go_upto_region 28 with (fail)
      rename_i K hK
      refine wp_region_list ?_
      refine wpList_one rfl (w' := V5) (v := .pointer (some ⟨g5, 0, none⟩)) (by kernel_rfl) ?_
      try simp only [Act.put, la, lz, ls]
      refine wpList_load_cell rfl 3 (.tmp 139) rfl ⟨g5, 0, none⟩ rfl (.int .i64 o) _ HXg5.out.cells.1 Tryd.underlying3 rfl ?_
      try simp only [Act.put, la, lz, ls]
      refine wpList_one rfl (w' := V5) (v := .bool true) (exec_eqI rfl rfl rfl EQ.out _) ?_
      try simp only [Act.put, la, lz, ls]
      refine wpList_one rfl (w' := V5) (v := .bool true) rfl ?_
      try simp only [Act.put, la, lz, ls]
      refine wpList_nil ?_
      refine hK _ _ ?_
      clear hK K
      go_upto_region 29 with (fail)
      refine wp_region_list ?_
      refine wpList_one rfl (w' := V5) (v := .int .i64 (h A)) rfl ?_
      try simp only [Act.put, la, lz, ls]
      refine wpList_one rfl (w' := V5) (v := .pointer (some ⟨g5, 4, none⟩)) (by kernel_rfl) ?_
      try simp only [Act.put, la, lz, ls]
      refine wpList_load_cell rfl 3 (.tmp 143) rfl ⟨g5, 4, none⟩ rfl (.int .i64 n) _ HXg5.out.cells.2.2.2.2 Tryd.underlying3 rfl ?_
      try simp only [Act.put, la, lz, ls]
      refine wpList_one rfl (w' := V5) (v := .int .i64 (IntKind.i64.wrap (h A + n))) (by kernel_rfl) ?_
      try simp only [Act.put, la, lz, ls]
      refine wpList_call rfl (f := 41) (args := #[.int .i64 (IntKind.i64.wrap (h A + n))]) (v := .int .i64 ad) (by kernel_rfl) (rwl ((w32_i _).trans HA.out) _) ?_
      intro V6 hb
      replace HB : Hid (Bel w V6) := Lib.hid (HB.out.trans hb)
      replace HXg3 : Hid (HAt V6 g3 h) := Lib.hid (HXg3.out.bel hb)
      replace HXg5 : Hid (InAt V6 g5 o d (A : Int) (B : Int) n) := Lib.hid (HXg5.out.bel hb)
      replace HXg6 : Hid (HAt V6 g6 (fun _ => 0)) := Lib.hid (HXg6.out.bel hb)
      replace HXg7 : Hid (EfAt V6 g7 e0) := Lib.hid (HXg7.out.bel hb)
      replace HXb14 : Hid (EfAt V6 b14 e0) := Lib.hid (HXb14.out.bel hb)
      clear hb
      try simp only [Act.put, la, lz, ls]
      refine wpList_one rfl (w' := V6) (v := .int .i64 (h B)) rfl ?_
      try simp only [Act.put, la, lz, ls]
      refine wpList_one rfl (w' := V6) (v := .agg (eC ⟨2, 0, ad, (h B), 0⟩)) (by kernel_rfl) ?_
      try simp only [Act.put, la, lz, ls]
      refine wpList_store_row rfl 34 (.tmp 14) (.tmp 148) rfl b14 (eC ⟨2, 0, ad, (h B), 0⟩) rfl rfl 34 (eC e0) HXb14.out (sz_eff _) rfl (eC_ones _) ?_
      have hn := row_same (cs := (eC ⟨2, 0, ad, (h B), 0⟩)) HXb14.out
      have hb := row_bel HB.out (g := b14) (by have := HG.out; have := HG1.out; have := HG2.out; have := HG3.out; have := HG4.out; omega) (eC ⟨2, 0, ad, (h B), 0⟩)
      have hg3 := (setRow_other V6 b14 g3 (eC ⟨2, 0, ad, (h B), 0⟩) (by have := HG.out; have := HG1.out; have := HG2.out; have := HG3.out; have := HG4.out; omega)).trans HXg3.out
      have hg5 := (setRow_other V6 b14 g5 (eC ⟨2, 0, ad, (h B), 0⟩) (by have := HG.out; have := HG1.out; have := HG2.out; have := HG3.out; have := HG4.out; omega)).trans HXg5.out
      have hg6 := (setRow_other V6 b14 g6 (eC ⟨2, 0, ad, (h B), 0⟩) (by have := HG.out; have := HG1.out; have := HG2.out; have := HG3.out; have := HG4.out; omega)).trans HXg6.out
      have hg7 := (setRow_other V6 b14 g7 (eC ⟨2, 0, ad, (h B), 0⟩) (by have := HG.out; have := HG1.out; have := HG2.out; have := HG3.out; have := HG4.out; omega)).trans HXg7.out
      generalize V6.setRow b14 (eC ⟨2, 0, ad, (h B), 0⟩) = V7 at hn hb hg3 hg5 hg6 hg7 ⊢
      clear HB HXg3 HXg5 HXg6 HXg7 HXb14
      have HB : Hid (Bel w V7) := Lib.hid hb
      have HXg3 : Hid (HAt V7 g3 h) := Lib.hid hg3
      have HXg5 : Hid (InAt V7 g5 o d (A : Int) (B : Int) n) := Lib.hid hg5
      have HXg6 : Hid (HAt V7 g6 (fun _ => 0)) := Lib.hid hg6
      have HXg7 : Hid (EfAt V7 g7 e0) := Lib.hid hg7
      have HXb14 : Hid (EfAt V7 b14 ⟨2, 0, ad, (h B), 0⟩) := Lib.hid hn
      clear hn hb hg3 hg5 hg6 hg7
      try simp only [Act.put, la, lz, ls]
      refine wpList_nil ?_
      refine hK0 _ _ ?_
      first | go_meet | (go_wp2_with fail; go_meet)
      exact ⟨_, _, _, rfl, EH, EE, HB, HXg3, HXg6, HXg7, HXb14⟩
    have N12 := Lib.hid c12
    clear c12 K12
    go_upto_region 28 with (fail)
    rename_i K hK
    refine wp_region_list ?_
    refine wpList_one rfl (w' := V5) (v := .pointer (some ⟨g5, 0, none⟩)) (by kernel_rfl) ?_
    try simp only [Act.put, la, lz, ls]
    refine wpList_load_cell rfl 3 (.tmp 139) rfl ⟨g5, 0, none⟩ rfl (.int .i64 o) _ HXg5.out.cells.1 Tryd.underlying3 rfl ?_
    try simp only [Act.put, la, lz, ls]
    refine wpList_one rfl (w' := V5) (v := .bool false) (exec_eqF rfl rfl rfl N12.out _) ?_
    try simp only [Act.put, la, lz, ls]
    refine wpList_one rfl (w' := V5) (v := .bool false) rfl ?_
    try simp only [Act.put, la, lz, ls]
    refine wpList_nil ?_
    refine hK _ _ ?_
    clear hK K
    by_cases c39 : o = 39
    · clear K46 K47 K48 K49 K67 K43 K45 K44 K82 K0
      obtain ⟨pEH, pEE⟩ := K39.out c39
      have EQ := Lib.hid c39
      have EH := Lib.hid pEH
      have EE := Lib.hid pEE
      clear pEH pEE
      clear c39
      go_upto_region 30 with (fail)
      rename_i K hK
      refine wp_region_list ?_
      refine wpList_one rfl (w' := V5) (v := .pointer (some ⟨g5, 0, none⟩)) (by kernel_rfl) ?_
      try simp only [Act.put, la, lz, ls]
      refine wpList_load_cell rfl 3 (.tmp 150) rfl ⟨g5, 0, none⟩ rfl (.int .i64 o) _ HXg5.out.cells.1 Tryd.underlying3 rfl ?_
      try simp only [Act.put, la, lz, ls]
      refine wpList_one rfl (w' := V5) (v := .bool true) (exec_eqI rfl rfl rfl EQ.out _) ?_
      try simp only [Act.put, la, lz, ls]
      refine wpList_one rfl (w' := V5) (v := .bool true) rfl ?_
      try simp only [Act.put, la, lz, ls]
      refine wpList_nil ?_
      refine hK _ _ ?_
      clear hK K
      go_upto_region 31 with (fail)
      refine wp_region_list ?_
      refine wpList_one rfl (w' := V5) (v := .agg (eC ⟨6, 0, 0, 0, 0⟩)) (by kernel_rfl) ?_
      try simp only [Act.put, la, lz, ls]
      refine wpList_store_row rfl 34 (.tmp 14) (.tmp 153) rfl b14 (eC ⟨6, 0, 0, 0, 0⟩) rfl rfl 34 (eC e0) HXb14.out (sz_eff _) rfl (eC_ones _) ?_
      have hn := row_same (cs := (eC ⟨6, 0, 0, 0, 0⟩)) HXb14.out
      have hb := row_bel HB.out (g := b14) (by have := HG.out; have := HG1.out; have := HG2.out; have := HG3.out; have := HG4.out; omega) (eC ⟨6, 0, 0, 0, 0⟩)
      have hg3 := (setRow_other V5 b14 g3 (eC ⟨6, 0, 0, 0, 0⟩) (by have := HG.out; have := HG1.out; have := HG2.out; have := HG3.out; have := HG4.out; omega)).trans HXg3.out
      have hg5 := (setRow_other V5 b14 g5 (eC ⟨6, 0, 0, 0, 0⟩) (by have := HG.out; have := HG1.out; have := HG2.out; have := HG3.out; have := HG4.out; omega)).trans HXg5.out
      have hg6 := (setRow_other V5 b14 g6 (eC ⟨6, 0, 0, 0, 0⟩) (by have := HG.out; have := HG1.out; have := HG2.out; have := HG3.out; have := HG4.out; omega)).trans HXg6.out
      have hg7 := (setRow_other V5 b14 g7 (eC ⟨6, 0, 0, 0, 0⟩) (by have := HG.out; have := HG1.out; have := HG2.out; have := HG3.out; have := HG4.out; omega)).trans HXg7.out
      generalize V5.setRow b14 (eC ⟨6, 0, 0, 0, 0⟩) = V6 at hn hb hg3 hg5 hg6 hg7 ⊢
      clear HB HXg3 HXg5 HXg6 HXg7 HXb14
      have HB : Hid (Bel w V6) := Lib.hid hb
      have HXg3 : Hid (HAt V6 g3 h) := Lib.hid hg3
      have HXg5 : Hid (InAt V6 g5 o d (A : Int) (B : Int) n) := Lib.hid hg5
      have HXg6 : Hid (HAt V6 g6 (fun _ => 0)) := Lib.hid hg6
      have HXg7 : Hid (EfAt V6 g7 e0) := Lib.hid hg7
      have HXb14 : Hid (EfAt V6 b14 ⟨6, 0, 0, 0, 0⟩) := Lib.hid hn
      clear hn hb hg3 hg5 hg6 hg7
      try simp only [Act.put, la, lz, ls]
      refine wpList_nil ?_
      refine hK0 _ _ ?_
      first | go_meet | (go_wp2_with fail; go_meet)
      exact ⟨_, _, _, rfl, EH, EE, HB, HXg3, HXg6, HXg7, HXb14⟩
    have N39 := Lib.hid c39
    clear c39 K39
    go_upto_region 30 with (fail)
    rename_i K hK
    refine wp_region_list ?_
    refine wpList_one rfl (w' := V5) (v := .pointer (some ⟨g5, 0, none⟩)) (by kernel_rfl) ?_
    try simp only [Act.put, la, lz, ls]
    refine wpList_load_cell rfl 3 (.tmp 150) rfl ⟨g5, 0, none⟩ rfl (.int .i64 o) _ HXg5.out.cells.1 Tryd.underlying3 rfl ?_
    try simp only [Act.put, la, lz, ls]
    refine wpList_one rfl (w' := V5) (v := .bool false) (exec_eqF rfl rfl rfl N39.out _) ?_
    try simp only [Act.put, la, lz, ls]
    refine wpList_one rfl (w' := V5) (v := .bool false) rfl ?_
    try simp only [Act.put, la, lz, ls]
    refine wpList_nil ?_
    refine hK _ _ ?_
    clear hK K
    by_cases c46 : o = 46
    · clear K47 K48 K49 K67 K43 K45 K44 K82 K0
      obtain ⟨pEH, pEE⟩ := K46.out c46
      have EQ := Lib.hid c46
      have EH := Lib.hid pEH
      have EE := Lib.hid pEE
      clear pEH pEE
      clear c46
      go_upto_region 32 with (fail)
      rename_i K hK
      refine wp_region_list ?_
      refine wpList_one rfl (w' := V5) (v := .pointer (some ⟨g5, 0, none⟩)) (by kernel_rfl) ?_
      try simp only [Act.put, la, lz, ls]
      refine wpList_load_cell rfl 3 (.tmp 155) rfl ⟨g5, 0, none⟩ rfl (.int .i64 o) _ HXg5.out.cells.1 Tryd.underlying3 rfl ?_
      try simp only [Act.put, la, lz, ls]
      refine wpList_one rfl (w' := V5) (v := .bool true) (exec_eqI rfl rfl rfl EQ.out _) ?_
      try simp only [Act.put, la, lz, ls]
      refine wpList_one rfl (w' := V5) (v := .bool true) rfl ?_
      try simp only [Act.put, la, lz, ls]
      refine wpList_nil ?_
      refine hK _ _ ?_
      clear hK K
      go_upto_region 33 with (fail)
      refine wp_region_list ?_
      refine wpList_one rfl (w' := V5) (v := .pointer (some ⟨g5, 1, none⟩)) (by kernel_rfl) ?_
      try simp only [Act.put, la, lz, ls]
      refine wpList_load_cell rfl 3 (.tmp 158) rfl ⟨g5, 1, none⟩ rfl (.int .i64 d) _ HXg5.out.cells.2.1 Tryd.underlying3 rfl ?_
      try simp only [Act.put, la, lz, ls]
      refine wpList_one rfl (w' := V5) (v := .int .i64 (h A)) rfl ?_
      try simp only [Act.put, la, lz, ls]
      refine wpList_one rfl (w' := V5) (v := .agg (eC ⟨3, d, (h A), 0, 0⟩)) (by kernel_rfl) ?_
      try simp only [Act.put, la, lz, ls]
      refine wpList_store_row rfl 34 (.tmp 14) (.tmp 161) rfl b14 (eC ⟨3, d, (h A), 0, 0⟩) rfl rfl 34 (eC e0) HXb14.out (sz_eff _) rfl (eC_ones _) ?_
      have hn := row_same (cs := (eC ⟨3, d, (h A), 0, 0⟩)) HXb14.out
      have hb := row_bel HB.out (g := b14) (by have := HG.out; have := HG1.out; have := HG2.out; have := HG3.out; have := HG4.out; omega) (eC ⟨3, d, (h A), 0, 0⟩)
      have hg3 := (setRow_other V5 b14 g3 (eC ⟨3, d, (h A), 0, 0⟩) (by have := HG.out; have := HG1.out; have := HG2.out; have := HG3.out; have := HG4.out; omega)).trans HXg3.out
      have hg5 := (setRow_other V5 b14 g5 (eC ⟨3, d, (h A), 0, 0⟩) (by have := HG.out; have := HG1.out; have := HG2.out; have := HG3.out; have := HG4.out; omega)).trans HXg5.out
      have hg6 := (setRow_other V5 b14 g6 (eC ⟨3, d, (h A), 0, 0⟩) (by have := HG.out; have := HG1.out; have := HG2.out; have := HG3.out; have := HG4.out; omega)).trans HXg6.out
      have hg7 := (setRow_other V5 b14 g7 (eC ⟨3, d, (h A), 0, 0⟩) (by have := HG.out; have := HG1.out; have := HG2.out; have := HG3.out; have := HG4.out; omega)).trans HXg7.out
      generalize V5.setRow b14 (eC ⟨3, d, (h A), 0, 0⟩) = V6 at hn hb hg3 hg5 hg6 hg7 ⊢
      clear HB HXg3 HXg5 HXg6 HXg7 HXb14
      have HB : Hid (Bel w V6) := Lib.hid hb
      have HXg3 : Hid (HAt V6 g3 h) := Lib.hid hg3
      have HXg5 : Hid (InAt V6 g5 o d (A : Int) (B : Int) n) := Lib.hid hg5
      have HXg6 : Hid (HAt V6 g6 (fun _ => 0)) := Lib.hid hg6
      have HXg7 : Hid (EfAt V6 g7 e0) := Lib.hid hg7
      have HXb14 : Hid (EfAt V6 b14 ⟨3, d, (h A), 0, 0⟩) := Lib.hid hn
      clear hn hb hg3 hg5 hg6 hg7
      try simp only [Act.put, la, lz, ls]
      refine wpList_nil ?_
      refine hK0 _ _ ?_
      first | go_meet | (go_wp2_with fail; go_meet)
      exact ⟨_, _, _, rfl, EH, EE, HB, HXg3, HXg6, HXg7, HXb14⟩
    have N46 := Lib.hid c46
    clear c46 K46
    go_upto_region 32 with (fail)
    rename_i K hK
    refine wp_region_list ?_
    refine wpList_one rfl (w' := V5) (v := .pointer (some ⟨g5, 0, none⟩)) (by kernel_rfl) ?_
    try simp only [Act.put, la, lz, ls]
    refine wpList_load_cell rfl 3 (.tmp 155) rfl ⟨g5, 0, none⟩ rfl (.int .i64 o) _ HXg5.out.cells.1 Tryd.underlying3 rfl ?_
    try simp only [Act.put, la, lz, ls]
    refine wpList_one rfl (w' := V5) (v := .bool false) (exec_eqF rfl rfl rfl N46.out _) ?_
    try simp only [Act.put, la, lz, ls]
    refine wpList_one rfl (w' := V5) (v := .bool false) rfl ?_
    try simp only [Act.put, la, lz, ls]
    refine wpList_nil ?_
    refine hK _ _ ?_
    clear hK K
    by_cases c47 : o = 47
    · clear K48 K49 K67 K43 K45 K44 K82 K0
      obtain ⟨pEH, pEE⟩ := K47.out c47
      have EQ := Lib.hid c47
      have EH := Lib.hid pEH
      have EE := Lib.hid pEE
      clear pEH pEE
      clear c47
      go_upto_region 34 with (fail)
      rename_i K hK
      refine wp_region_list ?_
      refine wpList_one rfl (w' := V5) (v := .pointer (some ⟨g5, 0, none⟩)) (by kernel_rfl) ?_
      try simp only [Act.put, la, lz, ls]
      refine wpList_load_cell rfl 3 (.tmp 163) rfl ⟨g5, 0, none⟩ rfl (.int .i64 o) _ HXg5.out.cells.1 Tryd.underlying3 rfl ?_
      try simp only [Act.put, la, lz, ls]
      refine wpList_one rfl (w' := V5) (v := .bool true) (exec_eqI rfl rfl rfl EQ.out _) ?_
      try simp only [Act.put, la, lz, ls]
      refine wpList_one rfl (w' := V5) (v := .bool true) rfl ?_
      try simp only [Act.put, la, lz, ls]
      refine wpList_nil ?_
      refine hK _ _ ?_
      clear hK K
      go_upto_region 35 with (fail)
      refine wp_region_list ?_
      refine wpList_one rfl (w' := V5) (v := .pointer (some ⟨g5, 1, none⟩)) (by kernel_rfl) ?_
      try simp only [Act.put, la, lz, ls]
      refine wpList_load_cell rfl 3 (.tmp 166) rfl ⟨g5, 1, none⟩ rfl (.int .i64 d) _ HXg5.out.cells.2.1 Tryd.underlying3 rfl ?_
      try simp only [Act.put, la, lz, ls]
      refine wpList_one rfl (w' := V5) (v := .int .i64 (h A)) rfl ?_
      try simp only [Act.put, la, lz, ls]
      refine wpList_one rfl (w' := V5) (v := .int .i64 (h B)) rfl ?_
      try simp only [Act.put, la, lz, ls]
      refine wpList_one rfl (w' := V5) (v := .agg (eC ⟨4, d, (h A), (h B), 0⟩)) (by kernel_rfl) ?_
      try simp only [Act.put, la, lz, ls]
      refine wpList_store_row rfl 34 (.tmp 14) (.tmp 170) rfl b14 (eC ⟨4, d, (h A), (h B), 0⟩) rfl rfl 34 (eC e0) HXb14.out (sz_eff _) rfl (eC_ones _) ?_
      have hn := row_same (cs := (eC ⟨4, d, (h A), (h B), 0⟩)) HXb14.out
      have hb := row_bel HB.out (g := b14) (by have := HG.out; have := HG1.out; have := HG2.out; have := HG3.out; have := HG4.out; omega) (eC ⟨4, d, (h A), (h B), 0⟩)
      have hg3 := (setRow_other V5 b14 g3 (eC ⟨4, d, (h A), (h B), 0⟩) (by have := HG.out; have := HG1.out; have := HG2.out; have := HG3.out; have := HG4.out; omega)).trans HXg3.out
      have hg5 := (setRow_other V5 b14 g5 (eC ⟨4, d, (h A), (h B), 0⟩) (by have := HG.out; have := HG1.out; have := HG2.out; have := HG3.out; have := HG4.out; omega)).trans HXg5.out
      have hg6 := (setRow_other V5 b14 g6 (eC ⟨4, d, (h A), (h B), 0⟩) (by have := HG.out; have := HG1.out; have := HG2.out; have := HG3.out; have := HG4.out; omega)).trans HXg6.out
      have hg7 := (setRow_other V5 b14 g7 (eC ⟨4, d, (h A), (h B), 0⟩) (by have := HG.out; have := HG1.out; have := HG2.out; have := HG3.out; have := HG4.out; omega)).trans HXg7.out
      generalize V5.setRow b14 (eC ⟨4, d, (h A), (h B), 0⟩) = V6 at hn hb hg3 hg5 hg6 hg7 ⊢
      clear HB HXg3 HXg5 HXg6 HXg7 HXb14
      have HB : Hid (Bel w V6) := Lib.hid hb
      have HXg3 : Hid (HAt V6 g3 h) := Lib.hid hg3
      have HXg5 : Hid (InAt V6 g5 o d (A : Int) (B : Int) n) := Lib.hid hg5
      have HXg6 : Hid (HAt V6 g6 (fun _ => 0)) := Lib.hid hg6
      have HXg7 : Hid (EfAt V6 g7 e0) := Lib.hid hg7
      have HXb14 : Hid (EfAt V6 b14 ⟨4, d, (h A), (h B), 0⟩) := Lib.hid hn
      clear hn hb hg3 hg5 hg6 hg7
      try simp only [Act.put, la, lz, ls]
      refine wpList_nil ?_
      refine hK0 _ _ ?_
      first | go_meet | (go_wp2_with fail; go_meet)
      exact ⟨_, _, _, rfl, EH, EE, HB, HXg3, HXg6, HXg7, HXb14⟩
    have N47 := Lib.hid c47
    clear c47 K47
    go_upto_region 34 with (fail)
    rename_i K hK
    refine wp_region_list ?_
    refine wpList_one rfl (w' := V5) (v := .pointer (some ⟨g5, 0, none⟩)) (by kernel_rfl) ?_
    try simp only [Act.put, la, lz, ls]
    refine wpList_load_cell rfl 3 (.tmp 163) rfl ⟨g5, 0, none⟩ rfl (.int .i64 o) _ HXg5.out.cells.1 Tryd.underlying3 rfl ?_
    try simp only [Act.put, la, lz, ls]
    refine wpList_one rfl (w' := V5) (v := .bool false) (exec_eqF rfl rfl rfl N47.out _) ?_
    try simp only [Act.put, la, lz, ls]
    refine wpList_one rfl (w' := V5) (v := .bool false) rfl ?_
    try simp only [Act.put, la, lz, ls]
    refine wpList_nil ?_
    refine hK _ _ ?_
    clear hK K
    by_cases c48 : o = 48
    · clear K49 K67 K43 K45 K44 K82 K0
      obtain ⟨pEH, pEE⟩ := K48.out c48
      have EQ := Lib.hid c48
      have EH := Lib.hid pEH
      have EE := Lib.hid pEE
      clear pEH pEE
      clear c48
      go_upto_region 36 with (fail)
      rename_i K hK
      refine wp_region_list ?_
      refine wpList_one rfl (w' := V5) (v := .pointer (some ⟨g5, 0, none⟩)) (by kernel_rfl) ?_
      try simp only [Act.put, la, lz, ls]
      refine wpList_load_cell rfl 3 (.tmp 172) rfl ⟨g5, 0, none⟩ rfl (.int .i64 o) _ HXg5.out.cells.1 Tryd.underlying3 rfl ?_
      try simp only [Act.put, la, lz, ls]
      refine wpList_one rfl (w' := V5) (v := .bool true) (exec_eqI rfl rfl rfl EQ.out _) ?_
      try simp only [Act.put, la, lz, ls]
      refine wpList_one rfl (w' := V5) (v := .bool true) rfl ?_
      try simp only [Act.put, la, lz, ls]
      refine wpList_nil ?_
      refine hK _ _ ?_
      clear hK K
      go_upto_region 37 with (fail)
      refine wp_region_list ?_
      refine wpList_one rfl (w' := V5) (v := .pointer (some ⟨g5, 1, none⟩)) (by kernel_rfl) ?_
      try simp only [Act.put, la, lz, ls]
      refine wpList_load_cell rfl 3 (.tmp 175) rfl ⟨g5, 1, none⟩ rfl (.int .i64 d) _ HXg5.out.cells.2.1 Tryd.underlying3 rfl ?_
      try simp only [Act.put, la, lz, ls]
      refine wpList_one rfl (w' := V5) (v := .int .i64 (h A)) rfl ?_
      try simp only [Act.put, la, lz, ls]
      refine wpList_one rfl (w' := V5) (v := .int .i64 (h B)) rfl ?_
      try simp only [Act.put, la, lz, ls]
      refine wpList_one rfl (w' := V5) (v := .agg (eC ⟨5, d, (h A), (h B), 0⟩)) (by kernel_rfl) ?_
      try simp only [Act.put, la, lz, ls]
      refine wpList_store_row rfl 34 (.tmp 14) (.tmp 179) rfl b14 (eC ⟨5, d, (h A), (h B), 0⟩) rfl rfl 34 (eC e0) HXb14.out (sz_eff _) rfl (eC_ones _) ?_
      have hn := row_same (cs := (eC ⟨5, d, (h A), (h B), 0⟩)) HXb14.out
      have hb := row_bel HB.out (g := b14) (by have := HG.out; have := HG1.out; have := HG2.out; have := HG3.out; have := HG4.out; omega) (eC ⟨5, d, (h A), (h B), 0⟩)
      have hg3 := (setRow_other V5 b14 g3 (eC ⟨5, d, (h A), (h B), 0⟩) (by have := HG.out; have := HG1.out; have := HG2.out; have := HG3.out; have := HG4.out; omega)).trans HXg3.out
      have hg5 := (setRow_other V5 b14 g5 (eC ⟨5, d, (h A), (h B), 0⟩) (by have := HG.out; have := HG1.out; have := HG2.out; have := HG3.out; have := HG4.out; omega)).trans HXg5.out
      have hg6 := (setRow_other V5 b14 g6 (eC ⟨5, d, (h A), (h B), 0⟩) (by have := HG.out; have := HG1.out; have := HG2.out; have := HG3.out; have := HG4.out; omega)).trans HXg6.out
      have hg7 := (setRow_other V5 b14 g7 (eC ⟨5, d, (h A), (h B), 0⟩) (by have := HG.out; have := HG1.out; have := HG2.out; have := HG3.out; have := HG4.out; omega)).trans HXg7.out
      generalize V5.setRow b14 (eC ⟨5, d, (h A), (h B), 0⟩) = V6 at hn hb hg3 hg5 hg6 hg7 ⊢
      clear HB HXg3 HXg5 HXg6 HXg7 HXb14
      have HB : Hid (Bel w V6) := Lib.hid hb
      have HXg3 : Hid (HAt V6 g3 h) := Lib.hid hg3
      have HXg5 : Hid (InAt V6 g5 o d (A : Int) (B : Int) n) := Lib.hid hg5
      have HXg6 : Hid (HAt V6 g6 (fun _ => 0)) := Lib.hid hg6
      have HXg7 : Hid (EfAt V6 g7 e0) := Lib.hid hg7
      have HXb14 : Hid (EfAt V6 b14 ⟨5, d, (h A), (h B), 0⟩) := Lib.hid hn
      clear hn hb hg3 hg5 hg6 hg7
      try simp only [Act.put, la, lz, ls]
      refine wpList_nil ?_
      refine hK0 _ _ ?_
      first | go_meet | (go_wp2_with fail; go_meet)
      exact ⟨_, _, _, rfl, EH, EE, HB, HXg3, HXg6, HXg7, HXb14⟩
    have N48 := Lib.hid c48
    clear c48 K48
    go_upto_region 36 with (fail)
    rename_i K hK
    refine wp_region_list ?_
    refine wpList_one rfl (w' := V5) (v := .pointer (some ⟨g5, 0, none⟩)) (by kernel_rfl) ?_
    try simp only [Act.put, la, lz, ls]
    refine wpList_load_cell rfl 3 (.tmp 172) rfl ⟨g5, 0, none⟩ rfl (.int .i64 o) _ HXg5.out.cells.1 Tryd.underlying3 rfl ?_
    try simp only [Act.put, la, lz, ls]
    refine wpList_one rfl (w' := V5) (v := .bool false) (exec_eqF rfl rfl rfl N48.out _) ?_
    try simp only [Act.put, la, lz, ls]
    refine wpList_one rfl (w' := V5) (v := .bool false) rfl ?_
    try simp only [Act.put, la, lz, ls]
    refine wpList_nil ?_
    refine hK _ _ ?_
    clear hK K
    by_cases c49 : o = 49
    · clear K67 K43 K45 K44 K82 K0
      obtain ⟨pEH, pEE⟩ := K49.out c49
      have EQ := Lib.hid c49
      have EH := Lib.hid pEH
      have EE := Lib.hid pEE
      clear pEH pEE
      clear c49
      go_upto_region 38 with (fail)
      rename_i K hK
      refine wp_region_list ?_
      refine wpList_one rfl (w' := V5) (v := .pointer (some ⟨g5, 0, none⟩)) (by kernel_rfl) ?_
      try simp only [Act.put, la, lz, ls]
      refine wpList_load_cell rfl 3 (.tmp 181) rfl ⟨g5, 0, none⟩ rfl (.int .i64 o) _ HXg5.out.cells.1 Tryd.underlying3 rfl ?_
      try simp only [Act.put, la, lz, ls]
      refine wpList_one rfl (w' := V5) (v := .bool true) (exec_eqI rfl rfl rfl EQ.out _) ?_
      try simp only [Act.put, la, lz, ls]
      refine wpList_one rfl (w' := V5) (v := .bool true) rfl ?_
      try simp only [Act.put, la, lz, ls]
      refine wpList_nil ?_
      refine hK _ _ ?_
      clear hK K
      go_upto_region 39 with (fail)
      refine wp_region_list ?_
      refine wpList_one rfl (w' := V5) (v := .pointer (some ⟨g5, 1, none⟩)) (by kernel_rfl) ?_
      try simp only [Act.put, la, lz, ls]
      refine wpList_load_cell rfl 3 (.tmp 184) rfl ⟨g5, 1, none⟩ rfl (.int .i64 d) _ HXg5.out.cells.2.1 Tryd.underlying3 rfl ?_
      try simp only [Act.put, la, lz, ls]
      refine wpList_one rfl (w' := V5) (v := .int .i64 (h A)) rfl ?_
      try simp only [Act.put, la, lz, ls]
      refine wpList_one rfl (w' := V5) (v := .int .i64 (h B)) rfl ?_
      try simp only [Act.put, la, lz, ls]
      refine wpList_one rfl (w' := V5) (v := .agg (eC ⟨5, d, (h A), (h B), 1⟩)) (by kernel_rfl) ?_
      try simp only [Act.put, la, lz, ls]
      refine wpList_store_row rfl 34 (.tmp 14) (.tmp 188) rfl b14 (eC ⟨5, d, (h A), (h B), 1⟩) rfl rfl 34 (eC e0) HXb14.out (sz_eff _) rfl (eC_ones _) ?_
      have hn := row_same (cs := (eC ⟨5, d, (h A), (h B), 1⟩)) HXb14.out
      have hb := row_bel HB.out (g := b14) (by have := HG.out; have := HG1.out; have := HG2.out; have := HG3.out; have := HG4.out; omega) (eC ⟨5, d, (h A), (h B), 1⟩)
      have hg3 := (setRow_other V5 b14 g3 (eC ⟨5, d, (h A), (h B), 1⟩) (by have := HG.out; have := HG1.out; have := HG2.out; have := HG3.out; have := HG4.out; omega)).trans HXg3.out
      have hg5 := (setRow_other V5 b14 g5 (eC ⟨5, d, (h A), (h B), 1⟩) (by have := HG.out; have := HG1.out; have := HG2.out; have := HG3.out; have := HG4.out; omega)).trans HXg5.out
      have hg6 := (setRow_other V5 b14 g6 (eC ⟨5, d, (h A), (h B), 1⟩) (by have := HG.out; have := HG1.out; have := HG2.out; have := HG3.out; have := HG4.out; omega)).trans HXg6.out
      have hg7 := (setRow_other V5 b14 g7 (eC ⟨5, d, (h A), (h B), 1⟩) (by have := HG.out; have := HG1.out; have := HG2.out; have := HG3.out; have := HG4.out; omega)).trans HXg7.out
      generalize V5.setRow b14 (eC ⟨5, d, (h A), (h B), 1⟩) = V6 at hn hb hg3 hg5 hg6 hg7 ⊢
      clear HB HXg3 HXg5 HXg6 HXg7 HXb14
      have HB : Hid (Bel w V6) := Lib.hid hb
      have HXg3 : Hid (HAt V6 g3 h) := Lib.hid hg3
      have HXg5 : Hid (InAt V6 g5 o d (A : Int) (B : Int) n) := Lib.hid hg5
      have HXg6 : Hid (HAt V6 g6 (fun _ => 0)) := Lib.hid hg6
      have HXg7 : Hid (EfAt V6 g7 e0) := Lib.hid hg7
      have HXb14 : Hid (EfAt V6 b14 ⟨5, d, (h A), (h B), 1⟩) := Lib.hid hn
      clear hn hb hg3 hg5 hg6 hg7
      try simp only [Act.put, la, lz, ls]
      refine wpList_nil ?_
      refine hK0 _ _ ?_
      first | go_meet | (go_wp2_with fail; go_meet)
      exact ⟨_, _, _, rfl, EH, EE, HB, HXg3, HXg6, HXg7, HXb14⟩
    have N49 := Lib.hid c49
    clear c49 K49
    go_upto_region 38 with (fail)
    rename_i K hK
    refine wp_region_list ?_
    refine wpList_one rfl (w' := V5) (v := .pointer (some ⟨g5, 0, none⟩)) (by kernel_rfl) ?_
    try simp only [Act.put, la, lz, ls]
    refine wpList_load_cell rfl 3 (.tmp 181) rfl ⟨g5, 0, none⟩ rfl (.int .i64 o) _ HXg5.out.cells.1 Tryd.underlying3 rfl ?_
    try simp only [Act.put, la, lz, ls]
    refine wpList_one rfl (w' := V5) (v := .bool false) (exec_eqF rfl rfl rfl N49.out _) ?_
    try simp only [Act.put, la, lz, ls]
    refine wpList_one rfl (w' := V5) (v := .bool false) rfl ?_
    try simp only [Act.put, la, lz, ls]
    refine wpList_nil ?_
    refine hK _ _ ?_
    clear hK K
    by_cases c67 : F = 67
    · clear K43 K45 K44 K82 K0
      obtain p1 := K67.out c67
      have EQ := Lib.hid c67
      have HCS := Lib.hid p1
      clear p1
      clear c67
      go_upto_region 40 with (fail)
      rename_i K hK
      refine wp_region_list ?_
      refine wpList_one rfl (w' := V5) (v := .int .u8 F) rfl ?_
      try simp only [Act.put, la, lz, ls]
      refine wpList_one rfl (w' := V5) (v := .bool true) (exec_e8T rfl rfl rfl EQ.out _) ?_
      try simp only [Act.put, la, lz, ls]
      refine wpList_one rfl (w' := V5) (v := .bool true) rfl ?_
      try simp only [Act.put, la, lz, ls]
      refine wpList_nil ?_
      refine hK _ _ ?_
      clear hK K
      go_upto_region 41 with (fail)
      rename_i K hK
      refine wp_region_list ?_
      refine wpList_load_row rfl 28 (.tmp 3) rfl g3 rfl 28 (hC h) (0, 0) _ HXg3.out Tryd.underlying28 rfl (sz_hart _) ?_
      try simp only [Act.put, la, lz, ls]
      refine wpList_one rfl (w' := V5) (v := .int .i64 id) rfl ?_
      try simp only [Act.put, la, lz, ls]
      refine wpList_load_row rfl 24 (.tmp 5) rfl g5 rfl 24 (iC o d (A : Int) (B : Int) n) (0, 0) _ HXg5.out Tryd.underlying24 rfl (sz_ins _ _ _ _ _) ?_
      try simp only [Act.put, la, lz, ls]
      refine wpList_call rfl (f := 44) (args := #[hv h, .int .i64 id, iv o d (A : Int) (B : Int) n]) (v := .tuple #[hv h', .agg (eC e)]) (by kernel_rfl) (HCS.out _) ?_
      intro V6 hb
      replace HB : Hid (Bel w V6) := Lib.hid (HB.out.trans hb)
      replace HXg3 : Hid (HAt V6 g3 h) := Lib.hid (HXg3.out.bel hb)
      replace HXg5 : Hid (InAt V6 g5 o d (A : Int) (B : Int) n) := Lib.hid (HXg5.out.bel hb)
      replace HXg6 : Hid (HAt V6 g6 (fun _ => 0)) := Lib.hid (HXg6.out.bel hb)
      replace HXg7 : Hid (EfAt V6 g7 e0) := Lib.hid (HXg7.out.bel hb)
      replace HXb14 : Hid (EfAt V6 b14 e0) := Lib.hid (HXb14.out.bel hb)
      clear hb
      try simp only [Act.put, la, lz, ls]
      refine wpList_one rfl (w' := V6) (v := hv h') rfl ?_
      try simp only [Act.put, la, lz, ls]
      refine wpList_one rfl (w' := V6) (v := .agg (eC e)) rfl ?_
      try simp only [Act.put, la, lz, ls]
      refine wpList_store_row rfl 28 (.tmp 6) (.tmp 196) rfl g6 (hC h') rfl rfl 28 (hC (fun _ => 0)) HXg6.out (sz_hart _) (by rw [hC_size, hC_size]) (hC_ones _) ?_
      have hn := row_same (cs := (hC h')) HXg6.out
      have hb := row_bel HB.out (g := g6) (by have := HG.out; have := HG1.out; have := HG2.out; have := HG3.out; have := HG4.out; omega) (hC h')
      have hg3 := (setRow_other V6 g6 g3 (hC h') (by have := HG.out; have := HG1.out; have := HG2.out; have := HG3.out; have := HG4.out; omega)).trans HXg3.out
      have hg5 := (setRow_other V6 g6 g5 (hC h') (by have := HG.out; have := HG1.out; have := HG2.out; have := HG3.out; have := HG4.out; omega)).trans HXg5.out
      have hg7 := (setRow_other V6 g6 g7 (hC h') (by have := HG.out; have := HG1.out; have := HG2.out; have := HG3.out; have := HG4.out; omega)).trans HXg7.out
      have hb14 := (setRow_other V6 g6 b14 (hC h') (by have := HG.out; have := HG1.out; have := HG2.out; have := HG3.out; have := HG4.out; omega)).trans HXb14.out
      generalize V6.setRow g6 (hC h') = V7 at hn hb hg3 hg5 hg7 hb14 ⊢
      clear HB HXg3 HXg5 HXg6 HXg7 HXb14
      have HB : Hid (Bel w V7) := Lib.hid hb
      have HXg3 : Hid (HAt V7 g3 h) := Lib.hid hg3
      have HXg5 : Hid (InAt V7 g5 o d (A : Int) (B : Int) n) := Lib.hid hg5
      have HXg7 : Hid (EfAt V7 g7 e0) := Lib.hid hg7
      have HXb14 : Hid (EfAt V7 b14 e0) := Lib.hid hb14
      have HXg6 : Hid (HAt V7 g6 h') := Lib.hid hn
      clear hn hb hg3 hg5 hg7 hb14
      try simp only [Act.put, la, lz, ls]
      refine wpList_store_row rfl 34 (.tmp 7) (.tmp 197) rfl g7 (eC e) rfl rfl 34 (eC e0) HXg7.out (sz_eff _) rfl (eC_ones _) ?_
      have hn := row_same (cs := (eC e)) HXg7.out
      have hb := row_bel HB.out (g := g7) (by have := HG.out; have := HG1.out; have := HG2.out; have := HG3.out; have := HG4.out; omega) (eC e)
      have hg3 := (setRow_other V7 g7 g3 (eC e) (by have := HG.out; have := HG1.out; have := HG2.out; have := HG3.out; have := HG4.out; omega)).trans HXg3.out
      have hg5 := (setRow_other V7 g7 g5 (eC e) (by have := HG.out; have := HG1.out; have := HG2.out; have := HG3.out; have := HG4.out; omega)).trans HXg5.out
      have hg6 := (setRow_other V7 g7 g6 (eC e) (by have := HG.out; have := HG1.out; have := HG2.out; have := HG3.out; have := HG4.out; omega)).trans HXg6.out
      have hb14 := (setRow_other V7 g7 b14 (eC e) (by have := HG.out; have := HG1.out; have := HG2.out; have := HG3.out; have := HG4.out; omega)).trans HXb14.out
      generalize V7.setRow g7 (eC e) = V8 at hn hb hg3 hg5 hg6 hb14 ⊢
      clear HB HXg3 HXg5 HXg6 HXg7 HXb14
      have HB : Hid (Bel w V8) := Lib.hid hb
      have HXg3 : Hid (HAt V8 g3 h) := Lib.hid hg3
      have HXg5 : Hid (InAt V8 g5 o d (A : Int) (B : Int) n) := Lib.hid hg5
      have HXg6 : Hid (HAt V8 g6 h') := Lib.hid hg6
      have HXb14 : Hid (EfAt V8 b14 e0) := Lib.hid hb14
      have HXg7 : Hid (EfAt V8 g7 e) := Lib.hid hn
      clear hn hb hg3 hg5 hg6 hb14
      try simp only [Act.put, la, lz, ls]
      refine wpList_nil ?_
      refine hK _ _ (wp_ret ?_)
      exact bodyPost_ret (results_cells2 Tryd.results17 _ _ g6 g7 _ _ _ _ _ _ _ _ (by rfl) (by rfl) HXg6.out HXg7.out Tryd.underlying28 rfl (sz_hart _) Tryd.underlying34 rfl (sz_eff _)) (by rfl) ⟨rfl, HB.out⟩
    have N67 := Lib.hid c67
    clear c67 K67
    go_upto_region 40 with (fail)
    rename_i K hK
    refine wp_region_list ?_
    refine wpList_one rfl (w' := V5) (v := .int .u8 F) rfl ?_
    try simp only [Act.put, la, lz, ls]
    refine wpList_one rfl (w' := V5) (v := .bool false) (exec_e8F rfl rfl rfl N67.out _) ?_
    try simp only [Act.put, la, lz, ls]
    refine wpList_one rfl (w' := V5) (v := .bool false) rfl ?_
    try simp only [Act.put, la, lz, ls]
    refine wpList_nil ?_
    refine hK _ _ ?_
    clear hK K
    by_cases c43 : o = 43
    · clear K45 K44 K82 K0
      obtain ⟨pEH, pEE⟩ := K43.out c43
      have EQ := Lib.hid c43
      have EH := Lib.hid pEH
      have EE := Lib.hid pEE
      clear pEH pEE
      clear c43
      go_upto_region 42 with (fail)
      rename_i K hK
      refine wp_region_list ?_
      refine wpList_one rfl (w' := V5) (v := .pointer (some ⟨g5, 0, none⟩)) (by kernel_rfl) ?_
      try simp only [Act.put, la, lz, ls]
      refine wpList_load_cell rfl 3 (.tmp 199) rfl ⟨g5, 0, none⟩ rfl (.int .i64 o) _ HXg5.out.cells.1 Tryd.underlying3 rfl ?_
      try simp only [Act.put, la, lz, ls]
      refine wpList_one rfl (w' := V5) (v := .bool true) (exec_eqI rfl rfl rfl EQ.out _) ?_
      try simp only [Act.put, la, lz, ls]
      refine wpList_one rfl (w' := V5) (v := .bool true) rfl ?_
      try simp only [Act.put, la, lz, ls]
      refine wpList_nil ?_
      refine hK _ _ ?_
      clear hK K
      go_upto_region 43 with (fail)
      refine wp_region_list ?_
      refine wpList_one rfl (w' := V5) (v := .agg (eC ⟨7, 0, 0, 0, 0⟩)) (by kernel_rfl) ?_
      try simp only [Act.put, la, lz, ls]
      refine wpList_store_row rfl 34 (.tmp 14) (.tmp 202) rfl b14 (eC ⟨7, 0, 0, 0, 0⟩) rfl rfl 34 (eC e0) HXb14.out (sz_eff _) rfl (eC_ones _) ?_
      have hn := row_same (cs := (eC ⟨7, 0, 0, 0, 0⟩)) HXb14.out
      have hb := row_bel HB.out (g := b14) (by have := HG.out; have := HG1.out; have := HG2.out; have := HG3.out; have := HG4.out; omega) (eC ⟨7, 0, 0, 0, 0⟩)
      have hg3 := (setRow_other V5 b14 g3 (eC ⟨7, 0, 0, 0, 0⟩) (by have := HG.out; have := HG1.out; have := HG2.out; have := HG3.out; have := HG4.out; omega)).trans HXg3.out
      have hg5 := (setRow_other V5 b14 g5 (eC ⟨7, 0, 0, 0, 0⟩) (by have := HG.out; have := HG1.out; have := HG2.out; have := HG3.out; have := HG4.out; omega)).trans HXg5.out
      have hg6 := (setRow_other V5 b14 g6 (eC ⟨7, 0, 0, 0, 0⟩) (by have := HG.out; have := HG1.out; have := HG2.out; have := HG3.out; have := HG4.out; omega)).trans HXg6.out
      have hg7 := (setRow_other V5 b14 g7 (eC ⟨7, 0, 0, 0, 0⟩) (by have := HG.out; have := HG1.out; have := HG2.out; have := HG3.out; have := HG4.out; omega)).trans HXg7.out
      generalize V5.setRow b14 (eC ⟨7, 0, 0, 0, 0⟩) = V6 at hn hb hg3 hg5 hg6 hg7 ⊢
      clear HB HXg3 HXg5 HXg6 HXg7 HXb14
      have HB : Hid (Bel w V6) := Lib.hid hb
      have HXg3 : Hid (HAt V6 g3 h) := Lib.hid hg3
      have HXg5 : Hid (InAt V6 g5 o d (A : Int) (B : Int) n) := Lib.hid hg5
      have HXg6 : Hid (HAt V6 g6 (fun _ => 0)) := Lib.hid hg6
      have HXg7 : Hid (EfAt V6 g7 e0) := Lib.hid hg7
      have HXb14 : Hid (EfAt V6 b14 ⟨7, 0, 0, 0, 0⟩) := Lib.hid hn
      clear hn hb hg3 hg5 hg6 hg7
      try simp only [Act.put, la, lz, ls]
      refine wpList_nil ?_
      refine hK0 _ _ ?_
      first | go_meet | (go_wp2_with fail; go_meet)
      exact ⟨_, _, _, rfl, EH, EE, HB, HXg3, HXg6, HXg7, HXb14⟩
    have N43 := Lib.hid c43
    clear c43 K43
    go_upto_region 42 with (fail)
    rename_i K hK
    refine wp_region_list ?_
    refine wpList_one rfl (w' := V5) (v := .pointer (some ⟨g5, 0, none⟩)) (by kernel_rfl) ?_
    try simp only [Act.put, la, lz, ls]
    refine wpList_load_cell rfl 3 (.tmp 199) rfl ⟨g5, 0, none⟩ rfl (.int .i64 o) _ HXg5.out.cells.1 Tryd.underlying3 rfl ?_
    try simp only [Act.put, la, lz, ls]
    refine wpList_one rfl (w' := V5) (v := .bool false) (exec_eqF rfl rfl rfl N43.out _) ?_
    try simp only [Act.put, la, lz, ls]
    refine wpList_one rfl (w' := V5) (v := .bool false) rfl ?_
    try simp only [Act.put, la, lz, ls]
    refine wpList_nil ?_
    refine hK _ _ ?_
    clear hK K
    by_cases c45 : o = 45
    · clear K44 K82 K0
      obtain ⟨pEH, pEE⟩ := K45.out c45
      have EQ := Lib.hid c45
      have EH := Lib.hid pEH
      have EE := Lib.hid pEE
      clear pEH pEE
      clear c45
      go_upto_region 44 with (fail)
      rename_i K hK
      refine wp_region_list ?_
      refine wpList_one rfl (w' := V5) (v := .pointer (some ⟨g5, 0, none⟩)) (by kernel_rfl) ?_
      try simp only [Act.put, la, lz, ls]
      refine wpList_load_cell rfl 3 (.tmp 204) rfl ⟨g5, 0, none⟩ rfl (.int .i64 o) _ HXg5.out.cells.1 Tryd.underlying3 rfl ?_
      try simp only [Act.put, la, lz, ls]
      refine wpList_one rfl (w' := V5) (v := .bool true) (exec_eqI rfl rfl rfl EQ.out _) ?_
      try simp only [Act.put, la, lz, ls]
      refine wpList_one rfl (w' := V5) (v := .bool true) rfl ?_
      try simp only [Act.put, la, lz, ls]
      refine wpList_nil ?_
      refine hK _ _ ?_
      clear hK K
      go_upto_region 45 with (fail)
      refine wp_region_list ?_
      refine wpList_one rfl (w' := V5) (v := .agg (eC ⟨8, 0, 0, 0, 0⟩)) (by kernel_rfl) ?_
      try simp only [Act.put, la, lz, ls]
      refine wpList_store_row rfl 34 (.tmp 14) (.tmp 207) rfl b14 (eC ⟨8, 0, 0, 0, 0⟩) rfl rfl 34 (eC e0) HXb14.out (sz_eff _) rfl (eC_ones _) ?_
      have hn := row_same (cs := (eC ⟨8, 0, 0, 0, 0⟩)) HXb14.out
      have hb := row_bel HB.out (g := b14) (by have := HG.out; have := HG1.out; have := HG2.out; have := HG3.out; have := HG4.out; omega) (eC ⟨8, 0, 0, 0, 0⟩)
      have hg3 := (setRow_other V5 b14 g3 (eC ⟨8, 0, 0, 0, 0⟩) (by have := HG.out; have := HG1.out; have := HG2.out; have := HG3.out; have := HG4.out; omega)).trans HXg3.out
      have hg5 := (setRow_other V5 b14 g5 (eC ⟨8, 0, 0, 0, 0⟩) (by have := HG.out; have := HG1.out; have := HG2.out; have := HG3.out; have := HG4.out; omega)).trans HXg5.out
      have hg6 := (setRow_other V5 b14 g6 (eC ⟨8, 0, 0, 0, 0⟩) (by have := HG.out; have := HG1.out; have := HG2.out; have := HG3.out; have := HG4.out; omega)).trans HXg6.out
      have hg7 := (setRow_other V5 b14 g7 (eC ⟨8, 0, 0, 0, 0⟩) (by have := HG.out; have := HG1.out; have := HG2.out; have := HG3.out; have := HG4.out; omega)).trans HXg7.out
      generalize V5.setRow b14 (eC ⟨8, 0, 0, 0, 0⟩) = V6 at hn hb hg3 hg5 hg6 hg7 ⊢
      clear HB HXg3 HXg5 HXg6 HXg7 HXb14
      have HB : Hid (Bel w V6) := Lib.hid hb
      have HXg3 : Hid (HAt V6 g3 h) := Lib.hid hg3
      have HXg5 : Hid (InAt V6 g5 o d (A : Int) (B : Int) n) := Lib.hid hg5
      have HXg6 : Hid (HAt V6 g6 (fun _ => 0)) := Lib.hid hg6
      have HXg7 : Hid (EfAt V6 g7 e0) := Lib.hid hg7
      have HXb14 : Hid (EfAt V6 b14 ⟨8, 0, 0, 0, 0⟩) := Lib.hid hn
      clear hn hb hg3 hg5 hg6 hg7
      try simp only [Act.put, la, lz, ls]
      refine wpList_nil ?_
      refine hK0 _ _ ?_
      first | go_meet | (go_wp2_with fail; go_meet)
      exact ⟨_, _, _, rfl, EH, EE, HB, HXg3, HXg6, HXg7, HXb14⟩
    have N45 := Lib.hid c45
    clear c45 K45
    go_upto_region 44 with (fail)
    rename_i K hK
    refine wp_region_list ?_
    refine wpList_one rfl (w' := V5) (v := .pointer (some ⟨g5, 0, none⟩)) (by kernel_rfl) ?_
    try simp only [Act.put, la, lz, ls]
    refine wpList_load_cell rfl 3 (.tmp 204) rfl ⟨g5, 0, none⟩ rfl (.int .i64 o) _ HXg5.out.cells.1 Tryd.underlying3 rfl ?_
    try simp only [Act.put, la, lz, ls]
    refine wpList_one rfl (w' := V5) (v := .bool false) (exec_eqF rfl rfl rfl N45.out _) ?_
    try simp only [Act.put, la, lz, ls]
    refine wpList_one rfl (w' := V5) (v := .bool false) rfl ?_
    try simp only [Act.put, la, lz, ls]
    refine wpList_nil ?_
    refine hK _ _ ?_
    clear hK K
    by_cases c44 : o = 44
    · clear K82 K0
      obtain ⟨p1, rfl⟩ := K44.out c44
      have EQ := Lib.hid c44
      have HBK := Lib.hid p1
      clear p1
      clear c44
      go_upto_region 46 with (fail)
      rename_i K hK
      refine wp_region_list ?_
      refine wpList_one rfl (w' := V5) (v := .pointer (some ⟨g5, 0, none⟩)) (by kernel_rfl) ?_
      try simp only [Act.put, la, lz, ls]
      refine wpList_load_cell rfl 3 (.tmp 209) rfl ⟨g5, 0, none⟩ rfl (.int .i64 o) _ HXg5.out.cells.1 Tryd.underlying3 rfl ?_
      try simp only [Act.put, la, lz, ls]
      refine wpList_one rfl (w' := V5) (v := .bool true) (exec_eqI rfl rfl rfl EQ.out _) ?_
      try simp only [Act.put, la, lz, ls]
      refine wpList_one rfl (w' := V5) (v := .bool true) rfl ?_
      try simp only [Act.put, la, lz, ls]
      refine wpList_nil ?_
      refine hK _ _ ?_
      clear hK K
      go_upto_region 47 with (fail)
      rename_i K hK
      refine Upto.begin (z := 4) (T := fun w' => HAt w' g3 h ∧ EfAt w' b14 e0) (by kernel_rfl) ?_
      have hb : Bel V5 V5.drew := (Bel.refl V5).drew
      generalize V5.drew = V6 at hb ⊢
      replace HB : Hid (Bel w V6) := Lib.hid (HB.out.trans hb)
      replace HXg3 : Hid (HAt V6 g3 h) := Lib.hid (HXg3.out.bel hb)
      replace HXg5 : Hid (InAt V6 g5 o d (A : Int) (B : Int) n) := Lib.hid (HXg5.out.bel hb)
      replace HXg6 : Hid (HAt V6 g6 (fun _ => 0)) := Lib.hid (HXg6.out.bel hb)
      replace HXg7 : Hid (EfAt V6 g7 e0) := Lib.hid (HXg7.out.bel hb)
      replace HXb14 : Hid (EfAt V6 b14 e0) := Lib.hid (HXb14.out.bel hb)
      clear hb
      have hT : HAt V6 g3 h ∧ EfAt V6 b14 e0 := ⟨HXg3.out, HXb14.out⟩
      refine takeU 212 (i := 0) (v := hv h) rfl rfl rfl (by kernel_rfl) (by kernel_rfl) (by kernel_rfl) (by kernel_rfl) (fun _ _ _ h => h) (by kernel_rfl) (fun w0 hS => (exec_row 28 (.tmp 3) rfl g3 rfl 28 (hC h) (0, 0) _ hS.1 Tryd.underlying28 rfl (sz_hart _))) hT ?_
      try simp only [la, lz, ls]
      refine takeU 214 (i := 2) (v := .agg (eC e0)) rfl rfl rfl (by kernel_rfl) (by kernel_rfl) (by kernel_rfl) (by kernel_rfl) (fun _ _ _ h => h) (by kernel_rfl) (fun w0 hS => (exec_row 34 (.tmp 14) rfl b14 rfl 34 (eC e0) (0, 0) _ hS.2 Tryd.underlying34 rfl (sz_eff _))) hT ?_
      try simp only [la, lz, ls]
      refine callU 213 (i := 1) rfl rfl (by kernel_rfl) (by kernel_rfl) (f := 45) (args := #[hv h]) (v := hv h') (by kernel_rfl) (HBK.out _) (fun w' hb => ⟨HXg3.out.bel hb, HXb14.out.bel hb⟩) ?_
      intro V7 hb
      try simp only [la, lz, ls]
      replace HB : Hid (Bel w V7) := Lib.hid (HB.out.trans hb)
      replace HXg3 : Hid (HAt V7 g3 h) := Lib.hid (HXg3.out.bel hb)
      replace HXg5 : Hid (InAt V7 g5 o d (A : Int) (B : Int) n) := Lib.hid (HXg5.out.bel hb)
      replace HXg6 : Hid (HAt V7 g6 (fun _ => 0)) := Lib.hid (HXg6.out.bel hb)
      replace HXg7 : Hid (EfAt V7 g7 e0) := Lib.hid (HXg7.out.bel hb)
      replace HXb14 : Hid (EfAt V7 b14 e0) := Lib.hid (HXb14.out.bel hb)
      clear hb hT
      have hT : HAt V7 g3 h ∧ EfAt V7 b14 e0 := ⟨HXg3.out, HXb14.out⟩
      have hn := row_same (cs := (hC h')) HXg6.out
      have hb := row_bel HB.out (g := g6) (by have := HG.out; have := HG1.out; have := HG2.out; have := HG3.out; have := HG4.out; omega) (hC h')
      have hg3 := (setRow_other V7 g6 g3 (hC h') (by have := HG.out; have := HG1.out; have := HG2.out; have := HG3.out; have := HG4.out; omega)).trans HXg3.out
      have hg5 := (setRow_other V7 g6 g5 (hC h') (by have := HG.out; have := HG1.out; have := HG2.out; have := HG3.out; have := HG4.out; omega)).trans HXg5.out
      have hg7 := (setRow_other V7 g6 g7 (hC h') (by have := HG.out; have := HG1.out; have := HG2.out; have := HG3.out; have := HG4.out; omega)).trans HXg7.out
      have hb14 := (setRow_other V7 g6 b14 (hC h') (by have := HG.out; have := HG1.out; have := HG2.out; have := HG3.out; have := HG4.out; omega)).trans HXb14.out
      refine rowU (i := 3) rfl rfl (by kernel_rfl) (by kernel_rfl) 28 (.tmp 6) (.tmp 213) rfl g6 (hC h') rfl rfl 28 (hC (fun _ => 0)) HXg6.out (sz_hart _) (by rw [hC_size, hC_size]) (hC_ones _) (⟨hg3, hb14⟩) ?_
      generalize V7.setRow g6 (hC h') = V8 at hn hb hg3 hg5 hg7 hb14 ⊢
      clear hT HB HXg3 HXg5 HXg6 HXg7 HXb14
      have HB : Hid (Bel w V8) := Lib.hid hb
      have HXg3 : Hid (HAt V8 g3 h) := Lib.hid hg3
      have HXg5 : Hid (InAt V8 g5 o d (A : Int) (B : Int) n) := Lib.hid hg5
      have HXg7 : Hid (EfAt V8 g7 e0) := Lib.hid hg7
      have HXb14 : Hid (EfAt V8 b14 e0) := Lib.hid hb14
      have HXg6 : Hid (HAt V8 g6 h') := Lib.hid hn
      clear hn hb hg3 hg5 hg7 hb14
      have hT : HAt V8 g3 h ∧ EfAt V8 b14 e0 := ⟨HXg3.out, HXb14.out⟩
      have hn := row_same (cs := (eC e0)) HXg7.out
      have hb := row_bel HB.out (g := g7) (by have := HG.out; have := HG1.out; have := HG2.out; have := HG3.out; have := HG4.out; omega) (eC e0)
      have hg3 := (setRow_other V8 g7 g3 (eC e0) (by have := HG.out; have := HG1.out; have := HG2.out; have := HG3.out; have := HG4.out; omega)).trans HXg3.out
      have hg5 := (setRow_other V8 g7 g5 (eC e0) (by have := HG.out; have := HG1.out; have := HG2.out; have := HG3.out; have := HG4.out; omega)).trans HXg5.out
      have hg6 := (setRow_other V8 g7 g6 (eC e0) (by have := HG.out; have := HG1.out; have := HG2.out; have := HG3.out; have := HG4.out; omega)).trans HXg6.out
      have hb14 := (setRow_other V8 g7 b14 (eC e0) (by have := HG.out; have := HG1.out; have := HG2.out; have := HG3.out; have := HG4.out; omega)).trans HXb14.out
      refine rowL rfl rfl (by kernel_rfl) (by kernel_rfl) 34 (.tmp 7) (.tmp 214) rfl g7 (eC e0) rfl rfl 34 (eC e0) HXg7.out (sz_eff _) rfl (eC_ones _) ?_
      generalize V8.setRow g7 (eC e0) = V9 at hn hb hg3 hg5 hg6 hb14 ⊢
      clear hT HB HXg3 HXg5 HXg6 HXg7 HXb14
      have HB : Hid (Bel w V9) := Lib.hid hb
      have HXg3 : Hid (HAt V9 g3 h) := Lib.hid hg3
      have HXg5 : Hid (InAt V9 g5 o d (A : Int) (B : Int) n) := Lib.hid hg5
      have HXg6 : Hid (HAt V9 g6 h') := Lib.hid hg6
      have HXb14 : Hid (EfAt V9 b14 e0) := Lib.hid hb14
      have HXg7 : Hid (EfAt V9 g7 e0) := Lib.hid hn
      clear hn hb hg3 hg5 hg6 hb14
      have hT := True.intro
      refine Upto.done (by kernel_rfl) ?_ _
      clear hT
      refine hK _ _ (wp_ret ?_)
      exact bodyPost_ret (results_cells2 Tryd.results17 _ _ g6 g7 _ _ _ _ _ _ _ _ (by rfl) (by rfl) HXg6.out HXg7.out Tryd.underlying28 rfl (sz_hart _) Tryd.underlying34 rfl (sz_eff _)) (by rfl) ⟨rfl, HB.out⟩
    have N44 := Lib.hid c44
    clear c44 K44
    go_upto_region 46 with (fail)
    rename_i K hK
    refine wp_region_list ?_
    refine wpList_one rfl (w' := V5) (v := .pointer (some ⟨g5, 0, none⟩)) (by kernel_rfl) ?_
    try simp only [Act.put, la, lz, ls]
    refine wpList_load_cell rfl 3 (.tmp 209) rfl ⟨g5, 0, none⟩ rfl (.int .i64 o) _ HXg5.out.cells.1 Tryd.underlying3 rfl ?_
    try simp only [Act.put, la, lz, ls]
    refine wpList_one rfl (w' := V5) (v := .bool false) (exec_eqF rfl rfl rfl N44.out _) ?_
    try simp only [Act.put, la, lz, ls]
    refine wpList_one rfl (w' := V5) (v := .bool false) rfl ?_
    try simp only [Act.put, la, lz, ls]
    refine wpList_nil ?_
    refine hK _ _ ?_
    clear hK K
    by_cases c82 : F = 82
    · clear K0
      obtain ⟨v, h1, p1, p2, pEH, pEE⟩ := K82.out c82
      have EQ := Lib.hid c82
      have EH := Lib.hid pEH
      have EE := Lib.hid pEE
      have HT := Lib.hid p1
      have HP := Lib.hid p2
      clear pEH pEE p1 p2
      clear c82
      go_upto_region 48 with (fail)
      rename_i K hK
      refine wp_region_list ?_
      refine wpList_one rfl (w' := V5) (v := .int .u8 F) rfl ?_
      try simp only [Act.put, la, lz, ls]
      refine wpList_one rfl (w' := V5) (v := .bool true) (exec_e8T rfl rfl rfl EQ.out _) ?_
      try simp only [Act.put, la, lz, ls]
      refine wpList_one rfl (w' := V5) (v := .bool true) rfl ?_
      try simp only [Act.put, la, lz, ls]
      refine wpList_nil ?_
      refine hK _ _ ?_
      clear hK K
      go_upto_region 49 with (fail)
      rename_i K hK
      refine wp_region_list ?_
      refine wpList_one rfl (w' := V5) (v := .pointer (some ⟨g5, 0, none⟩)) (by kernel_rfl) ?_
      try simp only [Act.put, la, lz, ls]
      refine wpList_load_cell rfl 3 (.tmp 219) rfl ⟨g5, 0, none⟩ rfl (.int .i64 o) _ HXg5.out.cells.1 Tryd.underlying3 rfl ?_
      try simp only [Act.put, la, lz, ls]
      refine wpList_one rfl (w' := V5) (v := .int .i64 (h A)) rfl ?_
      try simp only [Act.put, la, lz, ls]
      refine wpList_one rfl (w' := V5) (v := .int .i64 (h B)) rfl ?_
      try simp only [Act.put, la, lz, ls]
      refine wpList_call rfl (f := 46) (args := #[.int .i64 o, .int .i64 (h A), .int .i64 (h B)]) (v := .tuple #[.int .i64 v, .bool true]) (by kernel_rfl) (HT.out _) ?_
      intro V6 hb
      replace HB : Hid (Bel w V6) := Lib.hid (HB.out.trans hb)
      replace HXg3 : Hid (HAt V6 g3 h) := Lib.hid (HXg3.out.bel hb)
      replace HXg5 : Hid (InAt V6 g5 o d (A : Int) (B : Int) n) := Lib.hid (HXg5.out.bel hb)
      replace HXg6 : Hid (HAt V6 g6 (fun _ => 0)) := Lib.hid (HXg6.out.bel hb)
      replace HXg7 : Hid (EfAt V6 g7 e0) := Lib.hid (HXg7.out.bel hb)
      replace HXb14 : Hid (EfAt V6 b14 e0) := Lib.hid (HXb14.out.bel hb)
      clear hb
      try simp only [Act.put, la, lz, ls]
      refine wpList_one rfl (w' := V6) (v := .tuple #[.int .i64 v, .bool true]) rfl ?_
      try simp only [Act.put, la, lz, ls]
      refine wpList_one rfl (w' := V6) (v := .int .i64 v) rfl ?_
      try simp only [Act.put, la, lz, ls]
      refine wpList_one rfl (w' := V6) (v := .bool true) rfl ?_
      try simp only [Act.put, la, lz, ls]
      refine wpList_one rfl (w' := V6) (v := .int .i64 v) rfl ?_
      try simp only [Act.put, la, lz, ls]
      refine wpList_one rfl (w' := V6) (v := .bool true) rfl ?_
      try simp only [Act.put, la, lz, ls]
      refine wpList_nil ?_
      refine hK _ _ ?_
      clear hK K
      go_upto_region 50 with (fail)
      refine wp_region_list ?_
      refine wpList_load_row rfl 28 (.tmp 3) rfl g3 rfl 28 (hC h) (0, 0) _ HXg3.out Tryd.underlying28 rfl (sz_hart _) ?_
      try simp only [Act.put, la, lz, ls]
      refine wpList_one rfl (w' := V6) (v := .pointer (some ⟨g5, 1, none⟩)) (by kernel_rfl) ?_
      try simp only [Act.put, la, lz, ls]
      refine wpList_load_cell rfl 3 (.tmp 227) rfl ⟨g5, 1, none⟩ rfl (.int .i64 d) _ HXg5.out.cells.2.1 Tryd.underlying3 rfl ?_
      try simp only [Act.put, la, lz, ls]
      refine wpList_one rfl (w' := V6) (v := .int .i64 v) rfl ?_
      try simp only [Act.put, la, lz, ls]
      refine wpList_call rfl (f := 19) (args := #[hv h, .int .i64 d, .int .i64 v]) (v := hv h1) (by kernel_rfl) (rput_lit HP.out _) ?_
      intro V7 hb
      replace HB : Hid (Bel w V7) := Lib.hid (HB.out.trans hb)
      replace HXg3 : Hid (HAt V7 g3 h) := Lib.hid (HXg3.out.bel hb)
      replace HXg5 : Hid (InAt V7 g5 o d (A : Int) (B : Int) n) := Lib.hid (HXg5.out.bel hb)
      replace HXg6 : Hid (HAt V7 g6 (fun _ => 0)) := Lib.hid (HXg6.out.bel hb)
      replace HXg7 : Hid (EfAt V7 g7 e0) := Lib.hid (HXg7.out.bel hb)
      replace HXb14 : Hid (EfAt V7 b14 e0) := Lib.hid (HXb14.out.bel hb)
      clear hb
      try simp only [Act.put, la, lz, ls]
      refine wpList_store_row rfl 28 (.tmp 3) (.tmp 230) rfl g3 (hC h1) rfl rfl 28 (hC h) HXg3.out (sz_hart _) (by rw [hC_size, hC_size]) (hC_ones _) ?_
      have hn := row_same (cs := (hC h1)) HXg3.out
      have hb := row_bel HB.out (g := g3) (by have := HG.out; have := HG1.out; have := HG2.out; have := HG3.out; have := HG4.out; omega) (hC h1)
      have hg5 := (setRow_other V7 g3 g5 (hC h1) (by have := HG.out; have := HG1.out; have := HG2.out; have := HG3.out; have := HG4.out; omega)).trans HXg5.out
      have hg6 := (setRow_other V7 g3 g6 (hC h1) (by have := HG.out; have := HG1.out; have := HG2.out; have := HG3.out; have := HG4.out; omega)).trans HXg6.out
      have hg7 := (setRow_other V7 g3 g7 (hC h1) (by have := HG.out; have := HG1.out; have := HG2.out; have := HG3.out; have := HG4.out; omega)).trans HXg7.out
      have hb14 := (setRow_other V7 g3 b14 (hC h1) (by have := HG.out; have := HG1.out; have := HG2.out; have := HG3.out; have := HG4.out; omega)).trans HXb14.out
      generalize V7.setRow g3 (hC h1) = V8 at hn hb hg5 hg6 hg7 hb14 ⊢
      clear HB HXg3 HXg5 HXg6 HXg7 HXb14
      have HB : Hid (Bel w V8) := Lib.hid hb
      have HXg5 : Hid (InAt V8 g5 o d (A : Int) (B : Int) n) := Lib.hid hg5
      have HXg6 : Hid (HAt V8 g6 (fun _ => 0)) := Lib.hid hg6
      have HXg7 : Hid (EfAt V8 g7 e0) := Lib.hid hg7
      have HXb14 : Hid (EfAt V8 b14 e0) := Lib.hid hb14
      have HXg3 : Hid (HAt V8 g3 h1) := Lib.hid hn
      clear hn hb hg5 hg6 hg7 hb14
      try simp only [Act.put, la, lz, ls]
      refine wpList_nil ?_
      refine hK0 _ _ ?_
      first | go_meet | (go_wp2_with fail; go_meet)
      exact ⟨_, _, _, rfl, EH, EE, HB, HXg3, HXg6, HXg7, HXb14⟩
    have N82 := Lib.hid c82
    clear c82 K82
    go_upto_region 48 with (fail)
    rename_i K hK
    refine wp_region_list ?_
    refine wpList_one rfl (w' := V5) (v := .int .u8 F) rfl ?_
    try simp only [Act.put, la, lz, ls]
    refine wpList_one rfl (w' := V5) (v := .bool false) (exec_e8F rfl rfl rfl N82.out _) ?_
    try simp only [Act.put, la, lz, ls]
    refine wpList_one rfl (w' := V5) (v := .bool false) rfl ?_
    try simp only [Act.put, la, lz, ls]
    refine wpList_nil ?_
    refine hK _ _ ?_
    clear hK K
    obtain ⟨v, h1, p1, p2, pEH, pEE⟩ := K0.out ⟨N1.out, N2.out, N3.out, N4.out, N66.out, N11.out, N12.out, N39.out, N46.out, N47.out, N48.out, N49.out, N67.out, N43.out, N45.out, N44.out, N82.out⟩
    have EH := Lib.hid pEH
    have EE := Lib.hid pEE
    have HT := Lib.hid p1
    have HP := Lib.hid p2
    clear pEH pEE p1 p2
    clear K0
    go_upto_region 10 with (fail)
    rename_i K hK
    refine wp_region_list ?_
    refine wpList_one rfl (w' := V5) (v := .pointer (some ⟨g5, 0, none⟩)) (by kernel_rfl) ?_
    try simp only [Act.put, la, lz, ls]
    refine wpList_load_cell rfl 3 (.tmp 51) rfl ⟨g5, 0, none⟩ rfl (.int .i64 o) _ HXg5.out.cells.1 Tryd.underlying3 rfl ?_
    try simp only [Act.put, la, lz, ls]
    refine wpList_one rfl (w' := V5) (v := .int .i64 (h A)) rfl ?_
    try simp only [Act.put, la, lz, ls]
    refine wpList_one rfl (w' := V5) (v := .pointer (some ⟨g5, 4, none⟩)) (by kernel_rfl) ?_
    try simp only [Act.put, la, lz, ls]
    refine wpList_load_cell rfl 3 (.tmp 54) rfl ⟨g5, 4, none⟩ rfl (.int .i64 n) _ HXg5.out.cells.2.2.2.2 Tryd.underlying3 rfl ?_
    try simp only [Act.put, la, lz, ls]
    refine wpList_call rfl (f := 46) (args := #[.int .i64 o, .int .i64 (h A), .int .i64 n]) (v := .tuple #[.int .i64 v, .bool true]) (by kernel_rfl) (HT.out _) ?_
    intro V6 hb
    replace HB : Hid (Bel w V6) := Lib.hid (HB.out.trans hb)
    replace HXg3 : Hid (HAt V6 g3 h) := Lib.hid (HXg3.out.bel hb)
    replace HXg5 : Hid (InAt V6 g5 o d (A : Int) (B : Int) n) := Lib.hid (HXg5.out.bel hb)
    replace HXg6 : Hid (HAt V6 g6 (fun _ => 0)) := Lib.hid (HXg6.out.bel hb)
    replace HXg7 : Hid (EfAt V6 g7 e0) := Lib.hid (HXg7.out.bel hb)
    replace HXb14 : Hid (EfAt V6 b14 e0) := Lib.hid (HXb14.out.bel hb)
    clear hb
    try simp only [Act.put, la, lz, ls]
    refine wpList_one rfl (w' := V6) (v := .tuple #[.int .i64 v, .bool true]) rfl ?_
    try simp only [Act.put, la, lz, ls]
    refine wpList_one rfl (w' := V6) (v := .int .i64 v) rfl ?_
    try simp only [Act.put, la, lz, ls]
    refine wpList_one rfl (w' := V6) (v := .bool true) rfl ?_
    try simp only [Act.put, la, lz, ls]
    refine wpList_one rfl (w' := V6) (v := .int .i64 v) rfl ?_
    try simp only [Act.put, la, lz, ls]
    refine wpList_one rfl (w' := V6) (v := .bool true) rfl ?_
    try simp only [Act.put, la, lz, ls]
    refine wpList_nil ?_
    refine hK _ _ ?_
    clear hK K
    go_upto_region 11 with (fail)
    refine wp_region_list ?_
    refine wpList_load_row rfl 28 (.tmp 3) rfl g3 rfl 28 (hC h) (0, 0) _ HXg3.out Tryd.underlying28 rfl (sz_hart _) ?_
    try simp only [Act.put, la, lz, ls]
    refine wpList_one rfl (w' := V6) (v := .pointer (some ⟨g5, 1, none⟩)) (by kernel_rfl) ?_
    try simp only [Act.put, la, lz, ls]
    refine wpList_load_cell rfl 3 (.tmp 60) rfl ⟨g5, 1, none⟩ rfl (.int .i64 d) _ HXg5.out.cells.2.1 Tryd.underlying3 rfl ?_
    try simp only [Act.put, la, lz, ls]
    refine wpList_one rfl (w' := V6) (v := .int .i64 v) rfl ?_
    try simp only [Act.put, la, lz, ls]
    refine wpList_call rfl (f := 19) (args := #[hv h, .int .i64 d, .int .i64 v]) (v := hv h1) (by kernel_rfl) (rput_lit HP.out _) ?_
    intro V7 hb
    replace HB : Hid (Bel w V7) := Lib.hid (HB.out.trans hb)
    replace HXg3 : Hid (HAt V7 g3 h) := Lib.hid (HXg3.out.bel hb)
    replace HXg5 : Hid (InAt V7 g5 o d (A : Int) (B : Int) n) := Lib.hid (HXg5.out.bel hb)
    replace HXg6 : Hid (HAt V7 g6 (fun _ => 0)) := Lib.hid (HXg6.out.bel hb)
    replace HXg7 : Hid (EfAt V7 g7 e0) := Lib.hid (HXg7.out.bel hb)
    replace HXb14 : Hid (EfAt V7 b14 e0) := Lib.hid (HXb14.out.bel hb)
    clear hb
    try simp only [Act.put, la, lz, ls]
    refine wpList_store_row rfl 28 (.tmp 3) (.tmp 63) rfl g3 (hC h1) rfl rfl 28 (hC h) HXg3.out (sz_hart _) (by rw [hC_size, hC_size]) (hC_ones _) ?_
    have hn := row_same (cs := (hC h1)) HXg3.out
    have hb := row_bel HB.out (g := g3) (by have := HG.out; have := HG1.out; have := HG2.out; have := HG3.out; have := HG4.out; omega) (hC h1)
    have hg5 := (setRow_other V7 g3 g5 (hC h1) (by have := HG.out; have := HG1.out; have := HG2.out; have := HG3.out; have := HG4.out; omega)).trans HXg5.out
    have hg6 := (setRow_other V7 g3 g6 (hC h1) (by have := HG.out; have := HG1.out; have := HG2.out; have := HG3.out; have := HG4.out; omega)).trans HXg6.out
    have hg7 := (setRow_other V7 g3 g7 (hC h1) (by have := HG.out; have := HG1.out; have := HG2.out; have := HG3.out; have := HG4.out; omega)).trans HXg7.out
    have hb14 := (setRow_other V7 g3 b14 (hC h1) (by have := HG.out; have := HG1.out; have := HG2.out; have := HG3.out; have := HG4.out; omega)).trans HXb14.out
    generalize V7.setRow g3 (hC h1) = V8 at hn hb hg5 hg6 hg7 hb14 ⊢
    clear HB HXg3 HXg5 HXg6 HXg7 HXb14
    have HB : Hid (Bel w V8) := Lib.hid hb
    have HXg5 : Hid (InAt V8 g5 o d (A : Int) (B : Int) n) := Lib.hid hg5
    have HXg6 : Hid (HAt V8 g6 (fun _ => 0)) := Lib.hid hg6
    have HXg7 : Hid (EfAt V8 g7 e0) := Lib.hid hg7
    have HXb14 : Hid (EfAt V8 b14 e0) := Lib.hid hb14
    have HXg3 : Hid (HAt V8 g3 h1) := Lib.hid hn
    clear hn hb hg5 hg6 hg7 hb14
    try simp only [Act.put, la, lz, ls]
    refine wpList_nil ?_
    refine hK0 _ _ ?_
    first | go_meet | (go_wp2_with fail; go_meet)
    exact ⟨_, _, _, rfl, EH, EE, HB, HXg3, HXg6, HXg7, HXb14⟩
  case rest =>
    clear K1 K2 K3 K4 K66 K11 K12 K39 K46 K47 K48 K49 K67 K43 K45 K44 K82 K0 HB HXg3 HXg5 HXg6 HXg7 HXb14
    obtain ⟨hh, ee, pc, rfl, EH, EE, HB, HXg3, HXg6, HXg7, HXb14⟩ := hcut
    obtain rfl := EH.out
    obtain rfl := EE.out
    go_upto_region 51 with (fail)
    rename_i K hK
    refine wp_region_list ?_
    refine wpList_one rfl (w' := wc) (v := .int .i64 pc) rfl ?_
    try simp only [Act.put, la, lz, ls]
    refine wpList_one rfl (w' := wc) (v := .pointer (some ⟨g3, 32, none⟩)) (by kernel_rfl) ?_
    try simp only [Act.put, la, lz, ls]
    refine wpList_store_cell rfl 3 (.tmp 232) (.tmp 231) rfl g3 32 rfl (.int .i64 pc) rfl (HXg3.out.cell (j := 32) (by omega)) (HXg3.out.frozen 32) sz_int rfl ?_
    have hn := HXg3.out.set (j := 32) (by omega) (pc)
    have hb := (Svg.set g3 32 wc (.int .i64 (pc))).bel HB.out (by have := HG.out; have := HG1.out; have := HG2.out; have := HG3.out; have := HG4.out; omega)
    have hg6 := ((Svg.set g3 32 wc (.int .i64 (pc))).block g6 (lt_of_heap HXg6.out) (by have := HG.out; have := HG1.out; have := HG2.out; have := HG3.out; have := HG4.out; omega)).trans HXg6.out
    have hg7 := ((Svg.set g3 32 wc (.int .i64 (pc))).block g7 (lt_of_heap HXg7.out) (by have := HG.out; have := HG1.out; have := HG2.out; have := HG3.out; have := HG4.out; omega)).trans HXg7.out
    have hb14 := ((Svg.set g3 32 wc (.int .i64 (pc))).block b14 (lt_of_heap HXb14.out) (by have := HG.out; have := HG1.out; have := HG2.out; have := HG3.out; have := HG4.out; omega)).trans HXb14.out
    generalize wc.setCell ⟨g3, 32, none⟩ (.int .i64 (pc)) = V501 at hn hb hg6 hg7 hb14  ⊢
    clear HB HXg3 HXg6 HXg7 HXb14
    have HB : Hid (Bel w V501) := Lib.hid hb
    have HXg6 : Hid (HAt V501 g6 (fun _ => 0)) := Lib.hid hg6
    have HXg7 : Hid (EfAt V501 g7 e0) := Lib.hid hg7
    have HXb14 : Hid (EfAt V501 b14 e) := Lib.hid hb14
    have HXg3 : Hid (HAt V501 g3 (up hh 32 (pc))) := Lib.hid hn
    clear hn hb hg6 hg7 hb14
    try simp only [Act.put, la, lz, ls]
    refine wpList_nil ?_
    refine hK _ _ ?_
    clear hK K
    go_upto_region 52 with (fail)
    rename_i K hK
    refine Upto.begin (z := 3) (T := fun w' => HAt w' g3 (up hh 32 (pc)) ∧ EfAt w' b14 e) (by kernel_rfl) ?_
    have hb : Bel V501 V501.drew := (Bel.refl V501).drew
    generalize V501.drew = V502 at hb ⊢
    replace HB : Hid (Bel w V502) := Lib.hid (HB.out.trans hb)
    replace HXg3 : Hid (HAt V502 g3 (up hh 32 (pc))) := Lib.hid (HXg3.out.bel hb)
    replace HXg6 : Hid (HAt V502 g6 (fun _ => 0)) := Lib.hid (HXg6.out.bel hb)
    replace HXg7 : Hid (EfAt V502 g7 e0) := Lib.hid (HXg7.out.bel hb)
    replace HXb14 : Hid (EfAt V502 b14 e) := Lib.hid (HXb14.out.bel hb)
    clear hb
    have hT : HAt V502 g3 (up hh 32 (pc)) ∧ EfAt V502 b14 e := ⟨HXg3.out, HXb14.out⟩
    refine takeU 233 (i := 0) (v := hv (up hh 32 (pc))) rfl rfl rfl (by kernel_rfl) (by kernel_rfl) (by kernel_rfl) (by kernel_rfl) (fun _ _ _ h => h) (by kernel_rfl) (fun w0 hS => (exec_row 28 (.tmp 3) rfl g3 rfl 28 (hC (up hh 32 (pc))) (0, 0) _ hS.1 Tryd.underlying28 rfl (sz_hart _))) hT ?_
    try simp only [la, lz, ls]
    refine takeU 234 (i := 1) (v := .agg (eC e)) rfl rfl rfl (by kernel_rfl) (by kernel_rfl) (by kernel_rfl) (by kernel_rfl) (fun _ _ _ h => h) (by kernel_rfl) (fun w0 hS => (exec_row 34 (.tmp 14) rfl b14 rfl 34 (eC e) (0, 0) _ hS.2 Tryd.underlying34 rfl (sz_eff _))) hT ?_
    try simp only [la, lz, ls]
    have hn := row_same (cs := (hC (up hh 32 (pc)))) HXg6.out
    have hb := row_bel HB.out (g := g6) (by have := HG.out; have := HG1.out; have := HG2.out; have := HG3.out; have := HG4.out; omega) (hC (up hh 32 (pc)))
    have hg3 := (setRow_other V502 g6 g3 (hC (up hh 32 (pc))) (by have := HG.out; have := HG1.out; have := HG2.out; have := HG3.out; have := HG4.out; omega)).trans HXg3.out
    have hg7 := (setRow_other V502 g6 g7 (hC (up hh 32 (pc))) (by have := HG.out; have := HG1.out; have := HG2.out; have := HG3.out; have := HG4.out; omega)).trans HXg7.out
    have hb14 := (setRow_other V502 g6 b14 (hC (up hh 32 (pc))) (by have := HG.out; have := HG1.out; have := HG2.out; have := HG3.out; have := HG4.out; omega)).trans HXb14.out
    refine rowU (i := 2) rfl rfl (by kernel_rfl) (by kernel_rfl) 28 (.tmp 6) (.tmp 233) rfl g6 (hC (up hh 32 (pc))) rfl rfl 28 (hC (fun _ => 0)) HXg6.out (sz_hart _) (by rw [hC_size, hC_size]) (hC_ones _) (⟨hg3, hb14⟩) ?_
    generalize V502.setRow g6 (hC (up hh 32 (pc))) = V503 at hn hb hg3 hg7 hb14 ⊢
    clear hT HB HXg3 HXg6 HXg7 HXb14
    have HB : Hid (Bel w V503) := Lib.hid hb
    have HXg3 : Hid (HAt V503 g3 (up hh 32 (pc))) := Lib.hid hg3
    have HXg7 : Hid (EfAt V503 g7 e0) := Lib.hid hg7
    have HXb14 : Hid (EfAt V503 b14 e) := Lib.hid hb14
    have HXg6 : Hid (HAt V503 g6 (up hh 32 (pc))) := Lib.hid hn
    clear hn hb hg3 hg7 hb14
    have hT : HAt V503 g3 (up hh 32 (pc)) ∧ EfAt V503 b14 e := ⟨HXg3.out, HXb14.out⟩
    have hn := row_same (cs := (eC e)) HXg7.out
    have hb := row_bel HB.out (g := g7) (by have := HG.out; have := HG1.out; have := HG2.out; have := HG3.out; have := HG4.out; omega) (eC e)
    have hg3 := (setRow_other V503 g7 g3 (eC e) (by have := HG.out; have := HG1.out; have := HG2.out; have := HG3.out; have := HG4.out; omega)).trans HXg3.out
    have hg6 := (setRow_other V503 g7 g6 (eC e) (by have := HG.out; have := HG1.out; have := HG2.out; have := HG3.out; have := HG4.out; omega)).trans HXg6.out
    have hb14 := (setRow_other V503 g7 b14 (eC e) (by have := HG.out; have := HG1.out; have := HG2.out; have := HG3.out; have := HG4.out; omega)).trans HXb14.out
    refine rowL rfl rfl (by kernel_rfl) (by kernel_rfl) 34 (.tmp 7) (.tmp 234) rfl g7 (eC e) rfl rfl 34 (eC e0) HXg7.out (sz_eff _) rfl (eC_ones _) ?_
    generalize V503.setRow g7 (eC e) = V504 at hn hb hg3 hg6 hb14 ⊢
    clear hT HB HXg3 HXg6 HXg7 HXb14
    have HB : Hid (Bel w V504) := Lib.hid hb
    have HXg3 : Hid (HAt V504 g3 (up hh 32 (pc))) := Lib.hid hg3
    have HXg6 : Hid (HAt V504 g6 (up hh 32 (pc))) := Lib.hid hg6
    have HXb14 : Hid (EfAt V504 b14 e) := Lib.hid hb14
    have HXg7 : Hid (EfAt V504 g7 e) := Lib.hid hn
    clear hn hb hg3 hg6 hb14
    have hT := True.intro
    refine Upto.done (by kernel_rfl) ?_ _
    clear hT
    refine hK _ _ (wp_ret ?_)
    exact bodyPost_ret (results_cells2 Tryd.results17 _ _ g6 g7 _ _ _ _ _ _ _ _ (by rfl) (by rfl) HXg6.out HXg7.out Tryd.underlying28 rfl (sz_hart _) Tryd.underlying34 rfl (sz_eff _)) (by rfl) ⟨rfl, HB.out⟩
end Go.Proofs.YtgcgdjmlngfpeaaDoor
end
