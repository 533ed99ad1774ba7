/- Package hart: control registers. -/
import Derived.Test.YtgcgdjmlngfpeaaDoorHFn3
namespace Go.Proofs.YtgcgdjmlngfpeaaDoor
open Go.RowKit Ht
set_option linter.unusedVariables false
set_option linter.unusedSimpArgs false
set_option maxRecDepth 100000
set_option maxHeartbeats 2000000
def OwnAt (w : World) (g : Nat) (x : Int) : Prop := w.heap[g]? = some (.cells #[.int .i64 x] 3 (0, 0))
theorem OwnAt.bel {w w' : World} {g : Nat} {x : Int} (k : OwnAt w g x) (hb : Bel w w') : OwnAt w' g x := hb.stays k
theorem OwnAt.cell {w : World} {g : Nat} {x : Int} (k : OwnAt w g x) : w.cell? ⟨g, 0, none⟩ = some (.int .i64 x) := cell_of_heap k 0
theorem OwnAt.frozen {w : World} {g : Nat} {x : Int} (k : OwnAt w g x) (j : Nat) : w.frozen? ⟨g, j, none⟩ = false := frozen_of_heap k j
theorem OwnAt.set {w : World} {g : Nat} {x : Int} (k : OwnAt w g x) (y : Int) : OwnAt (w.setCell ⟨g, 0, none⟩ (.int .i64 y)) g y := heap_set k 0 (.int .i64 y)
theorem of_768 (g g2 : Nat) (w : World) : Calls Tryd.prog 61 #[.pointer (some ⟨g, 0, none⟩), .pointer (some ⟨g2, 0, none⟩), .int .i64 768] w (OneV (.tuple #[.pointer (some ⟨g, 33, none⟩), .int .i64 (136)]) w) := by
  go_enter Tryd.func61, Tryd.ntmps61
  go_wp2
  exact bodyPost_ret (results_tmp2 Tryd.results61 _ _ _) (by rfl) ⟨rfl, Bel.refl _⟩
theorem of_773 (g g2 : Nat) (w : World) : Calls Tryd.prog 61 #[.pointer (some ⟨g, 0, none⟩), .pointer (some ⟨g2, 0, none⟩), .int .i64 773] w (OneV (.tuple #[.pointer (some ⟨g, 34, none⟩), .int .i64 (-4)]) w) := by
  go_enter Tryd.func61, Tryd.ntmps61
  go_wp2
  exact bodyPost_ret (results_tmp2 Tryd.results61 _ _ _) (by rfl) ⟨rfl, Bel.refl _⟩
theorem of_832 (g g2 : Nat) (w : World) : Calls Tryd.prog 61 #[.pointer (some ⟨g, 0, none⟩), .pointer (some ⟨g2, 0, none⟩), .int .i64 832] w (OneV (.tuple #[.pointer (some ⟨g, 35, none⟩), .int .i64 (-1)]) w) := by
  go_enter Tryd.func61, Tryd.ntmps61
  go_wp2
  exact bodyPost_ret (results_tmp2 Tryd.results61 _ _ _) (by rfl) ⟨rfl, Bel.refl _⟩
theorem of_833 (g g2 : Nat) (w : World) : Calls Tryd.prog 61 #[.pointer (some ⟨g, 0, none⟩), .pointer (some ⟨g2, 0, none⟩), .int .i64 833] w (OneV (.tuple #[.pointer (some ⟨g, 36, none⟩), .int .i64 (-4)]) w) := by
  go_enter Tryd.func61, Tryd.ntmps61
  go_wp2
  exact bodyPost_ret (results_tmp2 Tryd.results61 _ _ _) (by rfl) ⟨rfl, Bel.refl _⟩
theorem of_834 (g g2 : Nat) (w : World) : Calls Tryd.prog 61 #[.pointer (some ⟨g, 0, none⟩), .pointer (some ⟨g2, 0, none⟩), .int .i64 834] w (OneV (.tuple #[.pointer (some ⟨g, 37, none⟩), .int .i64 (-1)]) w) := by
  go_enter Tryd.func61, Tryd.ntmps61
  go_wp2
  exact bodyPost_ret (results_tmp2 Tryd.results61 _ _ _) (by rfl) ⟨rfl, Bel.refl _⟩
theorem of_1984 (g g2 : Nat) (w : World) : Calls Tryd.prog 61 #[.pointer (some ⟨g, 0, none⟩), .pointer (some ⟨g2, 0, none⟩), .int .i64 1984] w (OneV (.tuple #[.pointer (some ⟨g, 38, none⟩), .int .i64 (-1)]) w) := by
  go_enter Tryd.func61, Tryd.ntmps61
  go_wp2
  exact bodyPost_ret (results_tmp2 Tryd.results61 _ _ _) (by rfl) ⟨rfl, Bel.refl _⟩
theorem of_3860 (g g2 : Nat) (w : World) : Calls Tryd.prog 61 #[.pointer (some ⟨g, 0, none⟩), .pointer (some ⟨g2, 0, none⟩), .int .i64 3860] w (OneV (.tuple #[.pointer (some ⟨g2, 0, none⟩), .int .i64 (-1)]) w) := by
  go_enter Tryd.func61, Tryd.ntmps61
  go_wp2
  exact bodyPost_ret (results_tmp2 Tryd.results61 _ _ _) (by rfl) ⟨rfl, Bel.refl _⟩
theorem of_none (g g2 : Nat) {n : Int} (hn : n ≠ 768 ∧ n ≠ 773 ∧ n ≠ 832 ∧ n ≠ 833 ∧ n ≠ 834 ∧ n ≠ 1984 ∧ n ≠ 3860) (w : World) : Calls Tryd.prog 61 #[.pointer (some ⟨g, 0, none⟩), .pointer (some ⟨g2, 0, none⟩), .int .i64 n] w (OneV (.tuple #[.pointer none, .int .i64 0]) w) := by
  have n768 : (n == 768) = false := by simp; omega
  have n773 : (n == 773) = false := by simp; omega
  have n832 : (n == 832) = false := by simp; omega
  have n833 : (n == 833) = false := by simp; omega
  have n834 : (n == 834) = false := by simp; omega
  have n1984 : (n == 1984) = false := by simp; omega
  have n3860 : (n == 3860) = false := by simp; omega
  clear hn
  go_enter Tryd.func61, Tryd.ntmps61
  go_wp2
  exact bodyPost_ret (results_tmp2 Tryd.results61 _ _ _) (by rfl) ⟨rfl, Bel.refl _⟩
theorem csr_40 {h h1 h2 h3 : H} {a b : Nat} {d n m x y bt z id : Int} (ha : a < 32) (hm : wrap32 id = m) {k : Nat} (hk : k < 39) (hc : ∀ (g g2 : Nat) (w : World), Calls Tryd.prog 61 #[.pointer (some ⟨g, 0, none⟩), .pointer (some ⟨g2, 0, none⟩), .int .i64 n] w (OneV (.tuple #[.pointer (some ⟨g, k, none⟩), .int .i64 bt]) w)) (hx : h k = x) (hy : h a = y) (e1 : up h k (bits .and .i64 y bt) = h1) (e2 : put h1 d x = h2) (e3 : Ht.go h2 4 = h3) (w : World) : Calls Tryd.prog 36 #[hv h, .int .i64 id, iv 40 d (a : Int) (b : Int) n] w (OneV (.tuple #[hv h3, .agg (eC e0)]) w) := by
  have HM := Lib.hid hm
  have HC := Lib.hid hc
  have HP2 := Lib.hid e2
  have HP3 := Lib.hid e3
  have HZ1 := Lib.hid e1
  clear e1
  clear hm hc e2 e3
  have hz := zero_hart
  go_enter Tryd.func36, Tryd.ntmps36
  go_upto_region 1 with (fail)
  obtain ⟨W0, hW, hb, hx3, hx5, hx6, hx7⟩ := boxes4 w (hC h) (iC 40 d (a : Int) (b : Int) n) hZ (eC e0) 28 24 28 34
  first | rw [← hW] | (show Code.wp _ _ _ _ ((((w.alloc (.cells (hC h) 28)).alloc (.cells (iC 40 d (a : Int) (b : Int) n) 24)).alloc (.cells hZ 28)).alloc (.cells (eC e0) 34)); rw [← hW])
  clear hz hW
  have hlt : w.heap.size < W0.heap.size := lt_of_heap hx3
  generalize hg : w.heap.size = g3 at hx3 hx5 hx6 hx7 hlt ⊢
  have HG := Lib.hid hg
  clear hg
  generalize hg : g3 + 1 = g5 at hx5 hx6 hx7 ⊢
  have HG1 := Lib.hid hg
  clear hg
  generalize hg : g5 + 1 = g6 at hx6 hx7 ⊢
  have HG2 := Lib.hid hg
  clear hg
  generalize hg : g6 + 1 = g7 at hx7 ⊢
  have HG3 := Lib.hid hg
  clear hg
  have HXg3 : Hid (HAt W0 g3 h) := Lib.hid hx3
  have HXg5 : Hid (InAt W0 g5 40 d (a : Int) (b : Int) n) := Lib.hid hx5
  have HXg6 : Hid (HAt W0 g6 (fun _ => 0)) := Lib.hid hx6
  have HXg7 : Hid (EfAt W0 g7 e0) := Lib.hid hx7
  have HB : Hid (Bel w W0) := Lib.hid hb
  clear hb hlt hx3 hx5 hx6 hx7
  rename_i K hK
  refine wp_region_list ?_
  refine wpList_one rfl (w' := W0) (v := .int .i64 id) rfl ?_
  try simp only [Act.put, la, lz, ls]
  refine wpList_call rfl (f := 27) (args := #[.int .i64 id]) (v := .int .i64 m) (by kernel_rfl) (wl HM.out _) ?_
  intro V1 hb
  replace HB : Hid (Bel w V1) := Lib.hid (HB.out.trans hb)
  replace HXg3 : Hid (HAt V1 g3 h) := Lib.hid (HXg3.out.bel hb)
  replace HXg5 : Hid (InAt V1 g5 40 d (a : Int) (b : Int) n) := Lib.hid (HXg5.out.bel hb)
  replace HXg6 : Hid (HAt V1 g6 (fun _ => 0)) := Lib.hid (HXg6.out.bel hb)
  replace HXg7 : Hid (EfAt V1 g7 e0) := Lib.hid (HXg7.out.bel hb)
  clear hb
  try simp only [Act.put, la, lz, ls]
  obtain ⟨hb, hx⟩ := box1 V1 #[.int .i64 0] 3
  refine wpList_one rfl (w' := V1.alloc (.cells #[.int .i64 0] 3)) (v := .pointer (some ⟨V1.heap.size, 0, none⟩)) (by kernel_rfl) ?_
  try simp only [Act.put, la, lz, ls]
  have hl7 := lt_of_heap HXg7.out
  generalize V1.alloc (.cells #[.int .i64 0] 3) = V2 at hb hx ⊢
  generalize V1.heap.size = g8 at hx hl7 ⊢
  have HG4 : Hid (g7 < g8) := Lib.hid hl7
  clear hl7
  replace HB : Hid (Bel w V2) := Lib.hid (HB.out.trans hb)
  replace HXg3 : Hid (HAt V2 g3 h) := Lib.hid (HXg3.out.bel hb)
  replace HXg5 : Hid (InAt V2 g5 40 d (a : Int) (b : Int) n) := Lib.hid (HXg5.out.bel hb)
  replace HXg6 : Hid (HAt V2 g6 (fun _ => 0)) := Lib.hid (HXg6.out.bel hb)
  replace HXg7 : Hid (EfAt V2 g7 e0) := Lib.hid (HXg7.out.bel hb)
  have HXg8 : Hid (OwnAt V2 g8 0) := Lib.hid hx
  clear hb hx
  refine wpList_store_cell rfl 3 (.tmp 8) (.tmp 14) rfl g8 0 rfl (.int .i64 m) rfl HXg8.out.cell (HXg8.out.frozen 0) sz_int rfl ?_
  have hn := HXg8.out.set (m)
  have hb := (Svg.set g8 0 V2 (.int .i64 (m))).bel HB.out (by have := HG.out; have := HG1.out; have := HG2.out; have := HG3.out; have := HG4.out; omega)
  have hg3 := ((Svg.set g8 0 V2 (.int .i64 (m))).block g3 (lt_of_heap HXg3.out) (by have := HG.out; have := HG1.out; have := HG2.out; have := HG3.out; have := HG4.out; omega)).trans HXg3.out
  have hg5 := ((Svg.set g8 0 V2 (.int .i64 (m))).block g5 (lt_of_heap HXg5.out) (by have := HG.out; have := HG1.out; have := HG2.out; have := HG3.out; have := HG4.out; omega)).trans HXg5.out
  have hg6 := ((Svg.set g8 0 V2 (.int .i64 (m))).block g6 (lt_of_heap HXg6.out) (by have := HG.out; have := HG1.out; have := HG2.out; have := HG3.out; have := HG4.out; omega)).trans HXg6.out
  have hg7 := ((Svg.set g8 0 V2 (.int .i64 (m))).block g7 (lt_of_heap HXg7.out) (by have := HG.out; have := HG1.out; have := HG2.out; have := HG3.out; have := HG4.out; omega)).trans HXg7.out
  generalize V2.setCell ⟨g8, 0, none⟩ (.int .i64 (m)) = V3 at hn hb hg3 hg5 hg6 hg7  ⊢
  clear HB HXg3 HXg5 HXg6 HXg7 HXg8
  have HB : Hid (Bel w V3) := Lib.hid hb
  have HXg3 : Hid (HAt V3 g3 h) := Lib.hid hg3
  have HXg5 : Hid (InAt V3 g5 40 d (a : Int) (b : Int) n) := Lib.hid hg5
  have HXg6 : Hid (HAt V3 g6 (fun _ => 0)) := Lib.hid hg6
  have HXg7 : Hid (EfAt V3 g7 e0) := Lib.hid hg7
  have HXg8 : Hid (OwnAt V3 g8 (m)) := Lib.hid hn
  clear hn hb hg3 hg5 hg6 hg7
  try simp only [Act.put, la, lz, ls]
  refine wpList_nil ?_
  refine hK _ _ ?_
  clear hK K
  go_upto_region 2 with (fail)
  rename_i K hK
  refine wp_region_list ?_
  refine wpList_one rfl (w' := V3) (v := .pointer (some ⟨g5, 4, none⟩)) (by kernel_rfl) ?_
  try simp only [Act.put, la, lz, ls]
  refine wpList_load_cell rfl 3 (.tmp 16) rfl ⟨g5, 4, none⟩ rfl (.int .i64 n) _ HXg5.out.cells.2.2.2.2 Tryd.underlying3 rfl ?_
  try simp only [Act.put, la, lz, ls]
  refine wpList_call rfl (f := 61) (args := #[.pointer (some ⟨g3, 0, none⟩), .pointer (some ⟨g8, 0, none⟩), .int .i64 n]) (v := .tuple #[.pointer (some ⟨g3, k, none⟩), .int .i64 bt]) (by kernel_rfl) (HC.out _ _ _) ?_
  intro V4 hb
  replace HB : Hid (Bel w V4) := Lib.hid (HB.out.trans hb)
  replace HXg3 : Hid (HAt V4 g3 h) := Lib.hid (HXg3.out.bel hb)
  replace HXg5 : Hid (InAt V4 g5 40 d (a : Int) (b : Int) n) := Lib.hid (HXg5.out.bel hb)
  replace HXg6 : Hid (HAt V4 g6 (fun _ => 0)) := Lib.hid (HXg6.out.bel hb)
  replace HXg7 : Hid (EfAt V4 g7 e0) := Lib.hid (HXg7.out.bel hb)
  replace HXg8 : Hid (OwnAt V4 g8 (m)) := Lib.hid (HXg8.out.bel hb)
  clear hb
  try simp only [Act.put, la, lz, ls]
  refine wpList_one rfl (w' := V4) (v := .tuple #[.pointer (some ⟨g3, k, none⟩), .int .i64 bt]) rfl ?_
  try simp only [Act.put, la, lz, ls]
  refine wpList_one rfl (w' := V4) (v := .pointer (some ⟨g3, k, none⟩)) rfl ?_
  try simp only [Act.put, la, lz, ls]
  refine wpList_one rfl (w' := V4) (v := .int .i64 bt) rfl ?_
  try simp only [Act.put, la, lz, ls]
  refine wpList_one rfl (w' := V4) (v := .pointer (some ⟨g3, k, none⟩)) rfl ?_
  try simp only [Act.put, la, lz, ls]
  refine wpList_one rfl (w' := V4) (v := .int .i64 bt) rfl ?_
  try simp only [Act.put, la, lz, ls]
  refine wpList_nil ?_
  refine hK _ _ ?_
  clear hK K
  go_upto_region 5 with (fail)
  rename_i K hK
  refine Upto.begin (z := 9) (T := fun w' => w'.cell? ⟨g3, k, none⟩ = some (.int .i64 (h k)) ∧ w'.cell? ⟨g3, a, none⟩ = some (.int .i64 (h a)) ∧ InAt w' g5 40 d (a : Int) (b : Int) n) (by kernel_rfl) ?_
  have hb : Bel V4 V4.drew := (Bel.refl V4).drew
  generalize V4.drew = V5 at hb ⊢
  replace HB : Hid (Bel w V5) := Lib.hid (HB.out.trans hb)
  replace HXg3 : Hid (HAt V5 g3 h) := Lib.hid (HXg3.out.bel hb)
  replace HXg5 : Hid (InAt V5 g5 40 d (a : Int) (b : Int) n) := Lib.hid (HXg5.out.bel hb)
  replace HXg6 : Hid (HAt V5 g6 (fun _ => 0)) := Lib.hid (HXg6.out.bel hb)
  replace HXg7 : Hid (EfAt V5 g7 e0) := Lib.hid (HXg7.out.bel hb)
  replace HXg8 : Hid (OwnAt V5 g8 (m)) := Lib.hid (HXg8.out.bel hb)
  clear hb
  have hT : V5.cell? ⟨g3, k, none⟩ = some (.int .i64 (h k)) ∧ V5.cell? ⟨g3, a, none⟩ = some (.int .i64 (h a)) ∧ InAt V5 g5 40 d (a : Int) (b : Int) n := ⟨HXg3.out.cell (j := k) (by omega), HXg3.out.cell (j := a) (by omega), HXg5.out⟩
  refine takeU 27 (i := 0) (v := .pointer (some ⟨g3, k, none⟩)) rfl rfl rfl (by kernel_rfl) (by kernel_rfl) (by kernel_rfl) (by kernel_rfl) (fun _ _ _ h => h) (by kernel_rfl) (fun w0 hS => rfl) hT ?_
  try simp only [la, lz, ls]
  refine takeU 28 (i := 1) (v := .pointer (some ⟨g3, k, none⟩)) rfl rfl rfl (by kernel_rfl) (by kernel_rfl) (by kernel_rfl) (by kernel_rfl) (fun _ _ _ h => h) (by kernel_rfl) (fun w0 hS => (by kernel_rfl)) hT ?_
  try simp only [la, lz, ls]
  refine takeU 29 (i := 2) (v := .int .i64 (h k)) rfl rfl rfl (by kernel_rfl) (by kernel_rfl) (by kernel_rfl) (by kernel_rfl) (fun _ _ _ h => h) (by kernel_rfl) (fun w0 hS => (exec_cell 3 (.tmp 28) rfl ⟨g3, k, none⟩ rfl _ _ hS.1 Tryd.underlying3 rfl)) hT ?_
  try simp only [la, lz, ls]
  refine takeU 30 (i := 3) (v := .pointer (some ⟨g5, 2, none⟩)) rfl rfl rfl (by kernel_rfl) (by kernel_rfl) (by kernel_rfl) (by kernel_rfl) (fun _ _ _ h => h) (by kernel_rfl) (fun w0 hS => (by kernel_rfl)) hT ?_
  try simp only [la, lz, ls]
  refine takeU 31 (i := 4) (v := .int .i64 (a : Int)) rfl rfl rfl (by kernel_rfl) (by kernel_rfl) (by kernel_rfl) (by kernel_rfl) (fun _ _ _ h => h) (by kernel_rfl) (fun w0 hS => (exec_cell 3 (.tmp 30) rfl ⟨g5, 2, none⟩ rfl _ _ (hS.2.2).cells.2.2.1 Tryd.underlying3 rfl)) hT ?_
  try simp only [la, lz, ls]
  refine takeU 32 (i := 5) (v := .pointer (some ⟨g3, 0, none⟩)) rfl rfl rfl (by kernel_rfl) (by kernel_rfl) (by kernel_rfl) (by kernel_rfl) (fun _ _ _ h => h) (by kernel_rfl) (fun w0 hS => (by kernel_rfl)) hT ?_
  try simp only [la, lz, ls]
  refine takeU 33 (i := 6) (v := .pointer (some ⟨g3, a, none⟩)) rfl rfl rfl (by kernel_rfl) (by kernel_rfl) (by kernel_rfl) (by kernel_rfl) (fun _ _ _ h => h) (by kernel_rfl) (fun w0 hS => (exec_reg rfl g3 a (by omega) rfl rfl _)) hT ?_
  try simp only [la, lz, ls]
  refine takeU 34 (i := 7) (v := .int .i64 (h a)) rfl rfl rfl (by kernel_rfl) (by kernel_rfl) (by kernel_rfl) (by kernel_rfl) (fun _ _ _ h => h) (by kernel_rfl) (fun w0 hS => (exec_cell 3 (.tmp 33) rfl ⟨g3, a, none⟩ rfl _ _ hS.2.1 Tryd.underlying3 rfl)) hT ?_
  try simp only [la, lz, ls]
  refine takeU 11 (i := 8) (v := .int .i64 (h k)) rfl rfl rfl (by kernel_rfl) (by kernel_rfl) (by kernel_rfl) (by kernel_rfl) (fun _ _ _ h => h) (by kernel_rfl) (fun w0 hS => rfl) hT ?_
  try simp only [la, lz, ls]
  refine pureU 12 (i := 9) rfl rfl (by kernel_rfl) (by kernel_rfl) (v := .int .i64 (h a)) rfl hT ?_
  try simp only [la, lz, ls]
  refine Upto.done (by kernel_rfl) ?_ _
  clear hT
  rw [hx, hy]
  refine hK _ _ ?_
  clear hK K
  have HX1 := Lib.hid hx
  have HY1 := Lib.hid hy
  clear hx hy
  have kg5_0 := HXg5.out.cells.1
  go_upto_region 11 with (fail)
  rename_i K hK
  refine wp_region_list ?_
  refine wpList_one rfl (w' := V5) (v := .pointer (some ⟨g3, k, none⟩)) rfl ?_
  try simp only [Act.put, la, lz, ls]
  refine wpList_one rfl (w' := V5) (v := .int .i64 y) rfl ?_
  try simp only [Act.put, la, lz, ls]
  refine wpList_one rfl (w' := V5) (v := .int .i64 bt) rfl ?_
  try simp only [Act.put, la, lz, ls]
  refine wpList_one rfl (w' := V5) (v := .int .i64 (bits .and .i64 y bt)) (by kernel_rfl) ?_
  try simp only [Act.put, la, lz, ls]
  refine wpList_one rfl (w' := V5) (v := .pointer (some ⟨g3, k, none⟩)) (by kernel_rfl) ?_
  try simp only [Act.put, la, lz, ls]
  refine wpList_store_cell rfl 3 (.tmp 51) (.tmp 50) rfl g3 k rfl (.int .i64 (bits .and .i64 y bt)) rfl (HXg3.out.cell (j := k) (by omega)) (HXg3.out.frozen k) sz_int rfl ?_
  have hn := HXg3.out.set (j := k) (by omega) ((bits .and .i64 y bt))
  have hb := (Svg.set g3 k V5 (.int .i64 ((bits .and .i64 y bt)))).bel HB.out (by have := HG.out; have := HG1.out; have := HG2.out; have := HG3.out; have := HG4.out; omega)
  have hg5 := ((Svg.set g3 k V5 (.int .i64 ((bits .and .i64 y bt)))).block g5 (lt_of_heap HXg5.out) (by have := HG.out; have := HG1.out; have := HG2.out; have := HG3.out; have := HG4.out; omega)).trans HXg5.out
  have hg6 := ((Svg.set g3 k V5 (.int .i64 ((bits .and .i64 y bt)))).block g6 (lt_of_heap HXg6.out) (by have := HG.out; have := HG1.out; have := HG2.out; have := HG3.out; have := HG4.out; omega)).trans HXg6.out
  have hg7 := ((Svg.set g3 k V5 (.int .i64 ((bits .and .i64 y bt)))).block g7 (lt_of_heap HXg7.out) (by have := HG.out; have := HG1.out; have := HG2.out; have := HG3.out; have := HG4.out; omega)).trans HXg7.out
  have hg8 := ((Svg.set g3 k V5 (.int .i64 ((bits .and .i64 y bt)))).block g8 (lt_of_heap HXg8.out) (by have := HG.out; have := HG1.out; have := HG2.out; have := HG3.out; have := HG4.out; omega)).trans HXg8.out
  generalize V5.setCell ⟨g3, k, none⟩ (.int .i64 ((bits .and .i64 y bt))) = V6 at hn hb hg5 hg6 hg7 hg8  ⊢
  clear HB HXg3 HXg5 HXg6 HXg7 HXg8
  have HB : Hid (Bel w V6) := Lib.hid hb
  have HXg5 : Hid (InAt V6 g5 40 d (a : Int) (b : Int) n) := Lib.hid hg5
  have HXg6 : Hid (HAt V6 g6 (fun _ => 0)) := Lib.hid hg6
  have HXg7 : Hid (EfAt V6 g7 e0) := Lib.hid hg7
  have HXg8 : Hid (OwnAt V6 g8 (m)) := Lib.hid hg8
  have HXg3 : Hid (HAt V6 g3 (up h k ((bits .and .i64 y bt)))) := Lib.hid hn
  clear hn hb hg5 hg6 hg7 hg8
  try simp only [Act.put, la, lz, ls]
  refine wpList_nil ?_
  refine hK _ _ ?_
  clear hK K
  clear kg5_0
  rw [HZ1.out] at HXg3
  go_upto_region 12 with (fail)
  rename_i K hK
  refine wp_region_list ?_
  refine wpList_load_row rfl 28 (.tmp 3) rfl g3 rfl 28 (hC h1) (0, 0) _ HXg3.out Tryd.underlying28 rfl (sz_hart _) ?_
  try simp only [Act.put, la, lz, ls]
  refine wpList_one rfl (w' := V6) (v := .pointer (some ⟨g5, 1, none⟩)) (by kernel_rfl) ?_
  try simp only [Act.put, la, lz, ls]
  refine wpList_load_cell rfl 3 (.tmp 53) rfl ⟨g5, 1, none⟩ rfl (.int .i64 d) _ HXg5.out.cells.2.1 Tryd.underlying3 rfl ?_
  try simp only [Act.put, la, lz, ls]
  refine wpList_one rfl (w' := V6) (v := .int .i64 x) rfl ?_
  try simp only [Act.put, la, lz, ls]
  refine wpList_call rfl (f := 18) (args := #[hv h1, .int .i64 d, .int .i64 x]) (v := hv h2) (by kernel_rfl) (put_lit HP2.out _) ?_
  intro V7 hb
  replace HB : Hid (Bel w V7) := Lib.hid (HB.out.trans hb)
  replace HXg3 : Hid (HAt V7 g3 h1) := Lib.hid (HXg3.out.bel hb)
  replace HXg5 : Hid (InAt V7 g5 40 d (a : Int) (b : Int) n) := Lib.hid (HXg5.out.bel hb)
  replace HXg6 : Hid (HAt V7 g6 (fun _ => 0)) := Lib.hid (HXg6.out.bel hb)
  replace HXg7 : Hid (EfAt V7 g7 e0) := Lib.hid (HXg7.out.bel hb)
  replace HXg8 : Hid (OwnAt V7 g8 (m)) := Lib.hid (HXg8.out.bel hb)
  clear hb
  try simp only [Act.put, la, lz, ls]
  refine wpList_call rfl (f := 38) (args := #[hv h2, .int .i64 4]) (v := hv h3) (by kernel_rfl) (goBy_lit HP3.out _) ?_
  intro V8 hb
  replace HB : Hid (Bel w V8) := Lib.hid (HB.out.trans hb)
  replace HXg3 : Hid (HAt V8 g3 h1) := Lib.hid (HXg3.out.bel hb)
  replace HXg5 : Hid (InAt V8 g5 40 d (a : Int) (b : Int) n) := Lib.hid (HXg5.out.bel hb)
  replace HXg6 : Hid (HAt V8 g6 (fun _ => 0)) := Lib.hid (HXg6.out.bel hb)
  replace HXg7 : Hid (EfAt V8 g7 e0) := Lib.hid (HXg7.out.bel hb)
  replace HXg8 : Hid (OwnAt V8 g8 (m)) := Lib.hid (HXg8.out.bel hb)
  clear hb
  try simp only [Act.put, la, lz, ls]
  refine wpList_one rfl (w' := V8) (v := .agg (eC e0)) (by kernel_rfl) ?_
  try simp only [Act.put, la, lz, ls]
  refine wpList_store_row rfl 28 (.tmp 6) (.tmp 57) rfl g6 (hC h3) rfl rfl 28 (hC (fun _ => 0)) HXg6.out (sz_hart _) (by rw [hC_size, hC_size]) (hC_ones _) ?_
  have hn := row_same (cs := (hC h3)) HXg6.out
  have hb := row_bel HB.out (g := g6) (by have := HG.out; have := HG1.out; have := HG2.out; have := HG3.out; have := HG4.out; omega) (hC h3)
  have hg3 := (setRow_other V8 g6 g3 (hC h3) (by have := HG.out; have := HG1.out; have := HG2.out; have := HG3.out; have := HG4.out; omega)).trans HXg3.out
  have hg5 := (setRow_other V8 g6 g5 (hC h3) (by have := HG.out; have := HG1.out; have := HG2.out; have := HG3.out; have := HG4.out; omega)).trans HXg5.out
  have hg7 := (setRow_other V8 g6 g7 (hC h3) (by have := HG.out; have := HG1.out; have := HG2.out; have := HG3.out; have := HG4.out; omega)).trans HXg7.out
  have hg8 := (setRow_other V8 g6 g8 (hC h3) (by have := HG.out; have := HG1.out; have := HG2.out; have := HG3.out; have := HG4.out; omega)).trans HXg8.out
  generalize V8.setRow g6 (hC h3) = V9 at hn hb hg3 hg5 hg7 hg8 ⊢
  clear HB HXg3 HXg5 HXg6 HXg7 HXg8
  have HB : Hid (Bel w V9) := Lib.hid hb
  have HXg3 : Hid (HAt V9 g3 h1) := Lib.hid hg3
  have HXg5 : Hid (InAt V9 g5 40 d (a : Int) (b : Int) n) := Lib.hid hg5
  have HXg7 : Hid (EfAt V9 g7 e0) := Lib.hid hg7
  have HXg8 : Hid (OwnAt V9 g8 (m)) := Lib.hid hg8
  have HXg6 : Hid (HAt V9 g6 h3) := Lib.hid hn
  clear hn hb hg3 hg5 hg7 hg8
  try simp only [Act.put, la, lz, ls]
  refine wpList_store_row rfl 34 (.tmp 7) (.tmp 58) rfl g7 (eC e0) rfl rfl 34 (eC e0) HXg7.out (sz_eff _) rfl (eC_ones _) ?_
  have hn := row_same (cs := (eC e0)) HXg7.out
  have hb := row_bel HB.out (g := g7) (by have := HG.out; have := HG1.out; have := HG2.out; have := HG3.out; have := HG4.out; omega) (eC e0)
  have hg3 := (setRow_other V9 g7 g3 (eC e0) (by have := HG.out; have := HG1.out; have := HG2.out; have := HG3.out; have := HG4.out; omega)).trans HXg3.out
  have hg5 := (setRow_other V9 g7 g5 (eC e0) (by have := HG.out; have := HG1.out; have := HG2.out; have := HG3.out; have := HG4.out; omega)).trans HXg5.out
  have hg6 := (setRow_other V9 g7 g6 (eC e0) (by have := HG.out; have := HG1.out; have := HG2.out; have := HG3.out; have := HG4.out; omega)).trans HXg6.out
  have hg8 := (setRow_other V9 g7 g8 (eC e0) (by have := HG.out; have := HG1.out; have := HG2.out; have := HG3.out; have := HG4.out; omega)).trans HXg8.out
  generalize V9.setRow g7 (eC e0) = V10 at hn hb hg3 hg5 hg6 hg8 ⊢
  clear HB HXg3 HXg5 HXg6 HXg7 HXg8
  have HB : Hid (Bel w V10) := Lib.hid hb
  have HXg3 : Hid (HAt V10 g3 h1) := Lib.hid hg3
  have HXg5 : Hid (InAt V10 g5 40 d (a : Int) (b : Int) n) := Lib.hid hg5
  have HXg6 : Hid (HAt V10 g6 h3) := Lib.hid hg6
  have HXg8 : Hid (OwnAt V10 g8 (m)) := Lib.hid hg8
  have HXg7 : Hid (EfAt V10 g7 e0) := Lib.hid hn
  clear hn hb hg3 hg5 hg6 hg8
  try simp only [Act.put, la, lz, ls]
  refine wpList_nil ?_
  refine hK _ _ (wp_ret ?_)
  exact bodyPost_ret (results_cells2 Tryd.results36 _ _ g6 g7 _ _ _ _ _ _ _ _ (by rfl) (by rfl) HXg6.out HXg7.out Tryd.underlying28 rfl (sz_hart _) Tryd.underlying34 rfl (sz_eff _)) (by rfl) ⟨rfl, HB.out⟩
theorem own_40 {h h1 h2 h3 : H} {a b : Nat} {d n m x y bt z id : Int} (ha : a < 32) (hm : wrap32 id = m)  (hc : ∀ (g g2 : Nat) (w : World), Calls Tryd.prog 61 #[.pointer (some ⟨g, 0, none⟩), .pointer (some ⟨g2, 0, none⟩), .int .i64 n] w (OneV (.tuple #[.pointer (some ⟨g2, 0, none⟩), .int .i64 bt]) w)) (hx : h 0 = x) (hy : h a = y) (e2 : put h d m = h2) (e3 : Ht.go h2 4 = h3) (w : World) : Calls Tryd.prog 36 #[hv h, .int .i64 id, iv 40 d (a : Int) (b : Int) n] w (OneV (.tuple #[hv h3, .agg (eC e0)]) w) := by
  have HM := Lib.hid hm
  have HC := Lib.hid hc
  have HP2 := Lib.hid e2
  have HP3 := Lib.hid e3
  clear hm hc e2 e3
  have hz := zero_hart
  go_enter Tryd.func36, Tryd.ntmps36
  go_upto_region 1 with (fail)
  obtain ⟨W0, hW, hb, hx3, hx5, hx6, hx7⟩ := boxes4 w (hC h) (iC 40 d (a : Int) (b : Int) n) hZ (eC e0) 28 24 28 34
  first | rw [← hW] | (show Code.wp _ _ _ _ ((((w.alloc (.cells (hC h) 28)).alloc (.cells (iC 40 d (a : Int) (b : Int) n) 24)).alloc (.cells hZ 28)).alloc (.cells (eC e0) 34)); rw [← hW])
  clear hz hW
  have hlt : w.heap.size < W0.heap.size := lt_of_heap hx3
  generalize hg : w.heap.size = g3 at hx3 hx5 hx6 hx7 hlt ⊢
  have HG := Lib.hid hg
  clear hg
  generalize hg : g3 + 1 = g5 at hx5 hx6 hx7 ⊢
  have HG1 := Lib.hid hg
  clear hg
  generalize hg : g5 + 1 = g6 at hx6 hx7 ⊢
  have HG2 := Lib.hid hg
  clear hg
  generalize hg : g6 + 1 = g7 at hx7 ⊢
  have HG3 := Lib.hid hg
  clear hg
  have HXg3 : Hid (HAt W0 g3 h) := Lib.hid hx3
  have HXg5 : Hid (InAt W0 g5 40 d (a : Int) (b : Int) n) := Lib.hid hx5
  have HXg6 : Hid (HAt W0 g6 (fun _ => 0)) := Lib.hid hx6
  have HXg7 : Hid (EfAt W0 g7 e0) := Lib.hid hx7
  have HB : Hid (Bel w W0) := Lib.hid hb
  clear hb hlt hx3 hx5 hx6 hx7
  rename_i K hK
  refine wp_region_list ?_
  refine wpList_one rfl (w' := W0) (v := .int .i64 id) rfl ?_
  try simp only [Act.put, la, lz, ls]
  refine wpList_call rfl (f := 27) (args := #[.int .i64 id]) (v := .int .i64 m) (by kernel_rfl) (wl HM.out _) ?_
  intro V1 hb
  replace HB : Hid (Bel w V1) := Lib.hid (HB.out.trans hb)
  replace HXg3 : Hid (HAt V1 g3 h) := Lib.hid (HXg3.out.bel hb)
  replace HXg5 : Hid (InAt V1 g5 40 d (a : Int) (b : Int) n) := Lib.hid (HXg5.out.bel hb)
  replace HXg6 : Hid (HAt V1 g6 (fun _ => 0)) := Lib.hid (HXg6.out.bel hb)
  replace HXg7 : Hid (EfAt V1 g7 e0) := Lib.hid (HXg7.out.bel hb)
  clear hb
  try simp only [Act.put, la, lz, ls]
  obtain ⟨hb, hx⟩ := box1 V1 #[.int .i64 0] 3
  refine wpList_one rfl (w' := V1.alloc (.cells #[.int .i64 0] 3)) (v := .pointer (some ⟨V1.heap.size, 0, none⟩)) (by kernel_rfl) ?_
  try simp only [Act.put, la, lz, ls]
  have hl7 := lt_of_heap HXg7.out
  generalize V1.alloc (.cells #[.int .i64 0] 3) = V2 at hb hx ⊢
  generalize V1.heap.size = g8 at hx hl7 ⊢
  have HG4 : Hid (g7 < g8) := Lib.hid hl7
  clear hl7
  replace HB : Hid (Bel w V2) := Lib.hid (HB.out.trans hb)
  replace HXg3 : Hid (HAt V2 g3 h) := Lib.hid (HXg3.out.bel hb)
  replace HXg5 : Hid (InAt V2 g5 40 d (a : Int) (b : Int) n) := Lib.hid (HXg5.out.bel hb)
  replace HXg6 : Hid (HAt V2 g6 (fun _ => 0)) := Lib.hid (HXg6.out.bel hb)
  replace HXg7 : Hid (EfAt V2 g7 e0) := Lib.hid (HXg7.out.bel hb)
  have HXg8 : Hid (OwnAt V2 g8 0) := Lib.hid hx
  clear hb hx
  refine wpList_store_cell rfl 3 (.tmp 8) (.tmp 14) rfl g8 0 rfl (.int .i64 m) rfl HXg8.out.cell (HXg8.out.frozen 0) sz_int rfl ?_
  have hn := HXg8.out.set (m)
  have hb := (Svg.set g8 0 V2 (.int .i64 (m))).bel HB.out (by have := HG.out; have := HG1.out; have := HG2.out; have := HG3.out; have := HG4.out; omega)
  have hg3 := ((Svg.set g8 0 V2 (.int .i64 (m))).block g3 (lt_of_heap HXg3.out) (by have := HG.out; have := HG1.out; have := HG2.out; have := HG3.out; have := HG4.out; omega)).trans HXg3.out
  have hg5 := ((Svg.set g8 0 V2 (.int .i64 (m))).block g5 (lt_of_heap HXg5.out) (by have := HG.out; have := HG1.out; have := HG2.out; have := HG3.out; have := HG4.out; omega)).trans HXg5.out
  have hg6 := ((Svg.set g8 0 V2 (.int .i64 (m))).block g6 (lt_of_heap HXg6.out) (by have := HG.out; have := HG1.out; have := HG2.out; have := HG3.out; have := HG4.out; omega)).trans HXg6.out
  have hg7 := ((Svg.set g8 0 V2 (.int .i64 (m))).block g7 (lt_of_heap HXg7.out) (by have := HG.out; have := HG1.out; have := HG2.out; have := HG3.out; have := HG4.out; omega)).trans HXg7.out
  generalize V2.setCell ⟨g8, 0, none⟩ (.int .i64 (m)) = V3 at hn hb hg3 hg5 hg6 hg7  ⊢
  clear HB HXg3 HXg5 HXg6 HXg7 HXg8
  have HB : Hid (Bel w V3) := Lib.hid hb
  have HXg3 : Hid (HAt V3 g3 h) := Lib.hid hg3
  have HXg5 : Hid (InAt V3 g5 40 d (a : Int) (b : Int) n) := Lib.hid hg5
  have HXg6 : Hid (HAt V3 g6 (fun _ => 0)) := Lib.hid hg6
  have HXg7 : Hid (EfAt V3 g7 e0) := Lib.hid hg7
  have HXg8 : Hid (OwnAt V3 g8 (m)) := Lib.hid hn
  clear hn hb hg3 hg5 hg6 hg7
  try simp only [Act.put, la, lz, ls]
  refine wpList_nil ?_
  refine hK _ _ ?_
  clear hK K
  go_upto_region 2 with (fail)
  rename_i K hK
  refine wp_region_list ?_
  refine wpList_one rfl (w' := V3) (v := .pointer (some ⟨g5, 4, none⟩)) (by kernel_rfl) ?_
  try simp only [Act.put, la, lz, ls]
  refine wpList_load_cell rfl 3 (.tmp 16) rfl ⟨g5, 4, none⟩ rfl (.int .i64 n) _ HXg5.out.cells.2.2.2.2 Tryd.underlying3 rfl ?_
  try simp only [Act.put, la, lz, ls]
  refine wpList_call rfl (f := 61) (args := #[.pointer (some ⟨g3, 0, none⟩), .pointer (some ⟨g8, 0, none⟩), .int .i64 n]) (v := .tuple #[.pointer (some ⟨g8, 0, none⟩), .int .i64 bt]) (by kernel_rfl) (HC.out _ _ _) ?_
  intro V4 hb
  replace HB : Hid (Bel w V4) := Lib.hid (HB.out.trans hb)
  replace HXg3 : Hid (HAt V4 g3 h) := Lib.hid (HXg3.out.bel hb)
  replace HXg5 : Hid (InAt V4 g5 40 d (a : Int) (b : Int) n) := Lib.hid (HXg5.out.bel hb)
  replace HXg6 : Hid (HAt V4 g6 (fun _ => 0)) := Lib.hid (HXg6.out.bel hb)
  replace HXg7 : Hid (EfAt V4 g7 e0) := Lib.hid (HXg7.out.bel hb)
  replace HXg8 : Hid (OwnAt V4 g8 (m)) := Lib.hid (HXg8.out.bel hb)
  clear hb
  try simp only [Act.put, la, lz, ls]
  refine wpList_one rfl (w' := V4) (v := .tuple #[.pointer (some ⟨g8, 0, none⟩), .int .i64 bt]) rfl ?_
  try simp only [Act.put, la, lz, ls]
  refine wpList_one rfl (w' := V4) (v := .pointer (some ⟨g8, 0, none⟩)) rfl ?_
  try simp only [Act.put, la, lz, ls]
  refine wpList_one rfl (w' := V4) (v := .int .i64 bt) rfl ?_
  try simp only [Act.put, la, lz, ls]
  refine wpList_one rfl (w' := V4) (v := .pointer (some ⟨g8, 0, none⟩)) rfl ?_
  try simp only [Act.put, la, lz, ls]
  refine wpList_one rfl (w' := V4) (v := .int .i64 bt) rfl ?_
  try simp only [Act.put, la, lz, ls]
  refine wpList_nil ?_
  refine hK _ _ ?_
  clear hK K
  go_upto_region 5 with (fail)
  rename_i K hK
  refine Upto.begin (z := 9) (T := fun w' => w'.cell? ⟨g8, 0, none⟩ = some (.int .i64 (m)) ∧ w'.cell? ⟨g3, a, none⟩ = some (.int .i64 (h a)) ∧ InAt w' g5 40 d (a : Int) (b : Int) n) (by kernel_rfl) ?_
  have hb : Bel V4 V4.drew := (Bel.refl V4).drew
  generalize V4.drew = V5 at hb ⊢
  replace HB : Hid (Bel w V5) := Lib.hid (HB.out.trans hb)
  replace HXg3 : Hid (HAt V5 g3 h) := Lib.hid (HXg3.out.bel hb)
  replace HXg5 : Hid (InAt V5 g5 40 d (a : Int) (b : Int) n) := Lib.hid (HXg5.out.bel hb)
  replace HXg6 : Hid (HAt V5 g6 (fun _ => 0)) := Lib.hid (HXg6.out.bel hb)
  replace HXg7 : Hid (EfAt V5 g7 e0) := Lib.hid (HXg7.out.bel hb)
  replace HXg8 : Hid (OwnAt V5 g8 (m)) := Lib.hid (HXg8.out.bel hb)
  clear hb
  have hT : V5.cell? ⟨g8, 0, none⟩ = some (.int .i64 (m)) ∧ V5.cell? ⟨g3, a, none⟩ = some (.int .i64 (h a)) ∧ InAt V5 g5 40 d (a : Int) (b : Int) n := ⟨HXg8.out.cell, HXg3.out.cell (j := a) (by omega), HXg5.out⟩
  refine takeU 27 (i := 0) (v := .pointer (some ⟨g8, 0, none⟩)) rfl rfl rfl (by kernel_rfl) (by kernel_rfl) (by kernel_rfl) (by kernel_rfl) (fun _ _ _ h => h) (by kernel_rfl) (fun w0 hS => rfl) hT ?_
  try simp only [la, lz, ls]
  refine takeU 28 (i := 1) (v := .pointer (some ⟨g8, 0, none⟩)) rfl rfl rfl (by kernel_rfl) (by kernel_rfl) (by kernel_rfl) (by kernel_rfl) (fun _ _ _ h => h) (by kernel_rfl) (fun w0 hS => (by kernel_rfl)) hT ?_
  try simp only [la, lz, ls]
  refine takeU 29 (i := 2) (v := .int .i64 (m)) rfl rfl rfl (by kernel_rfl) (by kernel_rfl) (by kernel_rfl) (by kernel_rfl) (fun _ _ _ h => h) (by kernel_rfl) (fun w0 hS => (exec_cell 3 (.tmp 28) rfl ⟨g8, 0, none⟩ rfl _ _ hS.1 Tryd.underlying3 rfl)) hT ?_
  try simp only [la, lz, ls]
  refine takeU 30 (i := 3) (v := .pointer (some ⟨g5, 2, none⟩)) rfl rfl rfl (by kernel_rfl) (by kernel_rfl) (by kernel_rfl) (by kernel_rfl) (fun _ _ _ h => h) (by kernel_rfl) (fun w0 hS => (by kernel_rfl)) hT ?_
  try simp only [la, lz, ls]
  refine takeU 31 (i := 4) (v := .int .i64 (a : Int)) rfl rfl rfl (by kernel_rfl) (by kernel_rfl) (by kernel_rfl) (by kernel_rfl) (fun _ _ _ h => h) (by kernel_rfl) (fun w0 hS => (exec_cell 3 (.tmp 30) rfl ⟨g5, 2, none⟩ rfl _ _ (hS.2.2).cells.2.2.1 Tryd.underlying3 rfl)) hT ?_
  try simp only [la, lz, ls]
  refine takeU 32 (i := 5) (v := .pointer (some ⟨g3, 0, none⟩)) rfl rfl rfl (by kernel_rfl) (by kernel_rfl) (by kernel_rfl) (by kernel_rfl) (fun _ _ _ h => h) (by kernel_rfl) (fun w0 hS => (by kernel_rfl)) hT ?_
  try simp only [la, lz, ls]
  refine takeU 33 (i := 6) (v := .pointer (some ⟨g3, a, none⟩)) rfl rfl rfl (by kernel_rfl) (by kernel_rfl) (by kernel_rfl) (by kernel_rfl) (fun _ _ _ h => h) (by kernel_rfl) (fun w0 hS => (exec_reg rfl g3 a (by omega) rfl rfl _)) hT ?_
  try simp only [la, lz, ls]
  refine takeU 34 (i := 7) (v := .int .i64 (h a)) rfl rfl rfl (by kernel_rfl) (by kernel_rfl) (by kernel_rfl) (by kernel_rfl) (fun _ _ _ h => h) (by kernel_rfl) (fun w0 hS => (exec_cell 3 (.tmp 33) rfl ⟨g3, a, none⟩ rfl _ _ hS.2.1 Tryd.underlying3 rfl)) hT ?_
  try simp only [la, lz, ls]
  refine takeU 11 (i := 8) (v := .int .i64 (m)) rfl rfl rfl (by kernel_rfl) (by kernel_rfl) (by kernel_rfl) (by kernel_rfl) (fun _ _ _ h => h) (by kernel_rfl) (fun w0 hS => rfl) hT ?_
  try simp only [la, lz, ls]
  refine pureU 12 (i := 9) rfl rfl (by kernel_rfl) (by kernel_rfl) (v := .int .i64 (h a)) rfl hT ?_
  try simp only [la, lz, ls]
  refine Upto.done (by kernel_rfl) ?_ _
  clear hT
  rw [hy]
  refine hK _ _ ?_
  clear hK K
  have HX1 := Lib.hid hx
  have HY1 := Lib.hid hy
  clear hx hy
  have kg5_0 := HXg5.out.cells.1
  go_upto_region 11 with (fail)
  rename_i K hK
  refine wp_region_list ?_
  refine wpList_one rfl (w' := V5) (v := .pointer (some ⟨g8, 0, none⟩)) rfl ?_
  try simp only [Act.put, la, lz, ls]
  refine wpList_one rfl (w' := V5) (v := .int .i64 y) rfl ?_
  try simp only [Act.put, la, lz, ls]
  refine wpList_one rfl (w' := V5) (v := .int .i64 bt) rfl ?_
  try simp only [Act.put, la, lz, ls]
  refine wpList_one rfl (w' := V5) (v := .int .i64 (bits .and .i64 y bt)) (by kernel_rfl) ?_
  try simp only [Act.put, la, lz, ls]
  refine wpList_one rfl (w' := V5) (v := .pointer (some ⟨g8, 0, none⟩)) (by kernel_rfl) ?_
  try simp only [Act.put, la, lz, ls]
  refine wpList_store_cell rfl 3 (.tmp 51) (.tmp 50) rfl g8 0 rfl (.int .i64 (bits .and .i64 y bt)) rfl HXg8.out.cell (HXg8.out.frozen 0) sz_int rfl ?_
  have hn := HXg8.out.set ((bits .and .i64 y bt))
  have hb := (Svg.set g8 0 V5 (.int .i64 ((bits .and .i64 y bt)))).bel HB.out (by have := HG.out; have := HG1.out; have := HG2.out; have := HG3.out; have := HG4.out; omega)
  have hg3 := ((Svg.set g8 0 V5 (.int .i64 ((bits .and .i64 y bt)))).block g3 (lt_of_heap HXg3.out) (by have := HG.out; have := HG1.out; have := HG2.out; have := HG3.out; have := HG4.out; omega)).trans HXg3.out
  have hg5 := ((Svg.set g8 0 V5 (.int .i64 ((bits .and .i64 y bt)))).block g5 (lt_of_heap HXg5.out) (by have := HG.out; have := HG1.out; have := HG2.out; have := HG3.out; have := HG4.out; omega)).trans HXg5.out
  have hg6 := ((Svg.set g8 0 V5 (.int .i64 ((bits .and .i64 y bt)))).block g6 (lt_of_heap HXg6.out) (by have := HG.out; have := HG1.out; have := HG2.out; have := HG3.out; have := HG4.out; omega)).trans HXg6.out
  have hg7 := ((Svg.set g8 0 V5 (.int .i64 ((bits .and .i64 y bt)))).block g7 (lt_of_heap HXg7.out) (by have := HG.out; have := HG1.out; have := HG2.out; have := HG3.out; have := HG4.out; omega)).trans HXg7.out
  generalize V5.setCell ⟨g8, 0, none⟩ (.int .i64 ((bits .and .i64 y bt))) = V6 at hn hb hg3 hg5 hg6 hg7  ⊢
  clear HB HXg3 HXg5 HXg6 HXg7 HXg8
  have HB : Hid (Bel w V6) := Lib.hid hb
  have HXg3 : Hid (HAt V6 g3 h) := Lib.hid hg3
  have HXg5 : Hid (InAt V6 g5 40 d (a : Int) (b : Int) n) := Lib.hid hg5
  have HXg6 : Hid (HAt V6 g6 (fun _ => 0)) := Lib.hid hg6
  have HXg7 : Hid (EfAt V6 g7 e0) := Lib.hid hg7
  have HXg8 : Hid (OwnAt V6 g8 ((bits .and .i64 y bt))) := Lib.hid hn
  clear hn hb hg3 hg5 hg6 hg7
  try simp only [Act.put, la, lz, ls]
  refine wpList_nil ?_
  refine hK _ _ ?_
  clear hK K
  clear kg5_0
  go_upto_region 12 with (fail)
  rename_i K hK
  refine wp_region_list ?_
  refine wpList_load_row rfl 28 (.tmp 3) rfl g3 rfl 28 (hC h) (0, 0) _ HXg3.out Tryd.underlying28 rfl (sz_hart _) ?_
  try simp only [Act.put, la, lz, ls]
  refine wpList_one rfl (w' := V6) (v := .pointer (some ⟨g5, 1, none⟩)) (by kernel_rfl) ?_
  try simp only [Act.put, la, lz, ls]
  refine wpList_load_cell rfl 3 (.tmp 53) rfl ⟨g5, 1, none⟩ rfl (.int .i64 d) _ HXg5.out.cells.2.1 Tryd.underlying3 rfl ?_
  try simp only [Act.put, la, lz, ls]
  refine wpList_one rfl (w' := V6) (v := .int .i64 m) rfl ?_
  try simp only [Act.put, la, lz, ls]
  refine wpList_call rfl (f := 18) (args := #[hv h, .int .i64 d, .int .i64 m]) (v := hv h2) (by kernel_rfl) (put_lit HP2.out _) ?_
  intro V7 hb
  replace HB : Hid (Bel w V7) := Lib.hid (HB.out.trans hb)
  replace HXg3 : Hid (HAt V7 g3 h) := Lib.hid (HXg3.out.bel hb)
  replace HXg5 : Hid (InAt V7 g5 40 d (a : Int) (b : Int) n) := Lib.hid (HXg5.out.bel hb)
  replace HXg6 : Hid (HAt V7 g6 (fun _ => 0)) := Lib.hid (HXg6.out.bel hb)
  replace HXg7 : Hid (EfAt V7 g7 e0) := Lib.hid (HXg7.out.bel hb)
  replace HXg8 : Hid (OwnAt V7 g8 ((bits .and .i64 y bt))) := Lib.hid (HXg8.out.bel hb)
  clear hb
  try simp only [Act.put, la, lz, ls]
  refine wpList_call rfl (f := 38) (args := #[hv h2, .int .i64 4]) (v := hv h3) (by kernel_rfl) (goBy_lit HP3.out _) ?_
  intro V8 hb
  replace HB : Hid (Bel w V8) := Lib.hid (HB.out.trans hb)
  replace HXg3 : Hid (HAt V8 g3 h) := Lib.hid (HXg3.out.bel hb)
  replace HXg5 : Hid (InAt V8 g5 40 d (a : Int) (b : Int) n) := Lib.hid (HXg5.out.bel hb)
  replace HXg6 : Hid (HAt V8 g6 (fun _ => 0)) := Lib.hid (HXg6.out.bel hb)
  replace HXg7 : Hid (EfAt V8 g7 e0) := Lib.hid (HXg7.out.bel hb)
  replace HXg8 : Hid (OwnAt V8 g8 ((bits .and .i64 y bt))) := Lib.hid (HXg8.out.bel hb)
  clear hb
  try simp only [Act.put, la, lz, ls]
  refine wpList_one rfl (w' := V8) (v := .agg (eC e0)) (by kernel_rfl) ?_
  try simp only [Act.put, la, lz, ls]
  refine wpList_store_row rfl 28 (.tmp 6) (.tmp 57) rfl g6 (hC h3) rfl rfl 28 (hC (fun _ => 0)) HXg6.out (sz_hart _) (by rw [hC_size, hC_size]) (hC_ones _) ?_
  have hn := row_same (cs := (hC h3)) HXg6.out
  have hb := row_bel HB.out (g := g6) (by have := HG.out; have := HG1.out; have := HG2.out; have := HG3.out; have := HG4.out; omega) (hC h3)
  have hg3 := (setRow_other V8 g6 g3 (hC h3) (by have := HG.out; have := HG1.out; have := HG2.out; have := HG3.out; have := HG4.out; omega)).trans HXg3.out
  have hg5 := (setRow_other V8 g6 g5 (hC h3) (by have := HG.out; have := HG1.out; have := HG2.out; have := HG3.out; have := HG4.out; omega)).trans HXg5.out
  have hg7 := (setRow_other V8 g6 g7 (hC h3) (by have := HG.out; have := HG1.out; have := HG2.out; have := HG3.out; have := HG4.out; omega)).trans HXg7.out
  have hg8 := (setRow_other V8 g6 g8 (hC h3) (by have := HG.out; have := HG1.out; have := HG2.out; have := HG3.out; have := HG4.out; omega)).trans HXg8.out
  generalize V8.setRow g6 (hC h3) = V9 at hn hb hg3 hg5 hg7 hg8 ⊢
  clear HB HXg3 HXg5 HXg6 HXg7 HXg8
  have HB : Hid (Bel w V9) := Lib.hid hb
  have HXg3 : Hid (HAt V9 g3 h) := Lib.hid hg3
  have HXg5 : Hid (InAt V9 g5 40 d (a : Int) (b : Int) n) := Lib.hid hg5
  have HXg7 : Hid (EfAt V9 g7 e0) := Lib.hid hg7
  have HXg8 : Hid (OwnAt V9 g8 ((bits .and .i64 y bt))) := Lib.hid hg8
  have HXg6 : Hid (HAt V9 g6 h3) := Lib.hid hn
  clear hn hb hg3 hg5 hg7 hg8
  try simp only [Act.put, la, lz, ls]
  refine wpList_store_row rfl 34 (.tmp 7) (.tmp 58) rfl g7 (eC e0) rfl rfl 34 (eC e0) HXg7.out (sz_eff _) rfl (eC_ones _) ?_
  have hn := row_same (cs := (eC e0)) HXg7.out
  have hb := row_bel HB.out (g := g7) (by have := HG.out; have := HG1.out; have := HG2.out; have := HG3.out; have := HG4.out; omega) (eC e0)
  have hg3 := (setRow_other V9 g7 g3 (eC e0) (by have := HG.out; have := HG1.out; have := HG2.out; have := HG3.out; have := HG4.out; omega)).trans HXg3.out
  have hg5 := (setRow_other V9 g7 g5 (eC e0) (by have := HG.out; have := HG1.out; have := HG2.out; have := HG3.out; have := HG4.out; omega)).trans HXg5.out
  have hg6 := (setRow_other V9 g7 g6 (eC e0) (by have := HG.out; have := HG1.out; have := HG2.out; have := HG3.out; have := HG4.out; omega)).trans HXg6.out
  have hg8 := (setRow_other V9 g7 g8 (eC e0) (by have := HG.out; have := HG1.out; have := HG2.out; have := HG3.out; have := HG4.out; omega)).trans HXg8.out
  generalize V9.setRow g7 (eC e0) = V10 at hn hb hg3 hg5 hg6 hg8 ⊢
  clear HB HXg3 HXg5 HXg6 HXg7 HXg8
  have HB : Hid (Bel w V10) := Lib.hid hb
  have HXg3 : Hid (HAt V10 g3 h) := Lib.hid hg3
  have HXg5 : Hid (InAt V10 g5 40 d (a : Int) (b : Int) n) := Lib.hid hg5
  have HXg6 : Hid (HAt V10 g6 h3) := Lib.hid hg6
  have HXg8 : Hid (OwnAt V10 g8 ((bits .and .i64 y bt))) := Lib.hid hg8
  have HXg7 : Hid (EfAt V10 g7 e0) := Lib.hid hn
  clear hn hb hg3 hg5 hg6 hg8
  try simp only [Act.put, la, lz, ls]
  refine wpList_nil ?_
  refine hK _ _ (wp_ret ?_)
  exact bodyPost_ret (results_cells2 Tryd.results36 _ _ g6 g7 _ _ _ _ _ _ _ _ (by rfl) (by rfl) HXg6.out HXg7.out Tryd.underlying28 rfl (sz_hart _) Tryd.underlying34 rfl (sz_eff _)) (by rfl) ⟨rfl, HB.out⟩
theorem csr_41 {h h1 h2 h3 : H} {a b : Nat} {d n m x y bt z id : Int} (ha : a < 32) (hm : wrap32 id = m) {k : Nat} (hk : k < 39) (hc : ∀ (g g2 : Nat) (w : World), Calls Tryd.prog 61 #[.pointer (some ⟨g, 0, none⟩), .pointer (some ⟨g2, 0, none⟩), .int .i64 n] w (OneV (.tuple #[.pointer (some ⟨g, k, none⟩), .int .i64 bt]) w)) (hx : h k = x) (hy : h a = y) (e1 : up h k (bits .and .i64 (bits .or .i64 x y) bt) = h1) (e2 : put h1 d x = h2) (e3 : Ht.go h2 4 = h3) (w : World) : Calls Tryd.prog 36 #[hv h, .int .i64 id, iv 41 d (a : Int) (b : Int) n] w (OneV (.tuple #[hv h3, .agg (eC e0)]) w) := by
  have HM := Lib.hid hm
  have HC := Lib.hid hc
  have HP2 := Lib.hid e2
  have HP3 := Lib.hid e3
  have HZ1 := Lib.hid e1
  clear e1
  clear hm hc e2 e3
  have hz := zero_hart
  go_enter Tryd.func36, Tryd.ntmps36
  go_upto_region 1 with (fail)
  obtain ⟨W0, hW, hb, hx3, hx5, hx6, hx7⟩ := boxes4 w (hC h) (iC 41 d (a : Int) (b : Int) n) hZ (eC e0) 28 24 28 34
  first | rw [← hW] | (show Code.wp _ _ _ _ ((((w.alloc (.cells (hC h) 28)).alloc (.cells (iC 41 d (a : Int) (b : Int) n) 24)).alloc (.cells hZ 28)).alloc (.cells (eC e0) 34)); rw [← hW])
  clear hz hW
  have hlt : w.heap.size < W0.heap.size := lt_of_heap hx3
  generalize hg : w.heap.size = g3 at hx3 hx5 hx6 hx7 hlt ⊢
  have HG := Lib.hid hg
  clear hg
  generalize hg : g3 + 1 = g5 at hx5 hx6 hx7 ⊢
  have HG1 := Lib.hid hg
  clear hg
  generalize hg : g5 + 1 = g6 at hx6 hx7 ⊢
  have HG2 := Lib.hid hg
  clear hg
  generalize hg : g6 + 1 = g7 at hx7 ⊢
  have HG3 := Lib.hid hg
  clear hg
  have HXg3 : Hid (HAt W0 g3 h) := Lib.hid hx3
  have HXg5 : Hid (InAt W0 g5 41 d (a : Int) (b : Int) n) := Lib.hid hx5
  have HXg6 : Hid (HAt W0 g6 (fun _ => 0)) := Lib.hid hx6
  have HXg7 : Hid (EfAt W0 g7 e0) := Lib.hid hx7
  have HB : Hid (Bel w W0) := Lib.hid hb
  clear hb hlt hx3 hx5 hx6 hx7
  rename_i K hK
  refine wp_region_list ?_
  refine wpList_one rfl (w' := W0) (v := .int .i64 id) rfl ?_
  try simp only [Act.put, la, lz, ls]
  refine wpList_call rfl (f := 27) (args := #[.int .i64 id]) (v := .int .i64 m) (by kernel_rfl) (wl HM.out _) ?_
  intro V1 hb
  replace HB : Hid (Bel w V1) := Lib.hid (HB.out.trans hb)
  replace HXg3 : Hid (HAt V1 g3 h) := Lib.hid (HXg3.out.bel hb)
  replace HXg5 : Hid (InAt V1 g5 41 d (a : Int) (b : Int) n) := Lib.hid (HXg5.out.bel hb)
  replace HXg6 : Hid (HAt V1 g6 (fun _ => 0)) := Lib.hid (HXg6.out.bel hb)
  replace HXg7 : Hid (EfAt V1 g7 e0) := Lib.hid (HXg7.out.bel hb)
  clear hb
  try simp only [Act.put, la, lz, ls]
  obtain ⟨hb, hx⟩ := box1 V1 #[.int .i64 0] 3
  refine wpList_one rfl (w' := V1.alloc (.cells #[.int .i64 0] 3)) (v := .pointer (some ⟨V1.heap.size, 0, none⟩)) (by kernel_rfl) ?_
  try simp only [Act.put, la, lz, ls]
  have hl7 := lt_of_heap HXg7.out
  generalize V1.alloc (.cells #[.int .i64 0] 3) = V2 at hb hx ⊢
  generalize V1.heap.size = g8 at hx hl7 ⊢
  have HG4 : Hid (g7 < g8) := Lib.hid hl7
  clear hl7
  replace HB : Hid (Bel w V2) := Lib.hid (HB.out.trans hb)
  replace HXg3 : Hid (HAt V2 g3 h) := Lib.hid (HXg3.out.bel hb)
  replace HXg5 : Hid (InAt V2 g5 41 d (a : Int) (b : Int) n) := Lib.hid (HXg5.out.bel hb)
  replace HXg6 : Hid (HAt V2 g6 (fun _ => 0)) := Lib.hid (HXg6.out.bel hb)
  replace HXg7 : Hid (EfAt V2 g7 e0) := Lib.hid (HXg7.out.bel hb)
  have HXg8 : Hid (OwnAt V2 g8 0) := Lib.hid hx
  clear hb hx
  refine wpList_store_cell rfl 3 (.tmp 8) (.tmp 14) rfl g8 0 rfl (.int .i64 m) rfl HXg8.out.cell (HXg8.out.frozen 0) sz_int rfl ?_
  have hn := HXg8.out.set (m)
  have hb := (Svg.set g8 0 V2 (.int .i64 (m))).bel HB.out (by have := HG.out; have := HG1.out; have := HG2.out; have := HG3.out; have := HG4.out; omega)
  have hg3 := ((Svg.set g8 0 V2 (.int .i64 (m))).block g3 (lt_of_heap HXg3.out) (by have := HG.out; have := HG1.out; have := HG2.out; have := HG3.out; have := HG4.out; omega)).trans HXg3.out
  have hg5 := ((Svg.set g8 0 V2 (.int .i64 (m))).block g5 (lt_of_heap HXg5.out) (by have := HG.out; have := HG1.out; have := HG2.out; have := HG3.out; have := HG4.out; omega)).trans HXg5.out
  have hg6 := ((Svg.set g8 0 V2 (.int .i64 (m))).block g6 (lt_of_heap HXg6.out) (by have := HG.out; have := HG1.out; have := HG2.out; have := HG3.out; have := HG4.out; omega)).trans HXg6.out
  have hg7 := ((Svg.set g8 0 V2 (.int .i64 (m))).block g7 (lt_of_heap HXg7.out) (by have := HG.out; have := HG1.out; have := HG2.out; have := HG3.out; have := HG4.out; omega)).trans HXg7.out
  generalize V2.setCell ⟨g8, 0, none⟩ (.int .i64 (m)) = V3 at hn hb hg3 hg5 hg6 hg7  ⊢
  clear HB HXg3 HXg5 HXg6 HXg7 HXg8
  have HB : Hid (Bel w V3) := Lib.hid hb
  have HXg3 : Hid (HAt V3 g3 h) := Lib.hid hg3
  have HXg5 : Hid (InAt V3 g5 41 d (a : Int) (b : Int) n) := Lib.hid hg5
  have HXg6 : Hid (HAt V3 g6 (fun _ => 0)) := Lib.hid hg6
  have HXg7 : Hid (EfAt V3 g7 e0) := Lib.hid hg7
  have HXg8 : Hid (OwnAt V3 g8 (m)) := Lib.hid hn
  clear hn hb hg3 hg5 hg6 hg7
  try simp only [Act.put, la, lz, ls]
  refine wpList_nil ?_
  refine hK _ _ ?_
  clear hK K
  go_upto_region 2 with (fail)
  rename_i K hK
  refine wp_region_list ?_
  refine wpList_one rfl (w' := V3) (v := .pointer (some ⟨g5, 4, none⟩)) (by kernel_rfl) ?_
  try simp only [Act.put, la, lz, ls]
  refine wpList_load_cell rfl 3 (.tmp 16) rfl ⟨g5, 4, none⟩ rfl (.int .i64 n) _ HXg5.out.cells.2.2.2.2 Tryd.underlying3 rfl ?_
  try simp only [Act.put, la, lz, ls]
  refine wpList_call rfl (f := 61) (args := #[.pointer (some ⟨g3, 0, none⟩), .pointer (some ⟨g8, 0, none⟩), .int .i64 n]) (v := .tuple #[.pointer (some ⟨g3, k, none⟩), .int .i64 bt]) (by kernel_rfl) (HC.out _ _ _) ?_
  intro V4 hb
  replace HB : Hid (Bel w V4) := Lib.hid (HB.out.trans hb)
  replace HXg3 : Hid (HAt V4 g3 h) := Lib.hid (HXg3.out.bel hb)
  replace HXg5 : Hid (InAt V4 g5 41 d (a : Int) (b : Int) n) := Lib.hid (HXg5.out.bel hb)
  replace HXg6 : Hid (HAt V4 g6 (fun _ => 0)) := Lib.hid (HXg6.out.bel hb)
  replace HXg7 : Hid (EfAt V4 g7 e0) := Lib.hid (HXg7.out.bel hb)
  replace HXg8 : Hid (OwnAt V4 g8 (m)) := Lib.hid (HXg8.out.bel hb)
  clear hb
  try simp only [Act.put, la, lz, ls]
  refine wpList_one rfl (w' := V4) (v := .tuple #[.pointer (some ⟨g3, k, none⟩), .int .i64 bt]) rfl ?_
  try simp only [Act.put, la, lz, ls]
  refine wpList_one rfl (w' := V4) (v := .pointer (some ⟨g3, k, none⟩)) rfl ?_
  try simp only [Act.put, la, lz, ls]
  refine wpList_one rfl (w' := V4) (v := .int .i64 bt) rfl ?_
  try simp only [Act.put, la, lz, ls]
  refine wpList_one rfl (w' := V4) (v := .pointer (some ⟨g3, k, none⟩)) rfl ?_
  try simp only [Act.put, la, lz, ls]
  refine wpList_one rfl (w' := V4) (v := .int .i64 bt) rfl ?_
  try simp only [Act.put, la, lz, ls]
  refine wpList_nil ?_
  refine hK _ _ ?_
  clear hK K
  go_upto_region 5 with (fail)
  rename_i K hK
  refine Upto.begin (z := 9) (T := fun w' => w'.cell? ⟨g3, k, none⟩ = some (.int .i64 (h k)) ∧ w'.cell? ⟨g3, a, none⟩ = some (.int .i64 (h a)) ∧ InAt w' g5 41 d (a : Int) (b : Int) n) (by kernel_rfl) ?_
  have hb : Bel V4 V4.drew := (Bel.refl V4).drew
  generalize V4.drew = V5 at hb ⊢
  replace HB : Hid (Bel w V5) := Lib.hid (HB.out.trans hb)
  replace HXg3 : Hid (HAt V5 g3 h) := Lib.hid (HXg3.out.bel hb)
  replace HXg5 : Hid (InAt V5 g5 41 d (a : Int) (b : Int) n) := Lib.hid (HXg5.out.bel hb)
  replace HXg6 : Hid (HAt V5 g6 (fun _ => 0)) := Lib.hid (HXg6.out.bel hb)
  replace HXg7 : Hid (EfAt V5 g7 e0) := Lib.hid (HXg7.out.bel hb)
  replace HXg8 : Hid (OwnAt V5 g8 (m)) := Lib.hid (HXg8.out.bel hb)
  clear hb
  have hT : V5.cell? ⟨g3, k, none⟩ = some (.int .i64 (h k)) ∧ V5.cell? ⟨g3, a, none⟩ = some (.int .i64 (h a)) ∧ InAt V5 g5 41 d (a : Int) (b : Int) n := ⟨HXg3.out.cell (j := k) (by omega), HXg3.out.cell (j := a) (by omega), HXg5.out⟩
  refine takeU 27 (i := 0) (v := .pointer (some ⟨g3, k, none⟩)) rfl rfl rfl (by kernel_rfl) (by kernel_rfl) (by kernel_rfl) (by kernel_rfl) (fun _ _ _ h => h) (by kernel_rfl) (fun w0 hS => rfl) hT ?_
  try simp only [la, lz, ls]
  refine takeU 28 (i := 1) (v := .pointer (some ⟨g3, k, none⟩)) rfl rfl rfl (by kernel_rfl) (by kernel_rfl) (by kernel_rfl) (by kernel_rfl) (fun _ _ _ h => h) (by kernel_rfl) (fun w0 hS => (by kernel_rfl)) hT ?_
  try simp only [la, lz, ls]
  refine takeU 29 (i := 2) (v := .int .i64 (h k)) rfl rfl rfl (by kernel_rfl) (by kernel_rfl) (by kernel_rfl) (by kernel_rfl) (fun _ _ _ h => h) (by kernel_rfl) (fun w0 hS => (exec_cell 3 (.tmp 28) rfl ⟨g3, k, none⟩ rfl _ _ hS.1 Tryd.underlying3 rfl)) hT ?_
  try simp only [la, lz, ls]
  refine takeU 30 (i := 3) (v := .pointer (some ⟨g5, 2, none⟩)) rfl rfl rfl (by kernel_rfl) (by kernel_rfl) (by kernel_rfl) (by kernel_rfl) (fun _ _ _ h => h) (by kernel_rfl) (fun w0 hS => (by kernel_rfl)) hT ?_
  try simp only [la, lz, ls]
  refine takeU 31 (i := 4) (v := .int .i64 (a : Int)) rfl rfl rfl (by kernel_rfl) (by kernel_rfl) (by kernel_rfl) (by kernel_rfl) (fun _ _ _ h => h) (by kernel_rfl) (fun w0 hS => (exec_cell 3 (.tmp 30) rfl ⟨g5, 2, none⟩ rfl _ _ (hS.2.2).cells.2.2.1 Tryd.underlying3 rfl)) hT ?_
  try simp only [la, lz, ls]
  refine takeU 32 (i := 5) (v := .pointer (some ⟨g3, 0, none⟩)) rfl rfl rfl (by kernel_rfl) (by kernel_rfl) (by kernel_rfl) (by kernel_rfl) (fun _ _ _ h => h) (by kernel_rfl) (fun w0 hS => (by kernel_rfl)) hT ?_
  try simp only [la, lz, ls]
  refine takeU 33 (i := 6) (v := .pointer (some ⟨g3, a, none⟩)) rfl rfl rfl (by kernel_rfl) (by kernel_rfl) (by kernel_rfl) (by kernel_rfl) (fun _ _ _ h => h) (by kernel_rfl) (fun w0 hS => (exec_reg rfl g3 a (by omega) rfl rfl _)) hT ?_
  try simp only [la, lz, ls]
  refine takeU 34 (i := 7) (v := .int .i64 (h a)) rfl rfl rfl (by kernel_rfl) (by kernel_rfl) (by kernel_rfl) (by kernel_rfl) (fun _ _ _ h => h) (by kernel_rfl) (fun w0 hS => (exec_cell 3 (.tmp 33) rfl ⟨g3, a, none⟩ rfl _ _ hS.2.1 Tryd.underlying3 rfl)) hT ?_
  try simp only [la, lz, ls]
  refine takeU 11 (i := 8) (v := .int .i64 (h k)) rfl rfl rfl (by kernel_rfl) (by kernel_rfl) (by kernel_rfl) (by kernel_rfl) (fun _ _ _ h => h) (by kernel_rfl) (fun w0 hS => rfl) hT ?_
  try simp only [la, lz, ls]
  refine pureU 12 (i := 9) rfl rfl (by kernel_rfl) (by kernel_rfl) (v := .int .i64 (h a)) rfl hT ?_
  try simp only [la, lz, ls]
  refine Upto.done (by kernel_rfl) ?_ _
  clear hT
  rw [hx, hy]
  refine hK _ _ ?_
  clear hK K
  have HX1 := Lib.hid hx
  have HY1 := Lib.hid hy
  clear hx hy
  have kg5_0 := HXg5.out.cells.1
  go_upto_region 11 with (fail)
  rename_i K hK
  refine wp_region_list ?_
  refine wpList_one rfl (w' := V5) (v := .pointer (some ⟨g3, k, none⟩)) rfl ?_
  try simp only [Act.put, la, lz, ls]
  refine wpList_one rfl (w' := V5) (v := .int .i64 (bits .or .i64 x y)) rfl ?_
  try simp only [Act.put, la, lz, ls]
  refine wpList_one rfl (w' := V5) (v := .int .i64 bt) rfl ?_
  try simp only [Act.put, la, lz, ls]
  refine wpList_one rfl (w' := V5) (v := .int .i64 (bits .and .i64 (bits .or .i64 x y) bt)) (by kernel_rfl) ?_
  try simp only [Act.put, la, lz, ls]
  refine wpList_one rfl (w' := V5) (v := .pointer (some ⟨g3, k, none⟩)) (by kernel_rfl) ?_
  try simp only [Act.put, la, lz, ls]
  refine wpList_store_cell rfl 3 (.tmp 51) (.tmp 50) rfl g3 k rfl (.int .i64 (bits .and .i64 (bits .or .i64 x y) bt)) rfl (HXg3.out.cell (j := k) (by omega)) (HXg3.out.frozen k) sz_int rfl ?_
  have hn := HXg3.out.set (j := k) (by omega) ((bits .and .i64 (bits .or .i64 x y) bt))
  have hb := (Svg.set g3 k V5 (.int .i64 ((bits .and .i64 (bits .or .i64 x y) bt)))).bel HB.out (by have := HG.out; have := HG1.out; have := HG2.out; have := HG3.out; have := HG4.out; omega)
  have hg5 := ((Svg.set g3 k V5 (.int .i64 ((bits .and .i64 (bits .or .i64 x y) bt)))).block g5 (lt_of_heap HXg5.out) (by have := HG.out; have := HG1.out; have := HG2.out; have := HG3.out; have := HG4.out; omega)).trans HXg5.out
  have hg6 := ((Svg.set g3 k V5 (.int .i64 ((bits .and .i64 (bits .or .i64 x y) bt)))).block g6 (lt_of_heap HXg6.out) (by have := HG.out; have := HG1.out; have := HG2.out; have := HG3.out; have := HG4.out; omega)).trans HXg6.out
  have hg7 := ((Svg.set g3 k V5 (.int .i64 ((bits .and .i64 (bits .or .i64 x y) bt)))).block g7 (lt_of_heap HXg7.out) (by have := HG.out; have := HG1.out; have := HG2.out; have := HG3.out; have := HG4.out; omega)).trans HXg7.out
  have hg8 := ((Svg.set g3 k V5 (.int .i64 ((bits .and .i64 (bits .or .i64 x y) bt)))).block g8 (lt_of_heap HXg8.out) (by have := HG.out; have := HG1.out; have := HG2.out; have := HG3.out; have := HG4.out; omega)).trans HXg8.out
  generalize V5.setCell ⟨g3, k, none⟩ (.int .i64 ((bits .and .i64 (bits .or .i64 x y) bt))) = V6 at hn hb hg5 hg6 hg7 hg8  ⊢
  clear HB HXg3 HXg5 HXg6 HXg7 HXg8
  have HB : Hid (Bel w V6) := Lib.hid hb
  have HXg5 : Hid (InAt V6 g5 41 d (a : Int) (b : Int) n) := Lib.hid hg5
  have HXg6 : Hid (HAt V6 g6 (fun _ => 0)) := Lib.hid hg6
  have HXg7 : Hid (EfAt V6 g7 e0) := Lib.hid hg7
  have HXg8 : Hid (OwnAt V6 g8 (m)) := Lib.hid hg8
  have HXg3 : Hid (HAt V6 g3 (up h k ((bits .and .i64 (bits .or .i64 x y) bt)))) := Lib.hid hn
  clear hn hb hg5 hg6 hg7 hg8
  try simp only [Act.put, la, lz, ls]
  refine wpList_nil ?_
  refine hK _ _ ?_
  clear hK K
  clear kg5_0
  rw [HZ1.out] at HXg3
  go_upto_region 12 with (fail)
  rename_i K hK
  refine wp_region_list ?_
  refine wpList_load_row rfl 28 (.tmp 3) rfl g3 rfl 28 (hC h1) (0, 0) _ HXg3.out Tryd.underlying28 rfl (sz_hart _) ?_
  try simp only [Act.put, la, lz, ls]
  refine wpList_one rfl (w' := V6) (v := .pointer (some ⟨g5, 1, none⟩)) (by kernel_rfl) ?_
  try simp only [Act.put, la, lz, ls]
  refine wpList_load_cell rfl 3 (.tmp 53) rfl ⟨g5, 1, none⟩ rfl (.int .i64 d) _ HXg5.out.cells.2.1 Tryd.underlying3 rfl ?_
  try simp only [Act.put, la, lz, ls]
  refine wpList_one rfl (w' := V6) (v := .int .i64 x) rfl ?_
  try simp only [Act.put, la, lz, ls]
  refine wpList_call rfl (f := 18) (args := #[hv h1, .int .i64 d, .int .i64 x]) (v := hv h2) (by kernel_rfl) (put_lit HP2.out _) ?_
  intro V7 hb
  replace HB : Hid (Bel w V7) := Lib.hid (HB.out.trans hb)
  replace HXg3 : Hid (HAt V7 g3 h1) := Lib.hid (HXg3.out.bel hb)
  replace HXg5 : Hid (InAt V7 g5 41 d (a : Int) (b : Int) n) := Lib.hid (HXg5.out.bel hb)
  replace HXg6 : Hid (HAt V7 g6 (fun _ => 0)) := Lib.hid (HXg6.out.bel hb)
  replace HXg7 : Hid (EfAt V7 g7 e0) := Lib.hid (HXg7.out.bel hb)
  replace HXg8 : Hid (OwnAt V7 g8 (m)) := Lib.hid (HXg8.out.bel hb)
  clear hb
  try simp only [Act.put, la, lz, ls]
  refine wpList_call rfl (f := 38) (args := #[hv h2, .int .i64 4]) (v := hv h3) (by kernel_rfl) (goBy_lit HP3.out _) ?_
  intro V8 hb
  replace HB : Hid (Bel w V8) := Lib.hid (HB.out.trans hb)
  replace HXg3 : Hid (HAt V8 g3 h1) := Lib.hid (HXg3.out.bel hb)
  replace HXg5 : Hid (InAt V8 g5 41 d (a : Int) (b : Int) n) := Lib.hid (HXg5.out.bel hb)
  replace HXg6 : Hid (HAt V8 g6 (fun _ => 0)) := Lib.hid (HXg6.out.bel hb)
  replace HXg7 : Hid (EfAt V8 g7 e0) := Lib.hid (HXg7.out.bel hb)
  replace HXg8 : Hid (OwnAt V8 g8 (m)) := Lib.hid (HXg8.out.bel hb)
  clear hb
  try simp only [Act.put, la, lz, ls]
  refine wpList_one rfl (w' := V8) (v := .agg (eC e0)) (by kernel_rfl) ?_
  try simp only [Act.put, la, lz, ls]
  refine wpList_store_row rfl 28 (.tmp 6) (.tmp 57) rfl g6 (hC h3) rfl rfl 28 (hC (fun _ => 0)) HXg6.out (sz_hart _) (by rw [hC_size, hC_size]) (hC_ones _) ?_
  have hn := row_same (cs := (hC h3)) HXg6.out
  have hb := row_bel HB.out (g := g6) (by have := HG.out; have := HG1.out; have := HG2.out; have := HG3.out; have := HG4.out; omega) (hC h3)
  have hg3 := (setRow_other V8 g6 g3 (hC h3) (by have := HG.out; have := HG1.out; have := HG2.out; have := HG3.out; have := HG4.out; omega)).trans HXg3.out
  have hg5 := (setRow_other V8 g6 g5 (hC h3) (by have := HG.out; have := HG1.out; have := HG2.out; have := HG3.out; have := HG4.out; omega)).trans HXg5.out
  have hg7 := (setRow_other V8 g6 g7 (hC h3) (by have := HG.out; have := HG1.out; have := HG2.out; have := HG3.out; have := HG4.out; omega)).trans HXg7.out
  have hg8 := (setRow_other V8 g6 g8 (hC h3) (by have := HG.out; have := HG1.out; have := HG2.out; have := HG3.out; have := HG4.out; omega)).trans HXg8.out
  generalize V8.setRow g6 (hC h3) = V9 at hn hb hg3 hg5 hg7 hg8 ⊢
  clear HB HXg3 HXg5 HXg6 HXg7 HXg8
  have HB : Hid (Bel w V9) := Lib.hid hb
  have HXg3 : Hid (HAt V9 g3 h1) := Lib.hid hg3
  have HXg5 : Hid (InAt V9 g5 41 d (a : Int) (b : Int) n) := Lib.hid hg5
  have HXg7 : Hid (EfAt V9 g7 e0) := Lib.hid hg7
  have HXg8 : Hid (OwnAt V9 g8 (m)) := Lib.hid hg8
  have HXg6 : Hid (HAt V9 g6 h3) := Lib.hid hn
  clear hn hb hg3 hg5 hg7 hg8
  try simp only [Act.put, la, lz, ls]
  refine wpList_store_row rfl 34 (.tmp 7) (.tmp 58) rfl g7 (eC e0) rfl rfl 34 (eC e0) HXg7.out (sz_eff _) rfl (eC_ones _) ?_
  have hn := row_same (cs := (eC e0)) HXg7.out
  have hb := row_bel HB.out (g := g7) (by have := HG.out; have := HG1.out; have := HG2.out; have := HG3.out; have := HG4.out; omega) (eC e0)
  have hg3 := (setRow_other V9 g7 g3 (eC e0) (by have := HG.out; have := HG1.out; have := HG2.out; have := HG3.out; have := HG4.out; omega)).trans HXg3.out
  have hg5 := (setRow_other V9 g7 g5 (eC e0) (by have := HG.out; have := HG1.out; have := HG2.out; have := HG3.out; have := HG4.out; omega)).trans HXg5.out
  have hg6 := (setRow_other V9 g7 g6 (eC e0) (by have := HG.out; have := HG1.out; have := HG2.out; have := HG3.out; have := HG4.out; omega)).trans HXg6.out
  have hg8 := (setRow_other V9 g7 g8 (eC e0) (by have := HG.out; have := HG1.out; have := HG2.out; have := HG3.out; have := HG4.out; omega)).trans HXg8.out
  generalize V9.setRow g7 (eC e0) = V10 at hn hb hg3 hg5 hg6 hg8 ⊢
  clear HB HXg3 HXg5 HXg6 HXg7 HXg8
  have HB : Hid (Bel w V10) := Lib.hid hb
  have HXg3 : Hid (HAt V10 g3 h1) := Lib.hid hg3
  have HXg5 : Hid (InAt V10 g5 41 d (a : Int) (b : Int) n) := Lib.hid hg5
  have HXg6 : Hid (HAt V10 g6 h3) := Lib.hid hg6
  have HXg8 : Hid (OwnAt V10 g8 (m)) := Lib.hid hg8
  have HXg7 : Hid (EfAt V10 g7 e0) := Lib.hid hn
  clear hn hb hg3 hg5 hg6 hg8
  try simp only [Act.put, la, lz, ls]
  refine wpList_nil ?_
  refine hK _ _ (wp_ret ?_)
  exact bodyPost_ret (results_cells2 Tryd.results36 _ _ g6 g7 _ _ _ _ _ _ _ _ (by rfl) (by rfl) HXg6.out HXg7.out Tryd.underlying28 rfl (sz_hart _) Tryd.underlying34 rfl (sz_eff _)) (by rfl) ⟨rfl, HB.out⟩
theorem own_41 {h h1 h2 h3 : H} {a b : Nat} {d n m x y bt z id : Int} (ha : a < 32) (hm : wrap32 id = m)  (hc : ∀ (g g2 : Nat) (w : World), Calls Tryd.prog 61 #[.pointer (some ⟨g, 0, none⟩), .pointer (some ⟨g2, 0, none⟩), .int .i64 n] w (OneV (.tuple #[.pointer (some ⟨g2, 0, none⟩), .int .i64 bt]) w)) (hx : h 0 = x) (hy : h a = y) (e2 : put h d m = h2) (e3 : Ht.go h2 4 = h3) (w : World) : Calls Tryd.prog 36 #[hv h, .int .i64 id, iv 41 d (a : Int) (b : Int) n] w (OneV (.tuple #[hv h3, .agg (eC e0)]) w) := by
  have HM := Lib.hid hm
  have HC := Lib.hid hc
  have HP2 := Lib.hid e2
  have HP3 := Lib.hid e3
  clear hm hc e2 e3
  have hz := zero_hart
  go_enter Tryd.func36, Tryd.ntmps36
  go_upto_region 1 with (fail)
  obtain ⟨W0, hW, hb, hx3, hx5, hx6, hx7⟩ := boxes4 w (hC h) (iC 41 d (a : Int) (b : Int) n) hZ (eC e0) 28 24 28 34
  first | rw [← hW] | (show Code.wp _ _ _ _ ((((w.alloc (.cells (hC h) 28)).alloc (.cells (iC 41 d (a : Int) (b : Int) n) 24)).alloc (.cells hZ 28)).alloc (.cells (eC e0) 34)); rw [← hW])
  clear hz hW
  have hlt : w.heap.size < W0.heap.size := lt_of_heap hx3
  generalize hg : w.heap.size = g3 at hx3 hx5 hx6 hx7 hlt ⊢
  have HG := Lib.hid hg
  clear hg
  generalize hg : g3 + 1 = g5 at hx5 hx6 hx7 ⊢
  have HG1 := Lib.hid hg
  clear hg
  generalize hg : g5 + 1 = g6 at hx6 hx7 ⊢
  have HG2 := Lib.hid hg
  clear hg
  generalize hg : g6 + 1 = g7 at hx7 ⊢
  have HG3 := Lib.hid hg
  clear hg
  have HXg3 : Hid (HAt W0 g3 h) := Lib.hid hx3
  have HXg5 : Hid (InAt W0 g5 41 d (a : Int) (b : Int) n) := Lib.hid hx5
  have HXg6 : Hid (HAt W0 g6 (fun _ => 0)) := Lib.hid hx6
  have HXg7 : Hid (EfAt W0 g7 e0) := Lib.hid hx7
  have HB : Hid (Bel w W0) := Lib.hid hb
  clear hb hlt hx3 hx5 hx6 hx7
  rename_i K hK
  refine wp_region_list ?_
  refine wpList_one rfl (w' := W0) (v := .int .i64 id) rfl ?_
  try simp only [Act.put, la, lz, ls]
  refine wpList_call rfl (f := 27) (args := #[.int .i64 id]) (v := .int .i64 m) (by kernel_rfl) (wl HM.out _) ?_
  intro V1 hb
  replace HB : Hid (Bel w V1) := Lib.hid (HB.out.trans hb)
  replace HXg3 : Hid (HAt V1 g3 h) := Lib.hid (HXg3.out.bel hb)
  replace HXg5 : Hid (InAt V1 g5 41 d (a : Int) (b : Int) n) := Lib.hid (HXg5.out.bel hb)
  replace HXg6 : Hid (HAt V1 g6 (fun _ => 0)) := Lib.hid (HXg6.out.bel hb)
  replace HXg7 : Hid (EfAt V1 g7 e0) := Lib.hid (HXg7.out.bel hb)
  clear hb
  try simp only [Act.put, la, lz, ls]
  obtain ⟨hb, hx⟩ := box1 V1 #[.int .i64 0] 3
  refine wpList_one rfl (w' := V1.alloc (.cells #[.int .i64 0] 3)) (v := .pointer (some ⟨V1.heap.size, 0, none⟩)) (by kernel_rfl) ?_
  try simp only [Act.put, la, lz, ls]
  have hl7 := lt_of_heap HXg7.out
  generalize V1.alloc (.cells #[.int .i64 0] 3) = V2 at hb hx ⊢
  generalize V1.heap.size = g8 at hx hl7 ⊢
  have HG4 : Hid (g7 < g8) := Lib.hid hl7
  clear hl7
  replace HB : Hid (Bel w V2) := Lib.hid (HB.out.trans hb)
  replace HXg3 : Hid (HAt V2 g3 h) := Lib.hid (HXg3.out.bel hb)
  replace HXg5 : Hid (InAt V2 g5 41 d (a : Int) (b : Int) n) := Lib.hid (HXg5.out.bel hb)
  replace HXg6 : Hid (HAt V2 g6 (fun _ => 0)) := Lib.hid (HXg6.out.bel hb)
  replace HXg7 : Hid (EfAt V2 g7 e0) := Lib.hid (HXg7.out.bel hb)
  have HXg8 : Hid (OwnAt V2 g8 0) := Lib.hid hx
  clear hb hx
  refine wpList_store_cell rfl 3 (.tmp 8) (.tmp 14) rfl g8 0 rfl (.int .i64 m) rfl HXg8.out.cell (HXg8.out.frozen 0) sz_int rfl ?_
  have hn := HXg8.out.set (m)
  have hb := (Svg.set g8 0 V2 (.int .i64 (m))).bel HB.out (by have := HG.out; have := HG1.out; have := HG2.out; have := HG3.out; have := HG4.out; omega)
  have hg3 := ((Svg.set g8 0 V2 (.int .i64 (m))).block g3 (lt_of_heap HXg3.out) (by have := HG.out; have := HG1.out; have := HG2.out; have := HG3.out; have := HG4.out; omega)).trans HXg3.out
  have hg5 := ((Svg.set g8 0 V2 (.int .i64 (m))).block g5 (lt_of_heap HXg5.out) (by have := HG.out; have := HG1.out; have := HG2.out; have := HG3.out; have := HG4.out; omega)).trans HXg5.out
  have hg6 := ((Svg.set g8 0 V2 (.int .i64 (m))).block g6 (lt_of_heap HXg6.out) (by have := HG.out; have := HG1.out; have := HG2.out; have := HG3.out; have := HG4.out; omega)).trans HXg6.out
  have hg7 := ((Svg.set g8 0 V2 (.int .i64 (m))).block g7 (lt_of_heap HXg7.out) (by have := HG.out; have := HG1.out; have := HG2.out; have := HG3.out; have := HG4.out; omega)).trans HXg7.out
  generalize V2.setCell ⟨g8, 0, none⟩ (.int .i64 (m)) = V3 at hn hb hg3 hg5 hg6 hg7  ⊢
  clear HB HXg3 HXg5 HXg6 HXg7 HXg8
  have HB : Hid (Bel w V3) := Lib.hid hb
  have HXg3 : Hid (HAt V3 g3 h) := Lib.hid hg3
  have HXg5 : Hid (InAt V3 g5 41 d (a : Int) (b : Int) n) := Lib.hid hg5
  have HXg6 : Hid (HAt V3 g6 (fun _ => 0)) := Lib.hid hg6
  have HXg7 : Hid (EfAt V3 g7 e0) := Lib.hid hg7
  have HXg8 : Hid (OwnAt V3 g8 (m)) := Lib.hid hn
  clear hn hb hg3 hg5 hg6 hg7
  try simp only [Act.put, la, lz, ls]
  refine wpList_nil ?_
  refine hK _ _ ?_
  clear hK K
  go_upto_region 2 with (fail)
  rename_i K hK
  refine wp_region_list ?_
  refine wpList_one rfl (w' := V3) (v := .pointer (some ⟨g5, 4, none⟩)) (by kernel_rfl) ?_
  try simp only [Act.put, la, lz, ls]
  refine wpList_load_cell rfl 3 (.tmp 16) rfl ⟨g5, 4, none⟩ rfl (.int .i64 n) _ HXg5.out.cells.2.2.2.2 Tryd.underlying3 rfl ?_
  try simp only [Act.put, la, lz, ls]
  refine wpList_call rfl (f := 61) (args := #[.pointer (some ⟨g3, 0, none⟩), .pointer (some ⟨g8, 0, none⟩), .int .i64 n]) (v := .tuple #[.pointer (some ⟨g8, 0, none⟩), .int .i64 bt]) (by kernel_rfl) (HC.out _ _ _) ?_
  intro V4 hb
  replace HB : Hid (Bel w V4) := Lib.hid (HB.out.trans hb)
  replace HXg3 : Hid (HAt V4 g3 h) := Lib.hid (HXg3.out.bel hb)
  replace HXg5 : Hid (InAt V4 g5 41 d (a : Int) (b : Int) n) := Lib.hid (HXg5.out.bel hb)
  replace HXg6 : Hid (HAt V4 g6 (fun _ => 0)) := Lib.hid (HXg6.out.bel hb)
  replace HXg7 : Hid (EfAt V4 g7 e0) := Lib.hid (HXg7.out.bel hb)
  replace HXg8 : Hid (OwnAt V4 g8 (m)) := Lib.hid (HXg8.out.bel hb)
  clear hb
  try simp only [Act.put, la, lz, ls]
  refine wpList_one rfl (w' := V4) (v := .tuple #[.pointer (some ⟨g8, 0, none⟩), .int .i64 bt]) rfl ?_
  try simp only [Act.put, la, lz, ls]
  refine wpList_one rfl (w' := V4) (v := .pointer (some ⟨g8, 0, none⟩)) rfl ?_
  try simp only [Act.put, la, lz, ls]
  refine wpList_one rfl (w' := V4) (v := .int .i64 bt) rfl ?_
  try simp only [Act.put, la, lz, ls]
  refine wpList_one rfl (w' := V4) (v := .pointer (some ⟨g8, 0, none⟩)) rfl ?_
  try simp only [Act.put, la, lz, ls]
  refine wpList_one rfl (w' := V4) (v := .int .i64 bt) rfl ?_
  try simp only [Act.put, la, lz, ls]
  refine wpList_nil ?_
  refine hK _ _ ?_
  clear hK K
  go_upto_region 5 with (fail)
  rename_i K hK
  refine Upto.begin (z := 9) (T := fun w' => w'.cell? ⟨g8, 0, none⟩ = some (.int .i64 (m)) ∧ w'.cell? ⟨g3, a, none⟩ = some (.int .i64 (h a)) ∧ InAt w' g5 41 d (a : Int) (b : Int) n) (by kernel_rfl) ?_
  have hb : Bel V4 V4.drew := (Bel.refl V4).drew
  generalize V4.drew = V5 at hb ⊢
  replace HB : Hid (Bel w V5) := Lib.hid (HB.out.trans hb)
  replace HXg3 : Hid (HAt V5 g3 h) := Lib.hid (HXg3.out.bel hb)
  replace HXg5 : Hid (InAt V5 g5 41 d (a : Int) (b : Int) n) := Lib.hid (HXg5.out.bel hb)
  replace HXg6 : Hid (HAt V5 g6 (fun _ => 0)) := Lib.hid (HXg6.out.bel hb)
  replace HXg7 : Hid (EfAt V5 g7 e0) := Lib.hid (HXg7.out.bel hb)
  replace HXg8 : Hid (OwnAt V5 g8 (m)) := Lib.hid (HXg8.out.bel hb)
  clear hb
  have hT : V5.cell? ⟨g8, 0, none⟩ = some (.int .i64 (m)) ∧ V5.cell? ⟨g3, a, none⟩ = some (.int .i64 (h a)) ∧ InAt V5 g5 41 d (a : Int) (b : Int) n := ⟨HXg8.out.cell, HXg3.out.cell (j := a) (by omega), HXg5.out⟩
  refine takeU 27 (i := 0) (v := .pointer (some ⟨g8, 0, none⟩)) rfl rfl rfl (by kernel_rfl) (by kernel_rfl) (by kernel_rfl) (by kernel_rfl) (fun _ _ _ h => h) (by kernel_rfl) (fun w0 hS => rfl) hT ?_
  try simp only [la, lz, ls]
  refine takeU 28 (i := 1) (v := .pointer (some ⟨g8, 0, none⟩)) rfl rfl rfl (by kernel_rfl) (by kernel_rfl) (by kernel_rfl) (by kernel_rfl) (fun _ _ _ h => h) (by kernel_rfl) (fun w0 hS => (by kernel_rfl)) hT ?_
  try simp only [la, lz, ls]
  refine takeU 29 (i := 2) (v := .int .i64 (m)) rfl rfl rfl (by kernel_rfl) (by kernel_rfl) (by kernel_rfl) (by kernel_rfl) (fun _ _ _ h => h) (by kernel_rfl) (fun w0 hS => (exec_cell 3 (.tmp 28) rfl ⟨g8, 0, none⟩ rfl _ _ hS.1 Tryd.underlying3 rfl)) hT ?_
  try simp only [la, lz, ls]
  refine takeU 30 (i := 3) (v := .pointer (some ⟨g5, 2, none⟩)) rfl rfl rfl (by kernel_rfl) (by kernel_rfl) (by kernel_rfl) (by kernel_rfl) (fun _ _ _ h => h) (by kernel_rfl) (fun w0 hS => (by kernel_rfl)) hT ?_
  try simp only [la, lz, ls]
  refine takeU 31 (i := 4) (v := .int .i64 (a : Int)) rfl rfl rfl (by kernel_rfl) (by kernel_rfl) (by kernel_rfl) (by kernel_rfl) (fun _ _ _ h => h) (by kernel_rfl) (fun w0 hS => (exec_cell 3 (.tmp 30) rfl ⟨g5, 2, none⟩ rfl _ _ (hS.2.2).cells.2.2.1 Tryd.underlying3 rfl)) hT ?_
  try simp only [la, lz, ls]
  refine takeU 32 (i := 5) (v := .pointer (some ⟨g3, 0, none⟩)) rfl rfl rfl (by kernel_rfl) (by kernel_rfl) (by kernel_rfl) (by kernel_rfl) (fun _ _ _ h => h) (by kernel_rfl) (fun w0 hS => (by kernel_rfl)) hT ?_
  try simp only [la, lz, ls]
  refine takeU 33 (i := 6) (v := .pointer (some ⟨g3, a, none⟩)) rfl rfl rfl (by kernel_rfl) (by kernel_rfl) (by kernel_rfl) (by kernel_rfl) (fun _ _ _ h => h) (by kernel_rfl) (fun w0 hS => (exec_reg rfl g3 a (by omega) rfl rfl _)) hT ?_
  try simp only [la, lz, ls]
  refine takeU 34 (i := 7) (v := .int .i64 (h a)) rfl rfl rfl (by kernel_rfl) (by kernel_rfl) (by kernel_rfl) (by kernel_rfl) (fun _ _ _ h => h) (by kernel_rfl) (fun w0 hS => (exec_cell 3 (.tmp 33) rfl ⟨g3, a, none⟩ rfl _ _ hS.2.1 Tryd.underlying3 rfl)) hT ?_
  try simp only [la, lz, ls]
  refine takeU 11 (i := 8) (v := .int .i64 (m)) rfl rfl rfl (by kernel_rfl) (by kernel_rfl) (by kernel_rfl) (by kernel_rfl) (fun _ _ _ h => h) (by kernel_rfl) (fun w0 hS => rfl) hT ?_
  try simp only [la, lz, ls]
  refine pureU 12 (i := 9) rfl rfl (by kernel_rfl) (by kernel_rfl) (v := .int .i64 (h a)) rfl hT ?_
  try simp only [la, lz, ls]
  refine Upto.done (by kernel_rfl) ?_ _
  clear hT
  rw [hy]
  refine hK _ _ ?_
  clear hK K
  have HX1 := Lib.hid hx
  have HY1 := Lib.hid hy
  clear hx hy
  have kg5_0 := HXg5.out.cells.1
  go_upto_region 11 with (fail)
  rename_i K hK
  refine wp_region_list ?_
  refine wpList_one rfl (w' := V5) (v := .pointer (some ⟨g8, 0, none⟩)) rfl ?_
  try simp only [Act.put, la, lz, ls]
  refine wpList_one rfl (w' := V5) (v := .int .i64 (bits .or .i64 m y)) rfl ?_
  try simp only [Act.put, la, lz, ls]
  refine wpList_one rfl (w' := V5) (v := .int .i64 bt) rfl ?_
  try simp only [Act.put, la, lz, ls]
  refine wpList_one rfl (w' := V5) (v := .int .i64 (bits .and .i64 (bits .or .i64 m y) bt)) (by kernel_rfl) ?_
  try simp only [Act.put, la, lz, ls]
  refine wpList_one rfl (w' := V5) (v := .pointer (some ⟨g8, 0, none⟩)) (by kernel_rfl) ?_
  try simp only [Act.put, la, lz, ls]
  refine wpList_store_cell rfl 3 (.tmp 51) (.tmp 50) rfl g8 0 rfl (.int .i64 (bits .and .i64 (bits .or .i64 m y) bt)) rfl HXg8.out.cell (HXg8.out.frozen 0) sz_int rfl ?_
  have hn := HXg8.out.set ((bits .and .i64 (bits .or .i64 m y) bt))
  have hb := (Svg.set g8 0 V5 (.int .i64 ((bits .and .i64 (bits .or .i64 m y) bt)))).bel HB.out (by have := HG.out; have := HG1.out; have := HG2.out; have := HG3.out; have := HG4.out; omega)
  have hg3 := ((Svg.set g8 0 V5 (.int .i64 ((bits .and .i64 (bits .or .i64 m y) bt)))).block g3 (lt_of_heap HXg3.out) (by have := HG.out; have := HG1.out; have := HG2.out; have := HG3.out; have := HG4.out; omega)).trans HXg3.out
  have hg5 := ((Svg.set g8 0 V5 (.int .i64 ((bits .and .i64 (bits .or .i64 m y) bt)))).block g5 (lt_of_heap HXg5.out) (by have := HG.out; have := HG1.out; have := HG2.out; have := HG3.out; have := HG4.out; omega)).trans HXg5.out
  have hg6 := ((Svg.set g8 0 V5 (.int .i64 ((bits .and .i64 (bits .or .i64 m y) bt)))).block g6 (lt_of_heap HXg6.out) (by have := HG.out; have := HG1.out; have := HG2.out; have := HG3.out; have := HG4.out; omega)).trans HXg6.out
  have hg7 := ((Svg.set g8 0 V5 (.int .i64 ((bits .and .i64 (bits .or .i64 m y) bt)))).block g7 (lt_of_heap HXg7.out) (by have := HG.out; have := HG1.out; have := HG2.out; have := HG3.out; have := HG4.out; omega)).trans HXg7.out
  generalize V5.setCell ⟨g8, 0, none⟩ (.int .i64 ((bits .and .i64 (bits .or .i64 m y) bt))) = V6 at hn hb hg3 hg5 hg6 hg7  ⊢
  clear HB HXg3 HXg5 HXg6 HXg7 HXg8
  have HB : Hid (Bel w V6) := Lib.hid hb
  have HXg3 : Hid (HAt V6 g3 h) := Lib.hid hg3
  have HXg5 : Hid (InAt V6 g5 41 d (a : Int) (b : Int) n) := Lib.hid hg5
  have HXg6 : Hid (HAt V6 g6 (fun _ => 0)) := Lib.hid hg6
  have HXg7 : Hid (EfAt V6 g7 e0) := Lib.hid hg7
  have HXg8 : Hid (OwnAt V6 g8 ((bits .and .i64 (bits .or .i64 m y) bt))) := Lib.hid hn
  clear hn hb hg3 hg5 hg6 hg7
  try simp only [Act.put, la, lz, ls]
  refine wpList_nil ?_
  refine hK _ _ ?_
  clear hK K
  clear kg5_0
  go_upto_region 12 with (fail)
  rename_i K hK
  refine wp_region_list ?_
  refine wpList_load_row rfl 28 (.tmp 3) rfl g3 rfl 28 (hC h) (0, 0) _ HXg3.out Tryd.underlying28 rfl (sz_hart _) ?_
  try simp only [Act.put, la, lz, ls]
  refine wpList_one rfl (w' := V6) (v := .pointer (some ⟨g5, 1, none⟩)) (by kernel_rfl) ?_
  try simp only [Act.put, la, lz, ls]
  refine wpList_load_cell rfl 3 (.tmp 53) rfl ⟨g5, 1, none⟩ rfl (.int .i64 d) _ HXg5.out.cells.2.1 Tryd.underlying3 rfl ?_
  try simp only [Act.put, la, lz, ls]
  refine wpList_one rfl (w' := V6) (v := .int .i64 m) rfl ?_
  try simp only [Act.put, la, lz, ls]
  refine wpList_call rfl (f := 18) (args := #[hv h, .int .i64 d, .int .i64 m]) (v := hv h2) (by kernel_rfl) (put_lit HP2.out _) ?_
  intro V7 hb
  replace HB : Hid (Bel w V7) := Lib.hid (HB.out.trans hb)
  replace HXg3 : Hid (HAt V7 g3 h) := Lib.hid (HXg3.out.bel hb)
  replace HXg5 : Hid (InAt V7 g5 41 d (a : Int) (b : Int) n) := Lib.hid (HXg5.out.bel hb)
  replace HXg6 : Hid (HAt V7 g6 (fun _ => 0)) := Lib.hid (HXg6.out.bel hb)
  replace HXg7 : Hid (EfAt V7 g7 e0) := Lib.hid (HXg7.out.bel hb)
  replace HXg8 : Hid (OwnAt V7 g8 ((bits .and .i64 (bits .or .i64 m y) bt))) := Lib.hid (HXg8.out.bel hb)
  clear hb
  try simp only [Act.put, la, lz, ls]
  refine wpList_call rfl (f := 38) (args := #[hv h2, .int .i64 4]) (v := hv h3) (by kernel_rfl) (goBy_lit HP3.out _) ?_
  intro V8 hb
  replace HB : Hid (Bel w V8) := Lib.hid (HB.out.trans hb)
  replace HXg3 : Hid (HAt V8 g3 h) := Lib.hid (HXg3.out.bel hb)
  replace HXg5 : Hid (InAt V8 g5 41 d (a : Int) (b : Int) n) := Lib.hid (HXg5.out.bel hb)
  replace HXg6 : Hid (HAt V8 g6 (fun _ => 0)) := Lib.hid (HXg6.out.bel hb)
  replace HXg7 : Hid (EfAt V8 g7 e0) := Lib.hid (HXg7.out.bel hb)
  replace HXg8 : Hid (OwnAt V8 g8 ((bits .and .i64 (bits .or .i64 m y) bt))) := Lib.hid (HXg8.out.bel hb)
  clear hb
  try simp only [Act.put, la, lz, ls]
  refine wpList_one rfl (w' := V8) (v := .agg (eC e0)) (by kernel_rfl) ?_
  try simp only [Act.put, la, lz, ls]
  refine wpList_store_row rfl 28 (.tmp 6) (.tmp 57) rfl g6 (hC h3) rfl rfl 28 (hC (fun _ => 0)) HXg6.out (sz_hart _) (by rw [hC_size, hC_size]) (hC_ones _) ?_
  have hn := row_same (cs := (hC h3)) HXg6.out
  have hb := row_bel HB.out (g := g6) (by have := HG.out; have := HG1.out; have := HG2.out; have := HG3.out; have := HG4.out; omega) (hC h3)
  have hg3 := (setRow_other V8 g6 g3 (hC h3) (by have := HG.out; have := HG1.out; have := HG2.out; have := HG3.out; have := HG4.out; omega)).trans HXg3.out
  have hg5 := (setRow_other V8 g6 g5 (hC h3) (by have := HG.out; have := HG1.out; have := HG2.out; have := HG3.out; have := HG4.out; omega)).trans HXg5.out
  have hg7 := (setRow_other V8 g6 g7 (hC h3) (by have := HG.out; have := HG1.out; have := HG2.out; have := HG3.out; have := HG4.out; omega)).trans HXg7.out
  have hg8 := (setRow_other V8 g6 g8 (hC h3) (by have := HG.out; have := HG1.out; have := HG2.out; have := HG3.out; have := HG4.out; omega)).trans HXg8.out
  generalize V8.setRow g6 (hC h3) = V9 at hn hb hg3 hg5 hg7 hg8 ⊢
  clear HB HXg3 HXg5 HXg6 HXg7 HXg8
  have HB : Hid (Bel w V9) := Lib.hid hb
  have HXg3 : Hid (HAt V9 g3 h) := Lib.hid hg3
  have HXg5 : Hid (InAt V9 g5 41 d (a : Int) (b : Int) n) := Lib.hid hg5
  have HXg7 : Hid (EfAt V9 g7 e0) := Lib.hid hg7
  have HXg8 : Hid (OwnAt V9 g8 ((bits .and .i64 (bits .or .i64 m y) bt))) := Lib.hid hg8
  have HXg6 : Hid (HAt V9 g6 h3) := Lib.hid hn
  clear hn hb hg3 hg5 hg7 hg8
  try simp only [Act.put, la, lz, ls]
  refine wpList_store_row rfl 34 (.tmp 7) (.tmp 58) rfl g7 (eC e0) rfl rfl 34 (eC e0) HXg7.out (sz_eff _) rfl (eC_ones _) ?_
  have hn := row_same (cs := (eC e0)) HXg7.out
  have hb := row_bel HB.out (g := g7) (by have := HG.out; have := HG1.out; have := HG2.out; have := HG3.out; have := HG4.out; omega) (eC e0)
  have hg3 := (setRow_other V9 g7 g3 (eC e0) (by have := HG.out; have := HG1.out; have := HG2.out; have := HG3.out; have := HG4.out; omega)).trans HXg3.out
  have hg5 := (setRow_other V9 g7 g5 (eC e0) (by have := HG.out; have := HG1.out; have := HG2.out; have := HG3.out; have := HG4.out; omega)).trans HXg5.out
  have hg6 := (setRow_other V9 g7 g6 (eC e0) (by have := HG.out; have := HG1.out; have := HG2.out; have := HG3.out; have := HG4.out; omega)).trans HXg6.out
  have hg8 := (setRow_other V9 g7 g8 (eC e0) (by have := HG.out; have := HG1.out; have := HG2.out; have := HG3.out; have := HG4.out; omega)).trans HXg8.out
  generalize V9.setRow g7 (eC e0) = V10 at hn hb hg3 hg5 hg6 hg8 ⊢
  clear HB HXg3 HXg5 HXg6 HXg7 HXg8
  have HB : Hid (Bel w V10) := Lib.hid hb
  have HXg3 : Hid (HAt V10 g3 h) := Lib.hid hg3
  have HXg5 : Hid (InAt V10 g5 41 d (a : Int) (b : Int) n) := Lib.hid hg5
  have HXg6 : Hid (HAt V10 g6 h3) := Lib.hid hg6
  have HXg8 : Hid (OwnAt V10 g8 ((bits .and .i64 (bits .or .i64 m y) bt))) := Lib.hid hg8
  have HXg7 : Hid (EfAt V10 g7 e0) := Lib.hid hn
  clear hn hb hg3 hg5 hg6 hg8
  try simp only [Act.put, la, lz, ls]
  refine wpList_nil ?_
  refine hK _ _ (wp_ret ?_)
  exact bodyPost_ret (results_cells2 Tryd.results36 _ _ g6 g7 _ _ _ _ _ _ _ _ (by rfl) (by rfl) HXg6.out HXg7.out Tryd.underlying28 rfl (sz_hart _) Tryd.underlying34 rfl (sz_eff _)) (by rfl) ⟨rfl, HB.out⟩
theorem csr_42 {h h1 h2 h3 : H} {a b : Nat} {d n m x y bt z id : Int} (ha : a < 32) (hm : wrap32 id = m) {k : Nat} (hk : k < 39) (hc : ∀ (g g2 : Nat) (w : World), Calls Tryd.prog 61 #[.pointer (some ⟨g, 0, none⟩), .pointer (some ⟨g2, 0, none⟩), .int .i64 n] w (OneV (.tuple #[.pointer (some ⟨g, k, none⟩), .int .i64 bt]) w)) (hx : h k = x) (hy : h a = y) (e1 : up h k (bits .and .i64 (bits .andNot .i64 x y) bt) = h1) (e2 : put h1 d x = h2) (e3 : Ht.go h2 4 = h3) (w : World) : Calls Tryd.prog 36 #[hv h, .int .i64 id, iv 42 d (a : Int) (b : Int) n] w (OneV (.tuple #[hv h3, .agg (eC e0)]) w) := by
  have HM := Lib.hid hm
  have HC := Lib.hid hc
  have HP2 := Lib.hid e2
  have HP3 := Lib.hid e3
  have HZ1 := Lib.hid e1
  clear e1
  clear hm hc e2 e3
  have hz := zero_hart
  go_enter Tryd.func36, Tryd.ntmps36
  go_upto_region 1 with (fail)
  obtain ⟨W0, hW, hb, hx3, hx5, hx6, hx7⟩ := boxes4 w (hC h) (iC 42 d (a : Int) (b : Int) n) hZ (eC e0) 28 24 28 34
  first | rw [← hW] | (show Code.wp _ _ _ _ ((((w.alloc (.cells (hC h) 28)).alloc (.cells (iC 42 d (a : Int) (b : Int) n) 24)).alloc (.cells hZ 28)).alloc (.cells (eC e0) 34)); rw [← hW])
  clear hz hW
  have hlt : w.heap.size < W0.heap.size := lt_of_heap hx3
  generalize hg : w.heap.size = g3 at hx3 hx5 hx6 hx7 hlt ⊢
  have HG := Lib.hid hg
  clear hg
  generalize hg : g3 + 1 = g5 at hx5 hx6 hx7 ⊢
  have HG1 := Lib.hid hg
  clear hg
  generalize hg : g5 + 1 = g6 at hx6 hx7 ⊢
  have HG2 := Lib.hid hg
  clear hg
  generalize hg : g6 + 1 = g7 at hx7 ⊢
  have HG3 := Lib.hid hg
  clear hg
  have HXg3 : Hid (HAt W0 g3 h) := Lib.hid hx3
  have HXg5 : Hid (InAt W0 g5 42 d (a : Int) (b : Int) n) := Lib.hid hx5
  have HXg6 : Hid (HAt W0 g6 (fun _ => 0)) := Lib.hid hx6
  have HXg7 : Hid (EfAt W0 g7 e0) := Lib.hid hx7
  have HB : Hid (Bel w W0) := Lib.hid hb
  clear hb hlt hx3 hx5 hx6 hx7
  rename_i K hK
  refine wp_region_list ?_
  refine wpList_one rfl (w' := W0) (v := .int .i64 id) rfl ?_
  try simp only [Act.put, la, lz, ls]
  refine wpList_call rfl (f := 27) (args := #[.int .i64 id]) (v := .int .i64 m) (by kernel_rfl) (wl HM.out _) ?_
  intro V1 hb
  replace HB : Hid (Bel w V1) := Lib.hid (HB.out.trans hb)
  replace HXg3 : Hid (HAt V1 g3 h) := Lib.hid (HXg3.out.bel hb)
  replace HXg5 : Hid (InAt V1 g5 42 d (a : Int) (b : Int) n) := Lib.hid (HXg5.out.bel hb)
  replace HXg6 : Hid (HAt V1 g6 (fun _ => 0)) := Lib.hid (HXg6.out.bel hb)
  replace HXg7 : Hid (EfAt V1 g7 e0) := Lib.hid (HXg7.out.bel hb)
  clear hb
  try simp only [Act.put, la, lz, ls]
  obtain ⟨hb, hx⟩ := box1 V1 #[.int .i64 0] 3
  refine wpList_one rfl (w' := V1.alloc (.cells #[.int .i64 0] 3)) (v := .pointer (some ⟨V1.heap.size, 0, none⟩)) (by kernel_rfl) ?_
  try simp only [Act.put, la, lz, ls]
  have hl7 := lt_of_heap HXg7.out
  generalize V1.alloc (.cells #[.int .i64 0] 3) = V2 at hb hx ⊢
  generalize V1.heap.size = g8 at hx hl7 ⊢
  have HG4 : Hid (g7 < g8) := Lib.hid hl7
  clear hl7
  replace HB : Hid (Bel w V2) := Lib.hid (HB.out.trans hb)
  replace HXg3 : Hid (HAt V2 g3 h) := Lib.hid (HXg3.out.bel hb)
  replace HXg5 : Hid (InAt V2 g5 42 d (a : Int) (b : Int) n) := Lib.hid (HXg5.out.bel hb)
  replace HXg6 : Hid (HAt V2 g6 (fun _ => 0)) := Lib.hid (HXg6.out.bel hb)
  replace HXg7 : Hid (EfAt V2 g7 e0) := Lib.hid (HXg7.out.bel hb)
  have HXg8 : Hid (OwnAt V2 g8 0) := Lib.hid hx
  clear hb hx
  refine wpList_store_cell rfl 3 (.tmp 8) (.tmp 14) rfl g8 0 rfl (.int .i64 m) rfl HXg8.out.cell (HXg8.out.frozen 0) sz_int rfl ?_
  have hn := HXg8.out.set (m)
  have hb := (Svg.set g8 0 V2 (.int .i64 (m))).bel HB.out (by have := HG.out; have := HG1.out; have := HG2.out; have := HG3.out; have := HG4.out; omega)
  have hg3 := ((Svg.set g8 0 V2 (.int .i64 (m))).block g3 (lt_of_heap HXg3.out) (by have := HG.out; have := HG1.out; have := HG2.out; have := HG3.out; have := HG4.out; omega)).trans HXg3.out
  have hg5 := ((Svg.set g8 0 V2 (.int .i64 (m))).block g5 (lt_of_heap HXg5.out) (by have := HG.out; have := HG1.out; have := HG2.out; have := HG3.out; have := HG4.out; omega)).trans HXg5.out
  have hg6 := ((Svg.set g8 0 V2 (.int .i64 (m))).block g6 (lt_of_heap HXg6.out) (by have := HG.out; have := HG1.out; have := HG2.out; have := HG3.out; have := HG4.out; omega)).trans HXg6.out
  have hg7 := ((Svg.set g8 0 V2 (.int .i64 (m))).block g7 (lt_of_heap HXg7.out) (by have := HG.out; have := HG1.out; have := HG2.out; have := HG3.out; have := HG4.out; omega)).trans HXg7.out
  generalize V2.setCell ⟨g8, 0, none⟩ (.int .i64 (m)) = V3 at hn hb hg3 hg5 hg6 hg7  ⊢
  clear HB HXg3 HXg5 HXg6 HXg7 HXg8
  have HB : Hid (Bel w V3) := Lib.hid hb
  have HXg3 : Hid (HAt V3 g3 h) := Lib.hid hg3
  have HXg5 : Hid (InAt V3 g5 42 d (a : Int) (b : Int) n) := Lib.hid hg5
  have HXg6 : Hid (HAt V3 g6 (fun _ => 0)) := Lib.hid hg6
  have HXg7 : Hid (EfAt V3 g7 e0) := Lib.hid hg7
  have HXg8 : Hid (OwnAt V3 g8 (m)) := Lib.hid hn
  clear hn hb hg3 hg5 hg6 hg7
  try simp only [Act.put, la, lz, ls]
  refine wpList_nil ?_
  refine hK _ _ ?_
  clear hK K
  go_upto_region 2 with (fail)
  rename_i K hK
  refine wp_region_list ?_
  refine wpList_one rfl (w' := V3) (v := .pointer (some ⟨g5, 4, none⟩)) (by kernel_rfl) ?_
  try simp only [Act.put, la, lz, ls]
  refine wpList_load_cell rfl 3 (.tmp 16) rfl ⟨g5, 4, none⟩ rfl (.int .i64 n) _ HXg5.out.cells.2.2.2.2 Tryd.underlying3 rfl ?_
  try simp only [Act.put, la, lz, ls]
  refine wpList_call rfl (f := 61) (args := #[.pointer (some ⟨g3, 0, none⟩), .pointer (some ⟨g8, 0, none⟩), .int .i64 n]) (v := .tuple #[.pointer (some ⟨g3, k, none⟩), .int .i64 bt]) (by kernel_rfl) (HC.out _ _ _) ?_
  intro V4 hb
  replace HB : Hid (Bel w V4) := Lib.hid (HB.out.trans hb)
  replace HXg3 : Hid (HAt V4 g3 h) := Lib.hid (HXg3.out.bel hb)
  replace HXg5 : Hid (InAt V4 g5 42 d (a : Int) (b : Int) n) := Lib.hid (HXg5.out.bel hb)
  replace HXg6 : Hid (HAt V4 g6 (fun _ => 0)) := Lib.hid (HXg6.out.bel hb)
  replace HXg7 : Hid (EfAt V4 g7 e0) := Lib.hid (HXg7.out.bel hb)
  replace HXg8 : Hid (OwnAt V4 g8 (m)) := Lib.hid (HXg8.out.bel hb)
  clear hb
  try simp only [Act.put, la, lz, ls]
  refine wpList_one rfl (w' := V4) (v := .tuple #[.pointer (some ⟨g3, k, none⟩), .int .i64 bt]) rfl ?_
  try simp only [Act.put, la, lz, ls]
  refine wpList_one rfl (w' := V4) (v := .pointer (some ⟨g3, k, none⟩)) rfl ?_
  try simp only [Act.put, la, lz, ls]
  refine wpList_one rfl (w' := V4) (v := .int .i64 bt) rfl ?_
  try simp only [Act.put, la, lz, ls]
  refine wpList_one rfl (w' := V4) (v := .pointer (some ⟨g3, k, none⟩)) rfl ?_
  try simp only [Act.put, la, lz, ls]
  refine wpList_one rfl (w' := V4) (v := .int .i64 bt) rfl ?_
  try simp only [Act.put, la, lz, ls]
  refine wpList_nil ?_
  refine hK _ _ ?_
  clear hK K
  go_upto_region 5 with (fail)
  rename_i K hK
  refine Upto.begin (z := 9) (T := fun w' => w'.cell? ⟨g3, k, none⟩ = some (.int .i64 (h k)) ∧ w'.cell? ⟨g3, a, none⟩ = some (.int .i64 (h a)) ∧ InAt w' g5 42 d (a : Int) (b : Int) n) (by kernel_rfl) ?_
  have hb : Bel V4 V4.drew := (Bel.refl V4).drew
  generalize V4.drew = V5 at hb ⊢
  replace HB : Hid (Bel w V5) := Lib.hid (HB.out.trans hb)
  replace HXg3 : Hid (HAt V5 g3 h) := Lib.hid (HXg3.out.bel hb)
  replace HXg5 : Hid (InAt V5 g5 42 d (a : Int) (b : Int) n) := Lib.hid (HXg5.out.bel hb)
  replace HXg6 : Hid (HAt V5 g6 (fun _ => 0)) := Lib.hid (HXg6.out.bel hb)
  replace HXg7 : Hid (EfAt V5 g7 e0) := Lib.hid (HXg7.out.bel hb)
  replace HXg8 : Hid (OwnAt V5 g8 (m)) := Lib.hid (HXg8.out.bel hb)
  clear hb
  have hT : V5.cell? ⟨g3, k, none⟩ = some (.int .i64 (h k)) ∧ V5.cell? ⟨g3, a, none⟩ = some (.int .i64 (h a)) ∧ InAt V5 g5 42 d (a : Int) (b : Int) n := ⟨HXg3.out.cell (j := k) (by omega), HXg3.out.cell (j := a) (by omega), HXg5.out⟩
  refine takeU 27 (i := 0) (v := .pointer (some ⟨g3, k, none⟩)) rfl rfl rfl (by kernel_rfl) (by kernel_rfl) (by kernel_rfl) (by kernel_rfl) (fun _ _ _ h => h) (by kernel_rfl) (fun w0 hS => rfl) hT ?_
  try simp only [la, lz, ls]
  refine takeU 28 (i := 1) (v := .pointer (some ⟨g3, k, none⟩)) rfl rfl rfl (by kernel_rfl) (by kernel_rfl) (by kernel_rfl) (by kernel_rfl) (fun _ _ _ h => h) (by kernel_rfl) (fun w0 hS => (by kernel_rfl)) hT ?_
  try simp only [la, lz, ls]
  refine takeU 29 (i := 2) (v := .int .i64 (h k)) rfl rfl rfl (by kernel_rfl) (by kernel_rfl) (by kernel_rfl) (by kernel_rfl) (fun _ _ _ h => h) (by kernel_rfl) (fun w0 hS => (exec_cell 3 (.tmp 28) rfl ⟨g3, k, none⟩ rfl _ _ hS.1 Tryd.underlying3 rfl)) hT ?_
  try simp only [la, lz, ls]
  refine takeU 30 (i := 3) (v := .pointer (some ⟨g5, 2, none⟩)) rfl rfl rfl (by kernel_rfl) (by kernel_rfl) (by kernel_rfl) (by kernel_rfl) (fun _ _ _ h => h) (by kernel_rfl) (fun w0 hS => (by kernel_rfl)) hT ?_
  try simp only [la, lz, ls]
  refine takeU 31 (i := 4) (v := .int .i64 (a : Int)) rfl rfl rfl (by kernel_rfl) (by kernel_rfl) (by kernel_rfl) (by kernel_rfl) (fun _ _ _ h => h) (by kernel_rfl) (fun w0 hS => (exec_cell 3 (.tmp 30) rfl ⟨g5, 2, none⟩ rfl _ _ (hS.2.2).cells.2.2.1 Tryd.underlying3 rfl)) hT ?_
  try simp only [la, lz, ls]
  refine takeU 32 (i := 5) (v := .pointer (some ⟨g3, 0, none⟩)) rfl rfl rfl (by kernel_rfl) (by kernel_rfl) (by kernel_rfl) (by kernel_rfl) (fun _ _ _ h => h) (by kernel_rfl) (fun w0 hS => (by kernel_rfl)) hT ?_
  try simp only [la, lz, ls]
  refine takeU 33 (i := 6) (v := .pointer (some ⟨g3, a, none⟩)) rfl rfl rfl (by kernel_rfl) (by kernel_rfl) (by kernel_rfl) (by kernel_rfl) (fun _ _ _ h => h) (by kernel_rfl) (fun w0 hS => (exec_reg rfl g3 a (by omega) rfl rfl _)) hT ?_
  try simp only [la, lz, ls]
  refine takeU 34 (i := 7) (v := .int .i64 (h a)) rfl rfl rfl (by kernel_rfl) (by kernel_rfl) (by kernel_rfl) (by kernel_rfl) (fun _ _ _ h => h) (by kernel_rfl) (fun w0 hS => (exec_cell 3 (.tmp 33) rfl ⟨g3, a, none⟩ rfl _ _ hS.2.1 Tryd.underlying3 rfl)) hT ?_
  try simp only [la, lz, ls]
  refine takeU 11 (i := 8) (v := .int .i64 (h k)) rfl rfl rfl (by kernel_rfl) (by kernel_rfl) (by kernel_rfl) (by kernel_rfl) (fun _ _ _ h => h) (by kernel_rfl) (fun w0 hS => rfl) hT ?_
  try simp only [la, lz, ls]
  refine pureU 12 (i := 9) rfl rfl (by kernel_rfl) (by kernel_rfl) (v := .int .i64 (h a)) rfl hT ?_
  try simp only [la, lz, ls]
  refine Upto.done (by kernel_rfl) ?_ _
  clear hT
  rw [hx, hy]
  refine hK _ _ ?_
  clear hK K
  have HX1 := Lib.hid hx
  have HY1 := Lib.hid hy
  clear hx hy
  have kg5_0 := HXg5.out.cells.1
  go_upto_region 11 with (fail)
  rename_i K hK
  refine wp_region_list ?_
  refine wpList_one rfl (w' := V5) (v := .pointer (some ⟨g3, k, none⟩)) rfl ?_
  try simp only [Act.put, la, lz, ls]
  refine wpList_one rfl (w' := V5) (v := .int .i64 (bits .andNot .i64 x y)) rfl ?_
  try simp only [Act.put, la, lz, ls]
  refine wpList_one rfl (w' := V5) (v := .int .i64 bt) rfl ?_
  try simp only [Act.put, la, lz, ls]
  refine wpList_one rfl (w' := V5) (v := .int .i64 (bits .and .i64 (bits .andNot .i64 x y) bt)) (by kernel_rfl) ?_
  try simp only [Act.put, la, lz, ls]
  refine wpList_one rfl (w' := V5) (v := .pointer (some ⟨g3, k, none⟩)) (by kernel_rfl) ?_
  try simp only [Act.put, la, lz, ls]
  refine wpList_store_cell rfl 3 (.tmp 51) (.tmp 50) rfl g3 k rfl (.int .i64 (bits .and .i64 (bits .andNot .i64 x y) bt)) rfl (HXg3.out.cell (j := k) (by omega)) (HXg3.out.frozen k) sz_int rfl ?_
  have hn := HXg3.out.set (j := k) (by omega) ((bits .and .i64 (bits .andNot .i64 x y) bt))
  have hb := (Svg.set g3 k V5 (.int .i64 ((bits .and .i64 (bits .andNot .i64 x y) bt)))).bel HB.out (by have := HG.out; have := HG1.out; have := HG2.out; have := HG3.out; have := HG4.out; omega)
  have hg5 := ((Svg.set g3 k V5 (.int .i64 ((bits .and .i64 (bits .andNot .i64 x y) bt)))).block g5 (lt_of_heap HXg5.out) (by have := HG.out; have := HG1.out; have := HG2.out; have := HG3.out; have := HG4.out; omega)).trans HXg5.out
  have hg6 := ((Svg.set g3 k V5 (.int .i64 ((bits .and .i64 (bits .andNot .i64 x y) bt)))).block g6 (lt_of_heap HXg6.out) (by have := HG.out; have := HG1.out; have := HG2.out; have := HG3.out; have := HG4.out; omega)).trans HXg6.out
  have hg7 := ((Svg.set g3 k V5 (.int .i64 ((bits .and .i64 (bits .andNot .i64 x y) bt)))).block g7 (lt_of_heap HXg7.out) (by have := HG.out; have := HG1.out; have := HG2.out; have := HG3.out; have := HG4.out; omega)).trans HXg7.out
  have hg8 := ((Svg.set g3 k V5 (.int .i64 ((bits .and .i64 (bits .andNot .i64 x y) bt)))).block g8 (lt_of_heap HXg8.out) (by have := HG.out; have := HG1.out; have := HG2.out; have := HG3.out; have := HG4.out; omega)).trans HXg8.out
  generalize V5.setCell ⟨g3, k, none⟩ (.int .i64 ((bits .and .i64 (bits .andNot .i64 x y) bt))) = V6 at hn hb hg5 hg6 hg7 hg8  ⊢
  clear HB HXg3 HXg5 HXg6 HXg7 HXg8
  have HB : Hid (Bel w V6) := Lib.hid hb
  have HXg5 : Hid (InAt V6 g5 42 d (a : Int) (b : Int) n) := Lib.hid hg5
  have HXg6 : Hid (HAt V6 g6 (fun _ => 0)) := Lib.hid hg6
  have HXg7 : Hid (EfAt V6 g7 e0) := Lib.hid hg7
  have HXg8 : Hid (OwnAt V6 g8 (m)) := Lib.hid hg8
  have HXg3 : Hid (HAt V6 g3 (up h k ((bits .and .i64 (bits .andNot .i64 x y) bt)))) := Lib.hid hn
  clear hn hb hg5 hg6 hg7 hg8
  try simp only [Act.put, la, lz, ls]
  refine wpList_nil ?_
  refine hK _ _ ?_
  clear hK K
  clear kg5_0
  rw [HZ1.out] at HXg3
  go_upto_region 12 with (fail)
  rename_i K hK
  refine wp_region_list ?_
  refine wpList_load_row rfl 28 (.tmp 3) rfl g3 rfl 28 (hC h1) (0, 0) _ HXg3.out Tryd.underlying28 rfl (sz_hart _) ?_
  try simp only [Act.put, la, lz, ls]
  refine wpList_one rfl (w' := V6) (v := .pointer (some ⟨g5, 1, none⟩)) (by kernel_rfl) ?_
  try simp only [Act.put, la, lz, ls]
  refine wpList_load_cell rfl 3 (.tmp 53) rfl ⟨g5, 1, none⟩ rfl (.int .i64 d) _ HXg5.out.cells.2.1 Tryd.underlying3 rfl ?_
  try simp only [Act.put, la, lz, ls]
  refine wpList_one rfl (w' := V6) (v := .int .i64 x) rfl ?_
  try simp only [Act.put, la, lz, ls]
  refine wpList_call rfl (f := 18) (args := #[hv h1, .int .i64 d, .int .i64 x]) (v := hv h2) (by kernel_rfl) (put_lit HP2.out _) ?_
  intro V7 hb
  replace HB : Hid (Bel w V7) := Lib.hid (HB.out.trans hb)
  replace HXg3 : Hid (HAt V7 g3 h1) := Lib.hid (HXg3.out.bel hb)
  replace HXg5 : Hid (InAt V7 g5 42 d (a : Int) (b : Int) n) := Lib.hid (HXg5.out.bel hb)
  replace HXg6 : Hid (HAt V7 g6 (fun _ => 0)) := Lib.hid (HXg6.out.bel hb)
  replace HXg7 : Hid (EfAt V7 g7 e0) := Lib.hid (HXg7.out.bel hb)
  replace HXg8 : Hid (OwnAt V7 g8 (m)) := Lib.hid (HXg8.out.bel hb)
  clear hb
  try simp only [Act.put, la, lz, ls]
  refine wpList_call rfl (f := 38) (args := #[hv h2, .int .i64 4]) (v := hv h3) (by kernel_rfl) (goBy_lit HP3.out _) ?_
  intro V8 hb
  replace HB : Hid (Bel w V8) := Lib.hid (HB.out.trans hb)
  replace HXg3 : Hid (HAt V8 g3 h1) := Lib.hid (HXg3.out.bel hb)
  replace HXg5 : Hid (InAt V8 g5 42 d (a : Int) (b : Int) n) := Lib.hid (HXg5.out.bel hb)
  replace HXg6 : Hid (HAt V8 g6 (fun _ => 0)) := Lib.hid (HXg6.out.bel hb)
  replace HXg7 : Hid (EfAt V8 g7 e0) := Lib.hid (HXg7.out.bel hb)
  replace HXg8 : Hid (OwnAt V8 g8 (m)) := Lib.hid (HXg8.out.bel hb)
  clear hb
  try simp only [Act.put, la, lz, ls]
  refine wpList_one rfl (w' := V8) (v := .agg (eC e0)) (by kernel_rfl) ?_
  try simp only [Act.put, la, lz, ls]
  refine wpList_store_row rfl 28 (.tmp 6) (.tmp 57) rfl g6 (hC h3) rfl rfl 28 (hC (fun _ => 0)) HXg6.out (sz_hart _) (by rw [hC_size, hC_size]) (hC_ones _) ?_
  have hn := row_same (cs := (hC h3)) HXg6.out
  have hb := row_bel HB.out (g := g6) (by have := HG.out; have := HG1.out; have := HG2.out; have := HG3.out; have := HG4.out; omega) (hC h3)
  have hg3 := (setRow_other V8 g6 g3 (hC h3) (by have := HG.out; have := HG1.out; have := HG2.out; have := HG3.out; have := HG4.out; omega)).trans HXg3.out
  have hg5 := (setRow_other V8 g6 g5 (hC h3) (by have := HG.out; have := HG1.out; have := HG2.out; have := HG3.out; have := HG4.out; omega)).trans HXg5.out
  have hg7 := (setRow_other V8 g6 g7 (hC h3) (by have := HG.out; have := HG1.out; have := HG2.out; have := HG3.out; have := HG4.out; omega)).trans HXg7.out
  have hg8 := (setRow_other V8 g6 g8 (hC h3) (by have := HG.out; have := HG1.out; have := HG2.out; have := HG3.out; have := HG4.out; omega)).trans HXg8.out
  generalize V8.setRow g6 (hC h3) = V9 at hn hb hg3 hg5 hg7 hg8 ⊢
  clear HB HXg3 HXg5 HXg6 HXg7 HXg8
  have HB : Hid (Bel w V9) := Lib.hid hb
  have HXg3 : Hid (HAt V9 g3 h1) := Lib.hid hg3
  have HXg5 : Hid (InAt V9 g5 42 d (a : Int) (b : Int) n) := Lib.hid hg5
  have HXg7 : Hid (EfAt V9 g7 e0) := Lib.hid hg7
  have HXg8 : Hid (OwnAt V9 g8 (m)) := Lib.hid hg8
  have HXg6 : Hid (HAt V9 g6 h3) := Lib.hid hn
  clear hn hb hg3 hg5 hg7 hg8
  try simp only [Act.put, la, lz, ls]
  refine wpList_store_row rfl 34 (.tmp 7) (.tmp 58) rfl g7 (eC e0) rfl rfl 34 (eC e0) HXg7.out (sz_eff _) rfl (eC_ones _) ?_
  have hn := row_same (cs := (eC e0)) HXg7.out
  have hb := row_bel HB.out (g := g7) (by have := HG.out; have := HG1.out; have := HG2.out; have := HG3.out; have := HG4.out; omega) (eC e0)
  have hg3 := (setRow_other V9 g7 g3 (eC e0) (by have := HG.out; have := HG1.out; have := HG2.out; have := HG3.out; have := HG4.out; omega)).trans HXg3.out
  have hg5 := (setRow_other V9 g7 g5 (eC e0) (by have := HG.out; have := HG1.out; have := HG2.out; have := HG3.out; have := HG4.out; omega)).trans HXg5.out
  have hg6 := (setRow_other V9 g7 g6 (eC e0) (by have := HG.out; have := HG1.out; have := HG2.out; have := HG3.out; have := HG4.out; omega)).trans HXg6.out
  have hg8 := (setRow_other V9 g7 g8 (eC e0) (by have := HG.out; have := HG1.out; have := HG2.out; have := HG3.out; have := HG4.out; omega)).trans HXg8.out
  generalize V9.setRow g7 (eC e0) = V10 at hn hb hg3 hg5 hg6 hg8 ⊢
  clear HB HXg3 HXg5 HXg6 HXg7 HXg8
  have HB : Hid (Bel w V10) := Lib.hid hb
  have HXg3 : Hid (HAt V10 g3 h1) := Lib.hid hg3
  have HXg5 : Hid (InAt V10 g5 42 d (a : Int) (b : Int) n) := Lib.hid hg5
  have HXg6 : Hid (HAt V10 g6 h3) := Lib.hid hg6
  have HXg8 : Hid (OwnAt V10 g8 (m)) := Lib.hid hg8
  have HXg7 : Hid (EfAt V10 g7 e0) := Lib.hid hn
  clear hn hb hg3 hg5 hg6 hg8
  try simp only [Act.put, la, lz, ls]
  refine wpList_nil ?_
  refine hK _ _ (wp_ret ?_)
  exact bodyPost_ret (results_cells2 Tryd.results36 _ _ g6 g7 _ _ _ _ _ _ _ _ (by rfl) (by rfl) HXg6.out HXg7.out Tryd.underlying28 rfl (sz_hart _) Tryd.underlying34 rfl (sz_eff _)) (by rfl) ⟨rfl, HB.out⟩
theorem own_42 {h h1 h2 h3 : H} {a b : Nat} {d n m x y bt z id : Int} (ha : a < 32) (hm : wrap32 id = m)  (hc : ∀ (g g2 : Nat) (w : World), Calls Tryd.prog 61 #[.pointer (some ⟨g, 0, none⟩), .pointer (some ⟨g2, 0, none⟩), .int .i64 n] w (OneV (.tuple #[.pointer (some ⟨g2, 0, none⟩), .int .i64 bt]) w)) (hx : h 0 = x) (hy : h a = y) (e2 : put h d m = h2) (e3 : Ht.go h2 4 = h3) (w : World) : Calls Tryd.prog 36 #[hv h, .int .i64 id, iv 42 d (a : Int) (b : Int) n] w (OneV (.tuple #[hv h3, .agg (eC e0)]) w) := by
  have HM := Lib.hid hm
  have HC := Lib.hid hc
  have HP2 := Lib.hid e2
  have HP3 := Lib.hid e3
  clear hm hc e2 e3
  have hz := zero_hart
  go_enter Tryd.func36, Tryd.ntmps36
  go_upto_region 1 with (fail)
  obtain ⟨W0, hW, hb, hx3, hx5, hx6, hx7⟩ := boxes4 w (hC h) (iC 42 d (a : Int) (b : Int) n) hZ (eC e0) 28 24 28 34
  first | rw [← hW] | (show Code.wp _ _ _ _ ((((w.alloc (.cells (hC h) 28)).alloc (.cells (iC 42 d (a : Int) (b : Int) n) 24)).alloc (.cells hZ 28)).alloc (.cells (eC e0) 34)); rw [← hW])
  clear hz hW
  have hlt : w.heap.size < W0.heap.size := lt_of_heap hx3
  generalize hg : w.heap.size = g3 at hx3 hx5 hx6 hx7 hlt ⊢
  have HG := Lib.hid hg
  clear hg
  generalize hg : g3 + 1 = g5 at hx5 hx6 hx7 ⊢
  have HG1 := Lib.hid hg
  clear hg
  generalize hg : g5 + 1 = g6 at hx6 hx7 ⊢
  have HG2 := Lib.hid hg
  clear hg
  generalize hg : g6 + 1 = g7 at hx7 ⊢
  have HG3 := Lib.hid hg
  clear hg
  have HXg3 : Hid (HAt W0 g3 h) := Lib.hid hx3
  have HXg5 : Hid (InAt W0 g5 42 d (a : Int) (b : Int) n) := Lib.hid hx5
  have HXg6 : Hid (HAt W0 g6 (fun _ => 0)) := Lib.hid hx6
  have HXg7 : Hid (EfAt W0 g7 e0) := Lib.hid hx7
  have HB : Hid (Bel w W0) := Lib.hid hb
  clear hb hlt hx3 hx5 hx6 hx7
  rename_i K hK
  refine wp_region_list ?_
  refine wpList_one rfl (w' := W0) (v := .int .i64 id) rfl ?_
  try simp only [Act.put, la, lz, ls]
  refine wpList_call rfl (f := 27) (args := #[.int .i64 id]) (v := .int .i64 m) (by kernel_rfl) (wl HM.out _) ?_
  intro V1 hb
  replace HB : Hid (Bel w V1) := Lib.hid (HB.out.trans hb)
  replace HXg3 : Hid (HAt V1 g3 h) := Lib.hid (HXg3.out.bel hb)
  replace HXg5 : Hid (InAt V1 g5 42 d (a : Int) (b : Int) n) := Lib.hid (HXg5.out.bel hb)
  replace HXg6 : Hid (HAt V1 g6 (fun _ => 0)) := Lib.hid (HXg6.out.bel hb)
  replace HXg7 : Hid (EfAt V1 g7 e0) := Lib.hid (HXg7.out.bel hb)
  clear hb
  try simp only [Act.put, la, lz, ls]
  obtain ⟨hb, hx⟩ := box1 V1 #[.int .i64 0] 3
  refine wpList_one rfl (w' := V1.alloc (.cells #[.int .i64 0] 3)) (v := .pointer (some ⟨V1.heap.size, 0, none⟩)) (by kernel_rfl) ?_
  try simp only [Act.put, la, lz, ls]
  have hl7 := lt_of_heap HXg7.out
  generalize V1.alloc (.cells #[.int .i64 0] 3) = V2 at hb hx ⊢
  generalize V1.heap.size = g8 at hx hl7 ⊢
  have HG4 : Hid (g7 < g8) := Lib.hid hl7
  clear hl7
  replace HB : Hid (Bel w V2) := Lib.hid (HB.out.trans hb)
  replace HXg3 : Hid (HAt V2 g3 h) := Lib.hid (HXg3.out.bel hb)
  replace HXg5 : Hid (InAt V2 g5 42 d (a : Int) (b : Int) n) := Lib.hid (HXg5.out.bel hb)
  replace HXg6 : Hid (HAt V2 g6 (fun _ => 0)) := Lib.hid (HXg6.out.bel hb)
  replace HXg7 : Hid (EfAt V2 g7 e0) := Lib.hid (HXg7.out.bel hb)
  have HXg8 : Hid (OwnAt V2 g8 0) := Lib.hid hx
  clear hb hx
  refine wpList_store_cell rfl 3 (.tmp 8) (.tmp 14) rfl g8 0 rfl (.int .i64 m) rfl HXg8.out.cell (HXg8.out.frozen 0) sz_int rfl ?_
  have hn := HXg8.out.set (m)
  have hb := (Svg.set g8 0 V2 (.int .i64 (m))).bel HB.out (by have := HG.out; have := HG1.out; have := HG2.out; have := HG3.out; have := HG4.out; omega)
  have hg3 := ((Svg.set g8 0 V2 (.int .i64 (m))).block g3 (lt_of_heap HXg3.out) (by have := HG.out; have := HG1.out; have := HG2.out; have := HG3.out; have := HG4.out; omega)).trans HXg3.out
  have hg5 := ((Svg.set g8 0 V2 (.int .i64 (m))).block g5 (lt_of_heap HXg5.out) (by have := HG.out; have := HG1.out; have := HG2.out; have := HG3.out; have := HG4.out; omega)).trans HXg5.out
  have hg6 := ((Svg.set g8 0 V2 (.int .i64 (m))).block g6 (lt_of_heap HXg6.out) (by have := HG.out; have := HG1.out; have := HG2.out; have := HG3.out; have := HG4.out; omega)).trans HXg6.out
  have hg7 := ((Svg.set g8 0 V2 (.int .i64 (m))).block g7 (lt_of_heap HXg7.out) (by have := HG.out; have := HG1.out; have := HG2.out; have := HG3.out; have := HG4.out; omega)).trans HXg7.out
  generalize V2.setCell ⟨g8, 0, none⟩ (.int .i64 (m)) = V3 at hn hb hg3 hg5 hg6 hg7  ⊢
  clear HB HXg3 HXg5 HXg6 HXg7 HXg8
  have HB : Hid (Bel w V3) := Lib.hid hb
  have HXg3 : Hid (HAt V3 g3 h) := Lib.hid hg3
  have HXg5 : Hid (InAt V3 g5 42 d (a : Int) (b : Int) n) := Lib.hid hg5
  have HXg6 : Hid (HAt V3 g6 (fun _ => 0)) := Lib.hid hg6
  have HXg7 : Hid (EfAt V3 g7 e0) := Lib.hid hg7
  have HXg8 : Hid (OwnAt V3 g8 (m)) := Lib.hid hn
  clear hn hb hg3 hg5 hg6 hg7
  try simp only [Act.put, la, lz, ls]
  refine wpList_nil ?_
  refine hK _ _ ?_
  clear hK K
  go_upto_region 2 with (fail)
  rename_i K hK
  refine wp_region_list ?_
  refine wpList_one rfl (w' := V3) (v := .pointer (some ⟨g5, 4, none⟩)) (by kernel_rfl) ?_
  try simp only [Act.put, la, lz, ls]
  refine wpList_load_cell rfl 3 (.tmp 16) rfl ⟨g5, 4, none⟩ rfl (.int .i64 n) _ HXg5.out.cells.2.2.2.2 Tryd.underlying3 rfl ?_
  try simp only [Act.put, la, lz, ls]
  refine wpList_call rfl (f := 61) (args := #[.pointer (some ⟨g3, 0, none⟩), .pointer (some ⟨g8, 0, none⟩), .int .i64 n]) (v := .tuple #[.pointer (some ⟨g8, 0, none⟩), .int .i64 bt]) (by kernel_rfl) (HC.out _ _ _) ?_
  intro V4 hb
  replace HB : Hid (Bel w V4) := Lib.hid (HB.out.trans hb)
  replace HXg3 : Hid (HAt V4 g3 h) := Lib.hid (HXg3.out.bel hb)
  replace HXg5 : Hid (InAt V4 g5 42 d (a : Int) (b : Int) n) := Lib.hid (HXg5.out.bel hb)
  replace HXg6 : Hid (HAt V4 g6 (fun _ => 0)) := Lib.hid (HXg6.out.bel hb)
  replace HXg7 : Hid (EfAt V4 g7 e0) := Lib.hid (HXg7.out.bel hb)
  replace HXg8 : Hid (OwnAt V4 g8 (m)) := Lib.hid (HXg8.out.bel hb)
  clear hb
  try simp only [Act.put, la, lz, ls]
  refine wpList_one rfl (w' := V4) (v := .tuple #[.pointer (some ⟨g8, 0, none⟩), .int .i64 bt]) rfl ?_
  try simp only [Act.put, la, lz, ls]
  refine wpList_one rfl (w' := V4) (v := .pointer (some ⟨g8, 0, none⟩)) rfl ?_
  try simp only [Act.put, la, lz, ls]
  refine wpList_one rfl (w' := V4) (v := .int .i64 bt) rfl ?_
  try simp only [Act.put, la, lz, ls]
  refine wpList_one rfl (w' := V4) (v := .pointer (some ⟨g8, 0, none⟩)) rfl ?_
  try simp only [Act.put, la, lz, ls]
  refine wpList_one rfl (w' := V4) (v := .int .i64 bt) rfl ?_
  try simp only [Act.put, la, lz, ls]
  refine wpList_nil ?_
  refine hK _ _ ?_
  clear hK K
  go_upto_region 5 with (fail)
  rename_i K hK
  refine Upto.begin (z := 9) (T := fun w' => w'.cell? ⟨g8, 0, none⟩ = some (.int .i64 (m)) ∧ w'.cell? ⟨g3, a, none⟩ = some (.int .i64 (h a)) ∧ InAt w' g5 42 d (a : Int) (b : Int) n) (by kernel_rfl) ?_
  have hb : Bel V4 V4.drew := (Bel.refl V4).drew
  generalize V4.drew = V5 at hb ⊢
  replace HB : Hid (Bel w V5) := Lib.hid (HB.out.trans hb)
  replace HXg3 : Hid (HAt V5 g3 h) := Lib.hid (HXg3.out.bel hb)
  replace HXg5 : Hid (InAt V5 g5 42 d (a : Int) (b : Int) n) := Lib.hid (HXg5.out.bel hb)
  replace HXg6 : Hid (HAt V5 g6 (fun _ => 0)) := Lib.hid (HXg6.out.bel hb)
  replace HXg7 : Hid (EfAt V5 g7 e0) := Lib.hid (HXg7.out.bel hb)
  replace HXg8 : Hid (OwnAt V5 g8 (m)) := Lib.hid (HXg8.out.bel hb)
  clear hb
  have hT : V5.cell? ⟨g8, 0, none⟩ = some (.int .i64 (m)) ∧ V5.cell? ⟨g3, a, none⟩ = some (.int .i64 (h a)) ∧ InAt V5 g5 42 d (a : Int) (b : Int) n := ⟨HXg8.out.cell, HXg3.out.cell (j := a) (by omega), HXg5.out⟩
  refine takeU 27 (i := 0) (v := .pointer (some ⟨g8, 0, none⟩)) rfl rfl rfl (by kernel_rfl) (by kernel_rfl) (by kernel_rfl) (by kernel_rfl) (fun _ _ _ h => h) (by kernel_rfl) (fun w0 hS => rfl) hT ?_
  try simp only [la, lz, ls]
  refine takeU 28 (i := 1) (v := .pointer (some ⟨g8, 0, none⟩)) rfl rfl rfl (by kernel_rfl) (by kernel_rfl) (by kernel_rfl) (by kernel_rfl) (fun _ _ _ h => h) (by kernel_rfl) (fun w0 hS => (by kernel_rfl)) hT ?_
  try simp only [la, lz, ls]
  refine takeU 29 (i := 2) (v := .int .i64 (m)) rfl rfl rfl (by kernel_rfl) (by kernel_rfl) (by kernel_rfl) (by kernel_rfl) (fun _ _ _ h => h) (by kernel_rfl) (fun w0 hS => (exec_cell 3 (.tmp 28) rfl ⟨g8, 0, none⟩ rfl _ _ hS.1 Tryd.underlying3 rfl)) hT ?_
  try simp only [la, lz, ls]
  refine takeU 30 (i := 3) (v := .pointer (some ⟨g5, 2, none⟩)) rfl rfl rfl (by kernel_rfl) (by kernel_rfl) (by kernel_rfl) (by kernel_rfl) (fun _ _ _ h => h) (by kernel_rfl) (fun w0 hS => (by kernel_rfl)) hT ?_
  try simp only [la, lz, ls]
  refine takeU 31 (i := 4) (v := .int .i64 (a : Int)) rfl rfl rfl (by kernel_rfl) (by kernel_rfl) (by kernel_rfl) (by kernel_rfl) (fun _ _ _ h => h) (by kernel_rfl) (fun w0 hS => (exec_cell 3 (.tmp 30) rfl ⟨g5, 2, none⟩ rfl _ _ (hS.2.2).cells.2.2.1 Tryd.underlying3 rfl)) hT ?_
  try simp only [la, lz, ls]
  refine takeU 32 (i := 5) (v := .pointer (some ⟨g3, 0, none⟩)) rfl rfl rfl (by kernel_rfl) (by kernel_rfl) (by kernel_rfl) (by kernel_rfl) (fun _ _ _ h => h) (by kernel_rfl) (fun w0 hS => (by kernel_rfl)) hT ?_
  try simp only [la, lz, ls]
  refine takeU 33 (i := 6) (v := .pointer (some ⟨g3, a, none⟩)) rfl rfl rfl (by kernel_rfl) (by kernel_rfl) (by kernel_rfl) (by kernel_rfl) (fun _ _ _ h => h) (by kernel_rfl) (fun w0 hS => (exec_reg rfl g3 a (by omega) rfl rfl _)) hT ?_
  try simp only [la, lz, ls]
  refine takeU 34 (i := 7) (v := .int .i64 (h a)) rfl rfl rfl (by kernel_rfl) (by kernel_rfl) (by kernel_rfl) (by kernel_rfl) (fun _ _ _ h => h) (by kernel_rfl) (fun w0 hS => (exec_cell 3 (.tmp 33) rfl ⟨g3, a, none⟩ rfl _ _ hS.2.1 Tryd.underlying3 rfl)) hT ?_
  try simp only [la, lz, ls]
  refine takeU 11 (i := 8) (v := .int .i64 (m)) rfl rfl rfl (by kernel_rfl) (by kernel_rfl) (by kernel_rfl) (by kernel_rfl) (fun _ _ _ h => h) (by kernel_rfl) (fun w0 hS => rfl) hT ?_
  try simp only [la, lz, ls]
  refine pureU 12 (i := 9) rfl rfl (by kernel_rfl) (by kernel_rfl) (v := .int .i64 (h a)) rfl hT ?_
  try simp only [la, lz, ls]
  refine Upto.done (by kernel_rfl) ?_ _
  clear hT
  rw [hy]
  refine hK _ _ ?_
  clear hK K
  have HX1 := Lib.hid hx
  have HY1 := Lib.hid hy
  clear hx hy
  have kg5_0 := HXg5.out.cells.1
  go_upto_region 11 with (fail)
  rename_i K hK
  refine wp_region_list ?_
  refine wpList_one rfl (w' := V5) (v := .pointer (some ⟨g8, 0, none⟩)) rfl ?_
  try simp only [Act.put, la, lz, ls]
  refine wpList_one rfl (w' := V5) (v := .int .i64 (bits .andNot .i64 m y)) rfl ?_
  try simp only [Act.put, la, lz, ls]
  refine wpList_one rfl (w' := V5) (v := .int .i64 bt) rfl ?_
  try simp only [Act.put, la, lz, ls]
  refine wpList_one rfl (w' := V5) (v := .int .i64 (bits .and .i64 (bits .andNot .i64 m y) bt)) (by kernel_rfl) ?_
  try simp only [Act.put, la, lz, ls]
  refine wpList_one rfl (w' := V5) (v := .pointer (some ⟨g8, 0, none⟩)) (by kernel_rfl) ?_
  try simp only [Act.put, la, lz, ls]
  refine wpList_store_cell rfl 3 (.tmp 51) (.tmp 50) rfl g8 0 rfl (.int .i64 (bits .and .i64 (bits .andNot .i64 m y) bt)) rfl HXg8.out.cell (HXg8.out.frozen 0) sz_int rfl ?_
  have hn := HXg8.out.set ((bits .and .i64 (bits .andNot .i64 m y) bt))
  have hb := (Svg.set g8 0 V5 (.int .i64 ((bits .and .i64 (bits .andNot .i64 m y) bt)))).bel HB.out (by have := HG.out; have := HG1.out; have := HG2.out; have := HG3.out; have := HG4.out; omega)
  have hg3 := ((Svg.set g8 0 V5 (.int .i64 ((bits .and .i64 (bits .andNot .i64 m y) bt)))).block g3 (lt_of_heap HXg3.out) (by have := HG.out; have := HG1.out; have := HG2.out; have := HG3.out; have := HG4.out; omega)).trans HXg3.out
  have hg5 := ((Svg.set g8 0 V5 (.int .i64 ((bits .and .i64 (bits .andNot .i64 m y) bt)))).block g5 (lt_of_heap HXg5.out) (by have := HG.out; have := HG1.out; have := HG2.out; have := HG3.out; have := HG4.out; omega)).trans HXg5.out
  have hg6 := ((Svg.set g8 0 V5 (.int .i64 ((bits .and .i64 (bits .andNot .i64 m y) bt)))).block g6 (lt_of_heap HXg6.out) (by have := HG.out; have := HG1.out; have := HG2.out; have := HG3.out; have := HG4.out; omega)).trans HXg6.out
  have hg7 := ((Svg.set g8 0 V5 (.int .i64 ((bits .and .i64 (bits .andNot .i64 m y) bt)))).block g7 (lt_of_heap HXg7.out) (by have := HG.out; have := HG1.out; have := HG2.out; have := HG3.out; have := HG4.out; omega)).trans HXg7.out
  generalize V5.setCell ⟨g8, 0, none⟩ (.int .i64 ((bits .and .i64 (bits .andNot .i64 m y) bt))) = V6 at hn hb hg3 hg5 hg6 hg7  ⊢
  clear HB HXg3 HXg5 HXg6 HXg7 HXg8
  have HB : Hid (Bel w V6) := Lib.hid hb
  have HXg3 : Hid (HAt V6 g3 h) := Lib.hid hg3
  have HXg5 : Hid (InAt V6 g5 42 d (a : Int) (b : Int) n) := Lib.hid hg5
  have HXg6 : Hid (HAt V6 g6 (fun _ => 0)) := Lib.hid hg6
  have HXg7 : Hid (EfAt V6 g7 e0) := Lib.hid hg7
  have HXg8 : Hid (OwnAt V6 g8 ((bits .and .i64 (bits .andNot .i64 m y) bt))) := Lib.hid hn
  clear hn hb hg3 hg5 hg6 hg7
  try simp only [Act.put, la, lz, ls]
  refine wpList_nil ?_
  refine hK _ _ ?_
  clear hK K
  clear kg5_0
  go_upto_region 12 with (fail)
  rename_i K hK
  refine wp_region_list ?_
  refine wpList_load_row rfl 28 (.tmp 3) rfl g3 rfl 28 (hC h) (0, 0) _ HXg3.out Tryd.underlying28 rfl (sz_hart _) ?_
  try simp only [Act.put, la, lz, ls]
  refine wpList_one rfl (w' := V6) (v := .pointer (some ⟨g5, 1, none⟩)) (by kernel_rfl) ?_
  try simp only [Act.put, la, lz, ls]
  refine wpList_load_cell rfl 3 (.tmp 53) rfl ⟨g5, 1, none⟩ rfl (.int .i64 d) _ HXg5.out.cells.2.1 Tryd.underlying3 rfl ?_
  try simp only [Act.put, la, lz, ls]
  refine wpList_one rfl (w' := V6) (v := .int .i64 m) rfl ?_
  try simp only [Act.put, la, lz, ls]
  refine wpList_call rfl (f := 18) (args := #[hv h, .int .i64 d, .int .i64 m]) (v := hv h2) (by kernel_rfl) (put_lit HP2.out _) ?_
  intro V7 hb
  replace HB : Hid (Bel w V7) := Lib.hid (HB.out.trans hb)
  replace HXg3 : Hid (HAt V7 g3 h) := Lib.hid (HXg3.out.bel hb)
  replace HXg5 : Hid (InAt V7 g5 42 d (a : Int) (b : Int) n) := Lib.hid (HXg5.out.bel hb)
  replace HXg6 : Hid (HAt V7 g6 (fun _ => 0)) := Lib.hid (HXg6.out.bel hb)
  replace HXg7 : Hid (EfAt V7 g7 e0) := Lib.hid (HXg7.out.bel hb)
  replace HXg8 : Hid (OwnAt V7 g8 ((bits .and .i64 (bits .andNot .i64 m y) bt))) := Lib.hid (HXg8.out.bel hb)
  clear hb
  try simp only [Act.put, la, lz, ls]
  refine wpList_call rfl (f := 38) (args := #[hv h2, .int .i64 4]) (v := hv h3) (by kernel_rfl) (goBy_lit HP3.out _) ?_
  intro V8 hb
  replace HB : Hid (Bel w V8) := Lib.hid (HB.out.trans hb)
  replace HXg3 : Hid (HAt V8 g3 h) := Lib.hid (HXg3.out.bel hb)
  replace HXg5 : Hid (InAt V8 g5 42 d (a : Int) (b : Int) n) := Lib.hid (HXg5.out.bel hb)
  replace HXg6 : Hid (HAt V8 g6 (fun _ => 0)) := Lib.hid (HXg6.out.bel hb)
  replace HXg7 : Hid (EfAt V8 g7 e0) := Lib.hid (HXg7.out.bel hb)
  replace HXg8 : Hid (OwnAt V8 g8 ((bits .and .i64 (bits .andNot .i64 m y) bt))) := Lib.hid (HXg8.out.bel hb)
  clear hb
  try simp only [Act.put, la, lz, ls]
  refine wpList_one rfl (w' := V8) (v := .agg (eC e0)) (by kernel_rfl) ?_
  try simp only [Act.put, la, lz, ls]
  refine wpList_store_row rfl 28 (.tmp 6) (.tmp 57) rfl g6 (hC h3) rfl rfl 28 (hC (fun _ => 0)) HXg6.out (sz_hart _) (by rw [hC_size, hC_size]) (hC_ones _) ?_
  have hn := row_same (cs := (hC h3)) HXg6.out
  have hb := row_bel HB.out (g := g6) (by have := HG.out; have := HG1.out; have := HG2.out; have := HG3.out; have := HG4.out; omega) (hC h3)
  have hg3 := (setRow_other V8 g6 g3 (hC h3) (by have := HG.out; have := HG1.out; have := HG2.out; have := HG3.out; have := HG4.out; omega)).trans HXg3.out
  have hg5 := (setRow_other V8 g6 g5 (hC h3) (by have := HG.out; have := HG1.out; have := HG2.out; have := HG3.out; have := HG4.out; omega)).trans HXg5.out
  have hg7 := (setRow_other V8 g6 g7 (hC h3) (by have := HG.out; have := HG1.out; have := HG2.out; have := HG3.out; have := HG4.out; omega)).trans HXg7.out
  have hg8 := (setRow_other V8 g6 g8 (hC h3) (by have := HG.out; have := HG1.out; have := HG2.out; have := HG3.out; have := HG4.out; omega)).trans HXg8.out
  generalize V8.setRow g6 (hC h3) = V9 at hn hb hg3 hg5 hg7 hg8 ⊢
  clear HB HXg3 HXg5 HXg6 HXg7 HXg8
  have HB : Hid (Bel w V9) := Lib.hid hb
  have HXg3 : Hid (HAt V9 g3 h) := Lib.hid hg3
  have HXg5 : Hid (InAt V9 g5 42 d (a : Int) (b : Int) n) := Lib.hid hg5
  have HXg7 : Hid (EfAt V9 g7 e0) := Lib.hid hg7
  have HXg8 : Hid (OwnAt V9 g8 ((bits .and .i64 (bits .andNot .i64 m y) bt))) := Lib.hid hg8
  have HXg6 : Hid (HAt V9 g6 h3) := Lib.hid hn
  clear hn hb hg3 hg5 hg7 hg8
  try simp only [Act.put, la, lz, ls]
  refine wpList_store_row rfl 34 (.tmp 7) (.tmp 58) rfl g7 (eC e0) rfl rfl 34 (eC e0) HXg7.out (sz_eff _) rfl (eC_ones _) ?_
  have hn := row_same (cs := (eC e0)) HXg7.out
  have hb := row_bel HB.out (g := g7) (by have := HG.out; have := HG1.out; have := HG2.out; have := HG3.out; have := HG4.out; omega) (eC e0)
  have hg3 := (setRow_other V9 g7 g3 (eC e0) (by have := HG.out; have := HG1.out; have := HG2.out; have := HG3.out; have := HG4.out; omega)).trans HXg3.out
  have hg5 := (setRow_other V9 g7 g5 (eC e0) (by have := HG.out; have := HG1.out; have := HG2.out; have := HG3.out; have := HG4.out; omega)).trans HXg5.out
  have hg6 := (setRow_other V9 g7 g6 (eC e0) (by have := HG.out; have := HG1.out; have := HG2.out; have := HG3.out; have := HG4.out; omega)).trans HXg6.out
  have hg8 := (setRow_other V9 g7 g8 (eC e0) (by have := HG.out; have := HG1.out; have := HG2.out; have := HG3.out; have := HG4.out; omega)).trans HXg8.out
  generalize V9.setRow g7 (eC e0) = V10 at hn hb hg3 hg5 hg6 hg8 ⊢
  clear HB HXg3 HXg5 HXg6 HXg7 HXg8
  have HB : Hid (Bel w V10) := Lib.hid hb
  have HXg3 : Hid (HAt V10 g3 h) := Lib.hid hg3
  have HXg5 : Hid (InAt V10 g5 42 d (a : Int) (b : Int) n) := Lib.hid hg5
  have HXg6 : Hid (HAt V10 g6 h3) := Lib.hid hg6
  have HXg8 : Hid (OwnAt V10 g8 ((bits .and .i64 (bits .andNot .i64 m y) bt))) := Lib.hid hg8
  have HXg7 : Hid (EfAt V10 g7 e0) := Lib.hid hn
  clear hn hb hg3 hg5 hg6 hg8
  try simp only [Act.put, la, lz, ls]
  refine wpList_nil ?_
  refine hK _ _ (wp_ret ?_)
  exact bodyPost_ret (results_cells2 Tryd.results36 _ _ g6 g7 _ _ _ _ _ _ _ _ (by rfl) (by rfl) HXg6.out HXg7.out Tryd.underlying28 rfl (sz_hart _) Tryd.underlying34 rfl (sz_eff _)) (by rfl) ⟨rfl, HB.out⟩
theorem csr_none {h : H} {a b : Nat} {o d n m id : Int} (hm : wrap32 id = m) (hn : n ≠ 768 ∧ n ≠ 773 ∧ n ≠ 832 ∧ n ≠ 833 ∧ n ≠ 834 ∧ n ≠ 1984 ∧ n ≠ 3860) (w : World) : Calls Tryd.prog 36 #[hv h, .int .i64 id, iv o d (a : Int) (b : Int) n] w (OneV (.tuple #[hv h, .agg (eC eBad)]) w) := by
  have HM := Lib.hid hm
  have HN := Lib.hid hn
  clear hm hn
  have hz := zero_hart
  go_enter Tryd.func36, Tryd.ntmps36
  go_upto_region 1 with (fail)
  obtain ⟨W0, hW, hb, hx3, hx5, hx6, hx7⟩ := boxes4 w (hC h) (iC o d (a : Int) (b : Int) n) hZ (eC e0) 28 24 28 34
  first | rw [← hW] | (show Code.wp _ _ _ _ ((((w.alloc (.cells (hC h) 28)).alloc (.cells (iC o d (a : Int) (b : Int) n) 24)).alloc (.cells hZ 28)).alloc (.cells (eC e0) 34)); rw [← hW])
  clear hz hW
  have hlt : w.heap.size < W0.heap.size := lt_of_heap hx3
  generalize hg : w.heap.size = g3 at hx3 hx5 hx6 hx7 hlt ⊢
  have HG := Lib.hid hg
  clear hg
  generalize hg : g3 + 1 = g5 at hx5 hx6 hx7 ⊢
  have HG1 := Lib.hid hg
  clear hg
  generalize hg : g5 + 1 = g6 at hx6 hx7 ⊢
  have HG2 := Lib.hid hg
  clear hg
  generalize hg : g6 + 1 = g7 at hx7 ⊢
  have HG3 := Lib.hid hg
  clear hg
  have HXg3 : Hid (HAt W0 g3 h) := Lib.hid hx3
  have HXg5 : Hid (InAt W0 g5 o d (a : Int) (b : Int) n) := Lib.hid hx5
  have HXg6 : Hid (HAt W0 g6 (fun _ => 0)) := Lib.hid hx6
  have HXg7 : Hid (EfAt W0 g7 e0) := Lib.hid hx7
  have HB : Hid (Bel w W0) := Lib.hid hb
  clear hb hlt hx3 hx5 hx6 hx7
  rename_i K hK
  refine wp_region_list ?_
  refine wpList_one rfl (w' := W0) (v := .int .i64 id) rfl ?_
  try simp only [Act.put, la, lz, ls]
  refine wpList_call rfl (f := 27) (args := #[.int .i64 id]) (v := .int .i64 m) (by kernel_rfl) (wl HM.out _) ?_
  intro V1 hb
  replace HB : Hid (Bel w V1) := Lib.hid (HB.out.trans hb)
  replace HXg3 : Hid (HAt V1 g3 h) := Lib.hid (HXg3.out.bel hb)
  replace HXg5 : Hid (InAt V1 g5 o d (a : Int) (b : Int) n) := Lib.hid (HXg5.out.bel hb)
  replace HXg6 : Hid (HAt V1 g6 (fun _ => 0)) := Lib.hid (HXg6.out.bel hb)
  replace HXg7 : Hid (EfAt V1 g7 e0) := Lib.hid (HXg7.out.bel hb)
  clear hb
  try simp only [Act.put, la, lz, ls]
  obtain ⟨hb, hx⟩ := box1 V1 #[.int .i64 0] 3
  refine wpList_one rfl (w' := V1.alloc (.cells #[.int .i64 0] 3)) (v := .pointer (some ⟨V1.heap.size, 0, none⟩)) (by kernel_rfl) ?_
  try simp only [Act.put, la, lz, ls]
  have hl7 := lt_of_heap HXg7.out
  generalize V1.alloc (.cells #[.int .i64 0] 3) = V2 at hb hx ⊢
  generalize V1.heap.size = g8 at hx hl7 ⊢
  have HG4 : Hid (g7 < g8) := Lib.hid hl7
  clear hl7
  replace HB : Hid (Bel w V2) := Lib.hid (HB.out.trans hb)
  replace HXg3 : Hid (HAt V2 g3 h) := Lib.hid (HXg3.out.bel hb)
  replace HXg5 : Hid (InAt V2 g5 o d (a : Int) (b : Int) n) := Lib.hid (HXg5.out.bel hb)
  replace HXg6 : Hid (HAt V2 g6 (fun _ => 0)) := Lib.hid (HXg6.out.bel hb)
  replace HXg7 : Hid (EfAt V2 g7 e0) := Lib.hid (HXg7.out.bel hb)
  have HXg8 : Hid (OwnAt V2 g8 0) := Lib.hid hx
  clear hb hx
  refine wpList_store_cell rfl 3 (.tmp 8) (.tmp 14) rfl g8 0 rfl (.int .i64 m) rfl HXg8.out.cell (HXg8.out.frozen 0) sz_int rfl ?_
  have hn := HXg8.out.set (m)
  have hb := (Svg.set g8 0 V2 (.int .i64 (m))).bel HB.out (by have := HG.out; have := HG1.out; have := HG2.out; have := HG3.out; have := HG4.out; omega)
  have hg3 := ((Svg.set g8 0 V2 (.int .i64 (m))).block g3 (lt_of_heap HXg3.out) (by have := HG.out; have := HG1.out; have := HG2.out; have := HG3.out; have := HG4.out; omega)).trans HXg3.out
  have hg5 := ((Svg.set g8 0 V2 (.int .i64 (m))).block g5 (lt_of_heap HXg5.out) (by have := HG.out; have := HG1.out; have := HG2.out; have := HG3.out; have := HG4.out; omega)).trans HXg5.out
  have hg6 := ((Svg.set g8 0 V2 (.int .i64 (m))).block g6 (lt_of_heap HXg6.out) (by have := HG.out; have := HG1.out; have := HG2.out; have := HG3.out; have := HG4.out; omega)).trans HXg6.out
  have hg7 := ((Svg.set g8 0 V2 (.int .i64 (m))).block g7 (lt_of_heap HXg7.out) (by have := HG.out; have := HG1.out; have := HG2.out; have := HG3.out; have := HG4.out; omega)).trans HXg7.out
  generalize V2.setCell ⟨g8, 0, none⟩ (.int .i64 (m)) = V3 at hn hb hg3 hg5 hg6 hg7  ⊢
  clear HB HXg3 HXg5 HXg6 HXg7 HXg8
  have HB : Hid (Bel w V3) := Lib.hid hb
  have HXg3 : Hid (HAt V3 g3 h) := Lib.hid hg3
  have HXg5 : Hid (InAt V3 g5 o d (a : Int) (b : Int) n) := Lib.hid hg5
  have HXg6 : Hid (HAt V3 g6 (fun _ => 0)) := Lib.hid hg6
  have HXg7 : Hid (EfAt V3 g7 e0) := Lib.hid hg7
  have HXg8 : Hid (OwnAt V3 g8 (m)) := Lib.hid hn
  clear hn hb hg3 hg5 hg6 hg7
  try simp only [Act.put, la, lz, ls]
  refine wpList_nil ?_
  refine hK _ _ ?_
  clear hK K
  go_upto_region 2 with (fail)
  rename_i K hK
  refine wp_region_list ?_
  refine wpList_one rfl (w' := V3) (v := .pointer (some ⟨g5, 4, none⟩)) (by kernel_rfl) ?_
  try simp only [Act.put, la, lz, ls]
  refine wpList_load_cell rfl 3 (.tmp 16) rfl ⟨g5, 4, none⟩ rfl (.int .i64 n) _ HXg5.out.cells.2.2.2.2 Tryd.underlying3 rfl ?_
  try simp only [Act.put, la, lz, ls]
  refine wpList_call rfl (f := 61) (args := #[.pointer (some ⟨g3, 0, none⟩), .pointer (some ⟨g8, 0, none⟩), .int .i64 n]) (v := .tuple #[.pointer none, .int .i64 0]) (by kernel_rfl) (of_none _ _ HN.out _) ?_
  intro V4 hb
  replace HB : Hid (Bel w V4) := Lib.hid (HB.out.trans hb)
  replace HXg3 : Hid (HAt V4 g3 h) := Lib.hid (HXg3.out.bel hb)
  replace HXg5 : Hid (InAt V4 g5 o d (a : Int) (b : Int) n) := Lib.hid (HXg5.out.bel hb)
  replace HXg6 : Hid (HAt V4 g6 (fun _ => 0)) := Lib.hid (HXg6.out.bel hb)
  replace HXg7 : Hid (EfAt V4 g7 e0) := Lib.hid (HXg7.out.bel hb)
  replace HXg8 : Hid (OwnAt V4 g8 (m)) := Lib.hid (HXg8.out.bel hb)
  clear hb
  try simp only [Act.put, la, lz, ls]
  refine wpList_one rfl (w' := V4) (v := .tuple #[.pointer none, .int .i64 0]) rfl ?_
  try simp only [Act.put, la, lz, ls]
  refine wpList_one rfl (w' := V4) (v := .pointer none) rfl ?_
  try simp only [Act.put, la, lz, ls]
  refine wpList_one rfl (w' := V4) (v := .int .i64 0) rfl ?_
  try simp only [Act.put, la, lz, ls]
  refine wpList_one rfl (w' := V4) (v := .pointer none) rfl ?_
  try simp only [Act.put, la, lz, ls]
  refine wpList_one rfl (w' := V4) (v := .int .i64 0) rfl ?_
  try simp only [Act.put, la, lz, ls]
  refine wpList_nil ?_
  refine hK _ _ ?_
  clear hK K
  go_upto_region 4 with (fail)
  rename_i K hK
  refine wp_region_list ?_
  refine wpList_load_row rfl 28 (.tmp 3) rfl g3 rfl 28 (hC h) (0, 0) _ HXg3.out Tryd.underlying28 rfl (sz_hart _) ?_
  try simp only [Act.put, la, lz, ls]
  refine wpList_call rfl (f := 32) (args := #[hv h]) (v := .tuple #[hv h, .agg (eC eBad)]) (by kernel_rfl) (bad_lit _ _) ?_
  intro V5 hb
  replace HB : Hid (Bel w V5) := Lib.hid (HB.out.trans hb)
  replace HXg3 : Hid (HAt V5 g3 h) := Lib.hid (HXg3.out.bel hb)
  replace HXg5 : Hid (InAt V5 g5 o d (a : Int) (b : Int) n) := Lib.hid (HXg5.out.bel hb)
  replace HXg6 : Hid (HAt V5 g6 (fun _ => 0)) := Lib.hid (HXg6.out.bel hb)
  replace HXg7 : Hid (EfAt V5 g7 e0) := Lib.hid (HXg7.out.bel hb)
  replace HXg8 : Hid (OwnAt V5 g8 (m)) := Lib.hid (HXg8.out.bel hb)
  clear hb
  try simp only [Act.put, la, lz, ls]
  refine wpList_one rfl (w' := V5) (v := hv h) rfl ?_
  try simp only [Act.put, la, lz, ls]
  refine wpList_one rfl (w' := V5) (v := .agg (eC eBad)) rfl ?_
  try simp only [Act.put, la, lz, ls]
  refine wpList_store_row rfl 28 (.tmp 6) (.tmp 25) rfl g6 (hC h) rfl rfl 28 (hC (fun _ => 0)) HXg6.out (sz_hart _) (by rw [hC_size, hC_size]) (hC_ones _) ?_
  have hn := row_same (cs := (hC h)) HXg6.out
  have hb := row_bel HB.out (g := g6) (by have := HG.out; have := HG1.out; have := HG2.out; have := HG3.out; have := HG4.out; omega) (hC h)
  have hg3 := (setRow_other V5 g6 g3 (hC h) (by have := HG.out; have := HG1.out; have := HG2.out; have := HG3.out; have := HG4.out; omega)).trans HXg3.out
  have hg5 := (setRow_other V5 g6 g5 (hC h) (by have := HG.out; have := HG1.out; have := HG2.out; have := HG3.out; have := HG4.out; omega)).trans HXg5.out
  have hg7 := (setRow_other V5 g6 g7 (hC h) (by have := HG.out; have := HG1.out; have := HG2.out; have := HG3.out; have := HG4.out; omega)).trans HXg7.out
  have hg8 := (setRow_other V5 g6 g8 (hC h) (by have := HG.out; have := HG1.out; have := HG2.out; have := HG3.out; have := HG4.out; omega)).trans HXg8.out
  generalize V5.setRow g6 (hC h) = V6 at hn hb hg3 hg5 hg7 hg8 ⊢
  clear HB HXg3 HXg5 HXg6 HXg7 HXg8
  have HB : Hid (Bel w V6) := Lib.hid hb
  have HXg3 : Hid (HAt V6 g3 h) := Lib.hid hg3
  have HXg5 : Hid (InAt V6 g5 o d (a : Int) (b : Int) n) := Lib.hid hg5
  have HXg7 : Hid (EfAt V6 g7 e0) := Lib.hid hg7
  have HXg8 : Hid (OwnAt V6 g8 (m)) := Lib.hid hg8
  have HXg6 : Hid (HAt V6 g6 h) := Lib.hid hn
  clear hn hb hg3 hg5 hg7 hg8
  try simp only [Act.put, la, lz, ls]
  refine wpList_store_row rfl 34 (.tmp 7) (.tmp 26) rfl g7 (eC eBad) rfl rfl 34 (eC e0) HXg7.out (sz_eff _) rfl (eC_ones _) ?_
  have hn := row_same (cs := (eC eBad)) HXg7.out
  have hb := row_bel HB.out (g := g7) (by have := HG.out; have := HG1.out; have := HG2.out; have := HG3.out; have := HG4.out; omega) (eC eBad)
  have hg3 := (setRow_other V6 g7 g3 (eC eBad) (by have := HG.out; have := HG1.out; have := HG2.out; have := HG3.out; have := HG4.out; omega)).trans HXg3.out
  have hg5 := (setRow_other V6 g7 g5 (eC eBad) (by have := HG.out; have := HG1.out; have := HG2.out; have := HG3.out; have := HG4.out; omega)).trans HXg5.out
  have hg6 := (setRow_other V6 g7 g6 (eC eBad) (by have := HG.out; have := HG1.out; have := HG2.out; have := HG3.out; have := HG4.out; omega)).trans HXg6.out
  have hg8 := (setRow_other V6 g7 g8 (eC eBad) (by have := HG.out; have := HG1.out; have := HG2.out; have := HG3.out; have := HG4.out; omega)).trans HXg8.out
  generalize V6.setRow g7 (eC eBad) = V7 at hn hb hg3 hg5 hg6 hg8 ⊢
  clear HB HXg3 HXg5 HXg6 HXg7 HXg8
  have HB : Hid (Bel w V7) := Lib.hid hb
  have HXg3 : Hid (HAt V7 g3 h) := Lib.hid hg3
  have HXg5 : Hid (InAt V7 g5 o d (a : Int) (b : Int) n) := Lib.hid hg5
  have HXg6 : Hid (HAt V7 g6 h) := Lib.hid hg6
  have HXg8 : Hid (OwnAt V7 g8 (m)) := Lib.hid hg8
  have HXg7 : Hid (EfAt V7 g7 eBad) := Lib.hid hn
  clear hn hb hg3 hg5 hg6 hg8
  try simp only [Act.put, la, lz, ls]
  refine wpList_nil ?_
  refine hK _ _ (wp_ret ?_)
  exact bodyPost_ret (results_cells2 Tryd.results36 _ _ g6 g7 _ _ _ _ _ _ _ _ (by rfl) (by rfl) HXg6.out HXg7.out Tryd.underlying28 rfl (sz_hart _) Tryd.underlying34 rfl (sz_eff _)) (by rfl) ⟨rfl, HB.out⟩
end Go.Proofs.YtgcgdjmlngfpeaaDoor
