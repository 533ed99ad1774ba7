/- Package hart: what an instruction makes for its register. -/
import Derived.Test.YtgcgdjmlngfpeaaDoorHFn3
import Derived.Test.YtgcgdjmlngfpeaaDoorHDiv
namespace Go.Proofs.YtgcgdjmlngfpeaaDoor
open Go.RowKit Ht
set_option linter.unusedVariables false
set_option linter.unusedSimpArgs false
set_option maxRecDepth 100000
set_option maxHeartbeats 2000000
theorem num_1 {h : H} {a b : Nat} {d n x y r v : Int} (ha : a < 32) (hb : b < 32) (hx : h a = x) (hy : (if (b : Int) = 0 then n else h b) = y) (hr : wrap64 (n * 4096) = v) {w : World} :
    Calls Tryd.prog 37 #[hv h, iv 1 d (a : Int) (b : Int) n] w fun e w' => e = .returned (.tuple #[.int .i64 v, .bool true]) ∧ Bel w w' := by
  have HS := Lib.hid hy
  clear hy
  have hz := zero_hart
  go_enter Tryd.func37, Tryd.ntmps37
  go_upto_region 1 with (fail)
  obtain ⟨W0, hW, hb, hx2, hx3⟩ := boxes2 w (hC h) (iC 1 d (a : Int) (b : Int) n) 28 24
  first | rw [← hW] | (show Code.wp _ _ _ _ ((w.alloc (.cells (hC h) 28)).alloc (.cells (iC 1 d (a : Int) (b : Int) n) 24)); rw [← hW])
  clear hz hW
  have hlt : w.heap.size < W0.heap.size := lt_of_heap hx2
  generalize hg : w.heap.size = g2 at hx2 hx3 hlt ⊢
  have HG := Lib.hid hg
  clear hg
  generalize hg : g2 + 1 = g3 at hx3 ⊢
  have HG1 := Lib.hid hg
  clear hg
  have HXg2 : Hid (HAt W0 g2 h) := Lib.hid hx2
  have HXg3 : Hid (InAt W0 g3 1 d (a : Int) (b : Int) n) := Lib.hid hx3
  have HB : Hid (Bel w W0) := Lib.hid hb
  clear hb hlt hx2 hx3
  go_upto_region 1 with (fail)
  rename_i K hK
  refine Upto.begin (z := 9) (T := fun w' => HAt w' g2 h ∧ InAt w' g3 1 d (a : Int) (b : Int) n) (by kernel_rfl) ?_
  have hb : Bel W0 W0.drew := (Bel.refl W0).drew
  generalize W0.drew = V1 at hb ⊢
  replace HB : Hid (Bel w V1) := Lib.hid (HB.out.trans hb)
  replace HXg2 : Hid (HAt V1 g2 h) := Lib.hid (HXg2.out.bel hb)
  replace HXg3 : Hid (InAt V1 g3 1 d (a : Int) (b : Int) n) := Lib.hid (HXg3.out.bel hb)
  clear hb
  have hT : HAt V1 g2 h ∧ InAt V1 g3 1 d (a : Int) (b : Int) n := ⟨HXg2.out, HXg3.out⟩
  refine takeU 12 (i := 0) (v := .pointer (some ⟨g3, 2, none⟩)) rfl rfl rfl (by kernel_rfl) (by kernel_rfl) (by kernel_rfl) (by kernel_rfl) (fun _ _ _ h => h) (by kernel_rfl) (fun w0 hS => (by kernel_rfl)) hT ?_
  try simp only [la, lz, ls]
  refine takeU 13 (i := 1) (v := .int .i64 (a : Int)) rfl rfl rfl (by kernel_rfl) (by kernel_rfl) (by kernel_rfl) (by kernel_rfl) (fun _ _ _ h => h) (by kernel_rfl) (fun w0 hS => (exec_cell 3 (.tmp 12) rfl ⟨g3, 2, none⟩ rfl _ _ (hS.2).cells.2.2.1 Tryd.underlying3 rfl)) hT ?_
  try simp only [la, lz, ls]
  refine takeU 14 (i := 2) (v := .pointer (some ⟨g2, 0, none⟩)) rfl rfl rfl (by kernel_rfl) (by kernel_rfl) (by kernel_rfl) (by kernel_rfl) (fun _ _ _ h => h) (by kernel_rfl) (fun w0 hS => (by kernel_rfl)) hT ?_
  try simp only [la, lz, ls]
  refine takeU 15 (i := 3) (v := .pointer (some ⟨g2, a, none⟩)) rfl rfl rfl (by kernel_rfl) (by kernel_rfl) (by kernel_rfl) (by kernel_rfl) (fun _ _ _ h => h) (by kernel_rfl) (fun w0 hS => (exec_reg rfl g2 a (by omega) rfl rfl _)) hT ?_
  try simp only [la, lz, ls]
  refine takeU 16 (i := 4) (v := .int .i64 (h a)) rfl rfl rfl (by kernel_rfl) (by kernel_rfl) (by kernel_rfl) (by kernel_rfl) (fun _ _ _ h => h) (by kernel_rfl) (fun w0 hS => (exec_cell 3 (.tmp 15) rfl ⟨g2, a, none⟩ rfl _ _ ((hS.1).cell (j := a) (by omega)) Tryd.underlying3 rfl)) hT ?_
  try simp only [la, lz, ls]
  refine takeU 17 (i := 5) (v := hv h) rfl rfl rfl (by kernel_rfl) (by kernel_rfl) (by kernel_rfl) (by kernel_rfl) (fun _ _ _ h => h) (by kernel_rfl) (fun w0 hS => (exec_row 28 (.tmp 2) rfl g2 rfl 28 (hC h) (0, 0) _ hS.1 Tryd.underlying28 rfl (sz_hart _))) hT ?_
  try simp only [la, lz, ls]
  refine takeU 18 (i := 6) (v := iv 1 d (a : Int) (b : Int) n) rfl rfl rfl (by kernel_rfl) (by kernel_rfl) (by kernel_rfl) (by kernel_rfl) (fun _ _ _ h => h) (by kernel_rfl) (fun w0 hS => (exec_row 24 (.tmp 3) rfl g3 rfl 24 (iC 1 d (a : Int) (b : Int) n) (0, 0) _ hS.2 Tryd.underlying24 rfl (sz_ins _ _ _ _ _))) hT ?_
  try simp only [la, lz, ls]
  refine callU 19 (i := 7) rfl rfl (by kernel_rfl) (by kernel_rfl) (f := 62) (args := #[hv h, iv 1 d (a : Int) (b : Int) n]) (v := .int .i64 y) (by kernel_rfl) (second_lit hb HS.out _) (fun w' hb => ⟨HXg2.out.bel hb, HXg3.out.bel hb⟩) ?_
  intro V2 hb
  try simp only [la, lz, ls]
  replace HB : Hid (Bel w V2) := Lib.hid (HB.out.trans hb)
  replace HXg2 : Hid (HAt V2 g2 h) := Lib.hid (HXg2.out.bel hb)
  replace HXg3 : Hid (InAt V2 g3 1 d (a : Int) (b : Int) n) := Lib.hid (HXg3.out.bel hb)
  clear hb hT
  have hT : HAt V2 g2 h ∧ InAt V2 g3 1 d (a : Int) (b : Int) n := ⟨HXg2.out, HXg3.out⟩
  refine takeU 6 (i := 8) (v := .int .i64 (h a)) rfl rfl rfl (by kernel_rfl) (by kernel_rfl) (by kernel_rfl) (by kernel_rfl) (fun _ _ _ h => h) (by kernel_rfl) (fun w0 hS => rfl) hT ?_
  try simp only [la, lz, ls]
  refine pureU 7 (i := 9) rfl rfl (by kernel_rfl) (by kernel_rfl) (v := .int .i64 y) rfl hT ?_
  try simp only [la, lz, ls]
  refine Upto.done (by kernel_rfl) ?_ _
  clear hT
  refine hK _ _ ?_
  clear hK K
  have HR := Lib.hid hr
  clear hr
  obtain ⟨k0, k1, k2, k3, k4⟩ := HXg3.out.cells
  go_wp2
  rw [HR.out]
  exact bodyPost_ret (results_tmp2 Tryd.results37 _ _ _) (by rfl) ⟨rfl, HB.out⟩
theorem num_2 {h : H} {a b : Nat} {d n x y r v : Int} (ha : a < 32) (hb : b < 32) (hx : h a = x) (hy : (if (b : Int) = 0 then n else h b) = y) (hr : place h (wrap64 (n * 4096)) = v) {w : World} :
    Calls Tryd.prog 37 #[hv h, iv 2 d (a : Int) (b : Int) n] w fun e w' => e = .returned (.tuple #[.int .i64 v, .bool true]) ∧ Bel w w' := by
  have HS := Lib.hid hy
  clear hy
  have hz := zero_hart
  go_enter Tryd.func37, Tryd.ntmps37
  go_upto_region 1 with (fail)
  obtain ⟨W0, hW, hb, hx2, hx3⟩ := boxes2 w (hC h) (iC 2 d (a : Int) (b : Int) n) 28 24
  first | rw [← hW] | (show Code.wp _ _ _ _ ((w.alloc (.cells (hC h) 28)).alloc (.cells (iC 2 d (a : Int) (b : Int) n) 24)); rw [← hW])
  clear hz hW
  have hlt : w.heap.size < W0.heap.size := lt_of_heap hx2
  generalize hg : w.heap.size = g2 at hx2 hx3 hlt ⊢
  have HG := Lib.hid hg
  clear hg
  generalize hg : g2 + 1 = g3 at hx3 ⊢
  have HG1 := Lib.hid hg
  clear hg
  have HXg2 : Hid (HAt W0 g2 h) := Lib.hid hx2
  have HXg3 : Hid (InAt W0 g3 2 d (a : Int) (b : Int) n) := Lib.hid hx3
  have HB : Hid (Bel w W0) := Lib.hid hb
  clear hb hlt hx2 hx3
  go_upto_region 1 with (fail)
  rename_i K hK
  refine Upto.begin (z := 9) (T := fun w' => HAt w' g2 h ∧ InAt w' g3 2 d (a : Int) (b : Int) n) (by kernel_rfl) ?_
  have hb : Bel W0 W0.drew := (Bel.refl W0).drew
  generalize W0.drew = V1 at hb ⊢
  replace HB : Hid (Bel w V1) := Lib.hid (HB.out.trans hb)
  replace HXg2 : Hid (HAt V1 g2 h) := Lib.hid (HXg2.out.bel hb)
  replace HXg3 : Hid (InAt V1 g3 2 d (a : Int) (b : Int) n) := Lib.hid (HXg3.out.bel hb)
  clear hb
  have hT : HAt V1 g2 h ∧ InAt V1 g3 2 d (a : Int) (b : Int) n := ⟨HXg2.out, HXg3.out⟩
  refine takeU 12 (i := 0) (v := .pointer (some ⟨g3, 2, none⟩)) rfl rfl rfl (by kernel_rfl) (by kernel_rfl) (by kernel_rfl) (by kernel_rfl) (fun _ _ _ h => h) (by kernel_rfl) (fun w0 hS => (by kernel_rfl)) hT ?_
  try simp only [la, lz, ls]
  refine takeU 13 (i := 1) (v := .int .i64 (a : Int)) rfl rfl rfl (by kernel_rfl) (by kernel_rfl) (by kernel_rfl) (by kernel_rfl) (fun _ _ _ h => h) (by kernel_rfl) (fun w0 hS => (exec_cell 3 (.tmp 12) rfl ⟨g3, 2, none⟩ rfl _ _ (hS.2).cells.2.2.1 Tryd.underlying3 rfl)) hT ?_
  try simp only [la, lz, ls]
  refine takeU 14 (i := 2) (v := .pointer (some ⟨g2, 0, none⟩)) rfl rfl rfl (by kernel_rfl) (by kernel_rfl) (by kernel_rfl) (by kernel_rfl) (fun _ _ _ h => h) (by kernel_rfl) (fun w0 hS => (by kernel_rfl)) hT ?_
  try simp only [la, lz, ls]
  refine takeU 15 (i := 3) (v := .pointer (some ⟨g2, a, none⟩)) rfl rfl rfl (by kernel_rfl) (by kernel_rfl) (by kernel_rfl) (by kernel_rfl) (fun _ _ _ h => h) (by kernel_rfl) (fun w0 hS => (exec_reg rfl g2 a (by omega) rfl rfl _)) hT ?_
  try simp only [la, lz, ls]
  refine takeU 16 (i := 4) (v := .int .i64 (h a)) rfl rfl rfl (by kernel_rfl) (by kernel_rfl) (by kernel_rfl) (by kernel_rfl) (fun _ _ _ h => h) (by kernel_rfl) (fun w0 hS => (exec_cell 3 (.tmp 15) rfl ⟨g2, a, none⟩ rfl _ _ ((hS.1).cell (j := a) (by omega)) Tryd.underlying3 rfl)) hT ?_
  try simp only [la, lz, ls]
  refine takeU 17 (i := 5) (v := hv h) rfl rfl rfl (by kernel_rfl) (by kernel_rfl) (by kernel_rfl) (by kernel_rfl) (fun _ _ _ h => h) (by kernel_rfl) (fun w0 hS => (exec_row 28 (.tmp 2) rfl g2 rfl 28 (hC h) (0, 0) _ hS.1 Tryd.underlying28 rfl (sz_hart _))) hT ?_
  try simp only [la, lz, ls]
  refine takeU 18 (i := 6) (v := iv 2 d (a : Int) (b : Int) n) rfl rfl rfl (by kernel_rfl) (by kernel_rfl) (by kernel_rfl) (by kernel_rfl) (fun _ _ _ h => h) (by kernel_rfl) (fun w0 hS => (exec_row 24 (.tmp 3) rfl g3 rfl 24 (iC 2 d (a : Int) (b : Int) n) (0, 0) _ hS.2 Tryd.underlying24 rfl (sz_ins _ _ _ _ _))) hT ?_
  try simp only [la, lz, ls]
  refine callU 19 (i := 7) rfl rfl (by kernel_rfl) (by kernel_rfl) (f := 62) (args := #[hv h, iv 2 d (a : Int) (b : Int) n]) (v := .int .i64 y) (by kernel_rfl) (second_lit hb HS.out _) (fun w' hb => ⟨HXg2.out.bel hb, HXg3.out.bel hb⟩) ?_
  intro V2 hb
  try simp only [la, lz, ls]
  replace HB : Hid (Bel w V2) := Lib.hid (HB.out.trans hb)
  replace HXg2 : Hid (HAt V2 g2 h) := Lib.hid (HXg2.out.bel hb)
  replace HXg3 : Hid (InAt V2 g3 2 d (a : Int) (b : Int) n) := Lib.hid (HXg3.out.bel hb)
  clear hb hT
  have hT : HAt V2 g2 h ∧ InAt V2 g3 2 d (a : Int) (b : Int) n := ⟨HXg2.out, HXg3.out⟩
  refine takeU 6 (i := 8) (v := .int .i64 (h a)) rfl rfl rfl (by kernel_rfl) (by kernel_rfl) (by kernel_rfl) (by kernel_rfl) (fun _ _ _ h => h) (by kernel_rfl) (fun w0 hS => rfl) hT ?_
  try simp only [la, lz, ls]
  refine pureU 7 (i := 9) rfl rfl (by kernel_rfl) (by kernel_rfl) (v := .int .i64 y) rfl hT ?_
  try simp only [la, lz, ls]
  refine Upto.done (by kernel_rfl) ?_ _
  clear hT
  refine hK _ _ ?_
  clear hK K
  have HR := Lib.hid hr
  clear hr
  obtain ⟨k0, k1, k2, k3, k4⟩ := HXg3.out.cells
  go_wp2_with (refine wpList_load_row rfl 28 (.tmp 2) rfl g2 rfl 28 (hC h) (0, 0) _ HXg2.out Tryd.underlying28 rfl (sz_hart _) ?_)
  refine (place_lit HR.out _).mono ?_
  rintro e W ⟨rfl, hb9⟩
  go_wp2
  exact bodyPost_ret (results_tmp2 Tryd.results37 _ _ _) (by rfl) ⟨rfl, HB.out.trans hb9⟩
theorem num_20 {h : H} {a b : Nat} {d n x y r v : Int} (ha : a < 32) (hb : b < 32) (hx : h a = x) (hy : (if (b : Int) = 0 then n else h b) = y) (hr : x % 4294967296 / 2 ^ (y % 32).toNat = v) {w : World} :
    Calls Tryd.prog 37 #[hv h, iv 20 d (a : Int) (b : Int) n] w fun e w' => e = .returned (.tuple #[.int .i64 v, .bool true]) ∧ Bel w w' := by
  have HS := Lib.hid hy
  clear hy
  have hz := zero_hart
  go_enter Tryd.func37, Tryd.ntmps37
  go_upto_region 1 with (fail)
  obtain ⟨W0, hW, hb, hx2, hx3⟩ := boxes2 w (hC h) (iC 20 d (a : Int) (b : Int) n) 28 24
  first | rw [← hW] | (show Code.wp _ _ _ _ ((w.alloc (.cells (hC h) 28)).alloc (.cells (iC 20 d (a : Int) (b : Int) n) 24)); rw [← hW])
  clear hz hW
  have hlt : w.heap.size < W0.heap.size := lt_of_heap hx2
  generalize hg : w.heap.size = g2 at hx2 hx3 hlt ⊢
  have HG := Lib.hid hg
  clear hg
  generalize hg : g2 + 1 = g3 at hx3 ⊢
  have HG1 := Lib.hid hg
  clear hg
  have HXg2 : Hid (HAt W0 g2 h) := Lib.hid hx2
  have HXg3 : Hid (InAt W0 g3 20 d (a : Int) (b : Int) n) := Lib.hid hx3
  have HB : Hid (Bel w W0) := Lib.hid hb
  clear hb hlt hx2 hx3
  go_upto_region 1 with (fail)
  rename_i K hK
  refine Upto.begin (z := 9) (T := fun w' => HAt w' g2 h ∧ InAt w' g3 20 d (a : Int) (b : Int) n) (by kernel_rfl) ?_
  have hb : Bel W0 W0.drew := (Bel.refl W0).drew
  generalize W0.drew = V1 at hb ⊢
  replace HB : Hid (Bel w V1) := Lib.hid (HB.out.trans hb)
  replace HXg2 : Hid (HAt V1 g2 h) := Lib.hid (HXg2.out.bel hb)
  replace HXg3 : Hid (InAt V1 g3 20 d (a : Int) (b : Int) n) := Lib.hid (HXg3.out.bel hb)
  clear hb
  have hT : HAt V1 g2 h ∧ InAt V1 g3 20 d (a : Int) (b : Int) n := ⟨HXg2.out, HXg3.out⟩
  refine takeU 12 (i := 0) (v := .pointer (some ⟨g3, 2, none⟩)) rfl rfl rfl (by kernel_rfl) (by kernel_rfl) (by kernel_rfl) (by kernel_rfl) (fun _ _ _ h => h) (by kernel_rfl) (fun w0 hS => (by kernel_rfl)) hT ?_
  try simp only [la, lz, ls]
  refine takeU 13 (i := 1) (v := .int .i64 (a : Int)) rfl rfl rfl (by kernel_rfl) (by kernel_rfl) (by kernel_rfl) (by kernel_rfl) (fun _ _ _ h => h) (by kernel_rfl) (fun w0 hS => (exec_cell 3 (.tmp 12) rfl ⟨g3, 2, none⟩ rfl _ _ (hS.2).cells.2.2.1 Tryd.underlying3 rfl)) hT ?_
  try simp only [la, lz, ls]
  refine takeU 14 (i := 2) (v := .pointer (some ⟨g2, 0, none⟩)) rfl rfl rfl (by kernel_rfl) (by kernel_rfl) (by kernel_rfl) (by kernel_rfl) (fun _ _ _ h => h) (by kernel_rfl) (fun w0 hS => (by kernel_rfl)) hT ?_
  try simp only [la, lz, ls]
  refine takeU 15 (i := 3) (v := .pointer (some ⟨g2, a, none⟩)) rfl rfl rfl (by kernel_rfl) (by kernel_rfl) (by kernel_rfl) (by kernel_rfl) (fun _ _ _ h => h) (by kernel_rfl) (fun w0 hS => (exec_reg rfl g2 a (by omega) rfl rfl _)) hT ?_
  try simp only [la, lz, ls]
  refine takeU 16 (i := 4) (v := .int .i64 (h a)) rfl rfl rfl (by kernel_rfl) (by kernel_rfl) (by kernel_rfl) (by kernel_rfl) (fun _ _ _ h => h) (by kernel_rfl) (fun w0 hS => (exec_cell 3 (.tmp 15) rfl ⟨g2, a, none⟩ rfl _ _ ((hS.1).cell (j := a) (by omega)) Tryd.underlying3 rfl)) hT ?_
  try simp only [la, lz, ls]
  refine takeU 17 (i := 5) (v := hv h) rfl rfl rfl (by kernel_rfl) (by kernel_rfl) (by kernel_rfl) (by kernel_rfl) (fun _ _ _ h => h) (by kernel_rfl) (fun w0 hS => (exec_row 28 (.tmp 2) rfl g2 rfl 28 (hC h) (0, 0) _ hS.1 Tryd.underlying28 rfl (sz_hart _))) hT ?_
  try simp only [la, lz, ls]
  refine takeU 18 (i := 6) (v := iv 20 d (a : Int) (b : Int) n) rfl rfl rfl (by kernel_rfl) (by kernel_rfl) (by kernel_rfl) (by kernel_rfl) (fun _ _ _ h => h) (by kernel_rfl) (fun w0 hS => (exec_row 24 (.tmp 3) rfl g3 rfl 24 (iC 20 d (a : Int) (b : Int) n) (0, 0) _ hS.2 Tryd.underlying24 rfl (sz_ins _ _ _ _ _))) hT ?_
  try simp only [la, lz, ls]
  refine callU 19 (i := 7) rfl rfl (by kernel_rfl) (by kernel_rfl) (f := 62) (args := #[hv h, iv 20 d (a : Int) (b : Int) n]) (v := .int .i64 y) (by kernel_rfl) (second_lit hb HS.out _) (fun w' hb => ⟨HXg2.out.bel hb, HXg3.out.bel hb⟩) ?_
  intro V2 hb
  try simp only [la, lz, ls]
  replace HB : Hid (Bel w V2) := Lib.hid (HB.out.trans hb)
  replace HXg2 : Hid (HAt V2 g2 h) := Lib.hid (HXg2.out.bel hb)
  replace HXg3 : Hid (InAt V2 g3 20 d (a : Int) (b : Int) n) := Lib.hid (HXg3.out.bel hb)
  clear hb hT
  have hT : HAt V2 g2 h ∧ InAt V2 g3 20 d (a : Int) (b : Int) n := ⟨HXg2.out, HXg3.out⟩
  refine takeU 6 (i := 8) (v := .int .i64 (h a)) rfl rfl rfl (by kernel_rfl) (by kernel_rfl) (by kernel_rfl) (by kernel_rfl) (fun _ _ _ h => h) (by kernel_rfl) (fun w0 hS => rfl) hT ?_
  try simp only [la, lz, ls]
  refine pureU 7 (i := 9) rfl rfl (by kernel_rfl) (by kernel_rfl) (v := .int .i64 y) rfl hT ?_
  try simp only [la, lz, ls]
  refine Upto.done (by kernel_rfl) ?_ _
  clear hT
  refine hK _ _ ?_
  clear hK K
  have HR := Lib.hid hr
  clear hr
  obtain ⟨k0, k1, k2, k3, k4⟩ := HXg3.out.cells
  have h31 := Plain.and31 y
  obtain ⟨k, hk⟩ : ∃ k : Nat, y % 32 = k := ⟨(y % 32).toNat, by omega⟩
  have hk32 : k < 32 := by omega
  rw [hk] at h31
  have HK := Lib.hid hk
  clear hk
  have hk0 : (0 : Int) ≤ k := by omega
  have hk1 : (k : Int) < 64 := by omega
  go_wp2_with fail
  refine (word_any _ _).mono ?_
  rintro e W ⟨rfl, rfl⟩
  go_wp2
  refine bodyPost_ret (results_tmp2 Tryd.results37 _ _ _) (by rfl) ⟨?_, HB.out⟩
  rw [← HR.out, HK.out, Int.toNat_natCast]
  rfl
theorem num_28 {h : H} {a b : Nat} {d n x y r v : Int} (ha : a < 32) (hb : b < 32) (hx : h a = x) (hy : (if (b : Int) = 0 then n else h b) = y) (hr : x % 4294967296 / 2 ^ (y % 32).toNat = v) {w : World} :
    Calls Tryd.prog 37 #[hv h, iv 28 d (a : Int) (b : Int) n] w fun e w' => e = .returned (.tuple #[.int .i64 v, .bool true]) ∧ Bel w w' := by
  have HS := Lib.hid hy
  clear hy
  have hz := zero_hart
  go_enter Tryd.func37, Tryd.ntmps37
  go_upto_region 1 with (fail)
  obtain ⟨W0, hW, hb, hx2, hx3⟩ := boxes2 w (hC h) (iC 28 d (a : Int) (b : Int) n) 28 24
  first | rw [← hW] | (show Code.wp _ _ _ _ ((w.alloc (.cells (hC h) 28)).alloc (.cells (iC 28 d (a : Int) (b : Int) n) 24)); rw [← hW])
  clear hz hW
  have hlt : w.heap.size < W0.heap.size := lt_of_heap hx2
  generalize hg : w.heap.size = g2 at hx2 hx3 hlt ⊢
  have HG := Lib.hid hg
  clear hg
  generalize hg : g2 + 1 = g3 at hx3 ⊢
  have HG1 := Lib.hid hg
  clear hg
  have HXg2 : Hid (HAt W0 g2 h) := Lib.hid hx2
  have HXg3 : Hid (InAt W0 g3 28 d (a : Int) (b : Int) n) := Lib.hid hx3
  have HB : Hid (Bel w W0) := Lib.hid hb
  clear hb hlt hx2 hx3
  go_upto_region 1 with (fail)
  rename_i K hK
  refine Upto.begin (z := 9) (T := fun w' => HAt w' g2 h ∧ InAt w' g3 28 d (a : Int) (b : Int) n) (by kernel_rfl) ?_
  have hb : Bel W0 W0.drew := (Bel.refl W0).drew
  generalize W0.drew = V1 at hb ⊢
  replace HB : Hid (Bel w V1) := Lib.hid (HB.out.trans hb)
  replace HXg2 : Hid (HAt V1 g2 h) := Lib.hid (HXg2.out.bel hb)
  replace HXg3 : Hid (InAt V1 g3 28 d (a : Int) (b : Int) n) := Lib.hid (HXg3.out.bel hb)
  clear hb
  have hT : HAt V1 g2 h ∧ InAt V1 g3 28 d (a : Int) (b : Int) n := ⟨HXg2.out, HXg3.out⟩
  refine takeU 12 (i := 0) (v := .pointer (some ⟨g3, 2, none⟩)) rfl rfl rfl (by kernel_rfl) (by kernel_rfl) (by kernel_rfl) (by kernel_rfl) (fun _ _ _ h => h) (by kernel_rfl) (fun w0 hS => (by kernel_rfl)) hT ?_
  try simp only [la, lz, ls]
  refine takeU 13 (i := 1) (v := .int .i64 (a : Int)) rfl rfl rfl (by kernel_rfl) (by kernel_rfl) (by kernel_rfl) (by kernel_rfl) (fun _ _ _ h => h) (by kernel_rfl) (fun w0 hS => (exec_cell 3 (.tmp 12) rfl ⟨g3, 2, none⟩ rfl _ _ (hS.2).cells.2.2.1 Tryd.underlying3 rfl)) hT ?_
  try simp only [la, lz, ls]
  refine takeU 14 (i := 2) (v := .pointer (some ⟨g2, 0, none⟩)) rfl rfl rfl (by kernel_rfl) (by kernel_rfl) (by kernel_rfl) (by kernel_rfl) (fun _ _ _ h => h) (by kernel_rfl) (fun w0 hS => (by kernel_rfl)) hT ?_
  try simp only [la, lz, ls]
  refine takeU 15 (i := 3) (v := .pointer (some ⟨g2, a, none⟩)) rfl rfl rfl (by kernel_rfl) (by kernel_rfl) (by kernel_rfl) (by kernel_rfl) (fun _ _ _ h => h) (by kernel_rfl) (fun w0 hS => (exec_reg rfl g2 a (by omega) rfl rfl _)) hT ?_
  try simp only [la, lz, ls]
  refine takeU 16 (i := 4) (v := .int .i64 (h a)) rfl rfl rfl (by kernel_rfl) (by kernel_rfl) (by kernel_rfl) (by kernel_rfl) (fun _ _ _ h => h) (by kernel_rfl) (fun w0 hS => (exec_cell 3 (.tmp 15) rfl ⟨g2, a, none⟩ rfl _ _ ((hS.1).cell (j := a) (by omega)) Tryd.underlying3 rfl)) hT ?_
  try simp only [la, lz, ls]
  refine takeU 17 (i := 5) (v := hv h) rfl rfl rfl (by kernel_rfl) (by kernel_rfl) (by kernel_rfl) (by kernel_rfl) (fun _ _ _ h => h) (by kernel_rfl) (fun w0 hS => (exec_row 28 (.tmp 2) rfl g2 rfl 28 (hC h) (0, 0) _ hS.1 Tryd.underlying28 rfl (sz_hart _))) hT ?_
  try simp only [la, lz, ls]
  refine takeU 18 (i := 6) (v := iv 28 d (a : Int) (b : Int) n) rfl rfl rfl (by kernel_rfl) (by kernel_rfl) (by kernel_rfl) (by kernel_rfl) (fun _ _ _ h => h) (by kernel_rfl) (fun w0 hS => (exec_row 24 (.tmp 3) rfl g3 rfl 24 (iC 28 d (a : Int) (b : Int) n) (0, 0) _ hS.2 Tryd.underlying24 rfl (sz_ins _ _ _ _ _))) hT ?_
  try simp only [la, lz, ls]
  refine callU 19 (i := 7) rfl rfl (by kernel_rfl) (by kernel_rfl) (f := 62) (args := #[hv h, iv 28 d (a : Int) (b : Int) n]) (v := .int .i64 y) (by kernel_rfl) (second_lit hb HS.out _) (fun w' hb => ⟨HXg2.out.bel hb, HXg3.out.bel hb⟩) ?_
  intro V2 hb
  try simp only [la, lz, ls]
  replace HB : Hid (Bel w V2) := Lib.hid (HB.out.trans hb)
  replace HXg2 : Hid (HAt V2 g2 h) := Lib.hid (HXg2.out.bel hb)
  replace HXg3 : Hid (InAt V2 g3 28 d (a : Int) (b : Int) n) := Lib.hid (HXg3.out.bel hb)
  clear hb hT
  have hT : HAt V2 g2 h ∧ InAt V2 g3 28 d (a : Int) (b : Int) n := ⟨HXg2.out, HXg3.out⟩
  refine takeU 6 (i := 8) (v := .int .i64 (h a)) rfl rfl rfl (by kernel_rfl) (by kernel_rfl) (by kernel_rfl) (by kernel_rfl) (fun _ _ _ h => h) (by kernel_rfl) (fun w0 hS => rfl) hT ?_
  try simp only [la, lz, ls]
  refine pureU 7 (i := 9) rfl rfl (by kernel_rfl) (by kernel_rfl) (v := .int .i64 y) rfl hT ?_
  try simp only [la, lz, ls]
  refine Upto.done (by kernel_rfl) ?_ _
  clear hT
  refine hK _ _ ?_
  clear hK K
  have HR := Lib.hid hr
  clear hr
  obtain ⟨k0, k1, k2, k3, k4⟩ := HXg3.out.cells
  have h31 := Plain.and31 y
  obtain ⟨k, hk⟩ : ∃ k : Nat, y % 32 = k := ⟨(y % 32).toNat, by omega⟩
  have hk32 : k < 32 := by omega
  rw [hk] at h31
  have HK := Lib.hid hk
  clear hk
  have hk0 : (0 : Int) ≤ k := by omega
  have hk1 : (k : Int) < 64 := by omega
  go_wp2_with fail
  refine (word_any _ _).mono ?_
  rintro e W ⟨rfl, rfl⟩
  go_wp2
  refine bodyPost_ret (results_tmp2 Tryd.results37 _ _ _) (by rfl) ⟨?_, HB.out⟩
  rw [← HR.out, HK.out, Int.toNat_natCast]
  rfl
theorem num_33 {h : H} {a b : Nat} {d n x y r v : Int} (ha : a < 32) (hb : b < 32) (hx : h a = x) (hy : (if (b : Int) = 0 then n else h b) = y) (hr : Plain.high x y true = v) {w : World} :
    Calls Tryd.prog 37 #[hv h, iv 33 d (a : Int) (b : Int) n] w fun e w' => e = .returned (.tuple #[.int .i64 v, .bool true]) ∧ Bel w w' := by
  have HS := Lib.hid hy
  clear hy
  have hz := zero_hart
  go_enter Tryd.func37, Tryd.ntmps37
  go_upto_region 1 with (fail)
  obtain ⟨W0, hW, hb, hx2, hx3⟩ := boxes2 w (hC h) (iC 33 d (a : Int) (b : Int) n) 28 24
  first | rw [← hW] | (show Code.wp _ _ _ _ ((w.alloc (.cells (hC h) 28)).alloc (.cells (iC 33 d (a : Int) (b : Int) n) 24)); rw [← hW])
  clear hz hW
  have hlt : w.heap.size < W0.heap.size := lt_of_heap hx2
  generalize hg : w.heap.size = g2 at hx2 hx3 hlt ⊢
  have HG := Lib.hid hg
  clear hg
  generalize hg : g2 + 1 = g3 at hx3 ⊢
  have HG1 := Lib.hid hg
  clear hg
  have HXg2 : Hid (HAt W0 g2 h) := Lib.hid hx2
  have HXg3 : Hid (InAt W0 g3 33 d (a : Int) (b : Int) n) := Lib.hid hx3
  have HB : Hid (Bel w W0) := Lib.hid hb
  clear hb hlt hx2 hx3
  go_upto_region 1 with (fail)
  rename_i K hK
  refine Upto.begin (z := 9) (T := fun w' => HAt w' g2 h ∧ InAt w' g3 33 d (a : Int) (b : Int) n) (by kernel_rfl) ?_
  have hb : Bel W0 W0.drew := (Bel.refl W0).drew
  generalize W0.drew = V1 at hb ⊢
  replace HB : Hid (Bel w V1) := Lib.hid (HB.out.trans hb)
  replace HXg2 : Hid (HAt V1 g2 h) := Lib.hid (HXg2.out.bel hb)
  replace HXg3 : Hid (InAt V1 g3 33 d (a : Int) (b : Int) n) := Lib.hid (HXg3.out.bel hb)
  clear hb
  have hT : HAt V1 g2 h ∧ InAt V1 g3 33 d (a : Int) (b : Int) n := ⟨HXg2.out, HXg3.out⟩
  refine takeU 12 (i := 0) (v := .pointer (some ⟨g3, 2, none⟩)) rfl rfl rfl (by kernel_rfl) (by kernel_rfl) (by kernel_rfl) (by kernel_rfl) (fun _ _ _ h => h) (by kernel_rfl) (fun w0 hS => (by kernel_rfl)) hT ?_
  try simp only [la, lz, ls]
  refine takeU 13 (i := 1) (v := .int .i64 (a : Int)) rfl rfl rfl (by kernel_rfl) (by kernel_rfl) (by kernel_rfl) (by kernel_rfl) (fun _ _ _ h => h) (by kernel_rfl) (fun w0 hS => (exec_cell 3 (.tmp 12) rfl ⟨g3, 2, none⟩ rfl _ _ (hS.2).cells.2.2.1 Tryd.underlying3 rfl)) hT ?_
  try simp only [la, lz, ls]
  refine takeU 14 (i := 2) (v := .pointer (some ⟨g2, 0, none⟩)) rfl rfl rfl (by kernel_rfl) (by kernel_rfl) (by kernel_rfl) (by kernel_rfl) (fun _ _ _ h => h) (by kernel_rfl) (fun w0 hS => (by kernel_rfl)) hT ?_
  try simp only [la, lz, ls]
  refine takeU 15 (i := 3) (v := .pointer (some ⟨g2, a, none⟩)) rfl rfl rfl (by kernel_rfl) (by kernel_rfl) (by kernel_rfl) (by kernel_rfl) (fun _ _ _ h => h) (by kernel_rfl) (fun w0 hS => (exec_reg rfl g2 a (by omega) rfl rfl _)) hT ?_
  try simp only [la, lz, ls]
  refine takeU 16 (i := 4) (v := .int .i64 (h a)) rfl rfl rfl (by kernel_rfl) (by kernel_rfl) (by kernel_rfl) (by kernel_rfl) (fun _ _ _ h => h) (by kernel_rfl) (fun w0 hS => (exec_cell 3 (.tmp 15) rfl ⟨g2, a, none⟩ rfl _ _ ((hS.1).cell (j := a) (by omega)) Tryd.underlying3 rfl)) hT ?_
  try simp only [la, lz, ls]
  refine takeU 17 (i := 5) (v := hv h) rfl rfl rfl (by kernel_rfl) (by kernel_rfl) (by kernel_rfl) (by kernel_rfl) (fun _ _ _ h => h) (by kernel_rfl) (fun w0 hS => (exec_row 28 (.tmp 2) rfl g2 rfl 28 (hC h) (0, 0) _ hS.1 Tryd.underlying28 rfl (sz_hart _))) hT ?_
  try simp only [la, lz, ls]
  refine takeU 18 (i := 6) (v := iv 33 d (a : Int) (b : Int) n) rfl rfl rfl (by kernel_rfl) (by kernel_rfl) (by kernel_rfl) (by kernel_rfl) (fun _ _ _ h => h) (by kernel_rfl) (fun w0 hS => (exec_row 24 (.tmp 3) rfl g3 rfl 24 (iC 33 d (a : Int) (b : Int) n) (0, 0) _ hS.2 Tryd.underlying24 rfl (sz_ins _ _ _ _ _))) hT ?_
  try simp only [la, lz, ls]
  refine callU 19 (i := 7) rfl rfl (by kernel_rfl) (by kernel_rfl) (f := 62) (args := #[hv h, iv 33 d (a : Int) (b : Int) n]) (v := .int .i64 y) (by kernel_rfl) (second_lit hb HS.out _) (fun w' hb => ⟨HXg2.out.bel hb, HXg3.out.bel hb⟩) ?_
  intro V2 hb
  try simp only [la, lz, ls]
  replace HB : Hid (Bel w V2) := Lib.hid (HB.out.trans hb)
  replace HXg2 : Hid (HAt V2 g2 h) := Lib.hid (HXg2.out.bel hb)
  replace HXg3 : Hid (InAt V2 g3 33 d (a : Int) (b : Int) n) := Lib.hid (HXg3.out.bel hb)
  clear hb hT
  have hT : HAt V2 g2 h ∧ InAt V2 g3 33 d (a : Int) (b : Int) n := ⟨HXg2.out, HXg3.out⟩
  refine takeU 6 (i := 8) (v := .int .i64 (h a)) rfl rfl rfl (by kernel_rfl) (by kernel_rfl) (by kernel_rfl) (by kernel_rfl) (fun _ _ _ h => h) (by kernel_rfl) (fun w0 hS => rfl) hT ?_
  try simp only [la, lz, ls]
  refine pureU 7 (i := 9) rfl rfl (by kernel_rfl) (by kernel_rfl) (v := .int .i64 y) rfl hT ?_
  try simp only [la, lz, ls]
  refine Upto.done (by kernel_rfl) ?_ _
  clear hT
  refine hK _ _ ?_
  clear hK K
  have HR := Lib.hid hr
  have HX := Lib.hid hx
  clear hr hx
  obtain ⟨k0, k1, k2, k3, k4⟩ := HXg3.out.cells
  go_wp2_with fail
  refine (high_lit (show Plain.high (h a) y true = v by rw [HX.out]; exact HR.out) _).mono ?_
  rintro e W ⟨rfl, rfl⟩
  go_wp2
  exact bodyPost_ret (results_tmp2 Tryd.results37 _ _ _) (by rfl) ⟨rfl, HB.out⟩
theorem num_34 {h : H} {a b : Nat} {d n x y r v : Int} (ha : a < 32) (hb : b < 32) (hx : h a = x) (hy : (if (b : Int) = 0 then n else h b) = y) (hr : Plain.high x y false = v) {w : World} :
    Calls Tryd.prog 37 #[hv h, iv 34 d (a : Int) (b : Int) n] w fun e w' => e = .returned (.tuple #[.int .i64 v, .bool true]) ∧ Bel w w' := by
  have HS := Lib.hid hy
  clear hy
  have hz := zero_hart
  go_enter Tryd.func37, Tryd.ntmps37
  go_upto_region 1 with (fail)
  obtain ⟨W0, hW, hb, hx2, hx3⟩ := boxes2 w (hC h) (iC 34 d (a : Int) (b : Int) n) 28 24
  first | rw [← hW] | (show Code.wp _ _ _ _ ((w.alloc (.cells (hC h) 28)).alloc (.cells (iC 34 d (a : Int) (b : Int) n) 24)); rw [← hW])
  clear hz hW
  have hlt : w.heap.size < W0.heap.size := lt_of_heap hx2
  generalize hg : w.heap.size = g2 at hx2 hx3 hlt ⊢
  have HG := Lib.hid hg
  clear hg
  generalize hg : g2 + 1 = g3 at hx3 ⊢
  have HG1 := Lib.hid hg
  clear hg
  have HXg2 : Hid (HAt W0 g2 h) := Lib.hid hx2
  have HXg3 : Hid (InAt W0 g3 34 d (a : Int) (b : Int) n) := Lib.hid hx3
  have HB : Hid (Bel w W0) := Lib.hid hb
  clear hb hlt hx2 hx3
  go_upto_region 1 with (fail)
  rename_i K hK
  refine Upto.begin (z := 9) (T := fun w' => HAt w' g2 h ∧ InAt w' g3 34 d (a : Int) (b : Int) n) (by kernel_rfl) ?_
  have hb : Bel W0 W0.drew := (Bel.refl W0).drew
  generalize W0.drew = V1 at hb ⊢
  replace HB : Hid (Bel w V1) := Lib.hid (HB.out.trans hb)
  replace HXg2 : Hid (HAt V1 g2 h) := Lib.hid (HXg2.out.bel hb)
  replace HXg3 : Hid (InAt V1 g3 34 d (a : Int) (b : Int) n) := Lib.hid (HXg3.out.bel hb)
  clear hb
  have hT : HAt V1 g2 h ∧ InAt V1 g3 34 d (a : Int) (b : Int) n := ⟨HXg2.out, HXg3.out⟩
  refine takeU 12 (i := 0) (v := .pointer (some ⟨g3, 2, none⟩)) rfl rfl rfl (by kernel_rfl) (by kernel_rfl) (by kernel_rfl) (by kernel_rfl) (fun _ _ _ h => h) (by kernel_rfl) (fun w0 hS => (by kernel_rfl)) hT ?_
  try simp only [la, lz, ls]
  refine takeU 13 (i := 1) (v := .int .i64 (a : Int)) rfl rfl rfl (by kernel_rfl) (by kernel_rfl) (by kernel_rfl) (by kernel_rfl) (fun _ _ _ h => h) (by kernel_rfl) (fun w0 hS => (exec_cell 3 (.tmp 12) rfl ⟨g3, 2, none⟩ rfl _ _ (hS.2).cells.2.2.1 Tryd.underlying3 rfl)) hT ?_
  try simp only [la, lz, ls]
  refine takeU 14 (i := 2) (v := .pointer (some ⟨g2, 0, none⟩)) rfl rfl rfl (by kernel_rfl) (by kernel_rfl) (by kernel_rfl) (by kernel_rfl) (fun _ _ _ h => h) (by kernel_rfl) (fun w0 hS => (by kernel_rfl)) hT ?_
  try simp only [la, lz, ls]
  refine takeU 15 (i := 3) (v := .pointer (some ⟨g2, a, none⟩)) rfl rfl rfl (by kernel_rfl) (by kernel_rfl) (by kernel_rfl) (by kernel_rfl) (fun _ _ _ h => h) (by kernel_rfl) (fun w0 hS => (exec_reg rfl g2 a (by omega) rfl rfl _)) hT ?_
  try simp only [la, lz, ls]
  refine takeU 16 (i := 4) (v := .int .i64 (h a)) rfl rfl rfl (by kernel_rfl) (by kernel_rfl) (by kernel_rfl) (by kernel_rfl) (fun _ _ _ h => h) (by kernel_rfl) (fun w0 hS => (exec_cell 3 (.tmp 15) rfl ⟨g2, a, none⟩ rfl _ _ ((hS.1).cell (j := a) (by omega)) Tryd.underlying3 rfl)) hT ?_
  try simp only [la, lz, ls]
  refine takeU 17 (i := 5) (v := hv h) rfl rfl rfl (by kernel_rfl) (by kernel_rfl) (by kernel_rfl) (by kernel_rfl) (fun _ _ _ h => h) (by kernel_rfl) (fun w0 hS => (exec_row 28 (.tmp 2) rfl g2 rfl 28 (hC h) (0, 0) _ hS.1 Tryd.underlying28 rfl (sz_hart _))) hT ?_
  try simp only [la, lz, ls]
  refine takeU 18 (i := 6) (v := iv 34 d (a : Int) (b : Int) n) rfl rfl rfl (by kernel_rfl) (by kernel_rfl) (by kernel_rfl) (by kernel_rfl) (fun _ _ _ h => h) (by kernel_rfl) (fun w0 hS => (exec_row 24 (.tmp 3) rfl g3 rfl 24 (iC 34 d (a : Int) (b : Int) n) (0, 0) _ hS.2 Tryd.underlying24 rfl (sz_ins _ _ _ _ _))) hT ?_
  try simp only [la, lz, ls]
  refine callU 19 (i := 7) rfl rfl (by kernel_rfl) (by kernel_rfl) (f := 62) (args := #[hv h, iv 34 d (a : Int) (b : Int) n]) (v := .int .i64 y) (by kernel_rfl) (second_lit hb HS.out _) (fun w' hb => ⟨HXg2.out.bel hb, HXg3.out.bel hb⟩) ?_
  intro V2 hb
  try simp only [la, lz, ls]
  replace HB : Hid (Bel w V2) := Lib.hid (HB.out.trans hb)
  replace HXg2 : Hid (HAt V2 g2 h) := Lib.hid (HXg2.out.bel hb)
  replace HXg3 : Hid (InAt V2 g3 34 d (a : Int) (b : Int) n) := Lib.hid (HXg3.out.bel hb)
  clear hb hT
  have hT : HAt V2 g2 h ∧ InAt V2 g3 34 d (a : Int) (b : Int) n := ⟨HXg2.out, HXg3.out⟩
  refine takeU 6 (i := 8) (v := .int .i64 (h a)) rfl rfl rfl (by kernel_rfl) (by kernel_rfl) (by kernel_rfl) (by kernel_rfl) (fun _ _ _ h => h) (by kernel_rfl) (fun w0 hS => rfl) hT ?_
  try simp only [la, lz, ls]
  refine pureU 7 (i := 9) rfl rfl (by kernel_rfl) (by kernel_rfl) (v := .int .i64 y) rfl hT ?_
  try simp only [la, lz, ls]
  refine Upto.done (by kernel_rfl) ?_ _
  clear hT
  refine hK _ _ ?_
  clear hK K
  have HR := Lib.hid hr
  have HX := Lib.hid hx
  clear hr hx
  obtain ⟨k0, k1, k2, k3, k4⟩ := HXg3.out.cells
  go_wp2_with fail
  refine (high_lit (show Plain.high (h a) y false = v by rw [HX.out]; exact HR.out) _).mono ?_
  rintro e W ⟨rfl, rfl⟩
  go_wp2
  exact bodyPost_ret (results_tmp2 Tryd.results37 _ _ _) (by rfl) ⟨rfl, HB.out⟩
theorem num_36 {h : H} {a b : Nat} {d n x y r v : Int} (ha : a < 32) (hb : b < 32) (hx : h a = x) (hy : (if (b : Int) = 0 then n else h b) = y) (hr : (if y % 4294967296 = 0 then -1 else x % 4294967296 / (y % 4294967296)) = v) {w : World} :
    Calls Tryd.prog 37 #[hv h, iv 36 d (a : Int) (b : Int) n] w fun e w' => e = .returned (.tuple #[.int .i64 v, .bool true]) ∧ Bel w w' := by
  have HS := Lib.hid hy
  clear hy
  have hz := zero_hart
  go_enter Tryd.func37, Tryd.ntmps37
  go_upto_region 1 with (fail)
  obtain ⟨W0, hW, hb, hx2, hx3⟩ := boxes2 w (hC h) (iC 36 d (a : Int) (b : Int) n) 28 24
  first | rw [← hW] | (show Code.wp _ _ _ _ ((w.alloc (.cells (hC h) 28)).alloc (.cells (iC 36 d (a : Int) (b : Int) n) 24)); rw [← hW])
  clear hz hW
  have hlt : w.heap.size < W0.heap.size := lt_of_heap hx2
  generalize hg : w.heap.size = g2 at hx2 hx3 hlt ⊢
  have HG := Lib.hid hg
  clear hg
  generalize hg : g2 + 1 = g3 at hx3 ⊢
  have HG1 := Lib.hid hg
  clear hg
  have HXg2 : Hid (HAt W0 g2 h) := Lib.hid hx2
  have HXg3 : Hid (InAt W0 g3 36 d (a : Int) (b : Int) n) := Lib.hid hx3
  have HB : Hid (Bel w W0) := Lib.hid hb
  clear hb hlt hx2 hx3
  go_upto_region 1 with (fail)
  rename_i K hK
  refine Upto.begin (z := 9) (T := fun w' => HAt w' g2 h ∧ InAt w' g3 36 d (a : Int) (b : Int) n) (by kernel_rfl) ?_
  have hb : Bel W0 W0.drew := (Bel.refl W0).drew
  generalize W0.drew = V1 at hb ⊢
  replace HB : Hid (Bel w V1) := Lib.hid (HB.out.trans hb)
  replace HXg2 : Hid (HAt V1 g2 h) := Lib.hid (HXg2.out.bel hb)
  replace HXg3 : Hid (InAt V1 g3 36 d (a : Int) (b : Int) n) := Lib.hid (HXg3.out.bel hb)
  clear hb
  have hT : HAt V1 g2 h ∧ InAt V1 g3 36 d (a : Int) (b : Int) n := ⟨HXg2.out, HXg3.out⟩
  refine takeU 12 (i := 0) (v := .pointer (some ⟨g3, 2, none⟩)) rfl rfl rfl (by kernel_rfl) (by kernel_rfl) (by kernel_rfl) (by kernel_rfl) (fun _ _ _ h => h) (by kernel_rfl) (fun w0 hS => (by kernel_rfl)) hT ?_
  try simp only [la, lz, ls]
  refine takeU 13 (i := 1) (v := .int .i64 (a : Int)) rfl rfl rfl (by kernel_rfl) (by kernel_rfl) (by kernel_rfl) (by kernel_rfl) (fun _ _ _ h => h) (by kernel_rfl) (fun w0 hS => (exec_cell 3 (.tmp 12) rfl ⟨g3, 2, none⟩ rfl _ _ (hS.2).cells.2.2.1 Tryd.underlying3 rfl)) hT ?_
  try simp only [la, lz, ls]
  refine takeU 14 (i := 2) (v := .pointer (some ⟨g2, 0, none⟩)) rfl rfl rfl (by kernel_rfl) (by kernel_rfl) (by kernel_rfl) (by kernel_rfl) (fun _ _ _ h => h) (by kernel_rfl) (fun w0 hS => (by kernel_rfl)) hT ?_
  try simp only [la, lz, ls]
  refine takeU 15 (i := 3) (v := .pointer (some ⟨g2, a, none⟩)) rfl rfl rfl (by kernel_rfl) (by kernel_rfl) (by kernel_rfl) (by kernel_rfl) (fun _ _ _ h => h) (by kernel_rfl) (fun w0 hS => (exec_reg rfl g2 a (by omega) rfl rfl _)) hT ?_
  try simp only [la, lz, ls]
  refine takeU 16 (i := 4) (v := .int .i64 (h a)) rfl rfl rfl (by kernel_rfl) (by kernel_rfl) (by kernel_rfl) (by kernel_rfl) (fun _ _ _ h => h) (by kernel_rfl) (fun w0 hS => (exec_cell 3 (.tmp 15) rfl ⟨g2, a, none⟩ rfl _ _ ((hS.1).cell (j := a) (by omega)) Tryd.underlying3 rfl)) hT ?_
  try simp only [la, lz, ls]
  refine takeU 17 (i := 5) (v := hv h) rfl rfl rfl (by kernel_rfl) (by kernel_rfl) (by kernel_rfl) (by kernel_rfl) (fun _ _ _ h => h) (by kernel_rfl) (fun w0 hS => (exec_row 28 (.tmp 2) rfl g2 rfl 28 (hC h) (0, 0) _ hS.1 Tryd.underlying28 rfl (sz_hart _))) hT ?_
  try simp only [la, lz, ls]
  refine takeU 18 (i := 6) (v := iv 36 d (a : Int) (b : Int) n) rfl rfl rfl (by kernel_rfl) (by kernel_rfl) (by kernel_rfl) (by kernel_rfl) (fun _ _ _ h => h) (by kernel_rfl) (fun w0 hS => (exec_row 24 (.tmp 3) rfl g3 rfl 24 (iC 36 d (a : Int) (b : Int) n) (0, 0) _ hS.2 Tryd.underlying24 rfl (sz_ins _ _ _ _ _))) hT ?_
  try simp only [la, lz, ls]
  refine callU 19 (i := 7) rfl rfl (by kernel_rfl) (by kernel_rfl) (f := 62) (args := #[hv h, iv 36 d (a : Int) (b : Int) n]) (v := .int .i64 y) (by kernel_rfl) (second_lit hb HS.out _) (fun w' hb => ⟨HXg2.out.bel hb, HXg3.out.bel hb⟩) ?_
  intro V2 hb
  try simp only [la, lz, ls]
  replace HB : Hid (Bel w V2) := Lib.hid (HB.out.trans hb)
  replace HXg2 : Hid (HAt V2 g2 h) := Lib.hid (HXg2.out.bel hb)
  replace HXg3 : Hid (InAt V2 g3 36 d (a : Int) (b : Int) n) := Lib.hid (HXg3.out.bel hb)
  clear hb hT
  have hT : HAt V2 g2 h ∧ InAt V2 g3 36 d (a : Int) (b : Int) n := ⟨HXg2.out, HXg3.out⟩
  refine takeU 6 (i := 8) (v := .int .i64 (h a)) rfl rfl rfl (by kernel_rfl) (by kernel_rfl) (by kernel_rfl) (by kernel_rfl) (fun _ _ _ h => h) (by kernel_rfl) (fun w0 hS => rfl) hT ?_
  try simp only [la, lz, ls]
  refine pureU 7 (i := 9) rfl rfl (by kernel_rfl) (by kernel_rfl) (v := .int .i64 y) rfl hT ?_
  try simp only [la, lz, ls]
  refine Upto.done (by kernel_rfl) ?_ _
  clear hT
  refine hK _ _ ?_
  clear hK K
  have HR := Lib.hid hr
  clear hr
  obtain ⟨xw, hxw⟩ : ∃ k, x % 4294967296 = k := ⟨_, rfl⟩
  obtain ⟨yw, hyw⟩ : ∃ k, y % 4294967296 = k := ⟨_, rfl⟩
  have hx2 : h a % 4294967296 = xw := by rw [hx]; exact hxw
  have bx : 0 ≤ xw ∧ xw < 4294967296 := by omega
  have byy : 0 ≤ yw ∧ yw < 4294967296 := by omega
  have hR := HR.out
  rw [hxw, hyw] at hR
  obtain ⟨r2, hr2⟩ : ∃ k, (if yw = 0 then xw else xw % yw) = k := ⟨_, rfl⟩
  have HR3 := Lib.hid hr2
  clear hr2
  have HR2 := Lib.hid hR
  have HX2 := Lib.hid hx2
  have HY2 := Lib.hid hyw
  have HBX := Lib.hid bx
  have HBY := Lib.hid byy
  clear hR hx2 hyw hxw bx byy HR hx
  obtain ⟨k0, k1, k2, k3, k4⟩ := HXg3.out.cells
  go_wp2_with fail
  refine (word_lit HX2.out _).mono ?_
  rintro e W ⟨rfl, rfl⟩
  go_wp2_with fail
  refine (word_lit HY2.out _).mono ?_
  rintro e W ⟨rfl, rfl⟩
  go_wp2_with fail
  refine (divided_lit HBX.out.1 HBX.out.2 HBY.out.1 HBY.out.2 HR2.out HR3.out _).mono ?_
  rintro e W ⟨rfl, hb9⟩
  go_wp2
  exact bodyPost_ret (results_tmp2 Tryd.results37 _ _ _) (by rfl) ⟨rfl, HB.out.trans hb9⟩
theorem num_38 {h : H} {a b : Nat} {d n x y r v : Int} (ha : a < 32) (hb : b < 32) (hx : h a = x) (hy : (if (b : Int) = 0 then n else h b) = y) (hr : (if y % 4294967296 = 0 then x % 4294967296 else x % 4294967296 % (y % 4294967296)) = v) {w : World} :
    Calls Tryd.prog 37 #[hv h, iv 38 d (a : Int) (b : Int) n] w fun e w' => e = .returned (.tuple #[.int .i64 v, .bool true]) ∧ Bel w w' := by
  have HS := Lib.hid hy
  clear hy
  have hz := zero_hart
  go_enter Tryd.func37, Tryd.ntmps37
  go_upto_region 1 with (fail)
  obtain ⟨W0, hW, hb, hx2, hx3⟩ := boxes2 w (hC h) (iC 38 d (a : Int) (b : Int) n) 28 24
  first | rw [← hW] | (show Code.wp _ _ _ _ ((w.alloc (.cells (hC h) 28)).alloc (.cells (iC 38 d (a : Int) (b : Int) n) 24)); rw [← hW])
  clear hz hW
  have hlt : w.heap.size < W0.heap.size := lt_of_heap hx2
  generalize hg : w.heap.size = g2 at hx2 hx3 hlt ⊢
  have HG := Lib.hid hg
  clear hg
  generalize hg : g2 + 1 = g3 at hx3 ⊢
  have HG1 := Lib.hid hg
  clear hg
  have HXg2 : Hid (HAt W0 g2 h) := Lib.hid hx2
  have HXg3 : Hid (InAt W0 g3 38 d (a : Int) (b : Int) n) := Lib.hid hx3
  have HB : Hid (Bel w W0) := Lib.hid hb
  clear hb hlt hx2 hx3
  go_upto_region 1 with (fail)
  rename_i K hK
  refine Upto.begin (z := 9) (T := fun w' => HAt w' g2 h ∧ InAt w' g3 38 d (a : Int) (b : Int) n) (by kernel_rfl) ?_
  have hb : Bel W0 W0.drew := (Bel.refl W0).drew
  generalize W0.drew = V1 at hb ⊢
  replace HB : Hid (Bel w V1) := Lib.hid (HB.out.trans hb)
  replace HXg2 : Hid (HAt V1 g2 h) := Lib.hid (HXg2.out.bel hb)
  replace HXg3 : Hid (InAt V1 g3 38 d (a : Int) (b : Int) n) := Lib.hid (HXg3.out.bel hb)
  clear hb
  have hT : HAt V1 g2 h ∧ InAt V1 g3 38 d (a : Int) (b : Int) n := ⟨HXg2.out, HXg3.out⟩
  refine takeU 12 (i := 0) (v := .pointer (some ⟨g3, 2, none⟩)) rfl rfl rfl (by kernel_rfl) (by kernel_rfl) (by kernel_rfl) (by kernel_rfl) (fun _ _ _ h => h) (by kernel_rfl) (fun w0 hS => (by kernel_rfl)) hT ?_
  try simp only [la, lz, ls]
  refine takeU 13 (i := 1) (v := .int .i64 (a : Int)) rfl rfl rfl (by kernel_rfl) (by kernel_rfl) (by kernel_rfl) (by kernel_rfl) (fun _ _ _ h => h) (by kernel_rfl) (fun w0 hS => (exec_cell 3 (.tmp 12) rfl ⟨g3, 2, none⟩ rfl _ _ (hS.2).cells.2.2.1 Tryd.underlying3 rfl)) hT ?_
  try simp only [la, lz, ls]
  refine takeU 14 (i := 2) (v := .pointer (some ⟨g2, 0, none⟩)) rfl rfl rfl (by kernel_rfl) (by kernel_rfl) (by kernel_rfl) (by kernel_rfl) (fun _ _ _ h => h) (by kernel_rfl) (fun w0 hS => (by kernel_rfl)) hT ?_
  try simp only [la, lz, ls]
  refine takeU 15 (i := 3) (v := .pointer (some ⟨g2, a, none⟩)) rfl rfl rfl (by kernel_rfl) (by kernel_rfl) (by kernel_rfl) (by kernel_rfl) (fun _ _ _ h => h) (by kernel_rfl) (fun w0 hS => (exec_reg rfl g2 a (by omega) rfl rfl _)) hT ?_
  try simp only [la, lz, ls]
  refine takeU 16 (i := 4) (v := .int .i64 (h a)) rfl rfl rfl (by kernel_rfl) (by kernel_rfl) (by kernel_rfl) (by kernel_rfl) (fun _ _ _ h => h) (by kernel_rfl) (fun w0 hS => (exec_cell 3 (.tmp 15) rfl ⟨g2, a, none⟩ rfl _ _ ((hS.1).cell (j := a) (by omega)) Tryd.underlying3 rfl)) hT ?_
  try simp only [la, lz, ls]
  refine takeU 17 (i := 5) (v := hv h) rfl rfl rfl (by kernel_rfl) (by kernel_rfl) (by kernel_rfl) (by kernel_rfl) (fun _ _ _ h => h) (by kernel_rfl) (fun w0 hS => (exec_row 28 (.tmp 2) rfl g2 rfl 28 (hC h) (0, 0) _ hS.1 Tryd.underlying28 rfl (sz_hart _))) hT ?_
  try simp only [la, lz, ls]
  refine takeU 18 (i := 6) (v := iv 38 d (a : Int) (b : Int) n) rfl rfl rfl (by kernel_rfl) (by kernel_rfl) (by kernel_rfl) (by kernel_rfl) (fun _ _ _ h => h) (by kernel_rfl) (fun w0 hS => (exec_row 24 (.tmp 3) rfl g3 rfl 24 (iC 38 d (a : Int) (b : Int) n) (0, 0) _ hS.2 Tryd.underlying24 rfl (sz_ins _ _ _ _ _))) hT ?_
  try simp only [la, lz, ls]
  refine callU 19 (i := 7) rfl rfl (by kernel_rfl) (by kernel_rfl) (f := 62) (args := #[hv h, iv 38 d (a : Int) (b : Int) n]) (v := .int .i64 y) (by kernel_rfl) (second_lit hb HS.out _) (fun w' hb => ⟨HXg2.out.bel hb, HXg3.out.bel hb⟩) ?_
  intro V2 hb
  try simp only [la, lz, ls]
  replace HB : Hid (Bel w V2) := Lib.hid (HB.out.trans hb)
  replace HXg2 : Hid (HAt V2 g2 h) := Lib.hid (HXg2.out.bel hb)
  replace HXg3 : Hid (InAt V2 g3 38 d (a : Int) (b : Int) n) := Lib.hid (HXg3.out.bel hb)
  clear hb hT
  have hT : HAt V2 g2 h ∧ InAt V2 g3 38 d (a : Int) (b : Int) n := ⟨HXg2.out, HXg3.out⟩
  refine takeU 6 (i := 8) (v := .int .i64 (h a)) rfl rfl rfl (by kernel_rfl) (by kernel_rfl) (by kernel_rfl) (by kernel_rfl) (fun _ _ _ h => h) (by kernel_rfl) (fun w0 hS => rfl) hT ?_
  try simp only [la, lz, ls]
  refine pureU 7 (i := 9) rfl rfl (by kernel_rfl) (by kernel_rfl) (v := .int .i64 y) rfl hT ?_
  try simp only [la, lz, ls]
  refine Upto.done (by kernel_rfl) ?_ _
  clear hT
  refine hK _ _ ?_
  clear hK K
  have HR := Lib.hid hr
  clear hr
  obtain ⟨xw, hxw⟩ : ∃ k, x % 4294967296 = k := ⟨_, rfl⟩
  obtain ⟨yw, hyw⟩ : ∃ k, y % 4294967296 = k := ⟨_, rfl⟩
  have hx2 : h a % 4294967296 = xw := by rw [hx]; exact hxw
  have bx : 0 ≤ xw ∧ xw < 4294967296 := by omega
  have byy : 0 ≤ yw ∧ yw < 4294967296 := by omega
  have hR := HR.out
  rw [hxw, hyw] at hR
  obtain ⟨r2, hr2⟩ : ∃ k, (if yw = 0 then -1 else xw / yw) = k := ⟨_, rfl⟩
  have HR3 := Lib.hid hr2
  clear hr2
  have HR2 := Lib.hid hR
  have HX2 := Lib.hid hx2
  have HY2 := Lib.hid hyw
  have HBX := Lib.hid bx
  have HBY := Lib.hid byy
  clear hR hx2 hyw hxw bx byy HR hx
  obtain ⟨k0, k1, k2, k3, k4⟩ := HXg3.out.cells
  go_wp2_with fail
  refine (word_lit HX2.out _).mono ?_
  rintro e W ⟨rfl, rfl⟩
  go_wp2_with fail
  refine (word_lit HY2.out _).mono ?_
  rintro e W ⟨rfl, rfl⟩
  go_wp2_with fail
  refine (divided_lit HBX.out.1 HBX.out.2 HBY.out.1 HBY.out.2 HR3.out HR2.out _).mono ?_
  rintro e W ⟨rfl, hb9⟩
  go_wp2
  exact bodyPost_ret (results_tmp2 Tryd.results37 _ _ _) (by rfl) ⟨rfl, HB.out.trans hb9⟩
theorem num_other {h : H} {a b : Nat} {d n x y r v : Int} {o : Nat} (ha : a < 32) (hb : b < 32) (hx : h a = x) (hy : (if (b : Int) = 0 then n else h b) = y) (ho : o < 50) (hn : o ≠ 1 ∧ o ≠ 2 ∧ o ≠ 20 ∧ o ≠ 28 ∧ o ≠ 33 ∧ o ≠ 34 ∧ o ≠ 36 ∧ o ≠ 38) {u : Int} {q : Bool} {w : World} (h0 : 0 < w.heap.size) (hop : w.cell? ⟨0, o, none⟩ = some (.int .i64 u)) (hr : Plain.two u x y = v) (hq : Plain.isTwo u = q) :
    Calls Tryd.prog 37 #[hv h, iv (o : Int) d (a : Int) (b : Int) n] w fun e w' => e = .returned (.tuple #[.int .i64 v, .bool q]) ∧ Bel w w' := by
  have HS := Lib.hid hy
  have HZ := Lib.hid h0
  have HOP := Lib.hid hop
  have HR := Lib.hid hr
  have HQ := Lib.hid hq
  have HX := Lib.hid hx
  clear hy h0 hop hr hq hx
  have hz := zero_hart
  go_enter Tryd.func37, Tryd.ntmps37
  go_upto_region 1 with (fail)
  obtain ⟨W0, hW, hb, hx2, hx3⟩ := boxes2 w (hC h) (iC (o : Int) d (a : Int) (b : Int) n) 28 24
  first | rw [← hW] | (show Code.wp _ _ _ _ ((w.alloc (.cells (hC h) 28)).alloc (.cells (iC (o : Int) d (a : Int) (b : Int) n) 24)); rw [← hW])
  clear hz hW
  have hlt : w.heap.size < W0.heap.size := lt_of_heap hx2
  generalize hg : w.heap.size = g2 at hx2 hx3 hlt ⊢
  have HG := Lib.hid hg
  clear hg
  generalize hg : g2 + 1 = g3 at hx3 ⊢
  have HG1 := Lib.hid hg
  clear hg
  have HXg2 : Hid (HAt W0 g2 h) := Lib.hid hx2
  have HXg3 : Hid (InAt W0 g3 (o : Int) d (a : Int) (b : Int) n) := Lib.hid hx3
  have HB : Hid (Bel w W0) := Lib.hid hb
  clear hb hlt hx2 hx3
  go_upto_region 1 with (fail)
  rename_i K hK
  refine Upto.begin (z := 9) (T := fun w' => HAt w' g2 h ∧ InAt w' g3 (o : Int) d (a : Int) (b : Int) n) (by kernel_rfl) ?_
  have hb : Bel W0 W0.drew := (Bel.refl W0).drew
  generalize W0.drew = V1 at hb ⊢
  replace HB : Hid (Bel w V1) := Lib.hid (HB.out.trans hb)
  replace HXg2 : Hid (HAt V1 g2 h) := Lib.hid (HXg2.out.bel hb)
  replace HXg3 : Hid (InAt V1 g3 (o : Int) d (a : Int) (b : Int) n) := Lib.hid (HXg3.out.bel hb)
  clear hb
  have hT : HAt V1 g2 h ∧ InAt V1 g3 (o : Int) d (a : Int) (b : Int) n := ⟨HXg2.out, HXg3.out⟩
  refine takeU 12 (i := 0) (v := .pointer (some ⟨g3, 2, none⟩)) rfl rfl rfl (by kernel_rfl) (by kernel_rfl) (by kernel_rfl) (by kernel_rfl) (fun _ _ _ h => h) (by kernel_rfl) (fun w0 hS => (by kernel_rfl)) hT ?_
  try simp only [la, lz, ls]
  refine takeU 13 (i := 1) (v := .int .i64 (a : Int)) rfl rfl rfl (by kernel_rfl) (by kernel_rfl) (by kernel_rfl) (by kernel_rfl) (fun _ _ _ h => h) (by kernel_rfl) (fun w0 hS => (exec_cell 3 (.tmp 12) rfl ⟨g3, 2, none⟩ rfl _ _ (hS.2).cells.2.2.1 Tryd.underlying3 rfl)) hT ?_
  try simp only [la, lz, ls]
  refine takeU 14 (i := 2) (v := .pointer (some ⟨g2, 0, none⟩)) rfl rfl rfl (by kernel_rfl) (by kernel_rfl) (by kernel_rfl) (by kernel_rfl) (fun _ _ _ h => h) (by kernel_rfl) (fun w0 hS => (by kernel_rfl)) hT ?_
  try simp only [la, lz, ls]
  refine takeU 15 (i := 3) (v := .pointer (some ⟨g2, a, none⟩)) rfl rfl rfl (by kernel_rfl) (by kernel_rfl) (by kernel_rfl) (by kernel_rfl) (fun _ _ _ h => h) (by kernel_rfl) (fun w0 hS => (exec_reg rfl g2 a (by omega) rfl rfl _)) hT ?_
  try simp only [la, lz, ls]
  refine takeU 16 (i := 4) (v := .int .i64 (h a)) rfl rfl rfl (by kernel_rfl) (by kernel_rfl) (by kernel_rfl) (by kernel_rfl) (fun _ _ _ h => h) (by kernel_rfl) (fun w0 hS => (exec_cell 3 (.tmp 15) rfl ⟨g2, a, none⟩ rfl _ _ ((hS.1).cell (j := a) (by omega)) Tryd.underlying3 rfl)) hT ?_
  try simp only [la, lz, ls]
  refine takeU 17 (i := 5) (v := hv h) rfl rfl rfl (by kernel_rfl) (by kernel_rfl) (by kernel_rfl) (by kernel_rfl) (fun _ _ _ h => h) (by kernel_rfl) (fun w0 hS => (exec_row 28 (.tmp 2) rfl g2 rfl 28 (hC h) (0, 0) _ hS.1 Tryd.underlying28 rfl (sz_hart _))) hT ?_
  try simp only [la, lz, ls]
  refine takeU 18 (i := 6) (v := iv (o : Int) d (a : Int) (b : Int) n) rfl rfl rfl (by kernel_rfl) (by kernel_rfl) (by kernel_rfl) (by kernel_rfl) (fun _ _ _ h => h) (by kernel_rfl) (fun w0 hS => (exec_row 24 (.tmp 3) rfl g3 rfl 24 (iC (o : Int) d (a : Int) (b : Int) n) (0, 0) _ hS.2 Tryd.underlying24 rfl (sz_ins _ _ _ _ _))) hT ?_
  try simp only [la, lz, ls]
  refine callU 19 (i := 7) rfl rfl (by kernel_rfl) (by kernel_rfl) (f := 62) (args := #[hv h, iv (o : Int) d (a : Int) (b : Int) n]) (v := .int .i64 y) (by kernel_rfl) (second_lit hb HS.out _) (fun w' hb => ⟨HXg2.out.bel hb, HXg3.out.bel hb⟩) ?_
  intro V2 hb
  try simp only [la, lz, ls]
  replace HB : Hid (Bel w V2) := Lib.hid (HB.out.trans hb)
  replace HXg2 : Hid (HAt V2 g2 h) := Lib.hid (HXg2.out.bel hb)
  replace HXg3 : Hid (InAt V2 g3 (o : Int) d (a : Int) (b : Int) n) := Lib.hid (HXg3.out.bel hb)
  clear hb hT
  have hT : HAt V2 g2 h ∧ InAt V2 g3 (o : Int) d (a : Int) (b : Int) n := ⟨HXg2.out, HXg3.out⟩
  refine takeU 6 (i := 8) (v := .int .i64 (h a)) rfl rfl rfl (by kernel_rfl) (by kernel_rfl) (by kernel_rfl) (by kernel_rfl) (fun _ _ _ h => h) (by kernel_rfl) (fun w0 hS => rfl) hT ?_
  try simp only [la, lz, ls]
  refine pureU 7 (i := 9) rfl rfl (by kernel_rfl) (by kernel_rfl) (v := .int .i64 y) rfl hT ?_
  try simp only [la, lz, ls]
  refine Upto.done (by kernel_rfl) ?_ _
  clear hT
  refine hK _ _ ?_
  clear hK K
  have n1 : ((o : Int) == 1) = false := by simp; omega
  have n2 : ((o : Int) == 2) = false := by simp; omega
  have n20 : ((o : Int) == 20) = false := by simp; omega
  have n28 : ((o : Int) == 28) = false := by simp; omega
  have n33 : ((o : Int) == 33) = false := by simp; omega
  have n34 : ((o : Int) == 34) = false := by simp; omega
  have n36 : ((o : Int) == 36) = false := by simp; omega
  have n38 : ((o : Int) == 38) = false := by simp; omega
  clear hn
  have lo : (o : Int) < 50 := by omega
  obtain ⟨k0, k1, k2, k3, k4⟩ := HXg3.out.cells
  have kop := (HB.out.cell (p := ⟨0, o, none⟩) HZ.out).trans HOP.out
  go_wp2_with fail
  refine (two_val (show Plain.two u (h a) y = v by rw [HX.out]; exact HR.out) HQ.out _).mono ?_
  rintro e W ⟨rfl, rfl⟩
  go_wp2
  exact bodyPost_ret (results_tmp2 Tryd.results37 _ _ _) (by rfl) ⟨rfl, HB.out⟩
end Go.Proofs.YtgcgdjmlngfpeaaDoor
