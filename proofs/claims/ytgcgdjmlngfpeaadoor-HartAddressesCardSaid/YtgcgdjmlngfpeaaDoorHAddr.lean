/- HartAddresses: what is loaded and stored is at the sum of a register and a number. -/
import Derived.Test.YtgcgdjmlngfpeaaDoorHLaw1
namespace Go.Proofs.YtgcgdjmlngfpeaaDoor
open Go.RowKit Ht
set_option linter.unusedVariables false
set_option linter.unusedSimpArgs false
set_option maxRecDepth 100000
set_option maxHeartbeats 8000000
theorem r_lw {d a n : Int} (hd : 0 ≤ d ∧ d < 32) (ha : 0 ≤ a ∧ a < 32) (hn : -2048 ≤ n ∧ n ≤ 2047) : Rv.right ⟨11, d, a, 0, n⟩ = true := by
  unfold Rv.right
  simp only [show Rv.form 11 = 73 from by decide +kernel]
  simp [Rv.reg, Rv.hasD, Rv.hasA, Rv.hasB, Rv.num]
  omega
theorem r_sw {a b n : Int} (ha : 0 ≤ a ∧ a < 32) (hb : 0 ≤ b ∧ b < 32) (hn : -2048 ≤ n ∧ n ≤ 2047) : Rv.right ⟨12, 0, a, b, n⟩ = true := by
  unfold Rv.right
  simp only [show Rv.form 12 = 83 from by decide +kernel]
  simp [Rv.reg, Rv.hasD, Rv.hasA, Rv.hasB, Rv.num]
  omega
theorem r_sc {d a b : Int} (hd : 0 ≤ d ∧ d < 32) (ha : 0 ≤ a ∧ a < 32) (hb : 0 ≤ b ∧ b < 32) : Rv.right ⟨47, d, a, b, 0⟩ = true := by
  unfold Rv.right
  simp only [show Rv.form 47 = 65 from by decide +kernel]
  simp [Rv.reg, Rv.hasD, Rv.hasA, Rv.hasB, Rv.num]
  omega
theorem r_amo {d a b : Int} (hd : 0 ≤ d ∧ d < 32) (ha : 0 ≤ a ∧ a < 32) (hb : 0 ≤ b ∧ b < 32) : Rv.right ⟨49, d, a, b, 0⟩ = true := by
  unfold Rv.right
  simp only [show Rv.form 49 = 65 from by decide +kernel]
  simp [Rv.reg, Rv.hasD, Rv.hasA, Rv.hasB, Rv.num]
  omega
theorem addresses_any (w : World) {P : Option Addr} {N C : Nat} {l : List Int} {a b n : Int} (hO : OpsAt w) (hn : l.length = N) (hL : IntsQ w P l) (hNC : N ≤ C) (ha : inInt a) (hb : inInt b) (hnn : inInt n) :
    Calls Tryd.prog 11 #[.slice P N C, .int .i64 a, .int .i64 b, .int .i64 n] w (OneV (.bool true) w) := by
  obtain ⟨h, hh⟩ : ∃ h, fitV l = h := ⟨_, rfl⟩
  obtain ⟨X, r1, lX⟩ := pick_nat a 32 (by decide)
  obtain ⟨Y, r2, lY⟩ := pick_nat b 32 (by decide)
  obtain ⟨k0, r3⟩ : ∃ k, Plain.pick n 4096 = k := ⟨_, rfl⟩
  have bk := Plain.pick_bd n 4096 (by omega)
  rw [r3] at bk
  obtain ⟨k, hk⟩ : ∃ k, k0 - 2048 = k := ⟨_, rfl⟩
  have K1 : Hid (IntKind.i64.wrap (k0 - 2048) = k) := Lib.hid (by rw [IntWalk.i64_in _ (by omega)]; omega)
  obtain ⟨m, hm⟩ : ∃ m, wrap32 (h X + k) = m := ⟨_, rfl⟩
  obtain ⟨g, hg⟩ : ∃ g, Ht.go h 4 = g := ⟨_, rfl⟩
  have bX : 0 ≤ (X : Int) ∧ (X : Int) < 32 := by omega
  have bY : 0 ≤ (Y : Int) ∧ (Y : Int) < 32 := by omega
  have S1 : Hid (stepV h 0 ⟨11, Y, X, 0, k⟩ = (g, ⟨1, Y, m, 0, 0⟩)) := Lib.hid (by subst hg hm; unfold stepV; rw [r_lw bY bX (by omega)]; rfl)
  have S2 : Hid (stepV h 0 ⟨12, 0, X, Y, k⟩ = (g, ⟨2, 0, m, h Y, 0⟩)) := Lib.hid (by subst hg hm; unfold stepV; rw [r_sw bX bY (by omega)]; rfl)
  have S3 : Hid (stepV h 0 ⟨47, Y, X, Y, 0⟩ = (g, ⟨4, Y, h X, h Y, 0⟩)) := Lib.hid (by subst hg; unfold stepV; rw [r_sc bY bX bY]; rfl)
  have S4 : Hid (stepV h 0 ⟨49, Y, X, Y, 0⟩ = (g, ⟨5, Y, h X, h Y, 1⟩)) := Lib.hid (by subst hg; unfold stepV; rw [r_amo bY bX bY]; rfl)
  have Z0 : Hid (i64 0) := Lib.hid (by omega)
  have Z11 : Hid (i64 11) := Lib.hid (by omega)
  have Z12 : Hid (i64 12) := Lib.hid (by omega)
  have Z47 : Hid (i64 47) := Lib.hid (by omega)
  have Z49 : Hid (i64 49) := Lib.hid (by omega)
  have WX : Hid (i64 (X : Int)) := Lib.hid (by omega)
  have WY : Hid (i64 (Y : Int)) := Lib.hid (by omega)
  have WK : Hid (i64 k) := Lib.hid (by omega)
  have M1 := Lib.hid hm
  have R1 : Hid (Plain.pick a 32 = (X : Int)) := Lib.hid r1
  have R2 : Hid (Plain.pick b 32 = (Y : Int)) := Lib.hid r2
  have R3 := Lib.hid r3
  have HH := Lib.hid hh
  have HO := Lib.hid hO
  have HN := Lib.hid hn
  have HL := Lib.hid hL
  have HNC := Lib.hid hNC
  have HA := Lib.hid ha
  have HBb := Lib.hid hb
  have HNn := Lib.hid hnn
  clear hh r1 r2 r3 bk hk hm hg bX bY hO hn hL hNC ha hb hnn
  go_enter Tryd.func11, Tryd.ntmps11
  have HB : Hid (Bel w w) := Lib.hid (Bel.refl w)
  go_upto_region 1 with (fail)
  rename_i K hK
  refine wp_region_list ?_
  refine wpList_call rfl (f := 12) (args := #[]) (v := .bool true) (by kernel_rfl) (awake_any (HO.out.bel HB.out)) ?_
  intro V1 hb
  replace HB : Hid (Bel w V1) := Lib.hid (HB.out.trans hb)
  clear hb
  try simp only [Act.put, List.setIfInBounds_toArray, List.set_cons_zero, List.set_cons_succ]
  refine wpList_one rfl (w' := V1) (v := .bool true) rfl ?_
  try simp only [Act.put, List.setIfInBounds_toArray, List.set_cons_zero, List.set_cons_succ]
  refine wpList_nil ?_
  refine hK _ _ ?_
  clear hK K
  go_upto_region 2 with (fail)
  rename_i K hK
  refine wp_region_list ?_
  refine wpList_one rfl (w' := V1) (v := .slice P N C) rfl ?_
  try simp only [Act.put, List.setIfInBounds_toArray, List.set_cons_zero, List.set_cons_succ]
  refine wpList_call rfl (f := 13) (args := #[.slice P N C]) (v := hv h) (by kernel_rfl) (fit_lit14 HH.out HN.out (HL.out.bel HB.out) HNC.out) ?_
  intro V2 hb
  replace HB : Hid (Bel w V2) := Lib.hid (HB.out.trans hb)
  clear hb
  try simp only [Act.put, List.setIfInBounds_toArray, List.set_cons_zero, List.set_cons_succ]
  obtain ⟨hb, hx⟩ := box1 V2 hZ 28
  refine wpList_one rfl (w' := V2.alloc (.cells hZ 28)) (v := .pointer (some ⟨V2.heap.size, 0, none⟩)) (by kernel_rfl) ?_
  try simp only [Act.put, List.setIfInBounds_toArray, List.set_cons_zero, List.set_cons_succ]
  have hl := HB.out.size
  generalize V2.alloc (.cells hZ 28) = V3 at hb hx ⊢
  generalize V2.heap.size = b10 at hx hl ⊢
  have HG := Lib.hid hl
  clear hl
  replace HB : Hid (Bel w V3) := Lib.hid (HB.out.trans hb)
  have HXb10 : Hid (HAt V3 b10 (fun _ => 0)) := Lib.hid hx
  clear hb hx
  try simp only [Act.put, List.setIfInBounds_toArray, List.set_cons_zero, List.set_cons_succ]
  refine wpList_store_row rfl 28 (.tmp 10) (.tmp 25) rfl b10 (hC h) rfl rfl 28 (hC (fun _ => 0)) HXb10.out (sz_hart _) (by rw [hC_size, hC_size]) (hC_ones _) ?_
  have hn := row_same (cs := (hC h)) HXb10.out
  have hb := row_bel HB.out (g := b10) (by have := HG.out; omega) (hC h)
  generalize V3.setRow b10 (hC h) = V4 at hn hb  ⊢
  clear HB HXb10
  have HB : Hid (Bel w V4) := Lib.hid hb
  have HXb10 : Hid (HAt V4 b10 h) := Lib.hid hn
  clear hn hb 
  try simp only [Act.put, List.setIfInBounds_toArray, List.set_cons_zero, List.set_cons_succ]
  refine wpList_nil ?_
  refine hK _ _ ?_
  clear hK K
  go_upto_region 3 with (fail)
  rename_i K hK
  refine wp_region_list ?_
  refine wpList_one rfl (w' := V4) (v := .int .i64 a) rfl ?_
  try simp only [Act.put, List.setIfInBounds_toArray, List.set_cons_zero, List.set_cons_succ]
  refine wpList_call rfl (f := 15) (args := #[.int .i64 a, .int .i64 32]) (v := .int .i64 (X : Int)) (by kernel_rfl) (pk HA.out (by decide) R1.out _) ?_
  intro V5 hb
  replace HB : Hid (Bel w V5) := Lib.hid (HB.out.trans hb)
  replace HXb10 : Hid (HAt V5 b10 h) := Lib.hid (HXb10.out.bel hb)
  clear hb
  try simp only [Act.put, List.setIfInBounds_toArray, List.set_cons_zero, List.set_cons_succ]
  refine wpList_one rfl (w' := V5) (v := .int .i64 (X : Int)) rfl ?_
  try simp only [Act.put, List.setIfInBounds_toArray, List.set_cons_zero, List.set_cons_succ]
  refine wpList_nil ?_
  refine hK _ _ ?_
  clear hK K
  go_upto_region 4 with (fail)
  rename_i K hK
  refine wp_region_list ?_
  refine wpList_one rfl (w' := V5) (v := .int .i64 b) rfl ?_
  try simp only [Act.put, List.setIfInBounds_toArray, List.set_cons_zero, List.set_cons_succ]
  refine wpList_call rfl (f := 15) (args := #[.int .i64 b, .int .i64 32]) (v := .int .i64 (Y : Int)) (by kernel_rfl) (pk HBb.out (by decide) R2.out _) ?_
  intro V6 hb
  replace HB : Hid (Bel w V6) := Lib.hid (HB.out.trans hb)
  replace HXb10 : Hid (HAt V6 b10 h) := Lib.hid (HXb10.out.bel hb)
  clear hb
  try simp only [Act.put, List.setIfInBounds_toArray, List.set_cons_zero, List.set_cons_succ]
  refine wpList_one rfl (w' := V6) (v := .int .i64 (Y : Int)) rfl ?_
  try simp only [Act.put, List.setIfInBounds_toArray, List.set_cons_zero, List.set_cons_succ]
  refine wpList_nil ?_
  refine hK _ _ ?_
  clear hK K
  go_upto_region 5 with (fail)
  rename_i K hK
  refine wp_region_list ?_
  refine wpList_one rfl (w' := V6) (v := .int .i64 n) rfl ?_
  try simp only [Act.put, List.setIfInBounds_toArray, List.set_cons_zero, List.set_cons_succ]
  refine wpList_call rfl (f := 15) (args := #[.int .i64 n, .int .i64 4096]) (v := .int .i64 k0) (by kernel_rfl) (pk HNn.out (by decide) R3.out _) ?_
  intro V7 hb
  replace HB : Hid (Bel w V7) := Lib.hid (HB.out.trans hb)
  replace HXb10 : Hid (HAt V7 b10 h) := Lib.hid (HXb10.out.bel hb)
  clear hb
  try simp only [Act.put, List.setIfInBounds_toArray, List.set_cons_zero, List.set_cons_succ]
  refine wpList_one rfl (w' := V7) (v := .int .i64 k) (exec_sub rfl rfl rfl K1.out _) ?_
  try simp only [Act.put, List.setIfInBounds_toArray, List.set_cons_zero, List.set_cons_succ]
  refine wpList_one rfl (w' := V7) (v := .int .i64 k) rfl ?_
  try simp only [Act.put, List.setIfInBounds_toArray, List.set_cons_zero, List.set_cons_succ]
  refine wpList_nil ?_
  refine hK _ _ ?_
  clear hK K
  go_upto_region 6 with (fail)
  rename_i K hK
  refine wp_region_list ?_
  refine wpList_one rfl (w' := V7) (v := .int .i64 (X : Int)) rfl ?_
  try simp only [Act.put, List.setIfInBounds_toArray, List.set_cons_zero, List.set_cons_succ]
  refine wpList_one rfl (w' := V7) (v := .pointer (some ⟨b10, 0, none⟩)) (by kernel_rfl) ?_
  try simp only [Act.put, List.setIfInBounds_toArray, List.set_cons_zero, List.set_cons_succ]
  refine wpList_one rfl (w' := V7) (v := .pointer (some ⟨b10, X, none⟩)) (exec_reg rfl b10 X (by omega) rfl rfl _) ?_
  try simp only [Act.put, List.setIfInBounds_toArray, List.set_cons_zero, List.set_cons_succ]
  refine wpList_load_cell rfl 3 (.tmp 35) rfl ⟨b10, X, none⟩ rfl (.int .i64 (h X)) _ (HXb10.out.cell (j := X) (by omega)) Tryd.underlying3 rfl ?_
  try simp only [Act.put, List.setIfInBounds_toArray, List.set_cons_zero, List.set_cons_succ]
  refine wpList_one rfl (w' := V7) (v := .int .i64 k) rfl ?_
  try simp only [Act.put, List.setIfInBounds_toArray, List.set_cons_zero, List.set_cons_succ]
  refine wpList_one rfl (w' := V7) (v := .int .i64 (IntKind.i64.wrap (h X + k))) (by kernel_rfl) ?_
  try simp only [Act.put, List.setIfInBounds_toArray, List.set_cons_zero, List.set_cons_succ]
  refine wpList_call rfl (f := 27) (args := #[.int .i64 (IntKind.i64.wrap (h X + k))]) (v := .int .i64 m) (by kernel_rfl) (wl ((w32_i _).trans M1.out) _) ?_
  intro V8 hb
  replace HB : Hid (Bel w V8) := Lib.hid (HB.out.trans hb)
  replace HXb10 : Hid (HAt V8 b10 h) := Lib.hid (HXb10.out.bel hb)
  clear hb
  try simp only [Act.put, List.setIfInBounds_toArray, List.set_cons_zero, List.set_cons_succ]
  refine wpList_one rfl (w' := V8) (v := .int .i64 m) rfl ?_
  try simp only [Act.put, List.setIfInBounds_toArray, List.set_cons_zero, List.set_cons_succ]
  refine wpList_nil ?_
  refine hK _ _ ?_
  clear hK K
  go_upto_region 7 with (fail)
  rename_i K hK
  refine wp_region_list ?_
  refine wpList_load_row rfl 28 (.tmp 10) rfl b10 rfl 28 (hC h) (0, 0) _ HXb10.out Tryd.underlying28 rfl (sz_hart _) ?_
  try simp only [Act.put, List.setIfInBounds_toArray, List.set_cons_zero, List.set_cons_succ]
  refine wpList_one rfl (w' := V8) (v := .int .i64 (Y : Int)) rfl ?_
  try simp only [Act.put, List.setIfInBounds_toArray, List.set_cons_zero, List.set_cons_succ]
  refine wpList_one rfl (w' := V8) (v := .int .i64 (X : Int)) rfl ?_
  try simp only [Act.put, List.setIfInBounds_toArray, List.set_cons_zero, List.set_cons_succ]
  refine wpList_one rfl (w' := V8) (v := .int .i64 k) rfl ?_
  try simp only [Act.put, List.setIfInBounds_toArray, List.set_cons_zero, List.set_cons_succ]
  refine wpList_one rfl (w' := V8) (v := iv 11 (Y : Int) (X : Int) 0 k) (by kernel_rfl) ?_
  try simp only [Act.put, List.setIfInBounds_toArray, List.set_cons_zero, List.set_cons_succ]
  refine wpList_call rfl (f := 16) (args := #[hv h, .int .i64 0, iv 11 (Y : Int) (X : Int) 0 k]) (v := .tuple #[hv g, .agg (eC ⟨1, (Y : Int), m, 0, 0⟩)]) (by kernel_rfl) (st HO HB.out (wf5 Z11.out WY.out WX.out Z0.out WK.out) S1.out) ?_
  intro V9 hb
  replace HB : Hid (Bel w V9) := Lib.hid (HB.out.trans hb)
  replace HXb10 : Hid (HAt V9 b10 h) := Lib.hid (HXb10.out.bel hb)
  clear hb
  try simp only [Act.put, List.setIfInBounds_toArray, List.set_cons_zero, List.set_cons_succ]
  refine wpList_one rfl (w' := V9) (v := .tuple #[hv g, .agg (eC ⟨1, (Y : Int), m, 0, 0⟩)]) rfl ?_
  try simp only [Act.put, List.setIfInBounds_toArray, List.set_cons_zero, List.set_cons_succ]
  refine wpList_one rfl (w' := V9) (v := hv g) rfl ?_
  try simp only [Act.put, List.setIfInBounds_toArray, List.set_cons_zero, List.set_cons_succ]
  refine wpList_one rfl (w' := V9) (v := .agg (eC ⟨1, (Y : Int), m, 0, 0⟩)) rfl ?_
  try simp only [Act.put, List.setIfInBounds_toArray, List.set_cons_zero, List.set_cons_succ]
  obtain ⟨hb, hx⟩ := box1 V9 hZ 28
  refine wpList_one rfl (w' := V9.alloc (.cells hZ 28)) (v := .pointer (some ⟨V9.heap.size, 0, none⟩)) (by kernel_rfl) ?_
  try simp only [Act.put, List.setIfInBounds_toArray, List.set_cons_zero, List.set_cons_succ]
  have hl := lt_of_heap HXb10.out
  generalize V9.alloc (.cells hZ 28) = V10 at hb hx ⊢
  generalize V9.heap.size = b15 at hx hl ⊢
  have HG1 := Lib.hid hl
  clear hl
  replace HB : Hid (Bel w V10) := Lib.hid (HB.out.trans hb)
  replace HXb10 : Hid (HAt V10 b10 h) := Lib.hid (HXb10.out.bel hb)
  have HXb15 : Hid (HAt V10 b15 (fun _ => 0)) := Lib.hid hx
  clear hb hx
  try simp only [Act.put, List.setIfInBounds_toArray, List.set_cons_zero, List.set_cons_succ]
  obtain ⟨hb, hx⟩ := box1 V10 (eC e0) 34
  refine wpList_one rfl (w' := V10.alloc (.cells (eC e0) 34)) (v := .pointer (some ⟨V10.heap.size, 0, none⟩)) (by kernel_rfl) ?_
  try simp only [Act.put, List.setIfInBounds_toArray, List.set_cons_zero, List.set_cons_succ]
  have hl := lt_of_heap HXb15.out
  generalize V10.alloc (.cells (eC e0) 34) = V11 at hb hx ⊢
  generalize V10.heap.size = b16 at hx hl ⊢
  have HG2 := Lib.hid hl
  clear hl
  replace HB : Hid (Bel w V11) := Lib.hid (HB.out.trans hb)
  replace HXb10 : Hid (HAt V11 b10 h) := Lib.hid (HXb10.out.bel hb)
  replace HXb15 : Hid (HAt V11 b15 (fun _ => 0)) := Lib.hid (HXb15.out.bel hb)
  have HXb16 : Hid (EfAt V11 b16 e0) := Lib.hid hx
  clear hb hx
  try simp only [Act.put, List.setIfInBounds_toArray, List.set_cons_zero, List.set_cons_succ]
  refine wpList_store_row rfl 28 (.tmp 15) (.tmp 47) rfl b15 (hC g) rfl rfl 28 (hC (fun _ => 0)) HXb15.out (sz_hart _) (by rw [hC_size, hC_size]) (hC_ones _) ?_
  have hn := row_same (cs := (hC g)) HXb15.out
  have hb := row_bel HB.out (g := b15) (by have := HG.out; have := HG1.out; have := HG2.out; omega) (hC g)
  have hb10 := (setRow_other V11 b15 b10 (hC g) (by have := HG.out; have := HG1.out; have := HG2.out; omega)).trans HXb10.out
  have hb16 := (setRow_other V11 b15 b16 (hC g) (by have := HG.out; have := HG1.out; have := HG2.out; omega)).trans HXb16.out
  generalize V11.setRow b15 (hC g) = V12 at hn hb hb10 hb16 ⊢
  clear HB HXb10 HXb15 HXb16
  have HB : Hid (Bel w V12) := Lib.hid hb
  have HXb10 : Hid (HAt V12 b10 h) := Lib.hid hb10
  have HXb16 : Hid (EfAt V12 b16 e0) := Lib.hid hb16
  have HXb15 : Hid (HAt V12 b15 g) := Lib.hid hn
  clear hn hb hb10 hb16
  try simp only [Act.put, List.setIfInBounds_toArray, List.set_cons_zero, List.set_cons_succ]
  refine wpList_store_row rfl 34 (.tmp 16) (.tmp 48) rfl b16 (eC ⟨1, (Y : Int), m, 0, 0⟩) rfl rfl 34 (eC e0) HXb16.out (sz_eff _) rfl (eC_ones _) ?_
  have hn := row_same (cs := (eC ⟨1, (Y : Int), m, 0, 0⟩)) HXb16.out
  have hb := row_bel HB.out (g := b16) (by have := HG.out; have := HG1.out; have := HG2.out; omega) (eC ⟨1, (Y : Int), m, 0, 0⟩)
  have hb10 := (setRow_other V12 b16 b10 (eC ⟨1, (Y : Int), m, 0, 0⟩) (by have := HG.out; have := HG1.out; have := HG2.out; omega)).trans HXb10.out
  have hb15 := (setRow_other V12 b16 b15 (eC ⟨1, (Y : Int), m, 0, 0⟩) (by have := HG.out; have := HG1.out; have := HG2.out; omega)).trans HXb15.out
  generalize V12.setRow b16 (eC ⟨1, (Y : Int), m, 0, 0⟩) = V13 at hn hb hb10 hb15 ⊢
  clear HB HXb10 HXb15 HXb16
  have HB : Hid (Bel w V13) := Lib.hid hb
  have HXb10 : Hid (HAt V13 b10 h) := Lib.hid hb10
  have HXb15 : Hid (HAt V13 b15 g) := Lib.hid hb15
  have HXb16 : Hid (EfAt V13 b16 ⟨1, (Y : Int), m, 0, 0⟩) := Lib.hid hn
  clear hn hb hb10 hb15
  try simp only [Act.put, List.setIfInBounds_toArray, List.set_cons_zero, List.set_cons_succ]
  refine wpList_nil ?_
  refine hK _ _ ?_
  clear hK K
  go_upto_region 8 with (fail)
  rename_i K hK
  refine wp_region_list ?_
  refine wpList_load_row rfl 28 (.tmp 10) rfl b10 rfl 28 (hC h) (0, 0) _ HXb10.out Tryd.underlying28 rfl (sz_hart _) ?_
  try simp only [Act.put, List.setIfInBounds_toArray, List.set_cons_zero, List.set_cons_succ]
  refine wpList_one rfl (w' := V13) (v := .int .i64 (X : Int)) rfl ?_
  try simp only [Act.put, List.setIfInBounds_toArray, List.set_cons_zero, List.set_cons_succ]
  refine wpList_one rfl (w' := V13) (v := .int .i64 (Y : Int)) rfl ?_
  try simp only [Act.put, List.setIfInBounds_toArray, List.set_cons_zero, List.set_cons_succ]
  refine wpList_one rfl (w' := V13) (v := .int .i64 k) rfl ?_
  try simp only [Act.put, List.setIfInBounds_toArray, List.set_cons_zero, List.set_cons_succ]
  refine wpList_one rfl (w' := V13) (v := iv 12 0 (X : Int) (Y : Int) k) (by kernel_rfl) ?_
  try simp only [Act.put, List.setIfInBounds_toArray, List.set_cons_zero, List.set_cons_succ]
  refine wpList_call rfl (f := 16) (args := #[hv h, .int .i64 0, iv 12 0 (X : Int) (Y : Int) k]) (v := .tuple #[hv g, .agg (eC ⟨2, 0, m, (h Y), 0⟩)]) (by kernel_rfl) (st HO HB.out (wf5 Z12.out Z0.out WX.out WY.out WK.out) S2.out) ?_
  intro V14 hb
  replace HB : Hid (Bel w V14) := Lib.hid (HB.out.trans hb)
  replace HXb10 : Hid (HAt V14 b10 h) := Lib.hid (HXb10.out.bel hb)
  replace HXb15 : Hid (HAt V14 b15 g) := Lib.hid (HXb15.out.bel hb)
  replace HXb16 : Hid (EfAt V14 b16 ⟨1, (Y : Int), m, 0, 0⟩) := Lib.hid (HXb16.out.bel hb)
  clear hb
  try simp only [Act.put, List.setIfInBounds_toArray, List.set_cons_zero, List.set_cons_succ]
  refine wpList_one rfl (w' := V14) (v := .tuple #[hv g, .agg (eC ⟨2, 0, m, (h Y), 0⟩)]) rfl ?_
  try simp only [Act.put, List.setIfInBounds_toArray, List.set_cons_zero, List.set_cons_succ]
  refine wpList_one rfl (w' := V14) (v := hv g) rfl ?_
  try simp only [Act.put, List.setIfInBounds_toArray, List.set_cons_zero, List.set_cons_succ]
  refine wpList_one rfl (w' := V14) (v := .agg (eC ⟨2, 0, m, (h Y), 0⟩)) rfl ?_
  try simp only [Act.put, List.setIfInBounds_toArray, List.set_cons_zero, List.set_cons_succ]
  obtain ⟨hb, hx⟩ := box1 V14 hZ 28
  refine wpList_one rfl (w' := V14.alloc (.cells hZ 28)) (v := .pointer (some ⟨V14.heap.size, 0, none⟩)) (by kernel_rfl) ?_
  try simp only [Act.put, List.setIfInBounds_toArray, List.set_cons_zero, List.set_cons_succ]
  have hl := lt_of_heap HXb16.out
  generalize V14.alloc (.cells hZ 28) = V15 at hb hx ⊢
  generalize V14.heap.size = b17 at hx hl ⊢
  have HG3 := Lib.hid hl
  clear hl
  replace HB : Hid (Bel w V15) := Lib.hid (HB.out.trans hb)
  replace HXb10 : Hid (HAt V15 b10 h) := Lib.hid (HXb10.out.bel hb)
  replace HXb15 : Hid (HAt V15 b15 g) := Lib.hid (HXb15.out.bel hb)
  replace HXb16 : Hid (EfAt V15 b16 ⟨1, (Y : Int), m, 0, 0⟩) := Lib.hid (HXb16.out.bel hb)
  have HXb17 : Hid (HAt V15 b17 (fun _ => 0)) := Lib.hid hx
  clear hb hx
  try simp only [Act.put, List.setIfInBounds_toArray, List.set_cons_zero, List.set_cons_succ]
  obtain ⟨hb, hx⟩ := box1 V15 (eC e0) 34
  refine wpList_one rfl (w' := V15.alloc (.cells (eC e0) 34)) (v := .pointer (some ⟨V15.heap.size, 0, none⟩)) (by kernel_rfl) ?_
  try simp only [Act.put, List.setIfInBounds_toArray, List.set_cons_zero, List.set_cons_succ]
  have hl := lt_of_heap HXb17.out
  generalize V15.alloc (.cells (eC e0) 34) = V16 at hb hx ⊢
  generalize V15.heap.size = b18 at hx hl ⊢
  have HG4 := Lib.hid hl
  clear hl
  replace HB : Hid (Bel w V16) := Lib.hid (HB.out.trans hb)
  replace HXb10 : Hid (HAt V16 b10 h) := Lib.hid (HXb10.out.bel hb)
  replace HXb15 : Hid (HAt V16 b15 g) := Lib.hid (HXb15.out.bel hb)
  replace HXb16 : Hid (EfAt V16 b16 ⟨1, (Y : Int), m, 0, 0⟩) := Lib.hid (HXb16.out.bel hb)
  replace HXb17 : Hid (HAt V16 b17 (fun _ => 0)) := Lib.hid (HXb17.out.bel hb)
  have HXb18 : Hid (EfAt V16 b18 e0) := Lib.hid hx
  clear hb hx
  try simp only [Act.put, List.setIfInBounds_toArray, List.set_cons_zero, List.set_cons_succ]
  refine wpList_store_row rfl 28 (.tmp 17) (.tmp 56) rfl b17 (hC g) rfl rfl 28 (hC (fun _ => 0)) HXb17.out (sz_hart _) (by rw [hC_size, hC_size]) (hC_ones _) ?_
  have hn := row_same (cs := (hC g)) HXb17.out
  have hb := row_bel HB.out (g := b17) (by have := HG.out; have := HG1.out; have := HG2.out; have := HG3.out; have := HG4.out; omega) (hC g)
  have hb10 := (setRow_other V16 b17 b10 (hC g) (by have := HG.out; have := HG1.out; have := HG2.out; have := HG3.out; have := HG4.out; omega)).trans HXb10.out
  have hb15 := (setRow_other V16 b17 b15 (hC g) (by have := HG.out; have := HG1.out; have := HG2.out; have := HG3.out; have := HG4.out; omega)).trans HXb15.out
  have hb16 := (setRow_other V16 b17 b16 (hC g) (by have := HG.out; have := HG1.out; have := HG2.out; have := HG3.out; have := HG4.out; omega)).trans HXb16.out
  have hb18 := (setRow_other V16 b17 b18 (hC g) (by have := HG.out; have := HG1.out; have := HG2.out; have := HG3.out; have := HG4.out; omega)).trans HXb18.out
  generalize V16.setRow b17 (hC g) = V17 at hn hb hb10 hb15 hb16 hb18 ⊢
  clear HB HXb10 HXb15 HXb16 HXb17 HXb18
  have HB : Hid (Bel w V17) := Lib.hid hb
  have HXb10 : Hid (HAt V17 b10 h) := Lib.hid hb10
  have HXb15 : Hid (HAt V17 b15 g) := Lib.hid hb15
  have HXb16 : Hid (EfAt V17 b16 ⟨1, (Y : Int), m, 0, 0⟩) := Lib.hid hb16
  have HXb18 : Hid (EfAt V17 b18 e0) := Lib.hid hb18
  have HXb17 : Hid (HAt V17 b17 g) := Lib.hid hn
  clear hn hb hb10 hb15 hb16 hb18
  try simp only [Act.put, List.setIfInBounds_toArray, List.set_cons_zero, List.set_cons_succ]
  refine wpList_store_row rfl 34 (.tmp 18) (.tmp 57) rfl b18 (eC ⟨2, 0, m, (h Y), 0⟩) rfl rfl 34 (eC e0) HXb18.out (sz_eff _) rfl (eC_ones _) ?_
  have hn := row_same (cs := (eC ⟨2, 0, m, (h Y), 0⟩)) HXb18.out
  have hb := row_bel HB.out (g := b18) (by have := HG.out; have := HG1.out; have := HG2.out; have := HG3.out; have := HG4.out; omega) (eC ⟨2, 0, m, (h Y), 0⟩)
  have hb10 := (setRow_other V17 b18 b10 (eC ⟨2, 0, m, (h Y), 0⟩) (by have := HG.out; have := HG1.out; have := HG2.out; have := HG3.out; have := HG4.out; omega)).trans HXb10.out
  have hb15 := (setRow_other V17 b18 b15 (eC ⟨2, 0, m, (h Y), 0⟩) (by have := HG.out; have := HG1.out; have := HG2.out; have := HG3.out; have := HG4.out; omega)).trans HXb15.out
  have hb16 := (setRow_other V17 b18 b16 (eC ⟨2, 0, m, (h Y), 0⟩) (by have := HG.out; have := HG1.out; have := HG2.out; have := HG3.out; have := HG4.out; omega)).trans HXb16.out
  have hb17 := (setRow_other V17 b18 b17 (eC ⟨2, 0, m, (h Y), 0⟩) (by have := HG.out; have := HG1.out; have := HG2.out; have := HG3.out; have := HG4.out; omega)).trans HXb17.out
  generalize V17.setRow b18 (eC ⟨2, 0, m, (h Y), 0⟩) = V18 at hn hb hb10 hb15 hb16 hb17 ⊢
  clear HB HXb10 HXb15 HXb16 HXb17 HXb18
  have HB : Hid (Bel w V18) := Lib.hid hb
  have HXb10 : Hid (HAt V18 b10 h) := Lib.hid hb10
  have HXb15 : Hid (HAt V18 b15 g) := Lib.hid hb15
  have HXb16 : Hid (EfAt V18 b16 ⟨1, (Y : Int), m, 0, 0⟩) := Lib.hid hb16
  have HXb17 : Hid (HAt V18 b17 g) := Lib.hid hb17
  have HXb18 : Hid (EfAt V18 b18 ⟨2, 0, m, (h Y), 0⟩) := Lib.hid hn
  clear hn hb hb10 hb15 hb16 hb17
  try simp only [Act.put, List.setIfInBounds_toArray, List.set_cons_zero, List.set_cons_succ]
  refine wpList_nil ?_
  refine hK _ _ ?_
  clear hK K
  go_upto_region 9 with (fail)
  rename_i K hK
  refine wp_region_list ?_
  refine wpList_load_row rfl 28 (.tmp 10) rfl b10 rfl 28 (hC h) (0, 0) _ HXb10.out Tryd.underlying28 rfl (sz_hart _) ?_
  try simp only [Act.put, List.setIfInBounds_toArray, List.set_cons_zero, List.set_cons_succ]
  refine wpList_one rfl (w' := V18) (v := .int .i64 (Y : Int)) rfl ?_
  try simp only [Act.put, List.setIfInBounds_toArray, List.set_cons_zero, List.set_cons_succ]
  refine wpList_one rfl (w' := V18) (v := .int .i64 (X : Int)) rfl ?_
  try simp only [Act.put, List.setIfInBounds_toArray, List.set_cons_zero, List.set_cons_succ]
  refine wpList_one rfl (w' := V18) (v := .int .i64 (Y : Int)) rfl ?_
  try simp only [Act.put, List.setIfInBounds_toArray, List.set_cons_zero, List.set_cons_succ]
  refine wpList_one rfl (w' := V18) (v := iv 47 (Y : Int) (X : Int) (Y : Int) 0) (by kernel_rfl) ?_
  try simp only [Act.put, List.setIfInBounds_toArray, List.set_cons_zero, List.set_cons_succ]
  refine wpList_call rfl (f := 16) (args := #[hv h, .int .i64 0, iv 47 (Y : Int) (X : Int) (Y : Int) 0]) (v := .tuple #[hv g, .agg (eC ⟨4, (Y : Int), (h X), (h Y), 0⟩)]) (by kernel_rfl) (st HO HB.out (wf5 Z47.out WY.out WX.out WY.out Z0.out) S3.out) ?_
  intro V19 hb
  replace HB : Hid (Bel w V19) := Lib.hid (HB.out.trans hb)
  replace HXb10 : Hid (HAt V19 b10 h) := Lib.hid (HXb10.out.bel hb)
  replace HXb15 : Hid (HAt V19 b15 g) := Lib.hid (HXb15.out.bel hb)
  replace HXb16 : Hid (EfAt V19 b16 ⟨1, (Y : Int), m, 0, 0⟩) := Lib.hid (HXb16.out.bel hb)
  replace HXb17 : Hid (HAt V19 b17 g) := Lib.hid (HXb17.out.bel hb)
  replace HXb18 : Hid (EfAt V19 b18 ⟨2, 0, m, (h Y), 0⟩) := Lib.hid (HXb18.out.bel hb)
  clear hb
  try simp only [Act.put, List.setIfInBounds_toArray, List.set_cons_zero, List.set_cons_succ]
  refine wpList_one rfl (w' := V19) (v := .tuple #[hv g, .agg (eC ⟨4, (Y : Int), (h X), (h Y), 0⟩)]) rfl ?_
  try simp only [Act.put, List.setIfInBounds_toArray, List.set_cons_zero, List.set_cons_succ]
  refine wpList_one rfl (w' := V19) (v := hv g) rfl ?_
  try simp only [Act.put, List.setIfInBounds_toArray, List.set_cons_zero, List.set_cons_succ]
  refine wpList_one rfl (w' := V19) (v := .agg (eC ⟨4, (Y : Int), (h X), (h Y), 0⟩)) rfl ?_
  try simp only [Act.put, List.setIfInBounds_toArray, List.set_cons_zero, List.set_cons_succ]
  obtain ⟨hb, hx⟩ := box1 V19 hZ 28
  refine wpList_one rfl (w' := V19.alloc (.cells hZ 28)) (v := .pointer (some ⟨V19.heap.size, 0, none⟩)) (by kernel_rfl) ?_
  try simp only [Act.put, List.setIfInBounds_toArray, List.set_cons_zero, List.set_cons_succ]
  have hl := lt_of_heap HXb18.out
  generalize V19.alloc (.cells hZ 28) = V20 at hb hx ⊢
  generalize V19.heap.size = b19 at hx hl ⊢
  have HG5 := Lib.hid hl
  clear hl
  replace HB : Hid (Bel w V20) := Lib.hid (HB.out.trans hb)
  replace HXb10 : Hid (HAt V20 b10 h) := Lib.hid (HXb10.out.bel hb)
  replace HXb15 : Hid (HAt V20 b15 g) := Lib.hid (HXb15.out.bel hb)
  replace HXb16 : Hid (EfAt V20 b16 ⟨1, (Y : Int), m, 0, 0⟩) := Lib.hid (HXb16.out.bel hb)
  replace HXb17 : Hid (HAt V20 b17 g) := Lib.hid (HXb17.out.bel hb)
  replace HXb18 : Hid (EfAt V20 b18 ⟨2, 0, m, (h Y), 0⟩) := Lib.hid (HXb18.out.bel hb)
  have HXb19 : Hid (HAt V20 b19 (fun _ => 0)) := Lib.hid hx
  clear hb hx
  try simp only [Act.put, List.setIfInBounds_toArray, List.set_cons_zero, List.set_cons_succ]
  obtain ⟨hb, hx⟩ := box1 V20 (eC e0) 34
  refine wpList_one rfl (w' := V20.alloc (.cells (eC e0) 34)) (v := .pointer (some ⟨V20.heap.size, 0, none⟩)) (by kernel_rfl) ?_
  try simp only [Act.put, List.setIfInBounds_toArray, List.set_cons_zero, List.set_cons_succ]
  have hl := lt_of_heap HXb19.out
  generalize V20.alloc (.cells (eC e0) 34) = V21 at hb hx ⊢
  generalize V20.heap.size = b20 at hx hl ⊢
  have HG6 := Lib.hid hl
  clear hl
  replace HB : Hid (Bel w V21) := Lib.hid (HB.out.trans hb)
  replace HXb10 : Hid (HAt V21 b10 h) := Lib.hid (HXb10.out.bel hb)
  replace HXb15 : Hid (HAt V21 b15 g) := Lib.hid (HXb15.out.bel hb)
  replace HXb16 : Hid (EfAt V21 b16 ⟨1, (Y : Int), m, 0, 0⟩) := Lib.hid (HXb16.out.bel hb)
  replace HXb17 : Hid (HAt V21 b17 g) := Lib.hid (HXb17.out.bel hb)
  replace HXb18 : Hid (EfAt V21 b18 ⟨2, 0, m, (h Y), 0⟩) := Lib.hid (HXb18.out.bel hb)
  replace HXb19 : Hid (HAt V21 b19 (fun _ => 0)) := Lib.hid (HXb19.out.bel hb)
  have HXb20 : Hid (EfAt V21 b20 e0) := Lib.hid hx
  clear hb hx
  try simp only [Act.put, List.setIfInBounds_toArray, List.set_cons_zero, List.set_cons_succ]
  refine wpList_store_row rfl 28 (.tmp 19) (.tmp 65) rfl b19 (hC g) rfl rfl 28 (hC (fun _ => 0)) HXb19.out (sz_hart _) (by rw [hC_size, hC_size]) (hC_ones _) ?_
  have hn := row_same (cs := (hC g)) HXb19.out
  have hb := row_bel HB.out (g := b19) (by have := HG.out; have := HG1.out; have := HG2.out; have := HG3.out; have := HG4.out; have := HG5.out; have := HG6.out; omega) (hC g)
  have hb10 := (setRow_other V21 b19 b10 (hC g) (by have := HG.out; have := HG1.out; have := HG2.out; have := HG3.out; have := HG4.out; have := HG5.out; have := HG6.out; omega)).trans HXb10.out
  have hb15 := (setRow_other V21 b19 b15 (hC g) (by have := HG.out; have := HG1.out; have := HG2.out; have := HG3.out; have := HG4.out; have := HG5.out; have := HG6.out; omega)).trans HXb15.out
  have hb16 := (setRow_other V21 b19 b16 (hC g) (by have := HG.out; have := HG1.out; have := HG2.out; have := HG3.out; have := HG4.out; have := HG5.out; have := HG6.out; omega)).trans HXb16.out
  have hb17 := (setRow_other V21 b19 b17 (hC g) (by have := HG.out; have := HG1.out; have := HG2.out; have := HG3.out; have := HG4.out; have := HG5.out; have := HG6.out; omega)).trans HXb17.out
  have hb18 := (setRow_other V21 b19 b18 (hC g) (by have := HG.out; have := HG1.out; have := HG2.out; have := HG3.out; have := HG4.out; have := HG5.out; have := HG6.out; omega)).trans HXb18.out
  have hb20 := (setRow_other V21 b19 b20 (hC g) (by have := HG.out; have := HG1.out; have := HG2.out; have := HG3.out; have := HG4.out; have := HG5.out; have := HG6.out; omega)).trans HXb20.out
  generalize V21.setRow b19 (hC g) = V22 at hn hb hb10 hb15 hb16 hb17 hb18 hb20 ⊢
  clear HB HXb10 HXb15 HXb16 HXb17 HXb18 HXb19 HXb20
  have HB : Hid (Bel w V22) := Lib.hid hb
  have HXb10 : Hid (HAt V22 b10 h) := Lib.hid hb10
  have HXb15 : Hid (HAt V22 b15 g) := Lib.hid hb15
  have HXb16 : Hid (EfAt V22 b16 ⟨1, (Y : Int), m, 0, 0⟩) := Lib.hid hb16
  have HXb17 : Hid (HAt V22 b17 g) := Lib.hid hb17
  have HXb18 : Hid (EfAt V22 b18 ⟨2, 0, m, (h Y), 0⟩) := Lib.hid hb18
  have HXb20 : Hid (EfAt V22 b20 e0) := Lib.hid hb20
  have HXb19 : Hid (HAt V22 b19 g) := Lib.hid hn
  clear hn hb hb10 hb15 hb16 hb17 hb18 hb20
  try simp only [Act.put, List.setIfInBounds_toArray, List.set_cons_zero, List.set_cons_succ]
  refine wpList_store_row rfl 34 (.tmp 20) (.tmp 66) rfl b20 (eC ⟨4, (Y : Int), (h X), (h Y), 0⟩) rfl rfl 34 (eC e0) HXb20.out (sz_eff _) rfl (eC_ones _) ?_
  have hn := row_same (cs := (eC ⟨4, (Y : Int), (h X), (h Y), 0⟩)) HXb20.out
  have hb := row_bel HB.out (g := b20) (by have := HG.out; have := HG1.out; have := HG2.out; have := HG3.out; have := HG4.out; have := HG5.out; have := HG6.out; omega) (eC ⟨4, (Y : Int), (h X), (h Y), 0⟩)
  have hb10 := (setRow_other V22 b20 b10 (eC ⟨4, (Y : Int), (h X), (h Y), 0⟩) (by have := HG.out; have := HG1.out; have := HG2.out; have := HG3.out; have := HG4.out; have := HG5.out; have := HG6.out; omega)).trans HXb10.out
  have hb15 := (setRow_other V22 b20 b15 (eC ⟨4, (Y : Int), (h X), (h Y), 0⟩) (by have := HG.out; have := HG1.out; have := HG2.out; have := HG3.out; have := HG4.out; have := HG5.out; have := HG6.out; omega)).trans HXb15.out
  have hb16 := (setRow_other V22 b20 b16 (eC ⟨4, (Y : Int), (h X), (h Y), 0⟩) (by have := HG.out; have := HG1.out; have := HG2.out; have := HG3.out; have := HG4.out; have := HG5.out; have := HG6.out; omega)).trans HXb16.out
  have hb17 := (setRow_other V22 b20 b17 (eC ⟨4, (Y : Int), (h X), (h Y), 0⟩) (by have := HG.out; have := HG1.out; have := HG2.out; have := HG3.out; have := HG4.out; have := HG5.out; have := HG6.out; omega)).trans HXb17.out
  have hb18 := (setRow_other V22 b20 b18 (eC ⟨4, (Y : Int), (h X), (h Y), 0⟩) (by have := HG.out; have := HG1.out; have := HG2.out; have := HG3.out; have := HG4.out; have := HG5.out; have := HG6.out; omega)).trans HXb18.out
  have hb19 := (setRow_other V22 b20 b19 (eC ⟨4, (Y : Int), (h X), (h Y), 0⟩) (by have := HG.out; have := HG1.out; have := HG2.out; have := HG3.out; have := HG4.out; have := HG5.out; have := HG6.out; omega)).trans HXb19.out
  generalize V22.setRow b20 (eC ⟨4, (Y : Int), (h X), (h Y), 0⟩) = V23 at hn hb hb10 hb15 hb16 hb17 hb18 hb19 ⊢
  clear HB HXb10 HXb15 HXb16 HXb17 HXb18 HXb19 HXb20
  have HB : Hid (Bel w V23) := Lib.hid hb
  have HXb10 : Hid (HAt V23 b10 h) := Lib.hid hb10
  have HXb15 : Hid (HAt V23 b15 g) := Lib.hid hb15
  have HXb16 : Hid (EfAt V23 b16 ⟨1, (Y : Int), m, 0, 0⟩) := Lib.hid hb16
  have HXb17 : Hid (HAt V23 b17 g) := Lib.hid hb17
  have HXb18 : Hid (EfAt V23 b18 ⟨2, 0, m, (h Y), 0⟩) := Lib.hid hb18
  have HXb19 : Hid (HAt V23 b19 g) := Lib.hid hb19
  have HXb20 : Hid (EfAt V23 b20 ⟨4, (Y : Int), (h X), (h Y), 0⟩) := Lib.hid hn
  clear hn hb hb10 hb15 hb16 hb17 hb18 hb19
  try simp only [Act.put, List.setIfInBounds_toArray, List.set_cons_zero, List.set_cons_succ]
  refine wpList_nil ?_
  refine hK _ _ ?_
  clear hK K
  go_upto_region 10 with (fail)
  rename_i K hK
  refine wp_region_list ?_
  refine wpList_load_row rfl 28 (.tmp 10) rfl b10 rfl 28 (hC h) (0, 0) _ HXb10.out Tryd.underlying28 rfl (sz_hart _) ?_
  try simp only [Act.put, List.setIfInBounds_toArray, List.set_cons_zero, List.set_cons_succ]
  refine wpList_one rfl (w' := V23) (v := .int .i64 (Y : Int)) rfl ?_
  try simp only [Act.put, List.setIfInBounds_toArray, List.set_cons_zero, List.set_cons_succ]
  refine wpList_one rfl (w' := V23) (v := .int .i64 (X : Int)) rfl ?_
  try simp only [Act.put, List.setIfInBounds_toArray, List.set_cons_zero, List.set_cons_succ]
  refine wpList_one rfl (w' := V23) (v := .int .i64 (Y : Int)) rfl ?_
  try simp only [Act.put, List.setIfInBounds_toArray, List.set_cons_zero, List.set_cons_succ]
  refine wpList_one rfl (w' := V23) (v := iv 49 (Y : Int) (X : Int) (Y : Int) 0) (by kernel_rfl) ?_
  try simp only [Act.put, List.setIfInBounds_toArray, List.set_cons_zero, List.set_cons_succ]
  refine wpList_call rfl (f := 16) (args := #[hv h, .int .i64 0, iv 49 (Y : Int) (X : Int) (Y : Int) 0]) (v := .tuple #[hv g, .agg (eC ⟨5, (Y : Int), (h X), (h Y), 1⟩)]) (by kernel_rfl) (st HO HB.out (wf5 Z49.out WY.out WX.out WY.out Z0.out) S4.out) ?_
  intro V24 hb
  replace HB : Hid (Bel w V24) := Lib.hid (HB.out.trans hb)
  replace HXb10 : Hid (HAt V24 b10 h) := Lib.hid (HXb10.out.bel hb)
  replace HXb15 : Hid (HAt V24 b15 g) := Lib.hid (HXb15.out.bel hb)
  replace HXb16 : Hid (EfAt V24 b16 ⟨1, (Y : Int), m, 0, 0⟩) := Lib.hid (HXb16.out.bel hb)
  replace HXb17 : Hid (HAt V24 b17 g) := Lib.hid (HXb17.out.bel hb)
  replace HXb18 : Hid (EfAt V24 b18 ⟨2, 0, m, (h Y), 0⟩) := Lib.hid (HXb18.out.bel hb)
  replace HXb19 : Hid (HAt V24 b19 g) := Lib.hid (HXb19.out.bel hb)
  replace HXb20 : Hid (EfAt V24 b20 ⟨4, (Y : Int), (h X), (h Y), 0⟩) := Lib.hid (HXb20.out.bel hb)
  clear hb
  try simp only [Act.put, List.setIfInBounds_toArray, List.set_cons_zero, List.set_cons_succ]
  refine wpList_one rfl (w' := V24) (v := .tuple #[hv g, .agg (eC ⟨5, (Y : Int), (h X), (h Y), 1⟩)]) rfl ?_
  try simp only [Act.put, List.setIfInBounds_toArray, List.set_cons_zero, List.set_cons_succ]
  refine wpList_one rfl (w' := V24) (v := hv g) rfl ?_
  try simp only [Act.put, List.setIfInBounds_toArray, List.set_cons_zero, List.set_cons_succ]
  refine wpList_one rfl (w' := V24) (v := .agg (eC ⟨5, (Y : Int), (h X), (h Y), 1⟩)) rfl ?_
  try simp only [Act.put, List.setIfInBounds_toArray, List.set_cons_zero, List.set_cons_succ]
  obtain ⟨hb, hx⟩ := box1 V24 hZ 28
  refine wpList_one rfl (w' := V24.alloc (.cells hZ 28)) (v := .pointer (some ⟨V24.heap.size, 0, none⟩)) (by kernel_rfl) ?_
  try simp only [Act.put, List.setIfInBounds_toArray, List.set_cons_zero, List.set_cons_succ]
  have hl := lt_of_heap HXb20.out
  generalize V24.alloc (.cells hZ 28) = V25 at hb hx ⊢
  generalize V24.heap.size = b21 at hx hl ⊢
  have HG7 := Lib.hid hl
  clear hl
  replace HB : Hid (Bel w V25) := Lib.hid (HB.out.trans hb)
  replace HXb10 : Hid (HAt V25 b10 h) := Lib.hid (HXb10.out.bel hb)
  replace HXb15 : Hid (HAt V25 b15 g) := Lib.hid (HXb15.out.bel hb)
  replace HXb16 : Hid (EfAt V25 b16 ⟨1, (Y : Int), m, 0, 0⟩) := Lib.hid (HXb16.out.bel hb)
  replace HXb17 : Hid (HAt V25 b17 g) := Lib.hid (HXb17.out.bel hb)
  replace HXb18 : Hid (EfAt V25 b18 ⟨2, 0, m, (h Y), 0⟩) := Lib.hid (HXb18.out.bel hb)
  replace HXb19 : Hid (HAt V25 b19 g) := Lib.hid (HXb19.out.bel hb)
  replace HXb20 : Hid (EfAt V25 b20 ⟨4, (Y : Int), (h X), (h Y), 0⟩) := Lib.hid (HXb20.out.bel hb)
  have HXb21 : Hid (HAt V25 b21 (fun _ => 0)) := Lib.hid hx
  clear hb hx
  try simp only [Act.put, List.setIfInBounds_toArray, List.set_cons_zero, List.set_cons_succ]
  obtain ⟨hb, hx⟩ := box1 V25 (eC e0) 34
  refine wpList_one rfl (w' := V25.alloc (.cells (eC e0) 34)) (v := .pointer (some ⟨V25.heap.size, 0, none⟩)) (by kernel_rfl) ?_
  try simp only [Act.put, List.setIfInBounds_toArray, List.set_cons_zero, List.set_cons_succ]
  have hl := lt_of_heap HXb21.out
  generalize V25.alloc (.cells (eC e0) 34) = V26 at hb hx ⊢
  generalize V25.heap.size = b22 at hx hl ⊢
  have HG8 := Lib.hid hl
  clear hl
  replace HB : Hid (Bel w V26) := Lib.hid (HB.out.trans hb)
  replace HXb10 : Hid (HAt V26 b10 h) := Lib.hid (HXb10.out.bel hb)
  replace HXb15 : Hid (HAt V26 b15 g) := Lib.hid (HXb15.out.bel hb)
  replace HXb16 : Hid (EfAt V26 b16 ⟨1, (Y : Int), m, 0, 0⟩) := Lib.hid (HXb16.out.bel hb)
  replace HXb17 : Hid (HAt V26 b17 g) := Lib.hid (HXb17.out.bel hb)
  replace HXb18 : Hid (EfAt V26 b18 ⟨2, 0, m, (h Y), 0⟩) := Lib.hid (HXb18.out.bel hb)
  replace HXb19 : Hid (HAt V26 b19 g) := Lib.hid (HXb19.out.bel hb)
  replace HXb20 : Hid (EfAt V26 b20 ⟨4, (Y : Int), (h X), (h Y), 0⟩) := Lib.hid (HXb20.out.bel hb)
  replace HXb21 : Hid (HAt V26 b21 (fun _ => 0)) := Lib.hid (HXb21.out.bel hb)
  have HXb22 : Hid (EfAt V26 b22 e0) := Lib.hid hx
  clear hb hx
  try simp only [Act.put, List.setIfInBounds_toArray, List.set_cons_zero, List.set_cons_succ]
  refine wpList_store_row rfl 28 (.tmp 21) (.tmp 74) rfl b21 (hC g) rfl rfl 28 (hC (fun _ => 0)) HXb21.out (sz_hart _) (by rw [hC_size, hC_size]) (hC_ones _) ?_
  have hn := row_same (cs := (hC g)) HXb21.out
  have hb := row_bel HB.out (g := b21) (by have := HG.out; have := HG1.out; have := HG2.out; have := HG3.out; have := HG4.out; have := HG5.out; have := HG6.out; have := HG7.out; have := HG8.out; omega) (hC g)
  have hb10 := (setRow_other V26 b21 b10 (hC g) (by have := HG.out; have := HG1.out; have := HG2.out; have := HG3.out; have := HG4.out; have := HG5.out; have := HG6.out; have := HG7.out; have := HG8.out; omega)).trans HXb10.out
  have hb15 := (setRow_other V26 b21 b15 (hC g) (by have := HG.out; have := HG1.out; have := HG2.out; have := HG3.out; have := HG4.out; have := HG5.out; have := HG6.out; have := HG7.out; have := HG8.out; omega)).trans HXb15.out
  have hb16 := (setRow_other V26 b21 b16 (hC g) (by have := HG.out; have := HG1.out; have := HG2.out; have := HG3.out; have := HG4.out; have := HG5.out; have := HG6.out; have := HG7.out; have := HG8.out; omega)).trans HXb16.out
  have hb17 := (setRow_other V26 b21 b17 (hC g) (by have := HG.out; have := HG1.out; have := HG2.out; have := HG3.out; have := HG4.out; have := HG5.out; have := HG6.out; have := HG7.out; have := HG8.out; omega)).trans HXb17.out
  have hb18 := (setRow_other V26 b21 b18 (hC g) (by have := HG.out; have := HG1.out; have := HG2.out; have := HG3.out; have := HG4.out; have := HG5.out; have := HG6.out; have := HG7.out; have := HG8.out; omega)).trans HXb18.out
  have hb19 := (setRow_other V26 b21 b19 (hC g) (by have := HG.out; have := HG1.out; have := HG2.out; have := HG3.out; have := HG4.out; have := HG5.out; have := HG6.out; have := HG7.out; have := HG8.out; omega)).trans HXb19.out
  have hb20 := (setRow_other V26 b21 b20 (hC g) (by have := HG.out; have := HG1.out; have := HG2.out; have := HG3.out; have := HG4.out; have := HG5.out; have := HG6.out; have := HG7.out; have := HG8.out; omega)).trans HXb20.out
  have hb22 := (setRow_other V26 b21 b22 (hC g) (by have := HG.out; have := HG1.out; have := HG2.out; have := HG3.out; have := HG4.out; have := HG5.out; have := HG6.out; have := HG7.out; have := HG8.out; omega)).trans HXb22.out
  generalize V26.setRow b21 (hC g) = V27 at hn hb hb10 hb15 hb16 hb17 hb18 hb19 hb20 hb22 ⊢
  clear HB HXb10 HXb15 HXb16 HXb17 HXb18 HXb19 HXb20 HXb21 HXb22
  have HB : Hid (Bel w V27) := Lib.hid hb
  have HXb10 : Hid (HAt V27 b10 h) := Lib.hid hb10
  have HXb15 : Hid (HAt V27 b15 g) := Lib.hid hb15
  have HXb16 : Hid (EfAt V27 b16 ⟨1, (Y : Int), m, 0, 0⟩) := Lib.hid hb16
  have HXb17 : Hid (HAt V27 b17 g) := Lib.hid hb17
  have HXb18 : Hid (EfAt V27 b18 ⟨2, 0, m, (h Y), 0⟩) := Lib.hid hb18
  have HXb19 : Hid (HAt V27 b19 g) := Lib.hid hb19
  have HXb20 : Hid (EfAt V27 b20 ⟨4, (Y : Int), (h X), (h Y), 0⟩) := Lib.hid hb20
  have HXb22 : Hid (EfAt V27 b22 e0) := Lib.hid hb22
  have HXb21 : Hid (HAt V27 b21 g) := Lib.hid hn
  clear hn hb hb10 hb15 hb16 hb17 hb18 hb19 hb20 hb22
  try simp only [Act.put, List.setIfInBounds_toArray, List.set_cons_zero, List.set_cons_succ]
  refine wpList_store_row rfl 34 (.tmp 22) (.tmp 75) rfl b22 (eC ⟨5, (Y : Int), (h X), (h Y), 1⟩) rfl rfl 34 (eC e0) HXb22.out (sz_eff _) rfl (eC_ones _) ?_
  have hn := row_same (cs := (eC ⟨5, (Y : Int), (h X), (h Y), 1⟩)) HXb22.out
  have hb := row_bel HB.out (g := b22) (by have := HG.out; have := HG1.out; have := HG2.out; have := HG3.out; have := HG4.out; have := HG5.out; have := HG6.out; have := HG7.out; have := HG8.out; omega) (eC ⟨5, (Y : Int), (h X), (h Y), 1⟩)
  have hb10 := (setRow_other V27 b22 b10 (eC ⟨5, (Y : Int), (h X), (h Y), 1⟩) (by have := HG.out; have := HG1.out; have := HG2.out; have := HG3.out; have := HG4.out; have := HG5.out; have := HG6.out; have := HG7.out; have := HG8.out; omega)).trans HXb10.out
  have hb15 := (setRow_other V27 b22 b15 (eC ⟨5, (Y : Int), (h X), (h Y), 1⟩) (by have := HG.out; have := HG1.out; have := HG2.out; have := HG3.out; have := HG4.out; have := HG5.out; have := HG6.out; have := HG7.out; have := HG8.out; omega)).trans HXb15.out
  have hb16 := (setRow_other V27 b22 b16 (eC ⟨5, (Y : Int), (h X), (h Y), 1⟩) (by have := HG.out; have := HG1.out; have := HG2.out; have := HG3.out; have := HG4.out; have := HG5.out; have := HG6.out; have := HG7.out; have := HG8.out; omega)).trans HXb16.out
  have hb17 := (setRow_other V27 b22 b17 (eC ⟨5, (Y : Int), (h X), (h Y), 1⟩) (by have := HG.out; have := HG1.out; have := HG2.out; have := HG3.out; have := HG4.out; have := HG5.out; have := HG6.out; have := HG7.out; have := HG8.out; omega)).trans HXb17.out
  have hb18 := (setRow_other V27 b22 b18 (eC ⟨5, (Y : Int), (h X), (h Y), 1⟩) (by have := HG.out; have := HG1.out; have := HG2.out; have := HG3.out; have := HG4.out; have := HG5.out; have := HG6.out; have := HG7.out; have := HG8.out; omega)).trans HXb18.out
  have hb19 := (setRow_other V27 b22 b19 (eC ⟨5, (Y : Int), (h X), (h Y), 1⟩) (by have := HG.out; have := HG1.out; have := HG2.out; have := HG3.out; have := HG4.out; have := HG5.out; have := HG6.out; have := HG7.out; have := HG8.out; omega)).trans HXb19.out
  have hb20 := (setRow_other V27 b22 b20 (eC ⟨5, (Y : Int), (h X), (h Y), 1⟩) (by have := HG.out; have := HG1.out; have := HG2.out; have := HG3.out; have := HG4.out; have := HG5.out; have := HG6.out; have := HG7.out; have := HG8.out; omega)).trans HXb20.out
  have hb21 := (setRow_other V27 b22 b21 (eC ⟨5, (Y : Int), (h X), (h Y), 1⟩) (by have := HG.out; have := HG1.out; have := HG2.out; have := HG3.out; have := HG4.out; have := HG5.out; have := HG6.out; have := HG7.out; have := HG8.out; omega)).trans HXb21.out
  generalize V27.setRow b22 (eC ⟨5, (Y : Int), (h X), (h Y), 1⟩) = V28 at hn hb hb10 hb15 hb16 hb17 hb18 hb19 hb20 hb21 ⊢
  clear HB HXb10 HXb15 HXb16 HXb17 HXb18 HXb19 HXb20 HXb21 HXb22
  have HB : Hid (Bel w V28) := Lib.hid hb
  have HXb10 : Hid (HAt V28 b10 h) := Lib.hid hb10
  have HXb15 : Hid (HAt V28 b15 g) := Lib.hid hb15
  have HXb16 : Hid (EfAt V28 b16 ⟨1, (Y : Int), m, 0, 0⟩) := Lib.hid hb16
  have HXb17 : Hid (HAt V28 b17 g) := Lib.hid hb17
  have HXb18 : Hid (EfAt V28 b18 ⟨2, 0, m, (h Y), 0⟩) := Lib.hid hb18
  have HXb19 : Hid (HAt V28 b19 g) := Lib.hid hb19
  have HXb20 : Hid (EfAt V28 b20 ⟨4, (Y : Int), (h X), (h Y), 0⟩) := Lib.hid hb20
  have HXb21 : Hid (HAt V28 b21 g) := Lib.hid hb21
  have HXb22 : Hid (EfAt V28 b22 ⟨5, (Y : Int), (h X), (h Y), 1⟩) := Lib.hid hn
  clear hn hb hb10 hb15 hb16 hb17 hb18 hb19 hb20 hb21
  try simp only [Act.put, List.setIfInBounds_toArray, List.set_cons_zero, List.set_cons_succ]
  refine wpList_nil ?_
  refine hK _ _ ?_
  clear hK K
  go_upto_region 11 with (fail)
  rename_i K hK
  refine Upto.begin (z := 46) (T := fun w' => HAt w' b10 h ∧ EfAt w' b16 ⟨1, (Y : Int), m, 0, 0⟩ ∧ EfAt w' b18 ⟨2, 0, m, (h Y), 0⟩ ∧ EfAt w' b20 ⟨4, (Y : Int), (h X), (h Y), 0⟩ ∧ EfAt w' b22 ⟨5, (Y : Int), (h X), (h Y), 1⟩) (by kernel_rfl) ?_
  have hb : Bel V28 V28.drew := (Bel.refl V28).drew
  generalize V28.drew = V29 at hb ⊢
  replace HB : Hid (Bel w V29) := Lib.hid (HB.out.trans hb)
  replace HXb10 : Hid (HAt V29 b10 h) := Lib.hid (HXb10.out.bel hb)
  replace HXb15 : Hid (HAt V29 b15 g) := Lib.hid (HXb15.out.bel hb)
  replace HXb16 : Hid (EfAt V29 b16 ⟨1, (Y : Int), m, 0, 0⟩) := Lib.hid (HXb16.out.bel hb)
  replace HXb17 : Hid (HAt V29 b17 g) := Lib.hid (HXb17.out.bel hb)
  replace HXb18 : Hid (EfAt V29 b18 ⟨2, 0, m, (h Y), 0⟩) := Lib.hid (HXb18.out.bel hb)
  replace HXb19 : Hid (HAt V29 b19 g) := Lib.hid (HXb19.out.bel hb)
  replace HXb20 : Hid (EfAt V29 b20 ⟨4, (Y : Int), (h X), (h Y), 0⟩) := Lib.hid (HXb20.out.bel hb)
  replace HXb21 : Hid (HAt V29 b21 g) := Lib.hid (HXb21.out.bel hb)
  replace HXb22 : Hid (EfAt V29 b22 ⟨5, (Y : Int), (h X), (h Y), 1⟩) := Lib.hid (HXb22.out.bel hb)
  clear hb
  have hT : HAt V29 b10 h ∧ EfAt V29 b16 ⟨1, (Y : Int), m, 0, 0⟩ ∧ EfAt V29 b18 ⟨2, 0, m, (h Y), 0⟩ ∧ EfAt V29 b20 ⟨4, (Y : Int), (h X), (h Y), 0⟩ ∧ EfAt V29 b22 ⟨5, (Y : Int), (h X), (h Y), 1⟩ := ⟨HXb10.out, HXb16.out, HXb18.out, HXb20.out, HXb22.out⟩
  refine takeU 76 (i := 0) (v := .bool true) rfl rfl rfl (by kernel_rfl) (by kernel_rfl) (by kernel_rfl) (by kernel_rfl) (fun _ _ _ h => h) (by kernel_rfl) (fun w0 hS => rfl) hT ?_
  try simp only [List.setIfInBounds_toArray, List.set_cons_zero, List.set_cons_succ]
  refine takeU 77 (i := 1) (v := .bool true) rfl rfl rfl (by kernel_rfl) (by kernel_rfl) (by kernel_rfl) (by kernel_rfl) (fun _ _ _ h => h) (by kernel_rfl) (fun w0 hS => rfl) hT ?_
  try simp only [List.setIfInBounds_toArray, List.set_cons_zero, List.set_cons_succ]
  refine takeU 78 (i := 2) (v := .agg (eC ⟨1, (Y : Int), m, 0, 0⟩)) rfl rfl rfl (by kernel_rfl) (by kernel_rfl) (by kernel_rfl) (by kernel_rfl) (fun _ _ _ h => h) (by kernel_rfl) (fun w0 hS => (exec_row 34 (.tmp 16) rfl b16 rfl 34 (eC ⟨1, (Y : Int), m, 0, 0⟩) (0, 0) _ hS.2.1 Tryd.underlying34 rfl (sz_eff _))) hT ?_
  try simp only [List.setIfInBounds_toArray, List.set_cons_zero, List.set_cons_succ]
  refine takeU 79 (i := 3) (v := .int .i64 (Y : Int)) rfl rfl rfl (by kernel_rfl) (by kernel_rfl) (by kernel_rfl) (by kernel_rfl) (fun _ _ _ h => h) (by kernel_rfl) (fun w0 hS => rfl) hT ?_
  try simp only [List.setIfInBounds_toArray, List.set_cons_zero, List.set_cons_succ]
  refine takeU 80 (i := 4) (v := .int .i64 m) rfl rfl rfl (by kernel_rfl) (by kernel_rfl) (by kernel_rfl) (by kernel_rfl) (fun _ _ _ h => h) (by kernel_rfl) (fun w0 hS => rfl) hT ?_
  try simp only [List.setIfInBounds_toArray, List.set_cons_zero, List.set_cons_succ]
  refine takeU 81 (i := 5) (v := .agg (eC ⟨1, (Y : Int), m, 0, 0⟩)) rfl rfl rfl (by kernel_rfl) (by kernel_rfl) (by kernel_rfl) (by kernel_rfl) (fun _ _ _ h => h) (by kernel_rfl) (fun w0 hS => (by kernel_rfl)) hT ?_
  try simp only [List.setIfInBounds_toArray, List.set_cons_zero, List.set_cons_succ]
  refine takeU 82 (i := 6) (v := .bool true) rfl rfl rfl (by kernel_rfl) (by kernel_rfl) (by kernel_rfl) (by kernel_rfl) (fun _ _ _ h => h) (by kernel_rfl) (fun w0 hS => (exec_eqE rfl rfl rfl (rfl) w0)) hT ?_
  try simp only [List.setIfInBounds_toArray, List.set_cons_zero, List.set_cons_succ]
  refine takeU 83 (i := 7) (v := .bool true) rfl rfl rfl (by kernel_rfl) (by kernel_rfl) (by kernel_rfl) (by kernel_rfl) (fun _ _ _ h => h) (by kernel_rfl) (fun w0 hS => (by kernel_rfl)) hT ?_
  try simp only [List.setIfInBounds_toArray, List.set_cons_zero, List.set_cons_succ]
  refine takeU 84 (i := 8) (v := .bool true) rfl rfl rfl (by kernel_rfl) (by kernel_rfl) (by kernel_rfl) (by kernel_rfl) (fun _ _ _ h => h) (by kernel_rfl) (fun w0 hS => rfl) hT ?_
  try simp only [List.setIfInBounds_toArray, List.set_cons_zero, List.set_cons_succ]
  refine takeU 85 (i := 9) (v := .agg (eC ⟨2, 0, m, (h Y), 0⟩)) rfl rfl rfl (by kernel_rfl) (by kernel_rfl) (by kernel_rfl) (by kernel_rfl) (fun _ _ _ h => h) (by kernel_rfl) (fun w0 hS => (exec_row 34 (.tmp 18) rfl b18 rfl 34 (eC ⟨2, 0, m, (h Y), 0⟩) (0, 0) _ hS.2.2.1 Tryd.underlying34 rfl (sz_eff _))) hT ?_
  try simp only [List.setIfInBounds_toArray, List.set_cons_zero, List.set_cons_succ]
  refine takeU 86 (i := 10) (v := .int .i64 m) rfl rfl rfl (by kernel_rfl) (by kernel_rfl) (by kernel_rfl) (by kernel_rfl) (fun _ _ _ h => h) (by kernel_rfl) (fun w0 hS => rfl) hT ?_
  try simp only [List.setIfInBounds_toArray, List.set_cons_zero, List.set_cons_succ]
  refine takeU 87 (i := 11) (v := .int .i64 (Y : Int)) rfl rfl rfl (by kernel_rfl) (by kernel_rfl) (by kernel_rfl) (by kernel_rfl) (fun _ _ _ h => h) (by kernel_rfl) (fun w0 hS => rfl) hT ?_
  try simp only [List.setIfInBounds_toArray, List.set_cons_zero, List.set_cons_succ]
  refine takeU 88 (i := 12) (v := .pointer (some ⟨b10, 0, none⟩)) rfl rfl rfl (by kernel_rfl) (by kernel_rfl) (by kernel_rfl) (by kernel_rfl) (fun _ _ _ h => h) (by kernel_rfl) (fun w0 hS => (by kernel_rfl)) hT ?_
  try simp only [List.setIfInBounds_toArray, List.set_cons_zero, List.set_cons_succ]
  refine takeU 89 (i := 13) (v := .pointer (some ⟨b10, Y, none⟩)) rfl rfl rfl (by kernel_rfl) (by kernel_rfl) (by kernel_rfl) (by kernel_rfl) (fun _ _ _ h => h) (by kernel_rfl) (fun w0 hS => (exec_reg rfl b10 Y (by omega) rfl rfl _)) hT ?_
  try simp only [List.setIfInBounds_toArray, List.set_cons_zero, List.set_cons_succ]
  refine takeU 90 (i := 14) (v := .int .i64 (h Y)) rfl rfl rfl (by kernel_rfl) (by kernel_rfl) (by kernel_rfl) (by kernel_rfl) (fun _ _ _ h => h) (by kernel_rfl) (fun w0 hS => (exec_cell 3 (.tmp 89) rfl ⟨b10, Y, none⟩ rfl _ _ ((hS.1).cell (j := Y) (by omega)) Tryd.underlying3 rfl)) hT ?_
  try simp only [List.setIfInBounds_toArray, List.set_cons_zero, List.set_cons_succ]
  refine takeU 91 (i := 15) (v := .agg (eC ⟨2, 0, m, (h Y), 0⟩)) rfl rfl rfl (by kernel_rfl) (by kernel_rfl) (by kernel_rfl) (by kernel_rfl) (fun _ _ _ h => h) (by kernel_rfl) (fun w0 hS => (by kernel_rfl)) hT ?_
  try simp only [List.setIfInBounds_toArray, List.set_cons_zero, List.set_cons_succ]
  refine takeU 92 (i := 16) (v := .bool true) rfl rfl rfl (by kernel_rfl) (by kernel_rfl) (by kernel_rfl) (by kernel_rfl) (fun _ _ _ h => h) (by kernel_rfl) (fun w0 hS => (exec_eqE rfl rfl rfl (rfl) w0)) hT ?_
  try simp only [List.setIfInBounds_toArray, List.set_cons_zero, List.set_cons_succ]
  refine takeU 93 (i := 17) (v := .bool true) rfl rfl rfl (by kernel_rfl) (by kernel_rfl) (by kernel_rfl) (by kernel_rfl) (fun _ _ _ h => h) (by kernel_rfl) (fun w0 hS => (by kernel_rfl)) hT ?_
  try simp only [List.setIfInBounds_toArray, List.set_cons_zero, List.set_cons_succ]
  refine takeU 94 (i := 18) (v := .bool true) rfl rfl rfl (by kernel_rfl) (by kernel_rfl) (by kernel_rfl) (by kernel_rfl) (fun _ _ _ h => h) (by kernel_rfl) (fun w0 hS => rfl) hT ?_
  try simp only [List.setIfInBounds_toArray, List.set_cons_zero, List.set_cons_succ]
  refine takeU 95 (i := 19) (v := .agg (eC ⟨4, (Y : Int), (h X), (h Y), 0⟩)) rfl rfl rfl (by kernel_rfl) (by kernel_rfl) (by kernel_rfl) (by kernel_rfl) (fun _ _ _ h => h) (by kernel_rfl) (fun w0 hS => (exec_row 34 (.tmp 20) rfl b20 rfl 34 (eC ⟨4, (Y : Int), (h X), (h Y), 0⟩) (0, 0) _ hS.2.2.2.1 Tryd.underlying34 rfl (sz_eff _))) hT ?_
  try simp only [List.setIfInBounds_toArray, List.set_cons_zero, List.set_cons_succ]
  refine takeU 96 (i := 20) (v := .int .i64 (Y : Int)) rfl rfl rfl (by kernel_rfl) (by kernel_rfl) (by kernel_rfl) (by kernel_rfl) (fun _ _ _ h => h) (by kernel_rfl) (fun w0 hS => rfl) hT ?_
  try simp only [List.setIfInBounds_toArray, List.set_cons_zero, List.set_cons_succ]
  refine takeU 97 (i := 21) (v := .int .i64 (X : Int)) rfl rfl rfl (by kernel_rfl) (by kernel_rfl) (by kernel_rfl) (by kernel_rfl) (fun _ _ _ h => h) (by kernel_rfl) (fun w0 hS => rfl) hT ?_
  try simp only [List.setIfInBounds_toArray, List.set_cons_zero, List.set_cons_succ]
  refine takeU 98 (i := 22) (v := .pointer (some ⟨b10, 0, none⟩)) rfl rfl rfl (by kernel_rfl) (by kernel_rfl) (by kernel_rfl) (by kernel_rfl) (fun _ _ _ h => h) (by kernel_rfl) (fun w0 hS => (by kernel_rfl)) hT ?_
  try simp only [List.setIfInBounds_toArray, List.set_cons_zero, List.set_cons_succ]
  refine takeU 99 (i := 23) (v := .pointer (some ⟨b10, X, none⟩)) rfl rfl rfl (by kernel_rfl) (by kernel_rfl) (by kernel_rfl) (by kernel_rfl) (fun _ _ _ h => h) (by kernel_rfl) (fun w0 hS => (exec_reg rfl b10 X (by omega) rfl rfl _)) hT ?_
  try simp only [List.setIfInBounds_toArray, List.set_cons_zero, List.set_cons_succ]
  refine takeU 100 (i := 24) (v := .int .i64 (h X)) rfl rfl rfl (by kernel_rfl) (by kernel_rfl) (by kernel_rfl) (by kernel_rfl) (fun _ _ _ h => h) (by kernel_rfl) (fun w0 hS => (exec_cell 3 (.tmp 99) rfl ⟨b10, X, none⟩ rfl _ _ ((hS.1).cell (j := X) (by omega)) Tryd.underlying3 rfl)) hT ?_
  try simp only [List.setIfInBounds_toArray, List.set_cons_zero, List.set_cons_succ]
  refine takeU 101 (i := 25) (v := .int .i64 (Y : Int)) rfl rfl rfl (by kernel_rfl) (by kernel_rfl) (by kernel_rfl) (by kernel_rfl) (fun _ _ _ h => h) (by kernel_rfl) (fun w0 hS => rfl) hT ?_
  try simp only [List.setIfInBounds_toArray, List.set_cons_zero, List.set_cons_succ]
  refine takeU 102 (i := 26) (v := .pointer (some ⟨b10, 0, none⟩)) rfl rfl rfl (by kernel_rfl) (by kernel_rfl) (by kernel_rfl) (by kernel_rfl) (fun _ _ _ h => h) (by kernel_rfl) (fun w0 hS => (by kernel_rfl)) hT ?_
  try simp only [List.setIfInBounds_toArray, List.set_cons_zero, List.set_cons_succ]
  refine takeU 103 (i := 27) (v := .pointer (some ⟨b10, Y, none⟩)) rfl rfl rfl (by kernel_rfl) (by kernel_rfl) (by kernel_rfl) (by kernel_rfl) (fun _ _ _ h => h) (by kernel_rfl) (fun w0 hS => (exec_reg rfl b10 Y (by omega) rfl rfl _)) hT ?_
  try simp only [List.setIfInBounds_toArray, List.set_cons_zero, List.set_cons_succ]
  refine takeU 104 (i := 28) (v := .int .i64 (h Y)) rfl rfl rfl (by kernel_rfl) (by kernel_rfl) (by kernel_rfl) (by kernel_rfl) (fun _ _ _ h => h) (by kernel_rfl) (fun w0 hS => (exec_cell 3 (.tmp 103) rfl ⟨b10, Y, none⟩ rfl _ _ ((hS.1).cell (j := Y) (by omega)) Tryd.underlying3 rfl)) hT ?_
  try simp only [List.setIfInBounds_toArray, List.set_cons_zero, List.set_cons_succ]
  refine takeU 105 (i := 29) (v := .agg (eC ⟨4, (Y : Int), (h X), (h Y), 0⟩)) rfl rfl rfl (by kernel_rfl) (by kernel_rfl) (by kernel_rfl) (by kernel_rfl) (fun _ _ _ h => h) (by kernel_rfl) (fun w0 hS => (by kernel_rfl)) hT ?_
  try simp only [List.setIfInBounds_toArray, List.set_cons_zero, List.set_cons_succ]
  refine takeU 106 (i := 30) (v := .bool true) rfl rfl rfl (by kernel_rfl) (by kernel_rfl) (by kernel_rfl) (by kernel_rfl) (fun _ _ _ h => h) (by kernel_rfl) (fun w0 hS => (exec_eqE rfl rfl rfl (rfl) w0)) hT ?_
  try simp only [List.setIfInBounds_toArray, List.set_cons_zero, List.set_cons_succ]
  refine takeU 107 (i := 31) (v := .bool true) rfl rfl rfl (by kernel_rfl) (by kernel_rfl) (by kernel_rfl) (by kernel_rfl) (fun _ _ _ h => h) (by kernel_rfl) (fun w0 hS => (by kernel_rfl)) hT ?_
  try simp only [List.setIfInBounds_toArray, List.set_cons_zero, List.set_cons_succ]
  refine takeU 108 (i := 32) (v := .bool true) rfl rfl rfl (by kernel_rfl) (by kernel_rfl) (by kernel_rfl) (by kernel_rfl) (fun _ _ _ h => h) (by kernel_rfl) (fun w0 hS => rfl) hT ?_
  try simp only [List.setIfInBounds_toArray, List.set_cons_zero, List.set_cons_succ]
  refine takeU 109 (i := 33) (v := .agg (eC ⟨5, (Y : Int), (h X), (h Y), 1⟩)) rfl rfl rfl (by kernel_rfl) (by kernel_rfl) (by kernel_rfl) (by kernel_rfl) (fun _ _ _ h => h) (by kernel_rfl) (fun w0 hS => (exec_row 34 (.tmp 22) rfl b22 rfl 34 (eC ⟨5, (Y : Int), (h X), (h Y), 1⟩) (0, 0) _ hS.2.2.2.2 Tryd.underlying34 rfl (sz_eff _))) hT ?_
  try simp only [List.setIfInBounds_toArray, List.set_cons_zero, List.set_cons_succ]
  refine takeU 110 (i := 34) (v := .int .i64 (Y : Int)) rfl rfl rfl (by kernel_rfl) (by kernel_rfl) (by kernel_rfl) (by kernel_rfl) (fun _ _ _ h => h) (by kernel_rfl) (fun w0 hS => rfl) hT ?_
  try simp only [List.setIfInBounds_toArray, List.set_cons_zero, List.set_cons_succ]
  refine takeU 111 (i := 35) (v := .int .i64 (X : Int)) rfl rfl rfl (by kernel_rfl) (by kernel_rfl) (by kernel_rfl) (by kernel_rfl) (fun _ _ _ h => h) (by kernel_rfl) (fun w0 hS => rfl) hT ?_
  try simp only [List.setIfInBounds_toArray, List.set_cons_zero, List.set_cons_succ]
  refine takeU 112 (i := 36) (v := .pointer (some ⟨b10, 0, none⟩)) rfl rfl rfl (by kernel_rfl) (by kernel_rfl) (by kernel_rfl) (by kernel_rfl) (fun _ _ _ h => h) (by kernel_rfl) (fun w0 hS => (by kernel_rfl)) hT ?_
  try simp only [List.setIfInBounds_toArray, List.set_cons_zero, List.set_cons_succ]
  refine takeU 113 (i := 37) (v := .pointer (some ⟨b10, X, none⟩)) rfl rfl rfl (by kernel_rfl) (by kernel_rfl) (by kernel_rfl) (by kernel_rfl) (fun _ _ _ h => h) (by kernel_rfl) (fun w0 hS => (exec_reg rfl b10 X (by omega) rfl rfl _)) hT ?_
  try simp only [List.setIfInBounds_toArray, List.set_cons_zero, List.set_cons_succ]
  refine takeU 114 (i := 38) (v := .int .i64 (h X)) rfl rfl rfl (by kernel_rfl) (by kernel_rfl) (by kernel_rfl) (by kernel_rfl) (fun _ _ _ h => h) (by kernel_rfl) (fun w0 hS => (exec_cell 3 (.tmp 113) rfl ⟨b10, X, none⟩ rfl _ _ ((hS.1).cell (j := X) (by omega)) Tryd.underlying3 rfl)) hT ?_
  try simp only [List.setIfInBounds_toArray, List.set_cons_zero, List.set_cons_succ]
  refine takeU 115 (i := 39) (v := .int .i64 (Y : Int)) rfl rfl rfl (by kernel_rfl) (by kernel_rfl) (by kernel_rfl) (by kernel_rfl) (fun _ _ _ h => h) (by kernel_rfl) (fun w0 hS => rfl) hT ?_
  try simp only [List.setIfInBounds_toArray, List.set_cons_zero, List.set_cons_succ]
  refine takeU 116 (i := 40) (v := .pointer (some ⟨b10, 0, none⟩)) rfl rfl rfl (by kernel_rfl) (by kernel_rfl) (by kernel_rfl) (by kernel_rfl) (fun _ _ _ h => h) (by kernel_rfl) (fun w0 hS => (by kernel_rfl)) hT ?_
  try simp only [List.setIfInBounds_toArray, List.set_cons_zero, List.set_cons_succ]
  refine takeU 117 (i := 41) (v := .pointer (some ⟨b10, Y, none⟩)) rfl rfl rfl (by kernel_rfl) (by kernel_rfl) (by kernel_rfl) (by kernel_rfl) (fun _ _ _ h => h) (by kernel_rfl) (fun w0 hS => (exec_reg rfl b10 Y (by omega) rfl rfl _)) hT ?_
  try simp only [List.setIfInBounds_toArray, List.set_cons_zero, List.set_cons_succ]
  refine takeU 118 (i := 42) (v := .int .i64 (h Y)) rfl rfl rfl (by kernel_rfl) (by kernel_rfl) (by kernel_rfl) (by kernel_rfl) (fun _ _ _ h => h) (by kernel_rfl) (fun w0 hS => (exec_cell 3 (.tmp 117) rfl ⟨b10, Y, none⟩ rfl _ _ ((hS.1).cell (j := Y) (by omega)) Tryd.underlying3 rfl)) hT ?_
  try simp only [List.setIfInBounds_toArray, List.set_cons_zero, List.set_cons_succ]
  refine takeU 119 (i := 43) (v := .agg (eC ⟨5, (Y : Int), (h X), (h Y), 1⟩)) rfl rfl rfl (by kernel_rfl) (by kernel_rfl) (by kernel_rfl) (by kernel_rfl) (fun _ _ _ h => h) (by kernel_rfl) (fun w0 hS => (by kernel_rfl)) hT ?_
  try simp only [List.setIfInBounds_toArray, List.set_cons_zero, List.set_cons_succ]
  refine takeU 120 (i := 44) (v := .bool true) rfl rfl rfl (by kernel_rfl) (by kernel_rfl) (by kernel_rfl) (by kernel_rfl) (fun _ _ _ h => h) (by kernel_rfl) (fun w0 hS => (exec_eqE rfl rfl rfl (rfl) w0)) hT ?_
  try simp only [List.setIfInBounds_toArray, List.set_cons_zero, List.set_cons_succ]
  refine takeU 121 (i := 45) (v := .bool true) rfl rfl rfl (by kernel_rfl) (by kernel_rfl) (by kernel_rfl) (by kernel_rfl) (fun _ _ _ h => h) (by kernel_rfl) (fun w0 hS => (by kernel_rfl)) hT ?_
  try simp only [List.setIfInBounds_toArray, List.set_cons_zero, List.set_cons_succ]
  refine pureU 8 (i := 46) rfl rfl (by kernel_rfl) (by kernel_rfl) (v := .bool true) rfl hT ?_
  try simp only [List.setIfInBounds_toArray, List.set_cons_zero, List.set_cons_succ]
  refine Upto.done (by kernel_rfl) ?_ _
  clear hT
  refine hK _ _ ?_
  clear hK K
  go_wp2
  go_ret
  exact ⟨rfl, HB.out⟩
end Go.Proofs.YtgcgdjmlngfpeaaDoor
