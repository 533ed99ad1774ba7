/- HartLinks: a jump tells where it came from; a second one, by that register, comes back behind it. -/
import Derived.Test.YtgcgdjmlngfpeaaDoorHLaw1
namespace Go.Proofs.YtgcgdjmlngfpeaaDoor
open Go.RowKit Ht
set_option linter.unusedVariables false
set_option linter.unusedSimpArgs false
set_option maxRecDepth 100000
set_option maxHeartbeats 8000000
theorem r_jalr {a : Int} (ha : 1 ≤ a ∧ a < 32) : Rv.right ⟨4, 0, a, 0, 0⟩ = true := by
  unfold Rv.right
  simp only [show Rv.form 4 = 73 from by decide +kernel]
  simp [Rv.reg, Rv.hasD, Rv.hasA, Rv.hasB, Rv.num]
  omega
theorem r_auipc {d : Int} (hd : 1 ≤ d ∧ d < 32) : Rv.right ⟨2, d, 0, 0, 0⟩ = true := by
  unfold Rv.right
  simp only [show Rv.form 2 = 85 from by decide +kernel]
  simp [Rv.reg, Rv.hasD, Rv.hasA, Rv.hasB, Rv.num]
  omega
theorem r_addi {d a n : Int} (hd : 1 ≤ d ∧ d < 32) (ha : 1 ≤ a ∧ a < 32) (hn : -2048 ≤ n ∧ n ≤ 2047) : Rv.right ⟨13, d, a, 0, n⟩ = true := by
  unfold Rv.right
  simp only [show Rv.form 13 = 73 from by decide +kernel]
  simp [Rv.reg, Rv.hasD, Rv.hasA, Rv.hasB, Rv.num]
  omega
theorem links_any (w : World) {P : Option Addr} {N C : Nat} {l : List Int} {d far : Int} (hO : OpsAt w) (hn : l.length = N) (hL : IntsQ w P l) (hNC : N ≤ C) (hd : inInt d) (hf : inInt far) :
    Calls Tryd.prog 9 #[.slice P N C, .int .i64 d, .int .i64 far] w (OneV (.bool true) w) := by
  obtain ⟨h, hh⟩ : ∃ h, fitV l = h := ⟨_, rfl⟩
  have fine : Fine h := hh ▸ fit_fine l
  obtain ⟨k0, hk0⟩ : ∃ k, Plain.pick d 31 = k := ⟨_, rfl⟩
  obtain ⟨n0, hn0⟩ : ∃ k, Plain.pick far 1000 = k := ⟨_, rfl⟩
  have bk := Plain.pick_bd d 31 (by omega)
  have bn := Plain.pick_bd far 1000 (by omega)
  rw [hk0] at bk
  rw [hn0] at bn
  obtain ⟨kk, hK⟩ : ∃ kk : Nat, (kk : Int) = 1 + k0 := ⟨(1 + k0).toNat, by omega⟩
  obtain ⟨n1, hn1⟩ : ∃ n, n0 - 500 = n := ⟨_, rfl⟩
  obtain ⟨n, hn2⟩ : ∃ n, 4 * n1 = n := ⟨_, rfl⟩
  have rK : 1 ≤ (kk : Int) ∧ (kk : Int) < 32 := by omega
  have rn : -1048576 ≤ n ∧ n ≤ 1048574 ∧ n % 2 = 0 := by omega
  have K1 : Hid (IntKind.i64.wrap (1 + k0) = (kk : Int)) := Lib.hid (by rw [IntWalk.i64_in _ (by omega)]; omega)
  have N1 : Hid (IntKind.i64.wrap (n0 - 500) = n1) := Lib.hid (by rw [IntWalk.i64_in _ (by omega)]; omega)
  have N2 : Hid (IntKind.i64.wrap (4 * n1) = n) := Lib.hid (by rw [IntWalk.i64_in _ (by omega)]; omega)
  obtain ⟨g, hg⟩ : ∃ g, up (put h kk (place h 4)) 32 (place h n) = g := ⟨_, rfl⟩
  obtain ⟨b, hb⟩ : ∃ b, up (put g 0 (place g 4)) 32 (bits .andNot .i64 (wrap32 (g kk + 0)) 1) = b := ⟨_, rfl⟩
  obtain ⟨u, hu⟩ : ∃ u, Ht.go (put h kk (place h (wrap64 (0 * 4096)))) 4 = u := ⟨_, rfl⟩
  obtain ⟨s, hs⟩ : ∃ s, Ht.go (put u kk (Plain.two 1 (u kk) 8)) 4 = s := ⟨_, rfl⟩
  have S1 : Hid (stepV h 0 ⟨3, kk, 0, 0, n⟩ = (g, e0)) := Lib.hid (by subst hg; unfold stepV; rw [r_jal rK rn]; rfl)
  have S2 : Hid (stepV g 0 ⟨4, 0, kk, 0, 0⟩ = (b, e0)) := Lib.hid (by subst hb; unfold stepV; rw [r_jalr rK]; rfl)
  have S3 : Hid (stepV h 0 ⟨2, kk, 0, 0, 0⟩ = (u, e0)) := Lib.hid (by subst hu; unfold stepV; rw [r_auipc rK]; rfl)
  have S4 : Hid (stepV u 0 ⟨13, kk, kk, 0, 8⟩ = (s, e0)) := Lib.hid (by subst hs; unfold stepV; rw [r_addi rK rK (by omega)]; rfl)
  have hK32 : kk ≠ 32 := by omega
  have pK : ∀ (h : H) (x : Int), put h (kk : Int) x = up h kk (wrap32 x) := fun h x => by unfold put; rw [if_pos rK, Int.toNat_natCast]
  have gK : g kk = wrap32 (h 32 + 4) := by rw [← hg, up_ne _ _ hK32, pK, up_at]; exact Plain.w32_w32 _
  have c1 : g 32 = wrap32 (h 32 + n) := by rw [← hg, up_at]; rfl
  have ev : wrap32 (h 32 + 4) % 2 = 0 := by have := fine.pc; unfold wrap32; omega
  have c2 : b 32 = wrap32 (h 32 + 4) := by
    rw [← hb, up_at, gK, Int.add_zero, Plain.w32_w32, and_not1 (w32_b _) ev]
  have uK : u kk = h 32 := by
    rw [← hu, pK]
    unfold Ht.go
    rw [up_ne _ _ hK32, up_at]
    unfold place
    have z : wrap64 (0 * 4096) = 0 := by decide +kernel
    rw [z, Int.add_zero, Plain.w32_w32]
    exact Plain.w32_in _ (fine.in32 32)
  have u32 : u 32 = wrap32 (h 32 + 4) := by
    rw [← hu, pK]
    unfold Ht.go
    rw [up_at]
    unfold place
    rw [up_ne _ _ (Ne.symm hK32)]
  have c3 : s kk = wrap32 (h 32 + 8) := by
    rw [← hs, pK]
    unfold Ht.go
    rw [up_ne _ _ hK32, up_at, uK]
    show wrap32 (wrap32 (wrap32 (h 32) + wrap32 8)) = _
    rw [Plain.w32_w32, Plain.w32_add_l, Plain.w32_add_r]
  have c4 : s 32 = s kk := by
    rw [c3, ← hs, pK]
    unfold Ht.go
    rw [up_at]
    unfold place
    rw [up_ne _ _ (Ne.symm hK32), u32, Plain.w32_add_l]
    congr 1
    omega
  obtain ⟨m1, hm1⟩ : ∃ m, wrap32 (h 32 + n) = m := ⟨_, rfl⟩
  obtain ⟨m2, hm2⟩ : ∃ m, wrap32 (h 32 + 4) = m := ⟨_, rfl⟩
  obtain ⟨m3, hm3⟩ : ∃ m, wrap32 (h 32 + 8) = m := ⟨_, rfl⟩
  rw [hm1] at c1
  rw [hm2] at c2
  rw [hm3] at c3
  have M1 := Lib.hid hm1
  have M2 := Lib.hid hm2
  have M3 := Lib.hid hm3
  have C1 := Lib.hid c1
  have C2 := Lib.hid c2
  have C3 := Lib.hid c3
  have C4 := Lib.hid c4
  have WK : Hid (i64 (kk : Int)) := Lib.hid (by omega)
  have WN : Hid (i64 n) := Lib.hid (by omega)
  have W0_ : Hid (i64 0) := Lib.hid (by omega)
  have W2_ : Hid (i64 2) := Lib.hid (by omega)
  have W3 : Hid (i64 3) := Lib.hid (by omega)
  have W4 : Hid (i64 4) := Lib.hid (by omega)
  have W8 : Hid (i64 8) := Lib.hid (by omega)
  have W13 : Hid (i64 13) := Lib.hid (by omega)
  have kl : kk < 32 := by omega
  have HH := Lib.hid hh
  have R1 := Lib.hid hk0
  have R2 := Lib.hid hn0
  have HO := Lib.hid hO
  have HN := Lib.hid hn
  have HL := Lib.hid hL
  have HNC := Lib.hid hNC
  have HD := Lib.hid hd
  have HF := Lib.hid hf
  clear hh fine hk0 hn0 bk bn hK hn1 hn2 rK rn hg hb hu hs hK32 pK gK c1 ev c2 uK u32 c3 c4 hm1 hm2 hm3 hO hn hL hNC hd hf
  go_enter Tryd.func9, Tryd.ntmps9
  have HB : Hid (Bel w w) := Lib.hid (Bel.refl w)
  go_upto_region 1 with (fail)
  rename_i K hK
  refine wp_region_list ?_
  refine wpList_call rfl (f := 12) (args := #[]) (v := .bool true) (by kernel_rfl) (awake_any (HO.out.bel HB.out)) ?_
  intro V1 hb
  replace HB : Hid (Bel w V1) := Lib.hid (HB.out.trans hb)
  clear hb
  try simp only [Act.put, List.setIfInBounds_toArray, List.set_cons_zero, List.set_cons_succ]
  refine wpList_one rfl (w' := V1) (v := .bool true) rfl ?_
  try simp only [Act.put, List.setIfInBounds_toArray, List.set_cons_zero, List.set_cons_succ]
  refine wpList_nil ?_
  refine hK _ _ ?_
  clear hK K
  go_upto_region 2 with (fail)
  rename_i K hK
  refine wp_region_list ?_
  refine wpList_one rfl (w' := V1) (v := .slice P N C) rfl ?_
  try simp only [Act.put, List.setIfInBounds_toArray, List.set_cons_zero, List.set_cons_succ]
  refine wpList_call rfl (f := 13) (args := #[.slice P N C]) (v := hv h) (by kernel_rfl) (fit_lit14 HH.out HN.out (HL.out.bel HB.out) HNC.out) ?_
  intro V2 hb
  replace HB : Hid (Bel w V2) := Lib.hid (HB.out.trans hb)
  clear hb
  try simp only [Act.put, List.setIfInBounds_toArray, List.set_cons_zero, List.set_cons_succ]
  obtain ⟨hb, hx⟩ := box1 V2 hZ 28
  refine wpList_one rfl (w' := V2.alloc (.cells hZ 28)) (v := .pointer (some ⟨V2.heap.size, 0, none⟩)) (by kernel_rfl) ?_
  try simp only [Act.put, List.setIfInBounds_toArray, List.set_cons_zero, List.set_cons_succ]
  have hl := HB.out.size
  generalize V2.alloc (.cells hZ 28) = V3 at hb hx ⊢
  generalize V2.heap.size = b8 at hx hl ⊢
  have HG := Lib.hid hl
  clear hl
  replace HB : Hid (Bel w V3) := Lib.hid (HB.out.trans hb)
  have HXb8 : Hid (HAt V3 b8 (fun _ => 0)) := Lib.hid hx
  clear hb hx
  try simp only [Act.put, List.setIfInBounds_toArray, List.set_cons_zero, List.set_cons_succ]
  refine wpList_store_row rfl 28 (.tmp 8) (.tmp 21) rfl b8 (hC h) rfl rfl 28 (hC (fun _ => 0)) HXb8.out (sz_hart _) (by rw [hC_size, hC_size]) (hC_ones _) ?_
  have hn := row_same (cs := (hC h)) HXb8.out
  have hb := row_bel HB.out (g := b8) (by have := HG.out; omega) (hC h)
  generalize V3.setRow b8 (hC h) = V4 at hn hb  ⊢
  clear HB HXb8
  have HB : Hid (Bel w V4) := Lib.hid hb
  have HXb8 : Hid (HAt V4 b8 h) := Lib.hid hn
  clear hn hb 
  try simp only [Act.put, List.setIfInBounds_toArray, List.set_cons_zero, List.set_cons_succ]
  refine wpList_nil ?_
  refine hK _ _ ?_
  clear hK K
  go_upto_region 3 with (fail)
  rename_i K hK
  refine wp_region_list ?_
  refine wpList_one rfl (w' := V4) (v := .int .i64 d) rfl ?_
  try simp only [Act.put, List.setIfInBounds_toArray, List.set_cons_zero, List.set_cons_succ]
  refine wpList_call rfl (f := 15) (args := #[.int .i64 d, .int .i64 31]) (v := .int .i64 k0) (by kernel_rfl) (pk HD.out (by decide) R1.out _) ?_
  intro V5 hb
  replace HB : Hid (Bel w V5) := Lib.hid (HB.out.trans hb)
  replace HXb8 : Hid (HAt V5 b8 h) := Lib.hid (HXb8.out.bel hb)
  clear hb
  try simp only [Act.put, List.setIfInBounds_toArray, List.set_cons_zero, List.set_cons_succ]
  refine wpList_one rfl (w' := V5) (v := .int .i64 (kk : Int)) (exec_add rfl rfl rfl K1.out _) ?_
  try simp only [Act.put, List.setIfInBounds_toArray, List.set_cons_zero, List.set_cons_succ]
  refine wpList_one rfl (w' := V5) (v := .int .i64 (kk : Int)) rfl ?_
  try simp only [Act.put, List.setIfInBounds_toArray, List.set_cons_zero, List.set_cons_succ]
  refine wpList_nil ?_
  refine hK _ _ ?_
  clear hK K
  go_upto_region 4 with (fail)
  rename_i K hK
  refine wp_region_list ?_
  refine wpList_one rfl (w' := V5) (v := .int .i64 far) rfl ?_
  try simp only [Act.put, List.setIfInBounds_toArray, List.set_cons_zero, List.set_cons_succ]
  refine wpList_call rfl (f := 15) (args := #[.int .i64 far, .int .i64 1000]) (v := .int .i64 n0) (by kernel_rfl) (pk HF.out (by decide) R2.out _) ?_
  intro V6 hb
  replace HB : Hid (Bel w V6) := Lib.hid (HB.out.trans hb)
  replace HXb8 : Hid (HAt V6 b8 h) := Lib.hid (HXb8.out.bel hb)
  clear hb
  try simp only [Act.put, List.setIfInBounds_toArray, List.set_cons_zero, List.set_cons_succ]
  refine wpList_one rfl (w' := V6) (v := .int .i64 n1) (exec_sub rfl rfl rfl N1.out _) ?_
  try simp only [Act.put, List.setIfInBounds_toArray, List.set_cons_zero, List.set_cons_succ]
  refine wpList_one rfl (w' := V6) (v := .int .i64 n) (exec_mul rfl rfl rfl N2.out _) ?_
  try simp only [Act.put, List.setIfInBounds_toArray, List.set_cons_zero, List.set_cons_succ]
  refine wpList_one rfl (w' := V6) (v := .int .i64 n) rfl ?_
  try simp only [Act.put, List.setIfInBounds_toArray, List.set_cons_zero, List.set_cons_succ]
  refine wpList_nil ?_
  refine hK _ _ ?_
  clear hK K
  go_upto_region 5 with (fail)
  rename_i K hK
  refine wp_region_list ?_
  refine wpList_load_row rfl 28 (.tmp 8) rfl b8 rfl 28 (hC h) (0, 0) _ HXb8.out Tryd.underlying28 rfl (sz_hart _) ?_
  try simp only [Act.put, List.setIfInBounds_toArray, List.set_cons_zero, List.set_cons_succ]
  refine wpList_one rfl (w' := V6) (v := .int .i64 (kk : Int)) rfl ?_
  try simp only [Act.put, List.setIfInBounds_toArray, List.set_cons_zero, List.set_cons_succ]
  refine wpList_one rfl (w' := V6) (v := .int .i64 n) rfl ?_
  try simp only [Act.put, List.setIfInBounds_toArray, List.set_cons_zero, List.set_cons_succ]
  refine wpList_one rfl (w' := V6) (v := iv 3 (kk : Int) 0 0 n) (by kernel_rfl) ?_
  try simp only [Act.put, List.setIfInBounds_toArray, List.set_cons_zero, List.set_cons_succ]
  refine wpList_call rfl (f := 16) (args := #[hv h, .int .i64 0, iv 3 (kk : Int) 0 0 n]) (v := .tuple #[hv g, .agg (eC e0)]) (by kernel_rfl) (st HO HB.out (wf5 W3.out WK.out W0_.out W0_.out WN.out) S1.out) ?_
  intro V7 hb
  replace HB : Hid (Bel w V7) := Lib.hid (HB.out.trans hb)
  replace HXb8 : Hid (HAt V7 b8 h) := Lib.hid (HXb8.out.bel hb)
  clear hb
  try simp only [Act.put, List.setIfInBounds_toArray, List.set_cons_zero, List.set_cons_succ]
  refine wpList_one rfl (w' := V7) (v := .tuple #[hv g, .agg (eC e0)]) rfl ?_
  try simp only [Act.put, List.setIfInBounds_toArray, List.set_cons_zero, List.set_cons_succ]
  refine wpList_one rfl (w' := V7) (v := hv g) rfl ?_
  try simp only [Act.put, List.setIfInBounds_toArray, List.set_cons_zero, List.set_cons_succ]
  refine wpList_one rfl (w' := V7) (v := .agg (eC e0)) rfl ?_
  try simp only [Act.put, List.setIfInBounds_toArray, List.set_cons_zero, List.set_cons_succ]
  obtain ⟨hb, hx⟩ := box1 V7 hZ 28
  refine wpList_one rfl (w' := V7.alloc (.cells hZ 28)) (v := .pointer (some ⟨V7.heap.size, 0, none⟩)) (by kernel_rfl) ?_
  try simp only [Act.put, List.setIfInBounds_toArray, List.set_cons_zero, List.set_cons_succ]
  have hl := lt_of_heap HXb8.out
  generalize V7.alloc (.cells hZ 28) = V8 at hb hx ⊢
  generalize V7.heap.size = b11 at hx hl ⊢
  have HG1 := Lib.hid hl
  clear hl
  replace HB : Hid (Bel w V8) := Lib.hid (HB.out.trans hb)
  replace HXb8 : Hid (HAt V8 b8 h) := Lib.hid (HXb8.out.bel hb)
  have HXb11 : Hid (HAt V8 b11 (fun _ => 0)) := Lib.hid hx
  clear hb hx
  try simp only [Act.put, List.setIfInBounds_toArray, List.set_cons_zero, List.set_cons_succ]
  obtain ⟨hb, hx⟩ := box1 V8 (eC e0) 34
  refine wpList_one rfl (w' := V8.alloc (.cells (eC e0) 34)) (v := .pointer (some ⟨V8.heap.size, 0, none⟩)) (by kernel_rfl) ?_
  try simp only [Act.put, List.setIfInBounds_toArray, List.set_cons_zero, List.set_cons_succ]
  have hl := lt_of_heap HXb11.out
  generalize V8.alloc (.cells (eC e0) 34) = V9 at hb hx ⊢
  generalize V8.heap.size = b12 at hx hl ⊢
  have HG2 := Lib.hid hl
  clear hl
  replace HB : Hid (Bel w V9) := Lib.hid (HB.out.trans hb)
  replace HXb8 : Hid (HAt V9 b8 h) := Lib.hid (HXb8.out.bel hb)
  replace HXb11 : Hid (HAt V9 b11 (fun _ => 0)) := Lib.hid (HXb11.out.bel hb)
  have HXb12 : Hid (EfAt V9 b12 e0) := Lib.hid hx
  clear hb hx
  try simp only [Act.put, List.setIfInBounds_toArray, List.set_cons_zero, List.set_cons_succ]
  refine wpList_store_row rfl 28 (.tmp 11) (.tmp 35) rfl b11 (hC g) rfl rfl 28 (hC (fun _ => 0)) HXb11.out (sz_hart _) (by rw [hC_size, hC_size]) (hC_ones _) ?_
  have hn := row_same (cs := (hC g)) HXb11.out
  have hb := row_bel HB.out (g := b11) (by have := HG.out; have := HG1.out; have := HG2.out; omega) (hC g)
  have hb8 := (setRow_other V9 b11 b8 (hC g) (by have := HG.out; have := HG1.out; have := HG2.out; omega)).trans HXb8.out
  have hb12 := (setRow_other V9 b11 b12 (hC g) (by have := HG.out; have := HG1.out; have := HG2.out; omega)).trans HXb12.out
  generalize V9.setRow b11 (hC g) = V10 at hn hb hb8 hb12 ⊢
  clear HB HXb8 HXb11 HXb12
  have HB : Hid (Bel w V10) := Lib.hid hb
  have HXb8 : Hid (HAt V10 b8 h) := Lib.hid hb8
  have HXb12 : Hid (EfAt V10 b12 e0) := Lib.hid hb12
  have HXb11 : Hid (HAt V10 b11 g) := Lib.hid hn
  clear hn hb hb8 hb12
  try simp only [Act.put, List.setIfInBounds_toArray, List.set_cons_zero, List.set_cons_succ]
  refine wpList_store_row rfl 34 (.tmp 12) (.tmp 36) rfl b12 (eC e0) rfl rfl 34 (eC e0) HXb12.out (sz_eff _) rfl (eC_ones _) ?_
  have hn := row_same (cs := (eC e0)) HXb12.out
  have hb := row_bel HB.out (g := b12) (by have := HG.out; have := HG1.out; have := HG2.out; omega) (eC e0)
  have hb8 := (setRow_other V10 b12 b8 (eC e0) (by have := HG.out; have := HG1.out; have := HG2.out; omega)).trans HXb8.out
  have hb11 := (setRow_other V10 b12 b11 (eC e0) (by have := HG.out; have := HG1.out; have := HG2.out; omega)).trans HXb11.out
  generalize V10.setRow b12 (eC e0) = V11 at hn hb hb8 hb11 ⊢
  clear HB HXb8 HXb11 HXb12
  have HB : Hid (Bel w V11) := Lib.hid hb
  have HXb8 : Hid (HAt V11 b8 h) := Lib.hid hb8
  have HXb11 : Hid (HAt V11 b11 g) := Lib.hid hb11
  have HXb12 : Hid (EfAt V11 b12 e0) := Lib.hid hn
  clear hn hb hb8 hb11
  try simp only [Act.put, List.setIfInBounds_toArray, List.set_cons_zero, List.set_cons_succ]
  refine wpList_nil ?_
  refine hK _ _ ?_
  clear hK K
  go_upto_region 6 with (fail)
  rename_i K hK
  refine wp_region_list ?_
  refine wpList_load_row rfl 28 (.tmp 11) rfl b11 rfl 28 (hC g) (0, 0) _ HXb11.out Tryd.underlying28 rfl (sz_hart _) ?_
  try simp only [Act.put, List.setIfInBounds_toArray, List.set_cons_zero, List.set_cons_succ]
  refine wpList_one rfl (w' := V11) (v := .int .i64 (kk : Int)) rfl ?_
  try simp only [Act.put, List.setIfInBounds_toArray, List.set_cons_zero, List.set_cons_succ]
  refine wpList_one rfl (w' := V11) (v := iv 4 0 (kk : Int) 0 0) (by kernel_rfl) ?_
  try simp only [Act.put, List.setIfInBounds_toArray, List.set_cons_zero, List.set_cons_succ]
  refine wpList_call rfl (f := 16) (args := #[hv g, .int .i64 0, iv 4 0 (kk : Int) 0 0]) (v := .tuple #[hv b, .agg (eC e0)]) (by kernel_rfl) (st HO HB.out (wf5 W4.out W0_.out WK.out W0_.out W0_.out) S2.out) ?_
  intro V12 hb
  replace HB : Hid (Bel w V12) := Lib.hid (HB.out.trans hb)
  replace HXb8 : Hid (HAt V12 b8 h) := Lib.hid (HXb8.out.bel hb)
  replace HXb11 : Hid (HAt V12 b11 g) := Lib.hid (HXb11.out.bel hb)
  replace HXb12 : Hid (EfAt V12 b12 e0) := Lib.hid (HXb12.out.bel hb)
  clear hb
  try simp only [Act.put, List.setIfInBounds_toArray, List.set_cons_zero, List.set_cons_succ]
  refine wpList_one rfl (w' := V12) (v := .tuple #[hv b, .agg (eC e0)]) rfl ?_
  try simp only [Act.put, List.setIfInBounds_toArray, List.set_cons_zero, List.set_cons_succ]
  refine wpList_one rfl (w' := V12) (v := hv b) rfl ?_
  try simp only [Act.put, List.setIfInBounds_toArray, List.set_cons_zero, List.set_cons_succ]
  refine wpList_one rfl (w' := V12) (v := .agg (eC e0)) rfl ?_
  try simp only [Act.put, List.setIfInBounds_toArray, List.set_cons_zero, List.set_cons_succ]
  obtain ⟨hb, hx⟩ := box1 V12 hZ 28
  refine wpList_one rfl (w' := V12.alloc (.cells hZ 28)) (v := .pointer (some ⟨V12.heap.size, 0, none⟩)) (by kernel_rfl) ?_
  try simp only [Act.put, List.setIfInBounds_toArray, List.set_cons_zero, List.set_cons_succ]
  have hl := lt_of_heap HXb12.out
  generalize V12.alloc (.cells hZ 28) = V13 at hb hx ⊢
  generalize V12.heap.size = b13 at hx hl ⊢
  have HG3 := Lib.hid hl
  clear hl
  replace HB : Hid (Bel w V13) := Lib.hid (HB.out.trans hb)
  replace HXb8 : Hid (HAt V13 b8 h) := Lib.hid (HXb8.out.bel hb)
  replace HXb11 : Hid (HAt V13 b11 g) := Lib.hid (HXb11.out.bel hb)
  replace HXb12 : Hid (EfAt V13 b12 e0) := Lib.hid (HXb12.out.bel hb)
  have HXb13 : Hid (HAt V13 b13 (fun _ => 0)) := Lib.hid hx
  clear hb hx
  try simp only [Act.put, List.setIfInBounds_toArray, List.set_cons_zero, List.set_cons_succ]
  obtain ⟨hb, hx⟩ := box1 V13 (eC e0) 34
  refine wpList_one rfl (w' := V13.alloc (.cells (eC e0) 34)) (v := .pointer (some ⟨V13.heap.size, 0, none⟩)) (by kernel_rfl) ?_
  try simp only [Act.put, List.setIfInBounds_toArray, List.set_cons_zero, List.set_cons_succ]
  have hl := lt_of_heap HXb13.out
  generalize V13.alloc (.cells (eC e0) 34) = V14 at hb hx ⊢
  generalize V13.heap.size = b14 at hx hl ⊢
  have HG4 := Lib.hid hl
  clear hl
  replace HB : Hid (Bel w V14) := Lib.hid (HB.out.trans hb)
  replace HXb8 : Hid (HAt V14 b8 h) := Lib.hid (HXb8.out.bel hb)
  replace HXb11 : Hid (HAt V14 b11 g) := Lib.hid (HXb11.out.bel hb)
  replace HXb12 : Hid (EfAt V14 b12 e0) := Lib.hid (HXb12.out.bel hb)
  replace HXb13 : Hid (HAt V14 b13 (fun _ => 0)) := Lib.hid (HXb13.out.bel hb)
  have HXb14 : Hid (EfAt V14 b14 e0) := Lib.hid hx
  clear hb hx
  try simp only [Act.put, List.setIfInBounds_toArray, List.set_cons_zero, List.set_cons_succ]
  refine wpList_store_row rfl 28 (.tmp 13) (.tmp 42) rfl b13 (hC b) rfl rfl 28 (hC (fun _ => 0)) HXb13.out (sz_hart _) (by rw [hC_size, hC_size]) (hC_ones _) ?_
  have hn := row_same (cs := (hC b)) HXb13.out
  have hb := row_bel HB.out (g := b13) (by have := HG.out; have := HG1.out; have := HG2.out; have := HG3.out; have := HG4.out; omega) (hC b)
  have hb8 := (setRow_other V14 b13 b8 (hC b) (by have := HG.out; have := HG1.out; have := HG2.out; have := HG3.out; have := HG4.out; omega)).trans HXb8.out
  have hb11 := (setRow_other V14 b13 b11 (hC b) (by have := HG.out; have := HG1.out; have := HG2.out; have := HG3.out; have := HG4.out; omega)).trans HXb11.out
  have hb12 := (setRow_other V14 b13 b12 (hC b) (by have := HG.out; have := HG1.out; have := HG2.out; have := HG3.out; have := HG4.out; omega)).trans HXb12.out
  have hb14 := (setRow_other V14 b13 b14 (hC b) (by have := HG.out; have := HG1.out; have := HG2.out; have := HG3.out; have := HG4.out; omega)).trans HXb14.out
  generalize V14.setRow b13 (hC b) = V15 at hn hb hb8 hb11 hb12 hb14 ⊢
  clear HB HXb8 HXb11 HXb12 HXb13 HXb14
  have HB : Hid (Bel w V15) := Lib.hid hb
  have HXb8 : Hid (HAt V15 b8 h) := Lib.hid hb8
  have HXb11 : Hid (HAt V15 b11 g) := Lib.hid hb11
  have HXb12 : Hid (EfAt V15 b12 e0) := Lib.hid hb12
  have HXb14 : Hid (EfAt V15 b14 e0) := Lib.hid hb14
  have HXb13 : Hid (HAt V15 b13 b) := Lib.hid hn
  clear hn hb hb8 hb11 hb12 hb14
  try simp only [Act.put, List.setIfInBounds_toArray, List.set_cons_zero, List.set_cons_succ]
  refine wpList_store_row rfl 34 (.tmp 14) (.tmp 43) rfl b14 (eC e0) rfl rfl 34 (eC e0) HXb14.out (sz_eff _) rfl (eC_ones _) ?_
  have hn := row_same (cs := (eC e0)) HXb14.out
  have hb := row_bel HB.out (g := b14) (by have := HG.out; have := HG1.out; have := HG2.out; have := HG3.out; have := HG4.out; omega) (eC e0)
  have hb8 := (setRow_other V15 b14 b8 (eC e0) (by have := HG.out; have := HG1.out; have := HG2.out; have := HG3.out; have := HG4.out; omega)).trans HXb8.out
  have hb11 := (setRow_other V15 b14 b11 (eC e0) (by have := HG.out; have := HG1.out; have := HG2.out; have := HG3.out; have := HG4.out; omega)).trans HXb11.out
  have hb12 := (setRow_other V15 b14 b12 (eC e0) (by have := HG.out; have := HG1.out; have := HG2.out; have := HG3.out; have := HG4.out; omega)).trans HXb12.out
  have hb13 := (setRow_other V15 b14 b13 (eC e0) (by have := HG.out; have := HG1.out; have := HG2.out; have := HG3.out; have := HG4.out; omega)).trans HXb13.out
  generalize V15.setRow b14 (eC e0) = V16 at hn hb hb8 hb11 hb12 hb13 ⊢
  clear HB HXb8 HXb11 HXb12 HXb13 HXb14
  have HB : Hid (Bel w V16) := Lib.hid hb
  have HXb8 : Hid (HAt V16 b8 h) := Lib.hid hb8
  have HXb11 : Hid (HAt V16 b11 g) := Lib.hid hb11
  have HXb12 : Hid (EfAt V16 b12 e0) := Lib.hid hb12
  have HXb13 : Hid (HAt V16 b13 b) := Lib.hid hb13
  have HXb14 : Hid (EfAt V16 b14 e0) := Lib.hid hn
  clear hn hb hb8 hb11 hb12 hb13
  try simp only [Act.put, List.setIfInBounds_toArray, List.set_cons_zero, List.set_cons_succ]
  refine wpList_nil ?_
  refine hK _ _ ?_
  clear hK K
  go_upto_region 7 with (fail)
  rename_i K hK
  refine wp_region_list ?_
  refine wpList_load_row rfl 28 (.tmp 8) rfl b8 rfl 28 (hC h) (0, 0) _ HXb8.out Tryd.underlying28 rfl (sz_hart _) ?_
  try simp only [Act.put, List.setIfInBounds_toArray, List.set_cons_zero, List.set_cons_succ]
  refine wpList_one rfl (w' := V16) (v := .int .i64 (kk : Int)) rfl ?_
  try simp only [Act.put, List.setIfInBounds_toArray, List.set_cons_zero, List.set_cons_succ]
  refine wpList_one rfl (w' := V16) (v := iv 2 (kk : Int) 0 0 0) (by kernel_rfl) ?_
  try simp only [Act.put, List.setIfInBounds_toArray, List.set_cons_zero, List.set_cons_succ]
  refine wpList_call rfl (f := 16) (args := #[hv h, .int .i64 0, iv 2 (kk : Int) 0 0 0]) (v := .tuple #[hv u, .agg (eC e0)]) (by kernel_rfl) (st HO HB.out (wf5 W2_.out WK.out W0_.out W0_.out W0_.out) S3.out) ?_
  intro V17 hb
  replace HB : Hid (Bel w V17) := Lib.hid (HB.out.trans hb)
  replace HXb8 : Hid (HAt V17 b8 h) := Lib.hid (HXb8.out.bel hb)
  replace HXb11 : Hid (HAt V17 b11 g) := Lib.hid (HXb11.out.bel hb)
  replace HXb12 : Hid (EfAt V17 b12 e0) := Lib.hid (HXb12.out.bel hb)
  replace HXb13 : Hid (HAt V17 b13 b) := Lib.hid (HXb13.out.bel hb)
  replace HXb14 : Hid (EfAt V17 b14 e0) := Lib.hid (HXb14.out.bel hb)
  clear hb
  try simp only [Act.put, List.setIfInBounds_toArray, List.set_cons_zero, List.set_cons_succ]
  refine wpList_one rfl (w' := V17) (v := .tuple #[hv u, .agg (eC e0)]) rfl ?_
  try simp only [Act.put, List.setIfInBounds_toArray, List.set_cons_zero, List.set_cons_succ]
  refine wpList_one rfl (w' := V17) (v := hv u) rfl ?_
  try simp only [Act.put, List.setIfInBounds_toArray, List.set_cons_zero, List.set_cons_succ]
  refine wpList_one rfl (w' := V17) (v := .agg (eC e0)) rfl ?_
  try simp only [Act.put, List.setIfInBounds_toArray, List.set_cons_zero, List.set_cons_succ]
  obtain ⟨hb, hx⟩ := box1 V17 hZ 28
  refine wpList_one rfl (w' := V17.alloc (.cells hZ 28)) (v := .pointer (some ⟨V17.heap.size, 0, none⟩)) (by kernel_rfl) ?_
  try simp only [Act.put, List.setIfInBounds_toArray, List.set_cons_zero, List.set_cons_succ]
  have hl := lt_of_heap HXb14.out
  generalize V17.alloc (.cells hZ 28) = V18 at hb hx ⊢
  generalize V17.heap.size = b15 at hx hl ⊢
  have HG5 := Lib.hid hl
  clear hl
  replace HB : Hid (Bel w V18) := Lib.hid (HB.out.trans hb)
  replace HXb8 : Hid (HAt V18 b8 h) := Lib.hid (HXb8.out.bel hb)
  replace HXb11 : Hid (HAt V18 b11 g) := Lib.hid (HXb11.out.bel hb)
  replace HXb12 : Hid (EfAt V18 b12 e0) := Lib.hid (HXb12.out.bel hb)
  replace HXb13 : Hid (HAt V18 b13 b) := Lib.hid (HXb13.out.bel hb)
  replace HXb14 : Hid (EfAt V18 b14 e0) := Lib.hid (HXb14.out.bel hb)
  have HXb15 : Hid (HAt V18 b15 (fun _ => 0)) := Lib.hid hx
  clear hb hx
  try simp only [Act.put, List.setIfInBounds_toArray, List.set_cons_zero, List.set_cons_succ]
  obtain ⟨hb, hx⟩ := box1 V18 (eC e0) 34
  refine wpList_one rfl (w' := V18.alloc (.cells (eC e0) 34)) (v := .pointer (some ⟨V18.heap.size, 0, none⟩)) (by kernel_rfl) ?_
  try simp only [Act.put, List.setIfInBounds_toArray, List.set_cons_zero, List.set_cons_succ]
  have hl := lt_of_heap HXb15.out
  generalize V18.alloc (.cells (eC e0) 34) = V19 at hb hx ⊢
  generalize V18.heap.size = b16 at hx hl ⊢
  have HG6 := Lib.hid hl
  clear hl
  replace HB : Hid (Bel w V19) := Lib.hid (HB.out.trans hb)
  replace HXb8 : Hid (HAt V19 b8 h) := Lib.hid (HXb8.out.bel hb)
  replace HXb11 : Hid (HAt V19 b11 g) := Lib.hid (HXb11.out.bel hb)
  replace HXb12 : Hid (EfAt V19 b12 e0) := Lib.hid (HXb12.out.bel hb)
  replace HXb13 : Hid (HAt V19 b13 b) := Lib.hid (HXb13.out.bel hb)
  replace HXb14 : Hid (EfAt V19 b14 e0) := Lib.hid (HXb14.out.bel hb)
  replace HXb15 : Hid (HAt V19 b15 (fun _ => 0)) := Lib.hid (HXb15.out.bel hb)
  have HXb16 : Hid (EfAt V19 b16 e0) := Lib.hid hx
  clear hb hx
  try simp only [Act.put, List.setIfInBounds_toArray, List.set_cons_zero, List.set_cons_succ]
  refine wpList_store_row rfl 28 (.tmp 15) (.tmp 49) rfl b15 (hC u) rfl rfl 28 (hC (fun _ => 0)) HXb15.out (sz_hart _) (by rw [hC_size, hC_size]) (hC_ones _) ?_
  have hn := row_same (cs := (hC u)) HXb15.out
  have hb := row_bel HB.out (g := b15) (by have := HG.out; have := HG1.out; have := HG2.out; have := HG3.out; have := HG4.out; have := HG5.out; have := HG6.out; omega) (hC u)
  have hb8 := (setRow_other V19 b15 b8 (hC u) (by have := HG.out; have := HG1.out; have := HG2.out; have := HG3.out; have := HG4.out; have := HG5.out; have := HG6.out; omega)).trans HXb8.out
  have hb11 := (setRow_other V19 b15 b11 (hC u) (by have := HG.out; have := HG1.out; have := HG2.out; have := HG3.out; have := HG4.out; have := HG5.out; have := HG6.out; omega)).trans HXb11.out
  have hb12 := (setRow_other V19 b15 b12 (hC u) (by have := HG.out; have := HG1.out; have := HG2.out; have := HG3.out; have := HG4.out; have := HG5.out; have := HG6.out; omega)).trans HXb12.out
  have hb13 := (setRow_other V19 b15 b13 (hC u) (by have := HG.out; have := HG1.out; have := HG2.out; have := HG3.out; have := HG4.out; have := HG5.out; have := HG6.out; omega)).trans HXb13.out
  have hb14 := (setRow_other V19 b15 b14 (hC u) (by have := HG.out; have := HG1.out; have := HG2.out; have := HG3.out; have := HG4.out; have := HG5.out; have := HG6.out; omega)).trans HXb14.out
  have hb16 := (setRow_other V19 b15 b16 (hC u) (by have := HG.out; have := HG1.out; have := HG2.out; have := HG3.out; have := HG4.out; have := HG5.out; have := HG6.out; omega)).trans HXb16.out
  generalize V19.setRow b15 (hC u) = V20 at hn hb hb8 hb11 hb12 hb13 hb14 hb16 ⊢
  clear HB HXb8 HXb11 HXb12 HXb13 HXb14 HXb15 HXb16
  have HB : Hid (Bel w V20) := Lib.hid hb
  have HXb8 : Hid (HAt V20 b8 h) := Lib.hid hb8
  have HXb11 : Hid (HAt V20 b11 g) := Lib.hid hb11
  have HXb12 : Hid (EfAt V20 b12 e0) := Lib.hid hb12
  have HXb13 : Hid (HAt V20 b13 b) := Lib.hid hb13
  have HXb14 : Hid (EfAt V20 b14 e0) := Lib.hid hb14
  have HXb16 : Hid (EfAt V20 b16 e0) := Lib.hid hb16
  have HXb15 : Hid (HAt V20 b15 u) := Lib.hid hn
  clear hn hb hb8 hb11 hb12 hb13 hb14 hb16
  try simp only [Act.put, List.setIfInBounds_toArray, List.set_cons_zero, List.set_cons_succ]
  refine wpList_store_row rfl 34 (.tmp 16) (.tmp 50) rfl b16 (eC e0) rfl rfl 34 (eC e0) HXb16.out (sz_eff _) rfl (eC_ones _) ?_
  have hn := row_same (cs := (eC e0)) HXb16.out
  have hb := row_bel HB.out (g := b16) (by have := HG.out; have := HG1.out; have := HG2.out; have := HG3.out; have := HG4.out; have := HG5.out; have := HG6.out; omega) (eC e0)
  have hb8 := (setRow_other V20 b16 b8 (eC e0) (by have := HG.out; have := HG1.out; have := HG2.out; have := HG3.out; have := HG4.out; have := HG5.out; have := HG6.out; omega)).trans HXb8.out
  have hb11 := (setRow_other V20 b16 b11 (eC e0) (by have := HG.out; have := HG1.out; have := HG2.out; have := HG3.out; have := HG4.out; have := HG5.out; have := HG6.out; omega)).trans HXb11.out
  have hb12 := (setRow_other V20 b16 b12 (eC e0) (by have := HG.out; have := HG1.out; have := HG2.out; have := HG3.out; have := HG4.out; have := HG5.out; have := HG6.out; omega)).trans HXb12.out
  have hb13 := (setRow_other V20 b16 b13 (eC e0) (by have := HG.out; have := HG1.out; have := HG2.out; have := HG3.out; have := HG4.out; have := HG5.out; have := HG6.out; omega)).trans HXb13.out
  have hb14 := (setRow_other V20 b16 b14 (eC e0) (by have := HG.out; have := HG1.out; have := HG2.out; have := HG3.out; have := HG4.out; have := HG5.out; have := HG6.out; omega)).trans HXb14.out
  have hb15 := (setRow_other V20 b16 b15 (eC e0) (by have := HG.out; have := HG1.out; have := HG2.out; have := HG3.out; have := HG4.out; have := HG5.out; have := HG6.out; omega)).trans HXb15.out
  generalize V20.setRow b16 (eC e0) = V21 at hn hb hb8 hb11 hb12 hb13 hb14 hb15 ⊢
  clear HB HXb8 HXb11 HXb12 HXb13 HXb14 HXb15 HXb16
  have HB : Hid (Bel w V21) := Lib.hid hb
  have HXb8 : Hid (HAt V21 b8 h) := Lib.hid hb8
  have HXb11 : Hid (HAt V21 b11 g) := Lib.hid hb11
  have HXb12 : Hid (EfAt V21 b12 e0) := Lib.hid hb12
  have HXb13 : Hid (HAt V21 b13 b) := Lib.hid hb13
  have HXb14 : Hid (EfAt V21 b14 e0) := Lib.hid hb14
  have HXb15 : Hid (HAt V21 b15 u) := Lib.hid hb15
  have HXb16 : Hid (EfAt V21 b16 e0) := Lib.hid hn
  clear hn hb hb8 hb11 hb12 hb13 hb14 hb15
  try simp only [Act.put, List.setIfInBounds_toArray, List.set_cons_zero, List.set_cons_succ]
  refine wpList_nil ?_
  refine hK _ _ ?_
  clear hK K
  go_upto_region 8 with (fail)
  rename_i K hK
  refine wp_region_list ?_
  refine wpList_load_row rfl 28 (.tmp 15) rfl b15 rfl 28 (hC u) (0, 0) _ HXb15.out Tryd.underlying28 rfl (sz_hart _) ?_
  try simp only [Act.put, List.setIfInBounds_toArray, List.set_cons_zero, List.set_cons_succ]
  refine wpList_one rfl (w' := V21) (v := .int .i64 (kk : Int)) rfl ?_
  try simp only [Act.put, List.setIfInBounds_toArray, List.set_cons_zero, List.set_cons_succ]
  refine wpList_one rfl (w' := V21) (v := .int .i64 (kk : Int)) rfl ?_
  try simp only [Act.put, List.setIfInBounds_toArray, List.set_cons_zero, List.set_cons_succ]
  refine wpList_one rfl (w' := V21) (v := iv 13 (kk : Int) (kk : Int) 0 8) (by kernel_rfl) ?_
  try simp only [Act.put, List.setIfInBounds_toArray, List.set_cons_zero, List.set_cons_succ]
  refine wpList_call rfl (f := 16) (args := #[hv u, .int .i64 0, iv 13 (kk : Int) (kk : Int) 0 8]) (v := .tuple #[hv s, .agg (eC e0)]) (by kernel_rfl) (st HO HB.out (wf5 W13.out WK.out WK.out W0_.out W8.out) S4.out) ?_
  intro V22 hb
  replace HB : Hid (Bel w V22) := Lib.hid (HB.out.trans hb)
  replace HXb8 : Hid (HAt V22 b8 h) := Lib.hid (HXb8.out.bel hb)
  replace HXb11 : Hid (HAt V22 b11 g) := Lib.hid (HXb11.out.bel hb)
  replace HXb12 : Hid (EfAt V22 b12 e0) := Lib.hid (HXb12.out.bel hb)
  replace HXb13 : Hid (HAt V22 b13 b) := Lib.hid (HXb13.out.bel hb)
  replace HXb14 : Hid (EfAt V22 b14 e0) := Lib.hid (HXb14.out.bel hb)
  replace HXb15 : Hid (HAt V22 b15 u) := Lib.hid (HXb15.out.bel hb)
  replace HXb16 : Hid (EfAt V22 b16 e0) := Lib.hid (HXb16.out.bel hb)
  clear hb
  try simp only [Act.put, List.setIfInBounds_toArray, List.set_cons_zero, List.set_cons_succ]
  refine wpList_one rfl (w' := V22) (v := .tuple #[hv s, .agg (eC e0)]) rfl ?_
  try simp only [Act.put, List.setIfInBounds_toArray, List.set_cons_zero, List.set_cons_succ]
  refine wpList_one rfl (w' := V22) (v := hv s) rfl ?_
  try simp only [Act.put, List.setIfInBounds_toArray, List.set_cons_zero, List.set_cons_succ]
  refine wpList_one rfl (w' := V22) (v := .agg (eC e0)) rfl ?_
  try simp only [Act.put, List.setIfInBounds_toArray, List.set_cons_zero, List.set_cons_succ]
  obtain ⟨hb, hx⟩ := box1 V22 hZ 28
  refine wpList_one rfl (w' := V22.alloc (.cells hZ 28)) (v := .pointer (some ⟨V22.heap.size, 0, none⟩)) (by kernel_rfl) ?_
  try simp only [Act.put, List.setIfInBounds_toArray, List.set_cons_zero, List.set_cons_succ]
  have hl := lt_of_heap HXb16.out
  generalize V22.alloc (.cells hZ 28) = V23 at hb hx ⊢
  generalize V22.heap.size = b17 at hx hl ⊢
  have HG7 := Lib.hid hl
  clear hl
  replace HB : Hid (Bel w V23) := Lib.hid (HB.out.trans hb)
  replace HXb8 : Hid (HAt V23 b8 h) := Lib.hid (HXb8.out.bel hb)
  replace HXb11 : Hid (HAt V23 b11 g) := Lib.hid (HXb11.out.bel hb)
  replace HXb12 : Hid (EfAt V23 b12 e0) := Lib.hid (HXb12.out.bel hb)
  replace HXb13 : Hid (HAt V23 b13 b) := Lib.hid (HXb13.out.bel hb)
  replace HXb14 : Hid (EfAt V23 b14 e0) := Lib.hid (HXb14.out.bel hb)
  replace HXb15 : Hid (HAt V23 b15 u) := Lib.hid (HXb15.out.bel hb)
  replace HXb16 : Hid (EfAt V23 b16 e0) := Lib.hid (HXb16.out.bel hb)
  have HXb17 : Hid (HAt V23 b17 (fun _ => 0)) := Lib.hid hx
  clear hb hx
  try simp only [Act.put, List.setIfInBounds_toArray, List.set_cons_zero, List.set_cons_succ]
  obtain ⟨hb, hx⟩ := box1 V23 (eC e0) 34
  refine wpList_one rfl (w' := V23.alloc (.cells (eC e0) 34)) (v := .pointer (some ⟨V23.heap.size, 0, none⟩)) (by kernel_rfl) ?_
  try simp only [Act.put, List.setIfInBounds_toArray, List.set_cons_zero, List.set_cons_succ]
  have hl := lt_of_heap HXb17.out
  generalize V23.alloc (.cells (eC e0) 34) = V24 at hb hx ⊢
  generalize V23.heap.size = b18 at hx hl ⊢
  have HG8 := Lib.hid hl
  clear hl
  replace HB : Hid (Bel w V24) := Lib.hid (HB.out.trans hb)
  replace HXb8 : Hid (HAt V24 b8 h) := Lib.hid (HXb8.out.bel hb)
  replace HXb11 : Hid (HAt V24 b11 g) := Lib.hid (HXb11.out.bel hb)
  replace HXb12 : Hid (EfAt V24 b12 e0) := Lib.hid (HXb12.out.bel hb)
  replace HXb13 : Hid (HAt V24 b13 b) := Lib.hid (HXb13.out.bel hb)
  replace HXb14 : Hid (EfAt V24 b14 e0) := Lib.hid (HXb14.out.bel hb)
  replace HXb15 : Hid (HAt V24 b15 u) := Lib.hid (HXb15.out.bel hb)
  replace HXb16 : Hid (EfAt V24 b16 e0) := Lib.hid (HXb16.out.bel hb)
  replace HXb17 : Hid (HAt V24 b17 (fun _ => 0)) := Lib.hid (HXb17.out.bel hb)
  have HXb18 : Hid (EfAt V24 b18 e0) := Lib.hid hx
  clear hb hx
  try simp only [Act.put, List.setIfInBounds_toArray, List.set_cons_zero, List.set_cons_succ]
  refine wpList_store_row rfl 28 (.tmp 17) (.tmp 57) rfl b17 (hC s) rfl rfl 28 (hC (fun _ => 0)) HXb17.out (sz_hart _) (by rw [hC_size, hC_size]) (hC_ones _) ?_
  have hn := row_same (cs := (hC s)) HXb17.out
  have hb := row_bel HB.out (g := b17) (by have := HG.out; have := HG1.out; have := HG2.out; have := HG3.out; have := HG4.out; have := HG5.out; have := HG6.out; have := HG7.out; have := HG8.out; omega) (hC s)
  have hb8 := (setRow_other V24 b17 b8 (hC s) (by have := HG.out; have := HG1.out; have := HG2.out; have := HG3.out; have := HG4.out; have := HG5.out; have := HG6.out; have := HG7.out; have := HG8.out; omega)).trans HXb8.out
  have hb11 := (setRow_other V24 b17 b11 (hC s) (by have := HG.out; have := HG1.out; have := HG2.out; have := HG3.out; have := HG4.out; have := HG5.out; have := HG6.out; have := HG7.out; have := HG8.out; omega)).trans HXb11.out
  have hb12 := (setRow_other V24 b17 b12 (hC s) (by have := HG.out; have := HG1.out; have := HG2.out; have := HG3.out; have := HG4.out; have := HG5.out; have := HG6.out; have := HG7.out; have := HG8.out; omega)).trans HXb12.out
  have hb13 := (setRow_other V24 b17 b13 (hC s) (by have := HG.out; have := HG1.out; have := HG2.out; have := HG3.out; have := HG4.out; have := HG5.out; have := HG6.out; have := HG7.out; have := HG8.out; omega)).trans HXb13.out
  have hb14 := (setRow_other V24 b17 b14 (hC s) (by have := HG.out; have := HG1.out; have := HG2.out; have := HG3.out; have := HG4.out; have := HG5.out; have := HG6.out; have := HG7.out; have := HG8.out; omega)).trans HXb14.out
  have hb15 := (setRow_other V24 b17 b15 (hC s) (by have := HG.out; have := HG1.out; have := HG2.out; have := HG3.out; have := HG4.out; have := HG5.out; have := HG6.out; have := HG7.out; have := HG8.out; omega)).trans HXb15.out
  have hb16 := (setRow_other V24 b17 b16 (hC s) (by have := HG.out; have := HG1.out; have := HG2.out; have := HG3.out; have := HG4.out; have := HG5.out; have := HG6.out; have := HG7.out; have := HG8.out; omega)).trans HXb16.out
  have hb18 := (setRow_other V24 b17 b18 (hC s) (by have := HG.out; have := HG1.out; have := HG2.out; have := HG3.out; have := HG4.out; have := HG5.out; have := HG6.out; have := HG7.out; have := HG8.out; omega)).trans HXb18.out
  generalize V24.setRow b17 (hC s) = V25 at hn hb hb8 hb11 hb12 hb13 hb14 hb15 hb16 hb18 ⊢
  clear HB HXb8 HXb11 HXb12 HXb13 HXb14 HXb15 HXb16 HXb17 HXb18
  have HB : Hid (Bel w V25) := Lib.hid hb
  have HXb8 : Hid (HAt V25 b8 h) := Lib.hid hb8
  have HXb11 : Hid (HAt V25 b11 g) := Lib.hid hb11
  have HXb12 : Hid (EfAt V25 b12 e0) := Lib.hid hb12
  have HXb13 : Hid (HAt V25 b13 b) := Lib.hid hb13
  have HXb14 : Hid (EfAt V25 b14 e0) := Lib.hid hb14
  have HXb15 : Hid (HAt V25 b15 u) := Lib.hid hb15
  have HXb16 : Hid (EfAt V25 b16 e0) := Lib.hid hb16
  have HXb18 : Hid (EfAt V25 b18 e0) := Lib.hid hb18
  have HXb17 : Hid (HAt V25 b17 s) := Lib.hid hn
  clear hn hb hb8 hb11 hb12 hb13 hb14 hb15 hb16 hb18
  try simp only [Act.put, List.setIfInBounds_toArray, List.set_cons_zero, List.set_cons_succ]
  refine wpList_store_row rfl 34 (.tmp 18) (.tmp 58) rfl b18 (eC e0) rfl rfl 34 (eC e0) HXb18.out (sz_eff _) rfl (eC_ones _) ?_
  have hn := row_same (cs := (eC e0)) HXb18.out
  have hb := row_bel HB.out (g := b18) (by have := HG.out; have := HG1.out; have := HG2.out; have := HG3.out; have := HG4.out; have := HG5.out; have := HG6.out; have := HG7.out; have := HG8.out; omega) (eC e0)
  have hb8 := (setRow_other V25 b18 b8 (eC e0) (by have := HG.out; have := HG1.out; have := HG2.out; have := HG3.out; have := HG4.out; have := HG5.out; have := HG6.out; have := HG7.out; have := HG8.out; omega)).trans HXb8.out
  have hb11 := (setRow_other V25 b18 b11 (eC e0) (by have := HG.out; have := HG1.out; have := HG2.out; have := HG3.out; have := HG4.out; have := HG5.out; have := HG6.out; have := HG7.out; have := HG8.out; omega)).trans HXb11.out
  have hb12 := (setRow_other V25 b18 b12 (eC e0) (by have := HG.out; have := HG1.out; have := HG2.out; have := HG3.out; have := HG4.out; have := HG5.out; have := HG6.out; have := HG7.out; have := HG8.out; omega)).trans HXb12.out
  have hb13 := (setRow_other V25 b18 b13 (eC e0) (by have := HG.out; have := HG1.out; have := HG2.out; have := HG3.out; have := HG4.out; have := HG5.out; have := HG6.out; have := HG7.out; have := HG8.out; omega)).trans HXb13.out
  have hb14 := (setRow_other V25 b18 b14 (eC e0) (by have := HG.out; have := HG1.out; have := HG2.out; have := HG3.out; have := HG4.out; have := HG5.out; have := HG6.out; have := HG7.out; have := HG8.out; omega)).trans HXb14.out
  have hb15 := (setRow_other V25 b18 b15 (eC e0) (by have := HG.out; have := HG1.out; have := HG2.out; have := HG3.out; have := HG4.out; have := HG5.out; have := HG6.out; have := HG7.out; have := HG8.out; omega)).trans HXb15.out
  have hb16 := (setRow_other V25 b18 b16 (eC e0) (by have := HG.out; have := HG1.out; have := HG2.out; have := HG3.out; have := HG4.out; have := HG5.out; have := HG6.out; have := HG7.out; have := HG8.out; omega)).trans HXb16.out
  have hb17 := (setRow_other V25 b18 b17 (eC e0) (by have := HG.out; have := HG1.out; have := HG2.out; have := HG3.out; have := HG4.out; have := HG5.out; have := HG6.out; have := HG7.out; have := HG8.out; omega)).trans HXb17.out
  generalize V25.setRow b18 (eC e0) = V26 at hn hb hb8 hb11 hb12 hb13 hb14 hb15 hb16 hb17 ⊢
  clear HB HXb8 HXb11 HXb12 HXb13 HXb14 HXb15 HXb16 HXb17 HXb18
  have HB : Hid (Bel w V26) := Lib.hid hb
  have HXb8 : Hid (HAt V26 b8 h) := Lib.hid hb8
  have HXb11 : Hid (HAt V26 b11 g) := Lib.hid hb11
  have HXb12 : Hid (EfAt V26 b12 e0) := Lib.hid hb12
  have HXb13 : Hid (HAt V26 b13 b) := Lib.hid hb13
  have HXb14 : Hid (EfAt V26 b14 e0) := Lib.hid hb14
  have HXb15 : Hid (HAt V26 b15 u) := Lib.hid hb15
  have HXb16 : Hid (EfAt V26 b16 e0) := Lib.hid hb16
  have HXb17 : Hid (HAt V26 b17 s) := Lib.hid hb17
  have HXb18 : Hid (EfAt V26 b18 e0) := Lib.hid hn
  clear hn hb hb8 hb11 hb12 hb13 hb14 hb15 hb16 hb17
  try simp only [Act.put, List.setIfInBounds_toArray, List.set_cons_zero, List.set_cons_succ]
  refine wpList_nil ?_
  refine hK _ _ ?_
  clear hK K
  go_upto_region 9 with (fail)
  rename_i K hK
  refine Upto.begin (z := 60) (T := fun w' => HAt w' b8 h ∧ HAt w' b11 g ∧ HAt w' b13 b ∧ HAt w' b17 s ∧ EfAt w' b12 e0 ∧ EfAt w' b14 e0 ∧ EfAt w' b16 e0 ∧ EfAt w' b18 e0) (by kernel_rfl) ?_
  have hb : Bel V26 V26.drew := (Bel.refl V26).drew
  generalize V26.drew = V27 at hb ⊢
  replace HB : Hid (Bel w V27) := Lib.hid (HB.out.trans hb)
  replace HXb8 : Hid (HAt V27 b8 h) := Lib.hid (HXb8.out.bel hb)
  replace HXb11 : Hid (HAt V27 b11 g) := Lib.hid (HXb11.out.bel hb)
  replace HXb12 : Hid (EfAt V27 b12 e0) := Lib.hid (HXb12.out.bel hb)
  replace HXb13 : Hid (HAt V27 b13 b) := Lib.hid (HXb13.out.bel hb)
  replace HXb14 : Hid (EfAt V27 b14 e0) := Lib.hid (HXb14.out.bel hb)
  replace HXb15 : Hid (HAt V27 b15 u) := Lib.hid (HXb15.out.bel hb)
  replace HXb16 : Hid (EfAt V27 b16 e0) := Lib.hid (HXb16.out.bel hb)
  replace HXb17 : Hid (HAt V27 b17 s) := Lib.hid (HXb17.out.bel hb)
  replace HXb18 : Hid (EfAt V27 b18 e0) := Lib.hid (HXb18.out.bel hb)
  clear hb
  have hT : HAt V27 b8 h ∧ HAt V27 b11 g ∧ HAt V27 b13 b ∧ HAt V27 b17 s ∧ EfAt V27 b12 e0 ∧ EfAt V27 b14 e0 ∧ EfAt V27 b16 e0 ∧ EfAt V27 b18 e0 := ⟨HXb8.out, HXb11.out, HXb13.out, HXb17.out, HXb12.out, HXb14.out, HXb16.out, HXb18.out⟩
  refine takeU 59 (i := 0) (v := .bool true) rfl rfl rfl (by kernel_rfl) (by kernel_rfl) (by kernel_rfl) (by kernel_rfl) (fun _ _ _ h => h) (by kernel_rfl) (fun w0 hS => rfl) hT ?_
  try simp only [List.setIfInBounds_toArray, List.set_cons_zero, List.set_cons_succ]
  refine takeU 60 (i := 1) (v := .bool true) rfl rfl rfl (by kernel_rfl) (by kernel_rfl) (by kernel_rfl) (by kernel_rfl) (fun _ _ _ h => h) (by kernel_rfl) (fun w0 hS => rfl) hT ?_
  try simp only [List.setIfInBounds_toArray, List.set_cons_zero, List.set_cons_succ]
  refine takeU 61 (i := 2) (v := .agg (eC e0)) rfl rfl rfl (by kernel_rfl) (by kernel_rfl) (by kernel_rfl) (by kernel_rfl) (fun _ _ _ h => h) (by kernel_rfl) (fun w0 hS => (exec_row 34 (.tmp 12) rfl b12 rfl 34 (eC e0) (0, 0) _ hS.2.2.2.2.1 Tryd.underlying34 rfl (sz_eff _))) hT ?_
  try simp only [List.setIfInBounds_toArray, List.set_cons_zero, List.set_cons_succ]
  refine takeU 62 (i := 3) (v := .agg (eC e0)) rfl rfl rfl (by kernel_rfl) (by kernel_rfl) (by kernel_rfl) (by kernel_rfl) (fun _ _ _ h => h) (by kernel_rfl) (fun w0 hS => (by kernel_rfl)) hT ?_
  try simp only [List.setIfInBounds_toArray, List.set_cons_zero, List.set_cons_succ]
  refine takeU 63 (i := 4) (v := .bool true) rfl rfl rfl (by kernel_rfl) (by kernel_rfl) (by kernel_rfl) (by kernel_rfl) (fun _ _ _ h => h) (by kernel_rfl) (fun w0 hS => (exec_eqE rfl rfl rfl (rfl) w0)) hT ?_
  try simp only [List.setIfInBounds_toArray, List.set_cons_zero, List.set_cons_succ]
  refine takeU 64 (i := 5) (v := .bool true) rfl rfl rfl (by kernel_rfl) (by kernel_rfl) (by kernel_rfl) (by kernel_rfl) (fun _ _ _ h => h) (by kernel_rfl) (fun w0 hS => (by kernel_rfl)) hT ?_
  try simp only [List.setIfInBounds_toArray, List.set_cons_zero, List.set_cons_succ]
  refine takeU 65 (i := 6) (v := .bool true) rfl rfl rfl (by kernel_rfl) (by kernel_rfl) (by kernel_rfl) (by kernel_rfl) (fun _ _ _ h => h) (by kernel_rfl) (fun w0 hS => rfl) hT ?_
  try simp only [List.setIfInBounds_toArray, List.set_cons_zero, List.set_cons_succ]
  refine takeU 66 (i := 7) (v := .agg (eC e0)) rfl rfl rfl (by kernel_rfl) (by kernel_rfl) (by kernel_rfl) (by kernel_rfl) (fun _ _ _ h => h) (by kernel_rfl) (fun w0 hS => (exec_row 34 (.tmp 14) rfl b14 rfl 34 (eC e0) (0, 0) _ hS.2.2.2.2.2.1 Tryd.underlying34 rfl (sz_eff _))) hT ?_
  try simp only [List.setIfInBounds_toArray, List.set_cons_zero, List.set_cons_succ]
  refine takeU 67 (i := 8) (v := .agg (eC e0)) rfl rfl rfl (by kernel_rfl) (by kernel_rfl) (by kernel_rfl) (by kernel_rfl) (fun _ _ _ h => h) (by kernel_rfl) (fun w0 hS => (exec_row 34 (.tmp 12) rfl b12 rfl 34 (eC e0) (0, 0) _ hS.2.2.2.2.1 Tryd.underlying34 rfl (sz_eff _))) hT ?_
  try simp only [List.setIfInBounds_toArray, List.set_cons_zero, List.set_cons_succ]
  refine takeU 68 (i := 9) (v := .bool true) rfl rfl rfl (by kernel_rfl) (by kernel_rfl) (by kernel_rfl) (by kernel_rfl) (fun _ _ _ h => h) (by kernel_rfl) (fun w0 hS => (exec_eqE rfl rfl rfl (rfl) w0)) hT ?_
  try simp only [List.setIfInBounds_toArray, List.set_cons_zero, List.set_cons_succ]
  refine takeU 69 (i := 10) (v := .bool true) rfl rfl rfl (by kernel_rfl) (by kernel_rfl) (by kernel_rfl) (by kernel_rfl) (fun _ _ _ h => h) (by kernel_rfl) (fun w0 hS => (by kernel_rfl)) hT ?_
  try simp only [List.setIfInBounds_toArray, List.set_cons_zero, List.set_cons_succ]
  refine takeU 70 (i := 11) (v := .bool true) rfl rfl rfl (by kernel_rfl) (by kernel_rfl) (by kernel_rfl) (by kernel_rfl) (fun _ _ _ h => h) (by kernel_rfl) (fun w0 hS => rfl) hT ?_
  try simp only [List.setIfInBounds_toArray, List.set_cons_zero, List.set_cons_succ]
  refine takeU 71 (i := 12) (v := .agg (eC e0)) rfl rfl rfl (by kernel_rfl) (by kernel_rfl) (by kernel_rfl) (by kernel_rfl) (fun _ _ _ h => h) (by kernel_rfl) (fun w0 hS => (exec_row 34 (.tmp 16) rfl b16 rfl 34 (eC e0) (0, 0) _ hS.2.2.2.2.2.2.1 Tryd.underlying34 rfl (sz_eff _))) hT ?_
  try simp only [List.setIfInBounds_toArray, List.set_cons_zero, List.set_cons_succ]
  refine takeU 72 (i := 13) (v := .agg (eC e0)) rfl rfl rfl (by kernel_rfl) (by kernel_rfl) (by kernel_rfl) (by kernel_rfl) (fun _ _ _ h => h) (by kernel_rfl) (fun w0 hS => (exec_row 34 (.tmp 12) rfl b12 rfl 34 (eC e0) (0, 0) _ hS.2.2.2.2.1 Tryd.underlying34 rfl (sz_eff _))) hT ?_
  try simp only [List.setIfInBounds_toArray, List.set_cons_zero, List.set_cons_succ]
  refine takeU 73 (i := 14) (v := .bool true) rfl rfl rfl (by kernel_rfl) (by kernel_rfl) (by kernel_rfl) (by kernel_rfl) (fun _ _ _ h => h) (by kernel_rfl) (fun w0 hS => (exec_eqE rfl rfl rfl (rfl) w0)) hT ?_
  try simp only [List.setIfInBounds_toArray, List.set_cons_zero, List.set_cons_succ]
  refine takeU 74 (i := 15) (v := .bool true) rfl rfl rfl (by kernel_rfl) (by kernel_rfl) (by kernel_rfl) (by kernel_rfl) (fun _ _ _ h => h) (by kernel_rfl) (fun w0 hS => (by kernel_rfl)) hT ?_
  try simp only [List.setIfInBounds_toArray, List.set_cons_zero, List.set_cons_succ]
  refine takeU 75 (i := 16) (v := .bool true) rfl rfl rfl (by kernel_rfl) (by kernel_rfl) (by kernel_rfl) (by kernel_rfl) (fun _ _ _ h => h) (by kernel_rfl) (fun w0 hS => rfl) hT ?_
  try simp only [List.setIfInBounds_toArray, List.set_cons_zero, List.set_cons_succ]
  refine takeU 76 (i := 17) (v := .agg (eC e0)) rfl rfl rfl (by kernel_rfl) (by kernel_rfl) (by kernel_rfl) (by kernel_rfl) (fun _ _ _ h => h) (by kernel_rfl) (fun w0 hS => (exec_row 34 (.tmp 18) rfl b18 rfl 34 (eC e0) (0, 0) _ hS.2.2.2.2.2.2.2 Tryd.underlying34 rfl (sz_eff _))) hT ?_
  try simp only [List.setIfInBounds_toArray, List.set_cons_zero, List.set_cons_succ]
  refine takeU 77 (i := 18) (v := .agg (eC e0)) rfl rfl rfl (by kernel_rfl) (by kernel_rfl) (by kernel_rfl) (by kernel_rfl) (fun _ _ _ h => h) (by kernel_rfl) (fun w0 hS => (exec_row 34 (.tmp 12) rfl b12 rfl 34 (eC e0) (0, 0) _ hS.2.2.2.2.1 Tryd.underlying34 rfl (sz_eff _))) hT ?_
  try simp only [List.setIfInBounds_toArray, List.set_cons_zero, List.set_cons_succ]
  refine takeU 78 (i := 19) (v := .bool true) rfl rfl rfl (by kernel_rfl) (by kernel_rfl) (by kernel_rfl) (by kernel_rfl) (fun _ _ _ h => h) (by kernel_rfl) (fun w0 hS => (exec_eqE rfl rfl rfl (rfl) w0)) hT ?_
  try simp only [List.setIfInBounds_toArray, List.set_cons_zero, List.set_cons_succ]
  refine takeU 79 (i := 20) (v := .bool true) rfl rfl rfl (by kernel_rfl) (by kernel_rfl) (by kernel_rfl) (by kernel_rfl) (fun _ _ _ h => h) (by kernel_rfl) (fun w0 hS => (by kernel_rfl)) hT ?_
  try simp only [List.setIfInBounds_toArray, List.set_cons_zero, List.set_cons_succ]
  refine takeU 80 (i := 21) (v := .bool true) rfl rfl rfl (by kernel_rfl) (by kernel_rfl) (by kernel_rfl) (by kernel_rfl) (fun _ _ _ h => h) (by kernel_rfl) (fun w0 hS => rfl) hT ?_
  try simp only [List.setIfInBounds_toArray, List.set_cons_zero, List.set_cons_succ]
  refine takeU 81 (i := 22) (v := .pointer (some ⟨b11, 32, none⟩)) rfl rfl rfl (by kernel_rfl) (by kernel_rfl) (by kernel_rfl) (by kernel_rfl) (fun _ _ _ h => h) (by kernel_rfl) (fun w0 hS => (by kernel_rfl)) hT ?_
  try simp only [List.setIfInBounds_toArray, List.set_cons_zero, List.set_cons_succ]
  refine takeU 82 (i := 23) (v := .int .i64 (g 32)) rfl rfl rfl (by kernel_rfl) (by kernel_rfl) (by kernel_rfl) (by kernel_rfl) (fun _ _ _ h => h) (by kernel_rfl) (fun w0 hS => (exec_cell 3 (.tmp 81) rfl ⟨b11, 32, none⟩ rfl _ _ ((hS.2.1).cell (j := 32) (by omega)) Tryd.underlying3 rfl)) hT ?_
  try simp only [List.setIfInBounds_toArray, List.set_cons_zero, List.set_cons_succ]
  refine takeU 83 (i := 24) (v := .pointer (some ⟨b8, 32, none⟩)) rfl rfl rfl (by kernel_rfl) (by kernel_rfl) (by kernel_rfl) (by kernel_rfl) (fun _ _ _ h => h) (by kernel_rfl) (fun w0 hS => (by kernel_rfl)) hT ?_
  try simp only [List.setIfInBounds_toArray, List.set_cons_zero, List.set_cons_succ]
  refine takeU 84 (i := 25) (v := .int .i64 (h 32)) rfl rfl rfl (by kernel_rfl) (by kernel_rfl) (by kernel_rfl) (by kernel_rfl) (fun _ _ _ h => h) (by kernel_rfl) (fun w0 hS => (exec_cell 3 (.tmp 83) rfl ⟨b8, 32, none⟩ rfl _ _ ((hS.1).cell (j := 32) (by omega)) Tryd.underlying3 rfl)) hT ?_
  try simp only [List.setIfInBounds_toArray, List.set_cons_zero, List.set_cons_succ]
  refine takeU 85 (i := 26) (v := .int .i64 n) rfl rfl rfl (by kernel_rfl) (by kernel_rfl) (by kernel_rfl) (by kernel_rfl) (fun _ _ _ h => h) (by kernel_rfl) (fun w0 hS => rfl) hT ?_
  try simp only [List.setIfInBounds_toArray, List.set_cons_zero, List.set_cons_succ]
  refine takeU 86 (i := 27) (v := .int .i64 (IntKind.i64.wrap (h 32 + n))) rfl rfl rfl (by kernel_rfl) (by kernel_rfl) (by kernel_rfl) (by kernel_rfl) (fun _ _ _ h => h) (by kernel_rfl) (fun w0 hS => (by kernel_rfl)) hT ?_
  try simp only [List.setIfInBounds_toArray, List.set_cons_zero, List.set_cons_succ]
  refine callU 87 (i := 28) rfl rfl (by kernel_rfl) (by kernel_rfl) (f := 27) (args := #[.int .i64 (IntKind.i64.wrap (h 32 + n))]) (v := .int .i64 m1) (by kernel_rfl) (wl ((w32_i _).trans M1.out) _) (fun w' hb => ⟨HXb8.out.bel hb, HXb11.out.bel hb, HXb13.out.bel hb, HXb17.out.bel hb, HXb12.out.bel hb, HXb14.out.bel hb, HXb16.out.bel hb, HXb18.out.bel hb⟩) ?_
  intro V28 hb
  try simp only [List.setIfInBounds_toArray, List.set_cons_zero, List.set_cons_succ]
  replace HB : Hid (Bel w V28) := Lib.hid (HB.out.trans hb)
  replace HXb8 : Hid (HAt V28 b8 h) := Lib.hid (HXb8.out.bel hb)
  replace HXb11 : Hid (HAt V28 b11 g) := Lib.hid (HXb11.out.bel hb)
  replace HXb12 : Hid (EfAt V28 b12 e0) := Lib.hid (HXb12.out.bel hb)
  replace HXb13 : Hid (HAt V28 b13 b) := Lib.hid (HXb13.out.bel hb)
  replace HXb14 : Hid (EfAt V28 b14 e0) := Lib.hid (HXb14.out.bel hb)
  replace HXb15 : Hid (HAt V28 b15 u) := Lib.hid (HXb15.out.bel hb)
  replace HXb16 : Hid (EfAt V28 b16 e0) := Lib.hid (HXb16.out.bel hb)
  replace HXb17 : Hid (HAt V28 b17 s) := Lib.hid (HXb17.out.bel hb)
  replace HXb18 : Hid (EfAt V28 b18 e0) := Lib.hid (HXb18.out.bel hb)
  clear hb hT
  have hT : HAt V28 b8 h ∧ HAt V28 b11 g ∧ HAt V28 b13 b ∧ HAt V28 b17 s ∧ EfAt V28 b12 e0 ∧ EfAt V28 b14 e0 ∧ EfAt V28 b16 e0 ∧ EfAt V28 b18 e0 := ⟨HXb8.out, HXb11.out, HXb13.out, HXb17.out, HXb12.out, HXb14.out, HXb16.out, HXb18.out⟩
  refine takeU 88 (i := 29) (v := .bool true) rfl rfl rfl (by kernel_rfl) (by kernel_rfl) (by kernel_rfl) (by kernel_rfl) (fun _ _ _ h => h) (by kernel_rfl) (fun w0 hS => (exec_eqI rfl rfl rfl (C1.out) w0)) hT ?_
  try simp only [List.setIfInBounds_toArray, List.set_cons_zero, List.set_cons_succ]
  refine takeU 89 (i := 30) (v := .bool true) rfl rfl rfl (by kernel_rfl) (by kernel_rfl) (by kernel_rfl) (by kernel_rfl) (fun _ _ _ h => h) (by kernel_rfl) (fun w0 hS => (by kernel_rfl)) hT ?_
  try simp only [List.setIfInBounds_toArray, List.set_cons_zero, List.set_cons_succ]
  refine takeU 90 (i := 31) (v := .bool true) rfl rfl rfl (by kernel_rfl) (by kernel_rfl) (by kernel_rfl) (by kernel_rfl) (fun _ _ _ h => h) (by kernel_rfl) (fun w0 hS => rfl) hT ?_
  try simp only [List.setIfInBounds_toArray, List.set_cons_zero, List.set_cons_succ]
  refine takeU 91 (i := 32) (v := .pointer (some ⟨b13, 32, none⟩)) rfl rfl rfl (by kernel_rfl) (by kernel_rfl) (by kernel_rfl) (by kernel_rfl) (fun _ _ _ h => h) (by kernel_rfl) (fun w0 hS => (by kernel_rfl)) hT ?_
  try simp only [List.setIfInBounds_toArray, List.set_cons_zero, List.set_cons_succ]
  refine takeU 92 (i := 33) (v := .int .i64 (b 32)) rfl rfl rfl (by kernel_rfl) (by kernel_rfl) (by kernel_rfl) (by kernel_rfl) (fun _ _ _ h => h) (by kernel_rfl) (fun w0 hS => (exec_cell 3 (.tmp 91) rfl ⟨b13, 32, none⟩ rfl _ _ ((hS.2.2.1).cell (j := 32) (by omega)) Tryd.underlying3 rfl)) hT ?_
  try simp only [List.setIfInBounds_toArray, List.set_cons_zero, List.set_cons_succ]
  refine takeU 93 (i := 34) (v := .pointer (some ⟨b8, 32, none⟩)) rfl rfl rfl (by kernel_rfl) (by kernel_rfl) (by kernel_rfl) (by kernel_rfl) (fun _ _ _ h => h) (by kernel_rfl) (fun w0 hS => (by kernel_rfl)) hT ?_
  try simp only [List.setIfInBounds_toArray, List.set_cons_zero, List.set_cons_succ]
  refine takeU 94 (i := 35) (v := .int .i64 (h 32)) rfl rfl rfl (by kernel_rfl) (by kernel_rfl) (by kernel_rfl) (by kernel_rfl) (fun _ _ _ h => h) (by kernel_rfl) (fun w0 hS => (exec_cell 3 (.tmp 93) rfl ⟨b8, 32, none⟩ rfl _ _ ((hS.1).cell (j := 32) (by omega)) Tryd.underlying3 rfl)) hT ?_
  try simp only [List.setIfInBounds_toArray, List.set_cons_zero, List.set_cons_succ]
  refine takeU 95 (i := 36) (v := .int .i64 (IntKind.i64.wrap (h 32 + 4))) rfl rfl rfl (by kernel_rfl) (by kernel_rfl) (by kernel_rfl) (by kernel_rfl) (fun _ _ _ h => h) (by kernel_rfl) (fun w0 hS => (by kernel_rfl)) hT ?_
  try simp only [List.setIfInBounds_toArray, List.set_cons_zero, List.set_cons_succ]
  refine callU 96 (i := 37) rfl rfl (by kernel_rfl) (by kernel_rfl) (f := 27) (args := #[.int .i64 (IntKind.i64.wrap (h 32 + 4))]) (v := .int .i64 m2) (by kernel_rfl) (wl ((w32_i _).trans M2.out) _) (fun w' hb => ⟨HXb8.out.bel hb, HXb11.out.bel hb, HXb13.out.bel hb, HXb17.out.bel hb, HXb12.out.bel hb, HXb14.out.bel hb, HXb16.out.bel hb, HXb18.out.bel hb⟩) ?_
  intro V29 hb
  try simp only [List.setIfInBounds_toArray, List.set_cons_zero, List.set_cons_succ]
  replace HB : Hid (Bel w V29) := Lib.hid (HB.out.trans hb)
  replace HXb8 : Hid (HAt V29 b8 h) := Lib.hid (HXb8.out.bel hb)
  replace HXb11 : Hid (HAt V29 b11 g) := Lib.hid (HXb11.out.bel hb)
  replace HXb12 : Hid (EfAt V29 b12 e0) := Lib.hid (HXb12.out.bel hb)
  replace HXb13 : Hid (HAt V29 b13 b) := Lib.hid (HXb13.out.bel hb)
  replace HXb14 : Hid (EfAt V29 b14 e0) := Lib.hid (HXb14.out.bel hb)
  replace HXb15 : Hid (HAt V29 b15 u) := Lib.hid (HXb15.out.bel hb)
  replace HXb16 : Hid (EfAt V29 b16 e0) := Lib.hid (HXb16.out.bel hb)
  replace HXb17 : Hid (HAt V29 b17 s) := Lib.hid (HXb17.out.bel hb)
  replace HXb18 : Hid (EfAt V29 b18 e0) := Lib.hid (HXb18.out.bel hb)
  clear hb hT
  have hT : HAt V29 b8 h ∧ HAt V29 b11 g ∧ HAt V29 b13 b ∧ HAt V29 b17 s ∧ EfAt V29 b12 e0 ∧ EfAt V29 b14 e0 ∧ EfAt V29 b16 e0 ∧ EfAt V29 b18 e0 := ⟨HXb8.out, HXb11.out, HXb13.out, HXb17.out, HXb12.out, HXb14.out, HXb16.out, HXb18.out⟩
  refine takeU 97 (i := 38) (v := .bool true) rfl rfl rfl (by kernel_rfl) (by kernel_rfl) (by kernel_rfl) (by kernel_rfl) (fun _ _ _ h => h) (by kernel_rfl) (fun w0 hS => (exec_eqI rfl rfl rfl (C2.out) w0)) hT ?_
  try simp only [List.setIfInBounds_toArray, List.set_cons_zero, List.set_cons_succ]
  refine takeU 98 (i := 39) (v := .bool true) rfl rfl rfl (by kernel_rfl) (by kernel_rfl) (by kernel_rfl) (by kernel_rfl) (fun _ _ _ h => h) (by kernel_rfl) (fun w0 hS => (by kernel_rfl)) hT ?_
  try simp only [List.setIfInBounds_toArray, List.set_cons_zero, List.set_cons_succ]
  refine takeU 99 (i := 40) (v := .bool true) rfl rfl rfl (by kernel_rfl) (by kernel_rfl) (by kernel_rfl) (by kernel_rfl) (fun _ _ _ h => h) (by kernel_rfl) (fun w0 hS => rfl) hT ?_
  try simp only [List.setIfInBounds_toArray, List.set_cons_zero, List.set_cons_succ]
  refine takeU 100 (i := 41) (v := .int .i64 (kk : Int)) rfl rfl rfl (by kernel_rfl) (by kernel_rfl) (by kernel_rfl) (by kernel_rfl) (fun _ _ _ h => h) (by kernel_rfl) (fun w0 hS => rfl) hT ?_
  try simp only [List.setIfInBounds_toArray, List.set_cons_zero, List.set_cons_succ]
  refine takeU 101 (i := 42) (v := .pointer (some ⟨b17, 0, none⟩)) rfl rfl rfl (by kernel_rfl) (by kernel_rfl) (by kernel_rfl) (by kernel_rfl) (fun _ _ _ h => h) (by kernel_rfl) (fun w0 hS => (by kernel_rfl)) hT ?_
  try simp only [List.setIfInBounds_toArray, List.set_cons_zero, List.set_cons_succ]
  refine takeU 102 (i := 43) (v := .pointer (some ⟨b17, kk, none⟩)) rfl rfl rfl (by kernel_rfl) (by kernel_rfl) (by kernel_rfl) (by kernel_rfl) (fun _ _ _ h => h) (by kernel_rfl) (fun w0 hS => (exec_reg rfl b17 kk (by omega) rfl rfl _)) hT ?_
  try simp only [List.setIfInBounds_toArray, List.set_cons_zero, List.set_cons_succ]
  refine takeU 103 (i := 44) (v := .int .i64 (s kk)) rfl rfl rfl (by kernel_rfl) (by kernel_rfl) (by kernel_rfl) (by kernel_rfl) (fun _ _ _ h => h) (by kernel_rfl) (fun w0 hS => (exec_cell 3 (.tmp 102) rfl ⟨b17, kk, none⟩ rfl _ _ ((hS.2.2.2.1).cell (j := kk) (by omega)) Tryd.underlying3 rfl)) hT ?_
  try simp only [List.setIfInBounds_toArray, List.set_cons_zero, List.set_cons_succ]
  refine takeU 104 (i := 45) (v := .pointer (some ⟨b8, 32, none⟩)) rfl rfl rfl (by kernel_rfl) (by kernel_rfl) (by kernel_rfl) (by kernel_rfl) (fun _ _ _ h => h) (by kernel_rfl) (fun w0 hS => (by kernel_rfl)) hT ?_
  try simp only [List.setIfInBounds_toArray, List.set_cons_zero, List.set_cons_succ]
  refine takeU 105 (i := 46) (v := .int .i64 (h 32)) rfl rfl rfl (by kernel_rfl) (by kernel_rfl) (by kernel_rfl) (by kernel_rfl) (fun _ _ _ h => h) (by kernel_rfl) (fun w0 hS => (exec_cell 3 (.tmp 104) rfl ⟨b8, 32, none⟩ rfl _ _ ((hS.1).cell (j := 32) (by omega)) Tryd.underlying3 rfl)) hT ?_
  try simp only [List.setIfInBounds_toArray, List.set_cons_zero, List.set_cons_succ]
  refine takeU 106 (i := 47) (v := .int .i64 (IntKind.i64.wrap (h 32 + 8))) rfl rfl rfl (by kernel_rfl) (by kernel_rfl) (by kernel_rfl) (by kernel_rfl) (fun _ _ _ h => h) (by kernel_rfl) (fun w0 hS => (by kernel_rfl)) hT ?_
  try simp only [List.setIfInBounds_toArray, List.set_cons_zero, List.set_cons_succ]
  refine callU 107 (i := 48) rfl rfl (by kernel_rfl) (by kernel_rfl) (f := 27) (args := #[.int .i64 (IntKind.i64.wrap (h 32 + 8))]) (v := .int .i64 m3) (by kernel_rfl) (wl ((w32_i _).trans M3.out) _) (fun w' hb => ⟨HXb8.out.bel hb, HXb11.out.bel hb, HXb13.out.bel hb, HXb17.out.bel hb, HXb12.out.bel hb, HXb14.out.bel hb, HXb16.out.bel hb, HXb18.out.bel hb⟩) ?_
  intro V30 hb
  try simp only [List.setIfInBounds_toArray, List.set_cons_zero, List.set_cons_succ]
  replace HB : Hid (Bel w V30) := Lib.hid (HB.out.trans hb)
  replace HXb8 : Hid (HAt V30 b8 h) := Lib.hid (HXb8.out.bel hb)
  replace HXb11 : Hid (HAt V30 b11 g) := Lib.hid (HXb11.out.bel hb)
  replace HXb12 : Hid (EfAt V30 b12 e0) := Lib.hid (HXb12.out.bel hb)
  replace HXb13 : Hid (HAt V30 b13 b) := Lib.hid (HXb13.out.bel hb)
  replace HXb14 : Hid (EfAt V30 b14 e0) := Lib.hid (HXb14.out.bel hb)
  replace HXb15 : Hid (HAt V30 b15 u) := Lib.hid (HXb15.out.bel hb)
  replace HXb16 : Hid (EfAt V30 b16 e0) := Lib.hid (HXb16.out.bel hb)
  replace HXb17 : Hid (HAt V30 b17 s) := Lib.hid (HXb17.out.bel hb)
  replace HXb18 : Hid (EfAt V30 b18 e0) := Lib.hid (HXb18.out.bel hb)
  clear hb hT
  have hT : HAt V30 b8 h ∧ HAt V30 b11 g ∧ HAt V30 b13 b ∧ HAt V30 b17 s ∧ EfAt V30 b12 e0 ∧ EfAt V30 b14 e0 ∧ EfAt V30 b16 e0 ∧ EfAt V30 b18 e0 := ⟨HXb8.out, HXb11.out, HXb13.out, HXb17.out, HXb12.out, HXb14.out, HXb16.out, HXb18.out⟩
  refine takeU 108 (i := 49) (v := .bool true) rfl rfl rfl (by kernel_rfl) (by kernel_rfl) (by kernel_rfl) (by kernel_rfl) (fun _ _ _ h => h) (by kernel_rfl) (fun w0 hS => (exec_eqI rfl rfl rfl (C3.out) w0)) hT ?_
  try simp only [List.setIfInBounds_toArray, List.set_cons_zero, List.set_cons_succ]
  refine takeU 109 (i := 50) (v := .bool true) rfl rfl rfl (by kernel_rfl) (by kernel_rfl) (by kernel_rfl) (by kernel_rfl) (fun _ _ _ h => h) (by kernel_rfl) (fun w0 hS => (by kernel_rfl)) hT ?_
  try simp only [List.setIfInBounds_toArray, List.set_cons_zero, List.set_cons_succ]
  refine takeU 110 (i := 51) (v := .bool true) rfl rfl rfl (by kernel_rfl) (by kernel_rfl) (by kernel_rfl) (by kernel_rfl) (fun _ _ _ h => h) (by kernel_rfl) (fun w0 hS => rfl) hT ?_
  try simp only [List.setIfInBounds_toArray, List.set_cons_zero, List.set_cons_succ]
  refine takeU 111 (i := 52) (v := .pointer (some ⟨b17, 32, none⟩)) rfl rfl rfl (by kernel_rfl) (by kernel_rfl) (by kernel_rfl) (by kernel_rfl) (fun _ _ _ h => h) (by kernel_rfl) (fun w0 hS => (by kernel_rfl)) hT ?_
  try simp only [List.setIfInBounds_toArray, List.set_cons_zero, List.set_cons_succ]
  refine takeU 112 (i := 53) (v := .int .i64 (s 32)) rfl rfl rfl (by kernel_rfl) (by kernel_rfl) (by kernel_rfl) (by kernel_rfl) (fun _ _ _ h => h) (by kernel_rfl) (fun w0 hS => (exec_cell 3 (.tmp 111) rfl ⟨b17, 32, none⟩ rfl _ _ ((hS.2.2.2.1).cell (j := 32) (by omega)) Tryd.underlying3 rfl)) hT ?_
  try simp only [List.setIfInBounds_toArray, List.set_cons_zero, List.set_cons_succ]
  refine takeU 113 (i := 54) (v := .int .i64 (kk : Int)) rfl rfl rfl (by kernel_rfl) (by kernel_rfl) (by kernel_rfl) (by kernel_rfl) (fun _ _ _ h => h) (by kernel_rfl) (fun w0 hS => rfl) hT ?_
  try simp only [List.setIfInBounds_toArray, List.set_cons_zero, List.set_cons_succ]
  refine takeU 114 (i := 55) (v := .pointer (some ⟨b17, 0, none⟩)) rfl rfl rfl (by kernel_rfl) (by kernel_rfl) (by kernel_rfl) (by kernel_rfl) (fun _ _ _ h => h) (by kernel_rfl) (fun w0 hS => (by kernel_rfl)) hT ?_
  try simp only [List.setIfInBounds_toArray, List.set_cons_zero, List.set_cons_succ]
  refine takeU 115 (i := 56) (v := .pointer (some ⟨b17, kk, none⟩)) rfl rfl rfl (by kernel_rfl) (by kernel_rfl) (by kernel_rfl) (by kernel_rfl) (fun _ _ _ h => h) (by kernel_rfl) (fun w0 hS => (exec_reg rfl b17 kk (by omega) rfl rfl _)) hT ?_
  try simp only [List.setIfInBounds_toArray, List.set_cons_zero, List.set_cons_succ]
  refine takeU 116 (i := 57) (v := .int .i64 (s kk)) rfl rfl rfl (by kernel_rfl) (by kernel_rfl) (by kernel_rfl) (by kernel_rfl) (fun _ _ _ h => h) (by kernel_rfl) (fun w0 hS => (exec_cell 3 (.tmp 115) rfl ⟨b17, kk, none⟩ rfl _ _ ((hS.2.2.2.1).cell (j := kk) (by omega)) Tryd.underlying3 rfl)) hT ?_
  try simp only [List.setIfInBounds_toArray, List.set_cons_zero, List.set_cons_succ]
  refine takeU 117 (i := 58) (v := .bool true) rfl rfl rfl (by kernel_rfl) (by kernel_rfl) (by kernel_rfl) (by kernel_rfl) (fun _ _ _ h => h) (by kernel_rfl) (fun w0 hS => (exec_eqI rfl rfl rfl (C4.out) w0)) hT ?_
  try simp only [List.setIfInBounds_toArray, List.set_cons_zero, List.set_cons_succ]
  refine takeU 118 (i := 59) (v := .bool true) rfl rfl rfl (by kernel_rfl) (by kernel_rfl) (by kernel_rfl) (by kernel_rfl) (fun _ _ _ h => h) (by kernel_rfl) (fun w0 hS => (by kernel_rfl)) hT ?_
  try simp only [List.setIfInBounds_toArray, List.set_cons_zero, List.set_cons_succ]
  refine pureU 6 (i := 60) rfl rfl (by kernel_rfl) (by kernel_rfl) (v := .bool true) rfl hT ?_
  try simp only [List.setIfInBounds_toArray, List.set_cons_zero, List.set_cons_succ]
  refine Upto.done (by kernel_rfl) ?_ _
  clear hT
  refine hK _ _ ?_
  clear hK K
  go_wp2
  go_ret
  exact ⟨rfl, HB.out⟩
end Go.Proofs.YtgcgdjmlngfpeaaDoor
