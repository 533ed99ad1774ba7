/- HartOperators: what operators of chapter 1 make, instructions make. -/
import Derived.Test.YtgcgdjmlngfpeaaDoorHDraw2
import Derived.Test.YtgcgdjmlngfpeaaDoorHOpP
namespace Go.Proofs.YtgcgdjmlngfpeaaDoor
open Go.RowKit Ht
set_option linter.unusedVariables false
set_option linter.unusedSimpArgs false
set_option maxRecDepth 100000
set_option maxHeartbeats 16000000
theorem tvw {op a b v : Int} {q : Bool} (h : Plain.two op a b = v) (h' : Plain.isTwo op = q) (w : World) : Calls Tryd.prog 25 #[.int .i64 op, .int .i64 a, .int .i64 b] w (OneV (.tuple #[.int .i64 v, .bool q]) w) :=
  (two_val h h' w).mono fun e w' hh => ⟨hh.1, by rw [← hh.2]; exact Bel.refl _⟩
theorem ovw {op a v : Int} {q : Bool} (h : Plain.one op a = v) (h' : Plain.isOne op = q) (w : World) : Calls Tryd.prog 26 #[.int .i64 op, .int .i64 a] w (OneV (.tuple #[.int .i64 v, .bool q]) w) :=
  (one_val h h' w).mono fun e w' hh => ⟨hh.1, by rw [← hh.2]; exact Bel.refl _⟩
def opsL : Array Value := #[.int .i64 22, .int .i64 23, .int .i64 32, .int .i64 35, .int .i64 37, .int .i64 31, .int .i64 30, .int .i64 27, .int .i64 24, .int .i64 29, .int .i64 25, .int .i64 26]
def lop (x : Nat) : Int := if x = 0 then 22 else if x = 1 then 23 else if x = 2 then 32 else if x = 3 then 35 else if x = 4 then 37 else if x = 5 then 31 else if x = 6 then 30 else if x = 7 then 27 else if x = 8 then 24 else if x = 9 then 29 else if x = 10 then 25 else 26
theorem lop_at {x : Nat} (h : x < 12) : (#[.int .i64 22, .int .i64 23, .int .i64 32, .int .i64 35, .int .i64 37, .int .i64 31, .int .i64 30, .int .i64 27, .int .i64 24, .int .i64 29, .int .i64 25, .int .i64 26] : Array Value)[x]? = some (.int .i64 (lop x)) := by
  have : x = 0 ∨ x = 1 ∨ x = 2 ∨ x = 3 ∨ x = 4 ∨ x = 5 ∨ x = 6 ∨ x = 7 ∨ x = 8 ∨ x = 9 ∨ x = 10 ∨ x = 11 := by omega
  rcases this with rfl | rfl | rfl | rfl | rfl | rfl | rfl | rfl | rfl | rfl | rfl | rfl <;> rfl
theorem lop_op {x : Nat} (h : x < 12) : opOf (lop x) = (x : Int) + 1 ∧ lop x ≠ 1 ∧ lop x ≠ 2 ∧ ¬ (lop x = 20 ∨ lop x = 28) ∧ lop x ≠ 33 ∧ lop x ≠ 34 ∧ lop x ≠ 36 ∧ lop x ≠ 38 ∧ lop x ≠ 3 ∧ lop x ≠ 4 ∧ ¬ (5 ≤ lop x ∧ lop x ≤ 10) ∧ lop x ≠ 44 ∧ ¬ (40 ≤ lop x ∧ lop x ≤ 42) ∧ ¬ isEff (lop x) ∧ Rv.form (lop x) = 82 ∧ 1 ≤ lop x ∧ lop x ≤ 49 := by
  have : x = 0 ∨ x = 1 ∨ x = 2 ∨ x = 3 ∨ x = 4 ∨ x = 5 ∨ x = 6 ∨ x = 7 ∨ x = 8 ∨ x = 9 ∨ x = 10 ∨ x = 11 := by omega
  rcases this with rfl | rfl | rfl | rfl | rfl | rfl | rfl | rfl | rfl | rfl | rfl | rfl <;> decide +kernel
theorem r_rop {x : Nat} (h : x < 12) {k : Int} (hk : 1 ≤ k ∧ k < 32) : Rv.right ⟨lop x, k, 3, 4, 0⟩ = true := by
  obtain ⟨-, -, -, -, -, -, -, -, -, -, -, -, -, -, hf, l1, l2⟩ := lop_op h
  unfold Rv.right
  simp only [hf]
  simp [Rv.reg, Rv.hasD, Rv.hasA, Rv.hasB, Rv.num]
  omega
theorem r_ri {o d n : Int} (ho : o = 13 ∨ o = 16) (hd : 1 ≤ d ∧ d < 32) (hn : -2048 ≤ n ∧ n ≤ 2047) : Rv.right ⟨o, d, 3, 0, n⟩ = true := by
  have hf : Rv.form o = 73 := by rcases ho with rfl | rfl <;> decide +kernel
  unfold Rv.right
  simp only [hf]
  simp [Rv.reg, Rv.hasD, Rv.hasA, Rv.hasB, Rv.num]
  omega
theorem step_rop (h : H) {x : Nat} (hx : x < 12) {k : Int} (hk : 1 ≤ k ∧ k < 32) : stepV h 0 ⟨lop x, k, 3, 4, 0⟩ = (Ht.go (put h k (Plain.two ((x : Int) + 1) (h 3) (h 4))) 4, e0) := by
  obtain ⟨q1, q2, q3, q4, q5, q6, q7, q8, q9, q10, q11, q12, q13, q14, -, -, -⟩ := lop_op hx
  unfold stepV
  rw [if_neg (by rw [r_rop hx hk]; decide), if_neg q9, if_neg q10, if_neg q11, if_neg q12, if_neg q13, if_neg q14]
  show (Ht.go (put h k (numV h (lop x) 3 4 0)) 4, e0) = _
  unfold numV
  rw [if_neg q2, if_neg q3, if_neg q4, if_neg q5, if_neg q6, if_neg q7, if_neg q8, q1]
  rfl
set_option maxRecDepth 100000 in
theorem operators_w (w : World) {c1 c2 c3 c4 p2 p3 p4 o lo n s sm iv_ : Int} {kk x : Nat} {h1 h g p q : H} (HO : Hid (OpsAt w)) (I2 : Hid (inInt c2)) (I3 : Hid (inInt c3)) (I4 : Hid (inInt c4)) (R4 : Hid (Plain.pick c4 31 = p4)) (R3 : Hid (Plain.pick c3 12 = p3)) (R2 : Hid (Plain.pick c2 4096 = p2))
    (A1 : Hid (IntKind.i64.wrap (1 + p4) = (kk : Int))) (A2 : Hid (IntKind.i64.wrap (1 + p3) = o)) (A3 : Hid (IntKind.i64.wrap (o - 1) = (x : Int))) (A4 : Hid (IntKind.i64.wrap (p2 - 2048) = s)) (lx : x < 12) (kl : kk < 32) (P1 : Hid (put (up (fun _ => 0) 32 8) 3 c1 = h1)) (P2 : Hid (put h1 4 c2 = h))
    (HS : Hid ((#[.int .i64 22, .int .i64 23, .int .i64 32, .int .i64 35, .int .i64 37, .int .i64 31, .int .i64 30, .int .i64 27, .int .i64 24, .int .i64 29, .int .i64 25, .int .i64 26] : Array Value)[x]? = some (.int .i64 lo)))
    (Wl : Hid (i64 lo)) (WK : Hid (i64 (kk : Int))) (W3 : Hid (i64 3)) (W4 : Hid (i64 4)) (W0_ : Hid (i64 0)) (W13 : Hid (i64 13)) (W16 : Hid (i64 16)) (Ws : Hid (i64 s)) (Wm : Hid (i64 (-1)))
    (S1 : Hid (stepV h 0 ⟨lo, kk, 3, 4, 0⟩ = (g, e0))) (S2 : Hid (stepV h 0 ⟨13, kk, 3, 0, s⟩ = (p, e0))) (S3 : Hid (stepV h 0 ⟨16, kk, 3, 0, -1⟩ = (q, e0)))
    (T1 : Hid (Plain.two o c1 c2 = n)) (T2 : Hid (Plain.isTwo o = true)) (T3 : Hid (Plain.two 1 c1 s = sm)) (T4 : Hid (Plain.one 17 c1 = iv_)) (C1 : Hid (g kk = n)) (C2 : Hid (p kk = sm)) (C3 : Hid (q kk = iv_)) (C4 : Hid (g 32 = 12)) :
    Calls Tryd.prog 5 #[.int .i64 c1, .int .i64 c2, .int .i64 c3, .int .i64 c4] w (OneV (.bool true) w) := by
  go_enter Tryd.func5, Tryd.ntmps5
  have HB : Hid (Bel w w) := Lib.hid (Bel.refl w)
  go_upto_region 1 with (fail)
  rename_i K hK
  refine wp_region_list ?_
  refine wpList_call rfl (f := 12) (args := #[]) (v := .bool true) (by kernel_rfl) (awake_any (HO.out.bel HB.out)) ?_
  intro V1 hb
  replace HB : Hid (Bel w V1) := Lib.hid (HB.out.trans hb)
  clear hb
  try simp only [Act.put, List.setIfInBounds_toArray, List.set_cons_zero, List.set_cons_succ]
  refine wpList_one rfl (w' := V1) (v := .bool true) rfl ?_
  try simp only [Act.put, List.setIfInBounds_toArray, List.set_cons_zero, List.set_cons_succ]
  refine wpList_nil ?_
  refine hK _ _ ?_
  clear hK K
  go_upto_region 2 with (fail)
  rename_i K hK
  refine wp_region_list ?_
  refine wpList_one rfl (w' := V1) (v := .int .i64 c4) rfl ?_
  try simp only [Act.put, List.setIfInBounds_toArray, List.set_cons_zero, List.set_cons_succ]
  refine wpList_call rfl (f := 15) (args := #[.int .i64 c4, .int .i64 31]) (v := .int .i64 p4) (by kernel_rfl) (pk I4.out (by decide) R4.out _) ?_
  intro V2 hb
  replace HB : Hid (Bel w V2) := Lib.hid (HB.out.trans hb)
  clear hb
  try simp only [Act.put, List.setIfInBounds_toArray, List.set_cons_zero, List.set_cons_succ]
  refine wpList_one rfl (w' := V2) (v := .int .i64 (kk : Int)) (exec_add rfl rfl rfl A1.out _) ?_
  try simp only [Act.put, List.setIfInBounds_toArray, List.set_cons_zero, List.set_cons_succ]
  refine wpList_one rfl (w' := V2) (v := .int .i64 (kk : Int)) rfl ?_
  try simp only [Act.put, List.setIfInBounds_toArray, List.set_cons_zero, List.set_cons_succ]
  refine wpList_nil ?_
  refine hK _ _ ?_
  clear hK K
  go_upto_region 3 with (fail)
  rename_i K hK
  refine wp_region_list ?_
  refine wpList_one rfl (w' := V2) (v := hv (up (fun _ => 0) 32 8)) (by kernel_rfl) ?_
  try simp only [Act.put, List.setIfInBounds_toArray, List.set_cons_zero, List.set_cons_succ]
  refine wpList_one rfl (w' := V2) (v := .int .i64 c1) rfl ?_
  try simp only [Act.put, List.setIfInBounds_toArray, List.set_cons_zero, List.set_cons_succ]
  refine wpList_call rfl (f := 18) (args := #[hv (up (fun _ => 0) 32 8), .int .i64 3, .int .i64 c1]) (v := hv h1) (by kernel_rfl) (put_lit P1.out _) ?_
  intro V3 hb
  replace HB : Hid (Bel w V3) := Lib.hid (HB.out.trans hb)
  clear hb
  try simp only [Act.put, List.setIfInBounds_toArray, List.set_cons_zero, List.set_cons_succ]
  refine wpList_one rfl (w' := V3) (v := .int .i64 c2) rfl ?_
  try simp only [Act.put, List.setIfInBounds_toArray, List.set_cons_zero, List.set_cons_succ]
  refine wpList_call rfl (f := 18) (args := #[hv h1, .int .i64 4, .int .i64 c2]) (v := hv h) (by kernel_rfl) (put_lit P2.out _) ?_
  intro V4 hb
  replace HB : Hid (Bel w V4) := Lib.hid (HB.out.trans hb)
  clear hb
  try simp only [Act.put, List.setIfInBounds_toArray, List.set_cons_zero, List.set_cons_succ]
  obtain ⟨hb, hx⟩ := box1 V4 hZ 28
  refine wpList_one rfl (w' := V4.alloc (.cells hZ 28)) (v := .pointer (some ⟨V4.heap.size, 0, none⟩)) (by kernel_rfl) ?_
  try simp only [Act.put, List.setIfInBounds_toArray, List.set_cons_zero, List.set_cons_succ]
  have hl := HB.out.size
  generalize V4.alloc (.cells hZ 28) = V5 at hb hx ⊢
  generalize V4.heap.size = b11 at hx hl ⊢
  have HG := Lib.hid hl
  clear hl
  replace HB : Hid (Bel w V5) := Lib.hid (HB.out.trans hb)
  have HXb11 : Hid (HAt V5 b11 (fun _ => 0)) := Lib.hid hx
  clear hb hx
  try simp only [Act.put, List.setIfInBounds_toArray, List.set_cons_zero, List.set_cons_succ]
  refine wpList_store_row rfl 28 (.tmp 11) (.tmp 35) rfl b11 (hC h) rfl rfl 28 (hC (fun _ => 0)) HXb11.out (sz_hart _) (by rw [hC_size, hC_size]) (hC_ones _) ?_
  have hn := row_same (cs := (hC h)) HXb11.out
  have hb := row_bel HB.out (g := b11) (by have := HG.out; omega) (hC h)
  generalize V5.setRow b11 (hC h) = V6 at hn hb  ⊢
  clear HB HXb11
  have HB : Hid (Bel w V6) := Lib.hid hb
  have HXb11 : Hid (HAt V6 b11 h) := Lib.hid hn
  clear hn hb 
  try simp only [Act.put, List.setIfInBounds_toArray, List.set_cons_zero, List.set_cons_succ]
  refine wpList_nil ?_
  refine hK _ _ ?_
  clear hK K
  go_upto_region 4 with (fail)
  rename_i K hK
  refine wp_region_list ?_
  obtain ⟨hb, hx⟩ := box1 V6 #[.int .i64 22, .int .i64 23, .int .i64 32, .int .i64 35, .int .i64 37, .int .i64 31, .int .i64 30, .int .i64 27, .int .i64 24, .int .i64 29, .int .i64 25, .int .i64 26] 3
  refine wpList_one rfl (w' := V6.alloc (.cells #[.int .i64 22, .int .i64 23, .int .i64 32, .int .i64 35, .int .i64 37, .int .i64 31, .int .i64 30, .int .i64 27, .int .i64 24, .int .i64 29, .int .i64 25, .int .i64 26] 3)) (v := .slice (some ⟨V6.heap.size, 0, none⟩) 12 12) (by kernel_rfl) ?_
  try simp only [Act.put, List.setIfInBounds_toArray, List.set_cons_zero, List.set_cons_succ]
  have hl := lt_of_heap HXb11.out
  generalize V6.alloc (.cells #[.int .i64 22, .int .i64 23, .int .i64 32, .int .i64 35, .int .i64 37, .int .i64 31, .int .i64 30, .int .i64 27, .int .i64 24, .int .i64 29, .int .i64 25, .int .i64 26] 3) = V7 at hb hx ⊢
  generalize V6.heap.size = b36 at hx hl ⊢
  have HG1 := Lib.hid hl
  clear hl
  replace HB : Hid (Bel w V7) := Lib.hid (HB.out.trans hb)
  replace HXb11 : Hid (HAt V7 b11 h) := Lib.hid (HXb11.out.bel hb)
  have HXb36 : Hid (SlAt V7 b36 #[.int .i64 22, .int .i64 23, .int .i64 32, .int .i64 35, .int .i64 37, .int .i64 31, .int .i64 30, .int .i64 27, .int .i64 24, .int .i64 29, .int .i64 25, .int .i64 26]) := Lib.hid hx
  clear hb hx
  try simp only [Act.put, List.setIfInBounds_toArray, List.set_cons_zero, List.set_cons_succ]
  refine wpList_one rfl (w' := V7) (v := .slice (some ⟨b36, 0, none⟩) 12 12) rfl ?_
  try simp only [Act.put, List.setIfInBounds_toArray, List.set_cons_zero, List.set_cons_succ]
  refine wpList_nil ?_
  refine hK _ _ ?_
  clear hK K
  go_upto_region 5 with (fail)
  rename_i K hK
  refine wp_region_list ?_
  refine wpList_one rfl (w' := V7) (v := .int .i64 c3) rfl ?_
  try simp only [Act.put, List.setIfInBounds_toArray, List.set_cons_zero, List.set_cons_succ]
  refine wpList_call rfl (f := 15) (args := #[.int .i64 c3, .int .i64 12]) (v := .int .i64 p3) (by kernel_rfl) (pk I3.out (by decide) R3.out _) ?_
  intro V8 hb
  replace HB : Hid (Bel w V8) := Lib.hid (HB.out.trans hb)
  replace HXb11 : Hid (HAt V8 b11 h) := Lib.hid (HXb11.out.bel hb)
  replace HXb36 : Hid (SlAt V8 b36 #[.int .i64 22, .int .i64 23, .int .i64 32, .int .i64 35, .int .i64 37, .int .i64 31, .int .i64 30, .int .i64 27, .int .i64 24, .int .i64 29, .int .i64 25, .int .i64 26]) := Lib.hid (HXb36.out.bel hb)
  clear hb
  try simp only [Act.put, List.setIfInBounds_toArray, List.set_cons_zero, List.set_cons_succ]
  refine wpList_one rfl (w' := V8) (v := .int .i64 o) (exec_add rfl rfl rfl A2.out _) ?_
  try simp only [Act.put, List.setIfInBounds_toArray, List.set_cons_zero, List.set_cons_succ]
  refine wpList_one rfl (w' := V8) (v := .int .i64 o) rfl ?_
  try simp only [Act.put, List.setIfInBounds_toArray, List.set_cons_zero, List.set_cons_succ]
  refine wpList_nil ?_
  refine hK _ _ ?_
  clear hK K
  go_upto_region 6 with (fail)
  rename_i K hK
  exact wp_meet2b _ (fun b14 b15 V37 => Bel w V37 ∧ HAt V37 b11 h ∧ SlAt V37 b36 #[.int .i64 22, .int .i64 23, .int .i64 32, .int .i64 35, .int .i64 37, .int .i64 31, .int .i64 30, .int .i64 27, .int .i64 24, .int .i64 29, .int .i64 25, .int .i64 26] ∧ HAt V37 b14 g ∧ EfAt V37 b15 e0 ∧ (b36 < b14) ∧ (b36 < b15) ∧ b14 ≠ b15) (by
    refine Upto.begin (z := 15) (T := fun w' => HAt w' b11 h ∧ SlAt w' b36 #[.int .i64 22, .int .i64 23, .int .i64 32, .int .i64 35, .int .i64 37, .int .i64 31, .int .i64 30, .int .i64 27, .int .i64 24, .int .i64 29, .int .i64 25, .int .i64 26]) (by kernel_rfl) ?_
    have hb : Bel V8 V8.drew := (Bel.refl V8).drew
    generalize V8.drew = V9 at hb ⊢
    replace HB : Hid (Bel w V9) := Lib.hid (HB.out.trans hb)
    replace HXb11 : Hid (HAt V9 b11 h) := Lib.hid (HXb11.out.bel hb)
    replace HXb36 : Hid (SlAt V9 b36 #[.int .i64 22, .int .i64 23, .int .i64 32, .int .i64 35, .int .i64 37, .int .i64 31, .int .i64 30, .int .i64 27, .int .i64 24, .int .i64 29, .int .i64 25, .int .i64 26]) := Lib.hid (HXb36.out.bel hb)
    clear hb
    have hT : HAt V9 b11 h ∧ SlAt V9 b36 #[.int .i64 22, .int .i64 23, .int .i64 32, .int .i64 35, .int .i64 37, .int .i64 31, .int .i64 30, .int .i64 27, .int .i64 24, .int .i64 29, .int .i64 25, .int .i64 26] := ⟨HXb11.out, HXb36.out⟩
    refine takeU 41 (i := 0) (v := hv h) rfl rfl rfl (by kernel_rfl) (by kernel_rfl) (by kernel_rfl) (by kernel_rfl) (fun _ _ _ h => nomatch h.1) (by kernel_rfl) (fun w0 hS => (exec_row 28 (.tmp 11) rfl b11 rfl 28 (hC h) (0, 0) _ hS.1 Tryd.underlying28 rfl (sz_hart _))) hT ?_
    try simp only [List.setIfInBounds_toArray, List.set_cons_zero, List.set_cons_succ]
    refine takeU 42 (i := 1) (v := .slice (some ⟨b36, 0, none⟩) 12 12) rfl rfl rfl (by kernel_rfl) (by kernel_rfl) (by kernel_rfl) (by kernel_rfl) (fun _ _ _ h => nomatch h.1) (by kernel_rfl) (fun w0 hS => rfl) hT ?_
    try simp only [List.setIfInBounds_toArray, List.set_cons_zero, List.set_cons_succ]
    refine takeU 43 (i := 2) (v := .int .i64 o) rfl rfl rfl (by kernel_rfl) (by kernel_rfl) (by kernel_rfl) (by kernel_rfl) (fun _ _ _ h => nomatch h.1) (by kernel_rfl) (fun w0 hS => rfl) hT ?_
    try simp only [List.setIfInBounds_toArray, List.set_cons_zero, List.set_cons_succ]
    refine takeU 44 (i := 3) (v := .int .i64 (x : Int)) rfl rfl rfl (by kernel_rfl) (by kernel_rfl) (by kernel_rfl) (by kernel_rfl) (fun _ _ _ h => nomatch h.1) (by kernel_rfl) (fun w0 hS => (exec_sub rfl rfl rfl A3.out w0)) hT ?_
    try simp only [List.setIfInBounds_toArray, List.set_cons_zero, List.set_cons_succ]
    refine takeU 45 (i := 4) (v := .pointer (some ⟨b36, x, none⟩)) rfl rfl rfl (by kernel_rfl) (by kernel_rfl) (by kernel_rfl) (by kernel_rfl) (fun _ _ _ h => nomatch h.1) (by kernel_rfl) (fun w0 hS => (exec_sl12 rfl b36 x (by omega) rfl rfl _)) hT ?_
    try simp only [List.setIfInBounds_toArray, List.set_cons_zero, List.set_cons_succ]
    refine takeU 46 (i := 5) (v := .int .i64 lo) rfl rfl rfl (by kernel_rfl) (by kernel_rfl) (by kernel_rfl) (by kernel_rfl) (fun _ _ _ h => nomatch h.1) (by kernel_rfl) (fun w0 hS => (exec_cell 3 (.tmp 45) rfl ⟨b36, x, none⟩ rfl _ _ (((show SlAt w0 b36 #[.int .i64 22, .int .i64 23, .int .i64 32, .int .i64 35, .int .i64 37, .int .i64 31, .int .i64 30, .int .i64 27, .int .i64 24, .int .i64 29, .int .i64 25, .int .i64 26] from hS.2).cell x).trans HS.out) Tryd.underlying3 rfl)) hT ?_
    try simp only [List.setIfInBounds_toArray, List.set_cons_zero, List.set_cons_succ]
    refine takeU 47 (i := 6) (v := .int .i64 (kk : Int)) rfl rfl rfl (by kernel_rfl) (by kernel_rfl) (by kernel_rfl) (by kernel_rfl) (fun _ _ _ h => nomatch h.1) (by kernel_rfl) (fun w0 hS => rfl) hT ?_
    try simp only [List.setIfInBounds_toArray, List.set_cons_zero, List.set_cons_succ]
    refine takeU 48 (i := 7) (v := iv lo (kk : Int) 3 4 0) rfl rfl rfl (by kernel_rfl) (by kernel_rfl) (by kernel_rfl) (by kernel_rfl) (fun _ _ _ h => nomatch h.1) (by kernel_rfl) (fun w0 hS => (by kernel_rfl)) hT ?_
    try simp only [List.setIfInBounds_toArray, List.set_cons_zero, List.set_cons_succ]
    refine Upto.three (i := 8) (j := 12) (l := 13) (by kernel_rfl) ?_ ?_ ?_
    ·
      refine callC 49 (i := 8) rfl rfl (by kernel_rfl) (f := 16) (args := #[hv h, .int .i64 0, iv lo (kk : Int) 3 4 0]) (v := .tuple #[hv g, .agg (eC e0)]) (by kernel_rfl) (st HO HB.out (wf5 Wl.out WK.out W3.out W4.out W0_.out) S1.out) (fun w' hb => ⟨HXb11.out.bel hb, HXb36.out.bel hb⟩) ?_
      intro V10 hb
      try simp only [List.setIfInBounds_toArray, List.set_cons_zero, List.set_cons_succ]
      replace HB : Hid (Bel w V10) := Lib.hid (HB.out.trans hb)
      replace HXb11 : Hid (HAt V10 b11 h) := Lib.hid (HXb11.out.bel hb)
      replace HXb36 : Hid (SlAt V10 b36 #[.int .i64 22, .int .i64 23, .int .i64 32, .int .i64 35, .int .i64 37, .int .i64 31, .int .i64 30, .int .i64 27, .int .i64 24, .int .i64 29, .int .i64 25, .int .i64 26]) := Lib.hid (HXb36.out.bel hb)
      clear hb hT
      have hT : HAt V10 b11 h ∧ SlAt V10 b36 #[.int .i64 22, .int .i64 23, .int .i64 32, .int .i64 35, .int .i64 37, .int .i64 31, .int .i64 30, .int .i64 27, .int .i64 24, .int .i64 29, .int .i64 25, .int .i64 26] := ⟨HXb11.out, HXb36.out⟩
      refine takeU 40 (i := 9) (v := .tuple #[hv g, .agg (eC e0)]) rfl rfl rfl (by kernel_rfl) (by kernel_rfl) (by kernel_rfl) (by kernel_rfl) (fun _ _ _ h => nomatch h.1) (by kernel_rfl) (fun w0 hS => rfl) hT ?_
      try simp only [List.setIfInBounds_toArray, List.set_cons_zero, List.set_cons_succ]
      refine takeU 50 (i := 10) (v := hv g) rfl rfl rfl (by kernel_rfl) (by kernel_rfl) (by kernel_rfl) (by kernel_rfl) (fun _ _ _ h => nomatch h.1) (by kernel_rfl) (fun w0 hS => rfl) hT ?_
      try simp only [List.setIfInBounds_toArray, List.set_cons_zero, List.set_cons_succ]
      refine takeU 51 (i := 11) (v := .agg (eC e0)) rfl rfl rfl (by kernel_rfl) (by kernel_rfl) (by kernel_rfl) (by kernel_rfl) (fun _ _ _ h => nomatch h.1) (by kernel_rfl) (fun w0 hS => rfl) hT ?_
      try simp only [List.setIfInBounds_toArray, List.set_cons_zero, List.set_cons_succ]
      refine Upto.two (i := 12) (j := 13) (by kernel_rfl) ?_ ?_
      ·
        obtain ⟨hb, hx⟩ := box1 V10 hZ 28
        refine stepC 14 (i := 12) rfl rfl (by kernel_rfl) (w' := V10.alloc (.cells hZ 28)) (v := .pointer (some ⟨V10.heap.size, 0, none⟩)) (by kernel_rfl) (⟨HXb11.out.bel hb, HXb36.out.bel hb⟩) ?_
        try simp only [List.setIfInBounds_toArray, List.set_cons_zero, List.set_cons_succ]
        have hl := lt_of_heap HXb36.out
        clear hT
        generalize V10.alloc (.cells hZ 28) = V11 at hb hx ⊢
        generalize V10.heap.size = b14 at hx hl ⊢
        have HG2 := Lib.hid hl
        clear hl
        replace HB : Hid (Bel w V11) := Lib.hid (HB.out.trans hb)
        replace HXb11 : Hid (HAt V11 b11 h) := Lib.hid (HXb11.out.bel hb)
        replace HXb36 : Hid (SlAt V11 b36 #[.int .i64 22, .int .i64 23, .int .i64 32, .int .i64 35, .int .i64 37, .int .i64 31, .int .i64 30, .int .i64 27, .int .i64 24, .int .i64 29, .int .i64 25, .int .i64 26]) := Lib.hid (HXb36.out.bel hb)
        have HXb14 : Hid (HAt V11 b14 (fun _ => 0)) := Lib.hid hx
        clear hb hx
        have hT : HAt V11 b11 h ∧ SlAt V11 b36 #[.int .i64 22, .int .i64 23, .int .i64 32, .int .i64 35, .int .i64 37, .int .i64 31, .int .i64 30, .int .i64 27, .int .i64 24, .int .i64 29, .int .i64 25, .int .i64 26] := ⟨HXb11.out, HXb36.out⟩
        refine Upto.one (i := 13) (by kernel_rfl) ?_
        obtain ⟨hb, hx⟩ := box1 V11 (eC e0) 34
        refine stepC 15 (i := 13) rfl rfl (by kernel_rfl) (w' := V11.alloc (.cells (eC e0) 34)) (v := .pointer (some ⟨V11.heap.size, 0, none⟩)) (by kernel_rfl) (⟨HXb11.out.bel hb, HXb36.out.bel hb⟩) ?_
        try simp only [List.setIfInBounds_toArray, List.set_cons_zero, List.set_cons_succ]
        have hl := lt_of_heap HXb14.out
        clear hT
        generalize V11.alloc (.cells (eC e0) 34) = V12 at hb hx ⊢
        generalize V11.heap.size = b15 at hx hl ⊢
        have HG3 := Lib.hid hl
        clear hl
        replace HB : Hid (Bel w V12) := Lib.hid (HB.out.trans hb)
        replace HXb11 : Hid (HAt V12 b11 h) := Lib.hid (HXb11.out.bel hb)
        replace HXb36 : Hid (SlAt V12 b36 #[.int .i64 22, .int .i64 23, .int .i64 32, .int .i64 35, .int .i64 37, .int .i64 31, .int .i64 30, .int .i64 27, .int .i64 24, .int .i64 29, .int .i64 25, .int .i64 26]) := Lib.hid (HXb36.out.bel hb)
        replace HXb14 : Hid (HAt V12 b14 (fun _ => 0)) := Lib.hid (HXb14.out.bel hb)
        have HXb15 : Hid (EfAt V12 b15 e0) := Lib.hid hx
        clear hb hx
        have hT : HAt V12 b11 h ∧ SlAt V12 b36 #[.int .i64 22, .int .i64 23, .int .i64 32, .int .i64 35, .int .i64 37, .int .i64 31, .int .i64 30, .int .i64 27, .int .i64 24, .int .i64 29, .int .i64 25, .int .i64 26] := ⟨HXb11.out, HXb36.out⟩
        have hn := row_same (cs := (hC g)) HXb14.out
        have hb := row_bel HB.out (g := b14) (by have := HG.out; have := HG1.out; have := HG2.out; have := HG3.out; omega) (hC g)
        have hb11 := (setRow_other V12 b14 b11 (hC g) (by have := HG.out; have := HG1.out; have := HG2.out; have := HG3.out; omega)).trans HXb11.out
        have hb36 := (setRow_other V12 b14 b36 (hC g) (by have := HG.out; have := HG1.out; have := HG2.out; have := HG3.out; omega)).trans HXb36.out
        have hb15 := (setRow_other V12 b14 b15 (hC g) (by have := HG.out; have := HG1.out; have := HG2.out; have := HG3.out; omega)).trans HXb15.out
        refine rowU (i := 14) rfl rfl (by kernel_rfl) (by kernel_rfl) 28 (.tmp 14) (.tmp 50) rfl b14 (hC g) rfl rfl 28 (hC (fun _ => 0)) HXb14.out (sz_hart _) (by rw [hC_size, hC_size]) (hC_ones _) (⟨hb11, hb36⟩) ?_
        generalize V12.setRow b14 (hC g) = V13 at hn hb hb11 hb36 hb15 ⊢
        clear hT HB HXb11 HXb36 HXb14 HXb15
        have HB : Hid (Bel w V13) := Lib.hid hb
        have HXb11 : Hid (HAt V13 b11 h) := Lib.hid hb11
        have HXb36 : Hid (SlAt V13 b36 #[.int .i64 22, .int .i64 23, .int .i64 32, .int .i64 35, .int .i64 37, .int .i64 31, .int .i64 30, .int .i64 27, .int .i64 24, .int .i64 29, .int .i64 25, .int .i64 26]) := Lib.hid hb36
        have HXb15 : Hid (EfAt V13 b15 e0) := Lib.hid hb15
        have HXb14 : Hid (HAt V13 b14 g) := Lib.hid hn
        clear hn hb hb11 hb36 hb15
        have hT : HAt V13 b11 h ∧ SlAt V13 b36 #[.int .i64 22, .int .i64 23, .int .i64 32, .int .i64 35, .int .i64 37, .int .i64 31, .int .i64 30, .int .i64 27, .int .i64 24, .int .i64 29, .int .i64 25, .int .i64 26] := ⟨HXb11.out, HXb36.out⟩
        have hn := row_same (cs := (eC e0)) HXb15.out
        have hb := row_bel HB.out (g := b15) (by have := HG.out; have := HG1.out; have := HG2.out; have := HG3.out; omega) (eC e0)
        have hb11 := (setRow_other V13 b15 b11 (eC e0) (by have := HG.out; have := HG1.out; have := HG2.out; have := HG3.out; omega)).trans HXb11.out
        have hb36 := (setRow_other V13 b15 b36 (eC e0) (by have := HG.out; have := HG1.out; have := HG2.out; have := HG3.out; omega)).trans HXb36.out
        have hb14 := (setRow_other V13 b15 b14 (eC e0) (by have := HG.out; have := HG1.out; have := HG2.out; have := HG3.out; omega)).trans HXb14.out
        refine rowL rfl rfl (by kernel_rfl) (by kernel_rfl) 34 (.tmp 15) (.tmp 51) rfl b15 (eC e0) rfl rfl 34 (eC e0) HXb15.out (sz_eff _) rfl (eC_ones _) ?_
        generalize V13.setRow b15 (eC e0) = V14 at hn hb hb11 hb36 hb14 ⊢
        clear hT HB HXb11 HXb36 HXb14 HXb15
        have HB : Hid (Bel w V14) := Lib.hid hb
        have HXb11 : Hid (HAt V14 b11 h) := Lib.hid hb11
        have HXb36 : Hid (SlAt V14 b36 #[.int .i64 22, .int .i64 23, .int .i64 32, .int .i64 35, .int .i64 37, .int .i64 31, .int .i64 30, .int .i64 27, .int .i64 24, .int .i64 29, .int .i64 25, .int .i64 26]) := Lib.hid hb36
        have HXb14 : Hid (HAt V14 b14 g) := Lib.hid hb14
        have HXb15 : Hid (EfAt V14 b15 e0) := Lib.hid hn
        clear hn hb hb11 hb36 hb14
        have hT := True.intro
        refine Upto.done (by kernel_rfl) ?_ _
        clear hT
        exact ⟨rfl, b14, b15, rfl, HB.out, HXb11.out, HXb36.out, HXb14.out, HXb15.out, (by have := HG2.out; have := HG3.out; omega), (by have := HG2.out; have := HG3.out; omega), (by have := HG2.out; have := HG3.out; omega)⟩
      ·
        obtain ⟨hb, hx⟩ := box1 V10 (eC e0) 34
        refine stepC 15 (i := 13) rfl rfl (by kernel_rfl) (w' := V10.alloc (.cells (eC e0) 34)) (v := .pointer (some ⟨V10.heap.size, 0, none⟩)) (by kernel_rfl) (⟨HXb11.out.bel hb, HXb36.out.bel hb⟩) ?_
        try simp only [List.setIfInBounds_toArray, List.set_cons_zero, List.set_cons_succ]
        have hl := lt_of_heap HXb36.out
        clear hT
        generalize V10.alloc (.cells (eC e0) 34) = V15 at hb hx ⊢
        generalize V10.heap.size = b15 at hx hl ⊢
        have HG2 := Lib.hid hl
        clear hl
        replace HB : Hid (Bel w V15) := Lib.hid (HB.out.trans hb)
        replace HXb11 : Hid (HAt V15 b11 h) := Lib.hid (HXb11.out.bel hb)
        replace HXb36 : Hid (SlAt V15 b36 #[.int .i64 22, .int .i64 23, .int .i64 32, .int .i64 35, .int .i64 37, .int .i64 31, .int .i64 30, .int .i64 27, .int .i64 24, .int .i64 29, .int .i64 25, .int .i64 26]) := Lib.hid (HXb36.out.bel hb)
        have HXb15 : Hid (EfAt V15 b15 e0) := Lib.hid hx
        clear hb hx
        have hT : HAt V15 b11 h ∧ SlAt V15 b36 #[.int .i64 22, .int .i64 23, .int .i64 32, .int .i64 35, .int .i64 37, .int .i64 31, .int .i64 30, .int .i64 27, .int .i64 24, .int .i64 29, .int .i64 25, .int .i64 26] := ⟨HXb11.out, HXb36.out⟩
        refine Upto.one (i := 12) (by kernel_rfl) ?_
        obtain ⟨hb, hx⟩ := box1 V15 hZ 28
        refine stepC 14 (i := 12) rfl rfl (by kernel_rfl) (w' := V15.alloc (.cells hZ 28)) (v := .pointer (some ⟨V15.heap.size, 0, none⟩)) (by kernel_rfl) (⟨HXb11.out.bel hb, HXb36.out.bel hb⟩) ?_
        try simp only [List.setIfInBounds_toArray, List.set_cons_zero, List.set_cons_succ]
        have hl := lt_of_heap HXb15.out
        clear hT
        generalize V15.alloc (.cells hZ 28) = V16 at hb hx ⊢
        generalize V15.heap.size = b14 at hx hl ⊢
        have HG3 := Lib.hid hl
        clear hl
        replace HB : Hid (Bel w V16) := Lib.hid (HB.out.trans hb)
        replace HXb11 : Hid (HAt V16 b11 h) := Lib.hid (HXb11.out.bel hb)
        replace HXb36 : Hid (SlAt V16 b36 #[.int .i64 22, .int .i64 23, .int .i64 32, .int .i64 35, .int .i64 37, .int .i64 31, .int .i64 30, .int .i64 27, .int .i64 24, .int .i64 29, .int .i64 25, .int .i64 26]) := Lib.hid (HXb36.out.bel hb)
        replace HXb15 : Hid (EfAt V16 b15 e0) := Lib.hid (HXb15.out.bel hb)
        have HXb14 : Hid (HAt V16 b14 (fun _ => 0)) := Lib.hid hx
        clear hb hx
        have hT : HAt V16 b11 h ∧ SlAt V16 b36 #[.int .i64 22, .int .i64 23, .int .i64 32, .int .i64 35, .int .i64 37, .int .i64 31, .int .i64 30, .int .i64 27, .int .i64 24, .int .i64 29, .int .i64 25, .int .i64 26] := ⟨HXb11.out, HXb36.out⟩
        have hn := row_same (cs := (hC g)) HXb14.out
        have hb := row_bel HB.out (g := b14) (by have := HG.out; have := HG1.out; have := HG2.out; have := HG3.out; omega) (hC g)
        have hb11 := (setRow_other V16 b14 b11 (hC g) (by have := HG.out; have := HG1.out; have := HG2.out; have := HG3.out; omega)).trans HXb11.out
        have hb36 := (setRow_other V16 b14 b36 (hC g) (by have := HG.out; have := HG1.out; have := HG2.out; have := HG3.out; omega)).trans HXb36.out
        have hb15 := (setRow_other V16 b14 b15 (hC g) (by have := HG.out; have := HG1.out; have := HG2.out; have := HG3.out; omega)).trans HXb15.out
        refine rowU (i := 14) rfl rfl (by kernel_rfl) (by kernel_rfl) 28 (.tmp 14) (.tmp 50) rfl b14 (hC g) rfl rfl 28 (hC (fun _ => 0)) HXb14.out (sz_hart _) (by rw [hC_size, hC_size]) (hC_ones _) (⟨hb11, hb36⟩) ?_
        generalize V16.setRow b14 (hC g) = V17 at hn hb hb11 hb36 hb15 ⊢
        clear hT HB HXb11 HXb36 HXb15 HXb14
        have HB : Hid (Bel w V17) := Lib.hid hb
        have HXb11 : Hid (HAt V17 b11 h) := Lib.hid hb11
        have HXb36 : Hid (SlAt V17 b36 #[.int .i64 22, .int .i64 23, .int .i64 32, .int .i64 35, .int .i64 37, .int .i64 31, .int .i64 30, .int .i64 27, .int .i64 24, .int .i64 29, .int .i64 25, .int .i64 26]) := Lib.hid hb36
        have HXb15 : Hid (EfAt V17 b15 e0) := Lib.hid hb15
        have HXb14 : Hid (HAt V17 b14 g) := Lib.hid hn
        clear hn hb hb11 hb36 hb15
        have hT : HAt V17 b11 h ∧ SlAt V17 b36 #[.int .i64 22, .int .i64 23, .int .i64 32, .int .i64 35, .int .i64 37, .int .i64 31, .int .i64 30, .int .i64 27, .int .i64 24, .int .i64 29, .int .i64 25, .int .i64 26] := ⟨HXb11.out, HXb36.out⟩
        have hn := row_same (cs := (eC e0)) HXb15.out
        have hb := row_bel HB.out (g := b15) (by have := HG.out; have := HG1.out; have := HG2.out; have := HG3.out; omega) (eC e0)
        have hb11 := (setRow_other V17 b15 b11 (eC e0) (by have := HG.out; have := HG1.out; have := HG2.out; have := HG3.out; omega)).trans HXb11.out
        have hb36 := (setRow_other V17 b15 b36 (eC e0) (by have := HG.out; have := HG1.out; have := HG2.out; have := HG3.out; omega)).trans HXb36.out
        have hb14 := (setRow_other V17 b15 b14 (eC e0) (by have := HG.out; have := HG1.out; have := HG2.out; have := HG3.out; omega)).trans HXb14.out
        refine rowL rfl rfl (by kernel_rfl) (by kernel_rfl) 34 (.tmp 15) (.tmp 51) rfl b15 (eC e0) rfl rfl 34 (eC e0) HXb15.out (sz_eff _) rfl (eC_ones _) ?_
        generalize V17.setRow b15 (eC e0) = V18 at hn hb hb11 hb36 hb14 ⊢
        clear hT HB HXb11 HXb36 HXb15 HXb14
        have HB : Hid (Bel w V18) := Lib.hid hb
        have HXb11 : Hid (HAt V18 b11 h) := Lib.hid hb11
        have HXb36 : Hid (SlAt V18 b36 #[.int .i64 22, .int .i64 23, .int .i64 32, .int .i64 35, .int .i64 37, .int .i64 31, .int .i64 30, .int .i64 27, .int .i64 24, .int .i64 29, .int .i64 25, .int .i64 26]) := Lib.hid hb36
        have HXb14 : Hid (HAt V18 b14 g) := Lib.hid hb14
        have HXb15 : Hid (EfAt V18 b15 e0) := Lib.hid hn
        clear hn hb hb11 hb36 hb14
        have hT := True.intro
        refine Upto.done (by kernel_rfl) ?_ _
        clear hT
        exact ⟨rfl, b14, b15, rfl, HB.out, HXb11.out, HXb36.out, HXb14.out, HXb15.out, (by have := HG2.out; have := HG3.out; omega), (by have := HG2.out; have := HG3.out; omega), (by have := HG2.out; have := HG3.out; omega)⟩
    ·
      obtain ⟨hb, hx⟩ := box1 V9 hZ 28
      refine stepC 14 (i := 12) rfl rfl (by kernel_rfl) (w' := V9.alloc (.cells hZ 28)) (v := .pointer (some ⟨V9.heap.size, 0, none⟩)) (by kernel_rfl) (⟨HXb11.out.bel hb, HXb36.out.bel hb⟩) ?_
      try simp only [List.setIfInBounds_toArray, List.set_cons_zero, List.set_cons_succ]
      have hl := lt_of_heap HXb36.out
      clear hT
      generalize V9.alloc (.cells hZ 28) = V19 at hb hx ⊢
      generalize V9.heap.size = b14 at hx hl ⊢
      have HG2 := Lib.hid hl
      clear hl
      replace HB : Hid (Bel w V19) := Lib.hid (HB.out.trans hb)
      replace HXb11 : Hid (HAt V19 b11 h) := Lib.hid (HXb11.out.bel hb)
      replace HXb36 : Hid (SlAt V19 b36 #[.int .i64 22, .int .i64 23, .int .i64 32, .int .i64 35, .int .i64 37, .int .i64 31, .int .i64 30, .int .i64 27, .int .i64 24, .int .i64 29, .int .i64 25, .int .i64 26]) := Lib.hid (HXb36.out.bel hb)
      have HXb14 : Hid (HAt V19 b14 (fun _ => 0)) := Lib.hid hx
      clear hb hx
      have hT : HAt V19 b11 h ∧ SlAt V19 b36 #[.int .i64 22, .int .i64 23, .int .i64 32, .int .i64 35, .int .i64 37, .int .i64 31, .int .i64 30, .int .i64 27, .int .i64 24, .int .i64 29, .int .i64 25, .int .i64 26] := ⟨HXb11.out, HXb36.out⟩
      refine Upto.two (i := 8) (j := 13) (by kernel_rfl) ?_ ?_
      ·
        refine callC 49 (i := 8) rfl rfl (by kernel_rfl) (f := 16) (args := #[hv h, .int .i64 0, iv lo (kk : Int) 3 4 0]) (v := .tuple #[hv g, .agg (eC e0)]) (by kernel_rfl) (st HO HB.out (wf5 Wl.out WK.out W3.out W4.out W0_.out) S1.out) (fun w' hb => ⟨HXb11.out.bel hb, HXb36.out.bel hb⟩) ?_
        intro V20 hb
        try simp only [List.setIfInBounds_toArray, List.set_cons_zero, List.set_cons_succ]
        replace HB : Hid (Bel w V20) := Lib.hid (HB.out.trans hb)
        replace HXb11 : Hid (HAt V20 b11 h) := Lib.hid (HXb11.out.bel hb)
        replace HXb36 : Hid (SlAt V20 b36 #[.int .i64 22, .int .i64 23, .int .i64 32, .int .i64 35, .int .i64 37, .int .i64 31, .int .i64 30, .int .i64 27, .int .i64 24, .int .i64 29, .int .i64 25, .int .i64 26]) := Lib.hid (HXb36.out.bel hb)
        replace HXb14 : Hid (HAt V20 b14 (fun _ => 0)) := Lib.hid (HXb14.out.bel hb)
        clear hb hT
        have hT : HAt V20 b11 h ∧ SlAt V20 b36 #[.int .i64 22, .int .i64 23, .int .i64 32, .int .i64 35, .int .i64 37, .int .i64 31, .int .i64 30, .int .i64 27, .int .i64 24, .int .i64 29, .int .i64 25, .int .i64 26] := ⟨HXb11.out, HXb36.out⟩
        refine takeU 40 (i := 9) (v := .tuple #[hv g, .agg (eC e0)]) rfl rfl rfl (by kernel_rfl) (by kernel_rfl) (by kernel_rfl) (by kernel_rfl) (fun _ _ _ h => nomatch h.1) (by kernel_rfl) (fun w0 hS => rfl) hT ?_
        try simp only [List.setIfInBounds_toArray, List.set_cons_zero, List.set_cons_succ]
        refine takeU 50 (i := 10) (v := hv g) rfl rfl rfl (by kernel_rfl) (by kernel_rfl) (by kernel_rfl) (by kernel_rfl) (fun _ _ _ h => nomatch h.1) (by kernel_rfl) (fun w0 hS => rfl) hT ?_
        try simp only [List.setIfInBounds_toArray, List.set_cons_zero, List.set_cons_succ]
        refine takeU 51 (i := 11) (v := .agg (eC e0)) rfl rfl rfl (by kernel_rfl) (by kernel_rfl) (by kernel_rfl) (by kernel_rfl) (fun _ _ _ h => nomatch h.1) (by kernel_rfl) (fun w0 hS => rfl) hT ?_
        try simp only [List.setIfInBounds_toArray, List.set_cons_zero, List.set_cons_succ]
        refine Upto.one (i := 13) (by kernel_rfl) ?_
        obtain ⟨hb, hx⟩ := box1 V20 (eC e0) 34
        refine stepC 15 (i := 13) rfl rfl (by kernel_rfl) (w' := V20.alloc (.cells (eC e0) 34)) (v := .pointer (some ⟨V20.heap.size, 0, none⟩)) (by kernel_rfl) (⟨HXb11.out.bel hb, HXb36.out.bel hb⟩) ?_
        try simp only [List.setIfInBounds_toArray, List.set_cons_zero, List.set_cons_succ]
        have hl := lt_of_heap HXb14.out
        clear hT
        generalize V20.alloc (.cells (eC e0) 34) = V21 at hb hx ⊢
        generalize V20.heap.size = b15 at hx hl ⊢
        have HG3 := Lib.hid hl
        clear hl
        replace HB : Hid (Bel w V21) := Lib.hid (HB.out.trans hb)
        replace HXb11 : Hid (HAt V21 b11 h) := Lib.hid (HXb11.out.bel hb)
        replace HXb36 : Hid (SlAt V21 b36 #[.int .i64 22, .int .i64 23, .int .i64 32, .int .i64 35, .int .i64 37, .int .i64 31, .int .i64 30, .int .i64 27, .int .i64 24, .int .i64 29, .int .i64 25, .int .i64 26]) := Lib.hid (HXb36.out.bel hb)
        replace HXb14 : Hid (HAt V21 b14 (fun _ => 0)) := Lib.hid (HXb14.out.bel hb)
        have HXb15 : Hid (EfAt V21 b15 e0) := Lib.hid hx
        clear hb hx
        have hT : HAt V21 b11 h ∧ SlAt V21 b36 #[.int .i64 22, .int .i64 23, .int .i64 32, .int .i64 35, .int .i64 37, .int .i64 31, .int .i64 30, .int .i64 27, .int .i64 24, .int .i64 29, .int .i64 25, .int .i64 26] := ⟨HXb11.out, HXb36.out⟩
        have hn := row_same (cs := (hC g)) HXb14.out
        have hb := row_bel HB.out (g := b14) (by have := HG.out; have := HG1.out; have := HG2.out; have := HG3.out; omega) (hC g)
        have hb11 := (setRow_other V21 b14 b11 (hC g) (by have := HG.out; have := HG1.out; have := HG2.out; have := HG3.out; omega)).trans HXb11.out
        have hb36 := (setRow_other V21 b14 b36 (hC g) (by have := HG.out; have := HG1.out; have := HG2.out; have := HG3.out; omega)).trans HXb36.out
        have hb15 := (setRow_other V21 b14 b15 (hC g) (by have := HG.out; have := HG1.out; have := HG2.out; have := HG3.out; omega)).trans HXb15.out
        refine rowU (i := 14) rfl rfl (by kernel_rfl) (by kernel_rfl) 28 (.tmp 14) (.tmp 50) rfl b14 (hC g) rfl rfl 28 (hC (fun _ => 0)) HXb14.out (sz_hart _) (by rw [hC_size, hC_size]) (hC_ones _) (⟨hb11, hb36⟩) ?_
        generalize V21.setRow b14 (hC g) = V22 at hn hb hb11 hb36 hb15 ⊢
        clear hT HB HXb11 HXb36 HXb14 HXb15
        have HB : Hid (Bel w V22) := Lib.hid hb
        have HXb11 : Hid (HAt V22 b11 h) := Lib.hid hb11
        have HXb36 : Hid (SlAt V22 b36 #[.int .i64 22, .int .i64 23, .int .i64 32, .int .i64 35, .int .i64 37, .int .i64 31, .int .i64 30, .int .i64 27, .int .i64 24, .int .i64 29, .int .i64 25, .int .i64 26]) := Lib.hid hb36
        have HXb15 : Hid (EfAt V22 b15 e0) := Lib.hid hb15
        have HXb14 : Hid (HAt V22 b14 g) := Lib.hid hn
        clear hn hb hb11 hb36 hb15
        have hT : HAt V22 b11 h ∧ SlAt V22 b36 #[.int .i64 22, .int .i64 23, .int .i64 32, .int .i64 35, .int .i64 37, .int .i64 31, .int .i64 30, .int .i64 27, .int .i64 24, .int .i64 29, .int .i64 25, .int .i64 26] := ⟨HXb11.out, HXb36.out⟩
        have hn := row_same (cs := (eC e0)) HXb15.out
        have hb := row_bel HB.out (g := b15) (by have := HG.out; have := HG1.out; have := HG2.out; have := HG3.out; omega) (eC e0)
        have hb11 := (setRow_other V22 b15 b11 (eC e0) (by have := HG.out; have := HG1.out; have := HG2.out; have := HG3.out; omega)).trans HXb11.out
        have hb36 := (setRow_other V22 b15 b36 (eC e0) (by have := HG.out; have := HG1.out; have := HG2.out; have := HG3.out; omega)).trans HXb36.out
        have hb14 := (setRow_other V22 b15 b14 (eC e0) (by have := HG.out; have := HG1.out; have := HG2.out; have := HG3.out; omega)).trans HXb14.out
        refine rowL rfl rfl (by kernel_rfl) (by kernel_rfl) 34 (.tmp 15) (.tmp 51) rfl b15 (eC e0) rfl rfl 34 (eC e0) HXb15.out (sz_eff _) rfl (eC_ones _) ?_
        generalize V22.setRow b15 (eC e0) = V23 at hn hb hb11 hb36 hb14 ⊢
        clear hT HB HXb11 HXb36 HXb14 HXb15
        have HB : Hid (Bel w V23) := Lib.hid hb
        have HXb11 : Hid (HAt V23 b11 h) := Lib.hid hb11
        have HXb36 : Hid (SlAt V23 b36 #[.int .i64 22, .int .i64 23, .int .i64 32, .int .i64 35, .int .i64 37, .int .i64 31, .int .i64 30, .int .i64 27, .int .i64 24, .int .i64 29, .int .i64 25, .int .i64 26]) := Lib.hid hb36
        have HXb14 : Hid (HAt V23 b14 g) := Lib.hid hb14
        have HXb15 : Hid (EfAt V23 b15 e0) := Lib.hid hn
        clear hn hb hb11 hb36 hb14
        have hT := True.intro
        refine Upto.done (by kernel_rfl) ?_ _
        clear hT
        exact ⟨rfl, b14, b15, rfl, HB.out, HXb11.out, HXb36.out, HXb14.out, HXb15.out, (by have := HG2.out; have := HG3.out; omega), (by have := HG2.out; have := HG3.out; omega), (by have := HG2.out; have := HG3.out; omega)⟩
      ·
        obtain ⟨hb, hx⟩ := box1 V19 (eC e0) 34
        refine stepC 15 (i := 13) rfl rfl (by kernel_rfl) (w' := V19.alloc (.cells (eC e0) 34)) (v := .pointer (some ⟨V19.heap.size, 0, none⟩)) (by kernel_rfl) (⟨HXb11.out.bel hb, HXb36.out.bel hb⟩) ?_
        try simp only [List.setIfInBounds_toArray, List.set_cons_zero, List.set_cons_succ]
        have hl := lt_of_heap HXb14.out
        clear hT
        generalize V19.alloc (.cells (eC e0) 34) = V24 at hb hx ⊢
        generalize V19.heap.size = b15 at hx hl ⊢
        have HG3 := Lib.hid hl
        clear hl
        replace HB : Hid (Bel w V24) := Lib.hid (HB.out.trans hb)
        replace HXb11 : Hid (HAt V24 b11 h) := Lib.hid (HXb11.out.bel hb)
        replace HXb36 : Hid (SlAt V24 b36 #[.int .i64 22, .int .i64 23, .int .i64 32, .int .i64 35, .int .i64 37, .int .i64 31, .int .i64 30, .int .i64 27, .int .i64 24, .int .i64 29, .int .i64 25, .int .i64 26]) := Lib.hid (HXb36.out.bel hb)
        replace HXb14 : Hid (HAt V24 b14 (fun _ => 0)) := Lib.hid (HXb14.out.bel hb)
        have HXb15 : Hid (EfAt V24 b15 e0) := Lib.hid hx
        clear hb hx
        have hT : HAt V24 b11 h ∧ SlAt V24 b36 #[.int .i64 22, .int .i64 23, .int .i64 32, .int .i64 35, .int .i64 37, .int .i64 31, .int .i64 30, .int .i64 27, .int .i64 24, .int .i64 29, .int .i64 25, .int .i64 26] := ⟨HXb11.out, HXb36.out⟩
        refine Upto.one (i := 8) (by kernel_rfl) ?_
        refine callC 49 (i := 8) rfl rfl (by kernel_rfl) (f := 16) (args := #[hv h, .int .i64 0, iv lo (kk : Int) 3 4 0]) (v := .tuple #[hv g, .agg (eC e0)]) (by kernel_rfl) (st HO HB.out (wf5 Wl.out WK.out W3.out W4.out W0_.out) S1.out) (fun w' hb => ⟨HXb11.out.bel hb, HXb36.out.bel hb⟩) ?_
        intro V25 hb
        try simp only [List.setIfInBounds_toArray, List.set_cons_zero, List.set_cons_succ]
        replace HB : Hid (Bel w V25) := Lib.hid (HB.out.trans hb)
        replace HXb11 : Hid (HAt V25 b11 h) := Lib.hid (HXb11.out.bel hb)
        replace HXb36 : Hid (SlAt V25 b36 #[.int .i64 22, .int .i64 23, .int .i64 32, .int .i64 35, .int .i64 37, .int .i64 31, .int .i64 30, .int .i64 27, .int .i64 24, .int .i64 29, .int .i64 25, .int .i64 26]) := Lib.hid (HXb36.out.bel hb)
        replace HXb14 : Hid (HAt V25 b14 (fun _ => 0)) := Lib.hid (HXb14.out.bel hb)
        replace HXb15 : Hid (EfAt V25 b15 e0) := Lib.hid (HXb15.out.bel hb)
        clear hb hT
        have hT : HAt V25 b11 h ∧ SlAt V25 b36 #[.int .i64 22, .int .i64 23, .int .i64 32, .int .i64 35, .int .i64 37, .int .i64 31, .int .i64 30, .int .i64 27, .int .i64 24, .int .i64 29, .int .i64 25, .int .i64 26] := ⟨HXb11.out, HXb36.out⟩
        refine takeU 40 (i := 9) (v := .tuple #[hv g, .agg (eC e0)]) rfl rfl rfl (by kernel_rfl) (by kernel_rfl) (by kernel_rfl) (by kernel_rfl) (fun _ _ _ h => nomatch h.1) (by kernel_rfl) (fun w0 hS => rfl) hT ?_
        try simp only [List.setIfInBounds_toArray, List.set_cons_zero, List.set_cons_succ]
        refine takeU 50 (i := 10) (v := hv g) rfl rfl rfl (by kernel_rfl) (by kernel_rfl) (by kernel_rfl) (by kernel_rfl) (fun _ _ _ h => nomatch h.1) (by kernel_rfl) (fun w0 hS => rfl) hT ?_
        try simp only [List.setIfInBounds_toArray, List.set_cons_zero, List.set_cons_succ]
        refine takeU 51 (i := 11) (v := .agg (eC e0)) rfl rfl rfl (by kernel_rfl) (by kernel_rfl) (by kernel_rfl) (by kernel_rfl) (fun _ _ _ h => nomatch h.1) (by kernel_rfl) (fun w0 hS => rfl) hT ?_
        try simp only [List.setIfInBounds_toArray, List.set_cons_zero, List.set_cons_succ]
        have hn := row_same (cs := (hC g)) HXb14.out
        have hb := row_bel HB.out (g := b14) (by have := HG.out; have := HG1.out; have := HG2.out; have := HG3.out; omega) (hC g)
        have hb11 := (setRow_other V25 b14 b11 (hC g) (by have := HG.out; have := HG1.out; have := HG2.out; have := HG3.out; omega)).trans HXb11.out
        have hb36 := (setRow_other V25 b14 b36 (hC g) (by have := HG.out; have := HG1.out; have := HG2.out; have := HG3.out; omega)).trans HXb36.out
        have hb15 := (setRow_other V25 b14 b15 (hC g) (by have := HG.out; have := HG1.out; have := HG2.out; have := HG3.out; omega)).trans HXb15.out
        refine rowU (i := 14) rfl rfl (by kernel_rfl) (by kernel_rfl) 28 (.tmp 14) (.tmp 50) rfl b14 (hC g) rfl rfl 28 (hC (fun _ => 0)) HXb14.out (sz_hart _) (by rw [hC_size, hC_size]) (hC_ones _) (⟨hb11, hb36⟩) ?_
        generalize V25.setRow b14 (hC g) = V26 at hn hb hb11 hb36 hb15 ⊢
        clear hT HB HXb11 HXb36 HXb14 HXb15
        have HB : Hid (Bel w V26) := Lib.hid hb
        have HXb11 : Hid (HAt V26 b11 h) := Lib.hid hb11
        have HXb36 : Hid (SlAt V26 b36 #[.int .i64 22, .int .i64 23, .int .i64 32, .int .i64 35, .int .i64 37, .int .i64 31, .int .i64 30, .int .i64 27, .int .i64 24, .int .i64 29, .int .i64 25, .int .i64 26]) := Lib.hid hb36
        have HXb15 : Hid (EfAt V26 b15 e0) := Lib.hid hb15
        have HXb14 : Hid (HAt V26 b14 g) := Lib.hid hn
        clear hn hb hb11 hb36 hb15
        have hT : HAt V26 b11 h ∧ SlAt V26 b36 #[.int .i64 22, .int .i64 23, .int .i64 32, .int .i64 35, .int .i64 37, .int .i64 31, .int .i64 30, .int .i64 27, .int .i64 24, .int .i64 29, .int .i64 25, .int .i64 26] := ⟨HXb11.out, HXb36.out⟩
        have hn := row_same (cs := (eC e0)) HXb15.out
        have hb := row_bel HB.out (g := b15) (by have := HG.out; have := HG1.out; have := HG2.out; have := HG3.out; omega) (eC e0)
        have hb11 := (setRow_other V26 b15 b11 (eC e0) (by have := HG.out; have := HG1.out; have := HG2.out; have := HG3.out; omega)).trans HXb11.out
        have hb36 := (setRow_other V26 b15 b36 (eC e0) (by have := HG.out; have := HG1.out; have := HG2.out; have := HG3.out; omega)).trans HXb36.out
        have hb14 := (setRow_other V26 b15 b14 (eC e0) (by have := HG.out; have := HG1.out; have := HG2.out; have := HG3.out; omega)).trans HXb14.out
        refine rowL rfl rfl (by kernel_rfl) (by kernel_rfl) 34 (.tmp 15) (.tmp 51) rfl b15 (eC e0) rfl rfl 34 (eC e0) HXb15.out (sz_eff _) rfl (eC_ones _) ?_
        generalize V26.setRow b15 (eC e0) = V27 at hn hb hb11 hb36 hb14 ⊢
        clear hT HB HXb11 HXb36 HXb14 HXb15
        have HB : Hid (Bel w V27) := Lib.hid hb
        have HXb11 : Hid (HAt V27 b11 h) := Lib.hid hb11
        have HXb36 : Hid (SlAt V27 b36 #[.int .i64 22, .int .i64 23, .int .i64 32, .int .i64 35, .int .i64 37, .int .i64 31, .int .i64 30, .int .i64 27, .int .i64 24, .int .i64 29, .int .i64 25, .int .i64 26]) := Lib.hid hb36
        have HXb14 : Hid (HAt V27 b14 g) := Lib.hid hb14
        have HXb15 : Hid (EfAt V27 b15 e0) := Lib.hid hn
        clear hn hb hb11 hb36 hb14
        have hT := True.intro
        refine Upto.done (by kernel_rfl) ?_ _
        clear hT
        exact ⟨rfl, b14, b15, rfl, HB.out, HXb11.out, HXb36.out, HXb14.out, HXb15.out, (by have := HG2.out; have := HG3.out; omega), (by have := HG2.out; have := HG3.out; omega), (by have := HG2.out; have := HG3.out; omega)⟩
    ·
      obtain ⟨hb, hx⟩ := box1 V9 (eC e0) 34
      refine stepC 15 (i := 13) rfl rfl (by kernel_rfl) (w' := V9.alloc (.cells (eC e0) 34)) (v := .pointer (some ⟨V9.heap.size, 0, none⟩)) (by kernel_rfl) (⟨HXb11.out.bel hb, HXb36.out.bel hb⟩) ?_
      try simp only [List.setIfInBounds_toArray, List.set_cons_zero, List.set_cons_succ]
      have hl := lt_of_heap HXb36.out
      clear hT
      generalize V9.alloc (.cells (eC e0) 34) = V28 at hb hx ⊢
      generalize V9.heap.size = b15 at hx hl ⊢
      have HG2 := Lib.hid hl
      clear hl
      replace HB : Hid (Bel w V28) := Lib.hid (HB.out.trans hb)
      replace HXb11 : Hid (HAt V28 b11 h) := Lib.hid (HXb11.out.bel hb)
      replace HXb36 : Hid (SlAt V28 b36 #[.int .i64 22, .int .i64 23, .int .i64 32, .int .i64 35, .int .i64 37, .int .i64 31, .int .i64 30, .int .i64 27, .int .i64 24, .int .i64 29, .int .i64 25, .int .i64 26]) := Lib.hid (HXb36.out.bel hb)
      have HXb15 : Hid (EfAt V28 b15 e0) := Lib.hid hx
      clear hb hx
      have hT : HAt V28 b11 h ∧ SlAt V28 b36 #[.int .i64 22, .int .i64 23, .int .i64 32, .int .i64 35, .int .i64 37, .int .i64 31, .int .i64 30, .int .i64 27, .int .i64 24, .int .i64 29, .int .i64 25, .int .i64 26] := ⟨HXb11.out, HXb36.out⟩
      refine Upto.two (i := 8) (j := 12) (by kernel_rfl) ?_ ?_
      ·
        refine callC 49 (i := 8) rfl rfl (by kernel_rfl) (f := 16) (args := #[hv h, .int .i64 0, iv lo (kk : Int) 3 4 0]) (v := .tuple #[hv g, .agg (eC e0)]) (by kernel_rfl) (st HO HB.out (wf5 Wl.out WK.out W3.out W4.out W0_.out) S1.out) (fun w' hb => ⟨HXb11.out.bel hb, HXb36.out.bel hb⟩) ?_
        intro V29 hb
        try simp only [List.setIfInBounds_toArray, List.set_cons_zero, List.set_cons_succ]
        replace HB : Hid (Bel w V29) := Lib.hid (HB.out.trans hb)
        replace HXb11 : Hid (HAt V29 b11 h) := Lib.hid (HXb11.out.bel hb)
        replace HXb36 : Hid (SlAt V29 b36 #[.int .i64 22, .int .i64 23, .int .i64 32, .int .i64 35, .int .i64 37, .int .i64 31, .int .i64 30, .int .i64 27, .int .i64 24, .int .i64 29, .int .i64 25, .int .i64 26]) := Lib.hid (HXb36.out.bel hb)
        replace HXb15 : Hid (EfAt V29 b15 e0) := Lib.hid (HXb15.out.bel hb)
        clear hb hT
        have hT : HAt V29 b11 h ∧ SlAt V29 b36 #[.int .i64 22, .int .i64 23, .int .i64 32, .int .i64 35, .int .i64 37, .int .i64 31, .int .i64 30, .int .i64 27, .int .i64 24, .int .i64 29, .int .i64 25, .int .i64 26] := ⟨HXb11.out, HXb36.out⟩
        refine takeU 40 (i := 9) (v := .tuple #[hv g, .agg (eC e0)]) rfl rfl rfl (by kernel_rfl) (by kernel_rfl) (by kernel_rfl) (by kernel_rfl) (fun _ _ _ h => nomatch h.1) (by kernel_rfl) (fun w0 hS => rfl) hT ?_
        try simp only [List.setIfInBounds_toArray, List.set_cons_zero, List.set_cons_succ]
        refine takeU 50 (i := 10) (v := hv g) rfl rfl rfl (by kernel_rfl) (by kernel_rfl) (by kernel_rfl) (by kernel_rfl) (fun _ _ _ h => nomatch h.1) (by kernel_rfl) (fun w0 hS => rfl) hT ?_
        try simp only [List.setIfInBounds_toArray, List.set_cons_zero, List.set_cons_succ]
        refine takeU 51 (i := 11) (v := .agg (eC e0)) rfl rfl rfl (by kernel_rfl) (by kernel_rfl) (by kernel_rfl) (by kernel_rfl) (fun _ _ _ h => nomatch h.1) (by kernel_rfl) (fun w0 hS => rfl) hT ?_
        try simp only [List.setIfInBounds_toArray, List.set_cons_zero, List.set_cons_succ]
        refine Upto.one (i := 12) (by kernel_rfl) ?_
        obtain ⟨hb, hx⟩ := box1 V29 hZ 28
        refine stepC 14 (i := 12) rfl rfl (by kernel_rfl) (w' := V29.alloc (.cells hZ 28)) (v := .pointer (some ⟨V29.heap.size, 0, none⟩)) (by kernel_rfl) (⟨HXb11.out.bel hb, HXb36.out.bel hb⟩) ?_
        try simp only [List.setIfInBounds_toArray, List.set_cons_zero, List.set_cons_succ]
        have hl := lt_of_heap HXb15.out
        clear hT
        generalize V29.alloc (.cells hZ 28) = V30 at hb hx ⊢
        generalize V29.heap.size = b14 at hx hl ⊢
        have HG3 := Lib.hid hl
        clear hl
        replace HB : Hid (Bel w V30) := Lib.hid (HB.out.trans hb)
        replace HXb11 : Hid (HAt V30 b11 h) := Lib.hid (HXb11.out.bel hb)
        replace HXb36 : Hid (SlAt V30 b36 #[.int .i64 22, .int .i64 23, .int .i64 32, .int .i64 35, .int .i64 37, .int .i64 31, .int .i64 30, .int .i64 27, .int .i64 24, .int .i64 29, .int .i64 25, .int .i64 26]) := Lib.hid (HXb36.out.bel hb)
        replace HXb15 : Hid (EfAt V30 b15 e0) := Lib.hid (HXb15.out.bel hb)
        have HXb14 : Hid (HAt V30 b14 (fun _ => 0)) := Lib.hid hx
        clear hb hx
        have hT : HAt V30 b11 h ∧ SlAt V30 b36 #[.int .i64 22, .int .i64 23, .int .i64 32, .int .i64 35, .int .i64 37, .int .i64 31, .int .i64 30, .int .i64 27, .int .i64 24, .int .i64 29, .int .i64 25, .int .i64 26] := ⟨HXb11.out, HXb36.out⟩
        have hn := row_same (cs := (hC g)) HXb14.out
        have hb := row_bel HB.out (g := b14) (by have := HG.out; have := HG1.out; have := HG2.out; have := HG3.out; omega) (hC g)
        have hb11 := (setRow_other V30 b14 b11 (hC g) (by have := HG.out; have := HG1.out; have := HG2.out; have := HG3.out; omega)).trans HXb11.out
        have hb36 := (setRow_other V30 b14 b36 (hC g) (by have := HG.out; have := HG1.out; have := HG2.out; have := HG3.out; omega)).trans HXb36.out
        have hb15 := (setRow_other V30 b14 b15 (hC g) (by have := HG.out; have := HG1.out; have := HG2.out; have := HG3.out; omega)).trans HXb15.out
        refine rowU (i := 14) rfl rfl (by kernel_rfl) (by kernel_rfl) 28 (.tmp 14) (.tmp 50) rfl b14 (hC g) rfl rfl 28 (hC (fun _ => 0)) HXb14.out (sz_hart _) (by rw [hC_size, hC_size]) (hC_ones _) (⟨hb11, hb36⟩) ?_
        generalize V30.setRow b14 (hC g) = V31 at hn hb hb11 hb36 hb15 ⊢
        clear hT HB HXb11 HXb36 HXb15 HXb14
        have HB : Hid (Bel w V31) := Lib.hid hb
        have HXb11 : Hid (HAt V31 b11 h) := Lib.hid hb11
        have HXb36 : Hid (SlAt V31 b36 #[.int .i64 22, .int .i64 23, .int .i64 32, .int .i64 35, .int .i64 37, .int .i64 31, .int .i64 30, .int .i64 27, .int .i64 24, .int .i64 29, .int .i64 25, .int .i64 26]) := Lib.hid hb36
        have HXb15 : Hid (EfAt V31 b15 e0) := Lib.hid hb15
        have HXb14 : Hid (HAt V31 b14 g) := Lib.hid hn
        clear hn hb hb11 hb36 hb15
        have hT : HAt V31 b11 h ∧ SlAt V31 b36 #[.int .i64 22, .int .i64 23, .int .i64 32, .int .i64 35, .int .i64 37, .int .i64 31, .int .i64 30, .int .i64 27, .int .i64 24, .int .i64 29, .int .i64 25, .int .i64 26] := ⟨HXb11.out, HXb36.out⟩
        have hn := row_same (cs := (eC e0)) HXb15.out
        have hb := row_bel HB.out (g := b15) (by have := HG.out; have := HG1.out; have := HG2.out; have := HG3.out; omega) (eC e0)
        have hb11 := (setRow_other V31 b15 b11 (eC e0) (by have := HG.out; have := HG1.out; have := HG2.out; have := HG3.out; omega)).trans HXb11.out
        have hb36 := (setRow_other V31 b15 b36 (eC e0) (by have := HG.out; have := HG1.out; have := HG2.out; have := HG3.out; omega)).trans HXb36.out
        have hb14 := (setRow_other V31 b15 b14 (eC e0) (by have := HG.out; have := HG1.out; have := HG2.out; have := HG3.out; omega)).trans HXb14.out
        refine rowL rfl rfl (by kernel_rfl) (by kernel_rfl) 34 (.tmp 15) (.tmp 51) rfl b15 (eC e0) rfl rfl 34 (eC e0) HXb15.out (sz_eff _) rfl (eC_ones _) ?_
        generalize V31.setRow b15 (eC e0) = V32 at hn hb hb11 hb36 hb14 ⊢
        clear hT HB HXb11 HXb36 HXb15 HXb14
        have HB : Hid (Bel w V32) := Lib.hid hb
        have HXb11 : Hid (HAt V32 b11 h) := Lib.hid hb11
        have HXb36 : Hid (SlAt V32 b36 #[.int .i64 22, .int .i64 23, .int .i64 32, .int .i64 35, .int .i64 37, .int .i64 31, .int .i64 30, .int .i64 27, .int .i64 24, .int .i64 29, .int .i64 25, .int .i64 26]) := Lib.hid hb36
        have HXb14 : Hid (HAt V32 b14 g) := Lib.hid hb14
        have HXb15 : Hid (EfAt V32 b15 e0) := Lib.hid hn
        clear hn hb hb11 hb36 hb14
        have hT := True.intro
        refine Upto.done (by kernel_rfl) ?_ _
        clear hT
        exact ⟨rfl, b14, b15, rfl, HB.out, HXb11.out, HXb36.out, HXb14.out, HXb15.out, (by have := HG2.out; have := HG3.out; omega), (by have := HG2.out; have := HG3.out; omega), (by have := HG2.out; have := HG3.out; omega)⟩
      ·
        obtain ⟨hb, hx⟩ := box1 V28 hZ 28
        refine stepC 14 (i := 12) rfl rfl (by kernel_rfl) (w' := V28.alloc (.cells hZ 28)) (v := .pointer (some ⟨V28.heap.size, 0, none⟩)) (by kernel_rfl) (⟨HXb11.out.bel hb, HXb36.out.bel hb⟩) ?_
        try simp only [List.setIfInBounds_toArray, List.set_cons_zero, List.set_cons_succ]
        have hl := lt_of_heap HXb15.out
        clear hT
        generalize V28.alloc (.cells hZ 28) = V33 at hb hx ⊢
        generalize V28.heap.size = b14 at hx hl ⊢
        have HG3 := Lib.hid hl
        clear hl
        replace HB : Hid (Bel w V33) := Lib.hid (HB.out.trans hb)
        replace HXb11 : Hid (HAt V33 b11 h) := Lib.hid (HXb11.out.bel hb)
        replace HXb36 : Hid (SlAt V33 b36 #[.int .i64 22, .int .i64 23, .int .i64 32, .int .i64 35, .int .i64 37, .int .i64 31, .int .i64 30, .int .i64 27, .int .i64 24, .int .i64 29, .int .i64 25, .int .i64 26]) := Lib.hid (HXb36.out.bel hb)
        replace HXb15 : Hid (EfAt V33 b15 e0) := Lib.hid (HXb15.out.bel hb)
        have HXb14 : Hid (HAt V33 b14 (fun _ => 0)) := Lib.hid hx
        clear hb hx
        have hT : HAt V33 b11 h ∧ SlAt V33 b36 #[.int .i64 22, .int .i64 23, .int .i64 32, .int .i64 35, .int .i64 37, .int .i64 31, .int .i64 30, .int .i64 27, .int .i64 24, .int .i64 29, .int .i64 25, .int .i64 26] := ⟨HXb11.out, HXb36.out⟩
        refine Upto.one (i := 8) (by kernel_rfl) ?_
        refine callC 49 (i := 8) rfl rfl (by kernel_rfl) (f := 16) (args := #[hv h, .int .i64 0, iv lo (kk : Int) 3 4 0]) (v := .tuple #[hv g, .agg (eC e0)]) (by kernel_rfl) (st HO HB.out (wf5 Wl.out WK.out W3.out W4.out W0_.out) S1.out) (fun w' hb => ⟨HXb11.out.bel hb, HXb36.out.bel hb⟩) ?_
        intro V34 hb
        try simp only [List.setIfInBounds_toArray, List.set_cons_zero, List.set_cons_succ]
        replace HB : Hid (Bel w V34) := Lib.hid (HB.out.trans hb)
        replace HXb11 : Hid (HAt V34 b11 h) := Lib.hid (HXb11.out.bel hb)
        replace HXb36 : Hid (SlAt V34 b36 #[.int .i64 22, .int .i64 23, .int .i64 32, .int .i64 35, .int .i64 37, .int .i64 31, .int .i64 30, .int .i64 27, .int .i64 24, .int .i64 29, .int .i64 25, .int .i64 26]) := Lib.hid (HXb36.out.bel hb)
        replace HXb15 : Hid (EfAt V34 b15 e0) := Lib.hid (HXb15.out.bel hb)
        replace HXb14 : Hid (HAt V34 b14 (fun _ => 0)) := Lib.hid (HXb14.out.bel hb)
        clear hb hT
        have hT : HAt V34 b11 h ∧ SlAt V34 b36 #[.int .i64 22, .int .i64 23, .int .i64 32, .int .i64 35, .int .i64 37, .int .i64 31, .int .i64 30, .int .i64 27, .int .i64 24, .int .i64 29, .int .i64 25, .int .i64 26] := ⟨HXb11.out, HXb36.out⟩
        refine takeU 40 (i := 9) (v := .tuple #[hv g, .agg (eC e0)]) rfl rfl rfl (by kernel_rfl) (by kernel_rfl) (by kernel_rfl) (by kernel_rfl) (fun _ _ _ h => nomatch h.1) (by kernel_rfl) (fun w0 hS => rfl) hT ?_
        try simp only [List.setIfInBounds_toArray, List.set_cons_zero, List.set_cons_succ]
        refine takeU 50 (i := 10) (v := hv g) rfl rfl rfl (by kernel_rfl) (by kernel_rfl) (by kernel_rfl) (by kernel_rfl) (fun _ _ _ h => nomatch h.1) (by kernel_rfl) (fun w0 hS => rfl) hT ?_
        try simp only [List.setIfInBounds_toArray, List.set_cons_zero, List.set_cons_succ]
        refine takeU 51 (i := 11) (v := .agg (eC e0)) rfl rfl rfl (by kernel_rfl) (by kernel_rfl) (by kernel_rfl) (by kernel_rfl) (fun _ _ _ h => nomatch h.1) (by kernel_rfl) (fun w0 hS => rfl) hT ?_
        try simp only [List.setIfInBounds_toArray, List.set_cons_zero, List.set_cons_succ]
        have hn := row_same (cs := (hC g)) HXb14.out
        have hb := row_bel HB.out (g := b14) (by have := HG.out; have := HG1.out; have := HG2.out; have := HG3.out; omega) (hC g)
        have hb11 := (setRow_other V34 b14 b11 (hC g) (by have := HG.out; have := HG1.out; have := HG2.out; have := HG3.out; omega)).trans HXb11.out
        have hb36 := (setRow_other V34 b14 b36 (hC g) (by have := HG.out; have := HG1.out; have := HG2.out; have := HG3.out; omega)).trans HXb36.out
        have hb15 := (setRow_other V34 b14 b15 (hC g) (by have := HG.out; have := HG1.out; have := HG2.out; have := HG3.out; omega)).trans HXb15.out
        refine rowU (i := 14) rfl rfl (by kernel_rfl) (by kernel_rfl) 28 (.tmp 14) (.tmp 50) rfl b14 (hC g) rfl rfl 28 (hC (fun _ => 0)) HXb14.out (sz_hart _) (by rw [hC_size, hC_size]) (hC_ones _) (⟨hb11, hb36⟩) ?_
        generalize V34.setRow b14 (hC g) = V35 at hn hb hb11 hb36 hb15 ⊢
        clear hT HB HXb11 HXb36 HXb15 HXb14
        have HB : Hid (Bel w V35) := Lib.hid hb
        have HXb11 : Hid (HAt V35 b11 h) := Lib.hid hb11
        have HXb36 : Hid (SlAt V35 b36 #[.int .i64 22, .int .i64 23, .int .i64 32, .int .i64 35, .int .i64 37, .int .i64 31, .int .i64 30, .int .i64 27, .int .i64 24, .int .i64 29, .int .i64 25, .int .i64 26]) := Lib.hid hb36
        have HXb15 : Hid (EfAt V35 b15 e0) := Lib.hid hb15
        have HXb14 : Hid (HAt V35 b14 g) := Lib.hid hn
        clear hn hb hb11 hb36 hb15
        have hT : HAt V35 b11 h ∧ SlAt V35 b36 #[.int .i64 22, .int .i64 23, .int .i64 32, .int .i64 35, .int .i64 37, .int .i64 31, .int .i64 30, .int .i64 27, .int .i64 24, .int .i64 29, .int .i64 25, .int .i64 26] := ⟨HXb11.out, HXb36.out⟩
        have hn := row_same (cs := (eC e0)) HXb15.out
        have hb := row_bel HB.out (g := b15) (by have := HG.out; have := HG1.out; have := HG2.out; have := HG3.out; omega) (eC e0)
        have hb11 := (setRow_other V35 b15 b11 (eC e0) (by have := HG.out; have := HG1.out; have := HG2.out; have := HG3.out; omega)).trans HXb11.out
        have hb36 := (setRow_other V35 b15 b36 (eC e0) (by have := HG.out; have := HG1.out; have := HG2.out; have := HG3.out; omega)).trans HXb36.out
        have hb14 := (setRow_other V35 b15 b14 (eC e0) (by have := HG.out; have := HG1.out; have := HG2.out; have := HG3.out; omega)).trans HXb14.out
        refine rowL rfl rfl (by kernel_rfl) (by kernel_rfl) 34 (.tmp 15) (.tmp 51) rfl b15 (eC e0) rfl rfl 34 (eC e0) HXb15.out (sz_eff _) rfl (eC_ones _) ?_
        generalize V35.setRow b15 (eC e0) = V36 at hn hb hb11 hb36 hb14 ⊢
        clear hT HB HXb11 HXb36 HXb15 HXb14
        have HB : Hid (Bel w V36) := Lib.hid hb
        have HXb11 : Hid (HAt V36 b11 h) := Lib.hid hb11
        have HXb36 : Hid (SlAt V36 b36 #[.int .i64 22, .int .i64 23, .int .i64 32, .int .i64 35, .int .i64 37, .int .i64 31, .int .i64 30, .int .i64 27, .int .i64 24, .int .i64 29, .int .i64 25, .int .i64 26]) := Lib.hid hb36
        have HXb14 : Hid (HAt V36 b14 g) := Lib.hid hb14
        have HXb15 : Hid (EfAt V36 b15 e0) := Lib.hid hn
        clear hn hb hb11 hb36 hb14
        have hT := True.intro
        refine Upto.done (by kernel_rfl) ?_ _
        clear hT
        exact ⟨rfl, b14, b15, rfl, HB.out, HXb11.out, HXb36.out, HXb14.out, HXb15.out, (by have := HG2.out; have := HG3.out; omega), (by have := HG2.out; have := HG3.out; omega), (by have := HG2.out; have := HG3.out; omega)⟩) (by
    rintro b14 b15 V37 ⟨hb, hx_b11, hx_b36, hx_b14, hx_b15, hg_0, hg_1, hg_2⟩
    clear HB HXb11 HXb36
    have HB : Hid (Bel w V37) := Lib.hid hb
    have HXb11 : Hid (HAt V37 b11 h) := Lib.hid hx_b11
    have HXb36 : Hid (SlAt V37 b36 #[.int .i64 22, .int .i64 23, .int .i64 32, .int .i64 35, .int .i64 37, .int .i64 31, .int .i64 30, .int .i64 27, .int .i64 24, .int .i64 29, .int .i64 25, .int .i64 26]) := Lib.hid hx_b36
    have HXb14 : Hid (HAt V37 b14 g) := Lib.hid hx_b14
    have HXb15 : Hid (EfAt V37 b15 e0) := Lib.hid hx_b15
    have HG2 := Lib.hid hg_0
    have HG3 := Lib.hid (And.intro hg_1 hg_2)
    clear hb hx_b11 hx_b36 hx_b14 hx_b15 hg_0 hg_1 hg_2
    go_upto_region 7 with (fail)
    rename_i K hK
    refine wp_region_list ?_
    refine wpList_one rfl (w' := V37) (v := .int .i64 o) rfl ?_
    try simp only [Act.put, List.setIfInBounds_toArray, List.set_cons_zero, List.set_cons_succ]
    refine wpList_one rfl (w' := V37) (v := .int .i64 c1) rfl ?_
    try simp only [Act.put, List.setIfInBounds_toArray, List.set_cons_zero, List.set_cons_succ]
    refine wpList_one rfl (w' := V37) (v := .int .i64 c2) rfl ?_
    try simp only [Act.put, List.setIfInBounds_toArray, List.set_cons_zero, List.set_cons_succ]
    refine wpList_call rfl (f := 25) (args := #[.int .i64 o, .int .i64 c1, .int .i64 c2]) (v := .tuple #[.int .i64 n, .bool true]) (by kernel_rfl) (tvw T1.out T2.out _) ?_
    intro V38 hb
    replace HB : Hid (Bel w V38) := Lib.hid (HB.out.trans hb)
    replace HXb11 : Hid (HAt V38 b11 h) := Lib.hid (HXb11.out.bel hb)
    replace HXb36 : Hid (SlAt V38 b36 #[.int .i64 22, .int .i64 23, .int .i64 32, .int .i64 35, .int .i64 37, .int .i64 31, .int .i64 30, .int .i64 27, .int .i64 24, .int .i64 29, .int .i64 25, .int .i64 26]) := Lib.hid (HXb36.out.bel hb)
    replace HXb14 : Hid (HAt V38 b14 g) := Lib.hid (HXb14.out.bel hb)
    replace HXb15 : Hid (EfAt V38 b15 e0) := Lib.hid (HXb15.out.bel hb)
    clear hb
    try simp only [Act.put, List.setIfInBounds_toArray, List.set_cons_zero, List.set_cons_succ]
    refine wpList_one rfl (w' := V38) (v := .tuple #[.int .i64 n, .bool true]) rfl ?_
    try simp only [Act.put, List.setIfInBounds_toArray, List.set_cons_zero, List.set_cons_succ]
    refine wpList_one rfl (w' := V38) (v := .int .i64 n) rfl ?_
    try simp only [Act.put, List.setIfInBounds_toArray, List.set_cons_zero, List.set_cons_succ]
    refine wpList_one rfl (w' := V38) (v := .bool true) rfl ?_
    try simp only [Act.put, List.setIfInBounds_toArray, List.set_cons_zero, List.set_cons_succ]
    refine wpList_one rfl (w' := V38) (v := .int .i64 n) rfl ?_
    try simp only [Act.put, List.setIfInBounds_toArray, List.set_cons_zero, List.set_cons_succ]
    refine wpList_one rfl (w' := V38) (v := .bool true) rfl ?_
    try simp only [Act.put, List.setIfInBounds_toArray, List.set_cons_zero, List.set_cons_succ]
    refine wpList_nil ?_
    refine hK _ _ ?_
    clear hK K
    go_upto_region 8 with (fail)
    rename_i K hK
    refine wp_region_list ?_
    refine wpList_one rfl (w' := V38) (v := .int .i64 c2) rfl ?_
    try simp only [Act.put, List.setIfInBounds_toArray, List.set_cons_zero, List.set_cons_succ]
    refine wpList_call rfl (f := 15) (args := #[.int .i64 c2, .int .i64 4096]) (v := .int .i64 p2) (by kernel_rfl) (pk I2.out (by decide) R2.out _) ?_
    intro V39 hb
    replace HB : Hid (Bel w V39) := Lib.hid (HB.out.trans hb)
    replace HXb11 : Hid (HAt V39 b11 h) := Lib.hid (HXb11.out.bel hb)
    replace HXb36 : Hid (SlAt V39 b36 #[.int .i64 22, .int .i64 23, .int .i64 32, .int .i64 35, .int .i64 37, .int .i64 31, .int .i64 30, .int .i64 27, .int .i64 24, .int .i64 29, .int .i64 25, .int .i64 26]) := Lib.hid (HXb36.out.bel hb)
    replace HXb14 : Hid (HAt V39 b14 g) := Lib.hid (HXb14.out.bel hb)
    replace HXb15 : Hid (EfAt V39 b15 e0) := Lib.hid (HXb15.out.bel hb)
    clear hb
    try simp only [Act.put, List.setIfInBounds_toArray, List.set_cons_zero, List.set_cons_succ]
    refine wpList_one rfl (w' := V39) (v := .int .i64 s) (exec_sub rfl rfl rfl A4.out _) ?_
    try simp only [Act.put, List.setIfInBounds_toArray, List.set_cons_zero, List.set_cons_succ]
    refine wpList_one rfl (w' := V39) (v := .int .i64 s) rfl ?_
    try simp only [Act.put, List.setIfInBounds_toArray, List.set_cons_zero, List.set_cons_succ]
    refine wpList_nil ?_
    refine hK _ _ ?_
    clear hK K
    go_upto_region 9 with (fail)
    rename_i K hK
    refine wp_region_list ?_
    refine wpList_load_row rfl 28 (.tmp 11) rfl b11 rfl 28 (hC h) (0, 0) _ HXb11.out Tryd.underlying28 rfl (sz_hart _) ?_
    try simp only [Act.put, List.setIfInBounds_toArray, List.set_cons_zero, List.set_cons_succ]
    refine wpList_one rfl (w' := V39) (v := .int .i64 (kk : Int)) rfl ?_
    try simp only [Act.put, List.setIfInBounds_toArray, List.set_cons_zero, List.set_cons_succ]
    refine wpList_one rfl (w' := V39) (v := .int .i64 s) rfl ?_
    try simp only [Act.put, List.setIfInBounds_toArray, List.set_cons_zero, List.set_cons_succ]
    refine wpList_one rfl (w' := V39) (v := iv 13 (kk : Int) 3 0 s) (by kernel_rfl) ?_
    try simp only [Act.put, List.setIfInBounds_toArray, List.set_cons_zero, List.set_cons_succ]
    refine wpList_call rfl (f := 16) (args := #[hv h, .int .i64 0, iv 13 (kk : Int) 3 0 s]) (v := .tuple #[hv p, .agg (eC e0)]) (by kernel_rfl) (st HO HB.out (wf5 W13.out WK.out W3.out W0_.out Ws.out) S2.out) ?_
    intro V40 hb
    replace HB : Hid (Bel w V40) := Lib.hid (HB.out.trans hb)
    replace HXb11 : Hid (HAt V40 b11 h) := Lib.hid (HXb11.out.bel hb)
    replace HXb36 : Hid (SlAt V40 b36 #[.int .i64 22, .int .i64 23, .int .i64 32, .int .i64 35, .int .i64 37, .int .i64 31, .int .i64 30, .int .i64 27, .int .i64 24, .int .i64 29, .int .i64 25, .int .i64 26]) := Lib.hid (HXb36.out.bel hb)
    replace HXb14 : Hid (HAt V40 b14 g) := Lib.hid (HXb14.out.bel hb)
    replace HXb15 : Hid (EfAt V40 b15 e0) := Lib.hid (HXb15.out.bel hb)
    clear hb
    try simp only [Act.put, List.setIfInBounds_toArray, List.set_cons_zero, List.set_cons_succ]
    refine wpList_one rfl (w' := V40) (v := .tuple #[hv p, .agg (eC e0)]) rfl ?_
    try simp only [Act.put, List.setIfInBounds_toArray, List.set_cons_zero, List.set_cons_succ]
    refine wpList_one rfl (w' := V40) (v := hv p) rfl ?_
    try simp only [Act.put, List.setIfInBounds_toArray, List.set_cons_zero, List.set_cons_succ]
    refine wpList_one rfl (w' := V40) (v := .agg (eC e0)) rfl ?_
    try simp only [Act.put, List.setIfInBounds_toArray, List.set_cons_zero, List.set_cons_succ]
    obtain ⟨hb, hx⟩ := box1 V40 hZ 28
    refine wpList_one rfl (w' := V40.alloc (.cells hZ 28)) (v := .pointer (some ⟨V40.heap.size, 0, none⟩)) (by kernel_rfl) ?_
    try simp only [Act.put, List.setIfInBounds_toArray, List.set_cons_zero, List.set_cons_succ]
    have hl := And.intro (lt_of_heap HXb14.out) (lt_of_heap HXb15.out)
    generalize V40.alloc (.cells hZ 28) = V41 at hb hx ⊢
    generalize V40.heap.size = b19 at hx hl ⊢
    have HG4 := Lib.hid hl
    clear hl
    replace HB : Hid (Bel w V41) := Lib.hid (HB.out.trans hb)
    replace HXb11 : Hid (HAt V41 b11 h) := Lib.hid (HXb11.out.bel hb)
    replace HXb36 : Hid (SlAt V41 b36 #[.int .i64 22, .int .i64 23, .int .i64 32, .int .i64 35, .int .i64 37, .int .i64 31, .int .i64 30, .int .i64 27, .int .i64 24, .int .i64 29, .int .i64 25, .int .i64 26]) := Lib.hid (HXb36.out.bel hb)
    replace HXb14 : Hid (HAt V41 b14 g) := Lib.hid (HXb14.out.bel hb)
    replace HXb15 : Hid (EfAt V41 b15 e0) := Lib.hid (HXb15.out.bel hb)
    have HXb19 : Hid (HAt V41 b19 (fun _ => 0)) := Lib.hid hx
    clear hb hx
    try simp only [Act.put, List.setIfInBounds_toArray, List.set_cons_zero, List.set_cons_succ]
    obtain ⟨hb, hx⟩ := box1 V41 (eC e0) 34
    refine wpList_one rfl (w' := V41.alloc (.cells (eC e0) 34)) (v := .pointer (some ⟨V41.heap.size, 0, none⟩)) (by kernel_rfl) ?_
    try simp only [Act.put, List.setIfInBounds_toArray, List.set_cons_zero, List.set_cons_succ]
    have hl := lt_of_heap HXb19.out
    generalize V41.alloc (.cells (eC e0) 34) = V42 at hb hx ⊢
    generalize V41.heap.size = b20 at hx hl ⊢
    have HG5 := Lib.hid hl
    clear hl
    replace HB : Hid (Bel w V42) := Lib.hid (HB.out.trans hb)
    replace HXb11 : Hid (HAt V42 b11 h) := Lib.hid (HXb11.out.bel hb)
    replace HXb36 : Hid (SlAt V42 b36 #[.int .i64 22, .int .i64 23, .int .i64 32, .int .i64 35, .int .i64 37, .int .i64 31, .int .i64 30, .int .i64 27, .int .i64 24, .int .i64 29, .int .i64 25, .int .i64 26]) := Lib.hid (HXb36.out.bel hb)
    replace HXb14 : Hid (HAt V42 b14 g) := Lib.hid (HXb14.out.bel hb)
    replace HXb15 : Hid (EfAt V42 b15 e0) := Lib.hid (HXb15.out.bel hb)
    replace HXb19 : Hid (HAt V42 b19 (fun _ => 0)) := Lib.hid (HXb19.out.bel hb)
    have HXb20 : Hid (EfAt V42 b20 e0) := Lib.hid hx
    clear hb hx
    try simp only [Act.put, List.setIfInBounds_toArray, List.set_cons_zero, List.set_cons_succ]
    refine wpList_store_row rfl 28 (.tmp 19) (.tmp 68) rfl b19 (hC p) rfl rfl 28 (hC (fun _ => 0)) HXb19.out (sz_hart _) (by rw [hC_size, hC_size]) (hC_ones _) ?_
    have hn := row_same (cs := (hC p)) HXb19.out
    have hb := row_bel HB.out (g := b19) (by have := HG.out; have := HG1.out; have := HG2.out; have := HG3.out; have := HG4.out; have := HG5.out; omega) (hC p)
    have hb11 := (setRow_other V42 b19 b11 (hC p) (by have := HG.out; have := HG1.out; have := HG2.out; have := HG3.out; have := HG4.out; have := HG5.out; omega)).trans HXb11.out
    have hb36 := (setRow_other V42 b19 b36 (hC p) (by have := HG.out; have := HG1.out; have := HG2.out; have := HG3.out; have := HG4.out; have := HG5.out; omega)).trans HXb36.out
    have hb14 := (setRow_other V42 b19 b14 (hC p) (by have := HG.out; have := HG1.out; have := HG2.out; have := HG3.out; have := HG4.out; have := HG5.out; omega)).trans HXb14.out
    have hb15 := (setRow_other V42 b19 b15 (hC p) (by have := HG.out; have := HG1.out; have := HG2.out; have := HG3.out; have := HG4.out; have := HG5.out; omega)).trans HXb15.out
    have hb20 := (setRow_other V42 b19 b20 (hC p) (by have := HG.out; have := HG1.out; have := HG2.out; have := HG3.out; have := HG4.out; have := HG5.out; omega)).trans HXb20.out
    generalize V42.setRow b19 (hC p) = V43 at hn hb hb11 hb36 hb14 hb15 hb20 ⊢
    clear HB HXb11 HXb36 HXb14 HXb15 HXb19 HXb20
    have HB : Hid (Bel w V43) := Lib.hid hb
    have HXb11 : Hid (HAt V43 b11 h) := Lib.hid hb11
    have HXb36 : Hid (SlAt V43 b36 #[.int .i64 22, .int .i64 23, .int .i64 32, .int .i64 35, .int .i64 37, .int .i64 31, .int .i64 30, .int .i64 27, .int .i64 24, .int .i64 29, .int .i64 25, .int .i64 26]) := Lib.hid hb36
    have HXb14 : Hid (HAt V43 b14 g) := Lib.hid hb14
    have HXb15 : Hid (EfAt V43 b15 e0) := Lib.hid hb15
    have HXb20 : Hid (EfAt V43 b20 e0) := Lib.hid hb20
    have HXb19 : Hid (HAt V43 b19 p) := Lib.hid hn
    clear hn hb hb11 hb36 hb14 hb15 hb20
    try simp only [Act.put, List.setIfInBounds_toArray, List.set_cons_zero, List.set_cons_succ]
    refine wpList_store_row rfl 34 (.tmp 20) (.tmp 69) rfl b20 (eC e0) rfl rfl 34 (eC e0) HXb20.out (sz_eff _) rfl (eC_ones _) ?_
    have hn := row_same (cs := (eC e0)) HXb20.out
    have hb := row_bel HB.out (g := b20) (by have := HG.out; have := HG1.out; have := HG2.out; have := HG3.out; have := HG4.out; have := HG5.out; omega) (eC e0)
    have hb11 := (setRow_other V43 b20 b11 (eC e0) (by have := HG.out; have := HG1.out; have := HG2.out; have := HG3.out; have := HG4.out; have := HG5.out; omega)).trans HXb11.out
    have hb36 := (setRow_other V43 b20 b36 (eC e0) (by have := HG.out; have := HG1.out; have := HG2.out; have := HG3.out; have := HG4.out; have := HG5.out; omega)).trans HXb36.out
    have hb14 := (setRow_other V43 b20 b14 (eC e0) (by have := HG.out; have := HG1.out; have := HG2.out; have := HG3.out; have := HG4.out; have := HG5.out; omega)).trans HXb14.out
    have hb15 := (setRow_other V43 b20 b15 (eC e0) (by have := HG.out; have := HG1.out; have := HG2.out; have := HG3.out; have := HG4.out; have := HG5.out; omega)).trans HXb15.out
    have hb19 := (setRow_other V43 b20 b19 (eC e0) (by have := HG.out; have := HG1.out; have := HG2.out; have := HG3.out; have := HG4.out; have := HG5.out; omega)).trans HXb19.out
    generalize V43.setRow b20 (eC e0) = V44 at hn hb hb11 hb36 hb14 hb15 hb19 ⊢
    clear HB HXb11 HXb36 HXb14 HXb15 HXb19 HXb20
    have HB : Hid (Bel w V44) := Lib.hid hb
    have HXb11 : Hid (HAt V44 b11 h) := Lib.hid hb11
    have HXb36 : Hid (SlAt V44 b36 #[.int .i64 22, .int .i64 23, .int .i64 32, .int .i64 35, .int .i64 37, .int .i64 31, .int .i64 30, .int .i64 27, .int .i64 24, .int .i64 29, .int .i64 25, .int .i64 26]) := Lib.hid hb36
    have HXb14 : Hid (HAt V44 b14 g) := Lib.hid hb14
    have HXb15 : Hid (EfAt V44 b15 e0) := Lib.hid hb15
    have HXb19 : Hid (HAt V44 b19 p) := Lib.hid hb19
    have HXb20 : Hid (EfAt V44 b20 e0) := Lib.hid hn
    clear hn hb hb11 hb36 hb14 hb15 hb19
    try simp only [Act.put, List.setIfInBounds_toArray, List.set_cons_zero, List.set_cons_succ]
    refine wpList_nil ?_
    refine hK _ _ ?_
    clear hK K
    go_upto_region 10 with (fail)
    rename_i K hK
    refine wp_region_list ?_
    refine wpList_load_row rfl 28 (.tmp 11) rfl b11 rfl 28 (hC h) (0, 0) _ HXb11.out Tryd.underlying28 rfl (sz_hart _) ?_
    try simp only [Act.put, List.setIfInBounds_toArray, List.set_cons_zero, List.set_cons_succ]
    refine wpList_one rfl (w' := V44) (v := .int .i64 (kk : Int)) rfl ?_
    try simp only [Act.put, List.setIfInBounds_toArray, List.set_cons_zero, List.set_cons_succ]
    refine wpList_one rfl (w' := V44) (v := iv 16 (kk : Int) 3 0 (-1)) (by kernel_rfl) ?_
    try simp only [Act.put, List.setIfInBounds_toArray, List.set_cons_zero, List.set_cons_succ]
    refine wpList_call rfl (f := 16) (args := #[hv h, .int .i64 0, iv 16 (kk : Int) 3 0 (-1)]) (v := .tuple #[hv q, .agg (eC e0)]) (by kernel_rfl) (st HO HB.out (wf5 W16.out WK.out W3.out W0_.out Wm.out) S3.out) ?_
    intro V45 hb
    replace HB : Hid (Bel w V45) := Lib.hid (HB.out.trans hb)
    replace HXb11 : Hid (HAt V45 b11 h) := Lib.hid (HXb11.out.bel hb)
    replace HXb36 : Hid (SlAt V45 b36 #[.int .i64 22, .int .i64 23, .int .i64 32, .int .i64 35, .int .i64 37, .int .i64 31, .int .i64 30, .int .i64 27, .int .i64 24, .int .i64 29, .int .i64 25, .int .i64 26]) := Lib.hid (HXb36.out.bel hb)
    replace HXb14 : Hid (HAt V45 b14 g) := Lib.hid (HXb14.out.bel hb)
    replace HXb15 : Hid (EfAt V45 b15 e0) := Lib.hid (HXb15.out.bel hb)
    replace HXb19 : Hid (HAt V45 b19 p) := Lib.hid (HXb19.out.bel hb)
    replace HXb20 : Hid (EfAt V45 b20 e0) := Lib.hid (HXb20.out.bel hb)
    clear hb
    try simp only [Act.put, List.setIfInBounds_toArray, List.set_cons_zero, List.set_cons_succ]
    refine wpList_one rfl (w' := V45) (v := .tuple #[hv q, .agg (eC e0)]) rfl ?_
    try simp only [Act.put, List.setIfInBounds_toArray, List.set_cons_zero, List.set_cons_succ]
    refine wpList_one rfl (w' := V45) (v := hv q) rfl ?_
    try simp only [Act.put, List.setIfInBounds_toArray, List.set_cons_zero, List.set_cons_succ]
    refine wpList_one rfl (w' := V45) (v := .agg (eC e0)) rfl ?_
    try simp only [Act.put, List.setIfInBounds_toArray, List.set_cons_zero, List.set_cons_succ]
    obtain ⟨hb, hx⟩ := box1 V45 hZ 28
    refine wpList_one rfl (w' := V45.alloc (.cells hZ 28)) (v := .pointer (some ⟨V45.heap.size, 0, none⟩)) (by kernel_rfl) ?_
    try simp only [Act.put, List.setIfInBounds_toArray, List.set_cons_zero, List.set_cons_succ]
    have hl := lt_of_heap HXb20.out
    generalize V45.alloc (.cells hZ 28) = V46 at hb hx ⊢
    generalize V45.heap.size = b21 at hx hl ⊢
    have HG6 := Lib.hid hl
    clear hl
    replace HB : Hid (Bel w V46) := Lib.hid (HB.out.trans hb)
    replace HXb11 : Hid (HAt V46 b11 h) := Lib.hid (HXb11.out.bel hb)
    replace HXb36 : Hid (SlAt V46 b36 #[.int .i64 22, .int .i64 23, .int .i64 32, .int .i64 35, .int .i64 37, .int .i64 31, .int .i64 30, .int .i64 27, .int .i64 24, .int .i64 29, .int .i64 25, .int .i64 26]) := Lib.hid (HXb36.out.bel hb)
    replace HXb14 : Hid (HAt V46 b14 g) := Lib.hid (HXb14.out.bel hb)
    replace HXb15 : Hid (EfAt V46 b15 e0) := Lib.hid (HXb15.out.bel hb)
    replace HXb19 : Hid (HAt V46 b19 p) := Lib.hid (HXb19.out.bel hb)
    replace HXb20 : Hid (EfAt V46 b20 e0) := Lib.hid (HXb20.out.bel hb)
    have HXb21 : Hid (HAt V46 b21 (fun _ => 0)) := Lib.hid hx
    clear hb hx
    try simp only [Act.put, List.setIfInBounds_toArray, List.set_cons_zero, List.set_cons_succ]
    obtain ⟨hb, hx⟩ := box1 V46 (eC e0) 34
    refine wpList_one rfl (w' := V46.alloc (.cells (eC e0) 34)) (v := .pointer (some ⟨V46.heap.size, 0, none⟩)) (by kernel_rfl) ?_
    try simp only [Act.put, List.setIfInBounds_toArray, List.set_cons_zero, List.set_cons_succ]
    have hl := lt_of_heap HXb21.out
    generalize V46.alloc (.cells (eC e0) 34) = V47 at hb hx ⊢
    generalize V46.heap.size = b22 at hx hl ⊢
    have HG7 := Lib.hid hl
    clear hl
    replace HB : Hid (Bel w V47) := Lib.hid (HB.out.trans hb)
    replace HXb11 : Hid (HAt V47 b11 h) := Lib.hid (HXb11.out.bel hb)
    replace HXb36 : Hid (SlAt V47 b36 #[.int .i64 22, .int .i64 23, .int .i64 32, .int .i64 35, .int .i64 37, .int .i64 31, .int .i64 30, .int .i64 27, .int .i64 24, .int .i64 29, .int .i64 25, .int .i64 26]) := Lib.hid (HXb36.out.bel hb)
    replace HXb14 : Hid (HAt V47 b14 g) := Lib.hid (HXb14.out.bel hb)
    replace HXb15 : Hid (EfAt V47 b15 e0) := Lib.hid (HXb15.out.bel hb)
    replace HXb19 : Hid (HAt V47 b19 p) := Lib.hid (HXb19.out.bel hb)
    replace HXb20 : Hid (EfAt V47 b20 e0) := Lib.hid (HXb20.out.bel hb)
    replace HXb21 : Hid (HAt V47 b21 (fun _ => 0)) := Lib.hid (HXb21.out.bel hb)
    have HXb22 : Hid (EfAt V47 b22 e0) := Lib.hid hx
    clear hb hx
    try simp only [Act.put, List.setIfInBounds_toArray, List.set_cons_zero, List.set_cons_succ]
    refine wpList_store_row rfl 28 (.tmp 21) (.tmp 75) rfl b21 (hC q) rfl rfl 28 (hC (fun _ => 0)) HXb21.out (sz_hart _) (by rw [hC_size, hC_size]) (hC_ones _) ?_
    have hn := row_same (cs := (hC q)) HXb21.out
    have hb := row_bel HB.out (g := b21) (by have := HG.out; have := HG1.out; have := HG2.out; have := HG3.out; have := HG4.out; have := HG5.out; have := HG6.out; have := HG7.out; omega) (hC q)
    have hb11 := (setRow_other V47 b21 b11 (hC q) (by have := HG.out; have := HG1.out; have := HG2.out; have := HG3.out; have := HG4.out; have := HG5.out; have := HG6.out; have := HG7.out; omega)).trans HXb11.out
    have hb36 := (setRow_other V47 b21 b36 (hC q) (by have := HG.out; have := HG1.out; have := HG2.out; have := HG3.out; have := HG4.out; have := HG5.out; have := HG6.out; have := HG7.out; omega)).trans HXb36.out
    have hb14 := (setRow_other V47 b21 b14 (hC q) (by have := HG.out; have := HG1.out; have := HG2.out; have := HG3.out; have := HG4.out; have := HG5.out; have := HG6.out; have := HG7.out; omega)).trans HXb14.out
    have hb15 := (setRow_other V47 b21 b15 (hC q) (by have := HG.out; have := HG1.out; have := HG2.out; have := HG3.out; have := HG4.out; have := HG5.out; have := HG6.out; have := HG7.out; omega)).trans HXb15.out
    have hb19 := (setRow_other V47 b21 b19 (hC q) (by have := HG.out; have := HG1.out; have := HG2.out; have := HG3.out; have := HG4.out; have := HG5.out; have := HG6.out; have := HG7.out; omega)).trans HXb19.out
    have hb20 := (setRow_other V47 b21 b20 (hC q) (by have := HG.out; have := HG1.out; have := HG2.out; have := HG3.out; have := HG4.out; have := HG5.out; have := HG6.out; have := HG7.out; omega)).trans HXb20.out
    have hb22 := (setRow_other V47 b21 b22 (hC q) (by have := HG.out; have := HG1.out; have := HG2.out; have := HG3.out; have := HG4.out; have := HG5.out; have := HG6.out; have := HG7.out; omega)).trans HXb22.out
    generalize V47.setRow b21 (hC q) = V48 at hn hb hb11 hb36 hb14 hb15 hb19 hb20 hb22 ⊢
    clear HB HXb11 HXb36 HXb14 HXb15 HXb19 HXb20 HXb21 HXb22
    have HB : Hid (Bel w V48) := Lib.hid hb
    have HXb11 : Hid (HAt V48 b11 h) := Lib.hid hb11
    have HXb36 : Hid (SlAt V48 b36 #[.int .i64 22, .int .i64 23, .int .i64 32, .int .i64 35, .int .i64 37, .int .i64 31, .int .i64 30, .int .i64 27, .int .i64 24, .int .i64 29, .int .i64 25, .int .i64 26]) := Lib.hid hb36
    have HXb14 : Hid (HAt V48 b14 g) := Lib.hid hb14
    have HXb15 : Hid (EfAt V48 b15 e0) := Lib.hid hb15
    have HXb19 : Hid (HAt V48 b19 p) := Lib.hid hb19
    have HXb20 : Hid (EfAt V48 b20 e0) := Lib.hid hb20
    have HXb22 : Hid (EfAt V48 b22 e0) := Lib.hid hb22
    have HXb21 : Hid (HAt V48 b21 q) := Lib.hid hn
    clear hn hb hb11 hb36 hb14 hb15 hb19 hb20 hb22
    try simp only [Act.put, List.setIfInBounds_toArray, List.set_cons_zero, List.set_cons_succ]
    refine wpList_store_row rfl 34 (.tmp 22) (.tmp 76) rfl b22 (eC e0) rfl rfl 34 (eC e0) HXb22.out (sz_eff _) rfl (eC_ones _) ?_
    have hn := row_same (cs := (eC e0)) HXb22.out
    have hb := row_bel HB.out (g := b22) (by have := HG.out; have := HG1.out; have := HG2.out; have := HG3.out; have := HG4.out; have := HG5.out; have := HG6.out; have := HG7.out; omega) (eC e0)
    have hb11 := (setRow_other V48 b22 b11 (eC e0) (by have := HG.out; have := HG1.out; have := HG2.out; have := HG3.out; have := HG4.out; have := HG5.out; have := HG6.out; have := HG7.out; omega)).trans HXb11.out
    have hb36 := (setRow_other V48 b22 b36 (eC e0) (by have := HG.out; have := HG1.out; have := HG2.out; have := HG3.out; have := HG4.out; have := HG5.out; have := HG6.out; have := HG7.out; omega)).trans HXb36.out
    have hb14 := (setRow_other V48 b22 b14 (eC e0) (by have := HG.out; have := HG1.out; have := HG2.out; have := HG3.out; have := HG4.out; have := HG5.out; have := HG6.out; have := HG7.out; omega)).trans HXb14.out
    have hb15 := (setRow_other V48 b22 b15 (eC e0) (by have := HG.out; have := HG1.out; have := HG2.out; have := HG3.out; have := HG4.out; have := HG5.out; have := HG6.out; have := HG7.out; omega)).trans HXb15.out
    have hb19 := (setRow_other V48 b22 b19 (eC e0) (by have := HG.out; have := HG1.out; have := HG2.out; have := HG3.out; have := HG4.out; have := HG5.out; have := HG6.out; have := HG7.out; omega)).trans HXb19.out
    have hb20 := (setRow_other V48 b22 b20 (eC e0) (by have := HG.out; have := HG1.out; have := HG2.out; have := HG3.out; have := HG4.out; have := HG5.out; have := HG6.out; have := HG7.out; omega)).trans HXb20.out
    have hb21 := (setRow_other V48 b22 b21 (eC e0) (by have := HG.out; have := HG1.out; have := HG2.out; have := HG3.out; have := HG4.out; have := HG5.out; have := HG6.out; have := HG7.out; omega)).trans HXb21.out
    generalize V48.setRow b22 (eC e0) = V49 at hn hb hb11 hb36 hb14 hb15 hb19 hb20 hb21 ⊢
    clear HB HXb11 HXb36 HXb14 HXb15 HXb19 HXb20 HXb21 HXb22
    have HB : Hid (Bel w V49) := Lib.hid hb
    have HXb11 : Hid (HAt V49 b11 h) := Lib.hid hb11
    have HXb36 : Hid (SlAt V49 b36 #[.int .i64 22, .int .i64 23, .int .i64 32, .int .i64 35, .int .i64 37, .int .i64 31, .int .i64 30, .int .i64 27, .int .i64 24, .int .i64 29, .int .i64 25, .int .i64 26]) := Lib.hid hb36
    have HXb14 : Hid (HAt V49 b14 g) := Lib.hid hb14
    have HXb15 : Hid (EfAt V49 b15 e0) := Lib.hid hb15
    have HXb19 : Hid (HAt V49 b19 p) := Lib.hid hb19
    have HXb20 : Hid (EfAt V49 b20 e0) := Lib.hid hb20
    have HXb21 : Hid (HAt V49 b21 q) := Lib.hid hb21
    have HXb22 : Hid (EfAt V49 b22 e0) := Lib.hid hn
    clear hn hb hb11 hb36 hb14 hb15 hb19 hb20 hb21
    try simp only [Act.put, List.setIfInBounds_toArray, List.set_cons_zero, List.set_cons_succ]
    refine wpList_nil ?_
    refine hK _ _ ?_
    clear hK K
    go_upto_region 11 with (fail)
    rename_i K hK
    refine wp_region_list ?_
    refine wpList_one rfl (w' := V49) (v := .int .i64 c1) rfl ?_
    try simp only [Act.put, List.setIfInBounds_toArray, List.set_cons_zero, List.set_cons_succ]
    refine wpList_one rfl (w' := V49) (v := .int .i64 s) rfl ?_
    try simp only [Act.put, List.setIfInBounds_toArray, List.set_cons_zero, List.set_cons_succ]
    refine wpList_call rfl (f := 25) (args := #[.int .i64 1, .int .i64 c1, .int .i64 s]) (v := .tuple #[.int .i64 sm, .bool true]) (by kernel_rfl) (tvw T3.out (by rfl) _) ?_
    intro V50 hb
    replace HB : Hid (Bel w V50) := Lib.hid (HB.out.trans hb)
    replace HXb11 : Hid (HAt V50 b11 h) := Lib.hid (HXb11.out.bel hb)
    replace HXb36 : Hid (SlAt V50 b36 #[.int .i64 22, .int .i64 23, .int .i64 32, .int .i64 35, .int .i64 37, .int .i64 31, .int .i64 30, .int .i64 27, .int .i64 24, .int .i64 29, .int .i64 25, .int .i64 26]) := Lib.hid (HXb36.out.bel hb)
    replace HXb14 : Hid (HAt V50 b14 g) := Lib.hid (HXb14.out.bel hb)
    replace HXb15 : Hid (EfAt V50 b15 e0) := Lib.hid (HXb15.out.bel hb)
    replace HXb19 : Hid (HAt V50 b19 p) := Lib.hid (HXb19.out.bel hb)
    replace HXb20 : Hid (EfAt V50 b20 e0) := Lib.hid (HXb20.out.bel hb)
    replace HXb21 : Hid (HAt V50 b21 q) := Lib.hid (HXb21.out.bel hb)
    replace HXb22 : Hid (EfAt V50 b22 e0) := Lib.hid (HXb22.out.bel hb)
    clear hb
    try simp only [Act.put, List.setIfInBounds_toArray, List.set_cons_zero, List.set_cons_succ]
    refine wpList_one rfl (w' := V50) (v := .tuple #[.int .i64 sm, .bool true]) rfl ?_
    try simp only [Act.put, List.setIfInBounds_toArray, List.set_cons_zero, List.set_cons_succ]
    refine wpList_one rfl (w' := V50) (v := .int .i64 sm) rfl ?_
    try simp only [Act.put, List.setIfInBounds_toArray, List.set_cons_zero, List.set_cons_succ]
    refine wpList_one rfl (w' := V50) (v := .bool true) rfl ?_
    try simp only [Act.put, List.setIfInBounds_toArray, List.set_cons_zero, List.set_cons_succ]
    refine wpList_one rfl (w' := V50) (v := .int .i64 sm) rfl ?_
    try simp only [Act.put, List.setIfInBounds_toArray, List.set_cons_zero, List.set_cons_succ]
    refine wpList_one rfl (w' := V50) (v := .bool true) rfl ?_
    try simp only [Act.put, List.setIfInBounds_toArray, List.set_cons_zero, List.set_cons_succ]
    refine wpList_nil ?_
    refine hK _ _ ?_
    clear hK K
    go_upto_region 12 with (fail)
    rename_i K hK
    refine wp_region_list ?_
    refine wpList_one rfl (w' := V50) (v := .int .i64 c1) rfl ?_
    try simp only [Act.put, List.setIfInBounds_toArray, List.set_cons_zero, List.set_cons_succ]
    refine wpList_call rfl (f := 26) (args := #[.int .i64 17, .int .i64 c1]) (v := .tuple #[.int .i64 iv_, .bool true]) (by kernel_rfl) (ovw T4.out (by rfl) _) ?_
    intro V51 hb
    replace HB : Hid (Bel w V51) := Lib.hid (HB.out.trans hb)
    replace HXb11 : Hid (HAt V51 b11 h) := Lib.hid (HXb11.out.bel hb)
    replace HXb36 : Hid (SlAt V51 b36 #[.int .i64 22, .int .i64 23, .int .i64 32, .int .i64 35, .int .i64 37, .int .i64 31, .int .i64 30, .int .i64 27, .int .i64 24, .int .i64 29, .int .i64 25, .int .i64 26]) := Lib.hid (HXb36.out.bel hb)
    replace HXb14 : Hid (HAt V51 b14 g) := Lib.hid (HXb14.out.bel hb)
    replace HXb15 : Hid (EfAt V51 b15 e0) := Lib.hid (HXb15.out.bel hb)
    replace HXb19 : Hid (HAt V51 b19 p) := Lib.hid (HXb19.out.bel hb)
    replace HXb20 : Hid (EfAt V51 b20 e0) := Lib.hid (HXb20.out.bel hb)
    replace HXb21 : Hid (HAt V51 b21 q) := Lib.hid (HXb21.out.bel hb)
    replace HXb22 : Hid (EfAt V51 b22 e0) := Lib.hid (HXb22.out.bel hb)
    clear hb
    try simp only [Act.put, List.setIfInBounds_toArray, List.set_cons_zero, List.set_cons_succ]
    refine wpList_one rfl (w' := V51) (v := .tuple #[.int .i64 iv_, .bool true]) rfl ?_
    try simp only [Act.put, List.setIfInBounds_toArray, List.set_cons_zero, List.set_cons_succ]
    refine wpList_one rfl (w' := V51) (v := .int .i64 iv_) rfl ?_
    try simp only [Act.put, List.setIfInBounds_toArray, List.set_cons_zero, List.set_cons_succ]
    refine wpList_one rfl (w' := V51) (v := .bool true) rfl ?_
    try simp only [Act.put, List.setIfInBounds_toArray, List.set_cons_zero, List.set_cons_succ]
    refine wpList_one rfl (w' := V51) (v := .int .i64 iv_) rfl ?_
    try simp only [Act.put, List.setIfInBounds_toArray, List.set_cons_zero, List.set_cons_succ]
    refine wpList_one rfl (w' := V51) (v := .bool true) rfl ?_
    try simp only [Act.put, List.setIfInBounds_toArray, List.set_cons_zero, List.set_cons_succ]
    refine wpList_nil ?_
    refine hK _ _ ?_
    clear hK K
    go_upto_region 13 with (fail)
    rename_i K hK
    refine wp_region_list ?_
    refine BigFrame.wpList_want (by kernel_rfl) (fun K2 hK2 => ?_)
    refine wp_one (w' := V51) (v := .bool true) rfl ?_
    refine hK2 _ _ ?_
    clear hK2 K2
    try simp only [Act.put, List.setIfInBounds_toArray, List.set_cons_zero, List.set_cons_succ]
    refine BigFrame.wpList_want (by kernel_rfl) (fun K2 hK2 => ?_)
    refine wp_one (w' := V51) (v := .bool true) rfl ?_
    refine hK2 _ _ ?_
    clear hK2 K2
    try simp only [Act.put, List.setIfInBounds_toArray, List.set_cons_zero, List.set_cons_succ]
    refine BigFrame.wpList_want (by kernel_rfl) (fun K2 hK2 => ?_)
    refine wp_one (w' := V51) (v := .agg (eC e0)) (exec_row 34 (.tmp 15) rfl b15 rfl 34 (eC e0) (0, 0) _ HXb15.out Tryd.underlying34 rfl (sz_eff _)) ?_
    refine hK2 _ _ ?_
    clear hK2 K2
    try simp only [Act.put, List.setIfInBounds_toArray, List.set_cons_zero, List.set_cons_succ]
    refine BigFrame.wpList_want (by kernel_rfl) (fun K2 hK2 => ?_)
    refine wp_one (w' := V51) (v := .agg (eC e0)) (by kernel_rfl) ?_
    refine hK2 _ _ ?_
    clear hK2 K2
    try simp only [Act.put, List.setIfInBounds_toArray, List.set_cons_zero, List.set_cons_succ]
    refine BigFrame.wpList_want (by kernel_rfl) (fun K2 hK2 => ?_)
    refine wp_one (w' := V51) (v := .bool true) (exec_eqE rfl rfl rfl (rfl) V51) ?_
    refine hK2 _ _ ?_
    clear hK2 K2
    try simp only [Act.put, List.setIfInBounds_toArray, List.set_cons_zero, List.set_cons_succ]
    refine BigFrame.wpList_want (by kernel_rfl) (fun K2 hK2 => ?_)
    refine wp_one (w' := V51) (v := .bool true) (by kernel_rfl) ?_
    refine hK2 _ _ ?_
    clear hK2 K2
    try simp only [Act.put, List.setIfInBounds_toArray, List.set_cons_zero, List.set_cons_succ]
    refine BigFrame.wpList_want (by kernel_rfl) (fun K2 hK2 => ?_)
    refine wp_one (w' := V51) (v := .bool true) rfl ?_
    refine hK2 _ _ ?_
    clear hK2 K2
    try simp only [Act.put, List.setIfInBounds_toArray, List.set_cons_zero, List.set_cons_succ]
    refine BigFrame.wpList_want (by kernel_rfl) (fun K2 hK2 => ?_)
    refine wp_one (w' := V51) (v := .agg (eC e0)) (exec_row 34 (.tmp 20) rfl b20 rfl 34 (eC e0) (0, 0) _ HXb20.out Tryd.underlying34 rfl (sz_eff _)) ?_
    refine hK2 _ _ ?_
    clear hK2 K2
    try simp only [Act.put, List.setIfInBounds_toArray, List.set_cons_zero, List.set_cons_succ]
    refine BigFrame.wpList_want (by kernel_rfl) (fun K2 hK2 => ?_)
    refine wp_one (w' := V51) (v := .agg (eC e0)) (exec_row 34 (.tmp 15) rfl b15 rfl 34 (eC e0) (0, 0) _ HXb15.out Tryd.underlying34 rfl (sz_eff _)) ?_
    refine hK2 _ _ ?_
    clear hK2 K2
    try simp only [Act.put, List.setIfInBounds_toArray, List.set_cons_zero, List.set_cons_succ]
    refine BigFrame.wpList_want (by kernel_rfl) (fun K2 hK2 => ?_)
    refine wp_one (w' := V51) (v := .bool true) (exec_eqE rfl rfl rfl (rfl) V51) ?_
    refine hK2 _ _ ?_
    clear hK2 K2
    try simp only [Act.put, List.setIfInBounds_toArray, List.set_cons_zero, List.set_cons_succ]
    refine BigFrame.wpList_want (by kernel_rfl) (fun K2 hK2 => ?_)
    refine wp_one (w' := V51) (v := .bool true) (by kernel_rfl) ?_
    refine hK2 _ _ ?_
    clear hK2 K2
    try simp only [Act.put, List.setIfInBounds_toArray, List.set_cons_zero, List.set_cons_succ]
    refine BigFrame.wpList_want (by kernel_rfl) (fun K2 hK2 => ?_)
    refine wp_one (w' := V51) (v := .bool true) rfl ?_
    refine hK2 _ _ ?_
    clear hK2 K2
    try simp only [Act.put, List.setIfInBounds_toArray, List.set_cons_zero, List.set_cons_succ]
    refine BigFrame.wpList_want (by kernel_rfl) (fun K2 hK2 => ?_)
    refine wp_one (w' := V51) (v := .agg (eC e0)) (exec_row 34 (.tmp 22) rfl b22 rfl 34 (eC e0) (0, 0) _ HXb22.out Tryd.underlying34 rfl (sz_eff _)) ?_
    refine hK2 _ _ ?_
    clear hK2 K2
    try simp only [Act.put, List.setIfInBounds_toArray, List.set_cons_zero, List.set_cons_succ]
    refine BigFrame.wpList_want (by kernel_rfl) (fun K2 hK2 => ?_)
    refine wp_one (w' := V51) (v := .agg (eC e0)) (exec_row 34 (.tmp 15) rfl b15 rfl 34 (eC e0) (0, 0) _ HXb15.out Tryd.underlying34 rfl (sz_eff _)) ?_
    refine hK2 _ _ ?_
    clear hK2 K2
    try simp only [Act.put, List.setIfInBounds_toArray, List.set_cons_zero, List.set_cons_succ]
    refine BigFrame.wpList_want (by kernel_rfl) (fun K2 hK2 => ?_)
    refine wp_one (w' := V51) (v := .bool true) (exec_eqE rfl rfl rfl (rfl) V51) ?_
    refine hK2 _ _ ?_
    clear hK2 K2
    try simp only [Act.put, List.setIfInBounds_toArray, List.set_cons_zero, List.set_cons_succ]
    refine BigFrame.wpList_want (by kernel_rfl) (fun K2 hK2 => ?_)
    refine wp_one (w' := V51) (v := .bool true) (by kernel_rfl) ?_
    refine hK2 _ _ ?_
    clear hK2 K2
    try simp only [Act.put, List.setIfInBounds_toArray, List.set_cons_zero, List.set_cons_succ]
    refine BigFrame.wpList_want (by kernel_rfl) (fun K2 hK2 => ?_)
    refine wp_one (w' := V51) (v := .bool true) rfl ?_
    refine hK2 _ _ ?_
    clear hK2 K2
    try simp only [Act.put, List.setIfInBounds_toArray, List.set_cons_zero, List.set_cons_succ]
    refine BigFrame.wpList_want (by kernel_rfl) (fun K2 hK2 => ?_)
    refine wp_one (w' := V51) (v := .int .i64 (kk : Int)) rfl ?_
    refine hK2 _ _ ?_
    clear hK2 K2
    try simp only [Act.put, List.setIfInBounds_toArray, List.set_cons_zero, List.set_cons_succ]
    refine BigFrame.wpList_want (by kernel_rfl) (fun K2 hK2 => ?_)
    refine wp_one (w' := V51) (v := .pointer (some ⟨b14, 0, none⟩)) (by kernel_rfl) ?_
    refine hK2 _ _ ?_
    clear hK2 K2
    try simp only [Act.put, List.setIfInBounds_toArray, List.set_cons_zero, List.set_cons_succ]
    refine BigFrame.wpList_want (by kernel_rfl) (fun K2 hK2 => ?_)
    refine wp_one (w' := V51) (v := .pointer (some ⟨b14, kk, none⟩)) (exec_reg rfl b14 kk (by omega) rfl rfl _) ?_
    refine hK2 _ _ ?_
    clear hK2 K2
    try simp only [Act.put, List.setIfInBounds_toArray, List.set_cons_zero, List.set_cons_succ]
    refine BigFrame.wpList_want (by kernel_rfl) (fun K2 hK2 => ?_)
    refine wp_one (w' := V51) (v := .int .i64 (g kk)) (exec_cell 3 (.tmp 107) rfl ⟨b14, kk, none⟩ rfl _ _ (HXb14.out.cell (j := kk) (by omega)) Tryd.underlying3 rfl) ?_
    refine hK2 _ _ ?_
    clear hK2 K2
    try simp only [Act.put, List.setIfInBounds_toArray, List.set_cons_zero, List.set_cons_succ]
    refine BigFrame.wpList_want (by kernel_rfl) (fun K2 hK2 => ?_)
    refine wp_one (w' := V51) (v := .int .i64 n) rfl ?_
    refine hK2 _ _ ?_
    clear hK2 K2
    try simp only [Act.put, List.setIfInBounds_toArray, List.set_cons_zero, List.set_cons_succ]
    refine BigFrame.wpList_want (by kernel_rfl) (fun K2 hK2 => ?_)
    refine wp_one (w' := V51) (v := .bool true) (exec_eqI rfl rfl rfl (C1.out) V51) ?_
    refine hK2 _ _ ?_
    clear hK2 K2
    try simp only [Act.put, List.setIfInBounds_toArray, List.set_cons_zero, List.set_cons_succ]
    refine BigFrame.wpList_want (by kernel_rfl) (fun K2 hK2 => ?_)
    refine wp_one (w' := V51) (v := .bool true) (by kernel_rfl) ?_
    refine hK2 _ _ ?_
    clear hK2 K2
    try simp only [Act.put, List.setIfInBounds_toArray, List.set_cons_zero, List.set_cons_succ]
    refine BigFrame.wpList_want (by kernel_rfl) (fun K2 hK2 => ?_)
    refine wp_one (w' := V51) (v := .bool true) rfl ?_
    refine hK2 _ _ ?_
    clear hK2 K2
    try simp only [Act.put, List.setIfInBounds_toArray, List.set_cons_zero, List.set_cons_succ]
    refine BigFrame.wpList_want (by kernel_rfl) (fun K2 hK2 => ?_)
    refine wp_one (w' := V51) (v := .int .i64 (kk : Int)) rfl ?_
    refine hK2 _ _ ?_
    clear hK2 K2
    try simp only [Act.put, List.setIfInBounds_toArray, List.set_cons_zero, List.set_cons_succ]
    refine BigFrame.wpList_want (by kernel_rfl) (fun K2 hK2 => ?_)
    refine wp_one (w' := V51) (v := .pointer (some ⟨b19, 0, none⟩)) (by kernel_rfl) ?_
    refine hK2 _ _ ?_
    clear hK2 K2
    try simp only [Act.put, List.setIfInBounds_toArray, List.set_cons_zero, List.set_cons_succ]
    refine BigFrame.wpList_want (by kernel_rfl) (fun K2 hK2 => ?_)
    refine wp_one (w' := V51) (v := .pointer (some ⟨b19, kk, none⟩)) (exec_reg rfl b19 kk (by omega) rfl rfl _) ?_
    refine hK2 _ _ ?_
    clear hK2 K2
    try simp only [Act.put, List.setIfInBounds_toArray, List.set_cons_zero, List.set_cons_succ]
    refine BigFrame.wpList_want (by kernel_rfl) (fun K2 hK2 => ?_)
    refine wp_one (w' := V51) (v := .int .i64 (p kk)) (exec_cell 3 (.tmp 115) rfl ⟨b19, kk, none⟩ rfl _ _ (HXb19.out.cell (j := kk) (by omega)) Tryd.underlying3 rfl) ?_
    refine hK2 _ _ ?_
    clear hK2 K2
    try simp only [Act.put, List.setIfInBounds_toArray, List.set_cons_zero, List.set_cons_succ]
    refine BigFrame.wpList_want (by kernel_rfl) (fun K2 hK2 => ?_)
    refine wp_one (w' := V51) (v := .int .i64 sm) rfl ?_
    refine hK2 _ _ ?_
    clear hK2 K2
    try simp only [Act.put, List.setIfInBounds_toArray, List.set_cons_zero, List.set_cons_succ]
    refine BigFrame.wpList_want (by kernel_rfl) (fun K2 hK2 => ?_)
    refine wp_one (w' := V51) (v := .bool true) (exec_eqI rfl rfl rfl (C2.out) V51) ?_
    refine hK2 _ _ ?_
    clear hK2 K2
    try simp only [Act.put, List.setIfInBounds_toArray, List.set_cons_zero, List.set_cons_succ]
    refine BigFrame.wpList_want (by kernel_rfl) (fun K2 hK2 => ?_)
    refine wp_one (w' := V51) (v := .bool true) (by kernel_rfl) ?_
    refine hK2 _ _ ?_
    clear hK2 K2
    try simp only [Act.put, List.setIfInBounds_toArray, List.set_cons_zero, List.set_cons_succ]
    refine BigFrame.wpList_want (by kernel_rfl) (fun K2 hK2 => ?_)
    refine wp_one (w' := V51) (v := .bool true) rfl ?_
    refine hK2 _ _ ?_
    clear hK2 K2
    try simp only [Act.put, List.setIfInBounds_toArray, List.set_cons_zero, List.set_cons_succ]
    refine BigFrame.wpList_want (by kernel_rfl) (fun K2 hK2 => ?_)
    refine wp_one (w' := V51) (v := .int .i64 (kk : Int)) rfl ?_
    refine hK2 _ _ ?_
    clear hK2 K2
    try simp only [Act.put, List.setIfInBounds_toArray, List.set_cons_zero, List.set_cons_succ]
    refine BigFrame.wpList_want (by kernel_rfl) (fun K2 hK2 => ?_)
    refine wp_one (w' := V51) (v := .pointer (some ⟨b21, 0, none⟩)) (by kernel_rfl) ?_
    refine hK2 _ _ ?_
    clear hK2 K2
    try simp only [Act.put, List.setIfInBounds_toArray, List.set_cons_zero, List.set_cons_succ]
    refine BigFrame.wpList_want (by kernel_rfl) (fun K2 hK2 => ?_)
    refine wp_one (w' := V51) (v := .pointer (some ⟨b21, kk, none⟩)) (exec_reg rfl b21 kk (by omega) rfl rfl _) ?_
    refine hK2 _ _ ?_
    clear hK2 K2
    try simp only [Act.put, List.setIfInBounds_toArray, List.set_cons_zero, List.set_cons_succ]
    refine BigFrame.wpList_want (by kernel_rfl) (fun K2 hK2 => ?_)
    refine wp_one (w' := V51) (v := .int .i64 (q kk)) (exec_cell 3 (.tmp 123) rfl ⟨b21, kk, none⟩ rfl _ _ (HXb21.out.cell (j := kk) (by omega)) Tryd.underlying3 rfl) ?_
    refine hK2 _ _ ?_
    clear hK2 K2
    try simp only [Act.put, List.setIfInBounds_toArray, List.set_cons_zero, List.set_cons_succ]
    refine BigFrame.wpList_want (by kernel_rfl) (fun K2 hK2 => ?_)
    refine wp_one (w' := V51) (v := .int .i64 iv_) rfl ?_
    refine hK2 _ _ ?_
    clear hK2 K2
    try simp only [Act.put, List.setIfInBounds_toArray, List.set_cons_zero, List.set_cons_succ]
    refine BigFrame.wpList_want (by kernel_rfl) (fun K2 hK2 => ?_)
    refine wp_one (w' := V51) (v := .bool true) (exec_eqI rfl rfl rfl (C3.out) V51) ?_
    refine hK2 _ _ ?_
    clear hK2 K2
    try simp only [Act.put, List.setIfInBounds_toArray, List.set_cons_zero, List.set_cons_succ]
    refine BigFrame.wpList_want (by kernel_rfl) (fun K2 hK2 => ?_)
    refine wp_one (w' := V51) (v := .bool true) (by kernel_rfl) ?_
    refine hK2 _ _ ?_
    clear hK2 K2
    try simp only [Act.put, List.setIfInBounds_toArray, List.set_cons_zero, List.set_cons_succ]
    refine BigFrame.wpList_want (by kernel_rfl) (fun K2 hK2 => ?_)
    refine wp_one (w' := V51) (v := .bool true) rfl ?_
    refine hK2 _ _ ?_
    clear hK2 K2
    try simp only [Act.put, List.setIfInBounds_toArray, List.set_cons_zero, List.set_cons_succ]
    refine BigFrame.wpList_want (by kernel_rfl) (fun K2 hK2 => ?_)
    refine wp_one (w' := V51) (v := .pointer (some ⟨b14, 32, none⟩)) (by kernel_rfl) ?_
    refine hK2 _ _ ?_
    clear hK2 K2
    try simp only [Act.put, List.setIfInBounds_toArray, List.set_cons_zero, List.set_cons_succ]
    refine BigFrame.wpList_want (by kernel_rfl) (fun K2 hK2 => ?_)
    refine wp_one (w' := V51) (v := .int .i64 (g 32)) (exec_cell 3 (.tmp 129) rfl ⟨b14, 32, none⟩ rfl _ _ (HXb14.out.cell (j := 32) (by omega)) Tryd.underlying3 rfl) ?_
    refine hK2 _ _ ?_
    clear hK2 K2
    try simp only [Act.put, List.setIfInBounds_toArray, List.set_cons_zero, List.set_cons_succ]
    refine BigFrame.wpList_want (by kernel_rfl) (fun K2 hK2 => ?_)
    refine wp_one (w' := V51) (v := .bool true) (exec_eqI rfl rfl rfl (C4.out) V51) ?_
    refine hK2 _ _ ?_
    clear hK2 K2
    try simp only [Act.put, List.setIfInBounds_toArray, List.set_cons_zero, List.set_cons_succ]
    refine BigFrame.wpList_want (by kernel_rfl) (fun K2 hK2 => ?_)
    refine wp_one (w' := V51) (v := .bool true) (by kernel_rfl) ?_
    refine hK2 _ _ ?_
    clear hK2 K2
    try simp only [Act.put, List.setIfInBounds_toArray, List.set_cons_zero, List.set_cons_succ]
    refine BigFrame.wpList_want (by kernel_rfl) (fun K2 hK2 => ?_)
    refine wp_one (w' := V51) (v := .bool true) rfl ?_
    refine hK2 _ _ ?_
    clear hK2 K2
    try simp only [Act.put, List.setIfInBounds_toArray, List.set_cons_zero, List.set_cons_succ]
    refine wpList_nil ?_
    refine hK _ _ ?_
    clear hK K
    go_wp2
    go_ret
    exact ⟨rfl, HB.out⟩)
theorem operators_any (w : World) {c1 c2 c3 c4 : Int} (hO : OpsAt w) (i2 : inInt c2) (i3 : inInt c3) (i4 : inInt c4) :
    Calls Tryd.prog 5 #[.int .i64 c1, .int .i64 c2, .int .i64 c3, .int .i64 c4] w (OneV (.bool true) w) := by
  obtain ⟨k, r4, lk⟩ := pick_nat c4 31 (by decide)
  obtain ⟨x, r3, lx⟩ := pick_nat c3 12 (by decide)
  obtain ⟨p2, r2⟩ : ∃ p, Plain.pick c2 4096 = p := ⟨_, rfl⟩
  have b2 := Plain.pick_bd c2 4096 (by omega)
  rw [r2] at b2
  obtain ⟨h, hh⟩ : ∃ h, put (put (up (fun _ => 0) 32 8) 3 c1) 4 c2 = h := ⟨_, rfl⟩
  have h3 : h 3 = wrap32 c1 := by rw [← hh]; rfl
  have h4 : h 4 = wrap32 c2 := by rw [← hh]; rfl
  have h32 : h 32 = 8 := by rw [← hh]; rfl
  have kb : 1 ≤ ((k + 1 : Nat) : Int) ∧ ((k + 1 : Nat) : Int) < 32 := by omega
  have pK : ∀ (h : H) (x : Int), put h ((k + 1 : Nat) : Int) x = up h (k + 1) (wrap32 x) := fun h x => by unfold put; rw [if_pos kb, Int.toNat_natCast]
  have gk : ∀ (y : Int), (Ht.go (put h ((k + 1 : Nat) : Int) y) 4) (k + 1) = wrap32 y := fun y => by
    unfold Ht.go
    rw [up_ne _ _ (by omega), pK, up_at]
  have g32 : ∀ (y : Int), (Ht.go (put h ((k + 1 : Nat) : Int) y) 4) 32 = 12 := fun y => by
    unfold Ht.go
    rw [up_at, pK]
    unfold place
    rw [up_ne _ _ (by omega), h32]
    decide +kernel
  have s2 : stepV h 0 ⟨13, ((k + 1 : Nat) : Int), 3, 0, p2 - 2048⟩ = (Ht.go (put h ((k + 1 : Nat) : Int) (Plain.two 1 (h 3) (p2 - 2048))) 4, e0) := by
    unfold stepV
    rw [r_ri (.inl rfl) kb (by omega)]
    rfl
  have s3 : stepV h 0 ⟨16, ((k + 1 : Nat) : Int), 3, 0, -1⟩ = (Ht.go (put h ((k + 1 : Nat) : Int) (Plain.two 8 (h 3) (-1))) 4, e0) := by
    unfold stepV
    rw [r_ri (.inr rfl) kb (by omega)]
    rfl
  have lb : i64 (lop x) := by
    obtain ⟨-, -, -, -, -, -, -, -, -, -, -, -, -, -, -, l1, l2⟩ := lop_op lx
    omega
  exact operators_w w (Lib.hid hO) (Lib.hid i2) (Lib.hid i3) (Lib.hid i4) (Lib.hid r4) (Lib.hid r3) (Lib.hid r2)
    (Lib.hid (by rw [IntWalk.i64_in _ (by omega)]; omega)) (o := (x : Int) + 1) (Lib.hid (by rw [IntWalk.i64_in _ (by omega)]; omega)) (Lib.hid (by rw [IntWalk.i64_in _ (by omega)]; omega)) (s := p2 - 2048) (Lib.hid (IntWalk.i64_in _ (by omega))) lx (by omega) (Lib.hid rfl) (Lib.hid hh)
    (Lib.hid (lop_at lx)) (Lib.hid lb) (Lib.hid (by omega)) (Lib.hid (by omega)) (Lib.hid (by omega)) (Lib.hid (by omega)) (Lib.hid (by omega)) (Lib.hid (by omega)) (Lib.hid (by omega)) (Lib.hid (by omega))
    (Lib.hid (step_rop h lx kb)) (Lib.hid s2) (Lib.hid s3) (Lib.hid rfl) (Lib.hid (by unfold Plain.isTwo; simp; omega)) (Lib.hid rfl) (Lib.hid rfl)
    (Lib.hid (by rw [gk, two_in32, h3, h4, two_cutL, two_cutR])) (Lib.hid (by rw [gk, two_in32, h3, two_cutL])) (Lib.hid (by rw [gk, two_in32, h3, two_cutL, two_inv])) (Lib.hid (g32 _))
end Go.Proofs.YtgcgdjmlngfpeaaDoor
