/- HartNumbers: InLui and InAddi bring any number to a register. -/
import Derived.Test.YtgcgdjmlngfpeaaDoorHDraw2
import Derived.Test.YtgcgdjmlngfpeaaDoorHOpP
import Derived.Test.YtgcgdjmlngfpeaaDoorLLab
namespace Go.Proofs.YtgcgdjmlngfpeaaDoor
open Go.RowKit Ht
open Rv (Ins)
open Lb (number)
set_option linter.unusedVariables false
set_option linter.unusedSimpArgs false
set_option maxHeartbeats 16000000
/-- instructions, one behind the other, somewhere -/
def LAt (w : World) (B F : Nat) (L : List Ins) : Prop := B < w.heap.size ∧ ∀ (j : Nat) (i : Ins), L[j]? = some i → w.rangeAt B (F + j * 5) (cells5 i)
theorem LAt.bel {w w' : World} {B F : Nat} {L : List Ins} (k : LAt w B F L) (hb : Bel w w') : LAt w' B F L :=
  ⟨Nat.lt_of_lt_of_le k.1 hb.size, fun j i hj q v hv => (hb.cell (p := ⟨B, F + j * 5 + q, none⟩) k.1).trans (k.2 j i hj q v hv)⟩
theorem LAt.row {w : World} {B F : Nat} {L : List Ins} (k : LAt w B F L) {g : Nat} (hne : B ≠ g) (cs : Array Value) : LAt (w.setRow g cs) B F L :=
  ⟨by rw [setRow_size]; exact k.1, fun j i hj q v hv => by
    have := k.2 j i hj q v hv
    unfold World.cell? at this ⊢
    rw [setRow_other _ _ _ _ hne]
    exact this⟩
theorem insx_at (b f N C j : Nat) (hj : j < N) (w : World) : (Instr.indexAt 32 (.slice (some ⟨b, f, none⟩) N C) (.int .i64 (j : Int))).run Tryd.prog w = .ok (.pointer (some ⟨b, f + j * 5, none⟩)) w := by
  rw [run_indexAt_slice (P := Tryd.prog) w 32 ⟨b, f, none⟩ N C .i64 (j : Int) (by kernel_rfl), if_pos ⟨by omega, by omega⟩]
  have hs : (sizeOf (Tryd.prog.elem 32)).run Tryd.prog w = .ok 5 w := by kernel_rfl
  rw [hs]
  simp only [Result.andThen_ok, Int.toNat_natCast, Addr.add_mid]
theorem exec_insx {o : Oper} {ρ : Operand → Value} {x y : Operand} (ho : o.op = .indexAddr 32 x y) (b f N C j : Nat) (hj : j < N) (hx : ρ x = .slice (some ⟨b, f, none⟩) N C) (hy : ρ y = .int .i64 (j : Int)) (w : World) :
    (execOp ρ o).run Tryd.prog w = .ok (.value (.pointer (some ⟨b, f + j * 5, none⟩))) w := by
  unfold execOp
  simp only [ho, hx, hy, Sem.run_bind, Sem.run_pure, Result.andThen_ok, insx_at b f N C j hj w]
theorem exec_insl {o : Oper} {ρ : Operand → Value} (x : Operand) (ho : o.op = .load 24 x) (b f : Nat) (hx : ρ x = .pointer (some ⟨b, f, none⟩)) {w : World} {i : Ins} (hr : w.rangeAt b f (cells5 i)) :
    (execOp ρ o).run Tryd.prog w = .ok (.value (iv i.op i.d i.a i.b i.n)) w := by
  have := run_loadVar_mid (P := Tryd.prog) w b f 24 (cells5 i) _ hr Tryd.underlying24 rfl (by kernel_rfl)
  unfold execOp
  simp only [ho, hx, Instr.loadAt, Instr.sureAddr, Sem.run_bind, Sem.run_pure, Result.andThen_ok, this]
  rfl
theorem exec_neE {o : Oper} {ρ : Operand → Value} {x y : Operand} {t' : TypeId} (ho : o.op = .binOp .neq 34 x y t') {e f : Eff} (hx : ρ x = .agg (eC e)) (hy : ρ y = .agg (eC f)) (h : e = f) (w : World) : (execOp ρ o).run Tryd.prog w = .ok (.value (.bool false)) w := by
  subst h
  have he := teq_eff 9998 [e.kind, e.d, e.addr, e.n, e.op] [e.kind, e.d, e.addr, e.n, e.op] rfl rfl w
  rw [decide_eq_true rfl] at he
  have hm : Tryd.prog.eqGuardType Tryd.prog.depth 34 = false := by kernel_rfl
  have he2 : (Op.equalIn 10000 34 (.agg (eC e)) (.agg (eC e))).run Tryd.prog w = .ok true w := he
  unfold execOp
  simp [ho, hx, hy, run_eqGuard_agg, hm, run_eql_struct, run_neq_struct, he2]
theorem wpList_callX {P : Program} {ops : Array Oper} {Q : Exit → Act → World → Prop} {o : Oper} {rest : List Oper} {a : Act} {w : World} (hg : o.guard = none) {f : FuncId} {args : Array Value} {S : Value → World → Prop}
    (h : (execOp a.eval o).run P w = .ok (.enter f args) w) (hc : Calls P f args w (fun e w' => ∃ v, e = .returned v ∧ Bel w w' ∧ S v w')) (hk : ∀ v w', Bel w w' → S v w' → wpList P ops Q rest (a.put o.dst v) w') : wpList P ops Q (o :: rest) a w := by
  refine wpList_plain hg fun K hK => ?_
  unfold Oper.wp
  rw [h, Oper.upon_enter]
  refine hc.mono fun e w'' hh => ?_
  obtain ⟨v, rfl, hb, hs⟩ := hh
  exact hK _ _ (hk _ _ hb hs)
theorem num_lit {d n : Int} {L : List Ins} (e : number d n = L) (hne : 0 < L.length) (w : World) : Calls Tryd.prog 28 #[.int .i64 d, .int .i64 n] w fun e w' => ∃ v, e = .returned v ∧ Bel w w' ∧ ∃ B F c, v = .slice (some ⟨B, F, none⟩) L.length c ∧ LAt w' B F L := by
  refine (number_any d n w).mono fun e' w' hh => ?_
  rw [e] at hh
  obtain ⟨p, c, he, hI, hb⟩ := hh
  obtain ⟨b0, o0, hp, hlt, -⟩ := hI 0 L[0] (by simp [hne])
  subst hp
  refine ⟨_, he, hb.bel, b0, o0, c, rfl, hlt, fun j i hj q v hv => ?_⟩
  obtain ⟨b1, o1, hp1, -, hc1⟩ := hI j i hj
  injection hp1 with hp1
  injection hp1 with e1 e2
  subst e1 e2
  exact hc1 q v hv
set_option maxRecDepth 100000 in
theorem numbers_w (w : World) {P : Option Addr} {N0 C : Nat} {l : List Int} {c1 n n1 m2 p1 q4 : Int} {kk N : Nat} {L : List Ins} {G : Nat → H} (HO : Hid (OpsAt w)) (HN : Hid (l.length = N0)) (HL : Hid (IntsQ w P l)) (HNC : Hid (N0 ≤ C)) (HH : Hid (fitV l = G 0)) (I1 : Hid (inInt c1)) (R1 : Hid (Plain.pick c1 31 = p1)) (A1 : Hid (IntKind.i64.wrap (1 + p1) = (kk : Int))) (kl : kk < 32) (N2 : N ≤ 2)
    (N1 : Hid (wrap32 n = n1)) (LL : Hid (number (kk : Int) n1 = L)) (LN : Hid (L.length = N)) (LP : Hid (0 < L.length)) (NP : Hid (decide ((0 : Int) < (N : Int)) = true)) (HS : Hid (∀ (j : Nat) (i : Ins), L[j]? = some i → Ins.wf i ∧ stepV (G j) 0 i = (G (j + 1), e0)))
    (C1 : Hid (G N kk = n1)) (Q4 : Hid (IntKind.i64.wrap (4 * (N : Int)) = q4)) (M2 : Hid (wrap32 (G 0 32 + q4) = m2)) (C2 : Hid (G N 32 = m2)) :
    Calls Tryd.prog 10 #[.slice P N0 C, .int .i64 c1, .int .i64 n] w (OneV (.bool true) w) := by
  go_enter Tryd.func10, Tryd.ntmps10
  have HB : Hid (Bel w w) := Lib.hid (Bel.refl w)
  go_upto_region 1 with (fail)
  rename_i K hK
  refine wp_region_list ?_
  refine wpList_call rfl (f := 12) (args := #[]) (v := .bool true) (by kernel_rfl) (awake_any (HO.out.bel HB.out)) ?_
  intro V1 hb
  replace HB : Hid (Bel w V1) := Lib.hid (HB.out.trans hb)
  clear hb
  try simp only [Act.put, List.setIfInBounds_toArray, List.set_cons_zero, List.set_cons_succ]
  refine wpList_one rfl (w' := V1) (v := .bool true) rfl ?_
  try simp only [Act.put, List.setIfInBounds_toArray, List.set_cons_zero, List.set_cons_succ]
  refine wpList_nil ?_
  refine hK _ _ ?_
  clear hK K
  go_upto_region 2 with (fail)
  rename_i K hK
  refine wp_region_list ?_
  refine wpList_one rfl (w' := V1) (v := .slice P N0 C) rfl ?_
  try simp only [Act.put, List.setIfInBounds_toArray, List.set_cons_zero, List.set_cons_succ]
  refine wpList_call rfl (f := 13) (args := #[.slice P N0 C]) (v := hv (G 0)) (by kernel_rfl) (fit_lit14 HH.out HN.out (HL.out.bel HB.out) HNC.out) ?_
  intro V2 hb
  replace HB : Hid (Bel w V2) := Lib.hid (HB.out.trans hb)
  clear hb
  try simp only [Act.put, List.setIfInBounds_toArray, List.set_cons_zero, List.set_cons_succ]
  obtain ⟨hb, hx⟩ := box1 V2 hZ 28
  refine wpList_one rfl (w' := V2.alloc (.cells hZ 28)) (v := .pointer (some ⟨V2.heap.size, 0, none⟩)) (by kernel_rfl) ?_
  try simp only [Act.put, List.setIfInBounds_toArray, List.set_cons_zero, List.set_cons_succ]
  have hl := HB.out.size
  generalize V2.alloc (.cells hZ 28) = V3 at hb hx ⊢
  generalize V2.heap.size = b8 at hx hl ⊢
  have HG := Lib.hid hl
  clear hl
  replace HB : Hid (Bel w V3) := Lib.hid (HB.out.trans hb)
  have HXb8 : Hid (HAt V3 b8 (fun _ => 0)) := Lib.hid hx
  clear hb hx
  try simp only [Act.put, List.setIfInBounds_toArray, List.set_cons_zero, List.set_cons_succ]
  refine wpList_store_row rfl 28 (.tmp 8) (.tmp 17) rfl b8 (hC (G 0)) rfl rfl 28 (hC (fun _ => 0)) HXb8.out (sz_hart _) (by rw [hC_size, hC_size]) (hC_ones _) ?_
  have hn := row_same (cs := (hC (G 0))) HXb8.out
  have hb := row_bel HB.out (g := b8) (by have := HG.out; omega) (hC (G 0))
  generalize V3.setRow b8 (hC (G 0)) = V4 at hn hb  ⊢
  clear HB HXb8
  have HB : Hid (Bel w V4) := Lib.hid hb
  have HXb8 : Hid (HAt V4 b8 (G 0)) := Lib.hid hn
  clear hn hb 
  try simp only [Act.put, List.setIfInBounds_toArray, List.set_cons_zero, List.set_cons_succ]
  refine wpList_nil ?_
  refine hK _ _ ?_
  clear hK K
  go_upto_region 3 with (fail)
  rename_i K hK
  refine wp_region_list ?_
  refine wpList_one rfl (w' := V4) (v := .int .i64 c1) rfl ?_
  try simp only [Act.put, List.setIfInBounds_toArray, List.set_cons_zero, List.set_cons_succ]
  refine wpList_call rfl (f := 15) (args := #[.int .i64 c1, .int .i64 31]) (v := .int .i64 p1) (by kernel_rfl) (pk I1.out (by decide) R1.out _) ?_
  intro V5 hb
  replace HB : Hid (Bel w V5) := Lib.hid (HB.out.trans hb)
  replace HXb8 : Hid (HAt V5 b8 (G 0)) := Lib.hid (HXb8.out.bel hb)
  clear hb
  try simp only [Act.put, List.setIfInBounds_toArray, List.set_cons_zero, List.set_cons_succ]
  refine wpList_one rfl (w' := V5) (v := .int .i64 (kk : Int)) (exec_add rfl rfl rfl A1.out _) ?_
  try simp only [Act.put, List.setIfInBounds_toArray, List.set_cons_zero, List.set_cons_succ]
  refine wpList_one rfl (w' := V5) (v := .int .i64 (kk : Int)) rfl ?_
  try simp only [Act.put, List.setIfInBounds_toArray, List.set_cons_zero, List.set_cons_succ]
  refine wpList_nil ?_
  refine hK _ _ ?_
  clear hK K
  go_upto_region 4 with (fail)
  rename_i K hK
  refine wp_region_list ?_
  refine wpList_one rfl (w' := V5) (v := .int .i64 (kk : Int)) rfl ?_
  try simp only [Act.put, List.setIfInBounds_toArray, List.set_cons_zero, List.set_cons_succ]
  refine wpList_one rfl (w' := V5) (v := .int .i64 n) rfl ?_
  try simp only [Act.put, List.setIfInBounds_toArray, List.set_cons_zero, List.set_cons_succ]
  refine wpList_call rfl (f := 27) (args := #[.int .i64 n]) (v := .int .i64 n1) (by kernel_rfl) (wl N1.out _) ?_
  intro V6 hb
  replace HB : Hid (Bel w V6) := Lib.hid (HB.out.trans hb)
  replace HXb8 : Hid (HAt V6 b8 (G 0)) := Lib.hid (HXb8.out.bel hb)
  clear hb
  try simp only [Act.put, List.setIfInBounds_toArray, List.set_cons_zero, List.set_cons_succ]
  refine wpList_callX rfl (f := 28) (args := #[.int .i64 (kk : Int), .int .i64 n1]) (by kernel_rfl) (num_lit LL.out LP.out _) ?_
  rintro v24 V7 hb ⟨bL, F, cL, rfl, hLA⟩
  rw [LN.out]
  replace HB : Hid (Bel w V7) := Lib.hid (HB.out.trans hb)
  replace HXb8 : Hid (HAt V7 b8 (G 0)) := Lib.hid (HXb8.out.bel hb)
  have HXbL : Hid (LAt V7 bL F L) := Lib.hid hLA
  clear hb hLA
  try simp only [Act.put, List.setIfInBounds_toArray, List.set_cons_zero, List.set_cons_succ]
  refine wpList_one rfl (w' := V7) (v := .slice (some ⟨bL, F, none⟩) N cL) rfl ?_
  try simp only [Act.put, List.setIfInBounds_toArray, List.set_cons_zero, List.set_cons_succ]
  refine wpList_nil ?_
  refine hK _ _ ?_
  clear hK K
  go_upto_region 5 with (fail)
  rename_i K hK
  refine wp_region_list ?_
  refine wpList_load_row rfl 28 (.tmp 8) rfl b8 rfl 28 (hC (G 0)) (0, 0) _ HXb8.out Tryd.underlying28 rfl (sz_hart _) ?_
  try simp only [Act.put, List.setIfInBounds_toArray, List.set_cons_zero, List.set_cons_succ]
  obtain ⟨hb, hx⟩ := box1 V7 hZ 28
  refine wpList_one rfl (w' := V7.alloc (.cells hZ 28)) (v := .pointer (some ⟨V7.heap.size, 0, none⟩)) (by kernel_rfl) ?_
  try simp only [Act.put, List.setIfInBounds_toArray, List.set_cons_zero, List.set_cons_succ]
  have hl := And.intro (lt_of_heap HXb8.out) (HXbL.out.1)
  generalize V7.alloc (.cells hZ 28) = V8 at hb hx ⊢
  generalize V7.heap.size = b11 at hx hl ⊢
  have HG1 := Lib.hid hl
  clear hl
  replace HB : Hid (Bel w V8) := Lib.hid (HB.out.trans hb)
  replace HXb8 : Hid (HAt V8 b8 (G 0)) := Lib.hid (HXb8.out.bel hb)
  replace HXbL : Hid (LAt V8 bL F L) := Lib.hid (HXbL.out.bel hb)
  have HXb11 : Hid (HAt V8 b11 (fun _ => 0)) := Lib.hid hx
  clear hb hx
  try simp only [Act.put, List.setIfInBounds_toArray, List.set_cons_zero, List.set_cons_succ]
  refine wpList_store_row rfl 28 (.tmp 11) (.tmp 25) rfl b11 (hC (G 0)) rfl rfl 28 (hC (fun _ => 0)) HXb11.out (sz_hart _) (by rw [hC_size, hC_size]) (hC_ones _) ?_
  have hn := row_same (cs := (hC (G 0))) HXb11.out
  have hb := row_bel HB.out (g := b11) (by have := HG.out; have := HG1.out; omega) (hC (G 0))
  have hb8 := (setRow_other V8 b11 b8 (hC (G 0)) (by have := HG.out; have := HG1.out; omega)).trans HXb8.out
  have hbL := HXbL.out.row (g := b11) (by have := HG.out; have := HG1.out; omega) (hC (G 0))
  generalize V8.setRow b11 (hC (G 0)) = V9 at hn hb hb8 hbL ⊢
  clear HB HXb8 HXbL HXb11
  have HB : Hid (Bel w V9) := Lib.hid hb
  have HXb8 : Hid (HAt V9 b8 (G 0)) := Lib.hid hb8
  have HXbL : Hid (LAt V9 bL F L) := Lib.hid hbL
  have HXb11 : Hid (HAt V9 b11 (G 0)) := Lib.hid hn
  clear hn hb hb8 hbL
  try simp only [Act.put, List.setIfInBounds_toArray, List.set_cons_zero, List.set_cons_succ]
  refine wpList_nil ?_
  refine hK _ _ ?_
  clear hK K
  go_wp2
  go_loopw [12] (fun i wx => ∃ (j : Nat), j ≤ N ∧ i = .int .i64 j ∧ Hid (Bel w wx) ∧ Hid (HAt wx b8 (G 0)) ∧ Hid (HAt wx b11 (G j)) ∧ Hid (LAt wx bL F L)) (fun i _ => N - (intOf i).toNat)
  case atStart => exact ⟨0, by omega, rfl, HB, HXb8, HXb11, HXbL⟩
  case round =>
    clear HB HXb8 HXb11 HXbL
    obtain ⟨j, hj1, rfl, HB, HXb8, HXb11, HXbL⟩ := hrel
    by_cases hj : j < N
    · have i1 : (j : Int) < N := by omega
      obtain ⟨i, hi⟩ : ∃ i, L[j]? = some i := ⟨L[j]'(by have := LN.out; omega), by simp⟩
      obtain ⟨hwf, hst⟩ := HS.out j i hi
      obtain ⟨io, id', ia, ib, in'⟩ := i
      have ST := Lib.hid hst
      have WF := Lib.hid hwf
      have HI := Lib.hid hi
      clear hst hwf hi
      go_upto_region 9 with (fail)
      rename_i K hK
      exact wp_meet2b _ (fun b13 b14 V38 => Bel w V38 ∧ HAt V38 b8 (G 0) ∧ HAt V38 b11 (G j) ∧ LAt V38 bL F L ∧ HAt V38 b13 (G (j + 1)) ∧ EfAt V38 b14 e0 ∧ (b11 < b13) ∧ (b11 < b14) ∧ b13 ≠ b14) (by
        refine Upto.begin (z := 12) (T := fun w' => HAt w' b11 (G j) ∧ LAt w' bL F L) (by kernel_rfl) ?_
        have hb : Bel wr wr.drew := (Bel.refl wr).drew
        generalize wr.drew = V10 at hb ⊢
        replace HB : Hid (Bel w V10) := Lib.hid (HB.out.trans hb)
        replace HXb8 : Hid (HAt V10 b8 (G 0)) := Lib.hid (HXb8.out.bel hb)
        replace HXb11 : Hid (HAt V10 b11 (G j)) := Lib.hid (HXb11.out.bel hb)
        replace HXbL : Hid (LAt V10 bL F L) := Lib.hid (HXbL.out.bel hb)
        clear hb
        have hT : HAt V10 b11 (G j) ∧ LAt V10 bL F L := ⟨HXb11.out, HXbL.out⟩
        refine takeU 33 (i := 0) (v := hv (G j)) rfl rfl rfl (by kernel_rfl) (by kernel_rfl) (by kernel_rfl) (by kernel_rfl) (fun _ _ _ h => nomatch h.1) (by kernel_rfl) (fun w0 hS => (exec_row 28 (.tmp 11) rfl b11 rfl 28 (hC (G j)) (0, 0) _ hS.1 Tryd.underlying28 rfl (sz_hart _))) hT ?_
        try simp only [List.setIfInBounds_toArray, List.set_cons_zero, List.set_cons_succ]
        refine takeU 34 (i := 1) (v := .slice (some ⟨bL, F, none⟩) N cL) rfl rfl rfl (by kernel_rfl) (by kernel_rfl) (by kernel_rfl) (by kernel_rfl) (fun _ _ _ h => nomatch h.1) (by kernel_rfl) (fun w0 hS => rfl) hT ?_
        try simp only [List.setIfInBounds_toArray, List.set_cons_zero, List.set_cons_succ]
        refine takeU 35 (i := 2) (v := .int .i64 (j : Int)) rfl rfl rfl (by kernel_rfl) (by kernel_rfl) (by kernel_rfl) (by kernel_rfl) (fun _ _ _ h => nomatch h.1) (by kernel_rfl) (fun w0 hS => rfl) hT ?_
        try simp only [List.setIfInBounds_toArray, List.set_cons_zero, List.set_cons_succ]
        refine takeU 36 (i := 3) (v := .pointer (some ⟨bL, (F + j * 5), none⟩)) rfl rfl rfl (by kernel_rfl) (by kernel_rfl) (by kernel_rfl) (by kernel_rfl) (fun _ _ _ h => nomatch h.1) (by kernel_rfl) (fun w0 hS => (exec_insx rfl bL F N cL j hj rfl rfl _)) hT ?_
        try simp only [List.setIfInBounds_toArray, List.set_cons_zero, List.set_cons_succ]
        refine takeU 37 (i := 4) (v := iv io id' ia ib in') rfl rfl rfl (by kernel_rfl) (by kernel_rfl) (by kernel_rfl) (by kernel_rfl) (fun _ _ _ h => nomatch h.1) (by kernel_rfl) (fun w0 hS => (exec_insl (.tmp 36) rfl bL (F + j * 5) rfl (hS.2.2 j _ HI.out))) hT ?_
        try simp only [List.setIfInBounds_toArray, List.set_cons_zero, List.set_cons_succ]
        refine Upto.three (i := 5) (j := 9) (l := 10) (by kernel_rfl) ?_ ?_ ?_
        ·
          refine callC 38 (i := 5) rfl rfl (by kernel_rfl) (f := 16) (args := #[hv (G j), .int .i64 0, iv io id' ia ib in']) (v := .tuple #[hv (G (j + 1)), .agg (eC e0)]) (by kernel_rfl) (st HO HB.out WF.out ST.out) (fun w' hb => ⟨HXb11.out.bel hb, HXbL.out.bel hb⟩) ?_
          intro V11 hb
          try simp only [List.setIfInBounds_toArray, List.set_cons_zero, List.set_cons_succ]
          replace HB : Hid (Bel w V11) := Lib.hid (HB.out.trans hb)
          replace HXb8 : Hid (HAt V11 b8 (G 0)) := Lib.hid (HXb8.out.bel hb)
          replace HXb11 : Hid (HAt V11 b11 (G j)) := Lib.hid (HXb11.out.bel hb)
          replace HXbL : Hid (LAt V11 bL F L) := Lib.hid (HXbL.out.bel hb)
          clear hb hT
          have hT : HAt V11 b11 (G j) ∧ LAt V11 bL F L := ⟨HXb11.out, HXbL.out⟩
          refine takeU 32 (i := 6) (v := .tuple #[hv (G (j + 1)), .agg (eC e0)]) rfl rfl rfl (by kernel_rfl) (by kernel_rfl) (by kernel_rfl) (by kernel_rfl) (fun _ _ _ h => nomatch h.1) (by kernel_rfl) (fun w0 hS => rfl) hT ?_
          try simp only [List.setIfInBounds_toArray, List.set_cons_zero, List.set_cons_succ]
          refine takeU 39 (i := 7) (v := hv (G (j + 1))) rfl rfl rfl (by kernel_rfl) (by kernel_rfl) (by kernel_rfl) (by kernel_rfl) (fun _ _ _ h => nomatch h.1) (by kernel_rfl) (fun w0 hS => rfl) hT ?_
          try simp only [List.setIfInBounds_toArray, List.set_cons_zero, List.set_cons_succ]
          refine takeU 40 (i := 8) (v := .agg (eC e0)) rfl rfl rfl (by kernel_rfl) (by kernel_rfl) (by kernel_rfl) (by kernel_rfl) (fun _ _ _ h => nomatch h.1) (by kernel_rfl) (fun w0 hS => rfl) hT ?_
          try simp only [List.setIfInBounds_toArray, List.set_cons_zero, List.set_cons_succ]
          refine Upto.two (i := 9) (j := 10) (by kernel_rfl) ?_ ?_
          ·
            obtain ⟨hb, hx⟩ := box1 V11 hZ 28
            refine stepC 13 (i := 9) rfl rfl (by kernel_rfl) (w' := V11.alloc (.cells hZ 28)) (v := .pointer (some ⟨V11.heap.size, 0, none⟩)) (by kernel_rfl) (⟨HXb11.out.bel hb, HXbL.out.bel hb⟩) ?_
            try simp only [List.setIfInBounds_toArray, List.set_cons_zero, List.set_cons_succ]
            have hl := lt_of_heap HXb11.out
            clear hT
            generalize V11.alloc (.cells hZ 28) = V12 at hb hx ⊢
            generalize V11.heap.size = b13 at hx hl ⊢
            have HG2 := Lib.hid hl
            clear hl
            replace HB : Hid (Bel w V12) := Lib.hid (HB.out.trans hb)
            replace HXb8 : Hid (HAt V12 b8 (G 0)) := Lib.hid (HXb8.out.bel hb)
            replace HXb11 : Hid (HAt V12 b11 (G j)) := Lib.hid (HXb11.out.bel hb)
            replace HXbL : Hid (LAt V12 bL F L) := Lib.hid (HXbL.out.bel hb)
            have HXb13 : Hid (HAt V12 b13 (fun _ => 0)) := Lib.hid hx
            clear hb hx
            have hT : HAt V12 b11 (G j) ∧ LAt V12 bL F L := ⟨HXb11.out, HXbL.out⟩
            refine Upto.one (i := 10) (by kernel_rfl) ?_
            obtain ⟨hb, hx⟩ := box1 V12 (eC e0) 34
            refine stepC 14 (i := 10) rfl rfl (by kernel_rfl) (w' := V12.alloc (.cells (eC e0) 34)) (v := .pointer (some ⟨V12.heap.size, 0, none⟩)) (by kernel_rfl) (⟨HXb11.out.bel hb, HXbL.out.bel hb⟩) ?_
            try simp only [List.setIfInBounds_toArray, List.set_cons_zero, List.set_cons_succ]
            have hl := lt_of_heap HXb13.out
            clear hT
            generalize V12.alloc (.cells (eC e0) 34) = V13 at hb hx ⊢
            generalize V12.heap.size = b14 at hx hl ⊢
            have HG3 := Lib.hid hl
            clear hl
            replace HB : Hid (Bel w V13) := Lib.hid (HB.out.trans hb)
            replace HXb8 : Hid (HAt V13 b8 (G 0)) := Lib.hid (HXb8.out.bel hb)
            replace HXb11 : Hid (HAt V13 b11 (G j)) := Lib.hid (HXb11.out.bel hb)
            replace HXbL : Hid (LAt V13 bL F L) := Lib.hid (HXbL.out.bel hb)
            replace HXb13 : Hid (HAt V13 b13 (fun _ => 0)) := Lib.hid (HXb13.out.bel hb)
            have HXb14 : Hid (EfAt V13 b14 e0) := Lib.hid hx
            clear hb hx
            have hT : HAt V13 b11 (G j) ∧ LAt V13 bL F L := ⟨HXb11.out, HXbL.out⟩
            have hn := row_same (cs := (hC (G (j + 1)))) HXb13.out
            have hb := row_bel HB.out (g := b13) (by have := HG.out; have := HG1.out; have := HG2.out; have := HG3.out; omega) (hC (G (j + 1)))
            have hb8 := (setRow_other V13 b13 b8 (hC (G (j + 1))) (by have := HG.out; have := HG1.out; have := HG2.out; have := HG3.out; omega)).trans HXb8.out
            have hb11 := (setRow_other V13 b13 b11 (hC (G (j + 1))) (by have := HG.out; have := HG1.out; have := HG2.out; have := HG3.out; omega)).trans HXb11.out
            have hbL := HXbL.out.row (g := b13) (by have := HG.out; have := HG1.out; have := HG2.out; have := HG3.out; omega) (hC (G (j + 1)))
            have hb14 := (setRow_other V13 b13 b14 (hC (G (j + 1))) (by have := HG.out; have := HG1.out; have := HG2.out; have := HG3.out; omega)).trans HXb14.out
            refine rowU (i := 11) rfl rfl (by kernel_rfl) (by kernel_rfl) 28 (.tmp 13) (.tmp 39) rfl b13 (hC (G (j + 1))) rfl rfl 28 (hC (fun _ => 0)) HXb13.out (sz_hart _) (by rw [hC_size, hC_size]) (hC_ones _) (⟨hb11, hbL⟩) ?_
            generalize V13.setRow b13 (hC (G (j + 1))) = V14 at hn hb hb8 hb11 hbL hb14 ⊢
            clear hT HB HXb8 HXb11 HXbL HXb13 HXb14
            have HB : Hid (Bel w V14) := Lib.hid hb
            have HXb8 : Hid (HAt V14 b8 (G 0)) := Lib.hid hb8
            have HXb11 : Hid (HAt V14 b11 (G j)) := Lib.hid hb11
            have HXbL : Hid (LAt V14 bL F L) := Lib.hid hbL
            have HXb14 : Hid (EfAt V14 b14 e0) := Lib.hid hb14
            have HXb13 : Hid (HAt V14 b13 (G (j + 1))) := Lib.hid hn
            clear hn hb hb8 hb11 hbL hb14
            have hT : HAt V14 b11 (G j) ∧ LAt V14 bL F L := ⟨HXb11.out, HXbL.out⟩
            have hn := row_same (cs := (eC e0)) HXb14.out
            have hb := row_bel HB.out (g := b14) (by have := HG.out; have := HG1.out; have := HG2.out; have := HG3.out; omega) (eC e0)
            have hb8 := (setRow_other V14 b14 b8 (eC e0) (by have := HG.out; have := HG1.out; have := HG2.out; have := HG3.out; omega)).trans HXb8.out
            have hb11 := (setRow_other V14 b14 b11 (eC e0) (by have := HG.out; have := HG1.out; have := HG2.out; have := HG3.out; omega)).trans HXb11.out
            have hbL := HXbL.out.row (g := b14) (by have := HG.out; have := HG1.out; have := HG2.out; have := HG3.out; omega) (eC e0)
            have hb13 := (setRow_other V14 b14 b13 (eC e0) (by have := HG.out; have := HG1.out; have := HG2.out; have := HG3.out; omega)).trans HXb13.out
            refine rowL rfl rfl (by kernel_rfl) (by kernel_rfl) 34 (.tmp 14) (.tmp 40) rfl b14 (eC e0) rfl rfl 34 (eC e0) HXb14.out (sz_eff _) rfl (eC_ones _) ?_
            generalize V14.setRow b14 (eC e0) = V15 at hn hb hb8 hb11 hbL hb13 ⊢
            clear hT HB HXb8 HXb11 HXbL HXb13 HXb14
            have HB : Hid (Bel w V15) := Lib.hid hb
            have HXb8 : Hid (HAt V15 b8 (G 0)) := Lib.hid hb8
            have HXb11 : Hid (HAt V15 b11 (G j)) := Lib.hid hb11
            have HXbL : Hid (LAt V15 bL F L) := Lib.hid hbL
            have HXb13 : Hid (HAt V15 b13 (G (j + 1))) := Lib.hid hb13
            have HXb14 : Hid (EfAt V15 b14 e0) := Lib.hid hn
            clear hn hb hb8 hb11 hbL hb13
            have hT := True.intro
            refine Upto.done (by kernel_rfl) ?_ _
            clear hT
            exact ⟨rfl, b13, b14, rfl, HB.out, HXb8.out, HXb11.out, HXbL.out, HXb13.out, HXb14.out, (by have := HG2.out; have := HG3.out; omega), (by have := HG2.out; have := HG3.out; omega), (by have := HG2.out; have := HG3.out; omega)⟩
          ·
            obtain ⟨hb, hx⟩ := box1 V11 (eC e0) 34
            refine stepC 14 (i := 10) rfl rfl (by kernel_rfl) (w' := V11.alloc (.cells (eC e0) 34)) (v := .pointer (some ⟨V11.heap.size, 0, none⟩)) (by kernel_rfl) (⟨HXb11.out.bel hb, HXbL.out.bel hb⟩) ?_
            try simp only [List.setIfInBounds_toArray, List.set_cons_zero, List.set_cons_succ]
            have hl := lt_of_heap HXb11.out
            clear hT
            generalize V11.alloc (.cells (eC e0) 34) = V16 at hb hx ⊢
            generalize V11.heap.size = b14 at hx hl ⊢
            have HG2 := Lib.hid hl
            clear hl
            replace HB : Hid (Bel w V16) := Lib.hid (HB.out.trans hb)
            replace HXb8 : Hid (HAt V16 b8 (G 0)) := Lib.hid (HXb8.out.bel hb)
            replace HXb11 : Hid (HAt V16 b11 (G j)) := Lib.hid (HXb11.out.bel hb)
            replace HXbL : Hid (LAt V16 bL F L) := Lib.hid (HXbL.out.bel hb)
            have HXb14 : Hid (EfAt V16 b14 e0) := Lib.hid hx
            clear hb hx
            have hT : HAt V16 b11 (G j) ∧ LAt V16 bL F L := ⟨HXb11.out, HXbL.out⟩
            refine Upto.one (i := 9) (by kernel_rfl) ?_
            obtain ⟨hb, hx⟩ := box1 V16 hZ 28
            refine stepC 13 (i := 9) rfl rfl (by kernel_rfl) (w' := V16.alloc (.cells hZ 28)) (v := .pointer (some ⟨V16.heap.size, 0, none⟩)) (by kernel_rfl) (⟨HXb11.out.bel hb, HXbL.out.bel hb⟩) ?_
            try simp only [List.setIfInBounds_toArray, List.set_cons_zero, List.set_cons_succ]
            have hl := lt_of_heap HXb14.out
            clear hT
            generalize V16.alloc (.cells hZ 28) = V17 at hb hx ⊢
            generalize V16.heap.size = b13 at hx hl ⊢
            have HG3 := Lib.hid hl
            clear hl
            replace HB : Hid (Bel w V17) := Lib.hid (HB.out.trans hb)
            replace HXb8 : Hid (HAt V17 b8 (G 0)) := Lib.hid (HXb8.out.bel hb)
            replace HXb11 : Hid (HAt V17 b11 (G j)) := Lib.hid (HXb11.out.bel hb)
            replace HXbL : Hid (LAt V17 bL F L) := Lib.hid (HXbL.out.bel hb)
            replace HXb14 : Hid (EfAt V17 b14 e0) := Lib.hid (HXb14.out.bel hb)
            have HXb13 : Hid (HAt V17 b13 (fun _ => 0)) := Lib.hid hx
            clear hb hx
            have hT : HAt V17 b11 (G j) ∧ LAt V17 bL F L := ⟨HXb11.out, HXbL.out⟩
            have hn := row_same (cs := (hC (G (j + 1)))) HXb13.out
            have hb := row_bel HB.out (g := b13) (by have := HG.out; have := HG1.out; have := HG2.out; have := HG3.out; omega) (hC (G (j + 1)))
            have hb8 := (setRow_other V17 b13 b8 (hC (G (j + 1))) (by have := HG.out; have := HG1.out; have := HG2.out; have := HG3.out; omega)).trans HXb8.out
            have hb11 := (setRow_other V17 b13 b11 (hC (G (j + 1))) (by have := HG.out; have := HG1.out; have := HG2.out; have := HG3.out; omega)).trans HXb11.out
            have hbL := HXbL.out.row (g := b13) (by have := HG.out; have := HG1.out; have := HG2.out; have := HG3.out; omega) (hC (G (j + 1)))
            have hb14 := (setRow_other V17 b13 b14 (hC (G (j + 1))) (by have := HG.out; have := HG1.out; have := HG2.out; have := HG3.out; omega)).trans HXb14.out
            refine rowU (i := 11) rfl rfl (by kernel_rfl) (by kernel_rfl) 28 (.tmp 13) (.tmp 39) rfl b13 (hC (G (j + 1))) rfl rfl 28 (hC (fun _ => 0)) HXb13.out (sz_hart _) (by rw [hC_size, hC_size]) (hC_ones _) (⟨hb11, hbL⟩) ?_
            generalize V17.setRow b13 (hC (G (j + 1))) = V18 at hn hb hb8 hb11 hbL hb14 ⊢
            clear hT HB HXb8 HXb11 HXbL HXb14 HXb13
            have HB : Hid (Bel w V18) := Lib.hid hb
            have HXb8 : Hid (HAt V18 b8 (G 0)) := Lib.hid hb8
            have HXb11 : Hid (HAt V18 b11 (G j)) := Lib.hid hb11
            have HXbL : Hid (LAt V18 bL F L) := Lib.hid hbL
            have HXb14 : Hid (EfAt V18 b14 e0) := Lib.hid hb14
            have HXb13 : Hid (HAt V18 b13 (G (j + 1))) := Lib.hid hn
            clear hn hb hb8 hb11 hbL hb14
            have hT : HAt V18 b11 (G j) ∧ LAt V18 bL F L := ⟨HXb11.out, HXbL.out⟩
            have hn := row_same (cs := (eC e0)) HXb14.out
            have hb := row_bel HB.out (g := b14) (by have := HG.out; have := HG1.out; have := HG2.out; have := HG3.out; omega) (eC e0)
            have hb8 := (setRow_other V18 b14 b8 (eC e0) (by have := HG.out; have := HG1.out; have := HG2.out; have := HG3.out; omega)).trans HXb8.out
            have hb11 := (setRow_other V18 b14 b11 (eC e0) (by have := HG.out; have := HG1.out; have := HG2.out; have := HG3.out; omega)).trans HXb11.out
            have hbL := HXbL.out.row (g := b14) (by have := HG.out; have := HG1.out; have := HG2.out; have := HG3.out; omega) (eC e0)
            have hb13 := (setRow_other V18 b14 b13 (eC e0) (by have := HG.out; have := HG1.out; have := HG2.out; have := HG3.out; omega)).trans HXb13.out
            refine rowL rfl rfl (by kernel_rfl) (by kernel_rfl) 34 (.tmp 14) (.tmp 40) rfl b14 (eC e0) rfl rfl 34 (eC e0) HXb14.out (sz_eff _) rfl (eC_ones _) ?_
            generalize V18.setRow b14 (eC e0) = V19 at hn hb hb8 hb11 hbL hb13 ⊢
            clear hT HB HXb8 HXb11 HXbL HXb14 HXb13
            have HB : Hid (Bel w V19) := Lib.hid hb
            have HXb8 : Hid (HAt V19 b8 (G 0)) := Lib.hid hb8
            have HXb11 : Hid (HAt V19 b11 (G j)) := Lib.hid hb11
            have HXbL : Hid (LAt V19 bL F L) := Lib.hid hbL
            have HXb13 : Hid (HAt V19 b13 (G (j + 1))) := Lib.hid hb13
            have HXb14 : Hid (EfAt V19 b14 e0) := Lib.hid hn
            clear hn hb hb8 hb11 hbL hb13
            have hT := True.intro
            refine Upto.done (by kernel_rfl) ?_ _
            clear hT
            exact ⟨rfl, b13, b14, rfl, HB.out, HXb8.out, HXb11.out, HXbL.out, HXb13.out, HXb14.out, (by have := HG2.out; have := HG3.out; omega), (by have := HG2.out; have := HG3.out; omega), (by have := HG2.out; have := HG3.out; omega)⟩
        ·
          obtain ⟨hb, hx⟩ := box1 V10 hZ 28
          refine stepC 13 (i := 9) rfl rfl (by kernel_rfl) (w' := V10.alloc (.cells hZ 28)) (v := .pointer (some ⟨V10.heap.size, 0, none⟩)) (by kernel_rfl) (⟨HXb11.out.bel hb, HXbL.out.bel hb⟩) ?_
          try simp only [List.setIfInBounds_toArray, List.set_cons_zero, List.set_cons_succ]
          have hl := lt_of_heap HXb11.out
          clear hT
          generalize V10.alloc (.cells hZ 28) = V20 at hb hx ⊢
          generalize V10.heap.size = b13 at hx hl ⊢
          have HG2 := Lib.hid hl
          clear hl
          replace HB : Hid (Bel w V20) := Lib.hid (HB.out.trans hb)
          replace HXb8 : Hid (HAt V20 b8 (G 0)) := Lib.hid (HXb8.out.bel hb)
          replace HXb11 : Hid (HAt V20 b11 (G j)) := Lib.hid (HXb11.out.bel hb)
          replace HXbL : Hid (LAt V20 bL F L) := Lib.hid (HXbL.out.bel hb)
          have HXb13 : Hid (HAt V20 b13 (fun _ => 0)) := Lib.hid hx
          clear hb hx
          have hT : HAt V20 b11 (G j) ∧ LAt V20 bL F L := ⟨HXb11.out, HXbL.out⟩
          refine Upto.two (i := 5) (j := 10) (by kernel_rfl) ?_ ?_
          ·
            refine callC 38 (i := 5) rfl rfl (by kernel_rfl) (f := 16) (args := #[hv (G j), .int .i64 0, iv io id' ia ib in']) (v := .tuple #[hv (G (j + 1)), .agg (eC e0)]) (by kernel_rfl) (st HO HB.out WF.out ST.out) (fun w' hb => ⟨HXb11.out.bel hb, HXbL.out.bel hb⟩) ?_
            intro V21 hb
            try simp only [List.setIfInBounds_toArray, List.set_cons_zero, List.set_cons_succ]
            replace HB : Hid (Bel w V21) := Lib.hid (HB.out.trans hb)
            replace HXb8 : Hid (HAt V21 b8 (G 0)) := Lib.hid (HXb8.out.bel hb)
            replace HXb11 : Hid (HAt V21 b11 (G j)) := Lib.hid (HXb11.out.bel hb)
            replace HXbL : Hid (LAt V21 bL F L) := Lib.hid (HXbL.out.bel hb)
            replace HXb13 : Hid (HAt V21 b13 (fun _ => 0)) := Lib.hid (HXb13.out.bel hb)
            clear hb hT
            have hT : HAt V21 b11 (G j) ∧ LAt V21 bL F L := ⟨HXb11.out, HXbL.out⟩
            refine takeU 32 (i := 6) (v := .tuple #[hv (G (j + 1)), .agg (eC e0)]) rfl rfl rfl (by kernel_rfl) (by kernel_rfl) (by kernel_rfl) (by kernel_rfl) (fun _ _ _ h => nomatch h.1) (by kernel_rfl) (fun w0 hS => rfl) hT ?_
            try simp only [List.setIfInBounds_toArray, List.set_cons_zero, List.set_cons_succ]
            refine takeU 39 (i := 7) (v := hv (G (j + 1))) rfl rfl rfl (by kernel_rfl) (by kernel_rfl) (by kernel_rfl) (by kernel_rfl) (fun _ _ _ h => nomatch h.1) (by kernel_rfl) (fun w0 hS => rfl) hT ?_
            try simp only [List.setIfInBounds_toArray, List.set_cons_zero, List.set_cons_succ]
            refine takeU 40 (i := 8) (v := .agg (eC e0)) rfl rfl rfl (by kernel_rfl) (by kernel_rfl) (by kernel_rfl) (by kernel_rfl) (fun _ _ _ h => nomatch h.1) (by kernel_rfl) (fun w0 hS => rfl) hT ?_
            try simp only [List.setIfInBounds_toArray, List.set_cons_zero, List.set_cons_succ]
            refine Upto.one (i := 10) (by kernel_rfl) ?_
            obtain ⟨hb, hx⟩ := box1 V21 (eC e0) 34
            refine stepC 14 (i := 10) rfl rfl (by kernel_rfl) (w' := V21.alloc (.cells (eC e0) 34)) (v := .pointer (some ⟨V21.heap.size, 0, none⟩)) (by kernel_rfl) (⟨HXb11.out.bel hb, HXbL.out.bel hb⟩) ?_
            try simp only [List.setIfInBounds_toArray, List.set_cons_zero, List.set_cons_succ]
            have hl := lt_of_heap HXb13.out
            clear hT
            generalize V21.alloc (.cells (eC e0) 34) = V22 at hb hx ⊢
            generalize V21.heap.size = b14 at hx hl ⊢
            have HG3 := Lib.hid hl
            clear hl
            replace HB : Hid (Bel w V22) := Lib.hid (HB.out.trans hb)
            replace HXb8 : Hid (HAt V22 b8 (G 0)) := Lib.hid (HXb8.out.bel hb)
            replace HXb11 : Hid (HAt V22 b11 (G j)) := Lib.hid (HXb11.out.bel hb)
            replace HXbL : Hid (LAt V22 bL F L) := Lib.hid (HXbL.out.bel hb)
            replace HXb13 : Hid (HAt V22 b13 (fun _ => 0)) := Lib.hid (HXb13.out.bel hb)
            have HXb14 : Hid (EfAt V22 b14 e0) := Lib.hid hx
            clear hb hx
            have hT : HAt V22 b11 (G j) ∧ LAt V22 bL F L := ⟨HXb11.out, HXbL.out⟩
            have hn := row_same (cs := (hC (G (j + 1)))) HXb13.out
            have hb := row_bel HB.out (g := b13) (by have := HG.out; have := HG1.out; have := HG2.out; have := HG3.out; omega) (hC (G (j + 1)))
            have hb8 := (setRow_other V22 b13 b8 (hC (G (j + 1))) (by have := HG.out; have := HG1.out; have := HG2.out; have := HG3.out; omega)).trans HXb8.out
            have hb11 := (setRow_other V22 b13 b11 (hC (G (j + 1))) (by have := HG.out; have := HG1.out; have := HG2.out; have := HG3.out; omega)).trans HXb11.out
            have hbL := HXbL.out.row (g := b13) (by have := HG.out; have := HG1.out; have := HG2.out; have := HG3.out; omega) (hC (G (j + 1)))
            have hb14 := (setRow_other V22 b13 b14 (hC (G (j + 1))) (by have := HG.out; have := HG1.out; have := HG2.out; have := HG3.out; omega)).trans HXb14.out
            refine rowU (i := 11) rfl rfl (by kernel_rfl) (by kernel_rfl) 28 (.tmp 13) (.tmp 39) rfl b13 (hC (G (j + 1))) rfl rfl 28 (hC (fun _ => 0)) HXb13.out (sz_hart _) (by rw [hC_size, hC_size]) (hC_ones _) (⟨hb11, hbL⟩) ?_
            generalize V22.setRow b13 (hC (G (j + 1))) = V23 at hn hb hb8 hb11 hbL hb14 ⊢
            clear hT HB HXb8 HXb11 HXbL HXb13 HXb14
            have HB : Hid (Bel w V23) := Lib.hid hb
            have HXb8 : Hid (HAt V23 b8 (G 0)) := Lib.hid hb8
            have HXb11 : Hid (HAt V23 b11 (G j)) := Lib.hid hb11
            have HXbL : Hid (LAt V23 bL F L) := Lib.hid hbL
            have HXb14 : Hid (EfAt V23 b14 e0) := Lib.hid hb14
            have HXb13 : Hid (HAt V23 b13 (G (j + 1))) := Lib.hid hn
            clear hn hb hb8 hb11 hbL hb14
            have hT : HAt V23 b11 (G j) ∧ LAt V23 bL F L := ⟨HXb11.out, HXbL.out⟩
            have hn := row_same (cs := (eC e0)) HXb14.out
            have hb := row_bel HB.out (g := b14) (by have := HG.out; have := HG1.out; have := HG2.out; have := HG3.out; omega) (eC e0)
            have hb8 := (setRow_other V23 b14 b8 (eC e0) (by have := HG.out; have := HG1.out; have := HG2.out; have := HG3.out; omega)).trans HXb8.out
            have hb11 := (setRow_other V23 b14 b11 (eC e0) (by have := HG.out; have := HG1.out; have := HG2.out; have := HG3.out; omega)).trans HXb11.out
            have hbL := HXbL.out.row (g := b14) (by have := HG.out; have := HG1.out; have := HG2.out; have := HG3.out; omega) (eC e0)
            have hb13 := (setRow_other V23 b14 b13 (eC e0) (by have := HG.out; have := HG1.out; have := HG2.out; have := HG3.out; omega)).trans HXb13.out
            refine rowL rfl rfl (by kernel_rfl) (by kernel_rfl) 34 (.tmp 14) (.tmp 40) rfl b14 (eC e0) rfl rfl 34 (eC e0) HXb14.out (sz_eff _) rfl (eC_ones _) ?_
            generalize V23.setRow b14 (eC e0) = V24 at hn hb hb8 hb11 hbL hb13 ⊢
            clear hT HB HXb8 HXb11 HXbL HXb13 HXb14
            have HB : Hid (Bel w V24) := Lib.hid hb
            have HXb8 : Hid (HAt V24 b8 (G 0)) := Lib.hid hb8
            have HXb11 : Hid (HAt V24 b11 (G j)) := Lib.hid hb11
            have HXbL : Hid (LAt V24 bL F L) := Lib.hid hbL
            have HXb13 : Hid (HAt V24 b13 (G (j + 1))) := Lib.hid hb13
            have HXb14 : Hid (EfAt V24 b14 e0) := Lib.hid hn
            clear hn hb hb8 hb11 hbL hb13
            have hT := True.intro
            refine Upto.done (by kernel_rfl) ?_ _
            clear hT
            exact ⟨rfl, b13, b14, rfl, HB.out, HXb8.out, HXb11.out, HXbL.out, HXb13.out, HXb14.out, (by have := HG2.out; have := HG3.out; omega), (by have := HG2.out; have := HG3.out; omega), (by have := HG2.out; have := HG3.out; omega)⟩
          ·
            obtain ⟨hb, hx⟩ := box1 V20 (eC e0) 34
            refine stepC 14 (i := 10) rfl rfl (by kernel_rfl) (w' := V20.alloc (.cells (eC e0) 34)) (v := .pointer (some ⟨V20.heap.size, 0, none⟩)) (by kernel_rfl) (⟨HXb11.out.bel hb, HXbL.out.bel hb⟩) ?_
            try simp only [List.setIfInBounds_toArray, List.set_cons_zero, List.set_cons_succ]
            have hl := lt_of_heap HXb13.out
            clear hT
            generalize V20.alloc (.cells (eC e0) 34) = V25 at hb hx ⊢
            generalize V20.heap.size = b14 at hx hl ⊢
            have HG3 := Lib.hid hl
            clear hl
            replace HB : Hid (Bel w V25) := Lib.hid (HB.out.trans hb)
            replace HXb8 : Hid (HAt V25 b8 (G 0)) := Lib.hid (HXb8.out.bel hb)
            replace HXb11 : Hid (HAt V25 b11 (G j)) := Lib.hid (HXb11.out.bel hb)
            replace HXbL : Hid (LAt V25 bL F L) := Lib.hid (HXbL.out.bel hb)
            replace HXb13 : Hid (HAt V25 b13 (fun _ => 0)) := Lib.hid (HXb13.out.bel hb)
            have HXb14 : Hid (EfAt V25 b14 e0) := Lib.hid hx
            clear hb hx
            have hT : HAt V25 b11 (G j) ∧ LAt V25 bL F L := ⟨HXb11.out, HXbL.out⟩
            refine Upto.one (i := 5) (by kernel_rfl) ?_
            refine callC 38 (i := 5) rfl rfl (by kernel_rfl) (f := 16) (args := #[hv (G j), .int .i64 0, iv io id' ia ib in']) (v := .tuple #[hv (G (j + 1)), .agg (eC e0)]) (by kernel_rfl) (st HO HB.out WF.out ST.out) (fun w' hb => ⟨HXb11.out.bel hb, HXbL.out.bel hb⟩) ?_
            intro V26 hb
            try simp only [List.setIfInBounds_toArray, List.set_cons_zero, List.set_cons_succ]
            replace HB : Hid (Bel w V26) := Lib.hid (HB.out.trans hb)
            replace HXb8 : Hid (HAt V26 b8 (G 0)) := Lib.hid (HXb8.out.bel hb)
            replace HXb11 : Hid (HAt V26 b11 (G j)) := Lib.hid (HXb11.out.bel hb)
            replace HXbL : Hid (LAt V26 bL F L) := Lib.hid (HXbL.out.bel hb)
            replace HXb13 : Hid (HAt V26 b13 (fun _ => 0)) := Lib.hid (HXb13.out.bel hb)
            replace HXb14 : Hid (EfAt V26 b14 e0) := Lib.hid (HXb14.out.bel hb)
            clear hb hT
            have hT : HAt V26 b11 (G j) ∧ LAt V26 bL F L := ⟨HXb11.out, HXbL.out⟩
            refine takeU 32 (i := 6) (v := .tuple #[hv (G (j + 1)), .agg (eC e0)]) rfl rfl rfl (by kernel_rfl) (by kernel_rfl) (by kernel_rfl) (by kernel_rfl) (fun _ _ _ h => nomatch h.1) (by kernel_rfl) (fun w0 hS => rfl) hT ?_
            try simp only [List.setIfInBounds_toArray, List.set_cons_zero, List.set_cons_succ]
            refine takeU 39 (i := 7) (v := hv (G (j + 1))) rfl rfl rfl (by kernel_rfl) (by kernel_rfl) (by kernel_rfl) (by kernel_rfl) (fun _ _ _ h => nomatch h.1) (by kernel_rfl) (fun w0 hS => rfl) hT ?_
            try simp only [List.setIfInBounds_toArray, List.set_cons_zero, List.set_cons_succ]
            refine takeU 40 (i := 8) (v := .agg (eC e0)) rfl rfl rfl (by kernel_rfl) (by kernel_rfl) (by kernel_rfl) (by kernel_rfl) (fun _ _ _ h => nomatch h.1) (by kernel_rfl) (fun w0 hS => rfl) hT ?_
            try simp only [List.setIfInBounds_toArray, List.set_cons_zero, List.set_cons_succ]
            have hn := row_same (cs := (hC (G (j + 1)))) HXb13.out
            have hb := row_bel HB.out (g := b13) (by have := HG.out; have := HG1.out; have := HG2.out; have := HG3.out; omega) (hC (G (j + 1)))
            have hb8 := (setRow_other V26 b13 b8 (hC (G (j + 1))) (by have := HG.out; have := HG1.out; have := HG2.out; have := HG3.out; omega)).trans HXb8.out
            have hb11 := (setRow_other V26 b13 b11 (hC (G (j + 1))) (by have := HG.out; have := HG1.out; have := HG2.out; have := HG3.out; omega)).trans HXb11.out
            have hbL := HXbL.out.row (g := b13) (by have := HG.out; have := HG1.out; have := HG2.out; have := HG3.out; omega) (hC (G (j + 1)))
            have hb14 := (setRow_other V26 b13 b14 (hC (G (j + 1))) (by have := HG.out; have := HG1.out; have := HG2.out; have := HG3.out; omega)).trans HXb14.out
            refine rowU (i := 11) rfl rfl (by kernel_rfl) (by kernel_rfl) 28 (.tmp 13) (.tmp 39) rfl b13 (hC (G (j + 1))) rfl rfl 28 (hC (fun _ => 0)) HXb13.out (sz_hart _) (by rw [hC_size, hC_size]) (hC_ones _) (⟨hb11, hbL⟩) ?_
            generalize V26.setRow b13 (hC (G (j + 1))) = V27 at hn hb hb8 hb11 hbL hb14 ⊢
            clear hT HB HXb8 HXb11 HXbL HXb13 HXb14
            have HB : Hid (Bel w V27) := Lib.hid hb
            have HXb8 : Hid (HAt V27 b8 (G 0)) := Lib.hid hb8
            have HXb11 : Hid (HAt V27 b11 (G j)) := Lib.hid hb11
            have HXbL : Hid (LAt V27 bL F L) := Lib.hid hbL
            have HXb14 : Hid (EfAt V27 b14 e0) := Lib.hid hb14
            have HXb13 : Hid (HAt V27 b13 (G (j + 1))) := Lib.hid hn
            clear hn hb hb8 hb11 hbL hb14
            have hT : HAt V27 b11 (G j) ∧ LAt V27 bL F L := ⟨HXb11.out, HXbL.out⟩
            have hn := row_same (cs := (eC e0)) HXb14.out
            have hb := row_bel HB.out (g := b14) (by have := HG.out; have := HG1.out; have := HG2.out; have := HG3.out; omega) (eC e0)
            have hb8 := (setRow_other V27 b14 b8 (eC e0) (by have := HG.out; have := HG1.out; have := HG2.out; have := HG3.out; omega)).trans HXb8.out
            have hb11 := (setRow_other V27 b14 b11 (eC e0) (by have := HG.out; have := HG1.out; have := HG2.out; have := HG3.out; omega)).trans HXb11.out
            have hbL := HXbL.out.row (g := b14) (by have := HG.out; have := HG1.out; have := HG2.out; have := HG3.out; omega) (eC e0)
            have hb13 := (setRow_other V27 b14 b13 (eC e0) (by have := HG.out; have := HG1.out; have := HG2.out; have := HG3.out; omega)).trans HXb13.out
            refine rowL rfl rfl (by kernel_rfl) (by kernel_rfl) 34 (.tmp 14) (.tmp 40) rfl b14 (eC e0) rfl rfl 34 (eC e0) HXb14.out (sz_eff _) rfl (eC_ones _) ?_
            generalize V27.setRow b14 (eC e0) = V28 at hn hb hb8 hb11 hbL hb13 ⊢
            clear hT HB HXb8 HXb11 HXbL HXb13 HXb14
            have HB : Hid (Bel w V28) := Lib.hid hb
            have HXb8 : Hid (HAt V28 b8 (G 0)) := Lib.hid hb8
            have HXb11 : Hid (HAt V28 b11 (G j)) := Lib.hid hb11
            have HXbL : Hid (LAt V28 bL F L) := Lib.hid hbL
            have HXb13 : Hid (HAt V28 b13 (G (j + 1))) := Lib.hid hb13
            have HXb14 : Hid (EfAt V28 b14 e0) := Lib.hid hn
            clear hn hb hb8 hb11 hbL hb13
            have hT := True.intro
            refine Upto.done (by kernel_rfl) ?_ _
            clear hT
            exact ⟨rfl, b13, b14, rfl, HB.out, HXb8.out, HXb11.out, HXbL.out, HXb13.out, HXb14.out, (by have := HG2.out; have := HG3.out; omega), (by have := HG2.out; have := HG3.out; omega), (by have := HG2.out; have := HG3.out; omega)⟩
        ·
          obtain ⟨hb, hx⟩ := box1 V10 (eC e0) 34
          refine stepC 14 (i := 10) rfl rfl (by kernel_rfl) (w' := V10.alloc (.cells (eC e0) 34)) (v := .pointer (some ⟨V10.heap.size, 0, none⟩)) (by kernel_rfl) (⟨HXb11.out.bel hb, HXbL.out.bel hb⟩) ?_
          try simp only [List.setIfInBounds_toArray, List.set_cons_zero, List.set_cons_succ]
          have hl := lt_of_heap HXb11.out
          clear hT
          generalize V10.alloc (.cells (eC e0) 34) = V29 at hb hx ⊢
          generalize V10.heap.size = b14 at hx hl ⊢
          have HG2 := Lib.hid hl
          clear hl
          replace HB : Hid (Bel w V29) := Lib.hid (HB.out.trans hb)
          replace HXb8 : Hid (HAt V29 b8 (G 0)) := Lib.hid (HXb8.out.bel hb)
          replace HXb11 : Hid (HAt V29 b11 (G j)) := Lib.hid (HXb11.out.bel hb)
          replace HXbL : Hid (LAt V29 bL F L) := Lib.hid (HXbL.out.bel hb)
          have HXb14 : Hid (EfAt V29 b14 e0) := Lib.hid hx
          clear hb hx
          have hT : HAt V29 b11 (G j) ∧ LAt V29 bL F L := ⟨HXb11.out, HXbL.out⟩
          refine Upto.two (i := 5) (j := 9) (by kernel_rfl) ?_ ?_
          ·
            refine callC 38 (i := 5) rfl rfl (by kernel_rfl) (f := 16) (args := #[hv (G j), .int .i64 0, iv io id' ia ib in']) (v := .tuple #[hv (G (j + 1)), .agg (eC e0)]) (by kernel_rfl) (st HO HB.out WF.out ST.out) (fun w' hb => ⟨HXb11.out.bel hb, HXbL.out.bel hb⟩) ?_
            intro V30 hb
            try simp only [List.setIfInBounds_toArray, List.set_cons_zero, List.set_cons_succ]
            replace HB : Hid (Bel w V30) := Lib.hid (HB.out.trans hb)
            replace HXb8 : Hid (HAt V30 b8 (G 0)) := Lib.hid (HXb8.out.bel hb)
            replace HXb11 : Hid (HAt V30 b11 (G j)) := Lib.hid (HXb11.out.bel hb)
            replace HXbL : Hid (LAt V30 bL F L) := Lib.hid (HXbL.out.bel hb)
            replace HXb14 : Hid (EfAt V30 b14 e0) := Lib.hid (HXb14.out.bel hb)
            clear hb hT
            have hT : HAt V30 b11 (G j) ∧ LAt V30 bL F L := ⟨HXb11.out, HXbL.out⟩
            refine takeU 32 (i := 6) (v := .tuple #[hv (G (j + 1)), .agg (eC e0)]) rfl rfl rfl (by kernel_rfl) (by kernel_rfl) (by kernel_rfl) (by kernel_rfl) (fun _ _ _ h => nomatch h.1) (by kernel_rfl) (fun w0 hS => rfl) hT ?_
            try simp only [List.setIfInBounds_toArray, List.set_cons_zero, List.set_cons_succ]
            refine takeU 39 (i := 7) (v := hv (G (j + 1))) rfl rfl rfl (by kernel_rfl) (by kernel_rfl) (by kernel_rfl) (by kernel_rfl) (fun _ _ _ h => nomatch h.1) (by kernel_rfl) (fun w0 hS => rfl) hT ?_
            try simp only [List.setIfInBounds_toArray, List.set_cons_zero, List.set_cons_succ]
            refine takeU 40 (i := 8) (v := .agg (eC e0)) rfl rfl rfl (by kernel_rfl) (by kernel_rfl) (by kernel_rfl) (by kernel_rfl) (fun _ _ _ h => nomatch h.1) (by kernel_rfl) (fun w0 hS => rfl) hT ?_
            try simp only [List.setIfInBounds_toArray, List.set_cons_zero, List.set_cons_succ]
            refine Upto.one (i := 9) (by kernel_rfl) ?_
            obtain ⟨hb, hx⟩ := box1 V30 hZ 28
            refine stepC 13 (i := 9) rfl rfl (by kernel_rfl) (w' := V30.alloc (.cells hZ 28)) (v := .pointer (some ⟨V30.heap.size, 0, none⟩)) (by kernel_rfl) (⟨HXb11.out.bel hb, HXbL.out.bel hb⟩) ?_
            try simp only [List.setIfInBounds_toArray, List.set_cons_zero, List.set_cons_succ]
            have hl := lt_of_heap HXb14.out
            clear hT
            generalize V30.alloc (.cells hZ 28) = V31 at hb hx ⊢
            generalize V30.heap.size = b13 at hx hl ⊢
            have HG3 := Lib.hid hl
            clear hl
            replace HB : Hid (Bel w V31) := Lib.hid (HB.out.trans hb)
            replace HXb8 : Hid (HAt V31 b8 (G 0)) := Lib.hid (HXb8.out.bel hb)
            replace HXb11 : Hid (HAt V31 b11 (G j)) := Lib.hid (HXb11.out.bel hb)
            replace HXbL : Hid (LAt V31 bL F L) := Lib.hid (HXbL.out.bel hb)
            replace HXb14 : Hid (EfAt V31 b14 e0) := Lib.hid (HXb14.out.bel hb)
            have HXb13 : Hid (HAt V31 b13 (fun _ => 0)) := Lib.hid hx
            clear hb hx
            have hT : HAt V31 b11 (G j) ∧ LAt V31 bL F L := ⟨HXb11.out, HXbL.out⟩
            have hn := row_same (cs := (hC (G (j + 1)))) HXb13.out
            have hb := row_bel HB.out (g := b13) (by have := HG.out; have := HG1.out; have := HG2.out; have := HG3.out; omega) (hC (G (j + 1)))
            have hb8 := (setRow_other V31 b13 b8 (hC (G (j + 1))) (by have := HG.out; have := HG1.out; have := HG2.out; have := HG3.out; omega)).trans HXb8.out
            have hb11 := (setRow_other V31 b13 b11 (hC (G (j + 1))) (by have := HG.out; have := HG1.out; have := HG2.out; have := HG3.out; omega)).trans HXb11.out
            have hbL := HXbL.out.row (g := b13) (by have := HG.out; have := HG1.out; have := HG2.out; have := HG3.out; omega) (hC (G (j + 1)))
            have hb14 := (setRow_other V31 b13 b14 (hC (G (j + 1))) (by have := HG.out; have := HG1.out; have := HG2.out; have := HG3.out; omega)).trans HXb14.out
            refine rowU (i := 11) rfl rfl (by kernel_rfl) (by kernel_rfl) 28 (.tmp 13) (.tmp 39) rfl b13 (hC (G (j + 1))) rfl rfl 28 (hC (fun _ => 0)) HXb13.out (sz_hart _) (by rw [hC_size, hC_size]) (hC_ones _) (⟨hb11, hbL⟩) ?_
            generalize V31.setRow b13 (hC (G (j + 1))) = V32 at hn hb hb8 hb11 hbL hb14 ⊢
            clear hT HB HXb8 HXb11 HXbL HXb14 HXb13
            have HB : Hid (Bel w V32) := Lib.hid hb
            have HXb8 : Hid (HAt V32 b8 (G 0)) := Lib.hid hb8
            have HXb11 : Hid (HAt V32 b11 (G j)) := Lib.hid hb11
            have HXbL : Hid (LAt V32 bL F L) := Lib.hid hbL
            have HXb14 : Hid (EfAt V32 b14 e0) := Lib.hid hb14
            have HXb13 : Hid (HAt V32 b13 (G (j + 1))) := Lib.hid hn
            clear hn hb hb8 hb11 hbL hb14
            have hT : HAt V32 b11 (G j) ∧ LAt V32 bL F L := ⟨HXb11.out, HXbL.out⟩
            have hn := row_same (cs := (eC e0)) HXb14.out
            have hb := row_bel HB.out (g := b14) (by have := HG.out; have := HG1.out; have := HG2.out; have := HG3.out; omega) (eC e0)
            have hb8 := (setRow_other V32 b14 b8 (eC e0) (by have := HG.out; have := HG1.out; have := HG2.out; have := HG3.out; omega)).trans HXb8.out
            have hb11 := (setRow_other V32 b14 b11 (eC e0) (by have := HG.out; have := HG1.out; have := HG2.out; have := HG3.out; omega)).trans HXb11.out
            have hbL := HXbL.out.row (g := b14) (by have := HG.out; have := HG1.out; have := HG2.out; have := HG3.out; omega) (eC e0)
            have hb13 := (setRow_other V32 b14 b13 (eC e0) (by have := HG.out; have := HG1.out; have := HG2.out; have := HG3.out; omega)).trans HXb13.out
            refine rowL rfl rfl (by kernel_rfl) (by kernel_rfl) 34 (.tmp 14) (.tmp 40) rfl b14 (eC e0) rfl rfl 34 (eC e0) HXb14.out (sz_eff _) rfl (eC_ones _) ?_
            generalize V32.setRow b14 (eC e0) = V33 at hn hb hb8 hb11 hbL hb13 ⊢
            clear hT HB HXb8 HXb11 HXbL HXb14 HXb13
            have HB : Hid (Bel w V33) := Lib.hid hb
            have HXb8 : Hid (HAt V33 b8 (G 0)) := Lib.hid hb8
            have HXb11 : Hid (HAt V33 b11 (G j)) := Lib.hid hb11
            have HXbL : Hid (LAt V33 bL F L) := Lib.hid hbL
            have HXb13 : Hid (HAt V33 b13 (G (j + 1))) := Lib.hid hb13
            have HXb14 : Hid (EfAt V33 b14 e0) := Lib.hid hn
            clear hn hb hb8 hb11 hbL hb13
            have hT := True.intro
            refine Upto.done (by kernel_rfl) ?_ _
            clear hT
            exact ⟨rfl, b13, b14, rfl, HB.out, HXb8.out, HXb11.out, HXbL.out, HXb13.out, HXb14.out, (by have := HG2.out; have := HG3.out; omega), (by have := HG2.out; have := HG3.out; omega), (by have := HG2.out; have := HG3.out; omega)⟩
          ·
            obtain ⟨hb, hx⟩ := box1 V29 hZ 28
            refine stepC 13 (i := 9) rfl rfl (by kernel_rfl) (w' := V29.alloc (.cells hZ 28)) (v := .pointer (some ⟨V29.heap.size, 0, none⟩)) (by kernel_rfl) (⟨HXb11.out.bel hb, HXbL.out.bel hb⟩) ?_
            try simp only [List.setIfInBounds_toArray, List.set_cons_zero, List.set_cons_succ]
            have hl := lt_of_heap HXb14.out
            clear hT
            generalize V29.alloc (.cells hZ 28) = V34 at hb hx ⊢
            generalize V29.heap.size = b13 at hx hl ⊢
            have HG3 := Lib.hid hl
            clear hl
            replace HB : Hid (Bel w V34) := Lib.hid (HB.out.trans hb)
            replace HXb8 : Hid (HAt V34 b8 (G 0)) := Lib.hid (HXb8.out.bel hb)
            replace HXb11 : Hid (HAt V34 b11 (G j)) := Lib.hid (HXb11.out.bel hb)
            replace HXbL : Hid (LAt V34 bL F L) := Lib.hid (HXbL.out.bel hb)
            replace HXb14 : Hid (EfAt V34 b14 e0) := Lib.hid (HXb14.out.bel hb)
            have HXb13 : Hid (HAt V34 b13 (fun _ => 0)) := Lib.hid hx
            clear hb hx
            have hT : HAt V34 b11 (G j) ∧ LAt V34 bL F L := ⟨HXb11.out, HXbL.out⟩
            refine Upto.one (i := 5) (by kernel_rfl) ?_
            refine callC 38 (i := 5) rfl rfl (by kernel_rfl) (f := 16) (args := #[hv (G j), .int .i64 0, iv io id' ia ib in']) (v := .tuple #[hv (G (j + 1)), .agg (eC e0)]) (by kernel_rfl) (st HO HB.out WF.out ST.out) (fun w' hb => ⟨HXb11.out.bel hb, HXbL.out.bel hb⟩) ?_
            intro V35 hb
            try simp only [List.setIfInBounds_toArray, List.set_cons_zero, List.set_cons_succ]
            replace HB : Hid (Bel w V35) := Lib.hid (HB.out.trans hb)
            replace HXb8 : Hid (HAt V35 b8 (G 0)) := Lib.hid (HXb8.out.bel hb)
            replace HXb11 : Hid (HAt V35 b11 (G j)) := Lib.hid (HXb11.out.bel hb)
            replace HXbL : Hid (LAt V35 bL F L) := Lib.hid (HXbL.out.bel hb)
            replace HXb14 : Hid (EfAt V35 b14 e0) := Lib.hid (HXb14.out.bel hb)
            replace HXb13 : Hid (HAt V35 b13 (fun _ => 0)) := Lib.hid (HXb13.out.bel hb)
            clear hb hT
            have hT : HAt V35 b11 (G j) ∧ LAt V35 bL F L := ⟨HXb11.out, HXbL.out⟩
            refine takeU 32 (i := 6) (v := .tuple #[hv (G (j + 1)), .agg (eC e0)]) rfl rfl rfl (by kernel_rfl) (by kernel_rfl) (by kernel_rfl) (by kernel_rfl) (fun _ _ _ h => nomatch h.1) (by kernel_rfl) (fun w0 hS => rfl) hT ?_
            try simp only [List.setIfInBounds_toArray, List.set_cons_zero, List.set_cons_succ]
            refine takeU 39 (i := 7) (v := hv (G (j + 1))) rfl rfl rfl (by kernel_rfl) (by kernel_rfl) (by kernel_rfl) (by kernel_rfl) (fun _ _ _ h => nomatch h.1) (by kernel_rfl) (fun w0 hS => rfl) hT ?_
            try simp only [List.setIfInBounds_toArray, List.set_cons_zero, List.set_cons_succ]
            refine takeU 40 (i := 8) (v := .agg (eC e0)) rfl rfl rfl (by kernel_rfl) (by kernel_rfl) (by kernel_rfl) (by kernel_rfl) (fun _ _ _ h => nomatch h.1) (by kernel_rfl) (fun w0 hS => rfl) hT ?_
            try simp only [List.setIfInBounds_toArray, List.set_cons_zero, List.set_cons_succ]
            have hn := row_same (cs := (hC (G (j + 1)))) HXb13.out
            have hb := row_bel HB.out (g := b13) (by have := HG.out; have := HG1.out; have := HG2.out; have := HG3.out; omega) (hC (G (j + 1)))
            have hb8 := (setRow_other V35 b13 b8 (hC (G (j + 1))) (by have := HG.out; have := HG1.out; have := HG2.out; have := HG3.out; omega)).trans HXb8.out
            have hb11 := (setRow_other V35 b13 b11 (hC (G (j + 1))) (by have := HG.out; have := HG1.out; have := HG2.out; have := HG3.out; omega)).trans HXb11.out
            have hbL := HXbL.out.row (g := b13) (by have := HG.out; have := HG1.out; have := HG2.out; have := HG3.out; omega) (hC (G (j + 1)))
            have hb14 := (setRow_other V35 b13 b14 (hC (G (j + 1))) (by have := HG.out; have := HG1.out; have := HG2.out; have := HG3.out; omega)).trans HXb14.out
            refine rowU (i := 11) rfl rfl (by kernel_rfl) (by kernel_rfl) 28 (.tmp 13) (.tmp 39) rfl b13 (hC (G (j + 1))) rfl rfl 28 (hC (fun _ => 0)) HXb13.out (sz_hart _) (by rw [hC_size, hC_size]) (hC_ones _) (⟨hb11, hbL⟩) ?_
            generalize V35.setRow b13 (hC (G (j + 1))) = V36 at hn hb hb8 hb11 hbL hb14 ⊢
            clear hT HB HXb8 HXb11 HXbL HXb14 HXb13
            have HB : Hid (Bel w V36) := Lib.hid hb
            have HXb8 : Hid (HAt V36 b8 (G 0)) := Lib.hid hb8
            have HXb11 : Hid (HAt V36 b11 (G j)) := Lib.hid hb11
            have HXbL : Hid (LAt V36 bL F L) := Lib.hid hbL
            have HXb14 : Hid (EfAt V36 b14 e0) := Lib.hid hb14
            have HXb13 : Hid (HAt V36 b13 (G (j + 1))) := Lib.hid hn
            clear hn hb hb8 hb11 hbL hb14
            have hT : HAt V36 b11 (G j) ∧ LAt V36 bL F L := ⟨HXb11.out, HXbL.out⟩
            have hn := row_same (cs := (eC e0)) HXb14.out
            have hb := row_bel HB.out (g := b14) (by have := HG.out; have := HG1.out; have := HG2.out; have := HG3.out; omega) (eC e0)
            have hb8 := (setRow_other V36 b14 b8 (eC e0) (by have := HG.out; have := HG1.out; have := HG2.out; have := HG3.out; omega)).trans HXb8.out
            have hb11 := (setRow_other V36 b14 b11 (eC e0) (by have := HG.out; have := HG1.out; have := HG2.out; have := HG3.out; omega)).trans HXb11.out
            have hbL := HXbL.out.row (g := b14) (by have := HG.out; have := HG1.out; have := HG2.out; have := HG3.out; omega) (eC e0)
            have hb13 := (setRow_other V36 b14 b13 (eC e0) (by have := HG.out; have := HG1.out; have := HG2.out; have := HG3.out; omega)).trans HXb13.out
            refine rowL rfl rfl (by kernel_rfl) (by kernel_rfl) 34 (.tmp 14) (.tmp 40) rfl b14 (eC e0) rfl rfl 34 (eC e0) HXb14.out (sz_eff _) rfl (eC_ones _) ?_
            generalize V36.setRow b14 (eC e0) = V37 at hn hb hb8 hb11 hbL hb13 ⊢
            clear hT HB HXb8 HXb11 HXbL HXb14 HXb13
            have HB : Hid (Bel w V37) := Lib.hid hb
            have HXb8 : Hid (HAt V37 b8 (G 0)) := Lib.hid hb8
            have HXb11 : Hid (HAt V37 b11 (G j)) := Lib.hid hb11
            have HXbL : Hid (LAt V37 bL F L) := Lib.hid hbL
            have HXb13 : Hid (HAt V37 b13 (G (j + 1))) := Lib.hid hb13
            have HXb14 : Hid (EfAt V37 b14 e0) := Lib.hid hn
            clear hn hb hb8 hb11 hbL hb13
            have hT := True.intro
            refine Upto.done (by kernel_rfl) ?_ _
            clear hT
            exact ⟨rfl, b13, b14, rfl, HB.out, HXb8.out, HXb11.out, HXbL.out, HXb13.out, HXb14.out, (by have := HG2.out; have := HG3.out; omega), (by have := HG2.out; have := HG3.out; omega), (by have := HG2.out; have := HG3.out; omega)⟩) (by
        rintro b13 b14 V38 ⟨hb, hx_b8, hx_b11, hx_bL, hx_b13, hx_b14, hg_0, hg_1, hg_2⟩
        clear HB HXb8 HXb11 HXbL
        have HB : Hid (Bel w V38) := Lib.hid hb
        have HXb8 : Hid (HAt V38 b8 (G 0)) := Lib.hid hx_b8
        have HXb11 : Hid (HAt V38 b11 (G j)) := Lib.hid hx_b11
        have HXbL : Hid (LAt V38 bL F L) := Lib.hid hx_bL
        have HXb13 : Hid (HAt V38 b13 (G (j + 1))) := Lib.hid hx_b13
        have HXb14 : Hid (EfAt V38 b14 e0) := Lib.hid hx_b14
        have HG2 := Lib.hid hg_0
        have HG3 := Lib.hid (And.intro hg_1 hg_2)
        clear hb hx_b8 hx_b11 hx_bL hx_b13 hx_b14 hg_0 hg_1 hg_2
        go_upto_region 10 with (fail)
        rename_i K hK
        refine wp_region_list ?_
        refine wpList_load_row rfl 34 (.tmp 14) rfl b14 rfl 34 (eC e0) (0, 0) _ HXb14.out Tryd.underlying34 rfl (sz_eff _) ?_
        try simp only [Act.put, List.setIfInBounds_toArray, List.set_cons_zero, List.set_cons_succ]
        refine wpList_one rfl (w' := V38) (v := .agg (eC e0)) (by kernel_rfl) ?_
        try simp only [Act.put, List.setIfInBounds_toArray, List.set_cons_zero, List.set_cons_succ]
        refine wpList_one rfl (w' := V38) (v := .bool false) (exec_neE rfl rfl rfl rfl _) ?_
        try simp only [Act.put, List.setIfInBounds_toArray, List.set_cons_zero, List.set_cons_succ]
        refine wpList_nil ?_
        refine hK _ _ ?_
        clear hK K
        go_upto_region 12 with (fail)
        rename_i K hK
        refine wp_region_list ?_
        refine wpList_load_row rfl 28 (.tmp 13) rfl b13 rfl 28 (hC (G (j + 1))) (0, 0) _ HXb13.out Tryd.underlying28 rfl (sz_hart _) ?_
        try simp only [Act.put, List.setIfInBounds_toArray, List.set_cons_zero, List.set_cons_succ]
        refine wpList_store_row rfl 28 (.tmp 11) (.tmp 44) rfl b11 (hC (G (j + 1))) rfl rfl 28 (hC (G j)) HXb11.out (sz_hart _) (by rw [hC_size, hC_size]) (hC_ones _) ?_
        have hn := row_same (cs := (hC (G (j + 1)))) HXb11.out
        have hb := row_bel HB.out (g := b11) (by have := HG.out; have := HG1.out; have := HG2.out; have := HG3.out; omega) (hC (G (j + 1)))
        have hb8 := (setRow_other V38 b11 b8 (hC (G (j + 1))) (by have := HG.out; have := HG1.out; have := HG2.out; have := HG3.out; omega)).trans HXb8.out
        have hbL := HXbL.out.row (g := b11) (by have := HG.out; have := HG1.out; have := HG2.out; have := HG3.out; omega) (hC (G (j + 1)))
        have hb13 := (setRow_other V38 b11 b13 (hC (G (j + 1))) (by have := HG.out; have := HG1.out; have := HG2.out; have := HG3.out; omega)).trans HXb13.out
        have hb14 := (setRow_other V38 b11 b14 (hC (G (j + 1))) (by have := HG.out; have := HG1.out; have := HG2.out; have := HG3.out; omega)).trans HXb14.out
        generalize V38.setRow b11 (hC (G (j + 1))) = V39 at hn hb hb8 hbL hb13 hb14 ⊢
        clear HB HXb8 HXb11 HXbL HXb13 HXb14
        have HB : Hid (Bel w V39) := Lib.hid hb
        have HXb8 : Hid (HAt V39 b8 (G 0)) := Lib.hid hb8
        have HXbL : Hid (LAt V39 bL F L) := Lib.hid hbL
        have HXb13 : Hid (HAt V39 b13 (G (j + 1))) := Lib.hid hb13
        have HXb14 : Hid (EfAt V39 b14 e0) := Lib.hid hb14
        have HXb11 : Hid (HAt V39 b11 (G (j + 1))) := Lib.hid hn
        clear hn hb hb8 hbL hb13 hb14
        try simp only [Act.put, List.setIfInBounds_toArray, List.set_cons_zero, List.set_cons_succ]
        refine wpList_nil ?_
        refine hK _ _ ?_
        clear hK K
        go_wp2
        exact ⟨⟨j + 1, by omega, by go_num, HB, HXb8, HXb11, HXbL⟩, by simp [intOf]; omega⟩)
    · obtain rfl : j = N := by omega
      have i1 : ¬ (j : Int) < j := by omega
      go_upto_region 13 with (fail)
      rename_i K hK
      refine Upto.begin (z := 27) (T := fun w' => HAt w' b8 (G 0) ∧ HAt w' b11 (G j)) (by kernel_rfl) ?_
      have hb : Bel wr wr.drew := (Bel.refl wr).drew
      generalize wr.drew = V201 at hb ⊢
      replace HB : Hid (Bel w V201) := Lib.hid (HB.out.trans hb)
      replace HXb8 : Hid (HAt V201 b8 (G 0)) := Lib.hid (HXb8.out.bel hb)
      replace HXb11 : Hid (HAt V201 b11 (G j)) := Lib.hid (HXb11.out.bel hb)
      clear hb
      have hT : HAt V201 b8 (G 0) ∧ HAt V201 b11 (G j) := ⟨HXb8.out, HXb11.out⟩
      refine takeU 45 (i := 0) (v := .bool true) rfl rfl rfl (by kernel_rfl) (by kernel_rfl) (by kernel_rfl) (by kernel_rfl) (fun _ _ _ h => h) (by kernel_rfl) (fun w0 hS => rfl) hT ?_
      try simp only [List.setIfInBounds_toArray, List.set_cons_zero, List.set_cons_succ]
      refine takeU 46 (i := 1) (v := .bool true) rfl rfl rfl (by kernel_rfl) (by kernel_rfl) (by kernel_rfl) (by kernel_rfl) (fun _ _ _ h => h) (by kernel_rfl) (fun w0 hS => rfl) hT ?_
      try simp only [List.setIfInBounds_toArray, List.set_cons_zero, List.set_cons_succ]
      refine takeU 47 (i := 2) (v := .slice (some ⟨bL, F, none⟩) j cL) rfl rfl rfl (by kernel_rfl) (by kernel_rfl) (by kernel_rfl) (by kernel_rfl) (fun _ _ _ h => h) (by kernel_rfl) (fun w0 hS => rfl) hT ?_
      try simp only [List.setIfInBounds_toArray, List.set_cons_zero, List.set_cons_succ]
      refine takeU 48 (i := 3) (v := .int .i64 (j : Int)) rfl rfl rfl (by kernel_rfl) (by kernel_rfl) (by kernel_rfl) (by kernel_rfl) (fun _ _ _ h => h) (by kernel_rfl) (fun w0 hS => (by kernel_rfl)) hT ?_
      try simp only [List.setIfInBounds_toArray, List.set_cons_zero, List.set_cons_succ]
      refine takeU 49 (i := 4) (v := .bool true) rfl rfl rfl (by kernel_rfl) (by kernel_rfl) (by kernel_rfl) (by kernel_rfl) (fun _ _ _ h => h) (by kernel_rfl) (fun w0 hS => (exec_gtr rfl rfl rfl NP.out w0)) hT ?_
      try simp only [List.setIfInBounds_toArray, List.set_cons_zero, List.set_cons_succ]
      refine takeU 50 (i := 5) (v := .bool true) rfl rfl rfl (by kernel_rfl) (by kernel_rfl) (by kernel_rfl) (by kernel_rfl) (fun _ _ _ h => h) (by kernel_rfl) (fun w0 hS => (by kernel_rfl)) hT ?_
      try simp only [List.setIfInBounds_toArray, List.set_cons_zero, List.set_cons_succ]
      refine takeU 51 (i := 6) (v := .bool true) rfl rfl rfl (by kernel_rfl) (by kernel_rfl) (by kernel_rfl) (by kernel_rfl) (fun _ _ _ h => h) (by kernel_rfl) (fun w0 hS => rfl) hT ?_
      try simp only [List.setIfInBounds_toArray, List.set_cons_zero, List.set_cons_succ]
      refine takeU 52 (i := 7) (v := .int .i64 (kk : Int)) rfl rfl rfl (by kernel_rfl) (by kernel_rfl) (by kernel_rfl) (by kernel_rfl) (fun _ _ _ h => h) (by kernel_rfl) (fun w0 hS => rfl) hT ?_
      try simp only [List.setIfInBounds_toArray, List.set_cons_zero, List.set_cons_succ]
      refine takeU 53 (i := 8) (v := .pointer (some ⟨b11, 0, none⟩)) rfl rfl rfl (by kernel_rfl) (by kernel_rfl) (by kernel_rfl) (by kernel_rfl) (fun _ _ _ h => h) (by kernel_rfl) (fun w0 hS => (by kernel_rfl)) hT ?_
      try simp only [List.setIfInBounds_toArray, List.set_cons_zero, List.set_cons_succ]
      refine takeU 54 (i := 9) (v := .pointer (some ⟨b11, kk, none⟩)) rfl rfl rfl (by kernel_rfl) (by kernel_rfl) (by kernel_rfl) (by kernel_rfl) (fun _ _ _ h => h) (by kernel_rfl) (fun w0 hS => (exec_reg rfl b11 kk (by omega) rfl rfl _)) hT ?_
      try simp only [List.setIfInBounds_toArray, List.set_cons_zero, List.set_cons_succ]
      refine takeU 55 (i := 10) (v := .int .i64 ((G j) kk)) rfl rfl rfl (by kernel_rfl) (by kernel_rfl) (by kernel_rfl) (by kernel_rfl) (fun _ _ _ h => h) (by kernel_rfl) (fun w0 hS => (exec_cell 3 (.tmp 54) rfl ⟨b11, kk, none⟩ rfl _ _ ((hS.2).cell (j := kk) (by omega)) Tryd.underlying3 rfl)) hT ?_
      try simp only [List.setIfInBounds_toArray, List.set_cons_zero, List.set_cons_succ]
      refine takeU 56 (i := 11) (v := .int .i64 n) rfl rfl rfl (by kernel_rfl) (by kernel_rfl) (by kernel_rfl) (by kernel_rfl) (fun _ _ _ h => h) (by kernel_rfl) (fun w0 hS => rfl) hT ?_
      try simp only [List.setIfInBounds_toArray, List.set_cons_zero, List.set_cons_succ]
      refine callU 57 (i := 12) rfl rfl (by kernel_rfl) (by kernel_rfl) (f := 27) (args := #[.int .i64 n]) (v := .int .i64 n1) (by kernel_rfl) (wl N1.out _) (fun w' hb => ⟨HXb8.out.bel hb, HXb11.out.bel hb⟩) ?_
      intro V202 hb
      try simp only [List.setIfInBounds_toArray, List.set_cons_zero, List.set_cons_succ]
      replace HB : Hid (Bel w V202) := Lib.hid (HB.out.trans hb)
      replace HXb8 : Hid (HAt V202 b8 (G 0)) := Lib.hid (HXb8.out.bel hb)
      replace HXb11 : Hid (HAt V202 b11 (G j)) := Lib.hid (HXb11.out.bel hb)
      clear hb hT
      have hT : HAt V202 b8 (G 0) ∧ HAt V202 b11 (G j) := ⟨HXb8.out, HXb11.out⟩
      refine takeU 58 (i := 13) (v := .bool true) rfl rfl rfl (by kernel_rfl) (by kernel_rfl) (by kernel_rfl) (by kernel_rfl) (fun _ _ _ h => h) (by kernel_rfl) (fun w0 hS => (exec_eqI rfl rfl rfl (C1.out) w0)) hT ?_
      try simp only [List.setIfInBounds_toArray, List.set_cons_zero, List.set_cons_succ]
      refine takeU 59 (i := 14) (v := .bool true) rfl rfl rfl (by kernel_rfl) (by kernel_rfl) (by kernel_rfl) (by kernel_rfl) (fun _ _ _ h => h) (by kernel_rfl) (fun w0 hS => (by kernel_rfl)) hT ?_
      try simp only [List.setIfInBounds_toArray, List.set_cons_zero, List.set_cons_succ]
      refine takeU 60 (i := 15) (v := .bool true) rfl rfl rfl (by kernel_rfl) (by kernel_rfl) (by kernel_rfl) (by kernel_rfl) (fun _ _ _ h => h) (by kernel_rfl) (fun w0 hS => rfl) hT ?_
      try simp only [List.setIfInBounds_toArray, List.set_cons_zero, List.set_cons_succ]
      refine takeU 61 (i := 16) (v := .pointer (some ⟨b11, 32, none⟩)) rfl rfl rfl (by kernel_rfl) (by kernel_rfl) (by kernel_rfl) (by kernel_rfl) (fun _ _ _ h => h) (by kernel_rfl) (fun w0 hS => (by kernel_rfl)) hT ?_
      try simp only [List.setIfInBounds_toArray, List.set_cons_zero, List.set_cons_succ]
      refine takeU 62 (i := 17) (v := .int .i64 ((G j) 32)) rfl rfl rfl (by kernel_rfl) (by kernel_rfl) (by kernel_rfl) (by kernel_rfl) (fun _ _ _ h => h) (by kernel_rfl) (fun w0 hS => (exec_cell 3 (.tmp 61) rfl ⟨b11, 32, none⟩ rfl _ _ ((hS.2).cell (j := 32) (by omega)) Tryd.underlying3 rfl)) hT ?_
      try simp only [List.setIfInBounds_toArray, List.set_cons_zero, List.set_cons_succ]
      refine takeU 63 (i := 18) (v := .pointer (some ⟨b8, 32, none⟩)) rfl rfl rfl (by kernel_rfl) (by kernel_rfl) (by kernel_rfl) (by kernel_rfl) (fun _ _ _ h => h) (by kernel_rfl) (fun w0 hS => (by kernel_rfl)) hT ?_
      try simp only [List.setIfInBounds_toArray, List.set_cons_zero, List.set_cons_succ]
      refine takeU 64 (i := 19) (v := .int .i64 ((G 0) 32)) rfl rfl rfl (by kernel_rfl) (by kernel_rfl) (by kernel_rfl) (by kernel_rfl) (fun _ _ _ h => h) (by kernel_rfl) (fun w0 hS => (exec_cell 3 (.tmp 63) rfl ⟨b8, 32, none⟩ rfl _ _ ((hS.1).cell (j := 32) (by omega)) Tryd.underlying3 rfl)) hT ?_
      try simp only [List.setIfInBounds_toArray, List.set_cons_zero, List.set_cons_succ]
      refine takeU 65 (i := 20) (v := .slice (some ⟨bL, F, none⟩) j cL) rfl rfl rfl (by kernel_rfl) (by kernel_rfl) (by kernel_rfl) (by kernel_rfl) (fun _ _ _ h => h) (by kernel_rfl) (fun w0 hS => rfl) hT ?_
      try simp only [List.setIfInBounds_toArray, List.set_cons_zero, List.set_cons_succ]
      refine takeU 66 (i := 21) (v := .int .i64 (j : Int)) rfl rfl rfl (by kernel_rfl) (by kernel_rfl) (by kernel_rfl) (by kernel_rfl) (fun _ _ _ h => h) (by kernel_rfl) (fun w0 hS => (by kernel_rfl)) hT ?_
      try simp only [List.setIfInBounds_toArray, List.set_cons_zero, List.set_cons_succ]
      refine takeU 67 (i := 22) (v := .int .i64 q4) rfl rfl rfl (by kernel_rfl) (by kernel_rfl) (by kernel_rfl) (by kernel_rfl) (fun _ _ _ h => h) (by kernel_rfl) (fun w0 hS => (exec_mul rfl rfl rfl Q4.out w0)) hT ?_
      try simp only [List.setIfInBounds_toArray, List.set_cons_zero, List.set_cons_succ]
      refine takeU 68 (i := 23) (v := .int .i64 (IntKind.i64.wrap (G 0 32 + q4))) rfl rfl rfl (by kernel_rfl) (by kernel_rfl) (by kernel_rfl) (by kernel_rfl) (fun _ _ _ h => h) (by kernel_rfl) (fun w0 hS => (by kernel_rfl)) hT ?_
      try simp only [List.setIfInBounds_toArray, List.set_cons_zero, List.set_cons_succ]
      refine callU 69 (i := 24) rfl rfl (by kernel_rfl) (by kernel_rfl) (f := 27) (args := #[.int .i64 (IntKind.i64.wrap (G 0 32 + q4))]) (v := .int .i64 m2) (by kernel_rfl) (wl ((w32_i _).trans M2.out) _) (fun w' hb => ⟨HXb8.out.bel hb, HXb11.out.bel hb⟩) ?_
      intro V203 hb
      try simp only [List.setIfInBounds_toArray, List.set_cons_zero, List.set_cons_succ]
      replace HB : Hid (Bel w V203) := Lib.hid (HB.out.trans hb)
      replace HXb8 : Hid (HAt V203 b8 (G 0)) := Lib.hid (HXb8.out.bel hb)
      replace HXb11 : Hid (HAt V203 b11 (G j)) := Lib.hid (HXb11.out.bel hb)
      clear hb hT
      have hT : HAt V203 b8 (G 0) ∧ HAt V203 b11 (G j) := ⟨HXb8.out, HXb11.out⟩
      refine takeU 70 (i := 25) (v := .bool true) rfl rfl rfl (by kernel_rfl) (by kernel_rfl) (by kernel_rfl) (by kernel_rfl) (fun _ _ _ h => h) (by kernel_rfl) (fun w0 hS => (exec_eqI rfl rfl rfl (C2.out) w0)) hT ?_
      try simp only [List.setIfInBounds_toArray, List.set_cons_zero, List.set_cons_succ]
      refine takeU 71 (i := 26) (v := .bool true) rfl rfl rfl (by kernel_rfl) (by kernel_rfl) (by kernel_rfl) (by kernel_rfl) (fun _ _ _ h => h) (by kernel_rfl) (fun w0 hS => (by kernel_rfl)) hT ?_
      try simp only [List.setIfInBounds_toArray, List.set_cons_zero, List.set_cons_succ]
      refine pureU 6 (i := 27) rfl rfl (by kernel_rfl) (by kernel_rfl) (v := .bool true) rfl hT ?_
      try simp only [List.setIfInBounds_toArray, List.set_cons_zero, List.set_cons_succ]
      refine Upto.done (by kernel_rfl) ?_ _
      clear hT
      refine hK _ _ ?_
      clear hK K
      go_wp2
      go_ret
      exact ⟨rfl, HB.out⟩
theorem r_ai {d a n : Int} (hd : 1 ≤ d ∧ d < 32) (ha : 0 ≤ a ∧ a < 32) (hn : -2048 ≤ n ∧ n ≤ 2047) : Rv.right ⟨13, d, a, 0, n⟩ = true := by
  unfold Rv.right
  simp only [show Rv.form 13 = 73 from by decide +kernel]
  simp [Rv.reg, Rv.hasD, Rv.hasA, Rv.hasB, Rv.num]
  omega
theorem r_lui {d n : Int} (hd : 1 ≤ d ∧ d < 32) (hn : 0 ≤ n ∧ n ≤ 1048575) : Rv.right ⟨1, d, 0, 0, n⟩ = true := by
  unfold Rv.right
  simp only [show Rv.form 1 = 85 from by decide +kernel]
  simp [Rv.reg, Rv.hasD, Rv.hasA, Rv.hasB, Rv.num]
  omega
theorem low_bd (n : Int) : -2048 ≤ Lb.low12 n ∧ Lb.low12 n ≤ 2047 := by unfold Lb.low12; omega
theorem high_bd (n : Int) : 0 ≤ Lb.high20 n ∧ Lb.high20 n ≤ 1048575 := by unfold Lb.high20; omega
theorem high_low (n : Int) (h : -2147483648 ≤ n ∧ n ≤ 2147483647) : wrap32 (wrap32 (wrap32 (wrap64 (Lb.high20 n * 4096))) + wrap32 (Lb.low12 n)) = n := by
  unfold Lb.high20 Lb.low12 wrap32 wrap64
  omega
theorem numbers_any (w : World) {P : Option Addr} {N0 C : Nat} {l : List Int} {c1 n : Int} (hO : OpsAt w) (hn : l.length = N0) (hL : IntsQ w P l) (hNC : N0 ≤ C) (i1 : inInt c1) :
    Calls Tryd.prog 10 #[.slice P N0 C, .int .i64 c1, .int .i64 n] w (OneV (.bool true) w) := by
  obtain ⟨h, hh⟩ : ∃ h, fitV l = h := ⟨_, rfl⟩
  have fine : Fine h := hh ▸ fit_fine l
  obtain ⟨k, r1, lk⟩ := pick_nat c1 31 (by decide)
  have kb : 1 ≤ ((k + 1 : Nat) : Int) ∧ ((k + 1 : Nat) : Int) < 32 := by omega
  obtain ⟨n1, hn1⟩ : ∃ m, wrap32 n = m := ⟨_, rfl⟩
  have nb := w32_b n
  rw [hn1] at nb
  have hm : Lb.mayLoad ((k + 1 : Nat) : Int) n1 = true := decide_eq_true (by omega)
  have pK : ∀ (h : H) (x : Int), put h ((k + 1 : Nat) : Int) x = up h (k + 1) (wrap32 x) := fun h x => by unfold put; rw [if_pos kb, Int.toNat_natCast]
  have gk : ∀ (h : H) (y : Int), (Ht.go (put h ((k + 1 : Nat) : Int) y) 4) (k + 1) = wrap32 y := fun h y => by
    unfold Ht.go
    rw [up_ne _ _ (by omega), pK, up_at]
  have g32 : ∀ (h : H) (y : Int), (Ht.go (put h ((k + 1 : Nat) : Int) y) 4) 32 = wrap32 (h 32 + 4) := fun h y => by
    unfold Ht.go
    rw [up_at, pK]
    unfold place
    rw [up_ne _ _ (by omega)]
  have A1 : IntKind.i64.wrap (1 + (k : Int)) = ((k + 1 : Nat) : Int) := by rw [IntWalk.i64_in _ (by omega)]; omega
  by_cases hs : n1 = Lb.low12 n1
  · have lb := low_bd n1
    rw [← hs] at lb
    have e : number ((k + 1 : Nat) : Int) n1 = [⟨13, ((k + 1 : Nat) : Int), 0, 0, n1⟩] := by unfold number; rw [hm, if_pos rfl, if_pos hs]
    have s1 : stepV h 0 ⟨13, ((k + 1 : Nat) : Int), 0, 0, n1⟩ = (Ht.go (put h ((k + 1 : Nat) : Int) (Plain.two 1 (h 0) n1)) 4, e0) := by
      unfold stepV
      rw [r_ai kb (by omega) lb]
      rfl
    obtain ⟨g1, hg1⟩ : ∃ g, Ht.go (put h ((k + 1 : Nat) : Int) (Plain.two 1 (h 0) n1)) 4 = g := ⟨_, rfl⟩
    rw [hg1] at s1
    refine numbers_w w (N := 1) (kk := k + 1) (G := fun j => if j = 0 then h else g1) (Lib.hid hO) (Lib.hid hn) (Lib.hid hL) (Lib.hid hNC) (Lib.hid hh) (Lib.hid i1) (Lib.hid r1) (Lib.hid A1) (by omega) (by omega) (Lib.hid hn1) (Lib.hid e) (Lib.hid rfl) (Lib.hid (by simp)) (Lib.hid (by decide))
      (Lib.hid fun j i hj => ?_) (Lib.hid ?_) (Lib.hid (IntWalk.i64_in 4 (by omega))) (Lib.hid rfl) (Lib.hid ?_)
    · match j, hj with
      | 0, hj =>
        obtain rfl := Option.some.inj hj
        exact ⟨⟨by simp only; omega, by simp only; omega, by simp only; omega, by simp only; omega, by simp only; omega⟩, s1⟩
      | j + 1, hj => simp at hj
    · show g1 (k + 1) = n1
      rw [← hg1, gk, two_in32, fine.x0, ← Plain.two_1, show wrap32 0 = 0 from Plain.w32_0, Int.zero_add, Plain.w32_w32]
      exact Plain.w32_in _ nb
    · show g1 32 = wrap32 (h 32 + 4)
      rw [← hg1, g32]
  · have e : number ((k + 1 : Nat) : Int) n1 = [⟨1, ((k + 1 : Nat) : Int), 0, 0, Lb.high20 n1⟩, ⟨13, ((k + 1 : Nat) : Int), ((k + 1 : Nat) : Int), 0, Lb.low12 n1⟩] := by unfold number; rw [hm, if_pos rfl, if_neg hs]
    have lb := low_bd n1
    have hb := high_bd n1
    have s1 : stepV h 0 ⟨1, ((k + 1 : Nat) : Int), 0, 0, Lb.high20 n1⟩ = (Ht.go (put h ((k + 1 : Nat) : Int) (wrap64 (Lb.high20 n1 * 4096))) 4, e0) := by
      unfold stepV
      rw [r_lui kb hb]
      rfl
    obtain ⟨g1, hg1⟩ : ∃ g, Ht.go (put h ((k + 1 : Nat) : Int) (wrap64 (Lb.high20 n1 * 4096))) 4 = g := ⟨_, rfl⟩
    rw [hg1] at s1
    have s2 : stepV g1 0 ⟨13, ((k + 1 : Nat) : Int), ((k + 1 : Nat) : Int), 0, Lb.low12 n1⟩ = (Ht.go (put g1 ((k + 1 : Nat) : Int) (Plain.two 1 (g1 (k + 1)) (Lb.low12 n1))) 4, e0) := by
      unfold stepV
      rw [r_ai kb (by omega) lb]
      rfl
    obtain ⟨g2, hg2⟩ : ∃ g, Ht.go (put g1 ((k + 1 : Nat) : Int) (Plain.two 1 (g1 (k + 1)) (Lb.low12 n1))) 4 = g := ⟨_, rfl⟩
    rw [hg2] at s2
    refine numbers_w w (N := 2) (kk := k + 1) (G := fun j => if j = 0 then h else if j = 1 then g1 else g2) (Lib.hid hO) (Lib.hid hn) (Lib.hid hL) (Lib.hid hNC) (Lib.hid hh) (Lib.hid i1) (Lib.hid r1) (Lib.hid A1) (by omega) (by omega) (Lib.hid hn1) (Lib.hid e) (Lib.hid rfl) (Lib.hid (by simp)) (Lib.hid (by decide))
      (Lib.hid fun j i hj => ?_) (Lib.hid ?_) (Lib.hid (IntWalk.i64_in 8 (by omega))) (Lib.hid rfl) (Lib.hid ?_)
    · match j, hj with
      | 0, hj =>
        obtain rfl := Option.some.inj hj
        exact ⟨⟨by simp only; omega, by simp only; omega, by simp only; omega, by simp only; omega, by simp only; omega⟩, s1⟩
      | 1, hj =>
        obtain rfl := Option.some.inj hj
        exact ⟨⟨by simp only; omega, by simp only; omega, by simp only; omega, by simp only; omega, by simp only; omega⟩, s2⟩
      | j + 2, hj => simp at hj
    · show g2 (k + 1) = n1
      rw [← hg2, gk, two_in32, ← Plain.two_1, ← hg1, gk]
      exact high_low n1 nb
    · show g2 32 = wrap32 (h 32 + 8)
      rw [← hg2, g32, ← hg1, g32, Plain.w32_add_l]
      congr 1
      omega
end Go.Proofs.YtgcgdjmlngfpeaaDoor
