/- The product of one and a small number, as two words. -/
import Derived.Test.YtjjbfeoidceiiaaLLay
namespace Go.Proofs.Ytjjbfeoidceiiaa
open Go.RowKit Rv Lb
set_option linter.unusedVariables false
theorem u64_and (n : Nat) (hn : n ≤ 4096) : bits .and .u64 (n : Int) 4294967295 = n := by
  show IntKind.u64.wrap ((BitVec.ofInt 64 (n : Int) &&& BitVec.ofInt 64 4294967295).toNat : Int) = n
  have e : (BitVec.ofInt 64 (n : Int) &&& BitVec.ofInt 64 4294967295).toNat = n := by
    rw [BitVec.toNat_and, BitVec.ofInt_natCast, BitVec.toNat_ofNat]
    have h1 : (BitVec.ofInt 64 4294967295).toNat = 2 ^ 32 - 1 := by decide
    rw [h1, Nat.and_two_pow_sub_one_eq_mod]
    omega
  rw [e, show IntKind.u64.wrap (n : Int) = (n : Int) % 18446744073709551616 from rfl]
  omega
theorem mul64_one (n : Nat) (hn : n ≤ 4096) (w : World) : Calls Try.prog 86 #[.int .u64 1, .int .u64 n] w fun e w' => e = .returned (.tuple #[.int .u64 0, .int .u64 n]) ∧ w = w' := by
  have a2 := u64_and n hn
  have a1 := u64_and 1 (by omega)
  have a0 := u64_and 0 (by omega)
  have a3 : (n : Int) / 4294967296 = 0 := by omega
  have w1 : IntKind.u64.wrap (n : Int) = n := by rw [show IntKind.u64.wrap (n : Int) = (n : Int) % 18446744073709551616 from rfl]; omega
  have w0 : IntKind.u64.wrap 0 = 0 := by decide
  simp only [Int.natCast_zero, Int.natCast_one] at a1 a0
  go_enter Try.func86, Try.ntmps86
  go_wp2_with fail
  go_ret2
  exact ⟨rfl, rfl⟩
theorem mul_one (n : Nat) (hn : n ≤ 4096) (w : World) : Calls Try.prog 83 #[.int .u64 1, .int .u64 n] w fun e w' => e = .returned (.tuple #[.int .u64 0, .int .u64 n]) ∧ w = w' := by
  have ex0 : ∀ (x y : Value) (W : World), (Instr.extract (.tuple #[x, y]) 0).run Try.prog W = .ok x W := fun x y W => by kernel_rfl
  have ex1 : ∀ (x y : Value) (W : World), (Instr.extract (.tuple #[x, y]) 1).run Try.prog W = .ok y W := fun x y W => by kernel_rfl
  go_enter Try.func83, Try.ntmps83
  go_wp2_with (go_at_call 86; ((with_reducible refine (mul64_one n hn _).mono ?_); rintro e w' ⟨rfl, rfl⟩))
  go_ret2
  exact ⟨rfl, rfl⟩
theorem step_copy {P : Program} {ops : Array Oper} {o : Oper} {a : Act} {w w' : World} {K : Act → World → Prop} {Q : Exit → Act → World → Prop} {E : Prop}
    (hg : o.guard = none) (s x : Operand) (t u : TypeId) (hop : o.op = Op.call { callee := Callee.builtin Builtin.copy, args := #[s, x], argTypes := #[t, u] })
    (sv xv r : Value) (hs : a.eval s = sv) (hx : a.eval x = xv) (hrun : (Builtin.copy_ #[t, u] o.type #[sv, xv]).run P w = .ok r w')
    (hK : K (a.put o.dst r) w') : if Region.wanted o (yielded ops a.tmps) = true then Oper.wp P o a w K Q else E := by
  have hw : Region.wanted o (yielded ops a.tmps) = true := by simp [Region.wanted, hg]
  rw [if_pos hw]
  unfold Oper.wp
  simp [execOp, hop, resolve, invoke, builtin, hs, hx, hrun, Result.andThen]
  exact hK
theorem wpList_cp {P : Program} {w w' : World} {ops : Array Oper} {rest : List Oper} {o : Oper} {a : Act} {Q : Exit → Act → World → Prop} (hgd : o.guard = none) (s x : Operand) (t u : TypeId)
    (ho : o.op = .call { callee := .builtin .copy, args := #[s, x], argTypes := #[t, u] }) (sv xv r : Value) (hs : a.eval s = sv) (hx : a.eval x = xv)
    (hrun : (Builtin.copy_ #[t, u] o.type #[sv, xv]).run P w = .ok r w') (h : wpList P ops Q rest (a.put o.dst r) w') : wpList P ops Q (o :: rest) a w := by
  refine wpList_plain hgd fun K hK => ?_
  unfold Oper.wp
  simp [execOp, ho, resolve, invoke, builtin, hs, hx, hrun, Result.andThen]
  exact hK _ _ h
def nopI : Ins := ⟨13, 0, 0, 0, 0⟩
theorem nops_get {m n : Nat} (h : m ≤ n) : ∀ j i, (List.replicate m nopI)[j]? = some i → ∀ (k : Nat) (v : Value), (cells5 i)[k]? = some v → ((List.replicate m nopI).flatMap cells5)[j * 5 + k]? = some v := by
  clear h
  induction m with
  | zero => intro j i hj; simp at hj
  | succ m ih =>
    intro j i hj k v hv
    rw [List.replicate_succ] at hj ⊢
    rw [List.flatMap_cons]
    have hk : k < 5 := (List.getElem?_eq_some_iff.1 hv).1
    cases j with
    | zero =>
      simp only [List.getElem?_cons_zero, Option.some.injEq] at hj
      subst hj
      rw [Nat.zero_mul, Nat.zero_add, List.getElem?_append_left (by show k < 5; exact hk)]
      exact hv
    | succ j =>
      rw [List.getElem?_cons_succ] at hj
      rw [List.getElem?_append_right (by show 5 ≤ _; omega)]
      have : (j + 1) * 5 + k - (cells5 nopI).length = j * 5 + k := by show (j + 1) * 5 + k - 5 = _; omega
      rw [this]
      exact ih j i hj k v hv
def repl (m n : Nat) : List Value := (List.replicate m nopI).flatMap cells5 ++ List.replicate ((n - m) * 5) (.int .i64 0)
theorem nops_len (m : Nat) : ((List.replicate m nopI).flatMap cells5).length = m * 5 := by
  induction m with
  | zero => rfl
  | succ m ih =>
    rw [List.replicate_succ, List.flatMap_cons, List.length_append, ih, show (cells5 nopI).length = 5 from rfl]
    omega
theorem repl_len (m n : Nat) (h : m ≤ n) : (repl m n).length = n * 5 := by
  unfold repl
  rw [List.length_append, nops_len, List.length_replicate]
  omega
theorem repl_copy (m q n : Nat) (h : m + q ≤ n) : (repl m n).take (m * 5) ++ (List.replicate q nopI).flatMap cells5 ++ (repl m n).drop (m * 5 + ((List.replicate q nopI).flatMap cells5).length) = repl (m + q) n := by
  unfold repl
  rw [List.take_left' (nops_len m), nops_len, List.drop_append, nops_len]
  rw [List.drop_eq_nil_of_le (by rw [nops_len]; omega), List.nil_append, List.drop_replicate, ← List.flatMap_append, List.replicate_append_replicate]
  congr 2
  omega
theorem info_ins : ∃ i : TypeInfo, Try.prog.info? 24 = some i ∧ i.zero = some (.agg #[.int .i64 0, .int .i64 0, .int .i64 0, .int .i64 0, .int .i64 0]) ∧ i.size = 5 ∧ i.bytes = 40 := ⟨(Try.prog.info? 24).get (by kernel_rfl), by kernel_rfl, by kernel_rfl, by kernel_rfl, by kernel_rfl⟩
theorem made_zero (z : Array Value) (n : Nat) (v : Value) (h : ∀ j, j < z.size → z[j]! = v) (h0 : 0 < z.size) : madeCells z n = (List.replicate n v).toArray := by
  apply Array.ext'
  unfold madeCells
  rw [Array.toList_map, Array.toList_range, List.eq_replicate_iff]
  refine ⟨by simp, fun b hb => ?_⟩
  obtain ⟨k, _, rfl⟩ := List.mem_map.1 hb
  exact h _ (Nat.mod_lt _ h0)
theorem make_ins (n : Nat) (hn : n ≤ 4096) (w : World) :
    (Instr.makeSlice 37 (.int .i64 (n : Int)) (.int .i64 (n : Int))).run Try.prog w = .ok (.slice (some ⟨w.heap.size, 0, none⟩) n n) (w.alloc (.cells (repl 0 n).toArray 24)) := by
  obtain ⟨i, hi, hz, hs, hb⟩ := info_ins
  have := run_make (P := Try.prog) w 37 24 i _ Try.underlying37 hi hz .i64 .i64 n n (by omega) (by omega) (by rw [hb]; omega) (by omega)
  rw [hs, Int.toNat_natCast] at this
  rw [this, show Value.cells (.agg #[.int .i64 0, .int .i64 0, .int .i64 0, .int .i64 0, .int .i64 0]) = #[.int .i64 0, .int .i64 0, .int .i64 0, .int .i64 0, .int .i64 0] from rfl]
  rw [made_zero _ _ (.int .i64 0) (by
    intro j hj
    match j, hj with
    | 0, _ => rfl
    | 1, _ => rfl
    | 2, _ => rfl
    | 3, _ => rfl
    | 4, _ => rfl) (by decide)]
  have e : repl 0 n = List.replicate (n * 5) (.int .i64 0) := by unfold repl; simp
  rw [e]
theorem ins_size : (Try.prog.info? 24).map (·.size) = some 5 := by kernel_rfl
theorem nops_one (q : Nat) : ∀ v ∈ (List.replicate q nopI).flatMap cells5, v.oneCell' = true := by
  intro v hv
  obtain ⟨x, hx, hv⟩ := List.mem_flatMap.1 hv
  obtain rfl := (List.mem_replicate.1 hx).2
  simp only [cells5, List.mem_cons, List.not_mem_nil, or_false] at hv
  rcases hv with rfl | rfl | rfl | rfl | rfl <;> rfl
/-- a row of instructions is handed back, in a block of its own kind -/
def InsNew (l : List Ins) (w : World) (e : Ending) (w' : World) : Prop := ∃ p c, e = .returned (.slice p l.length c) ∧ InsAt w' p l ∧ Both w w' ∧ ∀ a : Addr, p = some a → ∃ cs fr, w'.heap[a.block]? = some (.cells cs 24 fr)
set_option maxHeartbeats 4000000 in
theorem number_new (d n : Int) (w : World) : Calls Try.prog 21 #[.int .i64 d, .int .i64 n] w (InsNew (number d n) w) := by
  cases hm : mayLoad d n with
  | false =>
    have e : number d n = [] := by unfold number; rw [hm]; rfl
    rw [e]
    have HM := Lib.hid hm
    clear hm e
    go_enter Try.func21, Try.ntmps21
    go_wp2_with (go_at_call 40; ((with_reducible refine (may_lit HM.out _).mono ?_); rintro e w' ⟨rfl, rfl⟩))
    go_ret
    exact ⟨none, 0, rfl, InsAt.none _ _, Both.refl _, fun a h => by cases h⟩
  | true =>
    have hb : 1 ≤ d ∧ d < 32 ∧ -2147483648 ≤ n ∧ n ≤ 2147483647 := of_decide_eq_true hm
    obtain ⟨_, _, hn1, hn2⟩ := hb
    have HM := Lib.hid hm
    cases hs : (n == low12 n) with
    | true =>
      have e : number d n = [⟨13, d, 0, 0, n⟩] := by unfold number; rw [hm, if_pos rfl, if_pos (by simpa using hs)]
      rw [e]
      have HS := Lib.hid hs
      clear hm e hs
      go_enter Try.func21, Try.ntmps21
      go_wp2_with (first | (go_at_call 40; ((with_reducible refine (may_lit HM.out _).mono ?_); rintro e w' ⟨rfl, rfl⟩)) | (go_at_call 41; ((with_reducible refine (short_lit HS.out hn1 hn2 _).mono ?_); rintro e w' ⟨rfl, rfl⟩)))
      go_ret
      exact ⟨_, _, rfl, InsAt.one w _ ⟨13, d, 0, 0, n⟩, (Both.refl _).alloc _ _, fun a h => by cases h; exact ⟨_, _, heap_alloc_new _ _⟩⟩
    | false =>
      have e : number d n = [⟨1, d, 0, 0, high20 n⟩, ⟨13, d, d, 0, low12 n⟩] := by unfold number; rw [hm, if_pos rfl, if_neg (by simpa using hs)]
      rw [e]
      obtain ⟨l1, l2⟩ := low12_bd n
      have hh : bits .and .i64 ((n - low12 n) / 4096) 1048575 = high20 n := and_1048575 _
      generalize high20 n = h at hh ⊢
      have HS := Lib.hid hs
      obtain ⟨m, hlm⟩ : ∃ m, low12 n = m := ⟨_, rfl⟩
      rw [hlm] at l1 l2 hh ⊢
      have HL := Lib.hid hlm
      have HH := Lib.hid hh
      clear hm e hs hlm hh
      go_enter Try.func21, Try.ntmps21
      go_wp2_with (first | (go_at_call 40; ((with_reducible refine (may_lit HM.out _).mono ?_); rintro e w' ⟨rfl, rfl⟩)) | (go_at_call 41; ((with_reducible refine (short_lit HS.out hn1 hn2 _).mono ?_); rintro e w' ⟨rfl, rfl⟩)) | (go_at_call 42; ((with_reducible refine (low_lit HL.out hn1 hn2 _).mono ?_); rintro e w' ⟨rfl, rfl⟩)))
      go_ret
      rw [HH.out]
      exact ⟨_, _, rfl, InsAt.two w _ ⟨1, d, 0, 0, h⟩ ⟨13, d, d, 0, m⟩, (Both.refl _).alloc _ _, fun a h => by cases h; exact ⟨_, _, heap_alloc_new _ _⟩⟩
set_option maxHeartbeats 2000000 in
theorem repeat_any (XB n : Nat) (hn : n ≤ 4096) (w : World) (HX : Hid (∀ j v, (cells5 nopI)[j]? = some v → w.cell? ⟨XB, j, none⟩ = some v)) (hXB : XB < w.heap.size) :
    Calls Try.prog 68 #[.slice (some ⟨XB, 0, none⟩) 1 1, .int .i64 n] w (InsNew (List.replicate n nopI) w) := by
  have ex0 : ∀ (x y : Value) (W : World), (Instr.extract (.tuple #[x, y]) 0).run Try.prog W = .ok x W := fun x y W => by kernel_rfl
  have ex1 : ∀ (x y : Value) (W : World), (Instr.extract (.tuple #[x, y]) 1).run Try.prog W = .ok y W := fun x y W => by kernel_rfl
  have hmk := make_ins n hn
  go_enter Try.func68, Try.ntmps68
  have g0 : 0 ≤ (n : Int) := by omega
  have g1 : (n : Int) ≤ 9223372036854775807 := by omega
  go_upto_region 7 with (go_at_call 83; ((with_reducible refine (mul_one n hn _).mono ?_); rintro e w' ⟨rfl, rfl⟩))
  obtain ⟨q, hq⟩ : ∃ q, q = Nat.min 1 n := ⟨_, rfl⟩
  have hq1 : q ≤ n := by rw [hq]; exact Nat.min_le_right _ _
  have hq2 : q ≤ 1 := by rw [hq]; exact Nat.min_le_left _ _
  have hq3 : n ≤ 1 → q = n := fun h => by rw [hq]; exact Nat.min_eq_right h
  have hq4 : 1 ≤ n → q = 1 := fun h => by rw [hq]; exact Nat.min_eq_left h
  have hsrc : ∀ j v, ((List.replicate q nopI).flatMap cells5)[j]? = some v → (w.alloc (.cells (repl 0 n).toArray 24)).cell? ((⟨XB, 0, none⟩ : Addr).add j) = some v := by
    intro j v hj
    rw [Addr.add_lit, Nat.zero_add]
    have : q = 0 ∨ q = 1 := by omega
    rcases this with rfl | rfl
    · simp at hj
    · exact (World.cell?_alloc_lt _ _ _ hXB).trans (HX.out j v (by simpa using hj))
  have hcp := run_copy_wide (P := Try.prog) (w.alloc (.cells (repl 0 n).toArray 24)) 37 37 3 24 w.heap.size 0 n n ⟨XB, 0, none⟩ 1 1 5 (repl 0 n).toArray 24 ((List.replicate q nopI).flatMap cells5)
    Try.underlying37 ins_size (heap_alloc_new _ _) (by rw [nops_len, hq]) hsrc (by rw [nops_len, List.size_toArray, repl_len _ _ (by omega)]; omega) (nops_one q)
  have hcells : ((repl 0 n).toArray.toList.take 0 ++ (List.replicate q nopI).flatMap cells5 ++ (repl 0 n).toArray.toList.drop (0 + ((List.replicate q nopI).flatMap cells5).length)) = repl q n := by
    have := repl_copy 0 q n (by omega)
    simpa using this
  rw [hcells, ← hq] at hcp
  have HCP := Lib.hid hcp
  have hB0 : Both w ((w.alloc (.cells (repl 0 n).toArray 24)).setRow w.heap.size (repl q n).toArray) := ((Both.refl w).alloc _ _).setRow (Nat.le_refl _) _
  have hR0 : ((w.alloc (.cells (repl 0 n).toArray 24)).setRow w.heap.size (repl q n).toArray).heap[w.heap.size]? = some (.cells (repl q n).toArray 24 (0, 0)) := setRow_heap _ _ _ _ _ _ (heap_alloc_new _ _)
  have HB0 := Lib.hid hB0
  have HR0 := Lib.hid hR0
  clear hcp hcells hsrc hB0 hR0 hmk hq
  rename_i K hK
  refine wp_region_list ?_
  refine wpList_one rfl rfl ?_
  refine wpList_one rfl rfl ?_
  refine wpList_cp rfl (.tmp 31) (.tmp 32) 37 37 rfl _ _ _ rfl rfl HCP.out ?_
  refine wpList_one rfl rfl ?_
  refine wpList_nil ?_
  refine hK _ _ ?_
  clear hK K HCP
  generalize (w.alloc (.cells (repl 0 n).toArray 24)).setRow w.heap.size (repl q n).toArray = W0 at HB0 HR0 ⊢
  obtain ⟨B, hB⟩ : ∃ B, B = w.heap.size := ⟨_, rfl⟩
  have hBw : w.heap.size ≤ B := by omega
  rw [← hB] at HR0 ⊢
  clear hB
  go_wp2_with fail
  go_loopw [8] (fun v wr => ∃ m : Nat, m ≤ n ∧ (1 ≤ n → 1 ≤ m) ∧ v = .int .i64 m ∧ Hid (Both w wr) ∧ Hid (wr.heap[B]? = some (.cells (repl m n).toArray 24 (0, 0)))) (fun v _ => n - (intOf v).toNat)
  case atStart => exact ⟨q, hq1, fun h => by have := hq4 h; omega, rfl, HB0.out, HR0.out⟩
  case round =>
    obtain ⟨m, hm, hm1, rfl, HB, HR⟩ := hrel
    by_cases hlt : m < n
    · obtain ⟨p, hp⟩ : ∃ p, p = Nat.min m (n - m) := ⟨_, rfl⟩
      have hp1 : m + p ≤ n := by
        have h1 : p ≤ n - m := by rw [hp]; exact Nat.min_le_right _ _
        omega
      have hp2 : 1 ≤ p := by rw [hp]; exact Nat.le_min.2 ⟨hm1 (by omega), by omega⟩
      have hsrc : ∀ j v, ((List.replicate p nopI).flatMap cells5)[j]? = some v → wr.drew.cell? ((⟨B, 0, none⟩ : Addr).add j) = some v := by
        intro j v hj
        rw [Addr.add_lit, Nat.zero_add]
        show wr.cell? ⟨B, j, none⟩ = some v
        rw [cell_of_heap HR.out, List.getElem?_toArray]
        unfold repl
        have hpm : p ≤ m := by rw [hp]; exact Nat.min_le_left _ _
        have e : List.replicate m nopI = List.replicate p nopI ++ List.replicate (m - p) nopI := by rw [List.replicate_append_replicate]; congr 1; omega
        rw [e, List.flatMap_append, List.append_assoc, List.getElem?_append_left (List.getElem?_eq_some_iff.1 hj).1]
        exact hj
      have hcp := run_copy_wide (P := Try.prog) wr.drew 37 37 3 24 B (m * 5) (n - m) (n - m) ⟨B, 0, none⟩ m n 5 (repl m n).toArray 24 ((List.replicate p nopI).flatMap cells5)
        Try.underlying37 ins_size HR.out (by rw [nops_len, hp]) hsrc (by rw [nops_len, List.size_toArray, repl_len _ _ hm]; omega) (nops_one p)
      have hcells : ((repl m n).toArray.toList.take (m * 5) ++ (List.replicate p nopI).flatMap cells5 ++ (repl m n).toArray.toList.drop (m * 5 + ((List.replicate p nopI).flatMap cells5).length)) = repl (m + p) n := repl_copy m p n hp1
      rw [hcells, ← hp] at hcp
      have HCP := Lib.hid hcp
      have hR2 : (wr.drew.setRow B (repl (m + p) n).toArray).heap[B]? = some (.cells (repl (m + p) n).toArray 24 (0, 0)) := setRow_heap _ _ _ _ _ _ (show wr.drew.heap[B]? = _ from HR.out)
      have hB2 : Both w (wr.drew.setRow B (repl (m + p) n).toArray) := HB.out.drew.setRow hBw _
      have HR2 := Lib.hid hR2
      have HB2 := Lib.hid hB2
      have hs : IntKind.i64.wrap ((m : Int) + (p : Int)) = (m : Int) + (p : Int) := IntWalk.i64_in _ (by constructor <;> omega)
      have hne : ¬ n = m := by omega
      have hmn : (m : Int) < n := by omega
      clear hcp hcells hsrc hR2 hB2 hp
      go_upto_region 9 with (fail)
      go_region_law (refine step_copy rfl (.tmp 41) (.tmp 44) 37 37 rfl _ _ _ (by simp [Act.eval, Act.put]) (by simp [Act.eval, Act.put]) HCP.out ?_)
      all_goals
        go_frame
        go_roundw
        case rel => exact ⟨.int .i64 ((m + p : Nat) : Int), _, _, _, _, _, _, _, _, _, _, _, _, _, ⟨m + p, hp1, fun _ => by omega, rfl, HB2.out, HR2.out⟩, rfl⟩
        case measure => simp [intOf]; omega
    · obtain rfl : m = n := by omega
      go_wp2_with fail
      go_ret
      refine ⟨some ⟨B, 0, none⟩, m, by rw [List.length_replicate]; rfl, ?_, HB.out, fun a h => by cases h; exact ⟨_, _, HR.out⟩⟩
      intro j i hj
      refine ⟨B, 0, rfl, lt_of_heap HR.out, fun k v hv => ?_⟩
      rw [cell_of_heap HR.out, List.getElem?_toArray, Nat.zero_add]
      have hg := nops_get (Nat.le_refl m) j i hj k v hv
      unfold repl
      rw [List.getElem?_append_left (List.getElem?_eq_some_iff.1 hg).1]
      exact hg
end Go.Proofs.Ytjjbfeoidceiiaa
