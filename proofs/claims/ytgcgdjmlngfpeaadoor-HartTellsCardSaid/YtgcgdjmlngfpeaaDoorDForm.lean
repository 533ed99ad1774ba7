/- The forms of package code as plain tables: pieces, bounds and steps; what laid lays. -/
import Derived.Test.YtgcgdjmlngfpeaaDoorDRowOf
import Derived.Test.YtgcgdjmlngfpeaaDoorDMath
import Derived.Laws.CopyRow
namespace Go.Proofs.YtgcgdjmlngfpeaaDoor
open Go.RowKit Rv
namespace Rv
/-- so many bits of a part, from one on, at a place of the word -/
structure Pc where
  p : Int
  f : Int
  a : Int
  w : Int
def pcV (x : Pc) : List Value := [.int .u8 x.p, .int .u8 x.f, .int .u8 x.a, .int .u8 x.w]
def pcs (l : Int) : List Pc :=
  if l = 82 then [⟨0, 0, 7, 5⟩, ⟨1, 0, 15, 5⟩, ⟨2, 0, 20, 5⟩] else
  if l = 73 then [⟨0, 0, 7, 5⟩, ⟨1, 0, 15, 5⟩, ⟨3, 0, 20, 12⟩] else
  if l = 72 then [⟨0, 0, 7, 5⟩, ⟨1, 0, 15, 5⟩, ⟨3, 0, 20, 5⟩] else
  if l = 83 then [⟨1, 0, 15, 5⟩, ⟨2, 0, 20, 5⟩, ⟨3, 0, 7, 5⟩, ⟨3, 5, 25, 7⟩] else
  if l = 66 then [⟨1, 0, 15, 5⟩, ⟨2, 0, 20, 5⟩, ⟨3, 11, 7, 1⟩, ⟨3, 1, 8, 4⟩, ⟨3, 5, 25, 6⟩, ⟨3, 12, 31, 1⟩] else
  if l = 85 then [⟨0, 0, 7, 5⟩, ⟨3, 0, 12, 20⟩] else
  if l = 74 then [⟨0, 0, 7, 5⟩, ⟨3, 12, 12, 8⟩, ⟨3, 11, 20, 1⟩, ⟨3, 1, 21, 10⟩, ⟨3, 20, 31, 1⟩] else
  if l = 70 then [⟨3, 0, 20, 8⟩] else
  if l = 67 then [⟨0, 0, 7, 5⟩, ⟨1, 0, 15, 5⟩, ⟨3, 0, 20, 12⟩] else
  if l = 76 then [⟨0, 0, 7, 5⟩, ⟨1, 0, 15, 5⟩, ⟨3, 0, 25, 2⟩] else
  if l = 65 then [⟨0, 0, 7, 5⟩, ⟨1, 0, 15, 5⟩, ⟨2, 0, 20, 5⟩, ⟨3, 0, 25, 2⟩] else []
def six (l : List Pc) : List Pc := (l ++ List.replicate 6 (⟨0, 0, 0, 0⟩ : Pc)).take 6
def loF (l : Int) : Int := if l = 73 ∨ l = 83 then -2048 else if l = 66 then -4096 else if l = 74 then -1048576 else 0
def hiF (l : Int) : Int := if l = 73 ∨ l = 83 then 2047 else if l = 72 then 31 else if l = 66 then 4094 else if l = 85 then 1048575 else if l = 74 then 1048574 else if l = 70 then 255 else if l = 67 then 4095 else if l = 76 ∨ l = 65 then 3 else 0
def stF (l : Int) : Int := if l = 66 ∨ l = 74 then 2 else 1
def formCells (lo hi st : Int) (ps : List Pc) : List Value := [.int .i64 lo, .int .i64 hi, .int .i64 st] ++ ps.flatMap pcV
end Rv
theorem run_copy_wide {P : Program} (w : World) (dT sT ty elem : TypeId) (g o dLen dCap : Nat) (a : Addr) (sLen sCap size : Nat) (cur : Array Value) (t : TypeId) (cs : List Value)
    (hu : P.underlying dT = some (.slice elem)) (hs : (P.info? elem).map (·.size) = some size) (hg : w.heap[g]? = some (.cells cur t (0, 0))) (hn : cs.length = Nat.min sLen dLen * size)
    (hsrc : ∀ j v, cs[j]? = some v → w.cell? (a.add j) = some v) (hfit : o + cs.length ≤ cur.size) (h1 : ∀ v ∈ cs, v.oneCell' = true) :
    (Builtin.copy_ #[dT, sT] ty #[.slice (some ⟨g, o, none⟩) dLen dCap, .slice (some a) sLen sCap]).run P w =
      .ok (goInt (Nat.min sLen dLen)) (w.setRow g (cur.toList.take o ++ cs ++ cur.toList.drop (o + cs.length)).toArray) := by
  have hl := run_loadCells_list (P := P) w a cs hsrc
  have hst := run_storeCells_at P g o t cs 0 cur w hg (by simpa using hfit) h1
  cases hq : P.info? elem with
  | none => simp [hq] at hs
  | some i =>
    have hi : i.size = size := by simpa [hq] using hs
    rw [hn] at hl
    simp [Builtin.copy_, run_underlying hu, Builtin.lenOf, Builtin.firstCells, sizeOf, typeInfo, hq, hi, hl, hst]
theorem wpList_copy_wide {P : Program} {w : World} {ops : Array Oper} {rest : List Oper} {o : Oper} {a : Act} {Q : Exit → Act → World → Prop} (hgd : o.guard = none) (d s : Operand) (dT sT : TypeId)
    (ho : o.op = .call { callee := .builtin .copy, args := #[d, s], argTypes := #[dT, sT] }) (elem : TypeId) (size : Nat) (hu : P.underlying dT = some (.slice elem)) (hsz : (P.info? elem).map (·.size) = some size)
    (g off dLen dCap : Nat) (ad : Addr) (sLen sCap : Nat) (hd : a.eval d = .slice (some ⟨g, off, none⟩) dLen dCap) (hs : a.eval s = .slice (some ad) sLen sCap)
    (cur : Array Value) (t : TypeId) (hg : w.heap[g]? = some (.cells cur t (0, 0))) (cs : List Value) (hn : cs.length = Nat.min sLen dLen * size)
    (hsrc : ∀ j v, cs[j]? = some v → w.cell? (ad.add j) = some v) (hfit : off + cs.length ≤ cur.size) (h1 : ∀ v ∈ cs, v.oneCell' = true)
    (h : wpList P ops Q rest (a.put o.dst (goInt (Nat.min sLen dLen))) (w.setRow g (cur.toList.take off ++ (cs ++ cur.toList.drop (off + cs.length))).toArray)) : wpList P ops Q (o :: rest) a w := by
  refine wpList_plain hgd fun K hK => ?_
  have hrun := run_copy_wide (P := P) w dT sT o.type elem g off dLen dCap ad sLen sCap size cur t cs hu hsz hg hn hsrc hfit h1
  unfold Oper.wp
  simp [execOp, ho, resolve, invoke, builtin, hd, hs, hrun, Result.andThen]
  exact hK _ _ h
theorem wpList_copy_nil {P : Program} {w : World} {ops : Array Oper} {rest : List Oper} {o : Oper} {a : Act} {Q : Exit → Act → World → Prop} (hgd : o.guard = none) (d s : Operand) (dT sT : TypeId)
    (ho : o.op = .call { callee := .builtin .copy, args := #[d, s], argTypes := #[dT, sT] }) (elem : TypeId) (hu : P.underlying dT = some (.slice elem)) (hsz : ((P.info? elem).map (·.size)).isSome = true)
    (ad : Addr) (dLen dCap : Nat) (hd : a.eval d = .slice (some ad) dLen dCap) (hs : a.eval s = .slice none 0 0)
    (h : wpList P ops Q rest (a.put o.dst (goInt 0)) w) : wpList P ops Q (o :: rest) a w := by
  refine wpList_plain hgd fun K hK => ?_
  have hrun := run_copy_nil (P := P) w dT sT o.type elem ad dLen dCap hu hsz
  unfold Oper.wp
  simp [execOp, ho, resolve, invoke, builtin, hd, hs, hrun, Result.andThen]
  exact hK _ _ h
theorem form_size : (Tryd.prog.info? 76).map (·.size) = some 27 := by kernel_rfl
abbrev formZero : Array Value := (formCells 0 0 0 (six [])).toArray
theorem zero_form (w : World) : (zeroValue 76).run Tryd.prog w = .ok (.agg formZero) w := by kernel_rfl
theorem six_cells (ps : List Pc) (h : ps.length ≤ 6) : (six ps).flatMap pcV = ps.flatMap pcV ++ (List.replicate (24 - 4 * ps.length) (Value.int .u8 0)) := by
  match ps, h with
  | [], _ => rfl
  | [_], _ => rfl
  | [_, _], _ => rfl
  | [_, _, _], _ => rfl
  | [_, _, _, _], _ => rfl
  | [_, _, _, _, _], _ => rfl
  | [_, _, _, _, _, _], _ => rfl
theorem pcV_len (ps : List Pc) : (ps.flatMap pcV).length = ps.length * 4 := by
  induction ps with
  | nil => rfl
  | cons x l ih => rw [List.flatMap_cons, List.length_append, ih, List.length_cons, show (pcV x).length = 4 from rfl]; omega
theorem pcV_one (ps : List Pc) : ∀ v ∈ ps.flatMap pcV, v.oneCell' = true := by
  intro v hv
  obtain ⟨x, _, hx⟩ := List.mem_flatMap.1 hv
  simp only [pcV, List.mem_cons, List.not_mem_nil, or_false] at hx
  rcases hx with rfl | rfl | rfl | rfl <;> rfl
theorem slice_six (g : Nat) (W : World) : (Instr.sliceAt 74 (.pointer (some ⟨g, 3, none⟩)) none none none).run Tryd.prog W = .ok (.slice (some ⟨g, 3, none⟩) 6 6) W := by
  have hs : (sizeOf 73).run Tryd.prog W = .ok 4 W := by kernel_rfl
  simp [Instr.sliceAt, run_underlying Tryd.underlying74, Instr.sureAddr, Instr.sliceBounds, hs, Addr.add]
theorem exec_slice {o : Oper} {ρ : Operand → Value} {x : Operand} (ho : o.op = .slice 74 x none none none) (g : Nat) (hx : ρ x = .pointer (some ⟨g, 3, none⟩)) (W : World) :
    (execOp ρ o).run Tryd.prog W = .ok (.value (.slice (some ⟨g, 3, none⟩) 6 6)) W := by
  unfold execOp
  simp only [ho, hx, Option.map_none, Sem.run_bind, Sem.run_pure, Result.andThen_ok, slice_six g W]
theorem six_len (ps : List Pc) : (six ps).length = 6 := by simp [six]
theorem form_len (lo hi st : Int) (ps : List Pc) : (formCells lo hi st (six ps)).length = 27 := by
  rw [formCells, List.length_append, pcV_len, six_len]
  rfl
set_option maxRecDepth 100000 in
set_option maxHeartbeats 4000000 in
theorem laid_any (lo hi st : Int) (b n c : Nat) (ps : List Pc) (hn : ps.length = n) (h6 : n ≤ 6) (w : World) (hc : ∀ j v, (ps.flatMap pcV)[j]? = some v → w.cell? ⟨b, j, none⟩ = some v) :
    Calls Tryd.prog 76 #[.int .i64 lo, .int .i64 hi, .int .i64 st, .slice (some ⟨b, 0, none⟩) n c] w fun e w' => e = .returned (.agg (formCells lo hi st (six ps)).toArray) ∧ Both w w' := by
  have hz := zero_form
  go_enter Tryd.func76, Tryd.ntmps76
  go_upto_region 1 with (fail)
  rename_i K hK
  clear hz
  have hW1 : Both w (w.alloc (.cells formZero 76)) := (Both.refl w).alloc _ _
  have h0 : (w.alloc (.cells formZero 76)).heap[w.heap.size]? = some (.cells formZero 76 (0, 0)) := heap_alloc_new _ _
  have hs1 : (w.alloc (.cells formZero 76)).heap.size = w.heap.size + 1 := by show (w.heap.push _).size = _; simp
  generalize w.alloc (.cells formZero 76) = W1 at hW1 h0 hs1 ⊢
  refine wp_region_list ?_
  refine wpList_one rfl (w' := W1) (v := .int .i64 lo) rfl ?_
  refine wpList_one rfl (w' := W1) (v := .int .i64 hi) rfl ?_
  refine wpList_one rfl (w' := W1) (v := .int .i64 st) rfl ?_
  refine wpList_one rfl (w' := W1) (v := .agg (formCells lo hi st (six [])).toArray) (by kernel_rfl) ?_
  refine wpList_one rfl (w' := W1.alloc (.cells formZero 76)) (v := .pointer (some ⟨W1.heap.size, 0, none⟩)) (by kernel_rfl) ?_
  have hb : (W1.alloc (.cells formZero 76)).heap[W1.heap.size]? = some (.cells formZero 76 (0, 0)) := heap_alloc_new _ _
  refine wpList_store_row rfl 76 (.tmp 9) (.tmp 13) rfl _ _ rfl rfl _ _ hb form_size rfl (by kernel_rfl) ?_
  have hr := setRow_heap _ _ _ (formCells lo hi st (six [])).toArray _ _ hb
  have hW2 : Both w ((W1.alloc (.cells formZero 76)).setRow W1.heap.size (formCells lo hi st (six [])).toArray) := (hW1.alloc _ _).setRow (by omega) _
  have h02 : ((W1.alloc (.cells formZero 76)).setRow W1.heap.size (formCells lo hi st (six [])).toArray).heap[w.heap.size]? = some (.cells formZero 76 (0, 0)) := by
    rw [setRow_other _ _ _ _ (by omega)]
    exact (heap_alloc_old _ _ (by omega)).trans h0
  generalize (W1.alloc (.cells formZero 76)).setRow W1.heap.size (formCells lo hi st (six [])).toArray = W2 at hr hW2 h02 ⊢
  have hg : w.heap.size < W1.heap.size := by omega
  generalize W1.heap.size = g at hr hg ⊢
  clear hb h0 hs1 hW1
  refine wpList_nil ?_
  refine hK _ _ ?_
  clear hK K W1
  have H02 := Lib.hid h02
  have HR := Lib.hid hr
  have HC := Lib.hid hc
  have HN := Lib.hid hn
  clear h02 hr hc hn
  go_upto_region 2 with (fail)
  rename_i K hK
  refine wp_region_list ?_
  refine wpList_one rfl (w' := W2) (v := .pointer (some ⟨g, 3, none⟩)) (by kernel_rfl) ?_
  refine wpList_one rfl (w' := W2) (v := .slice (some ⟨g, 3, none⟩) 6 6) (exec_slice rfl g rfl W2) ?_
  refine wpList_one rfl (w' := W2) (v := .slice (some ⟨b, 0, none⟩) n c) (by kernel_rfl) ?_
  have hmin : Nat.min n 6 = n := Nat.min_eq_left h6
  refine wpList_copy_wide rfl (.tmp 15) (.tmp 16) 101 101 rfl 73 4 Tryd.underlying101 (by kernel_rfl) g 3 6 6 ⟨b, 0, none⟩ n c (by kernel_rfl) (by kernel_rfl) _ 76 HR.out (ps.flatMap pcV)
    (by rw [pcV_len, HN.out, hmin]) ?_ (by rw [pcV_len, HN.out]; show 3 + n * 4 ≤ 27; omega) (pcV_one ps) ?_
  · intro j v hj
    have := HC.out j v hj
    have hlt : b < w.heap.size := by
      refine Nat.lt_of_not_le fun hge => ?_
      unfold World.cell? at this
      simp [Array.getElem?_eq_none hge] at this
    rw [Addr.add_mid, Nat.zero_add]
    exact (hW2.cell (p := ⟨b, j, none⟩) hlt).trans this
  have hcells : (List.take 3 (formCells lo hi st (six [])).toArray.toList ++ (ps.flatMap pcV ++ List.drop (3 + (ps.flatMap pcV).length) (formCells lo hi st (six [])).toArray.toList)) = formCells lo hi st (six ps) := by
    rw [formCells, formCells, six_cells ps (by rw [HN.out]; exact h6), pcV_len]
    have e : ∀ k, k ≤ 6 → List.drop (3 + k * 4) (([Value.int .i64 lo, .int .i64 hi, .int .i64 st] ++ (six []).flatMap pcV)) = List.replicate (24 - 4 * k) (Value.int .u8 0) := by
      intro k hk
      have : k = 0 ∨ k = 1 ∨ k = 2 ∨ k = 3 ∨ k = 4 ∨ k = 5 ∨ k = 6 := by omega
      rcases this with rfl | rfl | rfl | rfl | rfl | rfl | rfl <;> rfl
    rw [e _ (by rw [HN.out]; exact h6)]
    rfl
  rw [hcells]
  have hr3 := setRow_heap _ _ _ (formCells lo hi st (six ps)).toArray _ _ HR.out
  have hW3 := hW2.setRow (Nat.le_of_lt hg) (formCells lo hi st (six ps)).toArray
  have h03 : (W2.setRow g (formCells lo hi st (six ps)).toArray).heap[w.heap.size]? = some (.cells formZero 76 (0, 0)) := by
    rw [setRow_other _ _ _ _ (by omega)]
    exact H02.out
  generalize W2.setRow g (formCells lo hi st (six ps)).toArray = W3 at hr3 hW3 h03 ⊢
  have hsz : (Tryd.prog.info? 76).map (·.size) = some (formCells lo hi st (six ps)).toArray.size := by
    rw [form_size, List.size_toArray, form_len]
  refine wpList_nil ?_
  refine hK _ _ ?_
  clear hK K hcells
  have H03 := Lib.hid h03
  have HR3 := Lib.hid hr3
  have HS := Lib.hid hsz
  clear h03 hr3 hmin hsz
  go_upto_region 3 with (fail)
  rename_i K hK
  refine wp_region_list ?_
  refine wpList_load_mid rfl 76 (.tmp 9) rfl g 0 (by kernel_rfl) (formCells lo hi st (six ps)) (.struct _) ?_ Tryd.underlying76 rfl HS.out ?_
  · intro j v hj
    rw [cell_of_heap HR3.out]
    simpa using hj
  refine wpList_store_row rfl 76 (.tmp 8) (.tmp 18) rfl w.heap.size (formCells lo hi st (six ps)).toArray (by kernel_rfl) (by kernel_rfl) _ _ H03.out HS.out (Option.some.inj (form_size.symm.trans HS.out)) ?_ ?_
  · refine all_oneCell_toArray ?_
    intro v hv
    rcases List.mem_append.1 hv with hv | hv
    · simp only [List.mem_cons, List.not_mem_nil, or_false] at hv
      rcases hv with rfl | rfl | rfl <;> rfl
    · exact pcV_one _ v hv
  have hr4 := setRow_heap _ _ _ (formCells lo hi st (six ps)).toArray _ _ H03.out
  have hW4 := hW3.setRow (Nat.le_refl _) (formCells lo hi st (six ps)).toArray
  generalize W3.setRow w.heap.size (formCells lo hi st (six ps)).toArray = W4 at hr4 hW4 ⊢
  refine wpList_nil ?_
  refine hK _ _ (wp_ret ?_)
  exact bodyPost_ret (results_cell_row Tryd.results76 _ _ w.heap.size _ _ _ _ (by kernel_rfl) hr4 Tryd.underlying76 rfl HS.out) (by kernel_rfl) ⟨rfl, hW4⟩
set_option maxRecDepth 100000 in
set_option maxHeartbeats 4000000 in
theorem laid_nil (lo hi st : Int) (w : World) : Calls Tryd.prog 76 #[.int .i64 lo, .int .i64 hi, .int .i64 st, .slice none 0 0] w fun e w' => e = .returned (.agg (formCells lo hi st (six [])).toArray) ∧ Both w w' := by
  have hz := zero_form
  go_enter Tryd.func76, Tryd.ntmps76
  go_upto_region 1 with (fail)
  rename_i K hK
  clear hz
  have hW1 : Both w (w.alloc (.cells formZero 76)) := (Both.refl w).alloc _ _
  have h0 : (w.alloc (.cells formZero 76)).heap[w.heap.size]? = some (.cells formZero 76 (0, 0)) := heap_alloc_new _ _
  have hs1 : (w.alloc (.cells formZero 76)).heap.size = w.heap.size + 1 := by show (w.heap.push _).size = _; simp
  generalize w.alloc (.cells formZero 76) = W1 at hW1 h0 hs1 ⊢
  refine wp_region_list ?_
  refine wpList_one rfl (w' := W1) (v := .int .i64 lo) rfl ?_
  refine wpList_one rfl (w' := W1) (v := .int .i64 hi) rfl ?_
  refine wpList_one rfl (w' := W1) (v := .int .i64 st) rfl ?_
  refine wpList_one rfl (w' := W1) (v := .agg (formCells lo hi st (six [])).toArray) (by kernel_rfl) ?_
  refine wpList_one rfl (w' := W1.alloc (.cells formZero 76)) (v := .pointer (some ⟨W1.heap.size, 0, none⟩)) (by kernel_rfl) ?_
  have hb : (W1.alloc (.cells formZero 76)).heap[W1.heap.size]? = some (.cells formZero 76 (0, 0)) := heap_alloc_new _ _
  refine wpList_store_row rfl 76 (.tmp 9) (.tmp 13) rfl _ _ rfl rfl _ _ hb form_size rfl (by kernel_rfl) ?_
  have hr := setRow_heap _ _ _ (formCells lo hi st (six [])).toArray _ _ hb
  have hW2 : Both w ((W1.alloc (.cells formZero 76)).setRow W1.heap.size (formCells lo hi st (six [])).toArray) := (hW1.alloc _ _).setRow (by omega) _
  have h02 : ((W1.alloc (.cells formZero 76)).setRow W1.heap.size (formCells lo hi st (six [])).toArray).heap[w.heap.size]? = some (.cells formZero 76 (0, 0)) := by
    rw [setRow_other _ _ _ _ (by omega)]
    exact (heap_alloc_old _ _ (by omega)).trans h0
  generalize (W1.alloc (.cells formZero 76)).setRow W1.heap.size (formCells lo hi st (six [])).toArray = W2 at hr hW2 h02 ⊢
  have hg : w.heap.size < W1.heap.size := by omega
  generalize W1.heap.size = g at hr hg ⊢
  clear hb h0 hs1 hW1
  refine wpList_nil ?_
  refine hK _ _ ?_
  clear hK K W1
  have H02 := Lib.hid h02
  have HR := Lib.hid hr
  clear h02 hr
  go_upto_region 2 with (fail)
  rename_i K hK
  refine wp_region_list ?_
  refine wpList_one rfl (w' := W2) (v := .pointer (some ⟨g, 3, none⟩)) (by kernel_rfl) ?_
  refine wpList_one rfl (w' := W2) (v := .slice (some ⟨g, 3, none⟩) 6 6) (exec_slice rfl g rfl W2) ?_
  refine wpList_one rfl (w' := W2) (v := .slice none 0 0) (by kernel_rfl) ?_
  refine wpList_copy_nil rfl (.tmp 15) (.tmp 16) 101 101 rfl 73 Tryd.underlying101 (by kernel_rfl) ⟨g, 3, none⟩ 6 6 (by kernel_rfl) (by kernel_rfl) ?_
  refine wpList_nil ?_
  refine hK _ _ ?_
  clear hK K
  go_upto_region 3 with (fail)
  rename_i K hK
  refine wp_region_list ?_
  refine wpList_load_mid rfl 76 (.tmp 9) rfl g 0 (by kernel_rfl) (formCells lo hi st (six [])) (.struct _) ?_ Tryd.underlying76 rfl form_size ?_
  · intro j v hj
    rw [cell_of_heap HR.out]
    simpa using hj
  refine wpList_store_row rfl 76 (.tmp 8) (.tmp 18) rfl w.heap.size (formCells lo hi st (six [])).toArray (by kernel_rfl) (by kernel_rfl) _ _ H02.out form_size rfl (by kernel_rfl) ?_
  have hr4 := setRow_heap _ _ _ (formCells lo hi st (six [])).toArray _ _ H02.out
  have hW4 := hW2.setRow (Nat.le_refl _) (formCells lo hi st (six [])).toArray
  generalize W2.setRow w.heap.size (formCells lo hi st (six [])).toArray = W4 at hr4 hW4 ⊢
  refine wpList_nil ?_
  refine hK _ _ (wp_ret ?_)
  exact bodyPost_ret (results_cell_row Tryd.results76 _ _ w.heap.size _ _ _ _ (by kernel_rfl) hr4 Tryd.underlying76 rfl form_size) (by kernel_rfl) ⟨rfl, hW4⟩
end Go.Proofs.YtgcgdjmlngfpeaaDoor
