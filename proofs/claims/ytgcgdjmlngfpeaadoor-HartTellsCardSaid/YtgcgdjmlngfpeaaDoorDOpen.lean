/- A row's bits, a piece's mask, an instruction's parts, its name. -/
import Derived.Test.YtgcgdjmlngfpeaaDoorDForm
import Derived.Test.YtgcgdjmlngfpeaaDoorCCode
import Derived.Deep.QuietTactic
import Derived.BigQuiet
import Derived.Deep.RegionHeld3
namespace Go.Proofs.YtgcgdjmlngfpeaaDoor
open Go.RowKit Rv
set_option linter.unusedVariables false
def bitsV (lo mi hi se : Int) : Int := bits .or .i64 (bits .or .i64 (bits .or .i64 lo (mi * 4096)) (se * 1048576)) (hi * 33554432)
def maskV (wd : Int) : Int := wrap64 (wrap64 (2 ^ wd.toNat) - 1)
theorem parts_any (o d a b n : Int) (w : World) :
    Calls Tryd.prog 57 #[.agg #[.int .i64 o, .int .i64 d, .int .i64 a, .int .i64 b, .int .i64 n]] w fun e w' => e = .returned (.agg #[.int .i64 d, .int .i64 a, .int .i64 b, .int .i64 n]) ∧ Both w w' := by
  go_enter Tryd.func57, Tryd.ntmps57
  go_wp2
  refine bodyPost_ret (v := .agg #[.int .i64 d, .int .i64 a, .int .i64 b, .int .i64 n]) (by simp [results, Tryd.results57, go_sem]) rfl ⟨rfl, ?_⟩
  repeat (first | exact Both.refl _ | refine Both.setCell ?_ (by simp) _ | refine Both.setRow ?_ (by simp) _ | refine Both.alloc ?_ _ _)
/-- a row's word's bits -/
theorem rowof_tuple (op : Int) (w : World) : Calls Tryd.prog 55 #[.int .i64 op] w fun e w' => e = .returned (.tuple #[.agg #[.string ⟨(name op).toArray⟩, .int .u8 (form op), .int .i64 (low op), .int .i64 (mid op), .int .i64 (high op), .int .i64 (extra op)], .bool (decide (1 ≤ op ∧ op ≤ 49))]) ∧ Both w w' := rowof2_any op w
theorem tup0 (x y : Value) (W : World) : (Instr.extract (.tuple #[x, y]) 0).run Tryd.prog W = .ok x W := by kernel_rfl
end Go.Proofs.YtgcgdjmlngfpeaaDoor
/- What bounds of a form are: the number's, or a register's, or 0 and 0. -/
namespace Go.Proofs.YtgcgdjmlngfpeaaDoor
open Go.RowKit Rv
set_option linter.unusedVariables false
structure Pc.ok (x : Pc) : Prop where
  p0 : 0 ≤ x.p
  p1 : x.p < 4
  f0 : 0 ≤ x.f
  f1 : x.f < 32
  a0 : 0 ≤ x.a
  a1 : x.a < 32
  w0 : 0 ≤ x.w
  w1 : x.w < 32
theorem index_piece (ps : List Pc) (h6 : ps.length = 6) (k : Nat) (x : Pc) (hx : ps[k]? = some x) (W : World) :
    (Instr.index 74 (.agg (ps.flatMap pcV).toArray) (.int .i64 (k : Int))).run Tryd.prog W = .ok (.agg #[.int .u8 x.p, .int .u8 x.f, .int .u8 x.a, .int .u8 x.w]) W := by
  match ps, h6 with
  | [x0, x1, x2, x3, x4, x5], _ =>
    match k, hx with
    | 0, hx => obtain rfl := Option.some.inj hx; (show _ = _; kernel_rfl)
    | 1, hx => obtain rfl := Option.some.inj hx; (show _ = _; kernel_rfl)
    | 2, hx => obtain rfl := Option.some.inj hx; (show _ = _; kernel_rfl)
    | 3, hx => obtain rfl := Option.some.inj hx; (show _ = _; kernel_rfl)
    | 4, hx => obtain rfl := Option.some.inj hx; (show _ = _; kernel_rfl)
    | 5, hx => obtain rfl := Option.some.inj hx; (show _ = _; kernel_rfl)
    | k + 6, hx => simp at hx
theorem pieces_size : (Tryd.prog.info? 74).map (·.size) = some 24 := by kernel_rfl
theorem pieces_at {w : World} {g : Nat} {lo hi st : Int} {ps : List Pc} {t : TypeId} {fr : Nat × Nat} (h : w.heap[g]? = some (.cells (formCells lo hi st ps).toArray t fr)) : w.rangeAt g 3 (ps.flatMap pcV) := by
  intro j v hj
  rw [cell_of_heap h]
  show (formCells lo hi st ps).toArray[3 + j]? = some v
  rw [formCells, List.getElem?_toArray, List.getElem?_append_right (by simp)]
  simpa using hj
theorem any_yes {ps : List Pc} {part : Int} {k : Nat} {x : Pc} (hx : ps[k]? = some x) (h : x.p = part ∧ 0 < x.w) : (if ps.any (fun x => decide (x.p = part ∧ 0 < x.w)) then (31 : Int) else 0) = 31 := by
  rw [if_pos]
  exact List.any_eq_true.2 ⟨x, List.mem_of_getElem? hx, decide_eq_true h⟩
theorem any_no {ps : List Pc} {part : Int} (h6 : ps.length = 6) (h : ∀ j x, j < 6 → ps[j]? = some x → ¬ (x.p = part ∧ 0 < x.w)) : (if ps.any (fun x => decide (x.p = part ∧ 0 < x.w)) then (31 : Int) else 0) = 0 := by
  rw [if_neg]
  intro hh
  obtain ⟨x, hx, hd⟩ := List.any_eq_true.1 hh
  obtain ⟨j, hj, e⟩ := List.getElem_of_mem hx
  exact h j x (by omega) (by rw [List.getElem?_eq_getElem hj, e]) (of_decide_eq_true hd)
def noneYet (ps : List Pc) (part : Int) (k : Nat) : Prop := ∀ j x, j < k → ps[j]? = some x → ¬ (x.p = part ∧ 0 < x.w)
theorem noneYet.next {ps : List Pc} {part : Int} {k : Nat} {x : Pc} (h : noneYet ps part k) (hx : ps[k]? = some x) (hn : ¬ (x.p = part ∧ 0 < x.w)) : noneYet ps part (k + 1) := by
  intro j y hj hy
  by_cases e : j = k
  · subst e
    obtain rfl := Option.some.inj (hx.symm.trans hy)
    exact hn
  · exact h j y (by omega) hy
set_option maxRecDepth 100000 in
set_option maxHeartbeats 4000000 in
theorem bounds_no (lo hi st part r : Int) (ps : List Pc) (H6 : Hid (ps.length = 6)) (HOK : Hid (∀ x ∈ ps, Pc.ok x)) (hp : (part == 3) = false) (hp0 : 0 ≤ part) (hp1 : part < 4) (HRes : Hid ((if ps.any (fun x => decide (x.p = part ∧ 0 < x.w)) then (31 : Int) else 0) = r)) (w : World) :
    Calls Tryd.prog 58 #[.agg (formCells lo hi st ps).toArray, .int .i64 part] w fun e w' => e = .returned (.tuple #[.int .i64 0, .int .i64 r]) ∧ Both w w' := by
  go_enter Tryd.func58, Tryd.ntmps58
  go_upto_region 3 with (fail)
  rename_i K2 hK2 K hK
  have hB1 : Both w (w.alloc (.cells (formCells lo hi st ps).toArray 76)) := (Both.refl w).alloc _ _
  have hr1 : (w.alloc (.cells (formCells lo hi st ps).toArray 76)).heap[w.heap.size]? = some (.cells (formCells lo hi st ps).toArray 76 (0, 0)) := heap_alloc_new _ _
  generalize w.alloc (.cells (formCells lo hi st ps).toArray 76) = W1 at hB1 hr1 ⊢
  have hsz : (Tryd.prog.info? 74).map (·.size) = some (ps.flatMap pcV).length := by rw [pcV_len, H6.out]; exact pieces_size
  refine wp_region_list ?_
  refine wpList_one rfl (w' := W1) (v := .pointer (some ⟨w.heap.size, 3, none⟩)) (by kernel_rfl) ?_
  refine wpList_load_mid rfl 74 (.tmp 14) rfl w.heap.size 3 (by kernel_rfl) (ps.flatMap pcV) (.array _ _) (pieces_at hr1) Tryd.underlying74 rfl hsz ?_
  refine wpList_one rfl (w' := W1) (v := .int .i64 0) (by kernel_rfl) ?_
  refine wpList_nil ?_
  refine hK _ _ ?_
  have HSZ := Lib.hid hsz
  have HB1 := Lib.hid hB1
  clear hsz hr1 hB1 hK K
  generalize hcs : (ps.flatMap pcV).toArray = cs
  have HCS := Lib.hid hcs
  clear hcs
  go_wp2_with fail
  go_loopw [16] (fun i wr => ∃ k : Nat, k ≤ 6 ∧ i = .int .i64 k ∧ Both W1 wr ∧ noneYet ps part k) (fun i _ => 6 - (intOf i).toNat)
  case atStart => exact ⟨0, by omega, rfl, Both.refl _, fun j x hj => by omega⟩
  case round =>
    obtain ⟨k, hk, rfl, hb, hn⟩ := hrel
    have HB := Lib.hid hb
    have HN := Lib.hid hn
    clear hb hn
    by_cases hlt : k < 6
    · have hkl : k < ps.length := by rw [H6.out]; exact hlt
      obtain ⟨x, hx⟩ : ∃ x, ps[k]? = some x := ⟨ps[k], List.getElem?_eq_getElem hkl⟩
      obtain ⟨p0, p1, f0, f1, a0, a1, w0, w1⟩ := HOK.out x (List.mem_of_getElem? hx)
      have hidx : ∀ W, (Instr.index 74 (.agg cs) (.int .i64 (k : Int))).run Tryd.prog W = .ok (.agg #[.int .u8 x.p, .int .u8 x.f, .int .u8 x.a, .int .u8 x.w]) W := fun W => by
        rw [← HCS.out]
        exact index_piece ps H6.out k x hx W
      have HX := Lib.hid hx
      obtain ⟨xp, xf, xa, xw⟩ := x
      simp only at p0 p1 f0 f1 a0 a1 w0 w1 hidx
      clear hx hkl
      have hlt' : (k : Int) < 6 := by omega
      by_cases hq : xp = part
      · subst hq
        by_cases hw : 0 < xw
        · have HRR : Hid (31 = r) := (any_yes HX.out ⟨rfl, hw⟩).symm.trans HRes.out
          go_wp2
          go_ret2
          exact ⟨by have e := HRR.out; subst e; rfl, HB1.out.trans (HB.out.alloc _ _)⟩
        · have HNN := Lib.hid (HN.out.next HX.out (fun h => hw h.2))
          go_wp2
          go_roundw
          case rel => exact ⟨k + 1, by omega, by go_num, HB.out.alloc _ _, HNN.out⟩
          case measure => simp [intOf]; omega
      · have HNN := Lib.hid (HN.out.next HX.out (fun h => hq h.1))
        have hq' : (xp == part) = false := by simpa using hq
        go_wp2
        go_roundw
        case rel => exact ⟨k + 1, by omega, by go_num, HB.out.alloc _ _, HNN.out⟩
        case measure => simp [intOf]; omega
    · obtain rfl : k = 6 := by omega
      have HRR : Hid (0 = r) := (any_no H6.out HN.out).symm.trans HRes.out
      go_wp2
      go_ret2
      exact ⟨by have e := HRR.out; subst e; rfl, HB1.out.trans HB.out⟩
theorem Both.drewN {a b : World} (h : Both a b) (n : Nat) : Both a (b.drewN n) := ⟨⟨h.1.os, h.1.tape, h.1.output, h.1.size, h.1.block⟩, h.2⟩
theorem Both.drew {a b : World} (h : Both a b) : Both a b.drew := ⟨⟨h.1.os, h.1.tape, h.1.output, h.1.size, h.1.block⟩, h.2⟩
set_option maxRecDepth 100000 in
set_option maxHeartbeats 4000000 in
theorem bounds_3 (lo hi st : Int) (ps : List Pc) (w : World) :
    Calls Tryd.prog 58 #[.agg (formCells lo hi st ps).toArray, .int .i64 3] w fun e w' => e = .returned (.tuple #[.int .i64 lo, .int .i64 hi]) ∧ Both w w' := by
  have e0 : (formCells lo hi st ps).toArray[0]? = some (.int .i64 lo) := rfl
  have e1 : (formCells lo hi st ps).toArray[1]? = some (.int .i64 hi) := rfl
  generalize (formCells lo hi st ps).toArray = cs at e0 e1 ⊢
  have hB1 : Both w (w.alloc (.cells cs 76)) := (Both.refl w).alloc _ _
  have h0 := (World.cell?_alloc_new w cs 76 0).trans e0
  have h1 := (World.cell?_alloc_new w cs 76 1).trans e1
  go_enter Tryd.func58, Tryd.ntmps58
  go_wp2
  generalize w.alloc (.cells cs 76) = W1 at hB1 h0 h1 ⊢
  go_quiet (fail)
  go_wp2
  go_ret2
  exact ⟨rfl, hB1.drewN _⟩
end Go.Proofs.YtgcgdjmlngfpeaaDoor
/- What open of a form is: all bits that its pieces may fill. -/
namespace Go.Proofs.YtgcgdjmlngfpeaaDoor
open Go.RowKit Rv
set_option linter.unusedVariables false
def openS (u : Int) (x : Pc) : Int := bits .or .i64 u (IntKind.i64.wrap (maskV x.w * 2 ^ x.a.toNat))
def openK (ps : List Pc) (k : Nat) : Int := (ps.take k).foldl openS 0
theorem openK_next {ps : List Pc} {k : Nat} {x : Pc} {u : Int} (hu : openK ps k = u) (hx : ps[k]? = some x) : openK ps (k + 1) = openS u x := by
  subst hu
  obtain ⟨h, e⟩ := List.getElem?_eq_some_iff.1 hx
  unfold openK
  rw [List.take_succ_eq_append_getElem h, List.foldl_append, e]
  rfl
theorem openK_next' {ps : List Pc} {k : Nat} {xp xf xa xw u : Int} (hu : openK ps k = u) (hx : ps[k]? = some ⟨xp, xf, xa, xw⟩) : openK ps (k + 1) = bits .or .i64 u (IntKind.i64.wrap (maskV xw * 2 ^ xa.toNat)) := by
  rw [openK_next hu hx]
  unfold openS
  rfl
end Go.Proofs.YtgcgdjmlngfpeaaDoor
