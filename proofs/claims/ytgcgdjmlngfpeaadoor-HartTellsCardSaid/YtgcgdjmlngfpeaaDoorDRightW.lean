/- What Right of package code answers: the plain function's own. -/
import Derived.Test.YtgcgdjmlngfpeaaDoorDLay
import Derived.Test.YtgcgdjmlngfpeaaDoorDFormOf
namespace Go.Proofs.YtgcgdjmlngfpeaaDoor
open Go.RowKit Rv
set_option linter.unusedVariables false
def formV (f : Int) : Array Value := (formCells (loF f) (hiF f) (stF f) (six (pcs f))).toArray
theorem formV_sz (f : Int) : (Tryd.prog.info? 76).map (·.size) = some (formV f).size := form_sz _ _ _ _
theorem formV_ones (f : Int) : (formV f).all (·.oneCell') = true := form_ones _ _ _ _
theorem formV_zero (f : Int) : formZero.size = (formV f).size := zero_sz _ _ _ _
theorem formof_any {op : Int} (h1 : 1 ≤ op) (h2 : op ≤ 49) (w : World) : Calls Tryd.prog 56 #[.int .u8 (form op)] w fun e w' => e = .returned (.agg (formV (form op))) ∧ Both w w' := by
  rcases form_is h1 h2 with hf | hf | hf | hf | hf | hf | hf | hf | hf | hf | hf | hf
  · rw [hf]; exact formof_R w
  · rw [hf]; exact formof_I w
  · rw [hf]; exact formof_C w
  · rw [hf]; exact formof_H w
  · rw [hf]; exact formof_S w
  · rw [hf]; exact formof_B w
  · rw [hf]; exact formof_U w
  · rw [hf]; exact formof_J w
  · rw [hf]; exact formof_F w
  · rw [hf]; exact formof_Z w
  · rw [hf]; exact formof_L w
  · rw [hf]; exact formof_A w
def okB (x : Pc) : Bool := decide (0 ≤ x.p ∧ x.p < 4 ∧ 0 ≤ x.f ∧ x.f < 32 ∧ 0 ≤ x.a ∧ x.a < 32 ∧ 0 ≤ x.w ∧ x.w < 32)
theorem pcs_ok {op : Int} (h1 : 1 ≤ op) (h2 : op ≤ 49) : ∀ x ∈ six (pcs (form op)), Pc.ok x := by
  have : (six (pcs (form op))).all okB = true := by
    rcases form_is h1 h2 with hf | hf | hf | hf | hf | hf | hf | hf | hf | hf | hf | hf
    all_goals (rw [hf]; decide +kernel)
  intro x hx
  have hb := List.all_eq_true.1 this x hx
  obtain ⟨a1, a2, a3, a4, a5, a6, a7, a8⟩ := of_decide_eq_true hb
  exact ⟨a1, a2, a3, a4, a5, a6, a7, a8⟩
def loK (f k : Int) : Int := if k = 3 then loF f else 0
def hiK (f k : Int) : Int := if k = 3 then hiF f else if (six (pcs f)).any (fun x => decide (x.p = k ∧ 0 < x.w)) then 31 else 0
theorem bounds_any {op k lo hi : Int} (h1 : 1 ≤ op) (h2 : op ≤ 49) (k0 : 0 ≤ k) (k1 : k < 4) (hlo : loK (form op) k = lo) (hhi : hiK (form op) k = hi) (w : World) :
    Calls Tryd.prog 58 #[.agg (formV (form op)), .int .i64 k] w fun e w' => e = .returned (.tuple #[.int .i64 lo, .int .i64 hi]) ∧ Both w w' := by
  subst hlo hhi
  by_cases h : k = 3
  · subst h
    exact bounds_3 _ _ _ _ w
  · have e : loK (form op) k = 0 := if_neg h
    rw [e]
    exact bounds_no _ _ _ k _ _ (six_len _) (pcs_ok h1 h2) (by simpa using h) k0 k1 (by rw [hiK, if_neg h]; rfl) w
/-- are the first parts within their bounds? -/
def inB (f d a b n : Int) (k : Nat) : Prop := ∀ j : Nat, j < k → loK f j ≤ partV d a b n j ∧ partV d a b n j ≤ hiK f j
theorem inB.next {f d a b n : Int} {k : Nat} (h : inB f d a b n k) (h1 : loK f k ≤ partV d a b n k) (h2 : partV d a b n k ≤ hiK f k) : inB f d a b n (k + 1) := by
  intro j hj
  by_cases e : j = k
  · subst e
    exact ⟨h1, h2⟩
  · exact h j (by omega)
theorem right_no {op d a b n : Int} {k : Nat} (hk : k < 4) (h : partV d a b n k < loK (form op) k ∨ hiK (form op) k < partV d a b n k) : right ⟨op, d, a, b, n⟩ = false := by
  by_cases ho : 1 ≤ op ∧ op ≤ 49
  · have hk' : k = 0 ∨ k = 1 ∨ k = 2 ∨ k = 3 := by omega
    cases hr : right ⟨op, d, a, b, n⟩ with
    | false => rfl
    | true =>
      exfalso
      obtain ⟨_, _, hd, ha, hb, hn⟩ := right_parts hr
      simp only at hd ha hb hn
      rcases form_is ho.1 ho.2 with hf | hf | hf | hf | hf | hf | hf | hf | hf | hf | hf | hf
      all_goals
        rw [hf] at hd ha hb hn h
        simp [hasD, hasA, hasB] at hd ha hb
        simp [num] at hn
        first | (have hd' := reg_yes hd) | (have hd' := reg_no hd)
        first | (have ha' := reg_yes ha) | (have ha' := reg_no ha)
        first | (have hb' := reg_yes hb) | (have hb' := reg_no hb)
        rcases hk' with rfl | rfl | rfl | rfl
        all_goals
          simp [partV, loK, hiK, loF, hiF, pcs, six] at h
          omega
  · unfold right
    rw [decide_eq_false ho]
    rfl
theorem right_yes {op d a b n : Int} (h1 : 1 ≤ op) (h2 : op ≤ 49) (h : inB (form op) d a b n 4) : right ⟨op, d, a, b, n⟩ = (n.tmod (stF (form op)) == 0) := by
  obtain ⟨d0, d1⟩ := h 0 (by omega)
  obtain ⟨a0, a1⟩ := h 1 (by omega)
  obtain ⟨b0, b1⟩ := h 2 (by omega)
  obtain ⟨n0, n1⟩ := h 3 (by omega)
  have ht : (n.tmod 2 == 0) = decide (n % 2 = 0) := by
    rw [Bool.eq_iff_iff, beq_iff_eq, decide_eq_true_eq]
    exact ⟨fun h => by have := Int.emod_add_mul_ediv n 2; have := Int.mul_tdiv_add_tmod n 2; omega, fun h => Int.tmod_eq_zero_of_dvd (Int.dvd_of_emod_eq_zero h)⟩
  rcases form_is h1 h2 with hf | hf | hf | hf | hf | hf | hf | hf | hf | hf | hf | hf
  all_goals
    rw [hf] at d0 d1 a0 a1 b0 b1 n0 n1 ⊢
    simp [partV, loK, hiK, loF, hiF, pcs, six] at d0 d1 a0 a1 b0 b1 n0 n1
    unfold right
    rw [decide_eq_true (show 1 ≤ op ∧ op ≤ 49 from ⟨h1, h2⟩)]
    simp only [hf]
    simp only [hasD, hasA, hasB, num, reg, stF]
    simp [ht]
    first | done | omega | (rw [Bool.eq_iff_iff]; simp; omega)
end Go.Proofs.YtgcgdjmlngfpeaaDoor
/- What Right of package code answers. -/
namespace Go.Proofs.YtgcgdjmlngfpeaaDoor
open Go.RowKit Rv
set_option linter.unusedVariables false
theorem rowof_lit2 {op nm' : Int} {s : ByteArray} {f lo mi hi se : Int} {b : Bool} (hs : (⟨(name op).toArray⟩ : ByteArray) = s) (hf : form op = f) (hl : low op = lo) (hm : mid op = mi) (hh : high op = hi) (he : extra op = se) (hb : decide (1 ≤ op ∧ op ≤ 49) = b) (w : World) :
    Calls Tryd.prog 55 #[.int .i64 op] w fun e w' => e = .returned (.tuple #[.agg #[.string s, .int .u8 f, .int .i64 lo, .int .i64 mi, .int .i64 hi, .int .i64 se], .bool b]) ∧ Both w w' := by
  subst hs hf hl hm hh he hb
  exact rowof_tuple op w
theorem formof_lit {op f : Int} (h1 : 1 ≤ op) (h2 : op ≤ 49) (hf : form op = f) (w : World) : Calls Tryd.prog 56 #[.int .u8 f] w fun e w' => e = .returned (.agg (formV f)) ∧ Both w w' := by
  subst hf
  exact formof_any h1 h2 w
theorem bounds_lit {op f k lo hi : Int} (h1 : 1 ≤ op) (h2 : op ≤ 49) (hf : form op = f) (k0 : 0 ≤ k) (k1 : k < 4) (hlo : loK f k = lo) (hhi : hiK f k = hi) (w : World) :
    Calls Tryd.prog 58 #[.agg (formV f), .int .i64 k] w fun e w' => e = .returned (.tuple #[.int .i64 lo, .int .i64 hi]) ∧ Both w w' := by
  subst hf
  exact bounds_any h1 h2 k0 k1 hlo hhi w
theorem lenSz (f : Int) : (Tryd.prog.info? 76).map (·.size) = some (formV f).toList.length := by
  rw [formV_sz f]
  simp
theorem index_part (d a b n : Int) (k : Nat) (hk : k < 4) (W : World) : (Instr.index 78 (.agg #[.int .i64 d, .int .i64 a, .int .i64 b, .int .i64 n]) (.int .i64 (k : Int))).run Tryd.prog W = .ok (.int .i64 (partV d a b n k)) W := by
  match k, hk with
  | 0, _ => (show _ = _; kernel_rfl)
  | 1, _ => (show _ = _; kernel_rfl)
  | 2, _ => (show _ = _; kernel_rfl)
  | 3, _ => (show _ = _; kernel_rfl)
theorem right_out {op d a b n : Int} (h : ¬ (1 ≤ op ∧ op ≤ 49)) : right ⟨op, d, a, b, n⟩ = false := by
  unfold right
  rw [decide_eq_false h]
  rfl
set_option maxRecDepth 100000 in
set_option maxHeartbeats 4000000 in
theorem rightw_out (op d a b n : Int) (HR : Hid (right ⟨op, d, a, b, n⟩ = false)) (HO : Hid (decide (1 ≤ op ∧ op ≤ 49) = false)) (w : World) :
    Calls Tryd.prog 31 #[.agg #[.int .i64 op, .int .i64 d, .int .i64 a, .int .i64 b, .int .i64 n]] w fun e w' => e = .returned (.bool false) ∧ Both w w' := by
  go_enter Tryd.func31, Tryd.ntmps31
  go_wp2_with fail
  refine (rowof_lit2 (nm' := 0) rfl rfl rfl rfl rfl rfl HO.out _).mono ?_
  rintro e W1 ⟨rfl, hb1⟩
  have HB1 := Lib.hid (((Both.refl w).alloc _ _).trans hb1)
  clear hb1
  go_wp2
  go_ret
  exact ⟨rfl, HB1.out.alloc _ _⟩
set_option maxRecDepth 100000 in
set_option maxHeartbeats 4000000 in
theorem rightw_in (op d a b n f lo mi hi se : Int) (s : ByteArray) (r : Bool) (h1 : 1 ≤ op) (h2 : op ≤ 49) (Hs : Hid ((⟨(name op).toArray⟩ : ByteArray) = s)) (Hf : Hid (form op = f)) (Hl : Hid (low op = lo)) (Hm : Hid (mid op = mi)) (Hh : Hid (high op = hi)) (He : Hid (extra op = se)) (HR : Hid (right ⟨op, d, a, b, n⟩ = r)) (HO : Hid (decide (1 ≤ op ∧ op ≤ 49) = true)) (w : World) :
    Calls Tryd.prog 31 #[.agg #[.int .i64 op, .int .i64 d, .int .i64 a, .int .i64 b, .int .i64 n]] w fun e w' => e = .returned (.bool r) ∧ Both w w' := by
  go_enter Tryd.func31, Tryd.ntmps31
  go_wp2_with fail
  refine (rowof_lit2 (nm' := 0) Hs.out Hf.out Hl.out Hm.out Hh.out He.out HO.out _).mono ?_
  rintro e W1 ⟨rfl, hb1⟩
  have hBi : Both (w.alloc (.cells #[.int .i64 op, .int .i64 d, .int .i64 a, .int .i64 b, .int .i64 n] 24)) W1 := hb1
  have hri : W1.heap[w.heap.size]? = some (.cells #[.int .i64 op, .int .i64 d, .int .i64 a, .int .i64 b, .int .i64 n] 24 (0, 0)) := (hBi.1.block w.heap.size (by simp)).trans (heap_alloc_new _ _)
  have hli : w.heap.size < W1.heap.size := by have := hBi.1.size; simp at this; omega
  have HB1 := Lib.hid (((Both.refl w).alloc _ _).trans hBi)
  clear hb1 hBi
  have HRI := Lib.hid hri
  clear hri
  go_wp2_with fail
  refine (formof_lit h1 h2 Hf.out _).mono ?_
  rintro e W2 ⟨rfl, hb2⟩
  rename_i hK2 K hK
  refine hK _ _ ?_
  clear hK K
  have hBr : Both W1 W2 := ((Both.refl W1).alloc _ _).trans hb2
  clear hb2
  have hri := (hBr.1.block _ hli).trans HRI.out
  have hli2 : w.heap.size < W2.heap.size := Nat.lt_of_lt_of_le hli hBr.1.size
  have hB2 := HB1.out.trans hBr
  clear hBr HB1 HRI hli
  refine wpList_one rfl (w' := W2.alloc (.cells formZero 76)) (v := .pointer (some ⟨W2.heap.size, 0, none⟩)) (by kernel_rfl) ?_
  have hb : (W2.alloc (.cells formZero 76)).heap[W2.heap.size]? = some (.cells formZero 76 (0, 0)) := heap_alloc_new _ _
  refine wpList_store_row rfl 76 (.tmp 5) (.tmp 20) rfl _ _ rfl rfl _ _ hb (formV_sz f) (formV_zero f) (formV_ones f) ?_
  have hrf := setRow_heap _ _ _ (formV f) _ _ hb
  have hB3 := (hB2.alloc formZero 76).setRow (g := W2.heap.size) (Nat.le_of_lt hli2) (formV f)
  have hri3 : ((W2.alloc (.cells formZero 76)).setRow W2.heap.size (formV f)).heap[w.heap.size]? = some (.cells #[.int .i64 op, .int .i64 d, .int .i64 a, .int .i64 b, .int .i64 n] 24 (0, 0)) := by
    rw [setRow_other _ _ _ _ (by omega)]
    exact (heap_alloc_old _ _ hli2).trans hri
  generalize (W2.alloc (.cells formZero 76)).setRow W2.heap.size (formV f) = W3 at hrf hB3 hri3 ⊢
  generalize W2.heap.size = g at hrf hli2 ⊢
  clear hb hB2 hri
  have HB3 := Lib.hid hB3
  have HRF := Lib.hid hrf
  have HRI := Lib.hid hri3
  have c0 : W3.cell? ⟨w.heap.size, 0, none⟩ = some (.int .i64 op) := cell_of_heap hri3 0
  have c1 : W3.cell? ⟨w.heap.size, 1, none⟩ = some (.int .i64 d) := cell_of_heap hri3 1
  have c2 : W3.cell? ⟨w.heap.size, 2, none⟩ = some (.int .i64 a) := cell_of_heap hri3 2
  have c3 : W3.cell? ⟨w.heap.size, 3, none⟩ = some (.int .i64 b) := cell_of_heap hri3 3
  have c4 : W3.cell? ⟨w.heap.size, 4, none⟩ = some (.int .i64 n) := cell_of_heap hri3 4
  clear hB3 hrf hri3
  refine wpList_nil ?_
  refine hK2 _ _ ?_
  clear hK2
  go_wp2_with fail
  clear c0 c1 c2 c3 c4
  refine (parts_any op d a b n _).mono ?_
  rintro e W4 ⟨rfl, hb4⟩
  have hl4 : g < W4.heap.size ∧ w.heap.size < W4.heap.size := by
    have h1 : g < W3.heap.size := by
      refine Nat.lt_of_not_le fun hge => ?_
      have := HRF.out
      rw [Array.getElem?_eq_none hge] at this
      cases this
    have := hb4.1.size
    omega
  have HRF4 := Lib.hid ((hb4.1.block g (by
      refine Nat.lt_of_not_le fun hge => ?_
      have := HRF.out
      rw [Array.getElem?_eq_none hge] at this
      cases this)).trans HRF.out)
  have HRI4 := Lib.hid ((hb4.1.block w.heap.size (by
      refine Nat.lt_of_not_le fun hge => ?_
      have := HRI.out
      rw [Array.getElem?_eq_none hge] at this
      cases this)).trans HRI.out)
  have HB4 := Lib.hid (HB3.out.trans hb4)
  clear hb4 HB3 HRF HRI
  obtain ⟨g4, l4⟩ := hl4
  go_wp2_with fail
  go_loopw [23] (fun i wr => ∃ k : Nat, k ≤ 4 ∧ i = .int .i64 k ∧ Both W4 wr ∧ inB f d a b n k) (fun i _ => 4 - (intOf i).toNat)
  case atStart => exact ⟨0, by omega, rfl, Both.refl _, fun j hj => by omega⟩
  case round =>
    obtain ⟨k, hk, rfl, hb, hn⟩ := hrel
    have HB := Lib.hid hb
    have HN := Lib.hid hn
    have hrf := Lib.hid ((hb.1.block g g4).trans HRF4.out)
    have hri := Lib.hid ((hb.1.block w.heap.size l4).trans HRI4.out)
    clear hb hn
    by_cases hlt : k < 4
    · have hidx := index_part d a b n k hlt
      obtain ⟨v, hv⟩ : ∃ v, partV d a b n k = v := ⟨_, rfl⟩
      obtain ⟨x, hx⟩ : ∃ x, loK f k = x := ⟨_, rfl⟩
      obtain ⟨y, hy⟩ : ∃ y, hiK f k = y := ⟨_, rfl⟩
      rw [hv] at hidx
      have HV := Lib.hid hv
      have HX := Lib.hid hx
      have HY := Lib.hid hy
      clear hv hx hy
      have hlt' : (k : Int) < 4 := by omega
      go_upto_region 8 with (fail)
      clear hidx
      rename_i K8 hK8
      refine wp_region_list ?_
      refine wpList_load_mid rfl 76 (.tmp 5) rfl g 0 (by kernel_rfl) (formV f).toList (.struct _) (fun j v hj => by rw [cell_of_heap hrf.out]; simpa using hj) Tryd.underlying76 rfl (lenSz f) ?_
      go_wp2_with fail
      refine (bounds_lit h1 h2 Hf.out (by omega) (by omega) HX.out HY.out _).mono ?_
      rintro e W5 ⟨rfl, hb5⟩
      have HB5 := Lib.hid (HB.out.trans hb5)
      clear hb5
      by_cases q1 : v < x
      · have HRR : Hid (false = r) := (right_no (k := k) hlt (by rw [Hf.out, HV.out, HX.out]; exact .inl q1)).symm.trans HR.out
        go_wp2
        go_ret
        exact ⟨by have e := HRR.out; subst e; rfl, HB4.out.trans HB5.out⟩
      · by_cases q2 : y < v
        · have HRR : Hid (false = r) := (right_no (k := k) hlt (by rw [Hf.out, HV.out, HY.out]; exact .inr q2)).symm.trans HR.out
          go_wp2
          go_ret
          exact ⟨by have e := HRR.out; subst e; rfl, HB4.out.trans HB5.out⟩
        · have HNN := Lib.hid (HN.out.next (by rw [HV.out, HX.out]; omega) (by rw [HV.out, HY.out]; omega))
          go_wp2
          go_roundw
          case rel => exact ⟨k + 1, by omega, by go_num, HB5.out, HNN.out⟩
          case measure => simp [intOf]; omega
    · obtain rfl : k = 4 := by omega
      have e2 : (formV f)[2]? = some (.int .i64 (stF f)) := rfl
      have hst : 1 ≤ stF f ∧ stF f ≤ 2 := by unfold stF; split <;> omega
      have hrr : (n.tmod (stF f) == 0) = r := by
        have := right_yes h1 h2 (by rw [Hf.out]; exact HN.out)
        rw [Hf.out] at this
        exact this.symm.trans HR.out
      generalize stF f = st at e2 hst hrr
      obtain ⟨s1, s2⟩ := hst
      have HRR := Lib.hid hrr
      have f2 := (cell_of_heap hrf.out 2).trans e2
      have i4 : wr.cell? ⟨w.heap.size, 4, none⟩ = some (.int .i64 n) := cell_of_heap hri.out 4
      clear hrr e2
      have z1 : (st == 0) = false := by simp; omega
      have z2 : ¬ st = 0 := by omega
      go_wp2
      go_ret
      exact ⟨by have e := HRR.out; subst e; rfl, HB4.out.trans HB.out⟩
theorem right_is : RightIs := by
  intro i w hi
  obtain ⟨op, d, a, b, n⟩ := i
  by_cases h : 1 ≤ op ∧ op ≤ 49
  · exact rightw_in op d a b n _ _ _ _ _ _ _ h.1 h.2 rfl rfl rfl rfl rfl rfl rfl (decide_eq_true h) w
  · have := rightw_out op d a b n (right_out h) (decide_eq_false h) w
    show Calls _ _ _ w fun e w' => e = .returned (.bool (right ⟨op, d, a, b, n⟩)) ∧ _
    rw [right_out h]
    exact this
theorem right_val {op d a b n : Int} {r : Bool} (hw : Ins.wf ⟨op, d, a, b, n⟩) (h : right ⟨op, d, a, b, n⟩ = r) (w : World) :
    Calls Tryd.prog 31 #[.agg #[.int .i64 op, .int .i64 d, .int .i64 a, .int .i64 b, .int .i64 n]] w fun e w' => e = .returned (.bool r) ∧ Both w w' := right_lit right_is hw h w
end Go.Proofs.YtgcgdjmlngfpeaaDoor
