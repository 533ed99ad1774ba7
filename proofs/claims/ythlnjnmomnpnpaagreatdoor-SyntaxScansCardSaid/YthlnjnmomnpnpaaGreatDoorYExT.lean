/- Package syntax: an expression's text. -/
import Derived.Test.YthlnjnmomnpnpaaGreatDoorYPrE
import Derived.Lib.ItoaLen
namespace Go.Proofs.YthlnjnmomnpnpaaGreatDoor
open Go.RowKit Tk Sy
set_option linter.unusedVariables false
set_option linter.unusedSimpArgs false
theorem numT_len {n : Int} (h0 : 0 ≤ n) (h1 : n ≤ 4294967295) : (numT n).length ≤ 21 ∧ numT n ≠ [] := by
  refine ⟨Lib.itoa_length_le n (by omega) (by omega), ?_⟩
  unfold numT Lib.itoa
  rw [if_neg (by omega)]
  intro hc
  rw [Lib.decDigits] at hc
  split at hc
  · simp at hc
  · simp at hc
theorem opT_ne {op : Int} (h : 1 ≤ op ∧ op ≤ 17) : opT op ≠ [] := by
  rcases (show op = 1 ∨ op = 2 ∨ op = 3 ∨ op = 4 ∨ op = 5 ∨ op = 6 ∨ op = 7 ∨ op = 8 ∨ op = 9 ∨ op = 10 ∨ op = 11 ∨ op = 12 ∨ op = 13 ∨ op = 14 ∨ op = 15 ∨ op = 16 ∨ op = 17 by omega) with rfl | rfl | rfl | rfl | rfl | rfl | rfl | rfl | rfl | rfl | rfl | rfl | rfl | rfl | rfl | rfl | rfl
  all_goals decide
theorem par_len (b : Bool) (s : Bs) : (par b s).length ≤ s.length + 2 := by
  unfold par
  split
  · simp
  · omega
theorem fits_pos {e : Ex} {s : Shp} (h : fitsE s e = true) (hs : s.nm = true) : e.name.data.toList ≠ [] := by
  unfold fitsE nameIf at h
  simp only [Bool.and_eq_true, hs, if_true] at h
  have h2 := h.2.2.2.1
  unfold isName at h2
  simp only [Bool.and_eq_true, decide_eq_true_eq] at h2
  have := h2.1.1.1
  intro hc
  rw [hc] at this
  simp at this
theorem exT_len : ∀ (k : Nat) (e : Ex), bodyE k e = true → (exT k e).length + 20 ≤ 40 * 2 ^ k ∧ exT k e ≠ [] := by
  intro k
  induction k with
  | zero =>
    intro e h
    cases h
  | succ k ih =>
    intro e h
    obtain ⟨hf, hsub, hk⟩ := kind_of h
    have hp : 40 * 2 ^ (k + 1) = 2 * (40 * 2 ^ k) := by rw [Nat.pow_succ]; omega
    have h1 : 1 ≤ 2 ^ k := Nat.one_le_two_pow
    obtain ⟨hla, hn0, hn1, hop⟩ := fits_args hf
    rcases hk with hk | hk | hk | hk | hk
    · rw [exT_1 hk]
      rw [hk] at hn1
      obtain ⟨g1, g2⟩ := numT_len hn0 (Int.le_trans hn1 (Int.le_of_eq rfl))
      exact ⟨by omega, g2⟩
    · rw [exT_2 hk]
      rw [hk] at hf
      have g1 := fits_name hf rfl
      refine ⟨?_, fits_pos hf rfl⟩
      unfold nm
      rw [size_list]
      omega
    · rw [exT_3 hk]
      rw [hk] at hla
      have hl1 : (e.args.length : Int) = 1 := by rw [hla]; rfl
      obtain ⟨a, ha⟩ : ∃ x, e.args[0]? = some x := ⟨_, List.getElem?_eq_getElem (by omega)⟩
      obtain ⟨g1, g2⟩ := ih a (hsub 0 a ha)
      rw [argAt_get ha]
      have g3 := par_len (low a 9223372036854775807) (exT k a)
      have g4 := opT_len e.op
      refine ⟨by rw [List.length_append]; omega, fun hc => ?_⟩
      have := (List.append_eq_nil_iff.1 hc).2
      unfold par at this
      split at this
      · simp at this
      · exact g2 this
    · rw [exT_4 hk]
      rw [hk] at hla
      have hl1 : (e.args.length : Int) = 2 := by rw [hla]; rfl
      obtain ⟨a, ha⟩ : ∃ x, e.args[0]? = some x := ⟨_, List.getElem?_eq_getElem (by omega)⟩
      obtain ⟨z, hz⟩ : ∃ x, e.args[1]? = some x := ⟨_, List.getElem?_eq_getElem (by omega)⟩
      obtain ⟨g1, g2⟩ := ih a (hsub 0 a ha)
      obtain ⟨g3, g4⟩ := ih z (hsub 1 z hz)
      rw [argAt_get ha, argAt_get hz]
      have g5 := par_len (low a (level e.op)) (exT k a)
      have g6 := par_len (low z (level e.op + 1)) (exT k z)
      have g7 := opT_len e.op
      have e1 : ([32] ++ opT e.op ++ [32] : Bs).length = (opT e.op).length + 2 := by rw [List.length_append, List.length_append]; show 1 + _ + 1 = _; omega
      refine ⟨by rw [List.length_append, List.length_append, e1]; omega, fun hc => ?_⟩
      have h2 := congrArg List.length hc
      rw [List.length_append, List.length_append, e1] at h2
      simp at h2
    · rw [exT_5 hk]
      rw [hk] at hla hf
      have hl1 : (e.args.length : Int) = 1 := by rw [hla]; rfl
      obtain ⟨a, ha⟩ : ∃ x, e.args[0]? = some x := ⟨_, List.getElem?_eq_getElem (by omega)⟩
      obtain ⟨g1, g2⟩ := ih a (hsub 0 a ha)
      rw [argAt_get ha]
      have g3 := fits_name hf rfl
      have e1 : (nm e.name ++ [91] ++ exT k a ++ [93]).length = (nm e.name).length + 1 + (exT k a).length + 1 := by rw [List.length_append, List.length_append, List.length_append]; rfl
      have e2 : (nm e.name).length ≤ 20 := by unfold nm; rw [size_list]; exact g3
      refine ⟨by omega, fun hc => ?_⟩
      rw [hc] at e1
      simp at e1
set_option maxRecDepth 100000 in
set_option maxHeartbeats 8000000 in
theorem exprText_k {k : Nat} (hk30 : k ≤ 30) {e : Ex} {q : Option Addr} {c : Nat} {T : ByteArray} (hT : str (exT k e) = T) (hok : bodyE k e = true) (w : World) (hE : EAt w q e.args) (hw : WfE e) (hX : Texts w) (hP : PowAt w) :
    Calls Tryz.prog 46 #[exV q c e] w fun r w' => r = .returned (.string T) ∧ Bel w w' := by
  obtain ⟨hl1, hl2⟩ := exT_len k e hok
  have hlen : ([] : Bs).length + (exT k e).length ≤ 70368744177664 := by
    have h2 : 2 ^ k ≤ 2 ^ 30 := Nat.pow_le_pow_right (by decide) hk30
    have h3 : (2 : Nat) ^ 30 = 1073741824 := by decide
    show 0 + _ ≤ _
    omega
  have HE := Lib.hid hE
  have HW := Lib.hid hw
  have HX := Lib.hid hX
  have HP := Lib.hid hP
  have HOK := Lib.hid hok
  have HT := Lib.hid hT
  clear hE hw hX hP hok hT
  go_enter Tryz.func46, Tryz.ntmps46
  go_upto_region 2 with (fail)
  have hb1 := (Bel.refl w).alloc (exA q c e) 40
  have hx1 := heap_alloc_new w (.cells (exA q c e) 40)
  have hz : (w.alloc (.cells (exA q c e) 40)).heap.size = w.heap.size + 1 := by unfold World.alloc; exact Array.size_push _
  have hx1' := hx1
  generalize w.alloc (.cells (exA q c e) 40) = W1 at hb1 hx1 hx1' hz ⊢
  generalize w.heap.size = g1 at hx1 hx1' hz ⊢
  have HB1 := Lib.hid hb1
  rw [← hz]
  have HST := Lib.hid (fresh_st W1)
  have HB2 := Lib.hid HST.out.bel
  generalize W1.alloc (.cells #[.pointer none, .slice none 0 0, .int .i64 0] 74) = W2 at HST HB2 ⊢
  have hx2 := HB2.out.stays hx1'
  have k0 := cell_of_heap hx2 0
  have k1 := cell_of_heap hx2 1
  have k2 := cell_of_heap hx2 2
  have k3 := cell_of_heap hx2 3
  have k4 := cell_of_heap hx2 4
  simp only [List.getElem?_toArray, List.getElem?_cons_zero, List.getElem?_cons_succ] at k0 k1 k2 k3 k4
  clear hx1 hx1' hx2 hb1 hl1 hz
  go_wp2_with fail
  refine (expr_ok k e W1 _ q c _ [] 0 HOK.out (HE.out.bel HB1.out) HW.out (HX.out.bel HB1.out) (HP.out.bel HB1.out) HST.out hlen).mono ?_
  rintro r W3 ⟨rfl, hst, hpv⟩
  have HS3 := Lib.hid hst
  clear hst hpv k0 k1 k2 k3 k4
  go_wp2_with fail
  refine (str_st HS3.out hl2).mono ?_
  rintro r W4 ⟨rfl, hb⟩
  have HB4 := Lib.hid (HB1.out.trans hb)
  clear hb
  go_wp2_with fail
  go_ret
  exact ⟨congrArg (fun s => Ending.returned (.string s)) HT.out, HB4.out⟩
theorem exprText_lit {e : Ex} {q : Option Addr} {c : Nat} {T : ByteArray} (hT : str (exT 30 e) = T) (hok : bodyE 30 e = true) (w : World) (hE : EAt w q e.args) (hw : WfE e) (hX : Texts w) (hP : PowAt w) :
    Calls Tryz.prog 46 #[exV q c e] w fun r w' => r = .returned (.string T) ∧ Bel w w' := exprText_k (Nat.le_refl 30) hT hok w hE hw hX hP
end Go.Proofs.YthlnjnmomnpnpaaGreatDoor
