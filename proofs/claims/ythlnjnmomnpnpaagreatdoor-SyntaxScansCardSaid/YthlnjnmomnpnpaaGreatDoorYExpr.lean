/- Package syntax: Expr at any expression. -/
import Derived.Test.YthlnjnmomnpnpaaGreatDoorYExT
namespace Go.Proofs.YthlnjnmomnpnpaaGreatDoor
open Go.RowKit Tk Sy
set_option linter.unusedVariables false
set_option linter.unusedSimpArgs false
theorem EAt.one {w : World} {g : Nat} {e : Ex} {q : Option Addr} {c : Nat} (h : w.heap[g]? = some (.cells (exA q c e) 40 (0, 0))) (hw : WfE e) (hE : EAt w q e.args) : EAt w (some ⟨g, 0, none⟩) [e] := by
  refine EAt.mk fun j x hj => ?_
  cases j with
  | zero =>
    obtain rfl : e = x := by simpa using hj
    exact ⟨hw, g, 0, q, c, rfl, lt_of_heap h, cell_of_heap h 0, cell_of_heap h 1, cell_of_heap h 2, cell_of_heap h 3, cell_of_heap h 4, hE⟩
  | succ j => simp at hj
theorem areE_one (e : Ex) : areE 30 [e] = bodyE 30 e := by rw [areE_all]; simp
set_option maxRecDepth 100000 in
set_option maxHeartbeats 8000000 in
theorem Expr_yes {k : Nat} (hk : k = 30) {e : Ex} {q : Option Addr} {c : Nat} {T : ByteArray} (hT : str (exT k e) = T) (hok : bodyE k e = true) (w : World) (hE : EAt w q e.args) (hw : WfE e) (hX : Texts w) (hP : PowAt w) :
    Calls Tryz.prog 18 #[exV q c e] w fun r w' => r = .returned (.tuple #[.string T, .int .i64 0]) ∧ Bel w w' := by
  have HE := Lib.hid hE
  have HW := Lib.hid hw
  have HX := Lib.hid hX
  have HP := Lib.hid hP
  have HOK := Lib.hid hok
  have HT := Lib.hid hT
  have HA : Hid (areE k [e] = true) := Lib.hid (by subst hk; rw [areE_one]; exact hok)
  have HC : Hid (∀ (w : World) (p : Option Addr) (c : Nat), EAt w p [e] → Calls Tryz.prog 45 #[.slice p 1 c, .int .i64 30] w fun r w' => r = .returned (.bool true) ∧ Bel w w') := Lib.hid (fun w p c h => by
    have h2 := areExprs_any 30 (by decide) w p c [e] h (by show 1 ≤ 9223372036854775807; decide)
    rw [show areE 30 [e] = true by rw [← hk]; exact HA.out] at h2
    exact h2)
  have HTX : Hid (∀ (w : World), EAt w q e.args → Texts w → PowAt w → Calls Tryz.prog 46 #[exV q c e] w fun r w' => r = .returned (.string T) ∧ Bel w w') := Lib.hid (fun w h1 h2 h3 => by
    subst hk
    exact exprText_lit hT hok w h1 hw h2 h3)
  clear hE hw hX hP hok hT hk
  go_enter Tryz.func18, Tryz.ntmps18
  go_upto_region 1 with (fail)
  have hb1 := (Bel.refl w).alloc (exA q c e) 40
  have hx1 := heap_alloc_new w (.cells (exA q c e) 40)
  generalize w.alloc (.cells (exA q c e) 40) = W1 at hb1 hx1 ⊢
  generalize w.heap.size = g1 at hx1 ⊢
  have HB1 := Lib.hid hb1
  have HX1 := Lib.hid hx1
  have k0 := cell_of_heap hx1 0
  have k1 := cell_of_heap hx1 1
  have k2 := cell_of_heap hx1 2
  have k3 := cell_of_heap hx1 3
  have k4 := cell_of_heap hx1 4
  simp only [List.getElem?_toArray, List.getElem?_cons_zero, List.getElem?_cons_succ] at k0 k1 k2 k3 k4
  clear hb1 hx1
  go_wp2_with fail
  clear k0 k1 k2 k3 k4
  have hb2 := (Bel.refl W1).alloc (exA q c e) 40
  have hx2 := heap_alloc_new W1 (.cells (exA q c e) 40)
  generalize W1.alloc (.cells (exA q c e) 40) = W2 at hb2 hx2 ⊢
  generalize W1.heap.size = g2 at hx2 ⊢
  have HB2 := Lib.hid (HB1.out.trans hb2)
  have HX2 := Lib.hid (hb2.stays HX1.out)
  refine (HC.out W2 (some ⟨g2, 0, none⟩) 1 (EAt.one hx2 HW.out (HE.out.bel HB2.out))).mono ?_
  rintro r W3 ⟨rfl, hb⟩
  have HB3 := Lib.hid (HB2.out.trans hb)
  have hx3 := hb.stays HX2.out
  have k0 := cell_of_heap hx3 0
  have k1 := cell_of_heap hx3 1
  have k2 := cell_of_heap hx3 2
  have k3 := cell_of_heap hx3 3
  have k4 := cell_of_heap hx3 4
  simp only [List.getElem?_toArray, List.getElem?_cons_zero, List.getElem?_cons_succ] at k0 k1 k2 k3 k4
  clear hb hx2 hb2 hx3
  go_wp2_with fail
  refine (HTX.out _ (HE.out.bel HB3.out) (HX.out.bel HB3.out) (HP.out.bel HB3.out)).mono ?_
  rintro r W4 ⟨rfl, hb⟩
  have HB4 := Lib.hid (HB3.out.trans hb)
  clear hb k0 k1 k2 k3 k4
  go_wp2_with fail
  go_ret2
  exact ⟨rfl, HB4.out⟩
set_option maxRecDepth 100000 in
set_option maxHeartbeats 8000000 in
theorem Expr_no {k : Nat} (hk : k = 30) {e : Ex} {q : Option Addr} {c : Nat} (hok : bodyE k e = false) (w : World) (hE : EAt w q e.args) (hw : WfE e) :
    Calls Tryz.prog 18 #[exV q c e] w fun r w' => r = .returned (.tuple #[.string ⟨#[]⟩, .int .i64 1]) ∧ Bel w w' := by
  have HE := Lib.hid hE
  have HW := Lib.hid hw
  have HA : Hid (areE k [e] = false) := Lib.hid (by subst hk; rw [areE_one]; exact hok)
  have HC : Hid (∀ (w : World) (p : Option Addr) (c : Nat), EAt w p [e] → Calls Tryz.prog 45 #[.slice p 1 c, .int .i64 30] w fun r w' => r = .returned (.bool false) ∧ Bel w w') := Lib.hid (fun w p c h => by
    have h2 := areExprs_any 30 (by decide) w p c [e] h (by show 1 ≤ 9223372036854775807; decide)
    rw [show areE 30 [e] = false by rw [← hk]; exact HA.out] at h2
    exact h2)
  clear hE hw hok hk
  go_enter Tryz.func18, Tryz.ntmps18
  go_upto_region 1 with (fail)
  have hb1 := (Bel.refl w).alloc (exA q c e) 40
  have hx1 := heap_alloc_new w (.cells (exA q c e) 40)
  generalize w.alloc (.cells (exA q c e) 40) = W1 at hb1 hx1 ⊢
  generalize w.heap.size = g1 at hx1 ⊢
  have HB1 := Lib.hid hb1
  have k0 := cell_of_heap hx1 0
  have k1 := cell_of_heap hx1 1
  have k2 := cell_of_heap hx1 2
  have k3 := cell_of_heap hx1 3
  have k4 := cell_of_heap hx1 4
  simp only [List.getElem?_toArray, List.getElem?_cons_zero, List.getElem?_cons_succ] at k0 k1 k2 k3 k4
  clear hb1 hx1
  go_wp2_with fail
  clear k0 k1 k2 k3 k4
  have hb2 := (Bel.refl W1).alloc (exA q c e) 40
  have hx2 := heap_alloc_new W1 (.cells (exA q c e) 40)
  generalize W1.alloc (.cells (exA q c e) 40) = W2 at hb2 hx2 ⊢
  generalize W1.heap.size = g2 at hx2 ⊢
  have HB2 := Lib.hid (HB1.out.trans hb2)
  refine (HC.out W2 (some ⟨g2, 0, none⟩) 1 (EAt.one hx2 HW.out (HE.out.bel HB2.out))).mono ?_
  rintro r W3 ⟨rfl, hb⟩
  have HB3 := Lib.hid (HB2.out.trans hb)
  clear hb hx2 hb2
  go_wp2_with fail
  go_ret2
  exact ⟨rfl, HB3.out⟩
end Go.Proofs.YthlnjnmomnpnpaaGreatDoor
