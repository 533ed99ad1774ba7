/- The law of levels' walk. -/
import Derived.Test.YtnpdeiffffjnjaaDoorYBindP
namespace Go.Proofs.YtnpdeiffffjnjaaDoor
open Go.RowKit Tk Sy
set_option linter.unusedVariables false
set_option linter.unusedSimpArgs false
theorem wf_neg {b : Int} : WfE (negE b) := ⟨⟨by show (-9223372036854775808 : Int) ≤ 3; decide, by show (3 : Int) ≤ 9223372036854775807; decide⟩, ⟨by show (-9223372036854775808 : Int) ≤ 15; decide, by show (15 : Int) ≤ 9223372036854775807; decide⟩, ⟨by show (-9223372036854775808 : Int) ≤ 0; decide, by show (0 : Int) ≤ 9223372036854775807; decide⟩, by show (0 : Nat) ≤ maxLen; exact Nat.zero_le _, by show 1 ≤ 9223372036854775807; decide⟩
theorem wf_at {b : Int} : WfE (atE b) := ⟨⟨by show (-9223372036854775808 : Int) ≤ 5; decide, by show (5 : Int) ≤ 9223372036854775807; decide⟩, ⟨by show (-9223372036854775808 : Int) ≤ 0; decide, by show (0 : Int) ≤ 9223372036854775807; decide⟩, ⟨by show (-9223372036854775808 : Int) ≤ 0; decide, by show (0 : Int) ≤ 9223372036854775807; decide⟩, by show (1 : Nat) ≤ maxLen; unfold maxLen; decide, by show 1 ≤ 9223372036854775807; decide⟩
theorem exprC {e : Ex} {q : Option Addr} {c : Nat} {S : ByteArray} (hS : str (exT 30 e) = S) (hok : bodyE 30 e = true) (w : World) (hE : EAt w q e.args) (hw : WfE e) (hX : Texts w) (hP : PowAt w) :
    Calls Tryd.prog 11 #[exV q c e] w fun r w' => r = .returned (.tuple #[.string S, .int .i64 0]) ∧ Bel w w' := Expr_yes rfl hS hok w hE hw hX hP

set_option maxRecDepth 100000 in
set_option maxHeartbeats 8000000 in
theorem binds_walk {one two a b la lb : Int} {s t u v : ByteArray} (w : World) (hX : Texts w) (hP : PowAt w) (i1 : inI one) (i2 : inI two) (ha : pick one 14 = a - 1) (hb0 : pick two 14 = b - 1)
    (a1 : 1 ≤ a) (a2 : a ≤ 14) (b1 : 1 ≤ b) (b2 : b ≤ 14) (hla : level a = la) (hlb : level b = lb)
    (hs : str (exT 30 (leftE a b)) = s) (ht : str (exT 30 (rightE a b)) = t) (hu : str (exT 30 (negE b)) = u) (hv : str (exT 30 (atE b)) = v)
    (z1 : 1 ≤ s.size) (z2 : 1 ≤ t.size) (z3 : 2 ≤ u.size) (z4 : 3 ≤ v.size) (bt : t.size ≤ 9223372036854775807) {L R : Bool} (y1 : ∀ h : 0 < s.size, (((s[0]'h).toNat : Int) != 40) = L) (y2 : ∀ h : t.size - 1 < t.size, (((t[t.size - 1]'h).toNat : Int) != 41) = R) (y3 : u.extract 0 2 = ⟨#[45, 40]⟩) (y4 : v.extract 0 3 = ⟨#[114, 91, 120]⟩) (x3 : decide (la ≤ lb) = L) (x4 : decide (la < lb) = R) :
    Calls Tryd.prog 4 #[.int .i64 one, .int .i64 two] w fun e w' => e = .returned (.bool true) ∧ Bel w w' := by
  have HS := Lib.hid hs
  have HT := Lib.hid ht
  have HU := Lib.hid hu
  have HV := Lib.hid hv
  have HA := Lib.hid ha
  have HBB := Lib.hid hb0
  have HLA := Lib.hid hla
  have HLB := Lib.hid hlb
  have HI1 := Lib.hid i1
  have HI2 := Lib.hid i2
  have HX := Lib.hid hX
  have HP := Lib.hid hP
  have Z1 := Lib.hid z1
  have Z2 := Lib.hid z2
  have Z3 := Lib.hid z3
  have Z4 := Lib.hid z4
  have BT := Lib.hid bt
  have Y1 := Lib.hid y1
  have Y2 := Lib.hid y2
  have Y3 := Lib.hid y3
  have Y4 := Lib.hid y4
  have X3 := Lib.hid x3
  have X4 := Lib.hid x4
  clear z1 z2 z3 z4 bt y1 y2 y3 y4 x3 x4
  clear hs ht hu hv ha hb0 hla hlb i1 i2 hX hP
  have e1 : (1 : Int) + (a - 1) = a := by omega
  have e2 : (1 : Int) + (b - 1) = b := by omega
  go_enter Tryd.func4, Tryd.ntmps4
  go_wp2_with fail
  refine (awake_any _ HX.out HP.out).mono ?_
  rintro e w1 ⟨rfl, hb⟩
  have HB := Lib.hid hb
  clear hb
  go_wp2_with fail
  refine (pick_lit HA.out HI1.out (by decide) _).mono ?_
  rintro e w' ⟨rfl, rfl⟩
  go_wp2_with fail
  refine (pick_lit HBB.out HI2.out (by decide) _).mono ?_
  rintro e w' ⟨rfl, rfl⟩
  go_upto_region 5 with (fail)
  have hb1 := (Bel.refl w1).alloc #[.int .i64 2, .int .i64 0, .int .i64 0, .string ⟨#[120]⟩, .slice none 0 0] 35
  have hx1 := heap_alloc_new w1 (.cells #[.int .i64 2, .int .i64 0, .int .i64 0, .string ⟨#[120]⟩, .slice none 0 0] 35)
  generalize w1.alloc (.cells #[.int .i64 2, .int .i64 0, .int .i64 0, .string ⟨#[120]⟩, .slice none 0 0] 35) = W1 at hb1 hx1 ⊢
  generalize w1.heap.size = g1 at hx1 ⊢
  have HX1 := Lib.hid hx1
  have HB := Lib.hid (HB.out.trans hb1)
  clear hb1
  have k0 := cell_of_heap hx1 0
  have k1 := cell_of_heap hx1 1
  have k2 := cell_of_heap hx1 2
  have k3 := cell_of_heap hx1 3
  have k4 := cell_of_heap hx1 4
  simp only [List.getElem?_toArray, List.getElem?_cons_zero, List.getElem?_cons_succ] at k0 k1 k2 k3 k4
  clear hx1
  go_upto_region 6 with (fail)
  clear k0 k1 k2 k3 k4
  obtain ⟨n0, n1, n2⟩ := two_new W1 #[.int .i64 2, .int .i64 0, .int .i64 0, .string ⟨#[120]⟩, .slice none 0 0, .int .i64 2, .int .i64 0, .int .i64 0, .string ⟨#[120]⟩, .slice none 0 0] #[.int .i64 4, .int .i64 b, .int .i64 0, .string ⟨#[]⟩, .slice (some ⟨W1.heap.size, 0, none⟩) 2 2] 35 35
  generalize (W1.alloc (.cells #[.int .i64 2, .int .i64 0, .int .i64 0, .string ⟨#[120]⟩, .slice none 0 0, .int .i64 2, .int .i64 0, .int .i64 0, .string ⟨#[120]⟩, .slice none 0 0] 35)).alloc (.cells #[.int .i64 4, .int .i64 b, .int .i64 0, .string ⟨#[]⟩, .slice (some ⟨W1.heap.size, 0, none⟩) 2 2] 35) = W2 at n0 n1 n2 ⊢
  generalize W1.heap.size + 1 = g3 at n2 ⊢
  generalize W1.heap.size = g2 at n1 n2 ⊢
  have HX1 := Lib.hid (n0.stays HX1.out)
  have HX3 := Lib.hid n2
  have HE := Lib.hid (EAt.two (e := varE) (f := varE) n1 wf_var (EAt.nil _ _) wf_var (EAt.nil _ _))
  have HB := Lib.hid (HB.out.trans n0)
  clear n0 n1 n2
  have k0 := cell_of_heap HX1.out 0
  have k1 := cell_of_heap HX1.out 1
  have k2 := cell_of_heap HX1.out 2
  have k3 := cell_of_heap HX1.out 3
  have k4 := cell_of_heap HX1.out 4
  simp only [List.getElem?_toArray, List.getElem?_cons_zero, List.getElem?_cons_succ] at k0 k1 k2 k3 k4
  have j0 := cell_of_heap HX3.out 0
  have j1 := cell_of_heap HX3.out 1
  have j2 := cell_of_heap HX3.out 2
  have j3 := cell_of_heap HX3.out 3
  have j4 := cell_of_heap HX3.out 4
  simp only [List.getElem?_toArray, List.getElem?_cons_zero, List.getElem?_cons_succ] at j0 j1 j2 j3 j4
  go_wp2_with fail
  clear k0 k1 k2 k3 k4 j0 j1 j2 j3 j4
  have hb5 := (Bel.refl W2).alloc #[.int .i64 4, .int .i64 b, .int .i64 0, .string ⟨#[]⟩, .slice (some ⟨g2, 0, none⟩) 2 2, .int .i64 2, .int .i64 0, .int .i64 0, .string ⟨#[120]⟩, .slice none 0 0] 35
  have hx5 := heap_alloc_new W2 (.cells #[.int .i64 4, .int .i64 b, .int .i64 0, .string ⟨#[]⟩, .slice (some ⟨g2, 0, none⟩) 2 2, .int .i64 2, .int .i64 0, .int .i64 0, .string ⟨#[120]⟩, .slice none 0 0] 35)
  generalize W2.alloc (.cells #[.int .i64 4, .int .i64 b, .int .i64 0, .string ⟨#[]⟩, .slice (some ⟨g2, 0, none⟩) 2 2, .int .i64 2, .int .i64 0, .int .i64 0, .string ⟨#[120]⟩, .slice none 0 0] 35) = V1 at hb5 hx5 ⊢
  generalize W2.heap.size = q1 at hx5 ⊢
  have HB := Lib.hid (HB.out.trans hb5)
  have HE := Lib.hid (HE.out.bel hb5)
  have HX1 := Lib.hid (hb5.stays HX1.out)
  have HX3 := Lib.hid (hb5.stays HX3.out)
  have HQ := Lib.hid (EAt.two (e := inE b) (f := varE) hx5 (wf4 b1 b2 _ _) HE.out wf_var (EAt.nil _ _))
  clear hb5 hx5
  refine (exprC (e := leftE a b) (q := some ⟨q1, 0, none⟩) (c := 2) HS.out (body_left a1 a2 b1 b2) _ HQ.out (wf4 a1 a2 _ _) (HX.out.bel HB.out) (HP.out.bel HB.out)).mono ?_
  rintro e V1' ⟨rfl, hb⟩
  have HB := Lib.hid (HB.out.trans hb)
  have HE := Lib.hid (HE.out.bel hb)
  have HX1 := Lib.hid (hb.stays HX1.out)
  have HX3 := Lib.hid (hb.stays HX3.out)
  clear hb HQ
  have k0 := cell_of_heap HX1.out 0
  have k1 := cell_of_heap HX1.out 1
  have k2 := cell_of_heap HX1.out 2
  have k3 := cell_of_heap HX1.out 3
  have k4 := cell_of_heap HX1.out 4
  simp only [List.getElem?_toArray, List.getElem?_cons_zero, List.getElem?_cons_succ] at k0 k1 k2 k3 k4
  have j0 := cell_of_heap HX3.out 0
  have j1 := cell_of_heap HX3.out 1
  have j2 := cell_of_heap HX3.out 2
  have j3 := cell_of_heap HX3.out 3
  have j4 := cell_of_heap HX3.out 4
  simp only [List.getElem?_toArray, List.getElem?_cons_zero, List.getElem?_cons_succ] at j0 j1 j2 j3 j4
  go_wp2_with fail
  clear k0 k1 k2 k3 k4 j0 j1 j2 j3 j4
  have hb5 := (Bel.refl V1').alloc #[.int .i64 2, .int .i64 0, .int .i64 0, .string ⟨#[120]⟩, .slice none 0 0, .int .i64 4, .int .i64 b, .int .i64 0, .string ⟨#[]⟩, .slice (some ⟨g2, 0, none⟩) 2 2] 35
  have hx5 := heap_alloc_new V1' (.cells #[.int .i64 2, .int .i64 0, .int .i64 0, .string ⟨#[120]⟩, .slice none 0 0, .int .i64 4, .int .i64 b, .int .i64 0, .string ⟨#[]⟩, .slice (some ⟨g2, 0, none⟩) 2 2] 35)
  generalize V1'.alloc (.cells #[.int .i64 2, .int .i64 0, .int .i64 0, .string ⟨#[120]⟩, .slice none 0 0, .int .i64 4, .int .i64 b, .int .i64 0, .string ⟨#[]⟩, .slice (some ⟨g2, 0, none⟩) 2 2] 35) = V2 at hb5 hx5 ⊢
  generalize V1'.heap.size = q2 at hx5 ⊢
  have HB := Lib.hid (HB.out.trans hb5)
  have HE := Lib.hid (HE.out.bel hb5)
  have HX1 := Lib.hid (hb5.stays HX1.out)
  have HX3 := Lib.hid (hb5.stays HX3.out)
  have HQ := Lib.hid (EAt.two (e := varE) (f := inE b) hx5 wf_var (EAt.nil _ _) (wf4 b1 b2 _ _) HE.out)
  clear hb5 hx5
  refine (exprC (e := rightE a b) (q := some ⟨q2, 0, none⟩) (c := 2) HT.out (body_right a1 a2 b1 b2) _ HQ.out (wf4 a1 a2 _ _) (HX.out.bel HB.out) (HP.out.bel HB.out)).mono ?_
  rintro e V2' ⟨rfl, hb⟩
  have HB := Lib.hid (HB.out.trans hb)
  have HE := Lib.hid (HE.out.bel hb)
  have HX1 := Lib.hid (hb.stays HX1.out)
  have HX3 := Lib.hid (hb.stays HX3.out)
  clear hb HQ
  have k0 := cell_of_heap HX1.out 0
  have k1 := cell_of_heap HX1.out 1
  have k2 := cell_of_heap HX1.out 2
  have k3 := cell_of_heap HX1.out 3
  have k4 := cell_of_heap HX1.out 4
  simp only [List.getElem?_toArray, List.getElem?_cons_zero, List.getElem?_cons_succ] at k0 k1 k2 k3 k4
  have j0 := cell_of_heap HX3.out 0
  have j1 := cell_of_heap HX3.out 1
  have j2 := cell_of_heap HX3.out 2
  have j3 := cell_of_heap HX3.out 3
  have j4 := cell_of_heap HX3.out 4
  simp only [List.getElem?_toArray, List.getElem?_cons_zero, List.getElem?_cons_succ] at j0 j1 j2 j3 j4
  go_wp2_with fail
  clear k0 k1 k2 k3 k4 j0 j1 j2 j3 j4
  have hb5 := (Bel.refl V2').alloc #[.int .i64 4, .int .i64 b, .int .i64 0, .string ⟨#[]⟩, .slice (some ⟨g2, 0, none⟩) 2 2] 35
  have hx5 := heap_alloc_new V2' (.cells #[.int .i64 4, .int .i64 b, .int .i64 0, .string ⟨#[]⟩, .slice (some ⟨g2, 0, none⟩) 2 2] 35)
  generalize V2'.alloc (.cells #[.int .i64 4, .int .i64 b, .int .i64 0, .string ⟨#[]⟩, .slice (some ⟨g2, 0, none⟩) 2 2] 35) = V3 at hb5 hx5 ⊢
  generalize V2'.heap.size = q3 at hx5 ⊢
  have HB := Lib.hid (HB.out.trans hb5)
  have HE := Lib.hid (HE.out.bel hb5)
  have HX1 := Lib.hid (hb5.stays HX1.out)
  have HX3 := Lib.hid (hb5.stays HX3.out)
  have HQ := Lib.hid (EAt.one (e := inE b) hx5 (wf4 b1 b2 _ _) HE.out)
  clear hb5 hx5
  refine (exprC (e := negE b) (q := some ⟨q3, 0, none⟩) (c := 1) HU.out (body_neg b1 b2) _ HQ.out wf_neg (HX.out.bel HB.out) (HP.out.bel HB.out)).mono ?_
  rintro e V3' ⟨rfl, hb⟩
  have HB := Lib.hid (HB.out.trans hb)
  have HE := Lib.hid (HE.out.bel hb)
  have HX1 := Lib.hid (hb.stays HX1.out)
  have HX3 := Lib.hid (hb.stays HX3.out)
  clear hb HQ
  have k0 := cell_of_heap HX1.out 0
  have k1 := cell_of_heap HX1.out 1
  have k2 := cell_of_heap HX1.out 2
  have k3 := cell_of_heap HX1.out 3
  have k4 := cell_of_heap HX1.out 4
  simp only [List.getElem?_toArray, List.getElem?_cons_zero, List.getElem?_cons_succ] at k0 k1 k2 k3 k4
  have j0 := cell_of_heap HX3.out 0
  have j1 := cell_of_heap HX3.out 1
  have j2 := cell_of_heap HX3.out 2
  have j3 := cell_of_heap HX3.out 3
  have j4 := cell_of_heap HX3.out 4
  simp only [List.getElem?_toArray, List.getElem?_cons_zero, List.getElem?_cons_succ] at j0 j1 j2 j3 j4
  go_wp2_with fail
  clear k0 k1 k2 k3 k4 j0 j1 j2 j3 j4
  have hb5 := (Bel.refl V3').alloc #[.int .i64 4, .int .i64 b, .int .i64 0, .string ⟨#[]⟩, .slice (some ⟨g2, 0, none⟩) 2 2] 35
  have hx5 := heap_alloc_new V3' (.cells #[.int .i64 4, .int .i64 b, .int .i64 0, .string ⟨#[]⟩, .slice (some ⟨g2, 0, none⟩) 2 2] 35)
  generalize V3'.alloc (.cells #[.int .i64 4, .int .i64 b, .int .i64 0, .string ⟨#[]⟩, .slice (some ⟨g2, 0, none⟩) 2 2] 35) = V4 at hb5 hx5 ⊢
  generalize V3'.heap.size = q4 at hx5 ⊢
  have HB := Lib.hid (HB.out.trans hb5)
  have HE := Lib.hid (HE.out.bel hb5)
  have HX1 := Lib.hid (hb5.stays HX1.out)
  have HX3 := Lib.hid (hb5.stays HX3.out)
  have HQ := Lib.hid (EAt.one (e := inE b) hx5 (wf4 b1 b2 _ _) HE.out)
  clear hb5 hx5
  refine (exprC (e := atE b) (q := some ⟨q4, 0, none⟩) (c := 1) HV.out (body_at b1 b2) _ HQ.out wf_at (HX.out.bel HB.out) (HP.out.bel HB.out)).mono ?_
  rintro e V4' ⟨rfl, hb⟩
  have HB := Lib.hid (HB.out.trans hb)
  have HE := Lib.hid (HE.out.bel hb)
  have HX1 := Lib.hid (hb.stays HX1.out)
  have HX3 := Lib.hid (hb.stays HX3.out)
  clear hb HQ
  have z1 : (1 : Int) ≤ (s.size : Int) := by have := Z1.out; omega
  have z2 : (1 : Int) ≤ (t.size : Int) := by have := Z2.out; omega
  have z3 : (2 : Int) ≤ (u.size : Int) := by have := Z3.out; omega
  have z4 : (3 : Int) ≤ (v.size : Int) := by have := Z4.out; omega
  go_upto_region 13 with (fail)
  have bt := BT.out
  have v1 : IntKind.i64.wrap ((t.size : Int) - 1) = (t.size : Int) - 1 := IntWalk.i64_in _ (by constructor <;> omega)
  have v2 : ((t.size : Int) - 1).toNat = t.size - 1 := by omega
  go_upto_region 14 with (fail)
  rw [Y1.out, Y2.out]
  have y3 := Y3.out
  have y4 := Y4.out
  have x3 := X3.out
  have x4 := X4.out
  have z5 : (L == L) = true := by cases L <;> rfl
  have z6 : (R == R) = true := by cases R <;> rfl
  go_wp2_with (go_at_call 16; first | ((with_reducible refine (level_lit HLB.out _).mono ?_); rintro e w' ⟨rfl, rfl⟩) | ((with_reducible refine (level_lit HLA.out _).mono ?_); rintro e w' ⟨rfl, rfl⟩))
  go_ret
  exact ⟨rfl, HB.out⟩
end Go.Proofs.YtnpdeiffffjnjaaDoor
