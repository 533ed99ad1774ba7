/- The law's first calls answer as is fixed. -/
import Derived.Test.YthlnjnmomnpnpaaGreatDoorYAwkP
namespace Go.Proofs.YthlnjnmomnpnpaaGreatDoor
open Go.RowKit Tk Sy
set_option linter.unusedVariables false
set_option linter.unusedSimpArgs false
theorem two_new (w : World) (c0 c1 : Array Value) (t0 t1 : TypeId) : Bel w ((w.alloc (.cells c0 t0)).alloc (.cells c1 t1)) ∧
    ((w.alloc (.cells c0 t0)).alloc (.cells c1 t1)).heap[w.heap.size]? = some (.cells c0 t0 (0, 0)) ∧
    ((w.alloc (.cells c0 t0)).alloc (.cells c1 t1)).heap[w.heap.size + 1]? = some (.cells c1 t1 (0, 0)) := by
  have h0 := heap_alloc_new w (.cells c0 t0)
  have h1 := heap_alloc_new (w.alloc (.cells c0 t0)) (.cells c1 t1)
  simp only [World.size_alloc] at h1
  exact ⟨((Bel.refl w).alloc _ _).alloc _ _, ((Bel.refl _).alloc _ _).stays h0, h1⟩
theorem four_new (w : World) (c0 c1 c2 c3 : Array Value) (t0 t1 t2 t3 : TypeId) : Bel w ((((w.alloc (.cells c0 t0)).alloc (.cells c1 t1)).alloc (.cells c2 t2)).alloc (.cells c3 t3)) ∧
    ((((w.alloc (.cells c0 t0)).alloc (.cells c1 t1)).alloc (.cells c2 t2)).alloc (.cells c3 t3)).heap[w.heap.size]? = some (.cells c0 t0 (0, 0)) ∧
    ((((w.alloc (.cells c0 t0)).alloc (.cells c1 t1)).alloc (.cells c2 t2)).alloc (.cells c3 t3)).heap[w.heap.size + 1]? = some (.cells c1 t1 (0, 0)) ∧
    ((((w.alloc (.cells c0 t0)).alloc (.cells c1 t1)).alloc (.cells c2 t2)).alloc (.cells c3 t3)).heap[w.heap.size + 1 + 1]? = some (.cells c2 t2 (0, 0)) ∧
    ((((w.alloc (.cells c0 t0)).alloc (.cells c1 t1)).alloc (.cells c2 t2)).alloc (.cells c3 t3)).heap[w.heap.size + 1 + 1 + 1]? = some (.cells c3 t3 (0, 0)) := by
  have h0 := heap_alloc_new w (.cells c0 t0)
  have h1 := heap_alloc_new (w.alloc (.cells c0 t0)) (.cells c1 t1)
  have h2 := heap_alloc_new ((w.alloc (.cells c0 t0)).alloc (.cells c1 t1)) (.cells c2 t2)
  have h3 := heap_alloc_new (((w.alloc (.cells c0 t0)).alloc (.cells c1 t1)).alloc (.cells c2 t2)) (.cells c3 t3)
  simp only [World.size_alloc] at h1 h2 h3
  exact ⟨((((Bel.refl w).alloc _ _).alloc _ _).alloc _ _).alloc _ _, ((((Bel.refl _).alloc _ _).alloc _ _).alloc _ _).stays h0, (((Bel.refl _).alloc _ _).alloc _ _).stays h1, ((Bel.refl _).alloc _ _).stays h2, h3⟩
set_option maxRecDepth 100000 in
set_option maxHeartbeats 8000000 in
theorem awake_any (w : World) (hX : Texts w) (hP : PowAt w) : Calls Tryz.prog 5 #[] w fun e w' => e = .returned (.bool true) ∧ Bel w w' := by
  obtain ⟨s0, hs0⟩ : ∃ s, str [104, 97, 114, 116, 115, 32, 49, 10, 116, 97, 115, 107, 32, 116, 32, 48, 32, 49, 32, 123, 10, 9, 120, 32, 61, 32, 40, 49, 32, 43, 32, 49, 41, 32, 42, 32, 49, 59, 10, 125, 10] = s := ⟨_, rfl⟩
  obtain ⟨s1, hs1⟩ : ∃ s, str [40, 49, 32, 43, 32, 49, 41, 32, 42, 32, 49] = s := ⟨_, rfl⟩
  have HS0 := Lib.hid hs0
  have HS1 := Lib.hid hs1
  have HX := Lib.hid hX
  have HP := Lib.hid hP
  clear hs0 hs1 hX hP
  go_enter Tryz.func5, Tryz.ntmps5
  go_upto_region 2 with (fail)
  have hb1 := (Bel.refl w).alloc #[.int .i64 1, .int .i64 0, .int .i64 1, .string ⟨#[]⟩, .slice none 0 0] 40
  have hx1 := heap_alloc_new w (.cells #[.int .i64 1, .int .i64 0, .int .i64 1, .string ⟨#[]⟩, .slice none 0 0] 40)
  generalize w.alloc (.cells #[.int .i64 1, .int .i64 0, .int .i64 1, .string ⟨#[]⟩, .slice none 0 0] 40) = W1 at hb1 hx1 ⊢
  generalize w.heap.size = g1 at hx1 ⊢
  have HX1 := Lib.hid hx1
  have HB := Lib.hid hb1
  clear hb1
  have k0 := cell_of_heap hx1 0
  have k1 := cell_of_heap hx1 1
  have k2 := cell_of_heap hx1 2
  have k3 := cell_of_heap hx1 3
  have k4 := cell_of_heap hx1 4
  simp only [List.getElem?_toArray, List.getElem?_cons_zero, List.getElem?_cons_succ] at k0 k1 k2 k3 k4
  clear hx1
  go_upto_region 3 with (fail)
  clear k0 k1 k2 k3 k4
  obtain ⟨n0, n1, n2⟩ := two_new W1 #[.int .i64 1, .int .i64 0, .int .i64 1, .string ⟨#[]⟩, .slice none 0 0, .int .i64 1, .int .i64 0, .int .i64 1, .string ⟨#[]⟩, .slice none 0 0] #[.int .i64 4, .int .i64 1, .int .i64 0, .string ⟨#[]⟩, .slice (some ⟨W1.heap.size, 0, none⟩) 2 2] 40 40
  generalize (W1.alloc (.cells #[.int .i64 1, .int .i64 0, .int .i64 1, .string ⟨#[]⟩, .slice none 0 0, .int .i64 1, .int .i64 0, .int .i64 1, .string ⟨#[]⟩, .slice none 0 0] 40)).alloc (.cells #[.int .i64 4, .int .i64 1, .int .i64 0, .string ⟨#[]⟩, .slice (some ⟨W1.heap.size, 0, none⟩) 2 2] 40) = W2 at n0 n1 n2 ⊢
  generalize W1.heap.size + 1 = g3 at n2 ⊢
  generalize W1.heap.size = g2 at n1 n2 ⊢
  have HX1 := Lib.hid (n0.stays HX1.out)
  have HX3 := Lib.hid n2
  have HE2 := Lib.hid (EAt.two (e := oneE) (f := oneE) n1 wfE_one (EAt.nil _ _) wfE_one (EAt.nil _ _))
  have HB := Lib.hid (HB.out.trans n0)
  clear n0 n1 n2
  have k0 := cell_of_heap HX1.out 0
  have k1 := cell_of_heap HX1.out 1
  have k2 := cell_of_heap HX1.out 2
  have k3 := cell_of_heap HX1.out 3
  have k4 := cell_of_heap HX1.out 4
  simp only [List.getElem?_toArray, List.getElem?_cons_zero, List.getElem?_cons_succ] at k0 k1 k2 k3 k4
  have j0 := cell_of_heap HX3.out 0
  have j1 := cell_of_heap HX3.out 1
  have j2 := cell_of_heap HX3.out 2
  have j3 := cell_of_heap HX3.out 3
  have j4 := cell_of_heap HX3.out 4
  simp only [List.getElem?_toArray, List.getElem?_cons_zero, List.getElem?_cons_succ] at j0 j1 j2 j3 j4
  go_upto_region 4 with (fail)
  clear k0 k1 k2 k3 k4 j0 j1 j2 j3 j4
  obtain ⟨n0, n1, n2⟩ := two_new W2 #[.int .i64 4, .int .i64 1, .int .i64 0, .string ⟨#[]⟩, .slice (some ⟨g2, 0, none⟩) 2 2, .int .i64 1, .int .i64 0, .int .i64 1, .string ⟨#[]⟩, .slice none 0 0] #[.int .i64 4, .int .i64 3, .int .i64 0, .string ⟨#[]⟩, .slice (some ⟨W2.heap.size, 0, none⟩) 2 2] 40 40
  generalize (W2.alloc (.cells #[.int .i64 4, .int .i64 1, .int .i64 0, .string ⟨#[]⟩, .slice (some ⟨g2, 0, none⟩) 2 2, .int .i64 1, .int .i64 0, .int .i64 1, .string ⟨#[]⟩, .slice none 0 0] 40)).alloc (.cells #[.int .i64 4, .int .i64 3, .int .i64 0, .string ⟨#[]⟩, .slice (some ⟨W2.heap.size, 0, none⟩) 2 2] 40) = W3 at n0 n1 n2 ⊢
  generalize W2.heap.size + 1 = g5 at n2 ⊢
  generalize W2.heap.size = g4 at n1 n2 ⊢
  have HX5 := Lib.hid n2
  have HE4 := Lib.hid (EAt.two (e := sumE) (f := oneE) n1 wfE_sum (HE2.out.bel n0) wfE_one (EAt.nil _ _))
  have HB := Lib.hid (HB.out.trans n0)
  clear n0 n1 n2 HE2 HX1 HX3
  have k0 := cell_of_heap HX5.out 0
  have k1 := cell_of_heap HX5.out 1
  have k2 := cell_of_heap HX5.out 2
  have k3 := cell_of_heap HX5.out 3
  have k4 := cell_of_heap HX5.out 4
  simp only [List.getElem?_toArray, List.getElem?_cons_zero, List.getElem?_cons_succ] at k0 k1 k2 k3 k4
  go_upto_region 5 with (fail)
  clear k0 k1 k2 k3 k4
  obtain ⟨n0, n1, n2, n3, n4⟩ := four_new W3 #[.int .i64 4, .int .i64 3, .int .i64 0, .string ⟨#[]⟩, .slice (some ⟨g4, 0, none⟩) 2 2] #[.int .i64 1, .string ⟨#[120]⟩, .string ⟨#[]⟩, .int .i64 0, .slice (some ⟨W3.heap.size, 0, none⟩) 1 1, .slice none 0 0, .slice none 0 0] #[.string ⟨#[116]⟩, .bool false, .int .i64 0, .int .i64 1, .int .i64 0, .slice (some ⟨W3.heap.size + 1, 0, none⟩) 1 1] #[.int .i64 1, .slice none 0 0, .slice none 0 0, .slice (some ⟨W3.heap.size + 1 + 1, 0, none⟩) 1 1] 40 52 54 28
  generalize (((W3.alloc (.cells #[.int .i64 4, .int .i64 3, .int .i64 0, .string ⟨#[]⟩, .slice (some ⟨g4, 0, none⟩) 2 2] 40)).alloc (.cells #[.int .i64 1, .string ⟨#[120]⟩, .string ⟨#[]⟩, .int .i64 0, .slice (some ⟨W3.heap.size, 0, none⟩) 1 1, .slice none 0 0, .slice none 0 0] 52)).alloc (.cells #[.string ⟨#[116]⟩, .bool false, .int .i64 0, .int .i64 1, .int .i64 0, .slice (some ⟨W3.heap.size + 1, 0, none⟩) 1 1] 54)).alloc (.cells #[.int .i64 1, .slice none 0 0, .slice none 0 0, .slice (some ⟨W3.heap.size + 1 + 1, 0, none⟩) 1 1] 28) = W4 at n0 n1 n2 n3 n4 ⊢
  generalize W3.heap.size + 1 + 1 + 1 = g9 at n4 ⊢
  generalize W3.heap.size + 1 + 1 = g8 at n3 n4 ⊢
  generalize W3.heap.size + 1 = g7 at n2 n3 ⊢
  generalize W3.heap.size = g6 at n1 n2 ⊢
  have HX5 := Lib.hid (n0.stays HX5.out)
  have HX9 := Lib.hid n4
  have HE4 := Lib.hid (HE4.out.bel n0)
  have HI := Lib.hid (the_at n3 (SAt.one (s := setS) n2 wfS_set (EAt.one (e := mulE) n1 wfE_mul HE4.out) (SAt.nil _ _) (SAt.nil _ _)))
  have HB := Lib.hid (HB.out.trans n0)
  clear n0 n1 n2 n3 n4
  have d0 : W4.cell? ⟨g9, 0, none⟩ = some (.int .i64 1) := cell_of_heap HX9.out 0
  have d1 : W4.cell? ⟨g9, 1, none⟩ = some (.slice none 0 0) := cell_of_heap HX9.out 1
  have d2 : W4.cell? ⟨g9, 2, none⟩ = some (.slice none 0 0) := cell_of_heap HX9.out 2
  have d3 : W4.cell? ⟨g9, 3, none⟩ = some (.slice (some ⟨g8, 0, none⟩) 1 1) := cell_of_heap HX9.out 3
  go_wp2_with fail
  refine (print_1 HS0.out g8 _ HI (HX.out.bel HB.out) (HP.out.bel HB.out)).mono ?_
  rintro e V1 ⟨rfl, hb⟩
  have HB := Lib.hid (HB.out.trans hb)
  have HX9 := Lib.hid (hb.stays HX9.out)
  have HI := Lib.hid (HI.out.bel hb)
  have HX5 := Lib.hid (hb.stays HX5.out)
  have HE4 := Lib.hid (HE4.out.bel hb)
  clear hb d0 d1 d2 d3
  have k0 := cell_of_heap HX5.out 0
  have k1 := cell_of_heap HX5.out 1
  have k2 := cell_of_heap HX5.out 2
  have k3 := cell_of_heap HX5.out 3
  have k4 := cell_of_heap HX5.out 4
  simp only [List.getElem?_toArray, List.getElem?_cons_zero, List.getElem?_cons_succ] at k0 k1 k2 k3 k4
  go_wp2_with fail
  refine (exprA_1 HS1.out g4 _ HE4 (HX.out.bel HB.out) (HP.out.bel HB.out)).mono ?_
  rintro e V2 ⟨rfl, hb⟩
  have HB := Lib.hid (HB.out.trans hb)
  have HX9 := Lib.hid (hb.stays HX9.out)
  have HI := Lib.hid (HI.out.bel hb)
  clear hb k0 k1 k2 k3 k4
  have z0 : (s0.toList == [104, 97, 114, 116, 115, 32, 49, 10, 116, 97, 115, 107, 32, 116, 32, 48, 32, 49, 32, 123, 10, 9, 120, 32, 61, 32, 40, 49, 32, 43, 32, 49, 41, 32, 42, 32, 49, 59, 10, 125, 10]) = true := by
    rw [← HS0.out, ByteArray.toList_eq, str_list]
    decide
  have z1 : (s1.toList == [40, 49, 32, 43, 32, 49, 41, 32, 42, 32, 49]) = true := by
    rw [← HS1.out, ByteArray.toList_eq, str_list]
    decide
  have d0 : V2.cell? ⟨g9, 0, none⟩ = some (.int .i64 1) := cell_of_heap HX9.out 0
  have d1 : V2.cell? ⟨g9, 1, none⟩ = some (.slice none 0 0) := cell_of_heap HX9.out 1
  have d2 : V2.cell? ⟨g9, 2, none⟩ = some (.slice none 0 0) := cell_of_heap HX9.out 2
  have d3 : V2.cell? ⟨g9, 3, none⟩ = some (.slice (some ⟨g8, 0, none⟩) 1 1) := cell_of_heap HX9.out 3
  go_wp2_with fail
  refine (right_1 g8 _ HI).mono ?_
  rintro e V3 ⟨rfl, hb⟩
  have HB := Lib.hid (HB.out.trans hb)
  have HX9 := Lib.hid (hb.stays HX9.out)
  have HI := Lib.hid (HI.out.bel hb)
  clear hb d0 d1 d2 d3 z0 z1
  have d0 : V3.cell? ⟨g9, 0, none⟩ = some (.int .i64 1) := cell_of_heap HX9.out 0
  have d1 : V3.cell? ⟨g9, 1, none⟩ = some (.slice none 0 0) := cell_of_heap HX9.out 1
  have d2 : V3.cell? ⟨g9, 2, none⟩ = some (.slice none 0 0) := cell_of_heap HX9.out 2
  have d3 : V3.cell? ⟨g9, 3, none⟩ = some (.slice (some ⟨g8, 0, none⟩) 1 1) := cell_of_heap HX9.out 3
  go_wp2_with fail
  refine (right_0 _).mono ?_
  rintro e V4 ⟨rfl, hb⟩
  have HB := Lib.hid (HB.out.trans hb)
  have HX9 := Lib.hid (hb.stays HX9.out)
  have HI := Lib.hid (HI.out.bel hb)
  clear hb d0 d1 d2 d3
  have d0 : V4.cell? ⟨g9, 0, none⟩ = some (.int .i64 1) := cell_of_heap HX9.out 0
  have d1 : V4.cell? ⟨g9, 1, none⟩ = some (.slice none 0 0) := cell_of_heap HX9.out 1
  have d2 : V4.cell? ⟨g9, 2, none⟩ = some (.slice none 0 0) := cell_of_heap HX9.out 2
  have d3 : V4.cell? ⟨g9, 3, none⟩ = some (.slice (some ⟨g8, 0, none⟩) 1 1) := cell_of_heap HX9.out 3
  go_wp2_with fail
  refine (size_1 g8 _ HI).mono ?_
  rintro e V5 ⟨rfl, hb⟩
  have HB := Lib.hid (HB.out.trans hb)
  have HX9 := Lib.hid (hb.stays HX9.out)
  have HI := Lib.hid (HI.out.bel hb)
  clear hb d0 d1 d2 d3
  have d0 : V5.cell? ⟨g9, 0, none⟩ = some (.int .i64 1) := cell_of_heap HX9.out 0
  have d1 : V5.cell? ⟨g9, 1, none⟩ = some (.slice none 0 0) := cell_of_heap HX9.out 1
  have d2 : V5.cell? ⟨g9, 2, none⟩ = some (.slice none 0 0) := cell_of_heap HX9.out 2
  have d3 : V5.cell? ⟨g9, 3, none⟩ = some (.slice (some ⟨g8, 0, none⟩) 1 1) := cell_of_heap HX9.out 3
  go_wp2_with fail
  refine (same_1 g8 _ HI).mono ?_
  rintro e V6 ⟨rfl, hb⟩
  have HB := Lib.hid (HB.out.trans hb)
  have HX9 := Lib.hid (hb.stays HX9.out)
  have HI := Lib.hid (HI.out.bel hb)
  clear hb d0 d1 d2 d3
  have d0 : V6.cell? ⟨g9, 0, none⟩ = some (.int .i64 1) := cell_of_heap HX9.out 0
  have d1 : V6.cell? ⟨g9, 1, none⟩ = some (.slice none 0 0) := cell_of_heap HX9.out 1
  have d2 : V6.cell? ⟨g9, 2, none⟩ = some (.slice none 0 0) := cell_of_heap HX9.out 2
  have d3 : V6.cell? ⟨g9, 3, none⟩ = some (.slice (some ⟨g8, 0, none⟩) 1 1) := cell_of_heap HX9.out 3
  go_wp2_with fail
  refine (same_0 g8 _ HI).mono ?_
  rintro e V7 ⟨rfl, hb⟩
  have HB := Lib.hid (HB.out.trans hb)
  have HX9 := Lib.hid (hb.stays HX9.out)
  have HI := Lib.hid (HI.out.bel hb)
  clear hb d0 d1 d2 d3
  go_wp2_with fail
  go_ret
  exact ⟨rfl, HB.out⟩
end Go.Proofs.YthlnjnmomnpnpaaGreatDoor
