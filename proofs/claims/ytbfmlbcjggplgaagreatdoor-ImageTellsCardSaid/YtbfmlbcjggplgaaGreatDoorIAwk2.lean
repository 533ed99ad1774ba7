/- The law's first calls answer as is fixed. -/
import Derived.Test.YtbfmlbcjggplgaaGreatDoorIAwk
namespace Go.Proofs.YtbfmlbcjggplgaaGreatDoor
open Go.RowKit Im
set_option linter.unusedVariables false
/-- the image of one word and one symbol -/
def one : Img := ⟨[19], 3, [⟨⟨#[97]⟩, 4⟩]⟩
theorem right_one : right one = true := by decide +kernel
theorem body_one : body one = [105, 109, 97, 103, 101, 32, 51, 10, 48, 48, 48, 48, 48, 48, 48, 52, 32, 97, 10, 99, 111, 100, 101, 10, 48, 48, 48, 48, 48, 48, 49, 51, 10] := by
  have : Lib.itoa 3 = [51] := by
    unfold Lib.itoa
    rw [if_neg (by decide)]
    show Lib.decDigits 3 = _
    rw [Lib.decDigits_one (by decide)]
    rfl
  unfold body headB one
  rw [this]
  decide +kernel
theorem sum_one : sumOf (body one) = 2391410595 := by
  rw [body_one]
  decide +kernel
theorem one_at {w : World} {b1 b2 : Nat} (h1 : w.heap[b1]? = some (.cells #[.int .i64 19] 3 (0, 0))) (h2 : w.heap[b2]? = some (.cells #[.string ⟨#[97]⟩, .int .i64 4] 42 (0, 0))) : ImgAt w (some ⟨b1, 0, none⟩) (some ⟨b2, 0, none⟩) one := by
  refine ⟨?_, ?_, by simp [one], ?_, by simp [one], by simp [one], by simp [one]⟩
  · intro j x hj
    match j, hj with
    | 0, hj =>
      obtain rfl : (19 : Int) = x := by simpa [one] using hj
      refine ⟨b1, 0, rfl, lt_of_heap h1, fun i v hv => ?_⟩
      rw [cell_of_heap h1]
      simpa [icell] using hv
    | j + 1, hj => simp [one] at hj
  · intro j x hj
    match j, hj with
    | 0, hj =>
      obtain rfl : (⟨⟨#[97]⟩, 4⟩ : Sym) = x := by simpa [one] using hj
      refine ⟨b2, 0, rfl, lt_of_heap h2, fun i v hv => ?_⟩
      rw [cell_of_heap h2]
      simpa [scell] using hv
    | j + 1, hj => simp [one] at hj
  · intro x hx
    obtain rfl : x = ⟨⟨#[97]⟩, 4⟩ := by simpa [one] using hx
    refine ⟨?_, by decide, by decide⟩
    unfold maxLen
    decide
theorem four_new (w : World) (c0 c1 c2 c3 : Array Value) (t0 t1 t2 t3 : TypeId) : Bel w ((((w.alloc (.cells c0 t0)).alloc (.cells c1 t1)).alloc (.cells c2 t2)).alloc (.cells c3 t3)) ∧
    ((((w.alloc (.cells c0 t0)).alloc (.cells c1 t1)).alloc (.cells c2 t2)).alloc (.cells c3 t3)).heap[w.heap.size + 1]? = some (.cells c1 t1 (0, 0)) ∧
    ((((w.alloc (.cells c0 t0)).alloc (.cells c1 t1)).alloc (.cells c2 t2)).alloc (.cells c3 t3)).heap[w.heap.size + 1 + 1]? = some (.cells c2 t2 (0, 0)) ∧
    ((((w.alloc (.cells c0 t0)).alloc (.cells c1 t1)).alloc (.cells c2 t2)).alloc (.cells c3 t3)).heap[w.heap.size + 1 + 1 + 1]? = some (.cells c3 t3 (0, 0)) := by
  have h1 := heap_alloc_new (w.alloc (.cells c0 t0)) (.cells c1 t1)
  have h2 := heap_alloc_new ((w.alloc (.cells c0 t0)).alloc (.cells c1 t1)) (.cells c2 t2)
  have h3 := heap_alloc_new (((w.alloc (.cells c0 t0)).alloc (.cells c1 t1)).alloc (.cells c2 t2)) (.cells c3 t3)
  simp only [World.size_alloc] at h1 h2 h3
  exact ⟨((((Bel.refl w).alloc _ _).alloc _ _).alloc _ _).alloc _ _, (((Bel.refl _).alloc _ _).alloc _ _).stays h1, ((Bel.refl _).alloc _ _).stays h2, h3⟩
theorem same_ee (wp sp : Option Addr) (wc sc : Nat) (w : World) : Calls Tryz.prog 15 #[.agg #[.slice wp 0 wc, .int .i64 0, .slice sp 0 sc], noImg] w fun e w' => e = .returned (.bool true) ∧ Bel w w' :=
  same_lit (a := Im.empty) (b := Im.empty) (p := wp) (q := sp) (c := wc) (d := sc) (p' := none) (q' := none) (c' := 0) (d' := 0) (by decide) w (Lib.hid (ImgAt.empty _ _ _)) (Lib.hid (ImgAt.empty _ _ _))
theorem same_oe (b1 b2 : Nat) (wp sp : Option Addr) (wc sc : Nat) (w : World) (H : Hid (ImgAt w (some ⟨b1, 0, none⟩) (some ⟨b2, 0, none⟩) one)) : Calls Tryz.prog 15 #[.agg #[.slice (some ⟨b1, 0, none⟩) 1 1, .int .i64 3, .slice (some ⟨b2, 0, none⟩) 1 1], .agg #[.slice wp 0 wc, .int .i64 0, .slice sp 0 sc]] w fun e w' => e = .returned (.bool false) ∧ Bel w w' :=
  same_lit (a := one) (b := Im.empty) (p := some ⟨b1, 0, none⟩) (q := some ⟨b2, 0, none⟩) (c := 1) (d := 1) (p' := wp) (q' := sp) (c' := wc) (d' := sc) (by decide) w H (Lib.hid (ImgAt.empty _ _ _))
theorem right_1 (b1 b2 : Nat) (w : World) (H : Hid (ImgAt w (some ⟨b1, 0, none⟩) (some ⟨b2, 0, none⟩) one)) : Calls Tryz.prog 9 #[.agg #[.slice (some ⟨b1, 0, none⟩) 1 1, .int .i64 3, .slice (some ⟨b2, 0, none⟩) 1 1]] w fun e w' => e = .returned (.bool true) ∧ Bel w w' :=
  right_lit (m := one) (wp := some ⟨b1, 0, none⟩) (sp := some ⟨b2, 0, none⟩) (wc := 1) (sc := 1) right_one w H
theorem find_1a (b1 b2 : Nat) (w : World) (H : Hid (ImgAt w (some ⟨b1, 0, none⟩) (some ⟨b2, 0, none⟩) one)) : Calls Tryz.prog 13 #[.agg #[.slice (some ⟨b1, 0, none⟩) 1 1, .int .i64 3, .slice (some ⟨b2, 0, none⟩) 1 1], .string ⟨#[97]⟩] w fun e w' => e = .returned (.int .i64 4) ∧ Bel w w' :=
  find_yes (m := one) (wp := some ⟨b1, 0, none⟩) (sp := some ⟨b2, 0, none⟩) (wc := 1) (sc := 1) (j := 0) right_one rfl w H
theorem find_1b (b1 b2 : Nat) (w : World) (H : Hid (ImgAt w (some ⟨b1, 0, none⟩) (some ⟨b2, 0, none⟩) one)) : Calls Tryz.prog 13 #[.agg #[.slice (some ⟨b1, 0, none⟩) 1 1, .int .i64 3, .slice (some ⟨b2, 0, none⟩) 1 1], .string ⟨#[98]⟩] w fun e w' => e = .returned (.int .i64 (-1)) ∧ Bel w w' :=
  find_none (m := one) (wp := some ⟨b1, 0, none⟩) (sp := some ⟨b2, 0, none⟩) (wc := 1) (sc := 1) right_one (by
    intro x hx
    obtain rfl : x = ⟨⟨#[97]⟩, 4⟩ := by simpa [one] using hx
    decide) w H
theorem sum_1 (b1 b2 : Nat) (w : World) (H : Hid (ImgAt w (some ⟨b1, 0, none⟩) (some ⟨b2, 0, none⟩) one)) (hP : PowAt w) : Calls Tryz.prog 11 #[.agg #[.slice (some ⟨b1, 0, none⟩) 1 1, .int .i64 3, .slice (some ⟨b2, 0, none⟩) 1 1]] w fun e w' => e = .returned (.int .i64 2391410595) ∧ Bel w w' :=
  sum_yes (m := one) (wp := some ⟨b1, 0, none⟩) (sp := some ⟨b2, 0, none⟩) (wc := 1) (sc := 1) right_one (by rw [sum_one]; rfl) w H hP
set_option maxRecDepth 100000 in
set_option maxHeartbeats 8000000 in
theorem awake_any (w : World) (hL : LibAt w) : Calls Tryz.prog 5 #[] w fun e w' => e = .returned (.bool true) ∧ Bel w w' := by
  obtain ⟨s0, hs0⟩ : ∃ s, str S0 = s := ⟨_, rfl⟩
  have z1 : (s0.size : Int) = 26 := by rw [← hs0]; rfl
  have z2 : s0.size = 26 := by rw [← hs0]; rfl
  have z3 : s0.extract 0 17 = ⟨#[105, 109, 97, 103, 101, 32, 48, 10, 99, 111, 100, 101, 10, 115, 117, 109, 32]⟩ := by rw [← hs0, ext_str]; rfl
  have HS0 := Lib.hid hs0
  have HZ1 := Lib.hid z1
  have HZ2 := Lib.hid z2
  have HZ3 := Lib.hid z3
  have HL := Lib.hid hL
  clear hs0 z1 z2 z3 hL
  go_enter Tryz.func5, Tryz.ntmps5
  go_wp2_with fail
  refine (print_empty HS0.out _ HL.out.2.1).mono ?_
  rintro e w1 ⟨rfl, hb⟩
  have HB := Lib.hid hb
  clear hb
  go_wp2_with fail
  refine (parse_S0 HS0.out _ (HL.out.bel HB.out)).mono ?_
  rintro e w2 ⟨hb, wp, sp, wc, sc, rfl⟩
  have HB := Lib.hid (HB.out.trans hb)
  clear hb
  go_wp2_with fail
  have hb3 := (Bel.refl w2).alloc #[.slice wp 0 wc, .int .i64 0, .slice sp 0 sc] 25
  have hx3 := heap_alloc_new w2 (.cells #[.slice wp 0 wc, .int .i64 0, .slice sp 0 sc] 25)
  generalize w2.alloc (.cells #[.slice wp 0 wc, .int .i64 0, .slice sp 0 sc] 25) = W3 at hb3 hx3 ⊢
  generalize w2.heap.size = b3 at hx3 ⊢
  have HX3 := Lib.hid hx3
  have HB := Lib.hid (HB.out.trans hb3)
  clear hb3 hx3
  refine (parse_S1 (by rfl) _ (HL.out.bel HB.out)).mono ?_
  rintro e w4 ⟨rfl, hb⟩
  have HB := Lib.hid (HB.out.trans hb)
  have HX3 := Lib.hid (hb.stays HX3.out)
  clear hb
  go_wp2_with fail
  have hb5 := (Bel.refl w4).alloc #[.slice none 0 0, .int .i64 0, .slice none 0 0] 25
  generalize w4.alloc (.cells #[.slice none 0 0, .int .i64 0, .slice none 0 0] 25) = W5 at hb5 ⊢
  generalize w4.heap.size = b5
  have HB := Lib.hid (HB.out.trans hb5)
  have HX3 := Lib.hid (hb5.stays HX3.out)
  clear hb5
  refine (parse_T0 (by rfl) _ (HL.out.bel HB.out)).mono ?_
  rintro e w6 ⟨rfl, hb⟩
  have HB := Lib.hid (HB.out.trans hb)
  have HX3 := Lib.hid (hb.stays HX3.out)
  clear hb
  go_upto_region 6 with (fail)
  obtain ⟨g0, g1, g2, g3⟩ := four_new w6 #[.slice none 0 0, .int .i64 0, .slice none 0 0] #[.int .i64 19] #[.string ⟨#[97]⟩, .int .i64 4] #[.slice (some ⟨w6.heap.size + 1, 0, none⟩) 1 1, .int .i64 3, .slice (some ⟨w6.heap.size + 1 + 1, 0, none⟩) 1 1] 25 3 42 25
  generalize (((w6.alloc (.cells #[.slice none 0 0, .int .i64 0, .slice none 0 0] 25)).alloc (.cells #[.int .i64 19] 3)).alloc (.cells #[.string ⟨#[97]⟩, .int .i64 4] 42)).alloc (.cells #[.slice (some ⟨w6.heap.size + 1, 0, none⟩) 1 1, .int .i64 3, .slice (some ⟨w6.heap.size + 1 + 1, 0, none⟩) 1 1] 25) = W7 at g0 g1 g2 g3 ⊢
  generalize w6.heap.size + 1 + 1 + 1 = b12 at g3 ⊢
  generalize w6.heap.size + 1 + 1 = b2 at g2 g3 ⊢
  generalize w6.heap.size + 1 = b1 at g1 g3 ⊢
  generalize w6.heap.size = b9
  have HB := Lib.hid (HB.out.trans g0)
  have HX3 := Lib.hid (g0.stays HX3.out)
  have HX12 := Lib.hid g3
  have HI := Lib.hid (one_at g1 g2)
  clear g0 g1 g2 g3
  have z1 := HZ1.out
  have z2 := HZ2.out
  have z3 := HZ3.out
  have z4 : (17 : Int) ≤ (s0.size : Int) := by omega
  have c0 : W7.cell? ⟨b3, 0, none⟩ = some (.slice wp 0 wc) := cell_of_heap HX3.out 0
  have c1 : W7.cell? ⟨b3, 1, none⟩ = some (.int .i64 0) := cell_of_heap HX3.out 1
  have c2 : W7.cell? ⟨b3, 2, none⟩ = some (.slice sp 0 sc) := cell_of_heap HX3.out 2
  go_wp2_with fail
  refine (same_ee wp sp wc sc _).mono ?_
  rintro e v1 ⟨rfl, hb⟩
  have HB := Lib.hid (HB.out.trans hb)
  have HX3 := Lib.hid (hb.stays HX3.out)
  have HX12 := Lib.hid (hb.stays HX12.out)
  have HI := Lib.hid (HI.out.bel hb)
  clear hb c0 c1 c2 z1 z2 z3 z4
  have d0 : v1.cell? ⟨b12, 0, none⟩ = some (.slice (some ⟨b1, 0, none⟩) 1 1) := cell_of_heap HX12.out 0
  have d1 : v1.cell? ⟨b12, 1, none⟩ = some (.int .i64 3) := cell_of_heap HX12.out 1
  have d2 : v1.cell? ⟨b12, 2, none⟩ = some (.slice (some ⟨b2, 0, none⟩) 1 1) := cell_of_heap HX12.out 2
  go_wp2_with fail
  refine (right_1 b1 b2 _ HI).mono ?_
  rintro e v2 ⟨rfl, hb⟩
  have HB := Lib.hid (HB.out.trans hb)
  have HX3 := Lib.hid (hb.stays HX3.out)
  have HX12 := Lib.hid (hb.stays HX12.out)
  have HI := Lib.hid (HI.out.bel hb)
  clear hb d0 d1 d2
  have d0 : v2.cell? ⟨b12, 0, none⟩ = some (.slice (some ⟨b1, 0, none⟩) 1 1) := cell_of_heap HX12.out 0
  have d1 : v2.cell? ⟨b12, 1, none⟩ = some (.int .i64 3) := cell_of_heap HX12.out 1
  have d2 : v2.cell? ⟨b12, 2, none⟩ = some (.slice (some ⟨b2, 0, none⟩) 1 1) := cell_of_heap HX12.out 2
  go_wp2_with fail
  refine (find_1a b1 b2 _ HI).mono ?_
  rintro e v3 ⟨rfl, hb⟩
  have HB := Lib.hid (HB.out.trans hb)
  have HX3 := Lib.hid (hb.stays HX3.out)
  have HX12 := Lib.hid (hb.stays HX12.out)
  have HI := Lib.hid (HI.out.bel hb)
  clear hb d0 d1 d2
  have d0 : v3.cell? ⟨b12, 0, none⟩ = some (.slice (some ⟨b1, 0, none⟩) 1 1) := cell_of_heap HX12.out 0
  have d1 : v3.cell? ⟨b12, 1, none⟩ = some (.int .i64 3) := cell_of_heap HX12.out 1
  have d2 : v3.cell? ⟨b12, 2, none⟩ = some (.slice (some ⟨b2, 0, none⟩) 1 1) := cell_of_heap HX12.out 2
  go_wp2_with fail
  refine (find_1b b1 b2 _ HI).mono ?_
  rintro e v4 ⟨rfl, hb⟩
  have HB := Lib.hid (HB.out.trans hb)
  have HX3 := Lib.hid (hb.stays HX3.out)
  have HX12 := Lib.hid (hb.stays HX12.out)
  have HI := Lib.hid (HI.out.bel hb)
  clear hb d0 d1 d2
  have d0 : v4.cell? ⟨b12, 0, none⟩ = some (.slice (some ⟨b1, 0, none⟩) 1 1) := cell_of_heap HX12.out 0
  have d1 : v4.cell? ⟨b12, 1, none⟩ = some (.int .i64 3) := cell_of_heap HX12.out 1
  have d2 : v4.cell? ⟨b12, 2, none⟩ = some (.slice (some ⟨b2, 0, none⟩) 1 1) := cell_of_heap HX12.out 2
  go_wp2_with fail
  refine (sum_1 b1 b2 _ HI (HL.out.bel HB.out).2.1).mono ?_
  rintro e v5 ⟨rfl, hb⟩
  have HB := Lib.hid (HB.out.trans hb)
  have HX3 := Lib.hid (hb.stays HX3.out)
  have HX12 := Lib.hid (hb.stays HX12.out)
  have HI := Lib.hid (HI.out.bel hb)
  clear hb d0 d1 d2
  have c0 : v5.cell? ⟨b3, 0, none⟩ = some (.slice wp 0 wc) := cell_of_heap HX3.out 0
  have c1 : v5.cell? ⟨b3, 1, none⟩ = some (.int .i64 0) := cell_of_heap HX3.out 1
  have c2 : v5.cell? ⟨b3, 2, none⟩ = some (.slice sp 0 sc) := cell_of_heap HX3.out 2
  have d0 : v5.cell? ⟨b12, 0, none⟩ = some (.slice (some ⟨b1, 0, none⟩) 1 1) := cell_of_heap HX12.out 0
  have d1 : v5.cell? ⟨b12, 1, none⟩ = some (.int .i64 3) := cell_of_heap HX12.out 1
  have d2 : v5.cell? ⟨b12, 2, none⟩ = some (.slice (some ⟨b2, 0, none⟩) 1 1) := cell_of_heap HX12.out 2
  go_wp2_with fail
  refine (same_oe b1 b2 wp sp wc sc _ HI).mono ?_
  rintro e v6 ⟨rfl, hb⟩
  have HB := Lib.hid (HB.out.trans hb)
  have HX3 := Lib.hid (hb.stays HX3.out)
  have HX12 := Lib.hid (hb.stays HX12.out)
  have HI := Lib.hid (HI.out.bel hb)
  clear hb c0 c1 c2 d0 d1 d2
  go_wp2_with fail
  go_ret
  exact ⟨rfl, HB.out⟩
end Go.Proofs.YtbfmlbcjggplgaaGreatDoor
