/- The law's pick, and its first calls. -/
import Derived.Test.YtobpoghophhphaaMSame
namespace Go.Proofs.Ytobpoghophhphaa
open Go.RowKit Mm
set_option linter.unusedVariables false
set_option linter.unusedSimpArgs false
def inInt (a : Int) : Prop := -9223372036854775808 ≤ a ∧ a ≤ 9223372036854775807
theorem pick_any (c n : Int) (h1 : -9223372036854775808 ≤ c) (h2 : c ≤ 9223372036854775807) (h3 : 1 ≤ n) (w : World) : Calls Try.prog 9 #[.int .i64 c, .int .i64 n] w fun e w' => e = .returned (.int .i64 (pick c n)) ∧ w = w' := by
  unfold pick
  by_cases h : c < 0
  · rw [if_pos h]
    go_enter Try.func9, Try.ntmps9
    go_wp2
    go_ret
    exact ⟨ri (show -((c + 1).tmod n) = -(c + 1) % n by rw [← Int.neg_tmod, Int.tmod_eq_emod_of_nonneg (by omega)]), rfl⟩
  · rw [if_neg h]
    go_enter Try.func9, Try.ntmps9
    go_wp2
    go_ret
    exact ⟨rfl, rfl⟩
theorem pick_lit {c n r : Int} (h : pick c n = r) (hc : inInt c) (h3 : 1 ≤ n) (w : World) : Calls Try.prog 9 #[.int .i64 c, .int .i64 n] w fun e w' => e = .returned (.int .i64 r) ∧ w = w' := by
  subst h
  exact pick_any c n hc.1 hc.2 h3 w
set_option maxRecDepth 100000 in
set_option maxHeartbeats 4000000 in
theorem awake_any (w : World) : Calls Try.prog 4 #[] w fun e w' => e = .returned (.bool true) ∧ Bel w w' := by
  have HBW : Hid (Bel w w) := Lib.hid (Bel.refl w)
  go_enter Try.func4, Try.ntmps4
  have O0 : Ok (⟨[0, 0], [[], []], [-1, -1]⟩ : Mem) := ⟨by decide, rfl, by decide, by decide, by decide⟩
  have O1 : Ok (⟨[0, 0], [[(0, 1)], []], [-1, -1]⟩ : Mem) := ⟨by decide, rfl, by decide, by decide, by decide⟩
  have O2 : Ok (⟨[0, 0], [[(0, 1), (1, 1)], []], [-1, -1]⟩ : Mem) := ⟨by decide, rfl, by decide, by decide, by decide⟩
  have O3 : Ok (⟨[0, 1], [[(0, 1)], []], [-1, -1]⟩ : Mem) := ⟨by decide, rfl, by decide, by decide, by decide⟩
  have O4 : Ok (⟨[0, 1], [[(0, 1)], []], [-1, 1]⟩ : Mem) := ⟨by decide, rfl, by decide, by decide, by decide⟩
  have O5 : Ok (⟨[0, 5], [[(0, 1)], []], [-1, -1]⟩ : Mem) := ⟨by decide, rfl, by decide, by decide, by decide⟩
  have R0 : newV 2 2 = ((⟨[0, 0], [[], []], [-1, -1]⟩ : Mem), 0) := by kernel_rfl
  have R1 : storeV (⟨[0, 0], [[], []], [-1, -1]⟩ : Mem) 0 0 1 = ((⟨[0, 0], [[(0, 1)], []], [-1, -1]⟩ : Mem), 0) := by kernel_rfl
  have R2 : storeV (⟨[0, 0], [[(0, 1)], []], [-1, -1]⟩ : Mem) 0 1 1 = ((⟨[0, 0], [[(0, 1), (1, 1)], []], [-1, -1]⟩ : Mem), 0) := by kernel_rfl
  have R3 : reserveV (⟨[0, 0], [[(0, 1), (1, 1)], []], [-1, -1]⟩ : Mem) 0 0 = (0, zero, 92) := by kernel_rfl
  have R4 : drainV (⟨[0, 0], [[(0, 1), (1, 1)], []], [-1, -1]⟩ : Mem) 0 1 = ((⟨[0, 1], [[(0, 1)], []], [-1, -1]⟩ : Mem), 0) := by kernel_rfl
  have R5 : loadV (⟨[0, 1], [[(0, 1)], []], [-1, -1]⟩ : Mem) 1 0 = (0, 0) := by kernel_rfl
  have R6 : loadV (⟨[0, 1], [[(0, 1)], []], [-1, -1]⟩ : Mem) 1 1 = (1, 0) := by kernel_rfl
  have R7 : loadV (⟨[0, 1], [[(0, 1)], []], [-1, -1]⟩ : Mem) 0 0 = (1, 0) := by kernel_rfl
  have R8 : reserveV (⟨[0, 1], [[(0, 1)], []], [-1, -1]⟩ : Mem) 1 1 = (1, (⟨[0, 1], [[(0, 1)], []], [-1, 1]⟩ : Mem), 0) := by kernel_rfl
  have R9 : condV (⟨[0, 1], [[(0, 1)], []], [-1, 1]⟩ : Mem) 1 1 5 = (true, (⟨[0, 5], [[(0, 1)], []], [-1, -1]⟩ : Mem), 0) := by kernel_rfl
  have S1 : sameV (⟨[0, 1], [[(0, 1)], []], [-1, -1]⟩ : Mem) (⟨[0, 1], [[(0, 1)], []], [-1, -1]⟩ : Mem) = true := by kernel_rfl
  have S2 : sameV (⟨[0, 1], [[(0, 1)], []], [-1, -1]⟩ : Mem) (⟨[0, 1], [[(0, 1)], []], [-1, 1]⟩ : Mem) = false := by kernel_rfl
  have O0 := Lib.hid O0
  have O1 := Lib.hid O1
  have O2 := Lib.hid O2
  have O3 := Lib.hid O3
  have O4 := Lib.hid O4
  have O5 := Lib.hid O5
  have R0 := Lib.hid R0
  have R1 := Lib.hid R1
  have R2 := Lib.hid R2
  have R3 := Lib.hid R3
  have R4 := Lib.hid R4
  have R5 := Lib.hid R5
  have R6 := Lib.hid R6
  have R7 := Lib.hid R7
  have R8 := Lib.hid R8
  have R9 := Lib.hid R9
  have S1 := Lib.hid S1
  have S2 := Lib.hid S2
  go_wp2_with fail
  refine (new_lit R0.out _).mono ?_
  rintro e W1 ⟨u0, rfl, hb, hq⟩
  have HBW := Lib.hid (HBW.out.trans hb)
  have HQu0 : Hid (MemAt 0 W1 u0 (⟨[0, 0], [[], []], [-1, -1]⟩ : Mem)) := Lib.hid (hq.mono (Nat.zero_le _))
  clear hb hq
  go_upto_region 2 with (fail)
  have hnew : (W1.alloc (.cells #[.slice u0.w.p u0.w.n u0.w.c, .slice u0.p.p u0.p.n u0.p.c, .slice u0.r.p u0.r.n u0.r.c] 27)).heap[W1.heap.size]? = some (.cells #[.slice u0.w.p u0.w.n u0.w.c, .slice u0.p.p u0.p.n u0.p.c, .slice u0.r.p u0.r.n u0.r.c] 27 (0, 0)) := heap_alloc_new W1 _
  have hb : Bel W1 (W1.alloc (.cells #[.slice u0.w.p u0.w.n u0.w.c, .slice u0.p.p u0.p.n u0.p.c, .slice u0.r.p u0.r.n u0.r.c] 27)) := (Bel.refl W1).alloc _ _
  have hge : w.heap.size ≤ W1.heap.size := HBW.out.size
  generalize hWW : (W1.alloc (.cells #[.slice u0.w.p u0.w.n u0.w.c, .slice u0.p.p u0.p.n u0.p.c, .slice u0.r.p u0.r.n u0.r.c] 27)) = W2 at hnew hb ⊢
  clear hWW
  have HBW := Lib.hid (HBW.out.trans hb)
  have HQu0 := Lib.hid (HQu0.out.bel hb)
  generalize W1.heap.size = g1 at hnew hge  ⊢
  have HX1 := Lib.hid hnew
  have HGE1 := Lib.hid hge
  clear hnew hb hge
  have k10 := cell_of_heap HX1.out 0
  have y10 := frozen_of_heap HX1.out 0
  have k11 := cell_of_heap HX1.out 1
  have y11 := frozen_of_heap HX1.out 1
  have k12 := cell_of_heap HX1.out 2
  have y12 := frozen_of_heap HX1.out 2
  simp only [List.getElem?_toArray, List.getElem?_cons_zero, List.getElem?_cons_succ] at k10 k11 k12
  go_wp2_with fail
  refine (store_lit HQu0.out O0.out R1.out).mono ?_
  rintro e W3 ⟨u1, rfl, hb, hq⟩
  clear y10 y11 y12 k10 k11 k12
  have HBW := Lib.hid (HBW.out.trans hb)
  have HX1 := Lib.hid (Bel.stays hb HX1.out)
  have HQu0 := Lib.hid (HQu0.out.bel hb)
  have HQu1 : Hid (MemAt 0 W3 u1 (⟨[0, 0], [[(0, 1)], []], [-1, -1]⟩ : Mem)) := Lib.hid (hq.mono (Nat.zero_le _))
  clear hb hq
  have k10 := cell_of_heap HX1.out 0
  have y10 := frozen_of_heap HX1.out 0
  have k11 := cell_of_heap HX1.out 1
  have y11 := frozen_of_heap HX1.out 1
  have k12 := cell_of_heap HX1.out 2
  have y12 := frozen_of_heap HX1.out 2
  simp only [List.getElem?_toArray, List.getElem?_cons_zero, List.getElem?_cons_succ] at k10 k11 k12
  go_upto_region 3 with (fail)
  clear y10 y11 y12 k10 k11 k12
  have hs3 : Svg g1 W3 (((W3.setCell ⟨g1, 0, none⟩ (.slice u1.w.p u1.w.n u1.w.c)).setCell ⟨g1, 1, none⟩ (.slice u1.p.p u1.p.n u1.p.c)).setCell ⟨g1, 2, none⟩ (.slice u1.r.p u1.r.n u1.r.c)) := set3_svg W3 g1 (.slice u1.w.p u1.w.n u1.w.c) (.slice u1.p.p u1.p.n u1.p.c) (.slice u1.r.p u1.r.n u1.r.c)
  have hh := set3_heap HX1.out (.slice u1.w.p u1.w.n u1.w.c) (.slice u1.p.p u1.p.n u1.p.c) (.slice u1.r.p u1.r.n u1.r.c)
  generalize hWW : (((W3.setCell ⟨g1, 0, none⟩ (.slice u1.w.p u1.w.n u1.w.c)).setCell ⟨g1, 1, none⟩ (.slice u1.p.p u1.p.n u1.p.c)).setCell ⟨g1, 2, none⟩ (.slice u1.r.p u1.r.n u1.r.c)) = W4 at hs3 hh ⊢
  clear hWW
  have HBW := Lib.hid (hs3.bel HBW.out HGE1.out)
  have HQu0 := Lib.hid (HQu0.out.keep hs3 HX1.out (by decide) (by decide) (by decide))
  have HQu1 := Lib.hid (HQu1.out.keep hs3 HX1.out (by decide) (by decide) (by decide))
  have HX1 := Lib.hid hh
  clear hs3 hh
  have k10 := cell_of_heap HX1.out 0
  have y10 := frozen_of_heap HX1.out 0
  have k11 := cell_of_heap HX1.out 1
  have y11 := frozen_of_heap HX1.out 1
  have k12 := cell_of_heap HX1.out 2
  have y12 := frozen_of_heap HX1.out 2
  simp only [List.getElem?_toArray, List.getElem?_cons_zero, List.getElem?_cons_succ] at k10 k11 k12
  go_wp2_with fail
  refine (store_lit HQu1.out O1.out R2.out).mono ?_
  rintro e W5 ⟨u2, rfl, hb, hq⟩
  clear y10 y11 y12 k10 k11 k12
  have HBW := Lib.hid (HBW.out.trans hb)
  have HX1 := Lib.hid (Bel.stays hb HX1.out)
  have HQu0 := Lib.hid (HQu0.out.bel hb)
  have HQu1 := Lib.hid (HQu1.out.bel hb)
  have HQu2 : Hid (MemAt 0 W5 u2 (⟨[0, 0], [[(0, 1), (1, 1)], []], [-1, -1]⟩ : Mem)) := Lib.hid (hq.mono (Nat.zero_le _))
  clear hb hq
  have k10 := cell_of_heap HX1.out 0
  have y10 := frozen_of_heap HX1.out 0
  have k11 := cell_of_heap HX1.out 1
  have y11 := frozen_of_heap HX1.out 1
  have k12 := cell_of_heap HX1.out 2
  have y12 := frozen_of_heap HX1.out 2
  simp only [List.getElem?_toArray, List.getElem?_cons_zero, List.getElem?_cons_succ] at k10 k11 k12
  go_upto_region 4 with (fail)
  clear y10 y11 y12 k10 k11 k12
  have hs3 : Svg g1 W5 (((W5.setCell ⟨g1, 0, none⟩ (.slice u2.w.p u2.w.n u2.w.c)).setCell ⟨g1, 1, none⟩ (.slice u2.p.p u2.p.n u2.p.c)).setCell ⟨g1, 2, none⟩ (.slice u2.r.p u2.r.n u2.r.c)) := set3_svg W5 g1 (.slice u2.w.p u2.w.n u2.w.c) (.slice u2.p.p u2.p.n u2.p.c) (.slice u2.r.p u2.r.n u2.r.c)
  have hh := set3_heap HX1.out (.slice u2.w.p u2.w.n u2.w.c) (.slice u2.p.p u2.p.n u2.p.c) (.slice u2.r.p u2.r.n u2.r.c)
  generalize hWW : (((W5.setCell ⟨g1, 0, none⟩ (.slice u2.w.p u2.w.n u2.w.c)).setCell ⟨g1, 1, none⟩ (.slice u2.p.p u2.p.n u2.p.c)).setCell ⟨g1, 2, none⟩ (.slice u2.r.p u2.r.n u2.r.c)) = W6 at hs3 hh ⊢
  clear hWW
  have HBW := Lib.hid (hs3.bel HBW.out HGE1.out)
  have HQu0 := Lib.hid (HQu0.out.keep hs3 HX1.out (by decide) (by decide) (by decide))
  have HQu1 := Lib.hid (HQu1.out.keep hs3 HX1.out (by decide) (by decide) (by decide))
  have HQu2 := Lib.hid (HQu2.out.keep hs3 HX1.out (by decide) (by decide) (by decide))
  have HX1 := Lib.hid hh
  clear hs3 hh
  have k10 := cell_of_heap HX1.out 0
  have y10 := frozen_of_heap HX1.out 0
  have k11 := cell_of_heap HX1.out 1
  have y11 := frozen_of_heap HX1.out 1
  have k12 := cell_of_heap HX1.out 2
  have y12 := frozen_of_heap HX1.out 2
  simp only [List.getElem?_toArray, List.getElem?_cons_zero, List.getElem?_cons_succ] at k10 k11 k12
  go_wp2_with fail
  refine (reserve_lit HQu2.out O2.out R3.out).mono ?_
  rintro e W7 ⟨u3, rfl, hb, hq⟩
  clear y10 y11 y12 k10 k11 k12
  have HBW := Lib.hid (HBW.out.trans hb)
  have HX1 := Lib.hid (Bel.stays hb HX1.out)
  have HQu0 := Lib.hid (HQu0.out.bel hb)
  have HQu1 := Lib.hid (HQu1.out.bel hb)
  have HQu2 := Lib.hid (HQu2.out.bel hb)
  have HQu3 : Hid (MemAt 0 W7 u3 zero) := Lib.hid (hq.mono (Nat.zero_le _))
  clear hb hq
  have k10 := cell_of_heap HX1.out 0
  have y10 := frozen_of_heap HX1.out 0
  have k11 := cell_of_heap HX1.out 1
  have y11 := frozen_of_heap HX1.out 1
  have k12 := cell_of_heap HX1.out 2
  have y12 := frozen_of_heap HX1.out 2
  simp only [List.getElem?_toArray, List.getElem?_cons_zero, List.getElem?_cons_succ] at k10 k11 k12
  go_upto_region 5 with (fail)
  clear y10 y11 y12 k10 k11 k12
  have hnew : (W7.alloc (.cells #[.slice u3.w.p u3.w.n u3.w.c, .slice u3.p.p u3.p.n u3.p.c, .slice u3.r.p u3.r.n u3.r.c] 27)).heap[W7.heap.size]? = some (.cells #[.slice u3.w.p u3.w.n u3.w.c, .slice u3.p.p u3.p.n u3.p.c, .slice u3.r.p u3.r.n u3.r.c] 27 (0, 0)) := heap_alloc_new W7 _
  have hb : Bel W7 (W7.alloc (.cells #[.slice u3.w.p u3.w.n u3.w.c, .slice u3.p.p u3.p.n u3.p.c, .slice u3.r.p u3.r.n u3.r.c] 27)) := (Bel.refl W7).alloc _ _
  have hge : w.heap.size ≤ W7.heap.size := HBW.out.size
  have HN16 : Hid (g1 ≠ W7.heap.size) := Lib.hid (by have := lt_of_heap HX1.out; omega)
  generalize hWW : (W7.alloc (.cells #[.slice u3.w.p u3.w.n u3.w.c, .slice u3.p.p u3.p.n u3.p.c, .slice u3.r.p u3.r.n u3.r.c] 27)) = W8 at hnew hb ⊢
  clear hWW
  have HBW := Lib.hid (HBW.out.trans hb)
  have HX1 := Lib.hid (Bel.stays hb HX1.out)
  have HQu0 := Lib.hid (HQu0.out.bel hb)
  have HQu1 := Lib.hid (HQu1.out.bel hb)
  have HQu2 := Lib.hid (HQu2.out.bel hb)
  have HQu3 := Lib.hid (HQu3.out.bel hb)
  generalize W7.heap.size = g6 at hnew hge HN16 ⊢
  have HX6 := Lib.hid hnew
  have HGE6 := Lib.hid hge
  clear hnew hb hge
  have k10 := cell_of_heap HX1.out 0
  have y10 := frozen_of_heap HX1.out 0
  have k11 := cell_of_heap HX1.out 1
  have y11 := frozen_of_heap HX1.out 1
  have k12 := cell_of_heap HX1.out 2
  have y12 := frozen_of_heap HX1.out 2
  have k60 := cell_of_heap HX6.out 0
  have y60 := frozen_of_heap HX6.out 0
  have k61 := cell_of_heap HX6.out 1
  have y61 := frozen_of_heap HX6.out 1
  have k62 := cell_of_heap HX6.out 2
  have y62 := frozen_of_heap HX6.out 2
  simp only [List.getElem?_toArray, List.getElem?_cons_zero, List.getElem?_cons_succ] at k10 k11 k12 k60 k61 k62
  go_wp2_with fail
  refine (drain_lit HQu2.out O2.out R4.out).mono ?_
  rintro e W9 ⟨u4, rfl, hb, hq⟩
  clear y10 y11 y12 y60 y61 y62 k10 k11 k12 k60 k61 k62
  have HBW := Lib.hid (HBW.out.trans hb)
  have HX1 := Lib.hid (Bel.stays hb HX1.out)
  have HX6 := Lib.hid (Bel.stays hb HX6.out)
  have HQu0 := Lib.hid (HQu0.out.bel hb)
  have HQu1 := Lib.hid (HQu1.out.bel hb)
  have HQu2 := Lib.hid (HQu2.out.bel hb)
  have HQu3 := Lib.hid (HQu3.out.bel hb)
  have HQu4 : Hid (MemAt 0 W9 u4 (⟨[0, 1], [[(0, 1)], []], [-1, -1]⟩ : Mem)) := Lib.hid (hq.mono (Nat.zero_le _))
  clear hb hq
  have k10 := cell_of_heap HX1.out 0
  have y10 := frozen_of_heap HX1.out 0
  have k11 := cell_of_heap HX1.out 1
  have y11 := frozen_of_heap HX1.out 1
  have k12 := cell_of_heap HX1.out 2
  have y12 := frozen_of_heap HX1.out 2
  have k60 := cell_of_heap HX6.out 0
  have k61 := cell_of_heap HX6.out 1
  have k62 := cell_of_heap HX6.out 2
  simp only [List.getElem?_toArray, List.getElem?_cons_zero, List.getElem?_cons_succ] at k10 k11 k12 k60 k61 k62
  go_upto_region 6 with (fail)
  clear y10 y11 y12 k10 k11 k12 k60 k61 k62
  have hs3 : Svg g1 W9 (((W9.setCell ⟨g1, 0, none⟩ (.slice u4.w.p u4.w.n u4.w.c)).setCell ⟨g1, 1, none⟩ (.slice u4.p.p u4.p.n u4.p.c)).setCell ⟨g1, 2, none⟩ (.slice u4.r.p u4.r.n u4.r.c)) := set3_svg W9 g1 (.slice u4.w.p u4.w.n u4.w.c) (.slice u4.p.p u4.p.n u4.p.c) (.slice u4.r.p u4.r.n u4.r.c)
  have hh := set3_heap HX1.out (.slice u4.w.p u4.w.n u4.w.c) (.slice u4.p.p u4.p.n u4.p.c) (.slice u4.r.p u4.r.n u4.r.c)
  generalize hWW : (((W9.setCell ⟨g1, 0, none⟩ (.slice u4.w.p u4.w.n u4.w.c)).setCell ⟨g1, 1, none⟩ (.slice u4.p.p u4.p.n u4.p.c)).setCell ⟨g1, 2, none⟩ (.slice u4.r.p u4.r.n u4.r.c)) = W10 at hs3 hh ⊢
  clear hWW
  have HBW := Lib.hid (hs3.bel HBW.out HGE1.out)
  have HX6 := Lib.hid ((hs3.block _ (lt_of_heap HX6.out) HN16.out.symm).trans HX6.out)
  have HQu0 := Lib.hid (HQu0.out.keep hs3 HX1.out (by decide) (by decide) (by decide))
  have HQu1 := Lib.hid (HQu1.out.keep hs3 HX1.out (by decide) (by decide) (by decide))
  have HQu2 := Lib.hid (HQu2.out.keep hs3 HX1.out (by decide) (by decide) (by decide))
  have HQu3 := Lib.hid (HQu3.out.keep hs3 HX1.out (by decide) (by decide) (by decide))
  have HQu4 := Lib.hid (HQu4.out.keep hs3 HX1.out (by decide) (by decide) (by decide))
  have HX1 := Lib.hid hh
  clear hs3 hh
  have k10 := cell_of_heap HX1.out 0
  have y10 := frozen_of_heap HX1.out 0
  have k11 := cell_of_heap HX1.out 1
  have y11 := frozen_of_heap HX1.out 1
  have k12 := cell_of_heap HX1.out 2
  have y12 := frozen_of_heap HX1.out 2
  have k60 := cell_of_heap HX6.out 0
  have k61 := cell_of_heap HX6.out 1
  have k62 := cell_of_heap HX6.out 2
  simp only [List.getElem?_toArray, List.getElem?_cons_zero, List.getElem?_cons_succ] at k10 k11 k12 k60 k61 k62
  go_wp2_with fail
  refine (load_lit HQu4.out O3.out R5.out).mono ?_
  rintro e W11 ⟨rfl, hb⟩
  clear y10 y11 y12 k10 k11 k12 k60 k61 k62
  have HBW := Lib.hid (HBW.out.trans hb)
  have HX1 := Lib.hid (Bel.stays hb HX1.out)
  have HX6 := Lib.hid (Bel.stays hb HX6.out)
  have HQu0 := Lib.hid (HQu0.out.bel hb)
  have HQu1 := Lib.hid (HQu1.out.bel hb)
  have HQu2 := Lib.hid (HQu2.out.bel hb)
  have HQu3 := Lib.hid (HQu3.out.bel hb)
  have HQu4 := Lib.hid (HQu4.out.bel hb)
  clear hb
  have k10 := cell_of_heap HX1.out 0
  have k11 := cell_of_heap HX1.out 1
  have k12 := cell_of_heap HX1.out 2
  have k60 := cell_of_heap HX6.out 0
  have k61 := cell_of_heap HX6.out 1
  have k62 := cell_of_heap HX6.out 2
  simp only [List.getElem?_toArray, List.getElem?_cons_zero, List.getElem?_cons_succ] at k10 k11 k12 k60 k61 k62
  go_wp2_with fail
  refine (load_lit HQu4.out O3.out R6.out).mono ?_
  rintro e W12 ⟨rfl, hb⟩
  clear k10 k11 k12 k60 k61 k62
  have HBW := Lib.hid (HBW.out.trans hb)
  have HX1 := Lib.hid (Bel.stays hb HX1.out)
  have HX6 := Lib.hid (Bel.stays hb HX6.out)
  have HQu0 := Lib.hid (HQu0.out.bel hb)
  have HQu1 := Lib.hid (HQu1.out.bel hb)
  have HQu2 := Lib.hid (HQu2.out.bel hb)
  have HQu3 := Lib.hid (HQu3.out.bel hb)
  have HQu4 := Lib.hid (HQu4.out.bel hb)
  clear hb
  have k10 := cell_of_heap HX1.out 0
  have k11 := cell_of_heap HX1.out 1
  have k12 := cell_of_heap HX1.out 2
  have k60 := cell_of_heap HX6.out 0
  have k61 := cell_of_heap HX6.out 1
  have k62 := cell_of_heap HX6.out 2
  simp only [List.getElem?_toArray, List.getElem?_cons_zero, List.getElem?_cons_succ] at k10 k11 k12 k60 k61 k62
  go_wp2_with fail
  refine (load_lit HQu4.out O3.out R7.out).mono ?_
  rintro e W13 ⟨rfl, hb⟩
  clear k10 k11 k12 k60 k61 k62
  have HBW := Lib.hid (HBW.out.trans hb)
  have HX1 := Lib.hid (Bel.stays hb HX1.out)
  have HX6 := Lib.hid (Bel.stays hb HX6.out)
  have HQu0 := Lib.hid (HQu0.out.bel hb)
  have HQu1 := Lib.hid (HQu1.out.bel hb)
  have HQu2 := Lib.hid (HQu2.out.bel hb)
  have HQu3 := Lib.hid (HQu3.out.bel hb)
  have HQu4 := Lib.hid (HQu4.out.bel hb)
  clear hb
  have k10 := cell_of_heap HX1.out 0
  have k11 := cell_of_heap HX1.out 1
  have k12 := cell_of_heap HX1.out 2
  have k60 := cell_of_heap HX6.out 0
  have k61 := cell_of_heap HX6.out 1
  have k62 := cell_of_heap HX6.out 2
  simp only [List.getElem?_toArray, List.getElem?_cons_zero, List.getElem?_cons_succ] at k10 k11 k12 k60 k61 k62
  go_wp2_with fail
  refine (reserve_lit HQu4.out O3.out R8.out).mono ?_
  rintro e W14 ⟨u5, rfl, hb, hq⟩
  clear k10 k11 k12 k60 k61 k62
  have HBW := Lib.hid (HBW.out.trans hb)
  have HX1 := Lib.hid (Bel.stays hb HX1.out)
  have HX6 := Lib.hid (Bel.stays hb HX6.out)
  have HQu0 := Lib.hid (HQu0.out.bel hb)
  have HQu1 := Lib.hid (HQu1.out.bel hb)
  have HQu2 := Lib.hid (HQu2.out.bel hb)
  have HQu3 := Lib.hid (HQu3.out.bel hb)
  have HQu4 := Lib.hid (HQu4.out.bel hb)
  have HQu5 : Hid (MemAt 0 W14 u5 (⟨[0, 1], [[(0, 1)], []], [-1, 1]⟩ : Mem)) := Lib.hid (hq.mono (Nat.zero_le _))
  clear hb hq
  have k10 := cell_of_heap HX1.out 0
  have k11 := cell_of_heap HX1.out 1
  have k12 := cell_of_heap HX1.out 2
  have k60 := cell_of_heap HX6.out 0
  have k61 := cell_of_heap HX6.out 1
  have k62 := cell_of_heap HX6.out 2
  simp only [List.getElem?_toArray, List.getElem?_cons_zero, List.getElem?_cons_succ] at k10 k11 k12 k60 k61 k62
  go_upto_region 10 with (fail)
  clear k10 k11 k12 k60 k61 k62
  have hnew : (W14.alloc (.cells #[.slice u5.w.p u5.w.n u5.w.c, .slice u5.p.p u5.p.n u5.p.c, .slice u5.r.p u5.r.n u5.r.c] 27)).heap[W14.heap.size]? = some (.cells #[.slice u5.w.p u5.w.n u5.w.c, .slice u5.p.p u5.p.n u5.p.c, .slice u5.r.p u5.r.n u5.r.c] 27 (0, 0)) := heap_alloc_new W14 _
  have hb : Bel W14 (W14.alloc (.cells #[.slice u5.w.p u5.w.n u5.w.c, .slice u5.p.p u5.p.n u5.p.c, .slice u5.r.p u5.r.n u5.r.c] 27)) := (Bel.refl W14).alloc _ _
  have hge : w.heap.size ≤ W14.heap.size := HBW.out.size
  have HN116 : Hid (g1 ≠ W14.heap.size) := Lib.hid (by have := lt_of_heap HX1.out; omega)
  have HN616 : Hid (g6 ≠ W14.heap.size) := Lib.hid (by have := lt_of_heap HX6.out; omega)
  generalize hWW : (W14.alloc (.cells #[.slice u5.w.p u5.w.n u5.w.c, .slice u5.p.p u5.p.n u5.p.c, .slice u5.r.p u5.r.n u5.r.c] 27)) = W15 at hnew hb ⊢
  clear hWW
  have HBW := Lib.hid (HBW.out.trans hb)
  have HX1 := Lib.hid (Bel.stays hb HX1.out)
  have HX6 := Lib.hid (Bel.stays hb HX6.out)
  have HQu0 := Lib.hid (HQu0.out.bel hb)
  have HQu1 := Lib.hid (HQu1.out.bel hb)
  have HQu2 := Lib.hid (HQu2.out.bel hb)
  have HQu3 := Lib.hid (HQu3.out.bel hb)
  have HQu4 := Lib.hid (HQu4.out.bel hb)
  have HQu5 := Lib.hid (HQu5.out.bel hb)
  generalize W14.heap.size = g16 at hnew hge HN116 HN616 ⊢
  have HX16 := Lib.hid hnew
  have HGE16 := Lib.hid hge
  clear hnew hb hge
  have k10 := cell_of_heap HX1.out 0
  have k11 := cell_of_heap HX1.out 1
  have k12 := cell_of_heap HX1.out 2
  have k60 := cell_of_heap HX6.out 0
  have k61 := cell_of_heap HX6.out 1
  have k62 := cell_of_heap HX6.out 2
  have k160 := cell_of_heap HX16.out 0
  have k161 := cell_of_heap HX16.out 1
  have k162 := cell_of_heap HX16.out 2
  simp only [List.getElem?_toArray, List.getElem?_cons_zero, List.getElem?_cons_succ] at k10 k11 k12 k60 k61 k62 k160 k161 k162
  go_wp2_with fail
  refine (cond_lit HQu5.out O4.out R9.out).mono ?_
  rintro e W16 ⟨u6, rfl, hb, hq⟩
  clear k10 k11 k12 k60 k61 k62 k160 k161 k162
  have HBW := Lib.hid (HBW.out.trans hb)
  have HX1 := Lib.hid (Bel.stays hb HX1.out)
  have HX6 := Lib.hid (Bel.stays hb HX6.out)
  have HX16 := Lib.hid (Bel.stays hb HX16.out)
  have HQu0 := Lib.hid (HQu0.out.bel hb)
  have HQu1 := Lib.hid (HQu1.out.bel hb)
  have HQu2 := Lib.hid (HQu2.out.bel hb)
  have HQu3 := Lib.hid (HQu3.out.bel hb)
  have HQu4 := Lib.hid (HQu4.out.bel hb)
  have HQu5 := Lib.hid (HQu5.out.bel hb)
  have HQu6 : Hid (MemAt 0 W16 u6 (⟨[0, 5], [[(0, 1)], []], [-1, -1]⟩ : Mem)) := Lib.hid (hq.mono (Nat.zero_le _))
  clear hb hq
  have k10 := cell_of_heap HX1.out 0
  have k11 := cell_of_heap HX1.out 1
  have k12 := cell_of_heap HX1.out 2
  have k60 := cell_of_heap HX6.out 0
  have k61 := cell_of_heap HX6.out 1
  have k62 := cell_of_heap HX6.out 2
  have k160 := cell_of_heap HX16.out 0
  have k161 := cell_of_heap HX16.out 1
  have k162 := cell_of_heap HX16.out 2
  simp only [List.getElem?_toArray, List.getElem?_cons_zero, List.getElem?_cons_succ] at k10 k11 k12 k60 k61 k62 k160 k161 k162
  have n3 : ((u3.w.n : Int) == 0) = true := by rw [HQu3.out.wn]; rfl
  have n4 : ((u4.w.n : Int) == 2) = true := by rw [HQu4.out.wn]; rfl
  have hbx : Bel W16 (W16.alloc (.cells #[.slice u6.w.p u6.w.n u6.w.c, .slice u6.p.p u6.p.n u6.p.c, .slice u6.r.p u6.r.n u6.r.c] 27)) := (Bel.refl W16).alloc _ _
  have j1_0 := cell_of_heap (hbx.stays HX1.out) 0
  have j1_1 := cell_of_heap (hbx.stays HX1.out) 1
  have j1_2 := cell_of_heap (hbx.stays HX1.out) 2
  have j6_0 := cell_of_heap (hbx.stays HX6.out) 0
  have j6_1 := cell_of_heap (hbx.stays HX6.out) 1
  have j6_2 := cell_of_heap (hbx.stays HX6.out) 2
  have j16_0 := cell_of_heap (hbx.stays HX16.out) 0
  have j16_1 := cell_of_heap (hbx.stays HX16.out) 1
  have j16_2 := cell_of_heap (hbx.stays HX16.out) 2
  simp only [List.getElem?_toArray, List.getElem?_cons_zero, List.getElem?_cons_succ] at j1_0 j1_1 j1_2 j6_0 j6_1 j6_2 j16_0 j16_1 j16_2
  have HBX := Lib.hid hbx
  clear hbx
  go_wp2_with (first | (go_at_call 8; ((with_reducible refine (same_lit S1.out (HQu4.out.bel HBX.out) (HQu4.out.bel HBX.out) O3.out).mono ?_); rintro e wz ⟨rfl, hb⟩; have HBW := Lib.hid ((HBW.out.trans HBX.out).trans hb); have HX1 := Lib.hid (hb.stays (HBX.out.stays HX1.out)); have HX16 := Lib.hid (hb.stays (HBX.out.stays HX16.out)); have HQu4 := Lib.hid ((HQu4.out.bel HBX.out).bel hb); have HQu5 := Lib.hid ((HQu5.out.bel HBX.out).bel hb); have k10 := cell_of_heap HX1.out 0; have k11 := cell_of_heap HX1.out 1; have k12 := cell_of_heap HX1.out 2; have k160 := cell_of_heap HX16.out 0; have k161 := cell_of_heap HX16.out 1; have k162 := cell_of_heap HX16.out 2; simp only [List.getElem?_toArray, List.getElem?_cons_zero, List.getElem?_cons_succ] at k10 k11 k12 k160 k161 k162; clear hb)) | (go_at_call 8; ((with_reducible refine (same_lit S2.out HQu4.out HQu5.out O3.out).mono ?_); rintro e wz ⟨rfl, hb⟩; have HBW := Lib.hid (HBW.out.trans hb); have HX1 := Lib.hid (hb.stays HX1.out); have HX16 := Lib.hid (hb.stays HX16.out); have HQu4 := Lib.hid (HQu4.out.bel hb); have HQu5 := Lib.hid (HQu5.out.bel hb); have k10 := cell_of_heap HX1.out 0; have k11 := cell_of_heap HX1.out 1; have k12 := cell_of_heap HX1.out 2; have k160 := cell_of_heap HX16.out 0; have k161 := cell_of_heap HX16.out 1; have k162 := cell_of_heap HX16.out 2; simp only [List.getElem?_toArray, List.getElem?_cons_zero, List.getElem?_cons_succ] at k10 k11 k12 k160 k161 k162; clear hb)))
  go_ret
  exact ⟨rfl, HBW.out⟩
end Go.Proofs.Ytobpoghophhphaa
