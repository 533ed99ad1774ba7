/- Package axiom's isEvent, Right$1. -/
import Derived.Test.YtigefdoejcggpaaNFn1
import Derived.IntWalk
namespace Go.Proofs.Ytigefdoejcggpaa
open Go.RowKit Ax
set_option linter.unusedVariables false
set_option linter.unusedSimpArgs false
theorem w32_range (n : Int) : (n == wrap32 n) = (decide (-2147483648 ≤ n) && decide (n < 2147483648)) := by
  rw [Bool.eq_iff_iff]
  simp only [beq_iff_eq, Bool.and_eq_true, decide_eq_true_eq]
  unfold wrap32
  omega
theorem w64_w32 (n : Int) : wrap64 (wrap32 n) = wrap32 n := by unfold wrap32 wrap64; omega
set_option maxRecDepth 100000 in
theorem isEv_lit {h k a n : Int} {r : Bool} (hr : isEv (h, k, a, n) = r) (w : World) : Calls Try.prog 37 #[.agg #[.int .i64 h, .int .i64 k, .int .i64 a, .int .i64 n]] w (OneB r w) := by
  have hb := (box1 w #[.int .i64 h, .int .i64 k, .int .i64 a, .int .i64 n] 26).1
  have HB := Lib.hid hb
  clear hb
  unfold isEv at hr
  simp only at hr
  by_cases h0 : h < 0
  · obtain rfl : r = false := by rw [← hr, decide_eq_false (by omega : ¬ (0 : Int) ≤ h)]; rfl
    clear hr
    go_enter Try.func37, Try.ntmps37
    go_wp2
    go_ret
    exact ⟨rfl, HB.out⟩
  by_cases h4 : 4 ≤ h
  · obtain rfl : r = false := by rw [← hr, decide_eq_false (by omega : ¬ h < 4)]; simp
    clear hr
    go_enter Try.func37, Try.ntmps37
    go_wp2
    go_ret
    exact ⟨rfl, HB.out⟩
  rw [decide_eq_true (by omega : (0 : Int) ≤ h), decide_eq_true (by omega : h < 4), Bool.and_self, Bool.true_and] at hr
  by_cases h3 : k = 3
  · rw [if_pos h3] at hr
    have e3 : (k == 3) = true := by simp [h3]
    clear h3
    by_cases ha : a = 0
    · obtain ⟨s, hs⟩ : ∃ s, decide (n = 0) = s := ⟨_, rfl⟩
      obtain rfl : s = r := by rw [← hr, ← hs]; simp [ha]
      have ea : (a == 0) = true := by simp [ha]
      have en : (n == 0) = s := by rw [← hs]; by_cases h : n = 0 <;> simp [h]
      clear hr hs ha
      go_enter Try.func37, Try.ntmps37
      go_wp2
      go_ret
      exact ⟨rfl, HB.out⟩
    · obtain rfl : r = false := by rw [← hr]; simp [ha]
      have ea : (a == 0) = false := by simp [ha]
      clear hr ha
      go_enter Try.func37, Try.ntmps37
      go_wp2
      go_ret
      exact ⟨rfl, HB.out⟩
  rw [if_neg h3] at hr
  have e3 : (k == 3) = false := by simp [h3]
  clear h3
  obtain ⟨u, hu⟩ : ∃ u, isAcc (h, k, a, n) = u := ⟨_, rfl⟩
  rw [hu] at hr
  have HA := Lib.hid hu
  have hx := (box1 w #[.int .i64 h, .int .i64 k, .int .i64 a, .int .i64 n] 26).2
  have HLT : Hid (w.heap.size < (w.alloc (.cells #[.int .i64 h, .int .i64 k, .int .i64 a, .int .i64 n] 26)).heap.size) := Lib.hid (by rw [World.size_alloc]; omega)
  have HK2 := Lib.hid (cell_of_heap hx 2)
  have HK3 := Lib.hid (cell_of_heap hx 3)
  simp only [List.getElem?_toArray, List.getElem?_cons_zero, List.getElem?_cons_succ] at HK2 HK3
  clear hu hx
  cases u
  · obtain rfl : r = false := by rw [← hr]; simp
    clear hr
    go_enter Try.func37, Try.ntmps37
    go_wp2_with (go_at_call 42; ((with_reducible refine (isAcc_lit HA.out _).mono ?_); rintro e w2 ⟨rfl, hb2⟩; have k2 := (hb2.cell (p := ⟨w.heap.size, 2, none⟩) HLT.out).trans HK2.out; have k3 := (hb2.cell (p := ⟨w.heap.size, 3, none⟩) HLT.out).trans HK3.out; have HBZ := Lib.hid hb2; clear hb2))
    go_ret
    exact ⟨rfl, HB.out.trans HBZ.out⟩
  by_cases a0 : a < 0
  · obtain rfl : r = false := by rw [← hr, decide_eq_false (by omega : ¬ (0 : Int) ≤ a)]; rfl
    clear hr
    go_enter Try.func37, Try.ntmps37
    go_wp2_with (go_at_call 42; ((with_reducible refine (isAcc_lit HA.out _).mono ?_); rintro e w2 ⟨rfl, hb2⟩; have k2 := (hb2.cell (p := ⟨w.heap.size, 2, none⟩) HLT.out).trans HK2.out; have k3 := (hb2.cell (p := ⟨w.heap.size, 3, none⟩) HLT.out).trans HK3.out; have HBZ := Lib.hid hb2; clear hb2))
    go_ret
    exact ⟨rfl, HB.out.trans HBZ.out⟩
  by_cases a4 : 4 ≤ a
  · obtain rfl : r = false := by rw [← hr, decide_eq_false (by omega : ¬ a < 4)]; simp
    clear hr
    go_enter Try.func37, Try.ntmps37
    go_wp2_with (go_at_call 42; ((with_reducible refine (isAcc_lit HA.out _).mono ?_); rintro e w2 ⟨rfl, hb2⟩; have k2 := (hb2.cell (p := ⟨w.heap.size, 2, none⟩) HLT.out).trans HK2.out; have k3 := (hb2.cell (p := ⟨w.heap.size, 3, none⟩) HLT.out).trans HK3.out; have HBZ := Lib.hid hb2; clear hb2))
    go_ret
    exact ⟨rfl, HB.out.trans HBZ.out⟩
  rw [decide_eq_true (by omega : (0 : Int) ≤ a), decide_eq_true (by omega : a < 4), Bool.and_self, Bool.true_and, Bool.true_and, ← w32_range] at hr
  go_enter Try.func37, Try.ntmps37
  go_wp2_with (go_at_call 42; ((with_reducible refine (isAcc_lit HA.out _).mono ?_); rintro e w2 ⟨rfl, hb2⟩; have k2 := (hb2.cell (p := ⟨w.heap.size, 2, none⟩) HLT.out).trans HK2.out; have k3 := (hb2.cell (p := ⟨w.heap.size, 3, none⟩) HLT.out).trans HK3.out; have HBZ := Lib.hid hb2; clear hb2))
  go_ret
  exact ⟨rb (by rw [w64_w32]; exact hr), HB.out.trans HBZ.out⟩
end Go.Proofs.Ytigefdoejcggpaa
