/- The document's own answer for layer 5: the token of a run of letters and digits. -/
import Derived.Test.YtgameoiofikhmaaDoorTRefD
namespace Go.Proofs.YtgameoiofikhmaaDoor
open Go.RowKit Tk
set_option linter.unusedVariables false
theorem results_one {W : World} {g : Nat} {y0 y1 y2 y3 : Value} {tmps : Array Value} (hp : tmps.getD 2 undef = .pointer (some ⟨g, 0, none⟩))
    (c0 : W.cell? ⟨g, 0, none⟩ = some y0) (c1 : W.cell? ⟨g, 1, none⟩ = some y1) (c2 : W.cell? ⟨g, 2, none⟩ = some y2) (c3 : W.cell? ⟨g, 3, none⟩ = some y3)
    (h0 : y0.cells = #[y0]) (h1 : y1.cells = #[y1]) (h2 : y2.cells = #[y2]) (h3 : y3.cells = #[y3]) :
    (results Tryd.f35 tmps).run Tryd.prog W = .ok (.agg #[y0, y1, y2, y3]) W := by
  have hp' : tmps[2]?.getD undef = .pointer (some ⟨g, 0, none⟩) := by simpa using hp
  simp [results, Tryd.results35, go_sem, hp', c0, c1, c2, c3]
theorem end_one {w W1 : World} {x0 x1 x2 x3 y0 y1 y2 y3 : Value} {tmps : Array Value} {Q : Ending → World → Prop} (hp : tmps.getD 2 undef = .pointer (some ⟨w.heap.size, 0, none⟩))
    (c0 : W1.cell? ⟨w.heap.size, 0, none⟩ = some x0) (c1 : W1.cell? ⟨w.heap.size, 1, none⟩ = some x1) (c2 : W1.cell? ⟨w.heap.size, 2, none⟩ = some x2) (c3 : W1.cell? ⟨w.heap.size, 3, none⟩ = some x3)
    (h0 : y0.cells = #[y0]) (h1 : y1.cells = #[y1]) (h2 : y2.cells = #[y2]) (h3 : y3.cells = #[y3])
    (hQ : Q (.returned (.agg #[y0, y1, y2, y3])) ((((W1.setCell ⟨w.heap.size, 0, none⟩ y0).setCell ⟨w.heap.size, 1, none⟩ y1).setCell ⟨w.heap.size, 2, none⟩ y2).setCell ⟨w.heap.size, 3, none⟩ y3)) :
    bodyPost Tryd.prog Tryd.f35 Q Exit.ret { tmps := tmps, defers := [] } ((((W1.setCell ⟨w.heap.size, 0, none⟩ y0).setCell ⟨w.heap.size, 1, none⟩ y1).setCell ⟨w.heap.size, 2, none⟩ y2).setCell ⟨w.heap.size, 3, none⟩ y3) := by
  obtain ⟨g0, g1, g2, g3⟩ := four_set (y0 := y0) (y1 := y1) (y2 := y2) (y3 := y3) c0 c1 c2 c3
  exact bodyPost_ret (results_one hp g0 g1 g2 g3 h0 h1 h2 h3) rfl hQ
set_option maxHeartbeats 4000000 in
theorem rone_word {s : ByteArray} (hw : isWord s.data.toList = true) (hs : s.size ≤ 20000) (w : World) :
    Calls Tryd.prog 35 #[.string s] w fun e w' => e = .returned (.agg #[.int .i64 2, .string s, .int .i64 0, .int .i64 0]) ∧ Bel w w' := by
  have hm : s.size ≤ maxLen := by unfold maxLen; omega
  have HW := Lib.hid hw
  clear hw
  go_enter Tryd.func35, Tryd.ntmps35
  go_wp2_with fail
  refine (rword_lit HW.out _).mono ?_
  rintro e W1 ⟨rfl, hb1⟩
  have hh1 : W1.heap[w.heap.size]? = some (.cells #[.int .i64 0, .string ⟨#[]⟩, .int .i64 0, .int .i64 0] 41 (0, 0)) := (hb1.block _ (by simp)).trans (heap_alloc_new _ _)
  have HB := Lib.hid (((Bel.refl w).alloc _ _).trans hb1)
  clear hb1
  have hz : w.heap.size < W1.heap.size := lt_of_heap hh1
  have c0 := cell_of_heap hh1 0
  have c1 := cell_of_heap hh1 1
  have c2 := cell_of_heap hh1 2
  have c3 := cell_of_heap hh1 3
  have f0 := frozen_of_heap hh1 0
  have f1 := frozen_of_heap hh1 1
  have f2 := frozen_of_heap hh1 2
  have f3 := frozen_of_heap hh1 3
  simp only [List.getElem?_toArray, List.getElem?_cons_zero, List.getElem?_cons_succ] at c0 c1 c2 c3
  clear hh1
  go_wp2
  refine end_one rfl c0 c1 c2 c3 rfl rfl rfl rfl ⟨rfl, ?_⟩
  exact (((HB.out.setCell (Nat.le_refl _) _).setCell (Nat.le_refl _) _).setCell (Nat.le_refl _) _).setCell (Nat.le_refl _) _
set_option maxHeartbeats 4000000 in
theorem rone_name {s : ByteArray} (hw : isWord s.data.toList = false) (hx : isName s.data.toList = true) (hs : s.size ≤ 20000) (w : World) :
    Calls Tryd.prog 35 #[.string s] w fun e w' => e = .returned (.agg #[.int .i64 1, .string s, .int .i64 0, .int .i64 0]) ∧ Bel w w' := by
  have hm : s.size ≤ maxLen := by unfold maxLen; omega
  have HW := Lib.hid hw
  have HM := Lib.hid hx
  clear hw hx
  go_enter Tryd.func35, Tryd.ntmps35
  go_wp2_with fail
  refine (rword_lit HW.out _).mono ?_
  rintro e W1 ⟨rfl, hb1⟩
  have hh1 : W1.heap[w.heap.size]? = some (.cells #[.int .i64 0, .string ⟨#[]⟩, .int .i64 0, .int .i64 0] 41 (0, 0)) := (hb1.block _ (by simp)).trans (heap_alloc_new _ _)
  have HB := Lib.hid (((Bel.refl w).alloc _ _).trans hb1)
  clear hb1
  have HH := Lib.hid hh1
  have hz1 := lt_of_heap hh1
  clear hh1
  go_wp2_with fail
  refine (rname_lit HM.out hm _).mono ?_
  rintro e W2 ⟨rfl, hb2⟩
  have hh2 : W2.heap[w.heap.size]? = some (.cells #[.int .i64 0, .string ⟨#[]⟩, .int .i64 0, .int .i64 0] 41 (0, 0)) := (hb2.block _ hz1).trans HH.out
  have HB2 := Lib.hid (HB.out.trans hb2)
  clear hb2 hz1 HB HH
  have hz : w.heap.size < W2.heap.size := lt_of_heap hh2
  have c0 := cell_of_heap hh2 0
  have c1 := cell_of_heap hh2 1
  have c2 := cell_of_heap hh2 2
  have c3 := cell_of_heap hh2 3
  have f0 := frozen_of_heap hh2 0
  have f1 := frozen_of_heap hh2 1
  have f2 := frozen_of_heap hh2 2
  have f3 := frozen_of_heap hh2 3
  simp only [List.getElem?_toArray, List.getElem?_cons_zero, List.getElem?_cons_succ] at c0 c1 c2 c3
  clear hh2
  go_wp2
  refine end_one rfl c0 c1 c2 c3 rfl rfl rfl rfl ⟨rfl, ?_⟩
  exact (((HB2.out.setCell (Nat.le_refl _) _).setCell (Nat.le_refl _) _).setCell (Nat.le_refl _) _).setCell (Nat.le_refl _) _
set_option maxHeartbeats 4000000 in
theorem rone_num {s : ByteArray} {n : Nat} (hw : isWord s.data.toList = false) (hx : isName s.data.toList = false) (hn : numIs s.data.toList n true) (hs : s.size ≤ 20000) (w : World) :
    Calls Tryd.prog 35 #[.string s] w fun e w' => e = .returned (.agg #[.int .i64 3, .string s, .int .i64 n, .int .i64 0]) ∧ Bel w w' := by
  have hm : s.size ≤ maxLen := by unfold maxLen; omega
  have HW := Lib.hid hw
  have HM := Lib.hid hx
  have HN := Lib.hid hn
  clear hw hx hn
  go_enter Tryd.func35, Tryd.ntmps35
  go_wp2_with fail
  refine (rword_lit HW.out _).mono ?_
  rintro e W1 ⟨rfl, hb1⟩
  have hh1 : W1.heap[w.heap.size]? = some (.cells #[.int .i64 0, .string ⟨#[]⟩, .int .i64 0, .int .i64 0] 41 (0, 0)) := (hb1.block _ (by simp)).trans (heap_alloc_new _ _)
  have HB := Lib.hid (((Bel.refl w).alloc _ _).trans hb1)
  clear hb1
  have HH := Lib.hid hh1
  have hz1 := lt_of_heap hh1
  clear hh1
  go_wp2_with fail
  refine (rname_lit HM.out hm _).mono ?_
  rintro e W2 ⟨rfl, hb2⟩
  have hh2 : W2.heap[w.heap.size]? = some (.cells #[.int .i64 0, .string ⟨#[]⟩, .int .i64 0, .int .i64 0] 41 (0, 0)) := (hb2.block _ hz1).trans HH.out
  have HB2 := Lib.hid (HB.out.trans hb2)
  clear hb2 hz1 HB HH
  have hz : w.heap.size < W2.heap.size := lt_of_heap hh2
  have c0 := cell_of_heap hh2 0
  have c1 := cell_of_heap hh2 1
  have c2 := cell_of_heap hh2 2
  have c3 := cell_of_heap hh2 3
  have f0 := frozen_of_heap hh2 0
  have f1 := frozen_of_heap hh2 1
  have f2 := frozen_of_heap hh2 2
  have f3 := frozen_of_heap hh2 3
  simp only [List.getElem?_toArray, List.getElem?_cons_zero, List.getElem?_cons_succ] at c0 c1 c2 c3
  clear hh2
  go_wp2_with (go_at_call 22; ((with_reducible refine (rnumber_lit HN.out hm _).mono ?_); rintro e w' ⟨rfl, rfl⟩))
  refine end_one rfl c0 c1 c2 c3 rfl rfl rfl rfl ⟨rfl, ?_⟩
  exact (((HB2.out.setCell (Nat.le_refl _) _).setCell (Nat.le_refl _) _).setCell (Nat.le_refl _) _).setCell (Nat.le_refl _) _
set_option maxHeartbeats 4000000 in
theorem rone_none {s : ByteArray} {n : Nat} (hw : isWord s.data.toList = false) (hx : isName s.data.toList = false) (hn : numIs s.data.toList n false) (hs : s.size ≤ 20000) (w : World) :
    Calls Tryd.prog 35 #[.string s] w fun e w' => e = .returned (.agg #[.int .i64 0, .string ⟨#[]⟩, .int .i64 0, .int .i64 0]) ∧ Bel w w' := by
  have hm : s.size ≤ maxLen := by unfold maxLen; omega
  have HW := Lib.hid hw
  have HM := Lib.hid hx
  have HN := Lib.hid hn
  clear hw hx hn
  go_enter Tryd.func35, Tryd.ntmps35
  go_wp2_with fail
  refine (rword_lit HW.out _).mono ?_
  rintro e W1 ⟨rfl, hb1⟩
  have hh1 : W1.heap[w.heap.size]? = some (.cells #[.int .i64 0, .string ⟨#[]⟩, .int .i64 0, .int .i64 0] 41 (0, 0)) := (hb1.block _ (by simp)).trans (heap_alloc_new _ _)
  have HB := Lib.hid (((Bel.refl w).alloc _ _).trans hb1)
  clear hb1
  have HH := Lib.hid hh1
  have hz1 := lt_of_heap hh1
  clear hh1
  go_wp2_with fail
  refine (rname_lit HM.out hm _).mono ?_
  rintro e W2 ⟨rfl, hb2⟩
  have hh2 : W2.heap[w.heap.size]? = some (.cells #[.int .i64 0, .string ⟨#[]⟩, .int .i64 0, .int .i64 0] 41 (0, 0)) := (hb2.block _ hz1).trans HH.out
  have HB2 := Lib.hid (HB.out.trans hb2)
  clear hb2 hz1 HB HH
  have hz : w.heap.size < W2.heap.size := lt_of_heap hh2
  have c0 := cell_of_heap hh2 0
  have c1 := cell_of_heap hh2 1
  have c2 := cell_of_heap hh2 2
  have c3 := cell_of_heap hh2 3
  have f0 := frozen_of_heap hh2 0
  have f1 := frozen_of_heap hh2 1
  have f2 := frozen_of_heap hh2 2
  have f3 := frozen_of_heap hh2 3
  simp only [List.getElem?_toArray, List.getElem?_cons_zero, List.getElem?_cons_succ] at c0 c1 c2 c3
  clear hh2
  go_wp2_with (go_at_call 22; ((with_reducible refine (rnumber_lit HN.out hm _).mono ?_); rintro e w' ⟨rfl, rfl⟩))
  refine end_one rfl c0 c1 c2 c3 rfl rfl rfl rfl ⟨rfl, ?_⟩
  exact (((HB2.out.setCell (Nat.le_refl _) _).setCell (Nat.le_refl _) _).setCell (Nat.le_refl _) _).setCell (Nat.le_refl _) _
theorem rone_yes {s : ByteArray} {k m : Int} (h : ofRun s.data.toList = some (k, m)) (hs : s.size ≤ 20000) (w : World) :
    Calls Tryd.prog 35 #[.string s] w fun e w' => e = .returned (.agg #[.int .i64 k, .string s, .int .i64 m, .int .i64 0]) ∧ Bel w w' := by
  unfold ofRun at h
  cases hw : isWord s.data.toList with
  | true =>
    rw [if_pos hw, Option.some.injEq, Prod.mk.injEq] at h
    obtain ⟨rfl, rfl⟩ := h
    exact rone_word hw hs w
  | false =>
    rw [if_neg (by rw [hw]; exact Bool.false_ne_true)] at h
    cases hx : isName s.data.toList with
    | true =>
      rw [if_pos hx, Option.some.injEq, Prod.mk.injEq] at h
      obtain ⟨rfl, rfl⟩ := h
      exact rone_name hw hx hs w
    | false =>
      rw [if_neg (by rw [hx]; exact Bool.false_ne_true)] at h
      cases hn : number s.data.toList with
      | none => rw [hn] at h; cases h
      | some n =>
        rw [hn] at h
        simp only [Option.some.injEq, Prod.mk.injEq] at h
        obtain ⟨rfl, rfl⟩ := h
        exact rone_num hw hx ⟨by rw [hn]; rfl, by rw [hn]; rfl⟩ hs w
theorem rone_no {s : ByteArray} (h : ofRun s.data.toList = none) (hs : s.size ≤ 20000) (w : World) :
    Calls Tryd.prog 35 #[.string s] w fun e w' => e = .returned (.agg #[.int .i64 0, .string ⟨#[]⟩, .int .i64 0, .int .i64 0]) ∧ Bel w w' := by
  unfold ofRun at h
  cases hw : isWord s.data.toList with
  | true => rw [if_pos hw] at h; cases h
  | false =>
    rw [if_neg (by rw [hw]; exact Bool.false_ne_true)] at h
    cases hx : isName s.data.toList with
    | true => rw [if_pos hx] at h; cases h
    | false =>
      rw [if_neg (by rw [hx]; exact Bool.false_ne_true)] at h
      cases hn : number s.data.toList with
      | none => exact rone_none (n := 0) hw hx ⟨by rw [hn]; rfl, by rw [hn]; rfl⟩ hs w
      | some n => rw [hn] at h; cases h
end Go.Proofs.YtgameoiofikhmaaDoor
