/- The token that a run of letters and digits is, as package token tells it. -/
import Derived.Test.YtgameoiofikhmaaDoorTClone
namespace Go.Proofs.YtgameoiofikhmaaDoor
open Go.RowKit Tk
set_option linter.unusedVariables false
theorem cell_of_heap {w : World} {g : Nat} {cs : Array Value} {t : TypeId} {fr : Nat × Nat} (h : w.heap[g]? = some (.cells cs t fr)) (o : Nat) : w.cell? ⟨g, o, none⟩ = cs[o]? := by
  unfold World.cell?
  simp [h]
theorem frozen_of_heap {w : World} {g : Nat} {cs : Array Value} {t : TypeId} (h : w.heap[g]? = some (.cells cs t (0, 0))) (o : Nat) : w.frozen? ⟨g, o, none⟩ = false := by
  unfold World.frozen?
  simp [h]
theorem results_cell_slot {P : Program} {fn : Func} {p q : Tmp} {ty : TypeId} (h : fn.results = #[.cell p ty, .tmp q]) (tmps : Array Value) (w : World) (g : Nat) (t : TypeId) (cs : Array Value) (fr : Nat × Nat) (d : TypeDesc) (v : Value)
    (hp : tmps.getD p undef = .pointer (some ⟨g, 0, none⟩)) (hq : tmps.getD q undef = v) (hg : w.heap[g]? = some (.cells cs t fr))
    (hu : P.underlying ty = some d) (hd : (match d with | .struct _ | .array _ _ => true | _ => false) = true) (hi : (P.info? ty).map (·.size) = some cs.size) :
    (results fn tmps).run P w = .ok (.tuple #[.agg cs, v]) w := by
  have hp' : tmps[p]?.getD undef = .pointer (some ⟨g, 0, none⟩) := by simpa using hp
  have hq' : tmps[q]?.getD undef = v := by simpa using hq
  simp [results, h, hp', hq', asAddr, run_loadVar_row w g t ty cs fr d hg hu hd hi]
theorem four_set {W : World} {g : Nat} {x0 x1 x2 x3 y0 y1 y2 y3 : Value} (c0 : W.cell? ⟨g, 0, none⟩ = some x0) (c1 : W.cell? ⟨g, 1, none⟩ = some x1) (c2 : W.cell? ⟨g, 2, none⟩ = some x2) (c3 : W.cell? ⟨g, 3, none⟩ = some x3) :
    ((((W.setCell ⟨g, 0, none⟩ y0).setCell ⟨g, 1, none⟩ y1).setCell ⟨g, 2, none⟩ y2).setCell ⟨g, 3, none⟩ y3).cell? ⟨g, 0, none⟩ = some y0 ∧
    ((((W.setCell ⟨g, 0, none⟩ y0).setCell ⟨g, 1, none⟩ y1).setCell ⟨g, 2, none⟩ y2).setCell ⟨g, 3, none⟩ y3).cell? ⟨g, 1, none⟩ = some y1 ∧
    ((((W.setCell ⟨g, 0, none⟩ y0).setCell ⟨g, 1, none⟩ y1).setCell ⟨g, 2, none⟩ y2).setCell ⟨g, 3, none⟩ y3).cell? ⟨g, 2, none⟩ = some y2 ∧
    ((((W.setCell ⟨g, 0, none⟩ y0).setCell ⟨g, 1, none⟩ y1).setCell ⟨g, 2, none⟩ y2).setCell ⟨g, 3, none⟩ y3).cell? ⟨g, 3, none⟩ = some y3 := by
  have ne : ∀ i j : Nat, i ≠ j → (⟨g, i, none⟩ : Addr) ≠ ⟨g, j, none⟩ := fun i j h c => h (by injection c)
  refine ⟨?_, ?_, ?_, ?_⟩
  · rw [World.cell?_setCell_other _ _ _ _ (ne 3 0 (by omega)), World.cell?_setCell_other _ _ _ _ (ne 2 0 (by omega)), World.cell?_setCell_other _ _ _ _ (ne 1 0 (by omega))]
    exact World.cell?_setCell_same _ _ _ c0
  · rw [World.cell?_setCell_other _ _ _ _ (ne 3 1 (by omega)), World.cell?_setCell_other _ _ _ _ (ne 2 1 (by omega))]
    exact World.cell?_setCell_same _ _ _ ((World.cell?_setCell_other _ _ _ _ (ne 0 1 (by omega))).trans c1)
  · rw [World.cell?_setCell_other _ _ _ _ (ne 3 2 (by omega))]
    exact World.cell?_setCell_same _ _ _ ((World.cell?_setCell_other _ _ _ _ (ne 1 2 (by omega))).trans ((World.cell?_setCell_other _ _ _ _ (ne 0 2 (by omega))).trans c2))
  · exact World.cell?_setCell_same _ _ _ ((World.cell?_setCell_other _ _ _ _ (ne 2 3 (by omega))).trans ((World.cell?_setCell_other _ _ _ _ (ne 1 3 (by omega))).trans ((World.cell?_setCell_other _ _ _ _ (ne 0 3 (by omega))).trans c3)))
theorem results_tok {W : World} {g : Nat} {y0 y1 y2 y3 v : Value} {tmps : Array Value} (hp : tmps.getD 4 undef = .pointer (some ⟨g, 0, none⟩)) (hq : tmps.getD 5 undef = v)
    (c0 : W.cell? ⟨g, 0, none⟩ = some y0) (c1 : W.cell? ⟨g, 1, none⟩ = some y1) (c2 : W.cell? ⟨g, 2, none⟩ = some y2) (c3 : W.cell? ⟨g, 3, none⟩ = some y3)
    (h0 : y0.cells = #[y0]) (h1 : y1.cells = #[y1]) (h2 : y2.cells = #[y2]) (h3 : y3.cells = #[y3]) :
    (results Tryd.f33 tmps).run Tryd.prog W = .ok (.tuple #[.agg #[y0, y1, y2, y3], v]) W := by
  have hp' : tmps[4]?.getD undef = .pointer (some ⟨g, 0, none⟩) := by simpa using hp
  have hq' : tmps[5]?.getD undef = v := by simpa using hq
  simp [results, Tryd.results33, go_sem, hp', hq', c0, c1, c2, c3]
theorem end_tok {w W1 : World} {o : Obj} {x0 x1 x2 x3 y0 y1 y2 y3 v : Value} {tmps : Array Value} {Q : Ending → World → Prop} (hp : tmps.getD 4 undef = .pointer (some ⟨w.heap.size, 0, none⟩)) (hq : tmps.getD 5 undef = v)
    (c0 : W1.cell? ⟨w.heap.size, 0, none⟩ = some x0) (c1 : W1.cell? ⟨w.heap.size, 1, none⟩ = some x1) (c2 : W1.cell? ⟨w.heap.size, 2, none⟩ = some x2) (c3 : W1.cell? ⟨w.heap.size, 3, none⟩ = some x3)
    (h0 : y0.cells = #[y0]) (h1 : y1.cells = #[y1]) (h2 : y2.cells = #[y2]) (h3 : y3.cells = #[y3])
    (hQ : Q (.returned (.tuple #[.agg #[y0, y1, y2, y3], v])) (((((W1.setCell ⟨w.heap.size, 0, none⟩ y0).setCell ⟨w.heap.size, 1, none⟩ y1).setCell ⟨w.heap.size, 2, none⟩ y2).setCell ⟨w.heap.size, 3, none⟩ y3).alloc o)) :
    bodyPost Tryd.prog Tryd.f33 Q Exit.ret { tmps := tmps, defers := [] } (((((W1.setCell ⟨w.heap.size, 0, none⟩ y0).setCell ⟨w.heap.size, 1, none⟩ y1).setCell ⟨w.heap.size, 2, none⟩ y2).setCell ⟨w.heap.size, 3, none⟩ y3).alloc o) := by
  obtain ⟨g0, g1, g2, g3⟩ := four_set (y0 := y0) (y1 := y1) (y2 := y2) (y3 := y3) c0 c1 c2 c3
  generalize (((W1.setCell ⟨w.heap.size, 0, none⟩ y0).setCell ⟨w.heap.size, 1, none⟩ y1).setCell ⟨w.heap.size, 2, none⟩ y2).setCell ⟨w.heap.size, 3, none⟩ y3 = W3 at g0 g1 g2 g3 hQ ⊢
  have hz := World.block_lt_of_cell? W3 ⟨w.heap.size, 0, none⟩ g0
  generalize w.heap.size = g at hp g0 g1 g2 g3 hz
  have k : ∀ j : Nat, (W3.alloc o).cell? ⟨g, j, none⟩ = W3.cell? ⟨g, j, none⟩ := fun j => World.cell?_alloc_lt W3 o ⟨g, j, none⟩ hz
  exact bodyPost_ret (results_tok hp hq ((k 0).trans g0) ((k 1).trans g1) ((k 2).trans g2) ((k 3).trans g3) h0 h1 h2 h3) rfl hQ
set_option maxHeartbeats 4000000 in
theorem ofRun_word {s : ByteArray} {L : Int} (hw : isWord s.data.toList = true) (hs : s.size ≤ 20000) (w : World) :
    Calls Tryd.prog 33 #[.string s, .int .i64 L] w fun e w' => e = .returned (.tuple #[.agg #[.int .i64 2, .string s, .int .i64 0, .int .i64 L], .bool true]) ∧ Bel w w' := by
  obtain ⟨n, b, hn⟩ : ∃ n b, numIs s.data.toList n b := ⟨_, _, rfl, rfl⟩
  have HW := Lib.hid hw
  have HN := Lib.hid hn
  have hm : s.size ≤ maxLen := by unfold maxLen; omega
  clear hw hn
  go_enter Tryd.func33, Tryd.ntmps33
  go_wp2_with fail
  refine (clone_any s _ (by omega)).mono ?_
  rintro e W1 ⟨rfl, hb1⟩
  have hh : W1.heap[w.heap.size]? = some (.cells #[.int .i64 0, .string ⟨#[]⟩, .int .i64 0, .int .i64 0] 41 (0, 0)) := (hb1.block _ (by simp)).trans (heap_alloc_new _ _)
  have hz : w.heap.size < W1.heap.size := lt_of_heap hh
  have hb2 : Bel w W1 := ((Bel.refl w).alloc _ _).trans hb1
  have c0 := cell_of_heap hh 0
  have c1 := cell_of_heap hh 1
  have c2 := cell_of_heap hh 2
  have c3 := cell_of_heap hh 3
  have f0 := frozen_of_heap hh 0
  have f1 := frozen_of_heap hh 1
  have f2 := frozen_of_heap hh 2
  have f3 := frozen_of_heap hh 3
  simp only [List.getElem?_toArray, List.getElem?_cons_zero, List.getElem?_cons_succ] at c0 c1 c2 c3
  have HH := Lib.hid hh
  have HB := Lib.hid hb2
  clear hh hb1 hb2
  go_wp2_with (first | (go_at_call 21; ((with_reducible refine (number_lit HN.out hm _).mono ?_); rintro e w' ⟨rfl, rfl⟩)) | (go_at_call 15; ((with_reducible refine (word_lit HW.out _).mono ?_); rintro e w' ⟨rfl, rfl⟩)))
  refine end_tok rfl rfl c0 c1 c2 c3 rfl rfl rfl rfl ⟨rfl, ?_⟩
  exact ((((HB.out.setCell (Nat.le_refl _) _).setCell (Nat.le_refl _) _).setCell (Nat.le_refl _) _).setCell (Nat.le_refl _) _).alloc _ _
set_option maxHeartbeats 4000000 in
theorem ofRun_name {s : ByteArray} {L : Int} (hw : isWord s.data.toList = false) (hx : isName s.data.toList = true) (hs : s.size ≤ 20000) (w : World) :
    Calls Tryd.prog 33 #[.string s, .int .i64 L] w fun e w' => e = .returned (.tuple #[.agg #[.int .i64 1, .string s, .int .i64 0, .int .i64 L], .bool true]) ∧ Bel w w' := by
  obtain ⟨n, b, hn⟩ : ∃ n b, numIs s.data.toList n b := ⟨_, _, rfl, rfl⟩
  have HW := Lib.hid hw
  have HM := Lib.hid hx
  have HN := Lib.hid hn
  have hm : s.size ≤ maxLen := by unfold maxLen; omega
  clear hw hn hx
  go_enter Tryd.func33, Tryd.ntmps33
  go_wp2_with fail
  refine (clone_any s _ (by omega)).mono ?_
  rintro e W1 ⟨rfl, hb1⟩
  have hh : W1.heap[w.heap.size]? = some (.cells #[.int .i64 0, .string ⟨#[]⟩, .int .i64 0, .int .i64 0] 41 (0, 0)) := (hb1.block _ (by simp)).trans (heap_alloc_new _ _)
  have hz : w.heap.size < W1.heap.size := lt_of_heap hh
  have hb2 : Bel w W1 := ((Bel.refl w).alloc _ _).trans hb1
  have c0 := cell_of_heap hh 0
  have c1 := cell_of_heap hh 1
  have c2 := cell_of_heap hh 2
  have c3 := cell_of_heap hh 3
  have f0 := frozen_of_heap hh 0
  have f1 := frozen_of_heap hh 1
  have f2 := frozen_of_heap hh 2
  have f3 := frozen_of_heap hh 3
  simp only [List.getElem?_toArray, List.getElem?_cons_zero, List.getElem?_cons_succ] at c0 c1 c2 c3
  have HH := Lib.hid hh
  have HB := Lib.hid hb2
  clear hh hb1 hb2
  go_wp2_with (first | (go_at_call 21; ((with_reducible refine (number_lit HN.out hm _).mono ?_); rintro e w' ⟨rfl, rfl⟩)) | (go_at_call 15; ((with_reducible refine (word_lit HW.out _).mono ?_); rintro e w' ⟨rfl, rfl⟩)) | (go_at_call 13; ((with_reducible refine (name_lit HM.out hm _).mono ?_); rintro e w' ⟨rfl, rfl⟩)))
  refine end_tok rfl rfl c0 c1 c2 c3 rfl rfl rfl rfl ⟨rfl, ?_⟩
  exact ((((HB.out.setCell (Nat.le_refl _) _).setCell (Nat.le_refl _) _).setCell (Nat.le_refl _) _).setCell (Nat.le_refl _) _).alloc _ _
set_option maxHeartbeats 4000000 in
theorem ofRun_num {s : ByteArray} {L : Int} {n : Nat} (hw : isWord s.data.toList = false) (hx : isName s.data.toList = false) (hn : numIs s.data.toList n true) (hs : s.size ≤ 20000) (w : World) :
    Calls Tryd.prog 33 #[.string s, .int .i64 L] w fun e w' => e = .returned (.tuple #[.agg #[.int .i64 3, .string s, .int .i64 n, .int .i64 L], .bool true]) ∧ Bel w w' := by
  have HW := Lib.hid hw
  have HM := Lib.hid hx
  have HN := Lib.hid hn
  have hm : s.size ≤ maxLen := by unfold maxLen; omega
  clear hw hn hx
  go_enter Tryd.func33, Tryd.ntmps33
  go_wp2_with fail
  refine (clone_any s _ (by omega)).mono ?_
  rintro e W1 ⟨rfl, hb1⟩
  have hh : W1.heap[w.heap.size]? = some (.cells #[.int .i64 0, .string ⟨#[]⟩, .int .i64 0, .int .i64 0] 41 (0, 0)) := (hb1.block _ (by simp)).trans (heap_alloc_new _ _)
  have hz : w.heap.size < W1.heap.size := lt_of_heap hh
  have hb2 : Bel w W1 := ((Bel.refl w).alloc _ _).trans hb1
  have c0 := cell_of_heap hh 0
  have c1 := cell_of_heap hh 1
  have c2 := cell_of_heap hh 2
  have c3 := cell_of_heap hh 3
  have f0 := frozen_of_heap hh 0
  have f1 := frozen_of_heap hh 1
  have f2 := frozen_of_heap hh 2
  have f3 := frozen_of_heap hh 3
  simp only [List.getElem?_toArray, List.getElem?_cons_zero, List.getElem?_cons_succ] at c0 c1 c2 c3
  have HH := Lib.hid hh
  have HB := Lib.hid hb2
  clear hh hb1 hb2
  go_wp2_with (first | (go_at_call 21; ((with_reducible refine (number_lit HN.out hm _).mono ?_); rintro e w' ⟨rfl, rfl⟩)) | (go_at_call 15; ((with_reducible refine (word_lit HW.out _).mono ?_); rintro e w' ⟨rfl, rfl⟩)) | (go_at_call 13; ((with_reducible refine (name_lit HM.out hm _).mono ?_); rintro e w' ⟨rfl, rfl⟩)))
  refine end_tok rfl rfl c0 c1 c2 c3 rfl rfl rfl rfl ⟨rfl, ?_⟩
  exact ((((HB.out.setCell (Nat.le_refl _) _).setCell (Nat.le_refl _) _).setCell (Nat.le_refl _) _).setCell (Nat.le_refl _) _).alloc _ _
set_option maxHeartbeats 4000000 in
theorem ofRun_none {s : ByteArray} {L : Int} {n : Nat} (hw : isWord s.data.toList = false) (hx : isName s.data.toList = false) (hn : numIs s.data.toList n false) (hs : s.size ≤ 20000) (w : World) :
    Calls Tryd.prog 33 #[.string s, .int .i64 L] w fun e w' => e = .returned (.tuple #[.agg #[.int .i64 0, .string ⟨#[]⟩, .int .i64 0, .int .i64 0], .bool false]) ∧ Bel w w' := by
  have HW := Lib.hid hw
  have HM := Lib.hid hx
  have HN := Lib.hid hn
  have hm : s.size ≤ maxLen := by unfold maxLen; omega
  clear hw hn hx
  go_enter Tryd.func33, Tryd.ntmps33
  go_wp2_with fail
  refine (clone_any s _ (by omega)).mono ?_
  rintro e W1 ⟨rfl, hb1⟩
  have hh : W1.heap[w.heap.size]? = some (.cells #[.int .i64 0, .string ⟨#[]⟩, .int .i64 0, .int .i64 0] 41 (0, 0)) := (hb1.block _ (by simp)).trans (heap_alloc_new _ _)
  have hz : w.heap.size < W1.heap.size := lt_of_heap hh
  have hb2 : Bel w W1 := ((Bel.refl w).alloc _ _).trans hb1
  have c0 := cell_of_heap hh 0
  have c1 := cell_of_heap hh 1
  have c2 := cell_of_heap hh 2
  have c3 := cell_of_heap hh 3
  have f0 := frozen_of_heap hh 0
  have f1 := frozen_of_heap hh 1
  have f2 := frozen_of_heap hh 2
  have f3 := frozen_of_heap hh 3
  simp only [List.getElem?_toArray, List.getElem?_cons_zero, List.getElem?_cons_succ] at c0 c1 c2 c3
  have HH := Lib.hid hh
  have HB := Lib.hid hb2
  clear hh hb1 hb2
  go_wp2_with (first | (go_at_call 21; ((with_reducible refine (number_lit HN.out hm _).mono ?_); rintro e w' ⟨rfl, rfl⟩)) | (go_at_call 15; ((with_reducible refine (word_lit HW.out _).mono ?_); rintro e w' ⟨rfl, rfl⟩)) | (go_at_call 13; ((with_reducible refine (name_lit HM.out hm _).mono ?_); rintro e w' ⟨rfl, rfl⟩)))
  refine end_tok rfl rfl c0 c1 c2 c3 rfl rfl rfl rfl ⟨rfl, ?_⟩
  exact ((((HB.out.setCell (Nat.le_refl _) _).setCell (Nat.le_refl _) _).setCell (Nat.le_refl _) _).setCell (Nat.le_refl _) _).alloc _ _
end Go.Proofs.YtgameoiofikhmaaDoor
