/- A text is parsed: what comes of it, whatever is read of it. -/
import Derived.Test.YtbfmlbcjggplgaaGreatDoorIPrint
import Derived.Test.YtbfmlbcjggplgaaGreatDoorICut
namespace Go.Proofs.YtbfmlbcjggplgaaGreatDoor
open Go.RowKit Im
set_option linter.unusedVariables false
theorem results_cell2 {P : Program} {fn : Func} {p q r : Tmp} {ty : TypeId} (h : fn.results = #[.cell p ty, .tmp q, .tmp r]) (tmps : Array Value) (w : World) (g : Nat) (t : TypeId) (cs : Array Value) (fr : Nat × Nat) (d : TypeDesc) (v u : Value)
    (hp : tmps.getD p undef = .pointer (some ⟨g, 0, none⟩)) (hq : tmps.getD q undef = v) (hr : tmps.getD r undef = u) (hg : w.heap[g]? = some (.cells cs t fr))
    (hu : P.underlying ty = some d) (hd : (match d with | .struct _ | .array _ _ => true | _ => false) = true) (hi : (P.info? ty).map (·.size) = some cs.size) :
    (results fn tmps).run P w = .ok (.tuple #[.agg cs, v, u]) w := by
  have hp' : tmps[p]?.getD undef = .pointer (some ⟨g, 0, none⟩) := by simpa using hp
  have hq' : tmps[q]?.getD undef = v := by simpa using hq
  have hr' : tmps[r]?.getD undef = u := by simpa using hr
  simp [results, h, hp', hq', hr', asAddr, run_loadVar_row w g t ty cs fr d hg hu hd hi]
theorem set3 {w : World} {R : Nat} {x0 x1 x2 : Value} {t : TypeId} (h : w.heap[R]? = some (.cells #[x0, x1, x2] t (0, 0))) (v0 v1 v2 : Value) :
    (((w.setCell ⟨R, 0, none⟩ v0).setCell ⟨R, 1, none⟩ v1).setCell ⟨R, 2, none⟩ v2).heap[R]? = some (.cells #[v0, v1, v2] t (0, 0)) := by
  have step : ∀ (W : World) (cs : Array Value) (i : Nat) (v : Value), W.heap[R]? = some (.cells cs t (0, 0)) → (W.setCell ⟨R, i, none⟩ v).heap[R]? = some (.cells (cs.setIfInBounds i v) t (0, 0)) := fun W cs i v hW => by
    rw [setCell_eq_setRow W R i cs t (0, 0) v hW]
    exact setRow_heap _ _ _ _ _ _ hW
  exact step _ _ 2 v2 (step _ _ 1 v1 (step _ _ 0 v0 h))
theorem bel3 {w0 w : World} {R : Nat} (h : Bel w0 w) (hR : w0.heap.size ≤ R) (v0 v1 v2 : Value) : Bel w0 (((w.setCell ⟨R, 0, none⟩ v0).setCell ⟨R, 1, none⟩ v1).setCell ⟨R, 2, none⟩ v2) :=
  ((h.setCell (p := ⟨R, 0, none⟩) hR _).setCell (p := ⟨R, 1, none⟩) hR _).setCell (p := ⟨R, 2, none⟩) hR _
theorem img_size : (Tryz.prog.info? 25).map (·.size) = some 3 := by kernel_rfl
abbrev noImg : Value := .agg #[.slice none 0 0, .int .i64 0, .slice none 0 0]
set_option maxHeartbeats 4000000 in
theorem parse_long {s : ByteArray} (h : 1000000 < s.size) (hs : s.size ≤ maxLen) (w : World) :
    Calls Tryz.prog 18 #[.string s] w fun e w' => e = .returned (.tuple #[noImg, .int .i64 1, .int .i64 0]) ∧ Bel w w' := by
  unfold maxLen at hs
  have h1 : (1000000 : Int) < (s.size : Int) := by omega
  clear h
  go_enter Tryz.func18, Tryz.ntmps18
  go_wp2_with fail
  exact bodyPost_ret (v := .tuple #[noImg, .int .i64 1, .int .i64 0]) (results_cell2 Tryz.results18 _ _ w.heap.size _ _ _ _ _ _ rfl rfl rfl (heap_alloc_new w _) Tryz.underlying25 rfl img_size) rfl ⟨rfl, (Bel.refl w).alloc _ _⟩
set_option maxHeartbeats 4000000 in
theorem parse_form {s A : ByteArray} {n : Int} (hs : s.size ≤ 1000000) (w : World)
    (hc : ∀ W, Bel w W → Calls Tryz.prog 33 #[.string s] W fun e w' => e = .returned (.tuple #[.string A, .int .i64 n, .bool false]) ∧ Bel W w') :
    Calls Tryz.prog 18 #[.string s] w fun e w' => e = .returned (.tuple #[noImg, .int .i64 40, .int .i64 0]) ∧ Bel w w' := by
  have h1 : decide ((1000000 : Int) < (s.size : Int)) = false := decide_eq_false (by omega)
  have hsz : (s.size : Int) ≤ 1000000 := by omega
  have HC := Lib.hid hc
  clear hc hs
  go_enter Tryz.func18, Tryz.ntmps18
  go_wp2_with fail
  have hb0 := (Bel.refl w).alloc #[.slice none 0 0, .int .i64 0, .slice none 0 0] 25
  have hx0 := heap_alloc_new w (.cells #[.slice none 0 0, .int .i64 0, .slice none 0 0] 25)
  generalize w.alloc (.cells #[.slice none 0 0, .int .i64 0, .slice none 0 0] 25) = W0 at hb0 hx0 ⊢
  obtain ⟨bx, hbx⟩ : ∃ b, b = w.heap.size := ⟨_, rfl⟩
  rw [← hbx] at hx0 ⊢
  have HX := Lib.hid hx0
  have HB := Lib.hid hb0
  have HBX := Lib.hid hbx
  clear hb0 hx0 hbx h1
  refine (HC.out _ HB.out).mono ?_
  rintro e w1 ⟨rfl, hb⟩
  have hx := hb.stays HX.out
  have HXX := Lib.hid hx
  have HB := Lib.hid (HB.out.trans hb)
  have d0 : w1.cell? ⟨bx, 0, none⟩ = some (.slice none 0 0) := cell_of_heap hx 0
  have d1 : w1.cell? ⟨bx, 1, none⟩ = some (.int .i64 0) := cell_of_heap hx 1
  have d2 : w1.cell? ⟨bx, 2, none⟩ = some (.slice none 0 0) := cell_of_heap hx 2
  have g0 := frozen_of_heap hx 0
  have g1 := frozen_of_heap hx 1
  have g2 := frozen_of_heap hx 2
  clear hb hx
  go_wp2_with fail
  exact bodyPost_ret (v := .tuple #[noImg, .int .i64 40, .int .i64 0]) (results_cell2 Tryz.results18 _ _ bx _ _ _ _ _ _ rfl rfl rfl (set3 HXX.out _ _ _) Tryz.underlying25 rfl img_size) rfl ⟨rfl, bel3 HB.out (by rw [HBX.out]; exact Nat.le_refl _) _ _ _⟩
end Go.Proofs.YtbfmlbcjggplgaaGreatDoor
