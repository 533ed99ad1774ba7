/- A map whose keys are states: looked up, written. -/
import Derived.Test.YtigefdoejcggpaaNFnb
import Derived.Laws.StructEq
import Derived.MapKept
import Derived.Maps.Own
import Derived.ChangeKeysEq
namespace Go.Proofs.Ytigefdoejcggpaa
open Go.RowKit Ax
set_option linter.unusedVariables false
set_option linter.unusedSimpArgs false
@[reducible] def stV (s : St) : Value := .agg #[.int .i64 (s.has : Int), .int .i64 s.wd.1, .int .i64 s.wd.2.1, .int .i64 s.wd.2.2.1, .int .i64 s.wd.2.2.2]
def eqS (s t : St) : Bool := decide (s.has = t.has) && (decide (s.wd.1 = t.wd.1) && decide (s.wd.2.1 = t.wd.2.1) && decide (s.wd.2.2.1 = t.wd.2.2.1) && decide (s.wd.2.2.2 = t.wd.2.2.2))
theorem eqS_iff {s t : St} : eqS s t = true ↔ s = t := by
  obtain ⟨a, b, c, d, e⟩ := s
  obtain ⟨a', b', c', d', e'⟩ := t
  simp [eqS, and_assoc]
theorem equal_arr (a b c d a' b' c' d' : Int) (w : World) : (Op.equalIn 9999 42 (.agg #[.int .i64 a, .int .i64 b, .int .i64 c, .int .i64 d]) (.agg #[.int .i64 a', .int .i64 b', .int .i64 c', .int .i64 d'])).run Try.prog w = .ok (decide (a = a') && decide (b = b') && decide (c = c') && decide (d = d')) w := by
  have hc : Try.prog.cellsOf 3 = 1 := by kernel_rfl
  have hr : List.range 4 = [0, 1, 2, 3] := rfl
  obtain ⟨i, hi⟩ : ∃ i, Try.prog.info? 3 = some i := ⟨(Try.prog.info? 3).get (by kernel_rfl), by kernel_rfl⟩
  have h := run_equalIn_array (P := Try.prog) w 9998 #[.int .i64 a, .int .i64 b, .int .i64 c, .int .i64 d] #[.int .i64 a', .int .i64 b', .int .i64 c', .int .i64 d'] Try.underlying42 hi
  rw [hc, hr] at h
  refine h.trans ?_
  simp [Op.eqItems, go_sem]
  by_cases h1 : a = a' <;> by_cases h2 : b = b' <;> by_cases h3 : c = c' <;> by_cases h4 : d = d' <;> simp [h1, h2, h3, h4]
theorem equal_st (s t : St) (w : World) : (Op.equal 58 (stV s) (stV t)).run Try.prog w = .ok (eqS s t) w := by
  have ht : Try.prog.underlying 58 = some (.struct (Try.prog.fieldsOf 58)) := by kernel_rfl
  have hp : Try.prog.stoodInHeld 58 = false := by kernel_rfl
  have hs := run_equalIn_struct (P := Try.prog) w 9999 58 #[.int .i64 (s.has : Int), .int .i64 s.wd.1, .int .i64 s.wd.2.1, .int .i64 s.wd.2.2.1, .int .i64 s.wd.2.2.2] #[.int .i64 (t.has : Int), .int .i64 t.wd.1, .int .i64 t.wd.2.1, .int .i64 t.wd.2.2.1, .int .i64 t.wd.2.2.2] ht hp
  have ha := equal_arr s.wd.1 s.wd.2.1 s.wd.2.2.1 s.wd.2.2.2 t.wd.1 t.wd.2.1 t.wd.2.2.1 t.wd.2.2.2 w
  show (Op.equalIn 10000 58 _ _).run Try.prog w = _
  rw [hs]
  simp [Program.fieldsOf, Try.underlying58, Op.eqFields, go_sem, ha]
  unfold eqS
  by_cases h0 : s.has = t.has <;> by_cases h1 : s.wd.1 = t.wd.1 <;> by_cases h2 : s.wd.2.1 = t.wd.2.1 <;> by_cases h3 : s.wd.2.2.1 = t.wd.2.2.1 <;> by_cases h4 : s.wd.2.2.2 = t.wd.2.2.2 <;> simp [h0, h1, h2, h3, h4]
  all_goals (intro c; omega)
theorem check_int (e : Bool) (n : Nat) (v : Int) (w : World) : (Instr.checkKey e (n + 1) 3 (.int .i64 v)).run Try.prog w = .ok () w := by
  unfold Instr.checkKey
  simp [Try.underlying3, go_sem]
theorem check_arr (e : Bool) (n : Nat) (a b c d : Int) (w : World) : (Instr.checkKey e (n + 1 + 1) 42 (.agg #[.int .i64 a, .int .i64 b, .int .i64 c, .int .i64 d])).run Try.prog w = .ok () w := by
  have h1 := fun v w => check_int e n v w
  rw [Instr.checkKey]
  simp [Try.underlying42, go_sem, Std.Legacy.Range.forIn_eq_forIn_range', Std.Legacy.Range.size, List.range', h1]
theorem check_st (e : Bool) (s : St) (w : World) : (Instr.checkKey e 10000 58 (stV s)).run Try.prog w = .ok () w := by
  have h1 := fun v w => check_int e 9998 v w
  have h2 := fun a b c d w => check_arr e 9997 a b c d w
  show (Instr.checkKey e (9999 + 1) 58 (stV s)).run Try.prog w = .ok () w
  rw [Instr.checkKey]
  simp [Try.underlying58, go_sem, h1, h2]
theorem stV_eq {s t : St} (h : stV s = stV t) : eqS s t = true := by
  simp [stV] at h
  obtain ⟨h0, h1, h2, h3, h4⟩ := h
  unfold eqS
  rw [h1, h2, h3, h4]
  simp
  omega
theorem ask_st (s : St) (w : World) : ∀ (l : List MapEntry) (i : Nat), (∀ x ∈ l, ∃ t, x.key = stV t) → ∃ r, (Instr.findAsking 58 (stV s) l i).run Try.prog w = .ok r w ∧ (∀ j v, r = some (j, v) → i ≤ j ∧ ∃ x, l[j - i]? = some x ∧ x.key = stV s ∧ v = x.val)
  | [], i, _ => ⟨none, rfl, fun j v c => by cases c⟩
  | x :: l, i, h => by
    obtain ⟨t, ht⟩ := h x (List.mem_cons_self ..)
    have he := equal_st s t w
    obtain ⟨r, hr, hj⟩ := ask_st s w l (i + 1) fun y hy => h y (List.mem_cons_of_mem _ hy)
    cases hq : eqS s t
    · refine ⟨r, ?_, fun j v e => ?_⟩
      · unfold Instr.findAsking
        simp [go_sem, ht, he, hq, hr]
      · obtain ⟨h1, y, h2, h3, h4⟩ := hj j v e
        refine ⟨by omega, y, ?_, h3, h4⟩
        rw [show j - i = (j - (i + 1)) + 1 by omega, List.getElem?_cons_succ]
        exact h2
    · refine ⟨some (i, x.val), ?_, fun j v e => ?_⟩
      · unfold Instr.findAsking
        simp [go_sem, ht, he, hq]
      · injection e with e
        injection e with e1 e2
        subst e1
        subst e2
        exact ⟨Nat.le_refl _, x, by simp, by rw [ht, eqS_iff.1 hq], rfl⟩
theorem find_st (s : St) (w : World) (l : List MapEntry) (h : ∀ x ∈ l, ∃ t, x.key = stV t) : ∃ r, (Instr.findKey 58 (stV s) l).run Try.prog w = .ok r w ∧ (∀ j v, r = some (j, v) → ∃ x, l[j]? = some x ∧ x.key = stV s ∧ v = x.val) := by
  match l, h with
  | [], _ => exact ⟨none, by unfold Instr.findKey; simp [go_sem, Try.underlying58, Instr.findNow], fun j v c => by cases c⟩
  | x :: l, h =>
    obtain ⟨r, hr, hj⟩ := ask_st s w (x :: l) 0 h
    refine ⟨r, ?_, fun j v e => ?_⟩
    · obtain ⟨t, ht⟩ := h x (List.mem_cons_self ..)
      unfold Instr.findKey
      simp [go_sem, Try.underlying58, Instr.findNow, Instr.sameNow, ht, hr]
    · obtain ⟨_, y, h2, h3, h4⟩ := hj j v e
      exact ⟨y, h2, h3, h4⟩
/-- no order that begins like this holds -/
def Dead (l : List Ev) (s : St) : Prop := ∀ o, ¬ Run l s o
/-- the map of what was found to lead nowhere -/
def MapAt (w : World) (g : Nat) (l : List Ev) : Prop := ∃ es clock, w.heap[g]? = some (.map es clock) ∧ ∀ x ∈ es.toList, ∃ s, x.key = stV s ∧ x.val = .agg #[] ∧ Dead l s
theorem lookup_st {w : World} {g : Nat} {l : List Ev} (h : MapAt w g l) (s : St) : ∃ b, (Instr.lookup 53 (.map (some g)) (stV s) true).run Try.prog w = .ok (.tuple #[.agg #[], .bool b]) w ∧ (b = true → Dead l s) := by
  obtain ⟨es, clock, hh, hx⟩ := h
  obtain ⟨r, hr, hj⟩ := find_st s w es.toList fun x hx' => ⟨_, (hx x hx').choose_spec.1⟩
  have hz : (zeroValue 65).run Try.prog w = .ok (.agg #[]) w := by
    obtain ⟨i, hi, hiz⟩ : ∃ i, Try.prog.info? 65 = some i ∧ i.zero = some (.agg #[]) := ⟨(Try.prog.info? 65).get (by kernel_rfl), by kernel_rfl, by kernel_rfl⟩
    unfold zeroValue
    rw [Sem.run_bind, run_typeInfo w hi]
    simp only [Result.andThen_ok]
    rw [hiz]
    rfl
  have hc := check_st es.isEmpty s w
  match r, hr, hj with
  | none, hr, _ => exact ⟨false, by simp [Instr.lookup, run_underlying Try.underlying53, MapKept.run_getObj_map hh, hc, hr, hz, Result.andThen], fun c => by cases c⟩
  | some (j, v), hr, hj =>
    obtain ⟨x, h1, h2, h3⟩ := hj j v rfl
    obtain ⟨t, k1, k2, k3⟩ := hx x (List.mem_of_getElem? h1)
    rw [h2] at k1
    have : s = t := eqS_iff.1 (by have := stV_eq k1; exact this)
    subst this
    rw [k2] at h3
    subst h3
    exact ⟨true, by simp [Instr.lookup, run_underlying Try.underlying53, MapKept.run_getObj_map hh, hc, hr, Result.andThen], fun _ => k3⟩
theorem update_st {w : World} {g : Nat} {l : List Ev} (h : MapAt w g l) {s : St} (hs : Dead l s) : ∃ w', (Instr.mapUpdate 53 (.map (some g)) (stV s) (.agg #[])).run Try.prog w = .ok () w' ∧ MapAt w' g l ∧ Svg g w w' := by
  obtain ⟨es, clock, hh, hx⟩ := h
  obtain ⟨r, hr, hj⟩ := find_st s w es.toList fun x hx' => ⟨_, (hx x hx').choose_spec.1⟩
  have hc := check_st false s w
  have hsv : ∀ o, Svg g w { w with heap := w.heap.setIfInBounds g o } := fun o => ⟨rfl, rfl, rfl, by simp, fun k hk hne => (MapKept.heap_set hh).2 k hne⟩
  match r, hr, hj with
  | none, hr, _ =>
    refine ⟨_, ?_, ?_, hsv (.map (es.push { key := stV s, val := .agg #[], born := clock }) (clock + 1))⟩
    · simp [Instr.mapUpdate, run_underlying Try.underlying53, MapKept.run_getObj_map hh, hc, hr, Result.andThen, MapKept.run_setObj_map _ hh]
    · refine ⟨_, _, (MapKept.heap_set hh).1, fun x hx' => ?_⟩
      rw [Array.toList_push, List.mem_append, List.mem_singleton] at hx'
      rcases hx' with h | h
      · exact hx x h
      · subst h
        exact ⟨s, rfl, rfl, hs⟩
  | some (j, v), hr, hj =>
    obtain ⟨x, h1, h2, h3⟩ := hj j v rfl
    have hk : (((es[j]?).map (·.key)).getD (stV s)) = stV s := by
      rw [Array.getElem?_toList] at h1
      rw [h1]
      exact h2
    have hb : Instr.sameBits 10000 (stV s) (stV s) = true := by
      show Instr.sameBits (9998 + 1 + 1) (stV s) (stV s) = true
      simp [Instr.sameBits]
    refine ⟨_, ?_, ?_, hsv (.map (es.modify j fun e => { e with key := stV s, val := .agg #[] }) clock)⟩
    · simp [Instr.mapUpdate, run_underlying Try.underlying53, MapKept.run_getObj_map hh, hc, hr, Result.andThen, MapKept.run_setObj_map _ hh, Instr.keyThatStays, hk, hb]
    · refine ⟨_, _, (MapKept.heap_set hh).1, fun y hy => ?_⟩
      obtain ⟨q, hq⟩ := List.mem_iff_getElem?.1 hy
      rw [Array.getElem?_toList, Array.getElem?_modify] at hq
      split at hq
      · obtain ⟨z, hz, rfl⟩ := Option.map_eq_some_iff.1 hq
        exact ⟨s, rfl, rfl, hs⟩
      · exact hx y (List.mem_of_getElem? (by rw [Array.getElem?_toList]; exact hq))
end Go.Proofs.Ytigefdoejcggpaa
