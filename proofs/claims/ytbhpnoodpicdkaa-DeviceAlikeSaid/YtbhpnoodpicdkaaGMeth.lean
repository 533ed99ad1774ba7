/- What the methods of a device's model leave, kind by kind. -/
import Derived.Test.YtbhpnoodpicdkaaGDev
import Derived.Deep.DeepCutAuto
namespace Go.Proofs.Ytbhpnoodpicdkaa
open Go.RowKit Dv
open Plain (w32_lo w32_hi w32_w32 w32_in)
set_option linter.unusedVariables false
set_option linter.unusedSimpArgs false
theorem BoxAt.r0 {w : World} {g : Nat} {t : TypeId} {d : Dev} {v : Value} (h : BoxAt w g t d v) (n : Int) : BoxAt (w.setCell ⟨g, 1, none⟩ (.int .i64 n)) g t { d with r0 := n } v := heap_set h 1 _
theorem keep0 {w : World} {g : Nat} {t : TypeId} {d : Dev} {v : Value} (hB : BoxAt w g t d v) (n : Int) :
    Calls Try.prog 48 #[.pointer (some ⟨g, 0, none⟩), .int .i64 0, .int .i64 n] w fun e w' => e = .returned (.tuple #[]) ∧ Svg g w w' ∧ BoxAt w' g t { d with r0 := n } v := by
  refine (keep_any hB 0 (by omega) n).mono fun e w' h => ?_
  obtain ⟨he, hw⟩ := h
  subst hw
  exact ⟨he, Svg.set _ _ _ _, hB.r0 n⟩
theorem read0 {w : World} {g : Nat} {t : TypeId} {d : Dev} {v : Value} (hB : BoxAt w g t d v) :
    Calls Try.prog 46 #[.pointer (some ⟨g, 0, none⟩), .int .i64 0] w fun e w' => e = .returned (.int .i64 d.r0) ∧ w = w' := by
  obtain ⟨k0, k1, k2, k3, k4, k5, k6, k7⟩ := hB.cells
  have HB := Lib.hid hB
  clear hB
  go_enter Try.func46, Try.ntmps46
  go_wp2
  go_ret
  exact ⟨rfl, rfl⟩
theorem BoxAt.r1 {w : World} {g : Nat} {t : TypeId} {d : Dev} {v : Value} (h : BoxAt w g t d v) (n : Int) : BoxAt (w.setCell ⟨g, 2, none⟩ (.int .i64 n)) g t { d with r1 := n } v := heap_set h 2 _
theorem keep1 {w : World} {g : Nat} {t : TypeId} {d : Dev} {v : Value} (hB : BoxAt w g t d v) (n : Int) :
    Calls Try.prog 48 #[.pointer (some ⟨g, 0, none⟩), .int .i64 1, .int .i64 n] w fun e w' => e = .returned (.tuple #[]) ∧ Svg g w w' ∧ BoxAt w' g t { d with r1 := n } v := by
  refine (keep_any hB 1 (by omega) n).mono fun e w' h => ?_
  obtain ⟨he, hw⟩ := h
  subst hw
  exact ⟨he, Svg.set _ _ _ _, hB.r1 n⟩
theorem read1 {w : World} {g : Nat} {t : TypeId} {d : Dev} {v : Value} (hB : BoxAt w g t d v) :
    Calls Try.prog 46 #[.pointer (some ⟨g, 0, none⟩), .int .i64 1] w fun e w' => e = .returned (.int .i64 d.r1) ∧ w = w' := by
  obtain ⟨k0, k1, k2, k3, k4, k5, k6, k7⟩ := hB.cells
  have HB := Lib.hid hB
  clear hB
  go_enter Try.func46, Try.ntmps46
  go_wp2
  go_ret
  exact ⟨rfl, rfl⟩
theorem BoxAt.r2 {w : World} {g : Nat} {t : TypeId} {d : Dev} {v : Value} (h : BoxAt w g t d v) (n : Int) : BoxAt (w.setCell ⟨g, 3, none⟩ (.int .i64 n)) g t { d with r2 := n } v := heap_set h 3 _
theorem keep2 {w : World} {g : Nat} {t : TypeId} {d : Dev} {v : Value} (hB : BoxAt w g t d v) (n : Int) :
    Calls Try.prog 48 #[.pointer (some ⟨g, 0, none⟩), .int .i64 2, .int .i64 n] w fun e w' => e = .returned (.tuple #[]) ∧ Svg g w w' ∧ BoxAt w' g t { d with r2 := n } v := by
  refine (keep_any hB 2 (by omega) n).mono fun e w' h => ?_
  obtain ⟨he, hw⟩ := h
  subst hw
  exact ⟨he, Svg.set _ _ _ _, hB.r2 n⟩
theorem read2 {w : World} {g : Nat} {t : TypeId} {d : Dev} {v : Value} (hB : BoxAt w g t d v) :
    Calls Try.prog 46 #[.pointer (some ⟨g, 0, none⟩), .int .i64 2] w fun e w' => e = .returned (.int .i64 d.r2) ∧ w = w' := by
  obtain ⟨k0, k1, k2, k3, k4, k5, k6, k7⟩ := hB.cells
  have HB := Lib.hid hB
  clear hB
  go_enter Try.func46, Try.ntmps46
  go_wp2
  go_ret
  exact ⟨rfl, rfl⟩
theorem BoxAt.r3 {w : World} {g : Nat} {t : TypeId} {d : Dev} {v : Value} (h : BoxAt w g t d v) (n : Int) : BoxAt (w.setCell ⟨g, 4, none⟩ (.int .i64 n)) g t { d with r3 := n } v := heap_set h 4 _
theorem keep3 {w : World} {g : Nat} {t : TypeId} {d : Dev} {v : Value} (hB : BoxAt w g t d v) (n : Int) :
    Calls Try.prog 48 #[.pointer (some ⟨g, 0, none⟩), .int .i64 3, .int .i64 n] w fun e w' => e = .returned (.tuple #[]) ∧ Svg g w w' ∧ BoxAt w' g t { d with r3 := n } v := by
  refine (keep_any hB 3 (by omega) n).mono fun e w' h => ?_
  obtain ⟨he, hw⟩ := h
  subst hw
  exact ⟨he, Svg.set _ _ _ _, hB.r3 n⟩
theorem read3 {w : World} {g : Nat} {t : TypeId} {d : Dev} {v : Value} (hB : BoxAt w g t d v) :
    Calls Try.prog 46 #[.pointer (some ⟨g, 0, none⟩), .int .i64 3] w fun e w' => e = .returned (.int .i64 d.r3) ∧ w = w' := by
  obtain ⟨k0, k1, k2, k3, k4, k5, k6, k7⟩ := hB.cells
  have HB := Lib.hid hB
  clear hB
  go_enter Try.func46, Try.ntmps46
  go_wp2
  go_ret
  exact ⟨rfl, rfl⟩
theorem BoxAt.queue {w : World} {g : Nat} {t : TypeId} {d : Dev} {v : Value} (h : BoxAt w g t d v) (q : List Int) (u : Value) : BoxAt (w.setCell ⟨g, 5, none⟩ u) g t { d with q := q } u := heap_set h 5 _
theorem BoxAt.sent {w : World} {g : Nat} {t : TypeId} {d : Dev} {v : Value} (h : BoxAt w g t d v) (n : Int) : BoxAt (w.setCell ⟨g, 6, none⟩ (.int .i64 n)) g t { d with sent := n } v := heap_set h 6 _
theorem BoxAt.up {w : World} {g : Nat} {t : TypeId} {d : Dev} {v : Value} (h : BoxAt w g t d v) (b : Bool) : BoxAt (w.setCell ⟨g, 7, none⟩ (.bool b)) g t { d with up := b } v := heap_set h 7 _
theorem enabled_y {w : World} {g : Nat} {t : TypeId} {d : Dev} {v : Value} (hB : BoxAt w g t d v) (h : d.r2 % 2 = 1) :
    Calls Try.prog 47 #[.pointer (some ⟨g, 0, none⟩)] w fun e w' => e = .returned (.bool true) ∧ w = w' := by
  obtain ⟨k0, k1, k2, k3, k4, k5, k6, k7⟩ := hB.cells
  have HB := Lib.hid hB
  have hb : bits .and .i64 d.r2 1 = 1 := (and1 _).trans h
  clear hB h
  go_enter Try.func47, Try.ntmps47
  go_wp2
  go_ret
  exact ⟨rfl, rfl⟩
theorem enabled_n {w : World} {g : Nat} {t : TypeId} {d : Dev} {v : Value} (hB : BoxAt w g t d v) (h : ¬ d.r2 % 2 = 1) :
    Calls Try.prog 47 #[.pointer (some ⟨g, 0, none⟩)] w fun e w' => e = .returned (.bool false) ∧ w = w' := by
  obtain ⟨k0, k1, k2, k3, k4, k5, k6, k7⟩ := hB.cells
  have HB := Lib.hid hB
  have hb : bits .and .i64 d.r2 1 = 0 := (and1 _).trans (by omega)
  clear hB h
  go_enter Try.func47, Try.ntmps47
  go_wp2
  go_ret
  exact ⟨rfl, rfl⟩
theorem upd_n {d : Dev} (h : ¬ d.r2 % 2 = 1) : upd d = { d with up := false } := by simp [upd, h]
theorem upd_e {d : Dev} (h : d.q.length = 0) : upd d = { d with up := false } := by have := List.length_eq_zero_iff.1 h; simp [upd, this]
theorem upd_y {d : Dev} (h : d.r2 % 2 = 1) (h2 : 0 < d.q.length) : upd d = { d with up := true } := by have := List.ne_nil_of_length_pos h2; simp [upd, h, this]
theorem update_any {w : World} {g : Nat} {t : TypeId} {d : Dev} {p : Option Addr} {n c : Nat} (hB : BoxAt w g t d (.slice p n c)) (hn : n = d.q.length) :
    Calls Try.prog 43 #[.pointer (some ⟨g, 0, none⟩)] w fun e w' => e = .returned (.tuple #[]) ∧ Svg g w w' ∧ BoxAt w' g t (upd d) (.slice p n c) := by
  obtain ⟨k0, k1, k2, k3, k4, k5, k6, k7⟩ := hB.cells
  have f7 := hB.frozen 7
  have HB := Lib.hid hB
  have HN := Lib.hid hn
  clear hB hn
  by_cases h : d.r2 % 2 = 1
  · have H := Lib.hid h
    clear h
    by_cases h2 : 0 < n
    · go_enter Try.func43, Try.ntmps43
      go_wp2_with (go_at_call 47; ((with_reducible refine (enabled_y HB.out H.out).mono ?_); rintro e w' ⟨rfl, rfl⟩))
      go_end0
      exact ⟨rfl, Svg.set _ _ _ _, by rw [upd_y H.out (by have := HN.out; omega)]; exact HB.out.up true⟩
    · have hz : n = 0 := by omega
      subst hz
      clear h2
      go_enter Try.func43, Try.ntmps43
      go_wp2_with (go_at_call 47; ((with_reducible refine (enabled_y HB.out H.out).mono ?_); rintro e w' ⟨rfl, rfl⟩))
      go_end0
      exact ⟨rfl, Svg.set _ _ _ _, by rw [upd_e HN.out.symm]; exact HB.out.up false⟩
  · have H := Lib.hid h
    clear h
    go_enter Try.func43, Try.ntmps43
    go_wp2_with (go_at_call 47; ((with_reducible refine (enabled_n HB.out H.out).mono ?_); rintro e w' ⟨rfl, rfl⟩))
    go_end0
    exact ⟨rfl, Svg.set _ _ _ _, by rw [upd_n H.out]; exact HB.out.up false⟩
theorem results_cell1 {P : Program} {fn : Func} {p : Tmp} {ty : TypeId} (h : fn.results = #[.cell p ty]) (tmps : Array Value) (w : World) (g : Nat) (t : TypeId) (cs : Array Value) (fr : Nat × Nat) (d : TypeDesc)
    (hp : tmps.getD p undef = .pointer (some ⟨g, 0, none⟩)) (hg : w.heap[g]? = some (.cells cs t fr))
    (hu : P.underlying ty = some d) (hd : (match d with | .struct _ | .array _ _ => true | _ => false) = true) (hi : (P.info? ty).map (·.size) = some cs.size) :
    (results fn tmps).run P w = .ok (.agg cs) w := by
  have hp' : tmps[p]?.getD undef = .pointer (some ⟨g, 0, none⟩) := by simpa using hp
  simp [results, h, hp', asAddr, run_loadVar_row w g t ty cs fr d hg hu hd hi]
theorem results_slot_cell {P : Program} {fn : Func} {p q : Tmp} {ty : TypeId} (h : fn.results = #[.tmp q, .cell p ty]) (tmps : Array Value) (w : World) (g : Nat) (t : TypeId) (cs : Array Value) (fr : Nat × Nat) (d : TypeDesc) (v : Value)
    (hp : tmps.getD p undef = .pointer (some ⟨g, 0, none⟩)) (hq : tmps.getD q undef = v) (hg : w.heap[g]? = some (.cells cs t fr))
    (hu : P.underlying ty = some d) (hd : (match d with | .struct _ | .array _ _ => true | _ => false) = true) (hi : (P.info? ty).map (·.size) = some cs.size) :
    (results fn tmps).run P w = .ok (.tuple #[v, .agg cs]) w := by
  have hp' : tmps[p]?.getD undef = .pointer (some ⟨g, 0, none⟩) := by simpa using hp
  have hq' : tmps[q]?.getD undef = v := by simpa using hq
  simp [results, h, hp', hq', asAddr, run_loadVar_row w g t ty cs fr d hg hu hd hi]
theorem told_any {w : World} {g : Nat} {t : TypeId} {d : Dev} {p : Option Addr} {n c : Nat} (hB : BoxAt w g t d (.slice p n c)) :
    Calls Try.prog 42 #[.pointer (some ⟨g, 0, none⟩)] w fun e w' => e = .returned (dval d (.slice p n c)) ∧ Bel w w' := by
  obtain ⟨k0, k1, k2, k3, k4, k5, k6, k7⟩ := hB.cells
  have hlt := lt_of_heap hB
  have HB := Lib.hid hB
  clear hB
  go_enter Try.func42, Try.ntmps42
  go_wp2
  exact bodyPost_ret (results_cell1 Try.results42 _ _ w.heap.size _ _ _ _ rfl (heap_alloc_new w (.cells (dcells d (.slice p n c)) 27)) Try.underlying27 rfl (by kernel_rfl)) rfl ⟨rfl, (Bel.refl w).alloc _ _⟩
end Go.Proofs.Ytbhpnoodpicdkaa
