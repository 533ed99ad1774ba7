/- What was stored last, step by step; a box of four numbers. -/
import Derived.Test.YtigefdoejcggpaaNSet
namespace Go.Proofs.Ytigefdoejcggpaa
open Go.RowKit Ax
set_option linter.unusedVariables false
set_option linter.unusedSimpArgs false
theorem seen_succ (l : List Ev) (j : Nat) (a : Int) : Ax.seen l (j + 1) a = if isSt (ev l j) a then (ev l j).2.2.2 else Ax.seen l j a := by
  unfold Ax.seen lst
  rw [List.range_succ, List.map_append, List.foldl_append]
  rfl
theorem seen_zero (l : List Ev) (a : Int) : Ax.seen l 0 a = 0 := rfl
/-- the box of what was stored last -/
abbrev ABox (w : World) (g : Nat) (f : Int → Int) : Prop := w.heap[g]? = some (.cells #[.int .i64 (f 0), .int .i64 (f 1), .int .i64 (f 2), .int .i64 (f 3)] 42 (0, 0))
theorem ABox.cell {w : World} {g : Nat} {f : Int → Int} (h : ABox w g f) {t : Nat} (ht : t < 4) : w.cell? ⟨g, t, none⟩ = some (.int .i64 (f t)) := by
  rw [cell_of_heap h]
  have : t = 0 ∨ t = 1 ∨ t = 2 ∨ t = 3 := by omega
  rcases this with rfl | rfl | rfl | rfl <;> rfl
theorem ABox.set {w : World} {g : Nat} {f f' : Int → Int} (h : ABox w g f) {t : Nat} (ht : t < 4) {v : Int} (hf : ∀ a : Int, f' a = if a = t then v else f a) : ABox (w.setCell ⟨g, t, none⟩ (.int .i64 v)) g f' := by
  have h2 := heap_set h t (.int .i64 v)
  show (w.setCell ⟨g, t, none⟩ (.int .i64 v)).heap[g]? = _
  rw [h2, hf 0, hf 1, hf 2, hf 3]
  have : t = 0 ∨ t = 1 ∨ t = 2 ∨ t = 3 := by omega
  rcases this with rfl | rfl | rfl | rfl <;> rfl
theorem seen_st {l : List Ev} {j : Nat} {x0 t x3 : Int} (h : ev l j = (x0, 2, t, x3)) : ∀ a : Int, Ax.seen l (j + 1) a = if a = t then x3 else Ax.seen l j a := fun a => by
  rw [seen_succ, h]
  unfold isSt
  by_cases c : a = t
  · subst c; simp
  · rw [if_neg c, if_neg]
    simp only [Bool.and_eq_true, decide_eq_true_eq]
    rintro ⟨_, c2⟩
    exact c c2.symm
theorem seen_no {l : List Ev} {j : Nat} (h : (ev l j).2.1 ≠ 2) : Ax.seen l (j + 1) = Ax.seen l j := by
  funext a
  rw [seen_succ]
  unfold isSt
  rw [decide_eq_false h]
  rfl
/-- all on one hart -/
def setH (h : Int) (e : Ev) : Ev := (h, e.2)
theorem seen_map {l : List Ev} {g : Ev → Ev} (hg : ∀ e, (g e).2.1 = e.2.1 ∧ (g e).2.2.1 = e.2.2.1 ∧ (e.2.1 = 2 → (g e).2.2.2 = e.2.2.2)) {i : Nat} (hi : i ≤ l.length) (a : Int) : Ax.seen (l.map g) i a = Ax.seen l i a := by
  induction i with
  | zero => rfl
  | succ i ih =>
    rw [seen_succ, seen_succ, ih (by omega), ev_map (by omega) (by omega)]
    obtain ⟨h1, h2, h3⟩ := hg (ev l i)
    unfold isSt
    rw [h1, h2]
    by_cases hk : (ev l i).2.1 = 2
    · rw [h3 hk]
    · simp [hk]
def mixH (h : Int) (l : List Ev) (j : Nat) : List Ev := (l.take j).map (setH h) ++ l.drop j
def wantV (l : List Ev) (j : Nat) : Bool := (List.range j).all fun (i : Nat) => !(decide ((ev l i).2.1 = 1)) || decide ((ev l i).2.2.2 = Ax.seen l i (ev l i).2.2.1)
theorem wantV_succ (l : List Ev) (j : Nat) : wantV l (j + 1) = (wantV l j && (!(decide ((ev l j).2.1 = 1)) || decide ((ev l j).2.2.2 = Ax.seen l j (ev l j).2.2.1))) := by
  unfold wantV
  rw [List.range_succ, List.all_append]
  simp
theorem want_allowed {l : List Ev} (hs : Small l) {h : Int} (h0 : 0 ≤ h) (h4 : h < 4) : allowed (l.map (setH h)) = wantV l l.length := by
  have hr : right (l.map (setH h)) = true := by
    refine right_iff.2 ⟨by rw [List.length_map]; have := hs.len; omega, fun e he => ?_⟩
    obtain ⟨x, hx, rfl⟩ := List.mem_map.1 he
    have := hs.ev x hx
    unfold isEv isAcc setH at *
    simp only [Bool.and_eq_true, decide_eq_true_eq] at this ⊢
    exact ⟨⟨h0, h4⟩, this.2⟩
  have hev : ∀ i : Nat, i < l.length → ev (l.map (setH h)) i = setH h (ev l i) := fun i hi => ev_map (by omega) (by omega)
  rw [Bool.eq_iff_iff, alone_allowed (h := h) hr (fun i hi => by rw [List.length_map] at hi; rw [hev i hi]; rfl)]
  unfold wantV
  simp only [List.all_eq_true, List.mem_range, Bool.or_eq_true, Bool.not_eq_true', decide_eq_false_iff_not, decide_eq_true_iff, List.length_map]
  refine forall_congr' fun i => forall_congr' fun hi => ?_
  rw [hev i hi, seen_map (g := setH h) (fun e => ⟨rfl, rfl, fun _ => rfl⟩) (by omega)]
  show ((ev l i).2.1 = 1 → (ev l i).2.2.2 = Ax.seen l i (ev l i).2.2.1) ↔ _
  by_cases hk : (ev l i).2.1 = 1 <;> simp [hk]
end Go.Proofs.Ytigefdoejcggpaa
