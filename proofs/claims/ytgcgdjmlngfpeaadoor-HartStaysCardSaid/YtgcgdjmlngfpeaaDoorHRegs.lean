/- The registers of a hart stored whole. -/
import Derived.Test.YtgcgdjmlngfpeaaDoorHDraw2
namespace Go.Proofs.YtgcgdjmlngfpeaaDoor
open Go.RowKit Ht
set_option linter.unusedVariables false
set_option linter.unusedSimpArgs false
/-- h with the numbers l from o on -/
def ovr (h : H) : Nat → List Int → H
  | _, [] => h
  | o, x :: t => ovr (up h o x) (o + 1) t
theorem ovr_at : ∀ (l : List Int) (h : H) (o j : Nat), ovr h o l j = if o ≤ j ∧ j < o + l.length then l.getD (j - o) 0 else h j
  | [], h, o, j => by rw [if_neg (by simp)]; rfl
  | x :: t, h, o, j => by
    show ovr (up h o x) (o + 1) t j = _
    rw [ovr_at t]
    by_cases c : o ≤ j ∧ j < o + (x :: t).length
    · rw [if_pos c]
      simp only [List.length_cons] at c
      by_cases e : j = o
      · subst e
        rw [if_neg (by omega), up_at]
        simp
      · rw [if_pos (by omega)]
        obtain ⟨k, hk⟩ : ∃ k, j - o = k + 1 := ⟨j - o - 1, by omega⟩
        have hk2 : j - (o + 1) = k := by omega
        rw [hk, hk2]
        simp
    · rw [if_neg c]
      simp only [List.length_cons] at c
      rw [if_neg (by omega), up_ne _ _ (by omega)]
theorem set_ints {g : Nat} : ∀ (l : List Int) (h : H) (o : Nat) (w : World), HAt w g h → o + l.length ≤ 39 → HAt (w.setCells g o (ints l)) g (ovr h o l) ∧ Svg g w (w.setCells g o (ints l))
  | [], h, o, w, k, _ => ⟨k, Svg.refl g w⟩
  | x :: t, h, o, w, k, hl => by
    simp only [List.length_cons] at hl
    have := set_ints t (up h o x) (o + 1) _ (k.set (j := o) (by omega) x) (by omega)
    exact ⟨this.1, (Svg.set g o w (.int .i64 x)).trans this.2⟩
/-- h with the registers of r -/
def regsOf (r h : H) : H := fun j => if j < 32 then r j else h j
theorem regsOf_lt (r h : H) {j : Nat} (hj : j < 32) : regsOf r h j = r j := if_pos hj
theorem regsOf_ge (r h : H) {j : Nat} (hj : ¬ j < 32) : regsOf r h j = h j := if_neg hj
theorem ovr_regs (r h : H) : ovr h 0 ((List.range 32).map r) = regsOf r h := by
  funext j
  rw [ovr_at]
  unfold regsOf
  by_cases c : j < 32
  · rw [if_pos (by simpa using c), if_pos c, Nat.sub_zero, List.getD_eq_getElem?_getD]
    simp [c]
  · rw [if_neg (by simpa using c), if_neg c]
theorem set_regs {w : World} {g : Nat} {h : H} (k : HAt w g h) (r : H) : HAt (w.setCells g 0 (ints ((List.range 32).map r))) g (regsOf r h) ∧ Svg g w (w.setCells g 0 (ints ((List.range 32).map r))) := by
  have := set_ints ((List.range 32).map r) h 0 w k (by simp)
  rw [ovr_regs] at this
  exact this
theorem run_store_regs {o : Oper} {ρ : Operand → Value} {w : World} (x y : Operand) (ho : o.op = .store 26 x y) (g : Nat) (hx : ρ x = .pointer (some ⟨g, 0, none⟩)) {r h : H} (hy : ρ y = rV r) (hg : HAt w g h) :
    w.there g 0 (ints ((List.range 32).map r)).toArray.size ∧ (Tryd.prog.info? 26).map (·.size) = some (ints ((List.range 32).map r)).toArray.size ∧ (ints ((List.range 32).map r)).toArray.all (·.oneCell') = true := by
  have hs : (ints ((List.range 32).map r)).toArray.size = 32 := by simp [ints]
  rw [hs]
  refine ⟨fun j hj => ?_, by kernel_rfl, ?_⟩
  · rw [Nat.zero_add]
    exact ⟨by rw [hg.cell (by omega)]; rfl, hg.frozen j⟩
  · simp [ints, Value.oneCell']
theorem wpList_store_regs {ops : Array Oper} {rest : List Oper} {o : Oper} {a : Act} {w : World} {Q : Exit → Act → World → Prop} (hgd : o.guard = none) (x y : Operand) (ho : o.op = .store 26 x y)
    (g : Nat) (hx : a.eval x = .pointer (some ⟨g, 0, none⟩)) (r h : H) (hy : a.eval y = rV r) (hg : HAt w g h)
    (k : ∀ w', HAt w' g (regsOf r h) → Svg g w w' → wpList Tryd.prog ops Q rest (a.put o.dst undef) w') : wpList Tryd.prog ops Q (o :: rest) a w := by
  obtain ⟨h1, h2, h3⟩ := run_store_regs x y ho g hx hy hg
  have := set_regs hg r
  exact wpList_store_mid hgd 26 x y ho g 0 _ hx hy h1 h2 h3 (k _ this.1 this.2)
theorem regsU {ops : Array Oper} {Q : Exit → Act → World → Prop} {md : Region.Mode} {T : World → Prop} {z : Nat} {i : Nat} {oi : Oper} {n : Nat} {ls : Array Bool} {a : Act} {w : World} (hi : ops[i]? = some oi) (hd : oi.dst = none) (hr : Region.ready md ops ls = [i]) (hw : Region.wanted oi (yielded ops a.tmps) = true)
    (x y : Operand) (ho : oi.op = .store 26 x y) (g : Nat) (hx : a.eval x = .pointer (some ⟨g, 0, none⟩)) (r h : H) (hy : a.eval y = rV r) (hg : HAt w g h)
    (hT : ∀ w', HAt w' g (regsOf r h) → Svg g w w' → T w') (k : ∀ w', HAt w' g (regsOf r h) → Svg g w w' → Upto Tryd.prog md ops Q T z n (ls.setIfInBounds i true) a w') : Upto Tryd.prog md ops Q T z (n + 1) ls a w := by
  obtain ⟨h1, h2, h3⟩ := run_store_regs x y ho g hx hy hg
  have := set_regs hg r
  exact midU hi hd hr hw (fun K hK => wp_store_mid 26 x y ho g 0 _ hx hy h1 h2 h3 (hK.out _ _ (hT _ this.1 this.2) (k _ this.1 this.2)))
end Go.Proofs.YtgcgdjmlngfpeaaDoor
