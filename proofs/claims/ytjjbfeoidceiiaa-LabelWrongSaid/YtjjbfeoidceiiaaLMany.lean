/- Several items appended at once to a row of the call's own. -/
import Derived.Test.YtjjbfeoidceiiaaLFitA
namespace Go.Proofs.Ytjjbfeoidceiiaa
open Go.RowKit Rv Lb
set_option linter.unusedVariables false
theorem flat8_at {w : World} {B o : Nat} {l : List Itm} (h : ItemsAt w B o l) : ∀ (q : Nat) (u : Value), (l.flatMap cells8)[q]? = some u → w.cell? ⟨B, o + q, none⟩ = some u := by
  intro q u hq
  have len8 : ∀ (l : List Itm), (l.flatMap cells8).length = l.length * 8 := by
    intro l
    induction l with
    | nil => rfl
    | cons x l ih => rw [List.flatMap_cons, List.length_append, ih, List.length_cons]; simp [cells8]; omega
  have hql := (List.getElem?_eq_some_iff.1 hq).1
  rw [len8] at hql
  have hj : q / 8 < l.length := by omega
  have hx : l[q / 8]? = some l[q / 8] := List.getElem?_eq_getElem hj
  have hc : ∃ v, (cells8 l[q / 8])[q % 8]? = some v := ⟨_, List.getElem?_eq_getElem (by simp [cells8]; omega)⟩
  obtain ⟨v, hv⟩ := hc
  have h1 := flat8_get hx hv
  rw [show q / 8 * 8 + q % 8 = q by omega, hq] at h1
  obtain rfl := Option.some.inj h1
  have h2 := h.2 _ _ hx _ _ hv
  rw [show o + q / 8 * 8 + q % 8 = o + q by omega] at h2
  exact h2
theorem len8 (l : List Itm) : (l.flatMap cells8).length = l.length * 8 := by
  induction l with
  | nil => rfl
  | cons x l ih => rw [List.flatMap_cons, List.length_append, ih, List.length_cons]; simp [cells8]; omega
theorem one8 (l : List Itm) : ∀ u ∈ l.flatMap cells8, u.oneCell' = true := by
  intro u hu
  obtain ⟨x, _, hx⟩ := List.mem_flatMap.1 hu
  simp only [cells8, List.mem_cons, List.not_mem_nil, or_false] at hx
  rcases hx with rfl | rfl | rfl | rfl | rfl | rfl | rfl | rfl <;> rfl
theorem xrow_many {w : World} {base : Nat} {v : Value} {l : List Itm} (h : XRow w base v l) (ty : TypeId) (B o c : Nat) (ys : List Itm) (hc : ItemsAt w B o ys) (hm : 0 < ys.length ∨ v ≠ .slice none 0 0) (hlen : l.length + ys.length ≤ 1000) (hbase : base ≤ w.heap.size) :
    ∃ v' w', (Builtin.append_ #[22, 22] ty #[v, .slice (some ⟨B, o, none⟩) ys.length c]).run Try.prog w = .ok v' w' ∧ XRow w' base v' (l ++ ys) ∧ Sav (fun k => v.ownBlock = some k) w w' ∧ v' ≠ .slice none 0 0 := by
  obtain ⟨i, hi, ⟨z, hz, hzs⟩, hsz, hb⟩ := info_itm
  obtain ⟨v', w', hrun, h1, h2, h3⟩ := append_sav (P := Try.prog) w base 22 ty 26 i z 8 72 Try.underlying22 hi hz hsz hb hzs (by decide) v l.length _ h ⟨B, o, none⟩ ys.length c (ys.flatMap cells8) (len8 ys)
    (by intro j u hj; rw [Addr.add_lit]; exact flat8_at hc j u hj) (one8 ys) (by unfold maxLen; omega) (by omega) hbase hm
  have e1 : (l ++ ys).length = l.length + ys.length := List.length_append
  have e2 : (l ++ ys).flatMap cells8 = l.flatMap cells8 ++ ys.flatMap cells8 := List.flatMap_append
  refine ⟨v', w', hrun, ?_, h2, h3⟩
  unfold XRow
  rw [e1, e2]
  exact h1
/-- at a step of a region that draws its order -/
theorem step_xrows {ops : Array Oper} {o : Oper} {a : Act} {w : World} {K : Act → World → Prop} {Q : Exit → Act → World → Prop} {E : Prop} (hg : o.guard = none) (s x : Operand)
    (hop : o.op = .call { callee := .builtin .append, args := #[s, x], argTypes := #[22, 22] }) (base : Nat) (v : Value) (l : List Itm) (hs : a.eval s = v) (h : XRow w base v l) (B off c : Nat) (ys : List Itm) (hx : a.eval x = .slice (some ⟨B, off, none⟩) ys.length c)
    (hc : ItemsAt w B off ys) (hm : 0 < ys.length ∨ v ≠ .slice none 0 0) (hlen : l.length + ys.length ≤ 1000) (hbase : base ≤ w.heap.size)
    (hK : ∀ v' w', XRow w' base v' (l ++ ys) → Sav (fun k => v.ownBlock = some k) w w' → v' ≠ .slice none 0 0 → K (a.put o.dst v') w') : if Region.wanted o (yielded ops a.tmps) = true then Oper.wp Try.prog o a w K Q else E := by
  obtain ⟨v', w', hrun, h1, h2, h3⟩ := xrow_many h o.type B off c ys hc hm hlen hbase
  exact step_app hg s x _ hop v _ v' hs hx hrun (hK v' w' h1 h2 h3)
/-- a part of items -/
theorem ItemsAt.part {w : World} {B o : Nat} {l : List Itm} (h : ItemsAt w B o l) (i n : Nat) : ItemsAt w B (o + i * 8) ((l.drop i).take n) := by
  refine ⟨h.1, fun j x hj k u hu => ?_⟩
  rw [List.getElem?_take] at hj
  split at hj
  · rw [List.getElem?_drop] at hj
    have := h.2 (i + j) x hj k u hu
    rw [show o + (i + j) * 8 + k = o + i * 8 + j * 8 + k by omega] at this
    exact this
  · cases hj
/-- a part, which may be empty, appended to nothing -/
theorem xrow_start (w : World) (base : Nat) (ty : TypeId) (B o c : Nat) (ys : List Itm) (hc : ItemsAt w B o ys) (hlen : ys.length ≤ 1000) (hbase : base ≤ w.heap.size) :
    ∃ v' w', (Builtin.append_ #[22, 22] ty #[.slice none 0 0, .slice (some ⟨B, o, none⟩) ys.length c]).run Try.prog w = .ok v' w' ∧ XRow w' base v' ys ∧ Both w w' := by
  by_cases h0 : ys.length = 0
  · obtain rfl : ys = [] := List.eq_nil_of_length_eq_zero h0
    obtain ⟨i, hi, ⟨z, hz, hzs⟩, hsz, hb⟩ := info_itm
    refine ⟨.slice none 0 0, w, ?_, World.ownsRow_nil w base 26 8, Both.refl _⟩
    simp [Builtin.append_, run_underlying Try.underlying22, sizeOf, typeInfo, hi, Builtin.lenOf, Builtin.firstCells, loadCells, loadCellsFrom]
  · have hr : XRow w base (.slice none 0 0) [] := World.ownsRow_nil w base 26 8
    obtain ⟨v', w', h1, h2, h3, _⟩ := xrow_many hr ty B o c ys hc (Or.inl (by omega)) (by simpa using hlen) hbase
    refine ⟨v', w', h1, by simpa using h2, h3.both (Both.refl _) (fun j hj => by simp [Value.ownBlock] at hj)⟩
theorem step_start {ops : Array Oper} {o : Oper} {a : Act} {w : World} {K : Act → World → Prop} {Q : Exit → Act → World → Prop} {E : Prop} (hg : o.guard = none) (s x : Operand)
    (hop : o.op = .call { callee := .builtin .append, args := #[s, x], argTypes := #[22, 22] }) (base : Nat) (hs : a.eval s = .slice none 0 0) (B off c : Nat) (ys : List Itm) (hx : a.eval x = .slice (some ⟨B, off, none⟩) ys.length c)
    (hc : ItemsAt w B off ys) (hlen : ys.length ≤ 1000) (hbase : base ≤ w.heap.size)
    (hK : ∀ v' w', XRow w' base v' ys → Both w w' → K (a.put o.dst v') w') : if Region.wanted o (yielded ops a.tmps) = true then Oper.wp Try.prog o a w K Q else E := by
  obtain ⟨v', w', hrun, h1, h2⟩ := xrow_start w base o.type B off c ys hc hlen hbase
  exact step_app hg s x _ hop _ _ v' hs hx hrun (hK v' w' h1 h2)
theorem wpList_xrows {ops : Array Oper} {rest : List Oper} {o : Oper} {a : Act} {w : World} {Q : Exit → Act → World → Prop} (hgd : o.guard = none) (s x : Operand)
    (ho : o.op = .call { callee := .builtin .append, args := #[s, x], argTypes := #[22, 22] }) (base : Nat) (v : Value) (l : List Itm) (hs : a.eval s = v) (h : XRow w base v l) (B off c : Nat) (ys : List Itm) (hx : a.eval x = .slice (some ⟨B, off, none⟩) ys.length c)
    (hc : ItemsAt w B off ys) (hm : 0 < ys.length ∨ v ≠ .slice none 0 0) (hlen : l.length + ys.length ≤ 1000) (hbase : base ≤ w.heap.size)
    (hK : ∀ v' w', XRow w' base v' (l ++ ys) → Sav (fun k => v.ownBlock = some k) w w' → v' ≠ .slice none 0 0 → wpList Try.prog ops Q rest (a.put o.dst v') w') : wpList Try.prog ops Q (o :: rest) a w := by
  obtain ⟨v', w', hrun, h1, h2, h3⟩ := xrow_many h o.type B off c ys hc hm hlen hbase
  exact wpList_app hgd s x _ ho v _ v' hs hx hrun (hK v' w' h1 h2 h3)
end Go.Proofs.Ytjjbfeoidceiiaa
