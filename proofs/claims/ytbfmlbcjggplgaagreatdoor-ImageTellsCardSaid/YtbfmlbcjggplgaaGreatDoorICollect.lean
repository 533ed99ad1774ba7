/- One element more in a variable's slice, whatever has been made before it. -/
import Derived.RangeFuncNested
import Derived.Maps.AppendAt
import Derived.RangeFuncBox
import Derived.TacticsInMore
import Derived.Test.YtbfmlbcjggplgaaGreatDoorIInv
namespace Go.Proofs.YtbfmlbcjggplgaaGreatDoor
open Go.RowKit
set_option linter.unusedVariables false
attribute [local go_sem] Oper.semAt_some
theorem others_bel {A B : World} (h : Bel A B) : KeepsOthers A B := ⟨h.size, fun k o hk _ => (h.block k (lt_of_heap hk)).trans hk⟩
structure More (W : World) (Z : Nat → Prop) (n₀ box : Nat) (t e : TypeId) (size k : Nat) (ys : List Value) (v v' : Value) (w2 : World) : Prop where
  form : ∃ g c, v' = .slice (some ⟨g, 0, none⟩) (k + 1) c
  cell : w2.cell? ⟨box, 0, none⟩ = some v
  frozen : w2.frozen? ⟨box, 0, none⟩ = false
  boxed : Boxed (w2.setCell ⟨box, 0, none⟩ v') box t v'
  row : (w2.setCell ⟨box, 0, none⟩ v').ownsRow n₀ e size v' (k + 1) ys
  others : KeepsOthers W (w2.setCell ⟨box, 0, none⟩ v')
  below : Below n₀ W (w2.setCell ⟨box, 0, none⟩ v')
  kept : ∀ j, Z j → (w2.setCell ⟨box, 0, none⟩ v').heap[j]? = W.heap[j]?
theorem collect {P : Program} {Z : Nat → Prop} {n₀ box : Nat} {t e : TypeId} {i : TypeInfo} {z : Value} {size bytes : Nat} (ht : P.underlying t = some (.slice e)) (hi : P.info? e = some i) (hz : i.zero = some z) (hsize : i.size = size) (hby : i.bytes = bytes)
    (hzs : z.cells.size = size) (hsz : 0 < size) {W w' : World} {v : Value} {k : Nat} {xs news : List Value} (hv : Boxed W box t v) (hrow : W.ownsRow n₀ e size v k xs) (hb : Bel W w') (hn : n₀ ≤ W.heap.size) (hB : n₀ ≤ box) (hte : t ≠ e)
    (B : Nat) (hl : news.length = size) (hnews : w'.heap[B]? = some (.cells news.toArray e (0, 0))) (h1 : ∀ u ∈ news, u.oneCell' = true) (hk : k ≤ 2000000) (hbt : bytes ≤ 24) (hZ : ∀ j, Z j → j ≠ box ∧ ∃ tz u, Boxed W j tz u ∧ tz ≠ e) :
    ∃ v' w2, (Builtin.append_ #[t, t] t #[v, .slice (some ⟨B, 0, none⟩) 1 1]).run P w' = .ok v' w2 ∧ More W Z n₀ box t e size k (xs ++ news) v v' w2 := by
  have hv' := hb.stays hv
  have hrow' : w'.ownsRow n₀ e size v k xs := ownsRow_sv hrow (hb.sv fun _ => False) (fun _ _ c => c)
  obtain ⟨v', w2, hrun, hown, hg, _⟩ := run_append_own (P := P) w' n₀ t t e i z size bytes ht hi hz hsize hby hzs hsz v k xs hrow' ⟨B, 0, none⟩ 1 1 news (by rw [hl, Nat.one_mul])
    (fun j u hj => by
      rw [Addr.add_lit, Nat.zero_add, cell_of_heap hnews]
      simpa using hj) h1 (by unfold maxLen; omega) (Nat.le_trans (Nat.mul_le_mul (show k + 1 ≤ 2000001 by omega) hbt) (by decide)) (Nat.le_trans hn hb.size)
  have hv2 : Boxed w2 box t v := Boxed.kept hv' hg (Boxed.not_row hv' hte hrow')
  have hcells : ∀ (j : Nat) (o : Obj), v.ownBlock = some j → w'.heap[j]? = some o → o.isCells = true := fun j o ej hj => by
    rcases hrow'.2 with ⟨rfl, _⟩ | ⟨g, cap, cur, rfl, _, hgb, _⟩
    · simp [Value.ownBlock] at ej
    · obtain rfl : g = j := by simpa [Value.ownBlock] using ej
      rw [hgb] at hj
      cases hj
      rfl
  refine ⟨v', w2, hrun, ownsRow_succ hown, hv2.cell, hv2.frozen, hv2.set v', hown.kept (grownBy_setCell' w2 box v') (.inr (hv2.not_row hte hown).symm), ?_, ?_, fun j hj => ?_⟩
  · exact ((others_bel hb).trans (KeepsOthers.of_grownBy hg hcells)).trans (KeepsOthers.setCell _ _ _)
  · refine ((hb.mono hn).trans ((Below.refl n₀ w').grown hg (Nat.le_trans hn hb.size) fun j ej => ?_)).setCell (p := ⟨box, 0, none⟩) hB v'
    rcases hrow'.2 with ⟨rfl, _⟩ | ⟨g, cap, cur, rfl, hbg, _, _⟩
    · simp [Value.ownBlock] at ej
    · obtain rfl : g = j := by simpa [Value.ownBlock] using ej
      exact hbg
  · obtain ⟨hjb, tz, u, hju, hjt⟩ := hZ j hj
    have h3 : w'.heap[j]? = _ := hb.stays hju
    rw [heap_setCell_other _ _ _ _ (show j ≠ box from hjb), hg.block j (lt_of_heap h3) (Boxed.not_row (t := tz) (u := u) h3 hjt hrow')]
    exact hb.block j (lt_of_heap hju)
theorem wpIn_app {l n : Nat} {P : Program} {w w' : World} {o : Oper} {a : Act} {K : Act → World → Prop} {Q : Exit → Act → World → Prop} (s x : Operand) (t : TypeId)
    (ho : o.op = .call { callee := .builtin .append, args := #[s, x], argTypes := #[t, t] }) (sv xv r : Value) (hs : a.eval s = sv) (hx : a.eval x = xv)
    (hrun : (Builtin.append_ #[t, t] o.type #[sv, xv]).run P w = .ok r w') {d : Nat} (hd : o.dst = some d) (h : K { a with tmps := a.tmps.setIfInBounds d r } w') : Oper.wpIn (Fence.wide.inRound l) n P o a w K Q := by
  unfold Oper.wpIn
  refine ⟨fun f _ => trivial, ?_⟩
  show Oper.uponIn _ n P o a K Q ((Oper.semAt (some l) a.eval o).run P w)
  rw [Oper.semAt_some _ _ _ (by rw [ho]; simp)]
  simp [execOp, ho, resolve, invoke, builtin, hs, hx, hrun, Result.andThen]
  rw [Oper.uponIn_value]
  show K (a.put o.dst r) w'
  rw [hd]
  exact h
end Go.Proofs.YtbfmlbcjggplgaaGreatDoor
