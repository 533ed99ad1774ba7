/- Branches, as package label lists them: sizeOf, spans, branches. -/
import Derived.Test.YtjjbfeoidceiiaaLReckon
import Derived.Test.YtjjbfeoidceiiaaLTargets
import Derived.Test.YtjjbfeoidceiiaaLRight
namespace Go.Proofs.Ytjjbfeoidceiiaa
open Go.RowKit Rv Lb
set_option linter.unusedVariables false
theorem wpList_irow_one {ops : Array Oper} {rest : List Oper} {o : Oper} {a : Act} {w : World} {Q : Exit → Act → World → Prop} (hgd : o.guard = none) (s x : Operand) (t : TypeId) (ht : Try.prog.underlying t = some (.slice 3))
    (ho : o.op = .call { callee := .builtin .append, args := #[s, x], argTypes := #[t, t] }) (base : Nat) (v : Value) (l : List Int) (hs : a.eval s = v) (h : IRow w base v l) (B : Nat) (y : Int) (hx : a.eval x = .slice (some ⟨B, 0, none⟩) 1 1)
    (hc : w.cell? ⟨B, 0, none⟩ = some (.int .i64 y)) (hlen : l.length + 1 ≤ 1099511627776) (hbase : base ≤ w.heap.size)
    (hK : ∀ v' w', IRow w' base v' (l ++ [y]) → Sav (fun k => v.ownBlock = some k) w w' → v' ≠ .slice none 0 0 → wpList Try.prog ops Q rest (a.put o.dst v') w') : wpList Try.prog ops Q (o :: rest) a w := by
  obtain ⟨v', w', hrun, h1, h2, h3⟩ := irow_one h t o.type ht B y hc hlen hbase
  exact wpList_app hgd s x t ho v _ v' hs hx hrun (hK v' w' h1 h2 h3)
theorem size1_bd {x : Itm} (h : rightX x = true) : size1 x ≤ 4096 := by
  unfold size1
  split
  · omega
  split
  · unfold number
    split
    · split <;> simp
    · simp
  split
  · rename_i h5
    unfold rightX at h
    rw [if_neg (by omega), if_neg (by omega), if_neg (by omega), if_neg (by omega), if_pos h5] at h
    simp at h
    omega
  · omega
set_option maxHeartbeats 2000000 in
theorem sizeOf_any (x : Itm) (hr : rightX x = true) (hw : Itm.wf x) (w : World) : Calls Try.prog 63 #[xval x] w fun e w' => e = .returned (.int .i64 (size1 x)) ∧ Both w w' := by
  obtain ⟨k, ⟨o, d, a, b, n⟩, s, m⟩ := x
  show Calls _ _ #[.agg #[.int .i64 k, .int .i64 o, .int .i64 d, .int .i64 a, .int .i64 b, .int .i64 n, .string s, .int .i64 m]] w _
  by_cases h2 : k = 2
  · subst h2
    clear hr hw
    go_enter Try.func63, Try.ntmps63
    go_wp2_with fail
    go_ret
    exact ⟨rfl, (Both.refl _).alloc _ _⟩
  by_cases h4 : k = 4
  · subst h4
    have e : size1 ⟨4, ⟨o, d, a, b, n⟩, s, m⟩ = (number d m).length := by
      unfold size1
      rw [if_neg (by simp), if_pos rfl]
    rw [e]
    clear hr hw e h2
    go_enter Try.func63, Try.ntmps63
    go_wp2_with (go_at_call 21; ((with_reducible refine (number_any d m _).mono ?_); rintro e W1 ⟨p, c, rfl, hat, hb1⟩; have HB := Lib.hid hb1; clear hb1 hat))
    go_ret
    exact ⟨rfl, ((Both.refl _).alloc _ _).trans HB.out⟩
  by_cases h5 : k = 5
  · subst h5
    have hm : 0 ≤ m := by
      unfold rightX at hr
      simp at hr
      omega
    have e : ((size1 ⟨5, ⟨o, d, a, b, n⟩, s, m⟩ : Nat) : Int) = m := by
      unfold size1
      rw [if_neg (by simp), if_neg (by simp), if_pos rfl]
      simp only
      omega
    rw [e]
    clear hr hw e h2 h4
    go_enter Try.func63, Try.ntmps63
    go_wp2_with fail
    go_ret
    exact ⟨rfl, (Both.refl _).alloc _ _⟩
  have e : size1 ⟨k, ⟨o, d, a, b, n⟩, s, m⟩ = 1 := by
    unfold size1
    rw [if_neg h2, if_neg h4, if_neg h5]
  rw [e]
  have g2 : (k == 2) = false := by simp [h2]
  have g4 : (k == 4) = false := by simp [h4]
  have g5 : (k == 5) = false := by simp [h5]
  clear hr hw e h2 h4 h5
  go_enter Try.func63, Try.ntmps63
  go_wp2_with fail
  go_ret
  exact ⟨rfl, (Both.refl _).alloc _ _⟩
theorem spans_any (at' to' i : Nat) (rm : Int) (w : World) :
    Calls Try.prog 84 #[.agg #[.int .i64 at', .int .i64 to', .int .i64 rm], .int .i64 i] w fun e w' => e = .returned (.bool (decide (at' < i ∧ i < to') || decide (to' < i ∧ i < at'))) ∧ Both w w' := by
  by_cases h1 : at' < i
  · by_cases h2 : i < to'
    · have e : (decide (at' < i ∧ i < to') || decide (to' < i ∧ i < at')) = true := by simp [h1, h2]
      rw [e]
      go_enter Try.func84, Try.ntmps84
      go_wp2_with fail
      go_ret
      exact ⟨rfl, (Both.refl _).alloc _ _⟩
    · have e : (decide (at' < i ∧ i < to') || decide (to' < i ∧ i < at')) = false := by simp [h2]; omega
      rw [e]
      have h4 : ¬ i < at' := by omega
      by_cases h3 : to' < i
      all_goals
        go_enter Try.func84, Try.ntmps84
        go_wp2_with fail
        go_ret
        exact ⟨rfl, (Both.refl _).alloc _ _⟩
  · by_cases h3 : to' < i
    · by_cases h4 : i < at'
      · have e : (decide (at' < i ∧ i < to') || decide (to' < i ∧ i < at')) = true := by simp [h3, h4]
        rw [e]
        go_enter Try.func84, Try.ntmps84
        go_wp2_with fail
        go_ret
        exact ⟨rfl, (Both.refl _).alloc _ _⟩
      · have e : (decide (at' < i ∧ i < to') || decide (to' < i ∧ i < at')) = false := by simp [h1, h4]
        rw [e]
        go_enter Try.func84, Try.ntmps84
        go_wp2_with fail
        go_ret
        exact ⟨rfl, (Both.refl _).alloc _ _⟩
    · have e : (decide (at' < i ∧ i < to') || decide (to' < i ∧ i < at')) = false := by simp [h1, h3]
      rw [e]
      go_enter Try.func84, Try.ntmps84
      go_wp2_with fail
      go_ret
      exact ⟨rfl, (Both.refl _).alloc _ _⟩
end Go.Proofs.Ytjjbfeoidceiiaa
