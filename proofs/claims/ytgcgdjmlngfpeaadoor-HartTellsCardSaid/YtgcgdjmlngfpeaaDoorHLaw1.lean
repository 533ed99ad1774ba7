/- The laws of layer 14: sums in a walk; what raw harts are; which instructions are right. -/
import Derived.Test.YtgcgdjmlngfpeaaDoorHFit
namespace Go.Proofs.YtgcgdjmlngfpeaaDoor
open Go.RowKit Ht
set_option linter.unusedVariables false
set_option linter.unusedSimpArgs false
theorem exec_add {o : Oper} {ρ : Operand → Value} {x y : Operand} {t' : TypeId} (ho : o.op = .binOp .add 3 x y t') {a b c : Int} (hx : ρ x = .int .i64 a) (hy : ρ y = .int .i64 b) (h : IntKind.i64.wrap (a + b) = c) (w : World) : (execOp ρ o).run Tryd.prog w = .ok (.value (.int .i64 c)) w := by
  subst h
  unfold execOp
  simp only [ho, hx, hy]
  simp [go_sem, Tryd.underlying3]
theorem exec_sub {o : Oper} {ρ : Operand → Value} {x y : Operand} {t' : TypeId} (ho : o.op = .binOp .sub 3 x y t') {a b c : Int} (hx : ρ x = .int .i64 a) (hy : ρ y = .int .i64 b) (h : IntKind.i64.wrap (a - b) = c) (w : World) : (execOp ρ o).run Tryd.prog w = .ok (.value (.int .i64 c)) w := by
  subst h
  unfold execOp
  simp only [ho, hx, hy]
  simp [go_sem, Tryd.underlying3]
theorem exec_mul {o : Oper} {ρ : Operand → Value} {x y : Operand} {t' : TypeId} (ho : o.op = .binOp .mul 3 x y t') {a b c : Int} (hx : ρ x = .int .i64 a) (hy : ρ y = .int .i64 b) (h : IntKind.i64.wrap (a * b) = c) (w : World) : (execOp ρ o).run Tryd.prog w = .ok (.value (.int .i64 c)) w := by
  subst h
  unfold execOp
  simp only [ho, hx, hy]
  simp [go_sem, Tryd.underlying3]
theorem exec_and {o : Oper} {ρ : Operand → Value} {x y : Operand} {t' : TypeId} (ho : o.op = .binOp .and 3 x y t') {a b c : Int} (hx : ρ x = .int .i64 a) (hy : ρ y = .int .i64 b) (h : bits .and .i64 a b = c) (w : World) : (execOp ρ o).run Tryd.prog w = .ok (.value (.int .i64 c)) w := by
  subst h
  unfold execOp
  simp only [ho, hx, hy]
  simp [go_sem, Tryd.underlying3]
theorem exec_quo {o : Oper} {ρ : Operand → Value} {x y : Operand} {t' : TypeId} (ho : o.op = .binOp .quo 3 x y t') {a b c : Int} (hx : ρ x = .int .i64 a) (hy : ρ y = .int .i64 b) (hb : b ≠ 0) (h : IntKind.i64.wrap (a.tdiv b) = c) (w : World) : (execOp ρ o).run Tryd.prog w = .ok (.value (.int .i64 c)) w := by
  subst h
  unfold execOp
  simp only [ho, hx, hy]
  simp [go_sem, Tryd.underlying3, hb]
theorem exec_rem {o : Oper} {ρ : Operand → Value} {x y : Operand} {t' : TypeId} (ho : o.op = .binOp .rem 3 x y t') {a b c : Int} (hx : ρ x = .int .i64 a) (hy : ρ y = .int .i64 b) (hb : b ≠ 0) (h : a.tmod b = c) (w : World) : (execOp ρ o).run Tryd.prog w = .ok (.value (.int .i64 c)) w := by
  subst h
  unfold execOp
  simp only [ho, hx, hy]
  simp [go_sem, Tryd.underlying3, hb]
theorem exec_gtr {o : Oper} {ρ : Operand → Value} {x y : Operand} {t' : TypeId} (ho : o.op = .binOp .gtr 3 x y t') {a b : Int} {q : Bool} (hx : ρ x = .int .i64 a) (hy : ρ y = .int .i64 b) (h : decide (b < a) = q) (w : World) : (execOp ρ o).run Tryd.prog w = .ok (.value (.bool q)) w := by
  subst h
  unfold execOp
  simp only [ho, hx, hy]
  simp [go_sem, Tryd.underlying3]
theorem exec_eqF {o : Oper} {ρ : Operand → Value} {x y : Operand} {t' : TypeId} (ho : o.op = .binOp .eql 3 x y t') {a b : Int} (hx : ρ x = .int .i64 a) (hy : ρ y = .int .i64 b) (h : a ≠ b) (w : World) : (execOp ρ o).run Tryd.prog w = .ok (.value (.bool false)) w := by
  unfold execOp
  simp only [ho, hx, hy]
  simp [go_sem, Tryd.underlying3, h]
theorem exec_neT {o : Oper} {ρ : Operand → Value} {x y : Operand} {t' : TypeId} (ho : o.op = .binOp .neq 3 x y t') {a b : Int} {q : Bool} (hx : ρ x = .int .i64 a) (hy : ρ y = .int .i64 b) (h : decide (a ≠ b) = q) (w : World) : (execOp ρ o).run Tryd.prog w = .ok (.value (.bool q)) w := by
  subst h
  unfold execOp
  simp only [ho, hx, hy]
  by_cases c : a = b <;> simp [go_sem, Tryd.underlying3, c]
theorem exec_eqB {o : Oper} {ρ : Operand → Value} {x y : Operand} {t' : TypeId} (ho : o.op = .binOp .eql 4 x y t') {p q : Bool} (hx : ρ x = .bool p) (hy : ρ y = .bool q) (h : p = q) (w : World) : (execOp ρ o).run Tryd.prog w = .ok (.value (.bool true)) w := by
  subst h
  unfold execOp
  simp only [ho, hx, hy]
  simp [go_sem, Tryd.underlying4]
section
variable {P : Program} {ops : Array Oper} {Q : Exit → Act → World → Prop} {md : Region.Mode} {T : World → Prop} {z : Nat}
theorem skipU (d : Nat) {i : Nat} {oi oz : Oper} {n : Nat} {ls : Array Bool} {a : Act} {w : World} (hi : ops[i]? = some oi) (hd : oi.dst = some d) (hoz : ops[z]? = some oz) (hwz : (oz.after.toList.any fun e => Region.binds md e && e.on == i) = true)
    (hs : Region.noSelect ops = true) (hf : Region.free md ops ls i = true) (hr : (Region.ready md ops ls).contains i = true) (hQ : ∀ c a w, Q (.panic c) (a.put oi.dst undef) w → Q (.panic c) a w) (hw : Region.wanted oi (yielded ops a.tmps) = false) (hT : T w)
    (h : Upto P md ops Q T z n (ls.setIfInBounds i true) { a with tmps := a.tmps.setIfInBounds d undef } w) : Upto P md ops Q T z (n + 1) ls a w :=
  Upto.take hi hoz hwz hs hf hr hQ (Or.inr ⟨hw, rfl⟩) hT (by rw [hd]; exact h)
end
def SlAt (w : World) (g : Nat) (cs : Array Value) : Prop := w.heap[g]? = some (.cells cs 3 (0, 0))
theorem SlAt.bel {w w' : World} {g : Nat} {cs : Array Value} (k : SlAt w g cs) (hb : Bel w w') : SlAt w' g cs := hb.stays k
theorem SlAt.cell {w : World} {g : Nat} {cs : Array Value} (k : SlAt w g cs) (j : Nat) : w.cell? ⟨g, j, none⟩ = cs[j]? := cell_of_heap k j
theorem InAt.set0 {w : World} {g : Nat} {o d a b n : Int} (k : InAt w g o d a b n) (x : Int) : InAt (w.setCell ⟨g, 0, none⟩ (.int .i64 x)) g x d a b n := heap_set k 0 (.int .i64 x)
theorem sl6_at (b k : Nat) (h : k < 6) (w : World) : (Instr.indexAt 22 (.slice (some ⟨b, 0, none⟩) 6 6) (.int .i64 (k : Int))).run Tryd.prog w = .ok (.pointer (some ⟨b, k, none⟩)) w := by
  have hk : k = 0 ∨ k = 1 ∨ k = 2 ∨ k = 3 ∨ k = 4 ∨ k = 5 := by omega
  rcases hk with rfl | rfl | rfl | rfl | rfl | rfl
  all_goals (show _ = _; kernel_rfl)
theorem exec_sl6 {o : Oper} {ρ : Operand → Value} {x y : Operand} (ho : o.op = .indexAddr 22 x y) (b k : Nat) (h : k < 6) (hx : ρ x = .slice (some ⟨b, 0, none⟩) 6 6) (hy : ρ y = .int .i64 (k : Int)) (w : World) :
    (execOp ρ o).run Tryd.prog w = .ok (.value (.pointer (some ⟨b, k, none⟩))) w := by
  unfold execOp
  simp only [ho, hx, hy, Sem.run_bind, Sem.run_pure, Result.andThen_ok, sl6_at b k h w]
theorem sl12_at (b k : Nat) (h : k < 12) (w : World) : (Instr.indexAt 22 (.slice (some ⟨b, 0, none⟩) 12 12) (.int .i64 (k : Int))).run Tryd.prog w = .ok (.pointer (some ⟨b, k, none⟩)) w := by
  have hk : k = 0 ∨ k = 1 ∨ k = 2 ∨ k = 3 ∨ k = 4 ∨ k = 5 ∨ k = 6 ∨ k = 7 ∨ k = 8 ∨ k = 9 ∨ k = 10 ∨ k = 11 := by omega
  rcases hk with rfl | rfl | rfl | rfl | rfl | rfl | rfl | rfl | rfl | rfl | rfl | rfl
  all_goals (show _ = _; kernel_rfl)
theorem exec_sl12 {o : Oper} {ρ : Operand → Value} {x y : Operand} (ho : o.op = .indexAddr 22 x y) (b k : Nat) (h : k < 12) (hx : ρ x = .slice (some ⟨b, 0, none⟩) 12 12) (hy : ρ y = .int .i64 (k : Int)) (w : World) :
    (execOp ρ o).run Tryd.prog w = .ok (.value (.pointer (some ⟨b, k, none⟩))) w := by
  unfold execOp
  simp only [ho, hx, hy, Sem.run_bind, Sem.run_pure, Result.andThen_ok, sl12_at b k h w]
theorem sl8_at (b k : Nat) (h : k < 8) (w : World) : (Instr.indexAt 22 (.slice (some ⟨b, 0, none⟩) 8 8) (.int .i64 (k : Int))).run Tryd.prog w = .ok (.pointer (some ⟨b, k, none⟩)) w := by
  have hk : k = 0 ∨ k = 1 ∨ k = 2 ∨ k = 3 ∨ k = 4 ∨ k = 5 ∨ k = 6 ∨ k = 7 := by omega
  rcases hk with rfl | rfl | rfl | rfl | rfl | rfl | rfl | rfl
  all_goals (show _ = _; kernel_rfl)
theorem exec_sl8 {o : Oper} {ρ : Operand → Value} {x y : Operand} (ho : o.op = .indexAddr 22 x y) (b k : Nat) (h : k < 8) (hx : ρ x = .slice (some ⟨b, 0, none⟩) 8 8) (hy : ρ y = .int .i64 (k : Int)) (w : World) :
    (execOp ρ o).run Tryd.prog w = .ok (.value (.pointer (some ⟨b, k, none⟩))) w := by
  unfold execOp
  simp only [ho, hx, hy, Sem.run_bind, Sem.run_pure, Result.andThen_ok, sl8_at b k h w]
theorem fit_lit14 {h : H} {w : World} {P : Option Addr} {N C : Nat} {l : List Int} (e : fitV l = h) (hn : l.length = N) (hL : IntsQ w P l) (hNC : N ≤ C) :
    Calls Tryd.prog 13 #[.slice P N C] w (OneV (hv h) w) := by
  subst e
  exact fit14_any w hn hL hNC
/-- what a raw hart is -/
structure Fine (h : H) : Prop where
  x0 : h 0 = 0
  in32 : ∀ j, -2147483648 ≤ h j ∧ h j ≤ 2147483647
  st : h 33 = 0 ∨ h 33 = 8 ∨ h 33 = 128 ∨ h 33 = 136
  lv : 0 ≤ h 38 ∧ h 38 < 8
  pc : h 32 % 4 = 0
  ve : h 34 % 4 = 0
  ep : h 36 % 4 = 0
theorem w32_b (n : Int) : -2147483648 ≤ wrap32 n ∧ wrap32 n ≤ 2147483647 := ⟨Plain.w32_lo n, Plain.w32_hi n⟩
theorem Lk_32 (l : List Int) (k j : Nat) : -2147483648 ≤ Lk l k j ∧ Lk l k j ≤ 2147483647 := by
  unfold Lk
  split
  · exact w32_b _
  · omega
theorem quad {x : Int} (h : -2147483648 ≤ x ∧ x ≤ 2147483647) : (-2147483648 ≤ wrap64 (wrap64 (x.tdiv 4) * 4) ∧ wrap64 (wrap64 (x.tdiv 4) * 4) ≤ 2147483647) ∧ wrap64 (wrap64 (x.tdiv 4) * 4) % 4 = 0 := by
  have h1 : x.tdiv 4 * 4 + x.tmod 4 = x := by have := Int.mul_tdiv_add_tmod x 4; omega
  have h2 : x.tmod 4 < 4 ∧ -4 < x.tmod 4 := ⟨Int.tmod_lt_of_pos x (by omega), by have := Int.lt_tmod_of_pos x (b := 4) (by omega); omega⟩
  have h4 : 0 ≤ x → 0 ≤ x.tmod 4 := fun h => Int.tmod_nonneg 4 h
  have h5 : x ≤ 0 → x.tmod 4 ≤ 0 := fun h => by have := Int.tmod_nonneg 4 (a := -x) (by omega); rw [Int.neg_tmod] at this; omega
  have h3 : wrap64 (x.tdiv 4) = x.tdiv 4 := IntWalk.wrap64_in _ (by omega)
  rw [h3, IntWalk.wrap64_in _ (by omega)]
  omega
theorem fitH_fine {f : Nat → Int} (hf : ∀ j, -2147483648 ≤ f j ∧ f j ≤ 2147483647) : Fine (fitH f) := by
  have b := Plain.pick_bd (f 6) 8 (by omega)
  have q0 := quad (hf 0)
  have q2 := quad (hf 2)
  have q4 := quad (hf 4)
  have s : statV (Plain.pick (f 1) 4).toNat = 0 ∨ statV (Plain.pick (f 1) 4).toNat = 8 ∨ statV (Plain.pick (f 1) 4).toNat = 128 ∨ statV (Plain.pick (f 1) 4).toNat = 136 := by
    unfold statV
    split
    · exact .inl rfl
    · split
      · exact .inr (.inl rfl)
      · split
        · exact .inr (.inr (.inl rfl))
        · exact .inr (.inr (.inr rfl))
  refine ⟨rfl, fun j => ?_, s, b, q0.2, q2.2, q4.2⟩
  unfold fitH Rk
  split
  · exact hf _
  · unfold up
    repeat' split
    all_goals first | exact q0.1 | exact q2.1 | exact q4.1 | exact hf _ | exact (⟨by decide, by decide⟩ : -2147483648 ≤ (0 : Int) ∧ (0 : Int) ≤ 2147483647) | omega
theorem fit_fine (l : List Int) : Fine (fitV l) := fitH_fine (Lk_32 l _)
theorem and_not1 {x : Int} (h : -2147483648 ≤ x ∧ x ≤ 2147483647) (h2 : x % 2 = 0) : bits .andNot .i64 x 1 = x := by
  have := Rv.clear_field x 0 1 (A := 1) (W := 2) rfl rfl (by omega) (by omega) (by omega) (fun y h1 h2 => ⟨by omega, by omega, by omega⟩)
  have e : ((2 : Int) - 1) * 1 = 1 := rfl
  rw [e] at this
  rw [this]
  omega
theorem r_jal {d n : Int} (hd : 1 ≤ d ∧ d < 32) (hn : -1048576 ≤ n ∧ n ≤ 1048574 ∧ n % 2 = 0) : Rv.right ⟨3, d, 0, 0, n⟩ = true := by
  unfold Rv.right
  simp only [show Rv.form 3 = 74 from by decide +kernel]
  simp [Rv.reg, Rv.hasD, Rv.hasA, Rv.hasB, Rv.num]
  omega
end Go.Proofs.YtgcgdjmlngfpeaaDoor
