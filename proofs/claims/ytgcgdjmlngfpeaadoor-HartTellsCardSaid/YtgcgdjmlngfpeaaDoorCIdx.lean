/- Plain operations of a region, done one behind the other by the kernel's own run: for long rows of builds. -/
import Derived.WalkKit
import Derived.Deep.MidRow
import Derived.Test.YtgcgdjmlngfpeaaDoorProg
import Derived.Test.YtgcgdjmlngfpeaaDoorCTab
import Derived.WalkSpells
import Derived.Lib.Hide
import Derived.Deep.Cut
namespace Go.Proofs.YtgcgdjmlngfpeaaDoor
open Go.RowKit
/-- plain operations, done one behind the other -/
def doOps (P : Program) : List Oper → Act → World → Option (Act × World)
  | [], a, w => some (a, w)
  | o :: l, a, w =>
    match o.guard with
    | some _ => none
    | none =>
      match (execOp a.eval o).run P w with
      | .ok (.value v) w' => doOps P l (a.put o.dst v) w'
      | _ => none
theorem wpList_doOps {P : Program} {ops : Array Oper} {Q : Exit → Act → World → Prop} {rest : List Oper} : ∀ (l : List Oper) (a : Act) (w : World) (a' : Act) (w' : World),
    doOps P l a w = some (a', w') → wpList P ops Q rest a' w' → wpList P ops Q (l ++ rest) a w
  | [], a, w, a', w', h, k => by
    simp only [doOps, Option.some.injEq, Prod.mk.injEq] at h
    obtain ⟨rfl, rfl⟩ := h
    exact k
  | o :: l, a, w, a', w', h, k => by
    unfold doOps at h
    split at h
    · cases h
    · rename_i hg
      split at h
      · rename_i v w1 hr
        have ih := wpList_doOps l (a.put o.dst v) w1 a' w' h k
        refine wpList_plain hg fun K hK => ?_
        unfold Oper.wp
        rw [hr]
        exact hK _ _ ih
      · cases h
theorem wpList_front {P : Program} {ops : Array Oper} {Q : Exit → Act → World → Prop} (k : Nat) {l : List Oper} {a : Act} {w : World} {p : Act × World}
    (h : doOps P (l.take k) a w = some p) (hk : wpList P ops Q (l.drop k) p.1 p.2) : wpList P ops Q l a w := by
  have := wpList_doOps (rest := l.drop k) (ops := ops) (Q := Q) (l.take k) a w p.1 p.2 h hk
  rwa [List.take_append_drop] at this
/-- the same, where only some facts of what comes out are carried on -/
theorem wpList_facts {P : Program} {ops : Array Oper} {Q : Exit → Act → World → Prop} (k : Nat) {l : List Oper} {a : Act} {w : World} (F : Act → World → Prop)
    (h : ∃ p, doOps P (l.take k) a w = some p ∧ F p.1 p.2) (hk : ∀ a' w', F a' w' → wpList P ops Q (l.drop k) a' w') : wpList P ops Q l a w := by
  obtain ⟨p, h1, h2⟩ := h
  exact wpList_front k h1 (hk _ _ h2)
/-- one operation whose run is known -/
theorem wpList_one {P : Program} {ops : Array Oper} {Q : Exit → Act → World → Prop} {o : Oper} {rest : List Oper} {a : Act} {w w' : World} {v : Value} (hg : o.guard = none)
    (h : (execOp a.eval o).run P w = .ok (.value v) w') (hk : wpList P ops Q rest (a.put o.dst v) w') : wpList P ops Q (o :: rest) a w := by
  refine wpList_plain hg fun K hK => ?_
  unfold Oper.wp
  rw [h]
  exact hK _ _ hk
theorem put_same {a : Act} {k : Nat} {v : Value} (h : k < a.tmps.size) : (a.put (some k) v).eval (.tmp k) = v := by
  simp [Act.put, Act.eval, h]
theorem put_other {a : Act} {k j : Nat} {v : Value} (h : k ≠ j) : (a.put (some k) v).eval (.tmp j) = a.eval (.tmp j) := by
  simp [Act.put, Act.eval, h]
theorem put_size {a : Act} {k : Nat} {v : Value} : (a.put (some k) v).tmps.size = a.tmps.size := by
  simp [Act.put]
theorem put_defers {a : Act} {k : Option Nat} {v : Value} : (a.put k v).defers = a.defers := by
  cases k <;> rfl
end Go.Proofs.YtgcgdjmlngfpeaaDoor
/- What RowOf of the document's own answer answers: the table's row; it lays new memory and leaves all that was there as it was. -/
namespace Go.Proofs.YtgcgdjmlngfpeaaDoor
open Go.RowKit Rv
theorem row_index (b k : Nat) (h : k < 49) (w : World) : (Instr.indexAt 67 (.slice (some ⟨b, 0, none⟩) 49 49) (.int .i64 (k : Int))).run Tryd.prog w = .ok (.pointer (some ⟨b, k * 5, none⟩)) w := by
  have hk : k = 0 ∨ k = 1 ∨ k = 2 ∨ k = 3 ∨ k = 4 ∨ k = 5 ∨ k = 6 ∨ k = 7 ∨ k = 8 ∨ k = 9 ∨ k = 10 ∨ k = 11 ∨ k = 12 ∨ k = 13 ∨ k = 14 ∨ k = 15 ∨ k = 16 ∨ k = 17 ∨ k = 18 ∨ k = 19 ∨ k = 20 ∨ k = 21 ∨ k = 22 ∨ k = 23 ∨ k = 24 ∨ k = 25 ∨ k = 26 ∨ k = 27 ∨ k = 28 ∨ k = 29 ∨ k = 30 ∨ k = 31 ∨ k = 32 ∨ k = 33 ∨ k = 34 ∨ k = 35 ∨ k = 36 ∨ k = 37 ∨ k = 38 ∨ k = 39 ∨ k = 40 ∨ k = 41 ∨ k = 42 ∨ k = 43 ∨ k = 44 ∨ k = 45 ∨ k = 46 ∨ k = 47 ∨ k = 48 := by omega
  rcases hk with rfl | rfl | rfl | rfl | rfl | rfl | rfl | rfl | rfl | rfl | rfl | rfl | rfl | rfl | rfl | rfl | rfl | rfl | rfl | rfl | rfl | rfl | rfl | rfl | rfl | rfl | rfl | rfl | rfl | rfl | rfl | rfl | rfl | rfl | rfl | rfl | rfl | rfl | rfl | rfl | rfl | rfl | rfl | rfl | rfl | rfl | rfl | rfl | rfl
  all_goals (show _ = _; kernel_rfl)
theorem exec_index {o : Oper} {ρ : Operand → Value} {x y : Operand} (ho : o.op = .indexAddr 67 x y) (b k : Nat) (h : k < 49) (hx : ρ x = .slice (some ⟨b, 0, none⟩) 49 49) (hy : ρ y = .int .i64 (k : Int)) (w : World) :
    (execOp ρ o).run Tryd.prog w = .ok (.value (.pointer (some ⟨b, k * 5, none⟩))) w := by
  unfold execOp
  simp only [ho, hx, hy, Sem.run_bind, Sem.run_pure, Result.andThen_ok, row_index b k h w]
abbrev rowZero : Array Value := #[.string ⟨#[]⟩, .int .u8 0, .int .i64 0, .int .i64 0, .int .i64 0]
theorem row_size : (Tryd.prog.info? 54).map (·.size) = some 5 := by kernel_rfl
end Go.Proofs.YtgcgdjmlngfpeaaDoor
