/- Operations of a region of which some are guarded, done one behind the other by the kernel's own run. -/
import Derived.Test.YtphnagkicboglaaCOps
namespace Go.Proofs.Ytphnagkicboglaa
open Go.RowKit
/-- the same where some operations are guarded -/
def doOpsG (P : Program) (ops : Array Oper) : List Oper → Act → World → Option (Act × World)
  | [], a, w => some (a, w)
  | o :: l, a, w =>
    match Region.wanted o (yielded ops a.tmps) with
    | true =>
      match (execOp a.eval o).run P w with
      | .ok (.value v) w' => doOpsG P ops l (a.put o.dst v) w'
      | _ => none
    | false => doOpsG P ops l (a.put o.dst undef) w
theorem wpList_doOpsG {P : Program} {ops : Array Oper} {Q : Exit → Act → World → Prop} {rest : List Oper} : ∀ (l : List Oper) (a : Act) (w : World) (a' : Act) (w' : World),
    doOpsG P ops l a w = some (a', w') → wpList P ops Q rest a' w' → wpList P ops Q (l ++ rest) a w
  | [], a, w, a', w', h, k => by
    simp only [doOpsG, Option.some.injEq, Prod.mk.injEq] at h
    obtain ⟨rfl, rfl⟩ := h
    exact k
  | o :: l, a, w, a', w', h, k => by
    unfold doOpsG at h
    split at h
    · rename_i hw
      split at h
      · rename_i v w1 hr
        have ih := wpList_doOpsG l (a.put o.dst v) w1 a' w' h k
        refine wpList_step fun K hK => ?_
        rw [if_pos hw]
        unfold Oper.wp
        rw [hr]
        exact hK _ _ ih
      · cases h
    · rename_i hw
      have ih := wpList_doOpsG l (a.put o.dst undef) w a' w' h k
      refine wpList_step fun K hK => ?_
      rw [if_neg (by rw [hw]; decide)]
      exact hK _ _ ih
theorem wpList_frontG {P : Program} {ops : Array Oper} {Q : Exit → Act → World → Prop} (k : Nat) {l : List Oper} {a : Act} {w : World} {p : Act × World}
    (h : doOpsG P ops (l.take k) a w = some p) (hk : wpList P ops Q (l.drop k) p.1 p.2) : wpList P ops Q l a w := by
  have := wpList_doOpsG (rest := l.drop k) (ops := ops) (Q := Q) (l.take k) a w p.1 p.2 h hk
  rwa [List.take_append_drop] at this
theorem wpList_factsG {P : Program} {ops : Array Oper} {Q : Exit → Act → World → Prop} (k : Nat) {l : List Oper} {a : Act} {w : World} (F : Act → World → Prop)
    (h : ∃ p, doOpsG P ops (l.take k) a w = some p ∧ F p.1 p.2) (hk : ∀ a' w', F a' w' → wpList P ops Q (l.drop k) a' w') : wpList P ops Q l a w := by
  obtain ⟨p, h1, h2⟩ := h
  exact wpList_frontG k h1 (hk _ _ h2)
theorem wpList_oneG {P : Program} {ops : Array Oper} {Q : Exit → Act → World → Prop} {o : Oper} {rest : List Oper} {a : Act} {w w' : World} {v : Value} (hg : Region.wanted o (yielded ops a.tmps) = true)
    (h : (execOp a.eval o).run P w = .ok (.value v) w') (hk : wpList P ops Q rest (a.put o.dst v) w') : wpList P ops Q (o :: rest) a w := by
  refine wpList_step fun K hK => ?_
  rw [if_pos hg]
  unfold Oper.wp
  rw [h]
  exact hK _ _ hk
end Go.Proofs.Ytphnagkicboglaa
