/- A range over an iterator that keeps a box of its own, with a body that never leaves early. -/
import Derived.RangeFuncNested
import Derived.RangeFuncBound
import Derived.RangeFuncCalls
import Derived.RangeFuncLeaves
import Derived.RangeFuncFrom
import Derived.RangeFuncBox
import Derived.Test.YtbfmlbcjggplgaaGreatDoorIBase
namespace Go.Proofs.YtbfmlbcjggplgaaGreatDoor
open Go.RowKit
set_option linter.unusedVariables false
variable {F : Fence} {n : Nat} {P : Program}
/-- an iterator that tells all of some list, whatever its caller keeps that does not speak of the box Bs -/
def SeqAll {α : Type} (F : Fence) (n : Nat) (P : Program) (g : Nat) (lb : Array Value) (encs : α → Array Value) (Bs : Nat) (Z : Nat → Prop) (S : List α → Prop) (N : Nat) (wa w0 : World) : Prop :=
  ∀ (l : Nat) (J : List α → World → Prop) (W : World), Bel w0 W → (∀ pre A v, J pre A → J pre (A.setCell ⟨Bs, 0, none⟩ v)) → (∀ pre A B, J pre A → Bel A B → J pre B) →
    (∀ pre x A, J pre A → pre.length < N → YieldAt F (n - 1) P l (encs x) A fun e B => e = .returned (.bool true) ∧ J (pre ++ [x]) B ∧ Below wa.heap.size A B ∧ ∀ k, Z k → B.heap[k]? = A.heap[k]?) →
    J [] W → CallsIn F n P g (#[.func (.yield l) #[] #[]] ++ lb) W fun e B => (∃ v, e = .returned v) ∧ ∃ xs, S xs ∧ J xs B
/-- what a round must leave -/
def Goes {α : Type} (B n₀ : Nat) (Z : Nat → Prop) (I : List α → World → Prop) (xs : List α) (W : World) : Exit → Act → World → Prop
  | .normal, _, W' => KeepsFrom B W W' ∧ Below n₀ W W' ∧ (∀ k, Z k → W'.heap[k]? = W.heap[k]?) ∧ I xs W'
  | _, _, _ => False
theorem range_all {α : Type} {g : Operand} {ps : Array Tmp} {assign body : Code} {Q : Exit → Act → World → Prop} {a : Act} {w : World} (hro : F.round = none) (h1 : 1 ≤ n) {gf : Nat} {lb : Array Value}
    (hg : a.eval g = .func (.func gf) #[] lb) (hFg : F.fn gf) (eg : ∀ args w, (callFunc gf args).run P w = .ok (.enter gf args) w) {encs : α → Array Value} {Bs : Nat} {Z : Nat → Prop} {S : List α → Prop} {N : Nat} {wa : World}
    (hseq : SeqAll F (n - 1) P gf lb encs Bs Z S N wa w) (hb0 : Bel wa w) (hBs : Bs < w.heap.size) (hZ : ∀ k, Z k → k < w.heap.size) (hps : ∀ x, (encs x).size = ps.size)
    (I : List α → World → Prop) (hI : OwnFrom w.heap.size I) (hIs : ∀ pre A v, I pre A → I pre (A.setCell ⟨Bs, 0, none⟩ v)) (hIb : ∀ pre A B, I pre A → Bel A B → I pre B) (h0 : I [] w) (a₁ : α → Act)
    (hassign : ∀ (l : Nat) (x : α) (W : World) (K : Act → World → Prop), K (a₁ x) W →
      assign.wpIn (F.inRound l) (n - 1 - 1) P (Exit.then K (fun _ _ _ => False)) { tmps := (ps.zip (encs x)).foldl (fun t (p, v) => t.setIfInBounds p v) a.tmps, defers := [] } W)
    (hbody : ∀ (l : Nat) (pre : List α) (x : α) (W : World), I pre W → pre.length < N → body.wpIn (F.inRound l) (n - 1 - 1) P (Goes w.heap.size wa.heap.size Z I (pre ++ [x]) W) (a₁ x) W)
    (hdone : ∀ (D : Nat) (xs : List α) (W : World), w.heap.size ≤ D → S xs → I xs W → W.heap[D]? = some (.deferred (some [])) → Q .normal { a with defers := { target := .collected D, args := #[] } :: a.defers } W) :
    (Code.rangeFunc g ps assign body).wpIn F n P Q a w := by
  refine wpIn_rangeFunc ?_
  intro fn hfn
  rw [hro]
  obtain ⟨R, hR⟩ : ∃ R : LoopState → Loop, R = fun st => { state := st, pending := none, fn, tmps := a.tmps, params := ps, assign, body, defers := w.heap.size } := ⟨_, rfl⟩
  obtain ⟨k, hk⟩ : ∃ k, k = w.heap.size := ⟨_, rfl⟩
  obtain ⟨W1, hW1⟩ : ∃ W1, (w.alloc (.deferred (some []))).alloc (.loop (R .ready)) = W1 := ⟨_, rfl⟩
  have hL : W1.heap[k + 1]? = some (.loop (R .ready)) := by
    rw [← hW1, hk]
    have := World.alloc_heap_new (w.alloc (.deferred (some []))) (.loop (R .ready))
    rwa [World.size_alloc] at this
  have hD : W1.heap[k]? = some (.deferred (some [])) := by
    rw [← hW1, hk]
    exact (Below.heap_alloc _ _ _ (by simp)).trans (World.alloc_heap_new w _)
  have hI1 : I [] W1 := by rw [← hW1]; exact hI.alloc _ (hI.alloc _ h0)
  have hb1 : Bel w W1 := by
    rw [← hW1]
    exact ((Below.refl _ w).alloc (Nat.le_refl _) _).alloc (by simp) _
  have hn : wa.heap.size ≤ k := by rw [hk]; exact hb0.size
  have hz : ∀ j, Z j → j ≠ k + 1 := fun j hj => by have := hZ j hj; omega
  have turn : ∀ {A : World} (o' : Obj) {o : Obj}, A.heap[k + 1]? = some o → Below wa.heap.size A (A.putObj (k + 1) o') := fun {A} o' {o} ho =>
    (Below.refl _ A).grown (grownBy_putObj' A (k + 1) o') (Nat.le_trans (Nat.le_trans hn (by omega)) (Nat.le_of_lt (lt_of_heap ho))) (fun j e => by cases e; omega)
  refine ⟨k + 1, [{ target := .collected k, args := #[] }], W1, { target := .fn (.func gf) lb, args := #[.func (.yield (k + 1)) #[] #[]] }, W1, gf, #[.func (.yield (k + 1)) #[] #[]] ++ lb, W1, ?_, ?_, ?_, ?_, fun _ => h1, ?_⟩
  · rw [← hW1, hR, hk]
    exact run_enterLoop_outer _ _ _ _ _
  · simp only [resolve, hg]
    simp [go_sem]
  · intro f' hf'
    simp [Target.leads] at hf'
    subst hf'
    exact hFg
  · simp [invoke, go_sem, eg]
  refine (hseq (k + 1) (fun pre W => I pre W ∧ W.heap[k + 1]? = some (.loop (R .ready)) ∧ W.heap[k]? = some (.deferred (some []))) W1 hb1 ?_ ?_ ?_ ⟨hI1, hL, hD⟩).mono ?_
  · rintro pre A v ⟨c1, c2, c3⟩
    refine ⟨hIs pre A v c1, ?_, ?_⟩
    · rw [heap_setCell_other _ _ _ _ (show k + 1 ≠ Bs by omega)]; exact c2
    · rw [heap_setCell_other _ _ _ _ (show k ≠ Bs by omega)]; exact c3
  · rintro pre A B ⟨c1, c2, c3⟩ hAB
    exact ⟨hIb pre A B c1 hAB, hAB.stays c2, hAB.stays c3⟩
  · rintro pre x A ⟨c1, c2, c3⟩ hlen
    have hlt : k + 1 < A.heap.size := lt_of_heap c2
    have hy := run_yield (P := P) (args := encs x) c2 (by rw [hR]; exact hps x)
    obtain ⟨A2, hA2⟩ : ∃ A2, A.putObj (k + 1) (.loop { R .ready with state := .busy }) = A2 := ⟨_, rfl⟩
    have hbr := run_beginRound (P := P) c2 (by rw [hR])
    rw [hA2] at hbr
    have d2 : A2.heap[k + 1]? = some (.loop { R .ready with state := .busy }) := by rw [← hA2]; exact World.putObj_heap_same hlt
    have d3 : A2.heap[k]? = some (.deferred (some [])) := by rw [← hA2]; exact (World.putObj_heap_other (by omega)).trans c3
    have d1 : I pre A2 := by rw [← hA2]; exact hI.putObj _ c1 (by omega) c2 rfl
    have d4 : Below wa.heap.size A A2 := by rw [← hA2]; exact turn _ c2
    have d5 : ∀ j, Z j → A2.heap[j]? = A.heap[j]? := fun j hj => by rw [← hA2]; exact World.putObj_heap_other (hz j hj)
    rw [hR] at hy
    refine ⟨fn, _, assign, body, hy, roundIn_of_wpIn hfn (hassign _ x A _ ⟨_, hbr, ?_⟩)⟩
    refine wpIn_mono (hbody _ pre x A2 d1 hlen) ?_
    rintro e a3 A3 hp
    cases e with
    | normal =>
      obtain ⟨e1, e2, e4, e3⟩ := hp
      have f2 := e1.same (k + 1) _ (by omega) d2 rfl
      have f3 := e1.same k _ (by omega) d3 rfl
      have hend := run_endRound (P := P) none f2
      have g2 : (A3.putObj (k + 1) (.loop (R .ready))).heap[k + 1]? = some (.loop (R .ready)) := World.putObj_heap_same (lt_of_heap f2)
      have g3 : (A3.putObj (k + 1) (.loop (R .ready))).heap[k]? = some (.deferred (some [])) := (World.putObj_heap_other (by omega)).trans f3
      have g1 : I (pre ++ [x]) (A3.putObj (k + 1) (.loop (R .ready))) := hI.putObj _ e3 (by omega) f2 rfl
      have g4 := turn (.loop (R .ready)) f2
      rw [hR] at hend g1 g2 g3 g4 ⊢
      exact ⟨_, _, hend, rfl, ⟨g1, g2, g3⟩, (d4.trans e2).trans g4, fun j hj => (World.putObj_heap_other (hz j hj)).trans ((e4 j hj).trans (d5 j hj))⟩
    | _ => exact hp.elim
  · rintro e W2 ⟨⟨v, rfl⟩, xs, hS, c1, c2, c3⟩
    have hend := run_endLoop (P := P) c2 (by rw [hR]; simp)
    rw [hR] at hend c2
    exact ⟨none, _, hend, hdone _ xs _ (by omega) hS (hI.putObj _ c1 (by omega) c2 rfl) ((World.putObj_heap_other (by omega)).trans c3)⟩
end Go.Proofs.YtbfmlbcjggplgaaGreatDoor
