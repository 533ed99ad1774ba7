/- Of what was there nothing has turned, and no mark: a relation between two worlds, and the laws by which a walk keeps it. -/
import Derived.WalkKit
import Derived.Laws.Tables
namespace Go.Proofs.YtgcgdjmlngfpeaaDoor
open Go.RowKit
def Both (w w' : World) : Prop := Below w.heap.size w w' ∧ ∀ a, w'.frozen? a = w.frozen? a
theorem Both.refl (w : World) : Both w w := ⟨Below.refl _ _, fun _ => rfl⟩
theorem Both.trans {a b c : World} (h : Both a b) (k : Both b c) : Both a c := ⟨h.1.trans (k.1.mono h.1.size), fun x => (k.2 x).trans (h.2 x)⟩
theorem Both.alloc {w w' : World} (h : Both w w') (c : Array Value) (t : TypeId) : Both w (w'.alloc (.cells c t)) := ⟨h.1.alloc h.1.size _, fun a => (frozen?_alloc_cells _ _ _ a).trans (h.2 a)⟩
theorem Both.setCell {w w' : World} (h : Both w w') {p : Addr} (hp : w.heap.size ≤ p.block) (u : Value) : Both w (w'.setCell p u) := ⟨h.1.setCell hp _, fun a => (World.frozen?_setCell _ _ _ _).trans (h.2 a)⟩
def newRow (cs : Array Value) : Obj → Obj
  | .cells _ t fr => .cells cs t fr
  | o => o
theorem heap_setRow (w : World) (g k : Nat) (cs : Array Value) : (w.setRow g cs).heap[k]? = if g = k then w.heap[k]?.map (newRow cs) else w.heap[k]? := by
  show (w.heap.modify g _)[k]? = _
  rw [Array.getElem?_modify]
  split
  · congr 1
  · rfl
def marks (a : Addr) : Option Obj → Bool
  | some (.cells _ _ (lo, hi)) => lo ≤ a.off && a.off < hi
  | _ => false
theorem frozen_marks (w : World) (a : Addr) : w.frozen? a = marks a w.heap[a.block]? := by
  unfold World.frozen? marks
  cases w.heap[a.block]? with
  | none => rfl
  | some o => cases o <;> rfl
theorem frozen_setRow (w : World) (g : Nat) (cs : Array Value) (a : Addr) : (w.setRow g cs).frozen? a = w.frozen? a := by
  rw [frozen_marks, frozen_marks, heap_setRow]
  split
  · cases w.heap[a.block]? with
    | none => rfl
    | some o => cases o <;> rfl
  · rfl
theorem Both.setRow {w w' : World} (h : Both w w') {g : Nat} (hg : w.heap.size ≤ g) (cs : Array Value) : Both w (w'.setRow g cs) :=
  ⟨⟨h.1.os, h.1.tape, h.1.output, by rw [setRow_size]; exact h.1.size, fun k hk => (setRow_other _ _ _ _ (by omega)).trans (h.1.block k hk)⟩, fun a => (frozen_setRow _ _ _ a).trans (h.2 a)⟩
theorem Both.grown {a b : World} (h : Both a b) : Grown a b := ⟨h.1.frame _, h.2, h.1.size⟩
theorem Both.cell {w w' : World} (h : Both w w') {p : Addr} (hp : p.block < w.heap.size) : w'.cell? p = w.cell? p := h.1.cell hp
end Go.Proofs.YtgcgdjmlngfpeaaDoor
