/- What is asked of package code: its contracts, as propositions; and the laws' first calls. -/
import Derived.Test.YtgcgdjmlngfpeaaDoorCFitAny
namespace Go.Proofs.YtgcgdjmlngfpeaaDoor
open Go.RowKit Rv
def encV (i : Ins) : Int := if right i then enc i else 0
def encE (i : Ins) : Int := if right i then 0 else 1
def zeroI : Ins := ⟨0, 0, 0, 0, 0⟩
def decV (z : Int) : Ins := (dec z).getD zeroI
def decE (z : Int) : Int := if (dec z).isSome then 0 else 20
def RightIs : Prop := ∀ (i : Ins) (w : World), Ins.wf i → Calls Tryd.prog 31 #[ival i] w fun e w' => e = .returned (.bool (right i)) ∧ Both w w'
theorem fit_lit {i_o i_d i_a i_b i_n x_o x_d x_a x_b x_n : Int} (hw : Ins.wf ⟨i_o, i_d, i_a, i_b, i_n⟩) (h : fit ⟨i_o, i_d, i_a, i_b, i_n⟩ = ⟨x_o, x_d, x_a, x_b, x_n⟩) (w : World) :
    Calls Tryd.prog 14 #[.agg #[.int .i64 i_o, .int .i64 i_d, .int .i64 i_a, .int .i64 i_b, .int .i64 i_n]] w fun e w' => e = .returned (.agg #[.int .i64 x_o, .int .i64 x_d, .int .i64 x_a, .int .i64 x_b, .int .i64 x_n]) ∧ Both w w' := by
  have := fit_any ⟨i_o, i_d, i_a, i_b, i_n⟩ hw w
  rw [h] at this
  exact this
theorem right_lit (hR : RightIs) {i_o i_d i_a i_b i_n : Int} {b : Bool} (hw : Ins.wf ⟨i_o, i_d, i_a, i_b, i_n⟩) (h : right ⟨i_o, i_d, i_a, i_b, i_n⟩ = b) (w : World) :
    Calls Tryd.prog 31 #[.agg #[.int .i64 i_o, .int .i64 i_d, .int .i64 i_a, .int .i64 i_b, .int .i64 i_n]] w fun e w' => e = .returned (.bool b) ∧ Both w w' := by
  subst h
  exact hR ⟨i_o, i_d, i_a, i_b, i_n⟩ w hw
/-- a struct of five ints lies in block B -/
structure Has5 (w : World) (B : Nat) (c0 c1 c2 c3 c4 : Int) : Prop where
  lt : B < w.heap.size
  h0 : w.cell? ⟨B, 0, none⟩ = some (.int .i64 c0)
  h1 : w.cell? ⟨B, 1, none⟩ = some (.int .i64 c1)
  h2 : w.cell? ⟨B, 2, none⟩ = some (.int .i64 c2)
  h3 : w.cell? ⟨B, 3, none⟩ = some (.int .i64 c3)
  h4 : w.cell? ⟨B, 4, none⟩ = some (.int .i64 c4)
theorem Has5.both {w w' : World} {B : Nat} {c0 c1 c2 c3 c4 : Int} (h : Has5 w B c0 c1 c2 c3 c4) (hb : Both w w') : Has5 w' B c0 c1 c2 c3 c4 :=
  ⟨Nat.lt_of_lt_of_le h.lt hb.1.size, (hb.cell (p := ⟨B, 0, none⟩) h.lt).trans h.h0, (hb.cell (p := ⟨B, 1, none⟩) h.lt).trans h.h1, (hb.cell (p := ⟨B, 2, none⟩) h.lt).trans h.h2,
    (hb.cell (p := ⟨B, 3, none⟩) h.lt).trans h.h3, (hb.cell (p := ⟨B, 4, none⟩) h.lt).trans h.h4⟩
theorem Has5.new (w : World) (t : TypeId) (c0 c1 c2 c3 c4 : Int) : Has5 (w.alloc (.cells #[.int .i64 c0, .int .i64 c1, .int .i64 c2, .int .i64 c3, .int .i64 c4] t)) w.heap.size c0 c1 c2 c3 c4 :=
  ⟨by show w.heap.size < (w.heap.push _).size; simp, World.cell?_alloc_new w _ _ 0, World.cell?_alloc_new w _ _ 1, World.cell?_alloc_new w _ _ 2, World.cell?_alloc_new w _ _ 3, World.cell?_alloc_new w _ _ 4⟩
theorem Has5.alloc {w : World} {B : Nat} {c0 c1 c2 c3 c4 : Int} (h : Has5 w B c0 c1 c2 c3 c4) (c : Array Value) (t : TypeId) : Has5 (w.alloc (.cells c t)) B c0 c1 c2 c3 c4 := h.both ((Both.refl w).alloc c t)
end Go.Proofs.YtgcgdjmlngfpeaaDoor
