/- What is asked of package code besides: names, what is read and written; the laws' first calls. -/
import Derived.Test.YtgcgdjmlngfpeaaDoorCCode
namespace Go.Proofs.YtgcgdjmlngfpeaaDoor
open Go.RowKit Rv
def WritesIs : Prop := ∀ (i : Ins) (w : World), Ins.wf i → Calls Tryd.prog 24 #[ival i] w fun e w' => e = .returned (.int .i64 (if right i then i.d else 0)) ∧ Both w w'
def readsL (i : Ins) : List Int := if right i then (if 0 < i.a then [i.a] else []) ++ (if 0 < i.b ∧ i.b ≠ i.a then [i.b] else []) else []
/-- a slice of these ints is handed back; of what was there nothing turns -/
def IntRow (l : List Int) (w : World) (e : Ending) (w' : World) : Prop :=
  ∃ p c, e = .returned (.slice p l.length c) ∧ (∀ j x, l[j]? = some x → ∃ b o, p = some ⟨b, o, none⟩ ∧ w'.cell? ⟨b, o + j, none⟩ = some (.int .i64 x)) ∧ Both w w'
theorem writes_lit (hW : WritesIs) {i_o i_d i_a i_b i_n d : Int} (hw : Ins.wf ⟨i_o, i_d, i_a, i_b, i_n⟩) (h : (if right ⟨i_o, i_d, i_a, i_b, i_n⟩ then i_d else 0) = d) (w : World) :
    Calls Tryd.prog 24 #[.agg #[.int .i64 i_o, .int .i64 i_d, .int .i64 i_a, .int .i64 i_b, .int .i64 i_n]] w fun e w' => e = .returned (.int .i64 d) ∧ Both w w' := by
  subst h
  exact hW ⟨i_o, i_d, i_a, i_b, i_n⟩ w hw
end Go.Proofs.YtgcgdjmlngfpeaaDoor
