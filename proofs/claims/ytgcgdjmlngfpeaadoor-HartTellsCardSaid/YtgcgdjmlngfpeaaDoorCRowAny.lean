/- What RowOf of the document's own answer answers, for every number of an instruction: the table's row, or the row of none; of what was there nothing turns. -/
import Derived.Test.YtgcgdjmlngfpeaaDoorCRowOf
import Derived.Test.YtgcgdjmlngfpeaaDoorCBoth
namespace Go.Proofs.YtgcgdjmlngfpeaaDoor
open Go.RowKit Rv
theorem at_out {α : Type} (l : List α) (d : α) (op : Int) (h : op < 1 ∨ (l.length : Int) < op) : at1 l d op = d := by
  unfold at1
  split
  · rfl
  · rw [List.getD_eq_getElem?_getD, List.getElem?_eq_none (by omega)]
    rfl
theorem vals_out (op : Int) (h : op < 1 ∨ 49 < op) : rowVals op = [.string ⟨#[]⟩, .int .u8 0, .int .i64 0, .int .i64 0, .int .i64 0] := by
  unfold rowVals name form low mid high
  rw [at_out tName [] op h, at_out tForm 0 op h, at_out tLow 0 op h, at_out tMid 0 op h, at_out tHigh 0 op h]
theorem rowof_out (op : Int) (h : op < 1 ∨ 49 < op) (w : World) : Calls Tryd.prog 30 #[.int .i64 op] w fun e w' => e = .returned (.agg rowZero) ∧ Both w w' := by
  rcases h with h | h
  all_goals
    go_enter Tryd.func30, Tryd.ntmps30
    go_wp2
    refine bodyPost_ret (v := .agg rowZero) (by simp [results, Tryd.results30, go_sem]) rfl ⟨rfl, ?_⟩
    repeat (first | exact Both.refl _ | refine Both.setCell ?_ (by simp) _ | refine Both.setRow ?_ (by simp) _ | refine Both.alloc ?_ _ _)
theorem rowof_any (op : Int) (w : World) : Calls Tryd.prog 30 #[.int .i64 op] w fun e w' => e = .returned (.agg (rowVals op).toArray) ∧ Both w w' := by
  by_cases h : 1 ≤ op ∧ op ≤ 49
  · obtain ⟨k, hk⟩ := Int.eq_ofNat_of_zero_le (show 0 ≤ op - 1 by omega)
    obtain rfl : op = (k : Int) + 1 := by omega
    refine (rowof_in k (by omega) w).mono fun e w' ⟨he, hw⟩ => ⟨he, ?_⟩
    subst hw
    exact (((Both.refl w).alloc _ _).alloc _ _).setRow (Nat.le_refl _) _
  · rw [vals_out op (by omega)]
    exact rowof_out op (by omega) w
end Go.Proofs.YtgcgdjmlngfpeaaDoor
