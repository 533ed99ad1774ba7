/- A hart as thirty-nine numbers, and what an instruction does to it, as plain functions. No Go program in sight. -/
import Derived.Test.YtgcgdjmlngfpeaaDoorLemmas
import Derived.Test.YtgcgdjmlngfpeaaDoorCPlain
namespace Go.Proofs.YtgcgdjmlngfpeaaDoor.Ht
open Go.RowKit Go.IntWalk
/-- registers 0 to 31, the place 32, Status 33, Vector 34, Scratch 35, EPC 36, Cause 37, Level 38 -/
abbrev H := Nat → Int
def up (h : H) (k : Nat) (x : Int) : H := fun j => if j = k then x else h j
theorem up_at (h : H) (k : Nat) (x : Int) : up h k x k = x := if_pos rfl
theorem up_ne (h : H) {k j : Nat} (x : Int) (hj : j ≠ k) : up h k x j = h j := if_neg hj
def put (h : H) (d n : Int) : H := if 1 ≤ d ∧ d < 32 then up h d.toNat (wrap32 n) else h
def place (h : H) (by' : Int) : Int := wrap32 (h 32 + by')
def go (h : H) (by' : Int) : H := up h 32 (place h by')
structure Eff where
  kind : Int
  d : Int
  addr : Int
  n : Int
  op : Int
def e0 : Eff := ⟨0, 0, 0, 0, 0⟩
def eBad : Eff := ⟨9, 0, 0, 0, 0⟩
/-- the hart's cells -/
def hC (h : H) : Array Value := ((List.range 39).map (fun k => Value.int .i64 (h k))).toArray
theorem hC_size (h : H) : (hC h).size = 39 := by simp [hC]
theorem hC_at (h : H) {k : Nat} (hk : k < 39) : (hC h)[k]? = some (.int .i64 (h k)) := by
  simp [hC, hk]
theorem hC_set (h : H) {k : Nat} (x : Int) (hk : k < 39) : (hC h).setIfInBounds k (.int .i64 x) = hC (up h k x) := by
  apply Array.ext_getElem?
  intro j
  rw [Array.getElem?_setIfInBounds]
  by_cases hj : j < 39
  · rw [hC_at _ hj, hC_at _ hj]
    by_cases c : k = j
    · subst c; simp [hC_size, hk, up_at]
    · rw [if_neg c, up_ne _ _ (Ne.symm c)]
  · have h1 : (hC (up h k x))[j]? = none := Array.getElem?_eq_none (by rw [hC_size]; omega)
    have h2 : (hC h)[j]? = none := Array.getElem?_eq_none (by rw [hC_size]; omega)
    rw [h1, h2]
    have : ¬ k = j := by omega
    rw [if_neg this]
theorem hC_ones (h : H) : (hC h).all (·.oneCell') = true := by
  rw [Array.all_eq_true_iff_forall_mem]
  intro v hv
  simp only [hC, List.mem_toArray, List.mem_map] at hv
  obtain ⟨k, -, rfl⟩ := hv
  rfl
def hZ : Array Value := hC (fun _ => 0)
theorem hZ_size : hZ.size = 39 := hC_size _
abbrev hv (h : H) : Value := .agg (hC h)
abbrev eC (e : Eff) : Array Value := #[.int .i64 e.kind, .int .i64 e.d, .int .i64 e.addr, .int .i64 e.n, .int .i64 e.op]
end Go.Proofs.YtgcgdjmlngfpeaaDoor.Ht
