/- The rows of the instructions as plain tables: name, form, and the fields that are the same in all of an instruction's words. No Go program in sight. -/
import Derived.WalkKit
import Derived.KernelRfl
namespace Go.Proofs.YtgcgdjmlngfpeaaDoor.Rv
def tName : List (List UInt8) := [[108, 117, 105], [97, 117, 105, 112, 99], [106, 97, 108], [106, 97, 108, 114], [98, 101, 113], [98, 110, 101], [98, 108, 116], [98, 103, 101], [98, 108, 116, 117], [98, 103, 101, 117], [108, 119], [115, 119], [97, 100, 100, 105], [115, 108, 116, 105], [115, 108, 116, 105, 117], [120, 111, 114, 105], [111, 114, 105], [97, 110, 100, 105], [115, 108, 108, 105], [115, 114, 108, 105], [115, 114, 97, 105], [97, 100, 100], [115, 117, 98], [115, 108, 108], [115, 108, 116], [115, 108, 116, 117], [120, 111, 114], [115, 114, 108], [115, 114, 97], [111, 114], [97, 110, 100], [109, 117, 108], [109, 117, 108, 104], [109, 117, 108, 104, 117], [100, 105, 118], [100, 105, 118, 117], [114, 101, 109], [114, 101, 109, 117], [102, 101, 110, 99, 101], [99, 115, 114, 114, 119], [99, 115, 114, 114, 115], [99, 115, 114, 114, 99], [101, 99, 97, 108, 108], [109, 114, 101, 116], [119, 102, 105], [108, 114, 46, 119], [115, 99, 46, 119], [97, 109, 111, 115, 119, 97, 112, 46, 119], [97, 109, 111, 97, 100, 100, 46, 119]]
def tForm : List Int := [85, 85, 74, 73, 66, 66, 66, 66, 66, 66, 73, 83, 73, 73, 73, 73, 73, 73, 72, 72, 72, 82, 82, 82, 82, 82, 82, 82, 82, 82, 82, 82, 82, 82, 82, 82, 82, 82, 70, 67, 67, 67, 90, 90, 90, 76, 65, 65, 65]
def tLow : List Int := [55, 23, 111, 103, 99, 99, 99, 99, 99, 99, 3, 35, 19, 19, 19, 19, 19, 19, 19, 19, 19, 51, 51, 51, 51, 51, 51, 51, 51, 51, 51, 51, 51, 51, 51, 51, 51, 51, 15, 115, 115, 115, 115, 115, 115, 47, 47, 47, 47]
def tMid : List Int := [0, 0, 0, 0, 0, 1, 4, 5, 6, 7, 2, 2, 0, 2, 3, 4, 6, 7, 1, 5, 5, 0, 0, 1, 2, 3, 4, 5, 5, 6, 7, 0, 1, 3, 4, 5, 6, 7, 0, 1, 2, 3, 0, 0, 0, 2, 2, 2, 2]
def tHigh : List Int := [0, 0, 0, 0, 0, 0, 0, 0, 0, 0, 0, 0, 0, 0, 0, 0, 0, 0, 0, 0, 32, 0, 32, 0, 0, 0, 0, 0, 32, 0, 0, 1, 1, 1, 1, 1, 1, 1, 0, 0, 0, 0, 0, 24, 8, 8, 12, 4, 0]
def at1 {α : Type} (l : List α) (d : α) (op : Int) : α := if op < 1 then d else l.getD (op - 1).toNat d
def name (op : Int) : List UInt8 := at1 tName [] op
def form (op : Int) : Int := at1 tForm 0 op
def low (op : Int) : Int := at1 tLow 0 op
def mid (op : Int) : Int := at1 tMid 0 op
def high (op : Int) : Int := at1 tHigh 0 op
def rowCells : Array Value := #[
  .string ⟨#[108, 117, 105]⟩, .int .u8 85, .int .i64 55, .int .i64 0, .int .i64 0,
  .string ⟨#[97, 117, 105, 112, 99]⟩, .int .u8 85, .int .i64 23, .int .i64 0, .int .i64 0,
  .string ⟨#[106, 97, 108]⟩, .int .u8 74, .int .i64 111, .int .i64 0, .int .i64 0,
  .string ⟨#[106, 97, 108, 114]⟩, .int .u8 73, .int .i64 103, .int .i64 0, .int .i64 0,
  .string ⟨#[98, 101, 113]⟩, .int .u8 66, .int .i64 99, .int .i64 0, .int .i64 0,
  .string ⟨#[98, 110, 101]⟩, .int .u8 66, .int .i64 99, .int .i64 1, .int .i64 0,
  .string ⟨#[98, 108, 116]⟩, .int .u8 66, .int .i64 99, .int .i64 4, .int .i64 0,
  .string ⟨#[98, 103, 101]⟩, .int .u8 66, .int .i64 99, .int .i64 5, .int .i64 0,
  .string ⟨#[98, 108, 116, 117]⟩, .int .u8 66, .int .i64 99, .int .i64 6, .int .i64 0,
  .string ⟨#[98, 103, 101, 117]⟩, .int .u8 66, .int .i64 99, .int .i64 7, .int .i64 0,
  .string ⟨#[108, 119]⟩, .int .u8 73, .int .i64 3, .int .i64 2, .int .i64 0,
  .string ⟨#[115, 119]⟩, .int .u8 83, .int .i64 35, .int .i64 2, .int .i64 0,
  .string ⟨#[97, 100, 100, 105]⟩, .int .u8 73, .int .i64 19, .int .i64 0, .int .i64 0,
  .string ⟨#[115, 108, 116, 105]⟩, .int .u8 73, .int .i64 19, .int .i64 2, .int .i64 0,
  .string ⟨#[115, 108, 116, 105, 117]⟩, .int .u8 73, .int .i64 19, .int .i64 3, .int .i64 0,
  .string ⟨#[120, 111, 114, 105]⟩, .int .u8 73, .int .i64 19, .int .i64 4, .int .i64 0,
  .string ⟨#[111, 114, 105]⟩, .int .u8 73, .int .i64 19, .int .i64 6, .int .i64 0,
  .string ⟨#[97, 110, 100, 105]⟩, .int .u8 73, .int .i64 19, .int .i64 7, .int .i64 0,
  .string ⟨#[115, 108, 108, 105]⟩, .int .u8 72, .int .i64 19, .int .i64 1, .int .i64 0,
  .string ⟨#[115, 114, 108, 105]⟩, .int .u8 72, .int .i64 19, .int .i64 5, .int .i64 0,
  .string ⟨#[115, 114, 97, 105]⟩, .int .u8 72, .int .i64 19, .int .i64 5, .int .i64 32,
  .string ⟨#[97, 100, 100]⟩, .int .u8 82, .int .i64 51, .int .i64 0, .int .i64 0,
  .string ⟨#[115, 117, 98]⟩, .int .u8 82, .int .i64 51, .int .i64 0, .int .i64 32,
  .string ⟨#[115, 108, 108]⟩, .int .u8 82, .int .i64 51, .int .i64 1, .int .i64 0,
  .string ⟨#[115, 108, 116]⟩, .int .u8 82, .int .i64 51, .int .i64 2, .int .i64 0,
  .string ⟨#[115, 108, 116, 117]⟩, .int .u8 82, .int .i64 51, .int .i64 3, .int .i64 0,
  .string ⟨#[120, 111, 114]⟩, .int .u8 82, .int .i64 51, .int .i64 4, .int .i64 0,
  .string ⟨#[115, 114, 108]⟩, .int .u8 82, .int .i64 51, .int .i64 5, .int .i64 0,
  .string ⟨#[115, 114, 97]⟩, .int .u8 82, .int .i64 51, .int .i64 5, .int .i64 32,
  .string ⟨#[111, 114]⟩, .int .u8 82, .int .i64 51, .int .i64 6, .int .i64 0,
  .string ⟨#[97, 110, 100]⟩, .int .u8 82, .int .i64 51, .int .i64 7, .int .i64 0,
  .string ⟨#[109, 117, 108]⟩, .int .u8 82, .int .i64 51, .int .i64 0, .int .i64 1,
  .string ⟨#[109, 117, 108, 104]⟩, .int .u8 82, .int .i64 51, .int .i64 1, .int .i64 1,
  .string ⟨#[109, 117, 108, 104, 117]⟩, .int .u8 82, .int .i64 51, .int .i64 3, .int .i64 1,
  .string ⟨#[100, 105, 118]⟩, .int .u8 82, .int .i64 51, .int .i64 4, .int .i64 1,
  .string ⟨#[100, 105, 118, 117]⟩, .int .u8 82, .int .i64 51, .int .i64 5, .int .i64 1,
  .string ⟨#[114, 101, 109]⟩, .int .u8 82, .int .i64 51, .int .i64 6, .int .i64 1,
  .string ⟨#[114, 101, 109, 117]⟩, .int .u8 82, .int .i64 51, .int .i64 7, .int .i64 1,
  .string ⟨#[102, 101, 110, 99, 101]⟩, .int .u8 70, .int .i64 15, .int .i64 0, .int .i64 0,
  .string ⟨#[99, 115, 114, 114, 119]⟩, .int .u8 67, .int .i64 115, .int .i64 1, .int .i64 0,
  .string ⟨#[99, 115, 114, 114, 115]⟩, .int .u8 67, .int .i64 115, .int .i64 2, .int .i64 0,
  .string ⟨#[99, 115, 114, 114, 99]⟩, .int .u8 67, .int .i64 115, .int .i64 3, .int .i64 0,
  .string ⟨#[101, 99, 97, 108, 108]⟩, .int .u8 90, .int .i64 115, .int .i64 0, .int .i64 0,
  .string ⟨#[109, 114, 101, 116]⟩, .int .u8 90, .int .i64 115, .int .i64 0, .int .i64 24,
  .string ⟨#[119, 102, 105]⟩, .int .u8 90, .int .i64 115, .int .i64 0, .int .i64 8,
  .string ⟨#[108, 114, 46, 119]⟩, .int .u8 76, .int .i64 47, .int .i64 2, .int .i64 8,
  .string ⟨#[115, 99, 46, 119]⟩, .int .u8 65, .int .i64 47, .int .i64 2, .int .i64 12,
  .string ⟨#[97, 109, 111, 115, 119, 97, 112, 46, 119]⟩, .int .u8 65, .int .i64 47, .int .i64 2, .int .i64 4,
  .string ⟨#[97, 109, 111, 97, 100, 100, 46, 119]⟩, .int .u8 65, .int .i64 47, .int .i64 2, .int .i64 0]
def rowVals (op : Int) : List Value := [.string ⟨(name op).toArray⟩, .int .u8 (form op), .int .i64 (low op), .int .i64 (mid op), .int .i64 (high op)]
theorem row_at (k : Nat) (h : k < 49) : (rowCells.toList.drop (k * 5)).take 5 = rowVals ((k : Int) + 1) := by
  have hk : k = 0 ∨ k = 1 ∨ k = 2 ∨ k = 3 ∨ k = 4 ∨ k = 5 ∨ k = 6 ∨ k = 7 ∨ k = 8 ∨ k = 9 ∨ k = 10 ∨ k = 11 ∨ k = 12 ∨ k = 13 ∨ k = 14 ∨ k = 15 ∨ k = 16 ∨ k = 17 ∨ k = 18 ∨ k = 19 ∨ k = 20 ∨ k = 21 ∨ k = 22 ∨ k = 23 ∨ k = 24 ∨ k = 25 ∨ k = 26 ∨ k = 27 ∨ k = 28 ∨ k = 29 ∨ k = 30 ∨ k = 31 ∨ k = 32 ∨ k = 33 ∨ k = 34 ∨ k = 35 ∨ k = 36 ∨ k = 37 ∨ k = 38 ∨ k = 39 ∨ k = 40 ∨ k = 41 ∨ k = 42 ∨ k = 43 ∨ k = 44 ∨ k = 45 ∨ k = 46 ∨ k = 47 ∨ k = 48 := by omega
  rcases hk with rfl | rfl | rfl | rfl | rfl | rfl | rfl | rfl | rfl | rfl | rfl | rfl | rfl | rfl | rfl | rfl | rfl | rfl | rfl | rfl | rfl | rfl | rfl | rfl | rfl | rfl | rfl | rfl | rfl | rfl | rfl | rfl | rfl | rfl | rfl | rfl | rfl | rfl | rfl | rfl | rfl | rfl | rfl | rfl | rfl | rfl | rfl | rfl | rfl
  all_goals (show _ = _; kernel_rfl)
theorem cells_of_row (k : Nat) (h : k < 49) (j : Nat) (v : Value) (hj : (rowVals ((k : Int) + 1))[j]? = some v) : rowCells[k * 5 + j]? = some v := by
  rw [← row_at k h, List.getElem?_take] at hj
  split at hj
  · rw [List.getElem?_drop] at hj
    simpa using hj
  · cases hj
end Go.Proofs.YtgcgdjmlngfpeaaDoor.Rv
