/- What the document's own Sign and Level answer: the same plain functions as package wrap's; each lays at most one new block and leaves all that was there as it was. -/
import Derived.Test.YtgcgdjmlngfpeaaDoorRef3
namespace Go.Proofs.YtgcgdjmlngfpeaaDoor
open Go.RowKit Plain
theorem two_val {op a b v : Int} {q : Bool} (h : two op a b = v) (h' : isTwo op = q) (w : World) : Calls Tryd.prog 25 #[.int .i64 op, .int .i64 a, .int .i64 b] w fun e w' => e = .returned (.tuple #[.int .i64 v, .bool q]) ∧ w = w' := by
  subst h h'
  exact two_any op a b w
theorem rtwo_val {op a b v : Int} {q : Bool} (h : two op a b = v) (h' : isTwo op = q) (w : World) : Calls Tryd.prog 42 #[.int .i64 op, .int .i64 a, .int .i64 b] w fun e w' => e = .returned (.tuple #[.int .i64 v, .bool q]) ∧ w = w' := by
  subst h h'
  exact rtwo_any op a b w
theorem rhigh_lit {a b r : Int} {signs : Bool} (e : high a b signs = r) (w : World) : Calls Tryd.prog 73 #[.int .i64 a, .int .i64 b, .bool signs] w fun e w' => e = .returned (.int .i64 r) ∧ w = w' := by
  subst e
  exact rhigh_any a b signs w
theorem one_val {op a v : Int} {q : Bool} (h : one op a = v) (h' : isOne op = q) (w : World) : Calls Tryd.prog 26 #[.int .i64 op, .int .i64 a] w fun e w' => e = .returned (.tuple #[.int .i64 v, .bool q]) ∧ w = w' := by
  subst h h'
  exact one_any op a w
theorem rone_val {op a v : Int} {q : Bool} (h : one op a = v) (h' : isOne op = q) (w : World) : Calls Tryd.prog 71 #[.int .i64 op, .int .i64 a] w fun e w' => e = .returned (.tuple #[.int .i64 v, .bool q]) ∧ w = w' := by
  subst h h'
  exact rone_any op a w
theorem ret_sb {s t : ByteArray} {p q : Bool} (h : s = t) (h' : p = q) : Ending.returned (.tuple #[.string s, .bool p]) = .returned (.tuple #[.string t, .bool q]) := by rw [h, h']
end Go.Proofs.YtgcgdjmlngfpeaaDoor
