/- A row's bits, a piece's mask, an instruction's parts, its name. -/
import Derived.Test.YtcockpphacebbaaDForm
import Derived.Test.YtcockpphacebbaaCCode
namespace Go.Proofs.Ytcockpphacebbaa
open Go.RowKit Rv
set_option linter.unusedVariables false
def bitsV (lo mi hi se : Int) : Int := bits .or .i64 (bits .or .i64 (bits .or .i64 lo (mi * 4096)) (se * 1048576)) (hi * 33554432)
theorem bits_any (s : ByteArray) (f lo mi hi se : Int) (w : World) (h1 : 0 ≤ lo) (h2 : lo < 128) (h3 : 0 ≤ mi) (h4 : mi < 8) (h5 : 0 ≤ hi) (h6 : hi < 128) (h7 : 0 ≤ se) (h8 : se < 32) :
    Calls Try.prog 50 #[.agg #[.string s, .int .u8 f, .int .i64 lo, .int .i64 mi, .int .i64 hi, .int .i64 se]] w fun e w' => e = .returned (.int .i64 (bitsV lo mi hi se)) ∧ Both w w' := by
  go_enter Try.func50, Try.ntmps50
  go_wp2
  go_ret
  exact ⟨rfl, (Both.refl w).alloc _ _⟩
def maskV (wd : Int) : Int := wrap64 (wrap64 (2 ^ wd.toNat) - 1)
theorem mask_any (p f a wd : Int) (w : World) (h1 : 0 ≤ wd) (h2 : wd < 32) :
    Calls Try.prog 76 #[.agg #[.int .u8 p, .int .u8 f, .int .u8 a, .int .u8 wd]] w fun e w' => e = .returned (.int .i64 (maskV wd)) ∧ Both w w' := by
  go_enter Try.func76, Try.ntmps76
  go_wp2
  go_ret
  exact ⟨rfl, (Both.refl w).alloc _ _⟩
theorem parts_any (o d a b n : Int) (w : World) :
    Calls Try.prog 58 #[.agg #[.int .i64 o, .int .i64 d, .int .i64 a, .int .i64 b, .int .i64 n]] w fun e w' => e = .returned (.agg #[.int .i64 d, .int .i64 a, .int .i64 b, .int .i64 n]) ∧ Both w w' := by
  go_enter Try.func58, Try.ntmps58
  go_wp2
  refine bodyPost_ret (v := .agg #[.int .i64 d, .int .i64 a, .int .i64 b, .int .i64 n]) (by simp [results, Try.results58, go_sem]) rfl ⟨rfl, ?_⟩
  repeat (first | exact Both.refl _ | refine Both.setCell ?_ (by simp) _ | refine Both.setRow ?_ (by simp) _ | refine Both.alloc ?_ _ _)
/-- a row's word's bits -/
theorem rowof_tuple (op : Int) (w : World) : Calls Try.prog 57 #[.int .i64 op] w fun e w' => e = .returned (.tuple #[.agg #[.string ⟨(name op).toArray⟩, .int .u8 (form op), .int .i64 (low op), .int .i64 (mid op), .int .i64 (high op), .int .i64 (extra op)], .bool (decide (1 ≤ op ∧ op ≤ 49))]) ∧ Both w w' := rowof2_any op w
theorem tup0 (x y : Value) (W : World) : (Instr.extract (.tuple #[x, y]) 0).run Try.prog W = .ok x W := by kernel_rfl
end Go.Proofs.Ytcockpphacebbaa
