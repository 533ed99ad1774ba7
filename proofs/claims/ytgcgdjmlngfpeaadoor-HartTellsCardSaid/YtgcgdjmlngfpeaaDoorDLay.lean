/- What lay of a form is: the bits that an instruction's parts fill. -/
import Derived.Test.YtgcgdjmlngfpeaaDoorDOpen
namespace Go.Proofs.YtgcgdjmlngfpeaaDoor
open Go.RowKit Rv
set_option linter.unusedVariables false
def partV (d a b n p : Int) : Int := if p = 0 then d else if p = 1 then a else if p = 2 then b else n
def layS (d a b n u : Int) (x : Pc) : Int := bits .or .i64 u (IntKind.i64.wrap (bits .and .i64 (partV d a b n x.p / 2 ^ x.f.toNat) (maskV x.w) * 2 ^ x.a.toNat))
def layK (d a b n : Int) (ps : List Pc) (k : Nat) : Int := (ps.take k).foldl (layS d a b n) 0
theorem layK_next {d a b n : Int} {ps : List Pc} {k : Nat} {x : Pc} {u : Int} (hu : layK d a b n ps k = u) (hx : ps[k]? = some x) : layK d a b n ps (k + 1) = layS d a b n u x := by
  subst hu
  obtain ⟨h, e⟩ := List.getElem?_eq_some_iff.1 hx
  unfold layK
  rw [List.take_succ_eq_append_getElem h, List.foldl_append, e]
  rfl
theorem layK_next0 {d a b n : Int} {ps : List Pc} {k : Nat} {xf xa xw u : Int} (hu : layK d a b n ps k = u) (hx : ps[k]? = some ⟨0, xf, xa, xw⟩) : layK d a b n ps (k + 1) = bits .or .i64 u (IntKind.i64.wrap (bits .and .i64 (d / 2 ^ xf.toNat) (maskV xw) * 2 ^ xa.toNat)) := by
  rw [layK_next hu hx]
  unfold layS
  rfl
theorem layK_next1 {d a b n : Int} {ps : List Pc} {k : Nat} {xf xa xw u : Int} (hu : layK d a b n ps k = u) (hx : ps[k]? = some ⟨1, xf, xa, xw⟩) : layK d a b n ps (k + 1) = bits .or .i64 u (IntKind.i64.wrap (bits .and .i64 (a / 2 ^ xf.toNat) (maskV xw) * 2 ^ xa.toNat)) := by
  rw [layK_next hu hx]
  unfold layS
  rfl
theorem layK_next2 {d a b n : Int} {ps : List Pc} {k : Nat} {xf xa xw u : Int} (hu : layK d a b n ps k = u) (hx : ps[k]? = some ⟨2, xf, xa, xw⟩) : layK d a b n ps (k + 1) = bits .or .i64 u (IntKind.i64.wrap (bits .and .i64 (b / 2 ^ xf.toNat) (maskV xw) * 2 ^ xa.toNat)) := by
  rw [layK_next hu hx]
  unfold layS
  rfl
theorem layK_next3 {d a b n : Int} {ps : List Pc} {k : Nat} {xf xa xw u : Int} (hu : layK d a b n ps k = u) (hx : ps[k]? = some ⟨3, xf, xa, xw⟩) : layK d a b n ps (k + 1) = bits .or .i64 u (IntKind.i64.wrap (bits .and .i64 (n / 2 ^ xf.toNat) (maskV xw) * 2 ^ xa.toNat)) := by
  rw [layK_next hu hx]
  unfold layS
  rfl
end Go.Proofs.YtgcgdjmlngfpeaaDoor
