/- An instruction (a struct of five ints) that comes in by value: opened to its five numbers, and read again. -/
import Derived.Test.YtgcgdjmlngfpeaaDoorCCode
import Derived.ProofKit
import Derived.OpenShut
namespace Go.Proofs.YtgcgdjmlngfpeaaDoor
open Go.ChangeShapes Go.WideShapes Go.ChangeAt Go.RowKit Rv
theorem cellsI : Tryd.prog.cellsOf 24 = 5 := by kernel_rfl
theorem cellsInt : Tryd.prog.cellsOf 3 = 1 := by kernel_rfl
def idata {H : Type} (i : Ins) : DataW H := .agg [.lit (.int .i64 i.op), .lit (.int .i64 i.d), .lit (.int .i64 i.a), .lit (.int .i64 i.b), .lit (.int .i64 i.n)]
theorem bd_of {n : Int} (h : (Lit.int .i64 n).wf = true) : inInt n := by
  simp [Lit.wf, IntKind.min, IntKind.max, IntKind.signed, IntKind.bits] at h
  exact ⟨by omega, by omega⟩
set_option maxRecDepth 100000 in
theorem open_ins {H : Type} {enc : TypeId × Value → H} {W : World} {b0 base : Nat} {sp : Nat → Bool} {held : Bool} {r : Reach} {v : Value} {d : DataW H} {p : List MemPlace}
    (hv : Value.okWide Tryd.prog W r b0 24 v) (h : DataW.Trod enc Tryd.prog W base sp held 24 v d p) : ∃ i : Ins, v = ival i ∧ d = idata i ∧ p = [] ∧ Ins.wf i := by
  obtain ⟨cs, rfl, hsz⟩ := okWide_struct Tryd.underlying24 hv
  rw [cellsI] at hsz
  obtain ⟨fuel, hf⟩ := h
  obtain ⟨xs, n, _, hx, _, hlen, hel⟩ := DataW.trod_struct Tryd.underlying24 hf
  obtain ⟨l⟩ := cs
  match l, hsz with
  | [a0, a1, a2, a3, a4], _ =>
    match xs, hlen with
    | [z0, z1, z2, z3, z4], _ =>
      have e0 := hel 0 _ rfl
      have e1 := hel 1 _ rfl
      have e2 := hel 2 _ rfl
      have e3 := hel 3 _ rfl
      have e4 := hel 4 _ rfl
      obtain ⟨n0, q0, g0, w0⟩ := DataW.trod_int Tryd.underlying3 e0
      obtain ⟨n1, q1, g1, w1⟩ := DataW.trod_int Tryd.underlying3 e1
      obtain ⟨n2, q2, g2, w2⟩ := DataW.trod_int Tryd.underlying3 e2
      obtain ⟨n3, q3, g3, w3⟩ := DataW.trod_int Tryd.underlying3 e3
      obtain ⟨n4, q4, g4, w4⟩ := DataW.trod_int Tryd.underlying3 e4
      simp [cellsInt, Value.cells] at q0 q1 q2 q3 q4
      subst q0 q1 q2 q3 q4 g0 g1 g2 g3 g4
      simp only [Prod.mk.injEq] at hx
      exact ⟨⟨n0, n1, n2, n3, n4⟩, rfl, hx.1, hx.2, ⟨bd_of w0, bd_of w1, bd_of w2, bd_of w3, bd_of w4⟩⟩
theorem wf_of {n : Int} (h : inInt n) : (Lit.int .i64 n).wf = true := WalkArith.wf_i64 h
set_option maxRecDepth 100000 in
theorem shut_ins {H : Type} {enc : TypeId × Value → H} {W : World} {base : Nat} {sp : Nat → Bool} {held : Bool} (i : Ins) (hi : Ins.wf i) : DataW.Trod enc Tryd.prog W base sp held 24 (ival i) (idata i) [] := by
  have h0 := wf_of hi.op
  have h1 := wf_of hi.d
  have h2 := wf_of hi.a
  have h3 := wf_of hi.b
  have h4 := wf_of hi.n
  exact ⟨2, by simp [DataW.trod, ival, idata, Value.cells, Tryd.underlying24, Tryd.underlying3, cellsI, cellsInt, h0, h1, h2, h3, h4]⟩
end Go.Proofs.YtgcgdjmlngfpeaaDoor
