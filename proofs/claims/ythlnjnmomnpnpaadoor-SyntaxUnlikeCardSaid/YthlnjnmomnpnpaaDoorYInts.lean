/- Raw numbers handed to a law lie in memory. -/
import Derived.Test.YthlnjnmomnpnpaaDoorYOpen
import Derived.Test.YthlnjnmomnpnpaaDoorYSrc
namespace Go.Proofs.YthlnjnmomnpnpaaDoor
open Go.ChangeShapes Go.WideShapes Go.ChangeAt Go.RowKit Tk Sy
set_option linter.unusedVariables false
theorem in_of {a : Int} (h : (Lit.int .i64 a).wf = true) : inInt a := by
  have := bounds_i64 h
  exact this
theorem spot_none {W : World} {a : Addr} {v : Value} (h : W.cell? a = some v) : a.spot = none := by
  unfold World.cell? at h
  cases hs : a.spot with
  | none => rfl
  | some q =>
    rw [hs] at h
    split at h
    · simp at h
    · cases h
set_option maxRecDepth 100000 in
theorem open_intsQ {H : Type} {enc : TypeId × Value → H} {W : World} {b0 base : Nat} {sp : Nat → Bool} {held : Bool} {r : Reach} {v : Value} {d : DataW H} {p : List MemPlace}
    (hv : Value.okWide Tryd.prog W r b0 22 v) (h : DataW.Trod enc Tryd.prog W base sp held 22 v d p) :
    ∃ (P : Option Addr) (n c : Nat) (raw : List Int), v = .slice P n c ∧ raw.length = n ∧ n ≤ c ∧ n ≤ 9223372036854775807 ∧ Hid (RawAt W P raw) := by
  obtain ⟨a0, len0, cap0, rfl⟩ := okWide_slice Tryd.underlying22 hv
  obtain ⟨fuel, hf⟩ := h
  rcases Go.Deep.open_slice Tryd.underlying22 hf with ⟨hcs, _⟩ | ⟨a, len, cap, m, n, D, Pl, hcs, hb, hl, hm, hmm, hx, hel⟩
  · simp [Value.cells] at hcs
    obtain ⟨rfl, rfl, rfl⟩ := hcs
    exact ⟨none, 0, 0, [], rfl, rfl, Nat.le_refl _, by omega, fun j x hj => by simp at hj⟩
  · simp [Value.cells] at hcs
    obtain ⟨rfl, rfl, rfl⟩ := hcs
    have hlm : len0 ≤ m := by rw [hmm]; split <;> omega
    have hone : ∀ i, ∃ y : Int, i < len0 → inInt y ∧ W.cells? base (a.add (i * 1)) 1 = some [.int .i64 y] := by
      intro i
      by_cases hi : i < len0
      · obtain ⟨cs', h1, h2⟩ := hel i (by omega)
        rw [cellsInt] at h1
        obtain ⟨y, q, g, hw⟩ := DataW.trod_int Tryd.underlying3 h2
        subst q
        exact ⟨y, fun _ => ⟨in_of hw, h1⟩⟩
      · exact ⟨0, fun c => absurd c hi⟩
    obtain ⟨f, hf'⟩ := Classical.skolem.1 hone
    have hget : ∀ j, j < len0 → ((List.range len0).map f)[j]? = some (f j) := fun j hj => by rw [List.getElem?_map, List.getElem?_range hj]; rfl
    refine ⟨some a, len0, cap0, (List.range len0).map f, rfl, by simp, by first | omega | exact hl, by unfold maxLen at hm; omega, fun j x hj => ?_⟩
    have hjl : j < len0 := by have := (List.getElem?_eq_some_iff.1 hj).1; simpa using this
    rw [hget j hjl] at hj
    obtain rfl := Option.some.inj hj
    obtain ⟨w1, h2⟩ := hf' j hjl
    obtain ⟨_, _, h3⟩ := World.cells?_some h2
    obtain ⟨_, g2⟩ := hf' 0 (by omega)
    obtain ⟨_, _, g3⟩ := World.cells?_some g2
    have h4 := g3 0 (by omega)
    have hs := spot_none (h4.trans (show ([.int .i64 (f 0)] : List Value)[0]? = some (.int .i64 (f 0)) from rfl))
    have h0 := World.block_lt_of_cell? _ _ (h4.trans (show ([.int .i64 (f 0)] : List Value)[0]? = some (.int .i64 (f 0)) from rfl))
    have k0 := (h3 0 (by omega)).trans (show ([.int .i64 (f j)] : List Value)[0]? = some (.int .i64 (f j)) from rfl)
    obtain ⟨b, o, s⟩ := a
    simp only [Addr.add] at hs
    subst hs
    rw [Addr.add_lit, Addr.add_lit] at k0
    simp only [Nat.mul_one, Nat.add_zero] at k0
    exact ⟨w1, b, o, rfl, h0, k0⟩
end Go.Proofs.YthlnjnmomnpnpaaDoor
