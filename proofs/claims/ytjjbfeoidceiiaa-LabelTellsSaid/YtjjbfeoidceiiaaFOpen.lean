/- A slice of items that comes in: opened to a list of plain items, and read again where it is only read. -/
import Derived.Test.YtjjbfeoidceiiaaLRow
import Derived.Test.YtjjbfeoidceiiaaCOpen
import Derived.Deep.Slices
import Derived.ChangeMaps5
namespace Go.Proofs.Ytjjbfeoidceiiaa
open Go.ChangeShapes Go.WideShapes Go.ChangeAt Go.RowKit Rv Lb
set_option linter.unusedVariables false
theorem cellsX : Try.prog.cellsOf 26 = 8 := by kernel_rfl
theorem cellsStr : Try.prog.cellsOf 9 = 1 := by kernel_rfl
set_option maxRecDepth 100000 in
theorem open_instr_cells {H : Type} {enc : TypeId × Value → H} {W : World} {base : Nat} {sp : Nat → Bool} {held : Bool} {fuel : Nat} {cs : List Value} {x : DataW H × List MemPlace}
    (h : DataW.trod enc Try.prog W base sp held fuel 24 cs = some x) : ∃ i : Ins, cs = [.int .i64 i.op, .int .i64 i.d, .int .i64 i.a, .int .i64 i.b, .int .i64 i.n] ∧ Ins.wf i := by
  obtain ⟨xs, n, _, _, hsz, hlen, hel⟩ := DataW.trod_struct Try.underlying24 h
  rw [cellsI] at hsz
  match cs, hsz with
  | [a0, a1, a2, a3, a4], _ =>
    match xs, hlen with
    | [z0, z1, z2, z3, z4], _ =>
      obtain ⟨n0, q0, g0, w0⟩ := DataW.trod_int Try.underlying3 (hel 0 _ rfl)
      obtain ⟨n1, q1, g1, w1⟩ := DataW.trod_int Try.underlying3 (hel 1 _ rfl)
      obtain ⟨n2, q2, g2, w2⟩ := DataW.trod_int Try.underlying3 (hel 2 _ rfl)
      obtain ⟨n3, q3, g3, w3⟩ := DataW.trod_int Try.underlying3 (hel 3 _ rfl)
      obtain ⟨n4, q4, g4, w4⟩ := DataW.trod_int Try.underlying3 (hel 4 _ rfl)
      simp [cellsInt] at q0 q1 q2 q3 q4
      subst q0 q1 q2 q3 q4
      exact ⟨⟨n0, n1, n2, n3, n4⟩, rfl, ⟨bd_of w0, bd_of w1, bd_of w2, bd_of w3, bd_of w4⟩⟩
set_option maxRecDepth 100000 in
theorem open_item_cells {H : Type} {enc : TypeId × Value → H} {W : World} {base : Nat} {sp : Nat → Bool} {held : Bool} {fuel : Nat} {cs : List Value} {x : DataW H × List MemPlace}
    (h : DataW.trod enc Try.prog W base sp held fuel 26 cs = some x) : ∃ y : Itm, cs = cells8 y ∧ Itm.wf y := by
  obtain ⟨xs, n, _, _, hsz, hlen, hel⟩ := DataW.trod_struct Try.underlying26 h
  rw [cellsX] at hsz
  match cs, hsz with
  | [a0, a1, a2, a3, a4, a5, a6, a7], _ =>
    match xs, hlen with
    | [z0, z1, z2, z3], _ =>
      obtain ⟨n0, q0, g0, w0⟩ := DataW.trod_int Try.underlying3 (hel 0 _ rfl)
      obtain ⟨i, q1, w1⟩ := open_instr_cells (hel 1 _ rfl)
      obtain ⟨s, q2, g2, w2⟩ := DataW.trod_string Try.underlying9 (hel 2 _ rfl)
      obtain ⟨n3, q3, g3, w3⟩ := DataW.trod_int Try.underlying3 (hel 3 _ rfl)
      simp [cellsInt, cellsI, cellsStr] at q0 q1 q2 q3
      obtain ⟨r1, r2, r3, r4, r5⟩ := q1
      subst q0 q2 q3 r1 r2 r3 r4 r5
      exact ⟨⟨n0, i, s, n3⟩, rfl, ⟨bd_of w0, w1, w2, bd_of w3⟩⟩
set_option maxRecDepth 100000 in
theorem spot_none {W : World} {a : Addr} {v : Value} (h : W.cell? a = some v) : a.spot = none := by
  unfold World.cell? at h
  cases hs : a.spot with
  | none => rfl
  | some q =>
    rw [hs] at h
    split at h
    · simp at h
    · cases h
set_option maxRecDepth 100000 in
theorem open_items {H : Type} {enc : TypeId × Value → H} {W : World} {b0 base : Nat} {sp : Nat → Bool} {held : Bool} {r : Reach} {v : Value} {d : DataW H} {p : List MemPlace}
    (hv : Value.okWide Try.prog W r b0 22 v) (h : DataW.Trod enc Try.prog W base sp held 22 v d p) :
    ∃ (P : Option Addr) (n c : Nat) (raw : List Itm), v = .slice P n c ∧ raw.length = n ∧ n ≤ 9223372036854775807 ∧ Hid (1 ≤ n → ∃ b o, P = some ⟨b, o, none⟩ ∧ ItemsAt W b o raw) ∧ Hid (∀ x ∈ raw, Itm.wf x) := by
  obtain ⟨a0, len0, cap0, rfl⟩ := okWide_slice Try.underlying22 hv
  obtain ⟨fuel, hf⟩ := h
  rcases Go.Deep.open_slice Try.underlying22 hf with ⟨hcs, _⟩ | ⟨a, len, cap, m, n, D, Pl, hcs, hb, hl, hm, hmm, hx, hel⟩
  · simp [Value.cells] at hcs
    obtain ⟨rfl, rfl, rfl⟩ := hcs
    exact ⟨none, 0, 0, [], rfl, rfl, by omega, fun h => by omega, fun x hx => by cases hx⟩
  · simp [Value.cells] at hcs
    obtain ⟨rfl, rfl, rfl⟩ := hcs
    have hlm : len0 ≤ m := by rw [hmm]; split <;> omega
    have hone : ∀ i, ∃ y : Itm, i < len0 → Itm.wf y ∧ W.cells? base (a.add (i * 8)) 8 = some (cells8 y) := by
      intro i
      by_cases hi : i < len0
      · obtain ⟨cs', h1, h2⟩ := hel i (by omega)
        rw [cellsX] at h1
        obtain ⟨y, rfl, hw⟩ := open_item_cells h2
        exact ⟨y, fun _ => ⟨hw, h1⟩⟩
      · exact ⟨⟨0, ⟨0, 0, 0, 0, 0⟩, ⟨#[]⟩, 0⟩, fun c => absurd c hi⟩
    obtain ⟨f, hf'⟩ := Classical.skolem.1 hone
    have hget : ∀ j, j < len0 → ((List.range len0).map f)[j]? = some (f j) := fun j hj => by rw [List.getElem?_map, List.getElem?_range hj]; rfl
    refine ⟨some a, len0, cap0, (List.range len0).map f, rfl, by simp, by unfold maxLen at hm; omega, fun h1 => ?_, fun x hx' => ?_⟩
    · obtain ⟨_, h2⟩ := hf' 0 (by omega)
      obtain ⟨_, _, h3⟩ := World.cells?_some h2
      have h4 := h3 0 (by omega)
      have hs := spot_none (h4.trans (show (cells8 (f 0))[0]? = some (.int .i64 (f 0).kind) from rfl))
      obtain ⟨b, o, s⟩ := a
      simp only [Addr.add] at hs
      subst hs
      refine ⟨b, o, rfl, ?_, fun j x hj k u hu => ?_⟩
      · exact World.block_lt_of_cell? _ _ (h4.trans (show (cells8 (f 0))[0]? = some (.int .i64 (f 0).kind) from rfl))
      · have hjl : j < len0 := by have := (List.getElem?_eq_some_iff.1 hj).1; simpa using this
        rw [hget j hjl] at hj
        obtain rfl := Option.some.inj hj
        have hk8 : k < 8 := by have := (List.getElem?_eq_some_iff.1 hu).1; simpa [cells8] using this
        obtain ⟨_, h2⟩ := hf' j hjl
        obtain ⟨_, _, h3⟩ := World.cells?_some h2
        have h5 := (h3 k hk8).trans hu
        rw [Addr.add_lit, Addr.add_lit] at h5
        exact h5
    · obtain ⟨i, hi, rfl⟩ := List.mem_map.1 hx'
      exact (hf' i (List.mem_range.1 hi)).1
set_option maxRecDepth 100000 in
theorem open_instrs {H : Type} {enc : TypeId × Value → H} {W : World} {b0 base : Nat} {sp : Nat → Bool} {held : Bool} {r : Reach} {v : Value} {d : DataW H} {p : List MemPlace}
    (hv : Value.okWide Try.prog W r b0 37 v) (h : DataW.Trod enc Try.prog W base sp held 37 v d p) :
    ∃ (P : Option Addr) (n c : Nat) (raw : List Ins), v = .slice P n c ∧ raw.length = n ∧ n ≤ 9223372036854775807 ∧ Hid (InsAt W P raw) ∧ Hid (∀ x ∈ raw, Ins.wf x) := by
  obtain ⟨a0, len0, cap0, rfl⟩ := okWide_slice Try.underlying37 hv
  obtain ⟨fuel, hf⟩ := h
  rcases Go.Deep.open_slice Try.underlying37 hf with ⟨hcs, _⟩ | ⟨a, len, cap, m, n, D, Pl, hcs, hb, hl, hm, hmm, hx, hel⟩
  · simp [Value.cells] at hcs
    obtain ⟨rfl, rfl, rfl⟩ := hcs
    exact ⟨none, 0, 0, [], rfl, rfl, by omega, InsAt.none _ _, fun x hx => by cases hx⟩
  · simp [Value.cells] at hcs
    obtain ⟨rfl, rfl, rfl⟩ := hcs
    have hlm : len0 ≤ m := by rw [hmm]; split <;> omega
    have hone : ∀ i, ∃ y : Ins, i < len0 → Ins.wf y ∧ W.cells? base (a.add (i * 5)) 5 = some (cells5 y) := by
      intro i
      by_cases hi : i < len0
      · obtain ⟨cs', h1, h2⟩ := hel i (by omega)
        rw [cellsI] at h1
        obtain ⟨y, rfl, hw⟩ := open_instr_cells h2
        exact ⟨y, fun _ => ⟨hw, h1⟩⟩
      · exact ⟨⟨0, 0, 0, 0, 0⟩, fun c => absurd c hi⟩
    obtain ⟨f, hf'⟩ := Classical.skolem.1 hone
    have hget : ∀ j, j < len0 → ((List.range len0).map f)[j]? = some (f j) := fun j hj => by rw [List.getElem?_map, List.getElem?_range hj]; rfl
    refine ⟨some a, len0, cap0, (List.range len0).map f, rfl, by simp, by unfold maxLen at hm; omega, fun j i hj => ?_, fun x hx' => ?_⟩
    · have hjl : j < len0 := by have := (List.getElem?_eq_some_iff.1 hj).1; simpa using this
      rw [hget j hjl] at hj
      obtain rfl := Option.some.inj hj
      obtain ⟨_, h2⟩ := hf' j hjl
      obtain ⟨_, _, h3⟩ := World.cells?_some h2
      obtain ⟨_, g2⟩ := hf' 0 (by omega)
      obtain ⟨_, _, g3⟩ := World.cells?_some g2
      have h4 := g3 0 (by omega)
      have hs := spot_none (h4.trans (show (cells5 (f 0))[0]? = some (.int .i64 (f 0).op) from rfl))
      have h0 := World.block_lt_of_cell? _ _ (h4.trans (show (cells5 (f 0))[0]? = some (.int .i64 (f 0).op) from rfl))
      obtain ⟨b, o, s⟩ := a
      simp only [Addr.add] at hs
      subst hs
      refine ⟨b, o, rfl, h0, fun k u hu => ?_⟩
      have hk5 : k < 5 := by have := (List.getElem?_eq_some_iff.1 hu).1; simpa [cells5] using this
      have h5 := (h3 k hk5).trans hu
      rw [Addr.add_lit, Addr.add_lit] at h5
      exact h5
    · obtain ⟨i, hi, rfl⟩ := List.mem_map.1 hx'
      exact (hf' i (List.mem_range.1 hi)).1
end Go.Proofs.Ytjjbfeoidceiiaa
/- An item that comes in by its value, a text, and how much room a slice has. -/
namespace Go.Proofs.Ytjjbfeoidceiiaa
open Go.ChangeShapes Go.WideShapes Go.ChangeAt Go.RowKit Rv Lb
set_option linter.unusedVariables false
set_option maxRecDepth 100000 in
theorem open_item {H : Type} {enc : TypeId × Value → H} {W : World} {b0 base : Nat} {sp : Nat → Bool} {held : Bool} {r : Reach} {v : Value} {d : DataW H} {p : List MemPlace}
    (hv : Value.okWide Try.prog W r b0 26 v) (h : DataW.Trod enc Try.prog W base sp held 26 v d p) : ∃ y : Itm, v = .agg #[.int .i64 y.kind, .int .i64 y.i.op, .int .i64 y.i.d, .int .i64 y.i.a, .int .i64 y.i.b, .int .i64 y.i.n, .string y.name, .int .i64 y.n] ∧ Itm.wf y := by
  obtain ⟨cs, rfl, hsz⟩ := okWide_struct Try.underlying26 hv
  obtain ⟨fuel, hf⟩ := h
  obtain ⟨y, hy, hw⟩ := open_item_cells hf
  obtain ⟨l⟩ := cs
  simp [Value.cells] at hy
  subst hy
  exact ⟨y, rfl, hw⟩
set_option maxRecDepth 100000 in
theorem open_room {H : Type} {enc : TypeId × Value → H} {W : World} {base : Nat} {sp : Nat → Bool} {held : Bool} {P : Option Addr} {n c : Nat} {d : DataW H} {p : List MemPlace}
    (h : DataW.Trod enc Try.prog W base sp held 22 (.slice P n c) d p) : n ≤ c := by
  obtain ⟨fuel, hf⟩ := h
  rcases Go.Deep.open_slice Try.underlying22 hf with ⟨hcs, _⟩ | ⟨a, len, cap, m, k, D, Pl, hcs, hb, hl, hm, hmm, hx, hel⟩
  · simp [Value.cells] at hcs
    omega
  · simp [Value.cells] at hcs
    omega
end Go.Proofs.Ytjjbfeoidceiiaa
