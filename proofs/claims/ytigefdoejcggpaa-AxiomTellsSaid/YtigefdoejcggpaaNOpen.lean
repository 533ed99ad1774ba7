/- Rows of ints, of four ints, of events that come in; a law's last step; pick. -/
import Derived.Test.YtigefdoejcggpaaNAwk
import Derived.Deep.Slices
import Derived.ProofKit
import Derived.OpenShut
namespace Go.Proofs.Ytigefdoejcggpaa
open Go.ChangeShapes Go.WideShapes Go.ChangeAt Go.RowKit Ax
set_option linter.unusedVariables false
def inInt (a : Int) : Prop := -9223372036854775808 ≤ a ∧ a ≤ 9223372036854775807
theorem pick_any (c n : Int) (h1 : -9223372036854775808 ≤ c) (h2 : c ≤ 9223372036854775807) (h3 : 1 ≤ n) (w : World) : Calls Try.prog 14 #[.int .i64 c, .int .i64 n] w fun e w' => e = .returned (.int .i64 (pick c n)) ∧ w = w' := by
  unfold pick
  by_cases h : c < 0
  · rw [if_pos h]
    go_enter Try.func14, Try.ntmps14
    go_wp2
    go_ret
    exact ⟨ri (show -((c + 1).tmod n) = -(c + 1) % n by rw [← Int.neg_tmod, Int.tmod_eq_emod_of_nonneg (by omega)]), rfl⟩
  · rw [if_neg h]
    go_enter Try.func14, Try.ntmps14
    go_wp2
    go_ret
    exact ⟨rfl, rfl⟩
theorem pick_lit {c n r : Int} (h : pick c n = r) (hc : inInt c) (h3 : 1 ≤ n) (w : World) : Calls Try.prog 14 #[.int .i64 c, .int .i64 n] w fun e w' => e = .returned (.int .i64 r) ∧ w = w' := by
  subst h
  exact pick_any c n hc.1 hc.2 h3 w
abbrev Q4 := Int × Int × Int × Int
/-- raw steps lie at a place -/
def TrisQ (w : World) (p : Option Addr) (l : List Q4) : Prop := ∀ (j : Nat) (x : Q4), l[j]? = some x → inInt x.1 ∧ inInt x.2.1 ∧ inInt x.2.2.1 ∧ inInt x.2.2.2 ∧ ∃ b o, p = some ⟨b, o, none⟩ ∧ b < w.heap.size ∧ w.cell? ⟨b, o + j * 4, none⟩ = some (.int .i64 x.1) ∧ w.cell? ⟨b, o + j * 4 + 1, none⟩ = some (.int .i64 x.2.1) ∧ w.cell? ⟨b, o + j * 4 + 2, none⟩ = some (.int .i64 x.2.2.1) ∧ w.cell? ⟨b, o + j * 4 + 3, none⟩ = some (.int .i64 x.2.2.2)
theorem TrisQ.bel {w w' : World} {p : Option Addr} {l : List Q4} (h : TrisQ w p l) (hb : Bel w w') : TrisQ w' p l := fun j x hj => by
  obtain ⟨i1, i2, i3, i4, b, o, h1, h2, c0, c1, c2, c3⟩ := h j x hj
  exact ⟨i1, i2, i3, i4, b, o, h1, Nat.lt_of_lt_of_le h2 hb.size, (hb.cell (p := ⟨b, _, none⟩) h2).trans c0, (hb.cell (p := ⟨b, _, none⟩) h2).trans c1, (hb.cell (p := ⟨b, _, none⟩) h2).trans c2, (hb.cell (p := ⟨b, _, none⟩) h2).trans c3⟩
theorem cellsInt : Try.prog.cellsOf 3 = 1 := by kernel_rfl
theorem cellsEv : Try.prog.cellsOf 26 = 4 := by kernel_rfl
theorem cellsTri : Try.prog.cellsOf 42 = 4 := by kernel_rfl
theorem in_of {a : Int} (h : (Lit.int .i64 a).wf = true) : inInt a := by
  have := bounds_i64 h
  exact this
set_option maxRecDepth 100000 in
theorem spot_none {W : World} {a : Addr} {v : Value} (h : W.cell? a = some v) : a.spot = none := by
  unfold World.cell? at h
  cases hs : a.spot with
  | none => rfl
  | some q =>
    rw [hs] at h
    split at h
    · simp at h
    · cases h
set_option maxRecDepth 100000 in
theorem open_tri_cells {H : Type} {enc : TypeId × Value → H} {W : World} {base : Nat} {sp : Nat → Bool} {held : Bool} {fuel : Nat} {cs : List Value} {x : DataW H × List MemPlace}
    (h : DataW.trod enc Try.prog W base sp held fuel 42 cs = some x) : ∃ y : Q4, cs = [.int .i64 y.1, .int .i64 y.2.1, .int .i64 y.2.2.1, .int .i64 y.2.2.2] ∧ inInt y.1 ∧ inInt y.2.1 ∧ inInt y.2.2.1 ∧ inInt y.2.2.2 := by
  obtain ⟨xs, n, _, _, hsz, hlen, hel⟩ := DataW.trod_array Try.underlying42 h
  rw [cellsTri] at hsz
  match cs, hsz with
  | [a0, a1, a2, a3], _ =>
    have h0 := hel 0 (by omega)
    have h1 := hel 1 (by omega)
    have h2 := hel 2 (by omega)
    have h3 := hel 3 (by omega)
    match xs, hlen with
    | [z0, z1, z2, z3], _ =>
      obtain ⟨n0, q0, g0, w0⟩ := DataW.trod_int Try.underlying3 h0
      obtain ⟨n1, q1, g1, w1⟩ := DataW.trod_int Try.underlying3 h1
      obtain ⟨n2, q2, g2, w2⟩ := DataW.trod_int Try.underlying3 h2
      obtain ⟨n3, q3, g3, w3⟩ := DataW.trod_int Try.underlying3 h3
      simp [cellsInt] at q0 q1 q2 q3
      subst q0 q1 q2 q3
      exact ⟨⟨n0, n1, n2, n3⟩, rfl, in_of w0, in_of w1, in_of w2, in_of w3⟩
set_option maxRecDepth 100000 in
theorem open_tris {H : Type} {enc : TypeId × Value → H} {W : World} {b0 base : Nat} {sp : Nat → Bool} {held : Bool} {r : Reach} {v : Value} {d : DataW H} {p : List MemPlace}
    (hv : Value.okWide Try.prog W r b0 24 v) (h : DataW.Trod enc Try.prog W base sp held 24 v d p) :
    ∃ (P : Option Addr) (n c : Nat) (raw : List Q4), v = .slice P n c ∧ raw.length = n ∧ n ≤ 9223372036854775807 ∧ Hid (TrisQ W P raw) := by
  obtain ⟨a0, len0, cap0, rfl⟩ := okWide_slice Try.underlying24 hv
  obtain ⟨fuel, hf⟩ := h
  rcases Go.Deep.open_slice Try.underlying24 hf with ⟨hcs, _⟩ | ⟨a, len, cap, m, n, D, Pl, hcs, hb, hl, hm, hmm, hx, hel⟩
  · simp [Value.cells] at hcs
    obtain ⟨rfl, rfl, rfl⟩ := hcs
    exact ⟨none, 0, 0, [], rfl, rfl, by omega, fun j x hj => by simp at hj⟩
  · simp [Value.cells] at hcs
    obtain ⟨rfl, rfl, rfl⟩ := hcs
    have hlm : len0 ≤ m := by rw [hmm]; split <;> omega
    have hone : ∀ i, ∃ y : Q4, i < len0 → (inInt y.1 ∧ inInt y.2.1 ∧ inInt y.2.2.1 ∧ inInt y.2.2.2) ∧ W.cells? base (a.add (i * 4)) 4 = some [.int .i64 y.1, .int .i64 y.2.1, .int .i64 y.2.2.1, .int .i64 y.2.2.2] := by
      intro i
      by_cases hi : i < len0
      · obtain ⟨cs', h1, h2⟩ := hel i (by omega)
        rw [cellsTri] at h1
        obtain ⟨y, rfl, hw⟩ := open_tri_cells h2
        exact ⟨y, fun _ => ⟨hw, h1⟩⟩
      · exact ⟨(0, 0, 0, 0), fun c => absurd c hi⟩
    obtain ⟨f, hf'⟩ := Classical.skolem.1 hone
    have hget : ∀ j, j < len0 → ((List.range len0).map f)[j]? = some (f j) := fun j hj => by rw [List.getElem?_map, List.getElem?_range hj]; rfl
    refine ⟨some a, len0, cap0, (List.range len0).map f, rfl, by simp, by unfold maxLen at hm; omega, fun j x hj => ?_⟩
    have hjl : j < len0 := by have := (List.getElem?_eq_some_iff.1 hj).1; simpa using this
    rw [hget j hjl] at hj
    obtain rfl := Option.some.inj hj
    obtain ⟨⟨w1, w2, w3, w4⟩, h2⟩ := hf' j hjl
    obtain ⟨_, _, h3⟩ := World.cells?_some h2
    obtain ⟨_, g2⟩ := hf' 0 (by omega)
    obtain ⟨_, _, g3⟩ := World.cells?_some g2
    have h4 := g3 0 (by omega)
    have hs := spot_none (h4.trans (show ([.int .i64 (f 0).1, .int .i64 (f 0).2.1, .int .i64 (f 0).2.2.1, .int .i64 (f 0).2.2.2] : List Value)[0]? = some (.int .i64 (f 0).1) from rfl))
    have h0 := World.block_lt_of_cell? _ _ (h4.trans (show ([.int .i64 (f 0).1, .int .i64 (f 0).2.1, .int .i64 (f 0).2.2.1, .int .i64 (f 0).2.2.2] : List Value)[0]? = some (.int .i64 (f 0).1) from rfl))
    have k0 := (h3 0 (by omega)).trans (show ([.int .i64 (f j).1, .int .i64 (f j).2.1, .int .i64 (f j).2.2.1, .int .i64 (f j).2.2.2] : List Value)[0]? = some (.int .i64 (f j).1) from rfl)
    have k1 := (h3 1 (by omega)).trans (show ([.int .i64 (f j).1, .int .i64 (f j).2.1, .int .i64 (f j).2.2.1, .int .i64 (f j).2.2.2] : List Value)[1]? = some (.int .i64 (f j).2.1) from rfl)
    have k2 := (h3 2 (by omega)).trans (show ([.int .i64 (f j).1, .int .i64 (f j).2.1, .int .i64 (f j).2.2.1, .int .i64 (f j).2.2.2] : List Value)[2]? = some (.int .i64 (f j).2.2.1) from rfl)
    have k3 := (h3 3 (by omega)).trans (show ([.int .i64 (f j).1, .int .i64 (f j).2.1, .int .i64 (f j).2.2.1, .int .i64 (f j).2.2.2] : List Value)[3]? = some (.int .i64 (f j).2.2.2) from rfl)
    obtain ⟨b, o, s⟩ := a
    simp only [Addr.add] at hs
    subst hs
    rw [Addr.add_lit, Addr.add_lit] at k0 k1 k2 k3
    exact ⟨w1, w2, w3, w4, b, o, rfl, h0, k0, k1, k2, k3⟩
def IntsQ (w : World) (p : Option Addr) (l : List Int) : Prop := ∀ (j : Nat) (x : Int), l[j]? = some x → inInt x ∧ ∃ b o, p = some ⟨b, o, none⟩ ∧ b < w.heap.size ∧ w.cell? ⟨b, o + j, none⟩ = some (.int .i64 x)
theorem IntsQ.bel {w w' : World} {p : Option Addr} {l : List Int} (h : IntsQ w p l) (hb : Bel w w') : IntsQ w' p l := fun j x hj => by
  obtain ⟨i1, b, o, h1, h2, c0⟩ := h j x hj
  exact ⟨i1, b, o, h1, Nat.lt_of_lt_of_le h2 hb.size, (hb.cell (p := ⟨b, _, none⟩) h2).trans c0⟩
set_option maxRecDepth 100000 in
theorem open_intsQ {H : Type} {enc : TypeId × Value → H} {W : World} {b0 base : Nat} {sp : Nat → Bool} {held : Bool} {r : Reach} {v : Value} {d : DataW H} {p : List MemPlace}
    (hv : Value.okWide Try.prog W r b0 23 v) (h : DataW.Trod enc Try.prog W base sp held 23 v d p) :
    ∃ (P : Option Addr) (n c : Nat) (raw : List Int), v = .slice P n c ∧ raw.length = n ∧ n ≤ c ∧ n ≤ 9223372036854775807 ∧ Hid (IntsQ W P raw) := by
  obtain ⟨a0, len0, cap0, rfl⟩ := okWide_slice Try.underlying23 hv
  obtain ⟨fuel, hf⟩ := h
  rcases Go.Deep.open_slice Try.underlying23 hf with ⟨hcs, _⟩ | ⟨a, len, cap, m, n, D, Pl, hcs, hb, hl, hm, hmm, hx, hel⟩
  · simp [Value.cells] at hcs
    obtain ⟨rfl, rfl, rfl⟩ := hcs
    exact ⟨none, 0, 0, [], rfl, rfl, Nat.le_refl _, by omega, fun j x hj => by simp at hj⟩
  · simp [Value.cells] at hcs
    obtain ⟨rfl, rfl, rfl⟩ := hcs
    have hlm : len0 ≤ m := by rw [hmm]; split <;> omega
    have hone : ∀ i, ∃ y : Int, i < len0 → inInt y ∧ W.cells? base (a.add (i * 1)) 1 = some [.int .i64 y] := by
      intro i
      by_cases hi : i < len0
      · obtain ⟨cs', h1, h2⟩ := hel i (by omega)
        rw [cellsInt] at h1
        obtain ⟨y, q, g, hw⟩ := DataW.trod_int Try.underlying3 h2
        subst q
        exact ⟨y, fun _ => ⟨in_of hw, h1⟩⟩
      · exact ⟨0, fun c => absurd c hi⟩
    obtain ⟨f, hf'⟩ := Classical.skolem.1 hone
    have hget : ∀ j, j < len0 → ((List.range len0).map f)[j]? = some (f j) := fun j hj => by rw [List.getElem?_map, List.getElem?_range hj]; rfl
    refine ⟨some a, len0, cap0, (List.range len0).map f, rfl, by simp, by first | omega | exact hl, by unfold maxLen at hm; omega, fun j x hj => ?_⟩
    have hjl : j < len0 := by have := (List.getElem?_eq_some_iff.1 hj).1; simpa using this
    rw [hget j hjl] at hj
    obtain rfl := Option.some.inj hj
    obtain ⟨w1, h2⟩ := hf' j hjl
    obtain ⟨_, _, h3⟩ := World.cells?_some h2
    obtain ⟨_, g2⟩ := hf' 0 (by omega)
    obtain ⟨_, _, g3⟩ := World.cells?_some g2
    have h4 := g3 0 (by omega)
    have hs := spot_none (h4.trans (show ([.int .i64 (f 0)] : List Value)[0]? = some (.int .i64 (f 0)) from rfl))
    have h0 := World.block_lt_of_cell? _ _ (h4.trans (show ([.int .i64 (f 0)] : List Value)[0]? = some (.int .i64 (f 0)) from rfl))
    have k0 := (h3 0 (by omega)).trans (show ([.int .i64 (f j)] : List Value)[0]? = some (.int .i64 (f j)) from rfl)
    obtain ⟨b, o, s⟩ := a
    simp only [Addr.add] at hs
    subst hs
    rw [Addr.add_lit, Addr.add_lit] at k0
    simp only [Nat.mul_one, Nat.add_zero] at k0
    exact ⟨w1, b, o, rfl, h0, k0⟩
set_option maxRecDepth 100000 in
theorem open_ev_cells {H : Type} {enc : TypeId × Value → H} {W : World} {base : Nat} {sp : Nat → Bool} {held : Bool} {fuel : Nat} {cs : List Value} {x : DataW H × List MemPlace}
    (h : DataW.trod enc Try.prog W base sp held fuel 26 cs = some x) : ∃ y : Q4, cs = [.int .i64 y.1, .int .i64 y.2.1, .int .i64 y.2.2.1, .int .i64 y.2.2.2] ∧ inInt y.1 ∧ inInt y.2.1 ∧ inInt y.2.2.1 ∧ inInt y.2.2.2 := by
  obtain ⟨xs, n, _, _, hsz, hlen, hel⟩ := DataW.trod_struct Try.underlying26 h
  rw [cellsEv] at hsz
  match cs, hsz with
  | [a0, a1, a2, a3], _ =>
    match xs, hlen with
    | [z0, z1, z2, z3], _ =>
      have h0 := hel 0 _ rfl
      have h1 := hel 1 _ rfl
      have h2 := hel 2 _ rfl
      have h3 := hel 3 _ rfl
      obtain ⟨n0, q0, g0, w0⟩ := DataW.trod_int Try.underlying3 h0
      obtain ⟨n1, q1, g1, w1⟩ := DataW.trod_int Try.underlying3 h1
      obtain ⟨n2, q2, g2, w2⟩ := DataW.trod_int Try.underlying3 h2
      obtain ⟨n3, q3, g3, w3⟩ := DataW.trod_int Try.underlying3 h3
      simp [cellsInt] at q0 q1 q2 q3
      subst q0 q1 q2 q3
      exact ⟨⟨n0, n1, n2, n3⟩, rfl, in_of w0, in_of w1, in_of w2, in_of w3⟩
set_option maxRecDepth 100000 in
theorem open_evs {H : Type} {enc : TypeId × Value → H} {W : World} {b0 base : Nat} {sp : Nat → Bool} {held : Bool} {r : Reach} {v : Value} {d : DataW H} {p : List MemPlace}
    (hv : Value.okWide Try.prog W r b0 22 v) (h : DataW.Trod enc Try.prog W base sp held 22 v d p) :
    ∃ (P : Option Addr) (n c : Nat) (raw : List Q4), v = .slice P n c ∧ raw.length = n ∧ n ≤ c ∧ n ≤ 9223372036854775807 ∧ Hid (TrisQ W P raw) := by
  obtain ⟨a0, len0, cap0, rfl⟩ := okWide_slice Try.underlying22 hv
  obtain ⟨fuel, hf⟩ := h
  rcases Go.Deep.open_slice Try.underlying22 hf with ⟨hcs, _⟩ | ⟨a, len, cap, m, n, D, Pl, hcs, hb, hl, hm, hmm, hx, hel⟩
  · simp [Value.cells] at hcs
    obtain ⟨rfl, rfl, rfl⟩ := hcs
    exact ⟨none, 0, 0, [], rfl, rfl, Nat.le_refl _, by omega, fun j x hj => by simp at hj⟩
  · simp [Value.cells] at hcs
    obtain ⟨rfl, rfl, rfl⟩ := hcs
    have hlm : len0 ≤ m := by rw [hmm]; split <;> omega
    have hone : ∀ i, ∃ y : Q4, i < len0 → (inInt y.1 ∧ inInt y.2.1 ∧ inInt y.2.2.1 ∧ inInt y.2.2.2) ∧ W.cells? base (a.add (i * 4)) 4 = some [.int .i64 y.1, .int .i64 y.2.1, .int .i64 y.2.2.1, .int .i64 y.2.2.2] := by
      intro i
      by_cases hi : i < len0
      · obtain ⟨cs', h1, h2⟩ := hel i (by omega)
        rw [cellsEv] at h1
        obtain ⟨y, rfl, hw⟩ := open_ev_cells h2
        exact ⟨y, fun _ => ⟨hw, h1⟩⟩
      · exact ⟨(0, 0, 0, 0), fun c => absurd c hi⟩
    obtain ⟨f, hf'⟩ := Classical.skolem.1 hone
    have hget : ∀ j, j < len0 → ((List.range len0).map f)[j]? = some (f j) := fun j hj => by rw [List.getElem?_map, List.getElem?_range hj]; rfl
    refine ⟨some a, len0, cap0, (List.range len0).map f, rfl, by simp, by first | omega | exact hl, by unfold maxLen at hm; omega, fun j x hj => ?_⟩
    have hjl : j < len0 := by have := (List.getElem?_eq_some_iff.1 hj).1; simpa using this
    rw [hget j hjl] at hj
    obtain rfl := Option.some.inj hj
    obtain ⟨⟨w1, w2, w3, w4⟩, h2⟩ := hf' j hjl
    obtain ⟨_, _, h3⟩ := World.cells?_some h2
    obtain ⟨_, g2⟩ := hf' 0 (by omega)
    obtain ⟨_, _, g3⟩ := World.cells?_some g2
    have h4 := g3 0 (by omega)
    have hs := spot_none (h4.trans (show ([.int .i64 (f 0).1, .int .i64 (f 0).2.1, .int .i64 (f 0).2.2.1, .int .i64 (f 0).2.2.2] : List Value)[0]? = some (.int .i64 (f 0).1) from rfl))
    have h0 := World.block_lt_of_cell? _ _ (h4.trans (show ([.int .i64 (f 0).1, .int .i64 (f 0).2.1, .int .i64 (f 0).2.2.1, .int .i64 (f 0).2.2.2] : List Value)[0]? = some (.int .i64 (f 0).1) from rfl))
    have k0 := (h3 0 (by omega)).trans (show ([.int .i64 (f j).1, .int .i64 (f j).2.1, .int .i64 (f j).2.2.1, .int .i64 (f j).2.2.2] : List Value)[0]? = some (.int .i64 (f j).1) from rfl)
    have k1 := (h3 1 (by omega)).trans (show ([.int .i64 (f j).1, .int .i64 (f j).2.1, .int .i64 (f j).2.2.1, .int .i64 (f j).2.2.2] : List Value)[1]? = some (.int .i64 (f j).2.1) from rfl)
    have k2 := (h3 2 (by omega)).trans (show ([.int .i64 (f j).1, .int .i64 (f j).2.1, .int .i64 (f j).2.2.1, .int .i64 (f j).2.2.2] : List Value)[2]? = some (.int .i64 (f j).2.2.1) from rfl)
    have k3 := (h3 3 (by omega)).trans (show ([.int .i64 (f j).1, .int .i64 (f j).2.1, .int .i64 (f j).2.2.1, .int .i64 (f j).2.2.2] : List Value)[3]? = some (.int .i64 (f j).2.2.2) from rfl)
    obtain ⟨b, o, s⟩ := a
    simp only [Addr.add] at hs
    subst hs
    rw [Addr.add_lit, Addr.add_lit] at k0 k1 k2 k3
    exact ⟨w1, w2, w3, w4, b, o, rfl, h0, k0, k1, k2, k3⟩
set_option maxRecDepth 100000 in
theorem open_ev {H : Type} {enc : TypeId × Value → H} {W : World} {b0 base : Nat} {sp : Nat → Bool} {held : Bool} {r : Reach} {v : Value} {d : DataW H} {p : List MemPlace}
    (hv : Value.okWide Try.prog W r b0 26 v) (h : DataW.Trod enc Try.prog W base sp held 26 v d p) : ∃ y : Q4, v = .agg #[.int .i64 y.1, .int .i64 y.2.1, .int .i64 y.2.2.1, .int .i64 y.2.2.2] ∧ inInt y.1 ∧ inInt y.2.1 ∧ inInt y.2.2.1 ∧ inInt y.2.2.2 := by
  obtain ⟨cs, rfl, hsz⟩ := okWide_struct Try.underlying26 hv
  obtain ⟨fuel, hf⟩ := h
  obtain ⟨y, hy, hw⟩ := open_ev_cells hf
  refine ⟨y, ?_, hw⟩
  simp [Value.cells] at hy
  obtain ⟨l⟩ := cs
  simp at hy
  rw [hy]
/-- a law that answers true, of whose memory it is known that nothing of what was there has turned: its post -/
theorem post_law {H : Type} {enc : TypeId × Value → H} {f : Func} {s : ChangeSpec} {apart fresh handsOn again : Bool} {W W' : World} {args : Array Value} {v : Value} {ds gs : List (DataW H)} {before : List MemPlace}
    (hW : DataW.Whole enc Try.prog f.params.toList s.vars apart W args.toList ds gs before)
    (hres : ∀ (b : Nat) (sp : Nat → Bool) (hd : Bool), DataW.TrodAll enc Try.prog W' b sp hd f.resultTypes.toList (v.resultList f.resultTypes.size) (s.fn H (ds ++ gs)).results [])
    (hargs : ∀ sp : Nat → Bool, (∀ p ∈ before, sp p.block = true) → DataW.TrodAll enc Try.prog W' 0 sp true f.params.toList args.toList (s.fn H (ds ++ gs)).args before)
    (hvars : ∀ sp : Nat → Bool, DataW.TrodVars enc Try.prog W' sp s.vars (s.fn H (ds ++ gs)).vars [])
    (hb : Bel W W')
    (hok : ∀ (j : Nat) (t : TypeId) (r : Value), f.resultTypes[j]? = some t → (v.resultList f.resultTypes.size)[j]? = some r → Value.okWide Try.prog W' .any 0 t r) :
    s.post enc Try.prog f apart fresh handsOn again W args v W' := by
  have hlt := hW.lt
  have hW2 := hW
  obtain ⟨_, _, _, _, _, hfz, hnd⟩ := hW2
  have here : ∀ p ∈ before, (fun b => decide (b < W.heap.size)) p.block = true := fun p hp => decide_eq_true (hlt p hp)
  have kept : W.keptBut W' fun p => p ∈ before := Below.frame hb _
  have all : ∀ sp : Nat → Bool, (∀ p ∈ before, sp p.block = true) → DataW.TrodAll enc Try.prog W' 0 sp true (f.resultTypes.toList ++ f.params.toList) (v.resultList f.resultTypes.size ++ args.toList) ((s.fn H (ds ++ gs)).results ++ (s.fn H (ds ++ gs)).args) ([] ++ before) := fun sp hsp => trodAll_append (hargs sp hsp) (hres 0 sp true)
  have twice : DataW.Whole enc Try.prog (f.resultTypes.toList ++ f.params.toList) s.vars apart W' (v.resultList f.resultTypes.size ++ args.toList) ((s.fn H (ds ++ gs)).results ++ (s.fn H (ds ++ gs)).args) (s.fn H (ds ++ gs)).vars before := by
    refine ⟨[] ++ before, [], all _ fun _ _ => rfl, hvars _, by simp, fun b off hp => ?_, hnd⟩
    rw [Below.frozen hb (hlt _ hp)]
    exact hfz b off hp
  refine ⟨ds, gs, before, [], before, [], hW, hres _ _ _, hargs _ here, hvars _, World.keptBut_mono (fun p hp => ⟨hp, Or.inr (Or.inl hp)⟩) kept, fun _ => ⟨hok, _, _, before, twice, fun p hp _ => by simpa using hp⟩⟩
theorem TrisQ.at {w : World} {p : Option Addr} {l : List Q4} (h : TrisQ w p l) : LAt w p l := fun j x hj => by
  obtain ⟨_, _, _, _, b, o, h1, h2, c0, c1, c2, c3⟩ := h j x hj
  refine ⟨b, o, h1, h2, fun i v hv => ?_⟩
  match i, hv with
  | 0, hv => cases hv; exact c0
  | 1, hv => cases hv; exact c1
  | 2, hv => cases hv; exact c2
  | 3, hv => cases hv; exact c3
theorem IntsQ.at {w : World} {p : Option Addr} {l : List Int} (h : IntsQ w p l) : IAt w p l := fun j x hj => by
  obtain ⟨_, b, o, h1, h2, c0⟩ := h j x hj
  refine ⟨b, o, h1, h2, fun i v hv => ?_⟩
  match i, hv with
  | 0, hv => cases hv; rw [Nat.mul_one]; exact c0
def in4 (x : Q4) : Prop := inInt x.1 ∧ inInt x.2.1 ∧ inInt x.2.2.1 ∧ inInt x.2.2.2
theorem TrisQ.wf {w : World} {p : Option Addr} {l : List Q4} (h : TrisQ w p l) : ∀ x ∈ l, in4 x := fun x hx => by
  obtain ⟨j, hj⟩ := List.mem_iff_getElem?.1 hx
  obtain ⟨h0, h1, h2, h3, _⟩ := h j x hj
  exact ⟨h0, h1, h2, h3⟩
theorem IntsQ.wf {w : World} {p : Option Addr} {l : List Int} (h : IntsQ w p l) : ∀ x ∈ l, inInt x := fun x hx => by
  obtain ⟨j, hj⟩ := List.mem_iff_getElem?.1 hx
  exact (h j x hj).1
end Go.Proofs.Ytigefdoejcggpaa
