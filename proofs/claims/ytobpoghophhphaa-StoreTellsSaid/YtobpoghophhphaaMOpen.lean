/- Rows of four ints that come in; a law's last step. -/
import Derived.Test.YtobpoghophhphaaMAwk
import Derived.Deep.Slices
import Derived.ProofKit
import Derived.OpenShut
namespace Go.Proofs.Ytobpoghophhphaa
open Go.ChangeShapes Go.WideShapes Go.ChangeAt Go.RowKit Mm
set_option linter.unusedVariables false
abbrev Q4 := Int × Int × Int × Int
/-- raw steps lie at a place -/
def TrisQ (w : World) (p : Option Addr) (l : List Q4) : Prop := ∀ (j : Nat) (x : Q4), l[j]? = some x → inInt x.1 ∧ inInt x.2.1 ∧ inInt x.2.2.1 ∧ inInt x.2.2.2 ∧ ∃ b o, p = some ⟨b, o, none⟩ ∧ b < w.heap.size ∧ w.cell? ⟨b, o + j * 4, none⟩ = some (.int .i64 x.1) ∧ w.cell? ⟨b, o + j * 4 + 1, none⟩ = some (.int .i64 x.2.1) ∧ w.cell? ⟨b, o + j * 4 + 2, none⟩ = some (.int .i64 x.2.2.1) ∧ w.cell? ⟨b, o + j * 4 + 3, none⟩ = some (.int .i64 x.2.2.2)
theorem TrisQ.bel {w w' : World} {p : Option Addr} {l : List Q4} (h : TrisQ w p l) (hb : Bel w w') : TrisQ w' p l := fun j x hj => by
  obtain ⟨i1, i2, i3, i4, b, o, h1, h2, c0, c1, c2, c3⟩ := h j x hj
  exact ⟨i1, i2, i3, i4, b, o, h1, Nat.lt_of_lt_of_le h2 hb.size, (hb.cell (p := ⟨b, _, none⟩) h2).trans c0, (hb.cell (p := ⟨b, _, none⟩) h2).trans c1, (hb.cell (p := ⟨b, _, none⟩) h2).trans c2, (hb.cell (p := ⟨b, _, none⟩) h2).trans c3⟩
theorem cellsInt : Try.prog.cellsOf 3 = 1 := by kernel_rfl
theorem cellsTri : Try.prog.cellsOf 33 = 4 := by kernel_rfl
theorem in_of {a : Int} (h : (Lit.int .i64 a).wf = true) : inInt a := by
  have := bounds_i64 h
  exact this
set_option maxRecDepth 100000 in
theorem spot_none {W : World} {a : Addr} {v : Value} (h : W.cell? a = some v) : a.spot = none := by
  unfold World.cell? at h
  cases hs : a.spot with
  | none => rfl
  | some q =>
    rw [hs] at h
    split at h
    · simp at h
    · cases h
set_option maxRecDepth 100000 in
theorem open_tri_cells {H : Type} {enc : TypeId × Value → H} {W : World} {base : Nat} {sp : Nat → Bool} {held : Bool} {fuel : Nat} {cs : List Value} {x : DataW H × List MemPlace}
    (h : DataW.trod enc Try.prog W base sp held fuel 33 cs = some x) : ∃ y : Q4, cs = [.int .i64 y.1, .int .i64 y.2.1, .int .i64 y.2.2.1, .int .i64 y.2.2.2] ∧ inInt y.1 ∧ inInt y.2.1 ∧ inInt y.2.2.1 ∧ inInt y.2.2.2 := by
  obtain ⟨xs, n, _, _, hsz, hlen, hel⟩ := DataW.trod_array Try.underlying33 h
  rw [cellsTri] at hsz
  match cs, hsz with
  | [a0, a1, a2, a3], _ =>
    have h0 := hel 0 (by omega)
    have h1 := hel 1 (by omega)
    have h2 := hel 2 (by omega)
    have h3 := hel 3 (by omega)
    match xs, hlen with
    | [z0, z1, z2, z3], _ =>
      obtain ⟨n0, q0, g0, w0⟩ := DataW.trod_int Try.underlying3 h0
      obtain ⟨n1, q1, g1, w1⟩ := DataW.trod_int Try.underlying3 h1
      obtain ⟨n2, q2, g2, w2⟩ := DataW.trod_int Try.underlying3 h2
      obtain ⟨n3, q3, g3, w3⟩ := DataW.trod_int Try.underlying3 h3
      simp [cellsInt] at q0 q1 q2 q3
      subst q0 q1 q2 q3
      exact ⟨⟨n0, n1, n2, n3⟩, rfl, in_of w0, in_of w1, in_of w2, in_of w3⟩
set_option maxRecDepth 100000 in
theorem open_tris {H : Type} {enc : TypeId × Value → H} {W : World} {b0 base : Nat} {sp : Nat → Bool} {held : Bool} {r : Reach} {v : Value} {d : DataW H} {p : List MemPlace}
    (hv : Value.okWide Try.prog W r b0 22 v) (h : DataW.Trod enc Try.prog W base sp held 22 v d p) :
    ∃ (P : Option Addr) (n c : Nat) (raw : List Q4), v = .slice P n c ∧ raw.length = n ∧ n ≤ 9223372036854775807 ∧ Hid (TrisQ W P raw) := by
  obtain ⟨a0, len0, cap0, rfl⟩ := okWide_slice Try.underlying22 hv
  obtain ⟨fuel, hf⟩ := h
  rcases Go.Deep.open_slice Try.underlying22 hf with ⟨hcs, _⟩ | ⟨a, len, cap, m, n, D, Pl, hcs, hb, hl, hm, hmm, hx, hel⟩
  · simp [Value.cells] at hcs
    obtain ⟨rfl, rfl, rfl⟩ := hcs
    exact ⟨none, 0, 0, [], rfl, rfl, by omega, fun j x hj => by simp at hj⟩
  · simp [Value.cells] at hcs
    obtain ⟨rfl, rfl, rfl⟩ := hcs
    have hlm : len0 ≤ m := by rw [hmm]; split <;> omega
    have hone : ∀ i, ∃ y : Q4, i < len0 → (inInt y.1 ∧ inInt y.2.1 ∧ inInt y.2.2.1 ∧ inInt y.2.2.2) ∧ W.cells? base (a.add (i * 4)) 4 = some [.int .i64 y.1, .int .i64 y.2.1, .int .i64 y.2.2.1, .int .i64 y.2.2.2] := by
      intro i
      by_cases hi : i < len0
      · obtain ⟨cs', h1, h2⟩ := hel i (by omega)
        rw [cellsTri] at h1
        obtain ⟨y, rfl, hw⟩ := open_tri_cells h2
        exact ⟨y, fun _ => ⟨hw, h1⟩⟩
      · exact ⟨(0, 0, 0, 0), fun c => absurd c hi⟩
    obtain ⟨f, hf'⟩ := Classical.skolem.1 hone
    have hget : ∀ j, j < len0 → ((List.range len0).map f)[j]? = some (f j) := fun j hj => by rw [List.getElem?_map, List.getElem?_range hj]; rfl
    refine ⟨some a, len0, cap0, (List.range len0).map f, rfl, by simp, by unfold maxLen at hm; omega, fun j x hj => ?_⟩
    have hjl : j < len0 := by have := (List.getElem?_eq_some_iff.1 hj).1; simpa using this
    rw [hget j hjl] at hj
    obtain rfl := Option.some.inj hj
    obtain ⟨⟨w1, w2, w3, w4⟩, h2⟩ := hf' j hjl
    obtain ⟨_, _, h3⟩ := World.cells?_some h2
    obtain ⟨_, g2⟩ := hf' 0 (by omega)
    obtain ⟨_, _, g3⟩ := World.cells?_some g2
    have h4 := g3 0 (by omega)
    have hs := spot_none (h4.trans (show ([.int .i64 (f 0).1, .int .i64 (f 0).2.1, .int .i64 (f 0).2.2.1, .int .i64 (f 0).2.2.2] : List Value)[0]? = some (.int .i64 (f 0).1) from rfl))
    have h0 := World.block_lt_of_cell? _ _ (h4.trans (show ([.int .i64 (f 0).1, .int .i64 (f 0).2.1, .int .i64 (f 0).2.2.1, .int .i64 (f 0).2.2.2] : List Value)[0]? = some (.int .i64 (f 0).1) from rfl))
    have k0 := (h3 0 (by omega)).trans (show ([.int .i64 (f j).1, .int .i64 (f j).2.1, .int .i64 (f j).2.2.1, .int .i64 (f j).2.2.2] : List Value)[0]? = some (.int .i64 (f j).1) from rfl)
    have k1 := (h3 1 (by omega)).trans (show ([.int .i64 (f j).1, .int .i64 (f j).2.1, .int .i64 (f j).2.2.1, .int .i64 (f j).2.2.2] : List Value)[1]? = some (.int .i64 (f j).2.1) from rfl)
    have k2 := (h3 2 (by omega)).trans (show ([.int .i64 (f j).1, .int .i64 (f j).2.1, .int .i64 (f j).2.2.1, .int .i64 (f j).2.2.2] : List Value)[2]? = some (.int .i64 (f j).2.2.1) from rfl)
    have k3 := (h3 3 (by omega)).trans (show ([.int .i64 (f j).1, .int .i64 (f j).2.1, .int .i64 (f j).2.2.1, .int .i64 (f j).2.2.2] : List Value)[3]? = some (.int .i64 (f j).2.2.2) from rfl)
    obtain ⟨b, o, s⟩ := a
    simp only [Addr.add] at hs
    subst hs
    rw [Addr.add_lit, Addr.add_lit] at k0 k1 k2 k3
    exact ⟨w1, w2, w3, w4, b, o, rfl, h0, k0, k1, k2, k3⟩
/-- a law that answers true, of whose memory it is known that nothing of what was there has turned: its post -/
theorem post_law {H : Type} {enc : TypeId × Value → H} {f : Func} {s : ChangeSpec} {apart fresh handsOn again : Bool} {W W' : World} {args : Array Value} {v : Value} {ds gs : List (DataW H)} {before : List MemPlace}
    (hW : DataW.Whole enc Try.prog f.params.toList s.vars apart W args.toList ds gs before)
    (hres : ∀ (b : Nat) (sp : Nat → Bool) (hd : Bool), DataW.TrodAll enc Try.prog W' b sp hd f.resultTypes.toList (v.resultList f.resultTypes.size) (s.fn H (ds ++ gs)).results [])
    (hargs : ∀ sp : Nat → Bool, (∀ p ∈ before, sp p.block = true) → DataW.TrodAll enc Try.prog W' 0 sp true f.params.toList args.toList (s.fn H (ds ++ gs)).args before)
    (hvars : ∀ sp : Nat → Bool, DataW.TrodVars enc Try.prog W' sp s.vars (s.fn H (ds ++ gs)).vars [])
    (hb : Bel W W')
    (hok : ∀ (j : Nat) (t : TypeId) (r : Value), f.resultTypes[j]? = some t → (v.resultList f.resultTypes.size)[j]? = some r → Value.okWide Try.prog W' .any 0 t r) :
    s.post enc Try.prog f apart fresh handsOn again W args v W' := by
  have hlt := hW.lt
  have hW2 := hW
  obtain ⟨_, _, _, _, _, hfz, hnd⟩ := hW2
  have here : ∀ p ∈ before, (fun b => decide (b < W.heap.size)) p.block = true := fun p hp => decide_eq_true (hlt p hp)
  have kept : W.keptBut W' fun p => p ∈ before := Below.frame hb _
  have all : ∀ sp : Nat → Bool, (∀ p ∈ before, sp p.block = true) → DataW.TrodAll enc Try.prog W' 0 sp true (f.resultTypes.toList ++ f.params.toList) (v.resultList f.resultTypes.size ++ args.toList) ((s.fn H (ds ++ gs)).results ++ (s.fn H (ds ++ gs)).args) ([] ++ before) := fun sp hsp => trodAll_append (hargs sp hsp) (hres 0 sp true)
  have twice : DataW.Whole enc Try.prog (f.resultTypes.toList ++ f.params.toList) s.vars apart W' (v.resultList f.resultTypes.size ++ args.toList) ((s.fn H (ds ++ gs)).results ++ (s.fn H (ds ++ gs)).args) (s.fn H (ds ++ gs)).vars before := by
    refine ⟨[] ++ before, [], all _ fun _ _ => rfl, hvars _, by simp, fun b off hp => ?_, hnd⟩
    rw [Below.frozen hb (hlt _ hp)]
    exact hfz b off hp
  refine ⟨ds, gs, before, [], before, [], hW, hres _ _ _, hargs _ here, hvars _, World.keptBut_mono (fun p hp => ⟨hp, Or.inr (Or.inl hp)⟩) kept, fun _ => ⟨hok, _, _, before, twice, fun p hp _ => by simpa using hp⟩⟩
end Go.Proofs.Ytobpoghophhphaa
