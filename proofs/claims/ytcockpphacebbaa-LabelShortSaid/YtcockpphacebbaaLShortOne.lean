/- Where all code is short no branch is long; a branch that is short reaches. Proved for every input of the law at the commit of the claim. -/
import Derived.Test.YtcockpphacebbaaRows
import Derived.Test.YtcockpphacebbaaLShortW
import Derived.Test.YtcockpphacebbaaCOpen
import Derived.WalkKit
import Derived.ProofKit
import Derived.OpenShut
import Derived.Deep.Slices
namespace Go.Proofs.Ytcockpphacebbaa
open Go.ChangeShapes Go.WideShapes Go.ChangeAt Go.RowKit Rv Lb
set_option linter.unusedVariables false
theorem cellsX : Try.prog.cellsOf 26 = 8 := by kernel_rfl
theorem cellsStr : Try.prog.cellsOf 9 = 1 := by kernel_rfl
set_option maxRecDepth 100000 in
theorem open_instr_cells {H : Type} {enc : TypeId × Value → H} {W : World} {base : Nat} {sp : Nat → Bool} {held : Bool} {fuel : Nat} {cs : List Value} {x : DataW H × List MemPlace}
    (h : DataW.trod enc Try.prog W base sp held fuel 24 cs = some x) : ∃ i : Ins, cs = [.int .i64 i.op, .int .i64 i.d, .int .i64 i.a, .int .i64 i.b, .int .i64 i.n] ∧ Ins.wf i := by
  obtain ⟨xs, n, _, _, hsz, hlen, hel⟩ := DataW.trod_struct Try.underlying24 h
  rw [cellsI] at hsz
  match cs, hsz with
  | [a0, a1, a2, a3, a4], _ =>
    match xs, hlen with
    | [z0, z1, z2, z3, z4], _ =>
      obtain ⟨n0, q0, g0, w0⟩ := DataW.trod_int Try.underlying3 (hel 0 _ rfl)
      obtain ⟨n1, q1, g1, w1⟩ := DataW.trod_int Try.underlying3 (hel 1 _ rfl)
      obtain ⟨n2, q2, g2, w2⟩ := DataW.trod_int Try.underlying3 (hel 2 _ rfl)
      obtain ⟨n3, q3, g3, w3⟩ := DataW.trod_int Try.underlying3 (hel 3 _ rfl)
      obtain ⟨n4, q4, g4, w4⟩ := DataW.trod_int Try.underlying3 (hel 4 _ rfl)
      simp [cellsInt] at q0 q1 q2 q3 q4
      subst q0 q1 q2 q3 q4
      exact ⟨⟨n0, n1, n2, n3, n4⟩, rfl, ⟨bd_of w0, bd_of w1, bd_of w2, bd_of w3, bd_of w4⟩⟩
set_option maxRecDepth 100000 in
theorem open_item_cells {H : Type} {enc : TypeId × Value → H} {W : World} {base : Nat} {sp : Nat → Bool} {held : Bool} {fuel : Nat} {cs : List Value} {x : DataW H × List MemPlace}
    (h : DataW.trod enc Try.prog W base sp held fuel 26 cs = some x) : ∃ y : Itm, cs = cells8 y ∧ Itm.wf y := by
  obtain ⟨xs, n, _, _, hsz, hlen, hel⟩ := DataW.trod_struct Try.underlying26 h
  rw [cellsX] at hsz
  match cs, hsz with
  | [a0, a1, a2, a3, a4, a5, a6, a7], _ =>
    match xs, hlen with
    | [z0, z1, z2, z3], _ =>
      obtain ⟨n0, q0, g0, w0⟩ := DataW.trod_int Try.underlying3 (hel 0 _ rfl)
      obtain ⟨i, q1, w1⟩ := open_instr_cells (hel 1 _ rfl)
      obtain ⟨s, q2, g2, w2⟩ := DataW.trod_string Try.underlying9 (hel 2 _ rfl)
      obtain ⟨n3, q3, g3, w3⟩ := DataW.trod_int Try.underlying3 (hel 3 _ rfl)
      simp [cellsInt, cellsI, cellsStr] at q0 q1 q2 q3
      obtain ⟨r1, r2, r3, r4, r5⟩ := q1
      subst q0 q2 q3 r1 r2 r3 r4 r5
      exact ⟨⟨n0, i, s, n3⟩, rfl, ⟨bd_of w0, w1, w2, bd_of w3⟩⟩
set_option maxRecDepth 100000 in
theorem spot_none {W : World} {a : Addr} {v : Value} (h : W.cell? a = some v) : a.spot = none := by
  unfold World.cell? at h
  cases hs : a.spot with
  | none => rfl
  | some q =>
    rw [hs] at h
    split at h
    · simp at h
    · cases h
set_option maxRecDepth 100000 in
theorem open_items {H : Type} {enc : TypeId × Value → H} {W : World} {b0 base : Nat} {sp : Nat → Bool} {held : Bool} {r : Reach} {v : Value} {d : DataW H} {p : List MemPlace}
    (hv : Value.okWide Try.prog W r b0 22 v) (h : DataW.Trod enc Try.prog W base sp held 22 v d p) :
    ∃ (P : Option Addr) (n c : Nat) (raw : List Itm), v = .slice P n c ∧ raw.length = n ∧ n ≤ 9223372036854775807 ∧ Hid (1 ≤ n → ∃ b o, P = some ⟨b, o, none⟩ ∧ ItemsAt W b o raw) ∧ Hid (∀ x ∈ raw, Itm.wf x) := by
  obtain ⟨a0, len0, cap0, rfl⟩ := okWide_slice Try.underlying22 hv
  obtain ⟨fuel, hf⟩ := h
  rcases Go.Deep.open_slice Try.underlying22 hf with ⟨hcs, _⟩ | ⟨a, len, cap, m, n, D, Pl, hcs, hb, hl, hm, hmm, hx, hel⟩
  · simp [Value.cells] at hcs
    obtain ⟨rfl, rfl, rfl⟩ := hcs
    exact ⟨none, 0, 0, [], rfl, rfl, by omega, fun h => by omega, fun x hx => by cases hx⟩
  · simp [Value.cells] at hcs
    obtain ⟨rfl, rfl, rfl⟩ := hcs
    have hlm : len0 ≤ m := by rw [hmm]; split <;> omega
    have hone : ∀ i, ∃ y : Itm, i < len0 → Itm.wf y ∧ W.cells? base (a.add (i * 8)) 8 = some (cells8 y) := by
      intro i
      by_cases hi : i < len0
      · obtain ⟨cs', h1, h2⟩ := hel i (by omega)
        rw [cellsX] at h1
        obtain ⟨y, rfl, hw⟩ := open_item_cells h2
        exact ⟨y, fun _ => ⟨hw, h1⟩⟩
      · exact ⟨⟨0, ⟨0, 0, 0, 0, 0⟩, ⟨#[]⟩, 0⟩, fun c => absurd c hi⟩
    obtain ⟨f, hf'⟩ := Classical.skolem.1 hone
    have hget : ∀ j, j < len0 → ((List.range len0).map f)[j]? = some (f j) := fun j hj => by rw [List.getElem?_map, List.getElem?_range hj]; rfl
    refine ⟨some a, len0, cap0, (List.range len0).map f, rfl, by simp, by unfold maxLen at hm; omega, fun h1 => ?_, fun x hx' => ?_⟩
    · obtain ⟨_, h2⟩ := hf' 0 (by omega)
      obtain ⟨_, _, h3⟩ := World.cells?_some h2
      have h4 := h3 0 (by omega)
      have hs := spot_none (h4.trans (show (cells8 (f 0))[0]? = some (.int .i64 (f 0).kind) from rfl))
      obtain ⟨b, o, s⟩ := a
      simp only [Addr.add] at hs
      subst hs
      refine ⟨b, o, rfl, ?_, fun j x hj k u hu => ?_⟩
      · exact World.block_lt_of_cell? _ _ (h4.trans (show (cells8 (f 0))[0]? = some (.int .i64 (f 0).kind) from rfl))
      · have hjl : j < len0 := by have := (List.getElem?_eq_some_iff.1 hj).1; simpa using this
        rw [hget j hjl] at hj
        obtain rfl := Option.some.inj hj
        have hk8 : k < 8 := by have := (List.getElem?_eq_some_iff.1 hu).1; simpa [cells8] using this
        obtain ⟨_, h2⟩ := hf' j hjl
        obtain ⟨_, _, h3⟩ := World.cells?_some h2
        have h5 := (h3 k hk8).trans hu
        rw [Addr.add_lit, Addr.add_lit] at h5
        exact h5
    · obtain ⟨i, hi, rfl⟩ := List.mem_map.1 hx'
      exact (hf' i (List.mem_range.1 hi)).1
end Go.Proofs.Ytcockpphacebbaa
namespace Go.Proofs.Ytcockpphacebbaa.labelShort
open Go.ChangeShapes Go.WideShapes Go.ChangeAt Go.RowKit Rv
set_option linter.unusedVariables false
theorem own : ownKnob Try.prog.godebug = none := by kernel_rfl
set_option maxRecDepth 100000 in
theorem lifted (os : Os) (started : os.Started) (H : Type) (enc : TypeId × Value → H) :
    ReturnsInHanded {} Try.checked os 7 .any (Rows.labelShortSpec.pre6 enc Try.prog Try.f7 Rows.labelShortRow.domain false) (Rows.labelShortSpec.post enc Try.prog Try.f7 false true false false) := by
  refine returnsInHanded_of_change (C := Try.checked) own started (by kernel_rfl) Try.func7
    (ChangeSpec.witness6 (enc := enc) (C := Try.checked) false ⟨#[], #[.slice none 0 0], []⟩ 8 (by kernel_rfl) (by kernel_rfl) (by kernel_rfl) (by kernel_rfl)) ?_
  intro W base args ds gs before hval0 hW0 hcnd _
  have hval : ∀ (j : Nat) t v, Try.f7.params[j]? = some t → args[j]? = some v → Value.okWide Try.prog W .any base t v := hval0
  have hW' := hW0
  obtain ⟨p, q, hA0, hV, rfl, hfz, hnd⟩ := hW0
  have hA : DataW.TrodAll enc Try.prog W 0 (fun _ => true) true Try.f7.params.toList args.toList ds p := hA0
  rw [Try.params7] at hA hval
  obtain ⟨v0, vs0, d0, ds0, p0, q0, hargs, rfl, rfl, g0, r0⟩ := trodAll_cons hA
  obtain ⟨rfl, rfl, rfl⟩ := trodAll_nil r0
  obtain rfl : args = #[v0] := by cases args; simp_all
  obtain ⟨rfl, rfl⟩ := trodVars_none hV
  obtain ⟨po0, n0, c0, raw0, rfl, hl0, hm0, HP0, HW0⟩ := open_items (hval 0 22 v0 rfl rfl) g0
  clear hA0 hval0
  simp only [List.append_nil] at hW'
  refine (short_law po0 n0 c0 raw0 W hl0 hm0 HP0 HW0).mono fun e W' ⟨he, hb⟩ => ?_
  subst he
  have hlt := hW'.lt
  have hg := hb.grown
  exact ⟨_, rfl, post_of_same (pa := p0) (pv := []) hW' (fun _ _ _ => (trodAll_cons_mk (shut_bool Try.underlying4 _) trodAll_mk0)) (fun sp hsp => by have h := (trodAll_cons_mk (WideElems.Trod_stays (by kernel_rfl) (by kernel_rfl) (of_decide_eq_true (by kernel_rfl)) g0 (fun x hx => hb.1.same (hlt x (by simp [hx]))) (fun x hx => hsp x (by simp [hx]))) trodAll_mk0); simp only [List.append_nil] at h; exact h) (fun _ _ => rfl) (by simp)
    (hg.frame _) hg.2.1 (ok_one (by kernel_rfl) rfl (okWide_bool_mk Try.underlying4 _))⟩
theorem said : Rows.LabelShortSaid :=
  OpenClaim.holds_of_wide 7 Try.f7 rfl rfl rfl rfl rfl rfl rfl ⟨rfl, rfl, rfl, rfl, rfl⟩ rfl rfl rfl rfl rfl (by kernel_rfl) Try.func7 (by kernel_rfl)
    (of_decide_eq_true (by kernel_rfl)) (by unfold Func.isWrapper; first | (rw [if_pos (by decide +kernel)]; kernel_rfl) | (rw [if_neg (by decide +kernel)]; exact ⟨rfl, rfl⟩))
    (fun os started H enc _ => lifted os started H enc)
theorem proved : Rows.LabelShortSaid := said
end Go.Proofs.Ytcockpphacebbaa.labelShort
