/- Quotient times divisor, and the rest, are the number; the rest is nearer to 0 than the divisor, and of the number's sign. Proved for every input of the law at the commit of the claim, where the package-level table of texts reads as its initialiser lays it; the card ties that table to the program's text. -/
import Derived.Test.YtldhkfgloeanoaaDoorCards
import Derived.Test.YtldhkfgloeanoaaDoorTie
import Derived.Test.YtldhkfgloeanoaaDoorAwake
import Derived.Test.YtldhkfgloeanoaaDoorLemmas
import Derived.WalkKit
import Derived.ProofKit
import Derived.OpenShut
import Derived.Deep.DeepHandedRow
import Derived.SevenTiedAt
namespace Go.Proofs.YtldhkfgloeanoaaDoor.wrapDivides
open Go.ChangeShapes Go.WideShapes Go.ChangeAt Go.RowKit Plain
set_option linter.unusedVariables false

set_option maxHeartbeats 4000000 in
theorem walk (a0 a1 : Int) (w0 : (Lit.int .i64 a0).wf = true) (w1 : (Lit.int .i64 a1).wf = true) (w : World) (hT : Texts w) :
    Calls Tryd.prog 6 #[.int .i64 a0, .int .i64 a1] w fun e w' => e = .returned (.bool true) ∧ Grown w w' := by
  clear w0 w1
  obtain ⟨x, hx⟩ : ∃ x, wrap32 a0 = x := ⟨_, rfl⟩
  obtain ⟨y, hy⟩ : ∃ y, wrap32 a1 = y := ⟨_, rfl⟩
  obtain ⟨q, hq⟩ : ∃ q, two 4 a0 a1 = q := ⟨_, rfl⟩
  obtain ⟨r, hr⟩ : ∃ r, two 5 a0 a1 = r := ⟨_, rfl⟩
  obtain ⟨b, hb⟩ : ∃ b, two 3 q a1 = b := ⟨_, rfl⟩
  have g : two 1 b r = x := by
    rw [← hb, ← hr, ← hq, ← hx]
    by_cases h : wrap32 a1 = 0
    · exact div_back0 h
    · exact div_back h
  have x1 : -2147483648 ≤ x := by rw [← hx]; exact w32_lo _
  have x2 : x ≤ 2147483647 := by rw [← hx]; exact w32_hi _
  have y1 : -2147483648 ≤ y := by rw [← hy]; exact w32_lo _
  have y2 : y ≤ 2147483647 := by rw [← hy]; exact w32_hi _
  have z : y = 0 → q = -1 ∧ r = x := by
    intro h
    rw [← hy] at h
    exact ⟨hq.symm.trans (div_zero h), hr.symm.trans ((rem_zero h).trans hx)⟩
  have s : y ≠ 0 → r.natAbs < y.natAbs ∧ (0 ≤ x → 0 ≤ r) ∧ (x ≤ 0 → r ≤ 0) := by
    intro h
    have e : r = x.tmod y := by rw [← hr, rem_else (by rw [hy]; exact h), hx, hy]
    rw [e]
    exact ⟨rem_abs h, rem_sign⟩
  have ways : (y = 0 ∧ q = -1 ∧ r = x) ∨ (r = 0 ∧ (y == 0) = false) ∨ (0 < r ∧ 0 < x ∧ 0 < y ∧ r < y) ∨ (r < 0 ∧ x < 0 ∧ 0 < y ∧ -r < y) ∨ (0 < r ∧ 0 < x ∧ y < 0 ∧ y < -r) ∨ (r < 0 ∧ x < 0 ∧ y < 0 ∧ y < r) := by
    by_cases h : y = 0
    · exact Or.inl ⟨h, z h⟩
    · obtain ⟨s1, s2, s3⟩ := s h
      refine Or.inr ?_
      by_cases h0 : r = 0
      · exact Or.inl ⟨h0, beq_eq_false_iff_ne.2 h⟩
      · omega
  clear z s
  have Hhx := Lib.hid hx
  have Hhy := Lib.hid hy
  have Hhq := Lib.hid hq
  have Hhr := Lib.hid hr
  have Hhb := Lib.hid hb
  have Hg := Lib.hid g
  clear hx hy hq hr hb g
  have ways' : (y = 0 ∧ q = -1 ∧ r = x) ∨ (r = 0 ∧ (y == 0) = false) ∨ (((r == 0) = false ∧ decide (r < 0) = false ∧ decide (x < 0) = false) ∧ 0 < y ∧ r < y ∧ -r < y) ∨ (((r == 0) = false ∧ decide (r < 0) = true ∧ decide (x < 0) = true) ∧ 0 < y ∧ r < y ∧ -r < y) ∨ (((r == 0) = false ∧ decide (r < 0) = false ∧ decide (x < 0) = false) ∧ y < 0 ∧ y < r ∧ y < -r) ∨ (((r == 0) = false ∧ decide (r < 0) = true ∧ decide (x < 0) = true) ∧ y < 0 ∧ y < r ∧ y < -r) := by
    rcases ways with h | h | h | h | h | h
    · exact Or.inl h
    · exact Or.inr (Or.inl h)
    · exact Or.inr (Or.inr (Or.inl ⟨⟨beq_eq_false_iff_ne.2 (by omega), decide_eq_false (by omega), decide_eq_false (by omega)⟩, by omega, by omega, by omega⟩))
    · exact Or.inr (Or.inr (Or.inr (Or.inl ⟨⟨beq_eq_false_iff_ne.2 (by omega), decide_eq_true (by omega), decide_eq_true (by omega)⟩, by omega, by omega, by omega⟩)))
    · exact Or.inr (Or.inr (Or.inr (Or.inr (Or.inl ⟨⟨beq_eq_false_iff_ne.2 (by omega), decide_eq_false (by omega), decide_eq_false (by omega)⟩, by omega, by omega, by omega⟩))))
    · exact Or.inr (Or.inr (Or.inr (Or.inr (Or.inr ⟨⟨beq_eq_false_iff_ne.2 (by omega), decide_eq_true (by omega), decide_eq_true (by omega)⟩, by omega, by omega, by omega⟩))))
  clear ways
  rcases ways' with ⟨rfl, rfl, rfl⟩ | ⟨rfl, c1⟩ | ⟨⟨d1, d2, d3⟩, c2, c3, c4⟩ | ⟨⟨d1, d2, d3⟩, c2, c3, c4⟩ | ⟨⟨d1, d2, d3⟩, c2, c3, c4⟩ | ⟨⟨d1, d2, d3⟩, c2, c3, c4⟩
  all_goals
    go_enter Tryd.func6, Tryd.ntmps6
    go_wp2_with (first | (go_at_call 11; ((with_reducible refine (awake_any _ hT).mono ?_); rintro e w' ⟨rfl, rfl⟩)) | (go_at_call 23; ((with_reducible refine (wrap_lit Hhx.out _).mono ?_); rintro e w' ⟨rfl, rfl⟩)) | (go_at_call 23; ((with_reducible refine (wrap_lit Hhy.out _).mono ?_); rintro e w' ⟨rfl, rfl⟩)) | (go_at_call 13; ((with_reducible refine (two_lit (by omega) Hhq.out _).mono ?_); rintro e w' ⟨rfl, rfl⟩)) | (go_at_call 13; ((with_reducible refine (two_lit (by omega) Hhr.out _).mono ?_); rintro e w' ⟨rfl, rfl⟩)) | (go_at_call 13; ((with_reducible refine (two_lit (by omega) Hhb.out _).mono ?_); rintro e w' ⟨rfl, rfl⟩)) | (go_at_call 13; ((with_reducible refine (two_lit (by omega) Hg.out _).mono ?_); rintro e w' ⟨rfl, rfl⟩)))
    go_ret
    exact ⟨rfl, Grown.refl _⟩

theorem contract (H : Type) (enc : TypeId × Value → H) (W : World) (base : Nat) (args : Array Value) (ds gs : List (DataW H)) (before : List MemPlace)
    (hval : ∀ (j : Nat) t v, Tryd.f6.params[j]? = some t → args[j]? = some v → Value.okWide Tryd.prog W .any base t v)
    (hW : DataW.Whole enc Tryd.prog Tryd.f6.params.toList Rows.wrapDividesSpec.vars false W args.toList ds gs before) (hL : laidMetH Tryd.prog Rows.wrapDividesRow.laid W) :
    Calls Tryd.prog 6 args W fun e W' => ∃ v, e = .returned v ∧ Rows.wrapDividesSpec.post enc Tryd.prog Tryd.f6 false true false false W args v W' := by
  have hT : Texts W := texts_of_laid hL
  have hW' := hW
  obtain ⟨p, q, hA0, hV, rfl, hfz, hnd⟩ := hW
  have hA : DataW.TrodAll enc Tryd.prog W 0 (fun _ => true) true Tryd.f6.params.toList args.toList ds p := hA0
  rw [Tryd.params6] at hA hval
  obtain ⟨v0, vs0, d0, ds0, p0, q0, hargs, rfl, rfl, h0, r0⟩ := trodAll_cons hA
  obtain ⟨v1, vs1, d1, ds1, p1, q1, rfl, rfl, rfl, h1, r1⟩ := trodAll_cons r0
  obtain ⟨rfl, rfl, rfl⟩ := trodAll_nil r1
  obtain rfl : args = #[v0, v1] := by cases args; simp_all
  obtain ⟨rfl, rfl⟩ := trodVars_none hV
  obtain ⟨a0, rfl, rfl, rfl, w0⟩ := open_int Tryd.underlying3 (hval 0 3 v0 rfl rfl) h0
  obtain ⟨a1, rfl, rfl, rfl, w1⟩ := open_int Tryd.underlying3 (hval 1 3 v1 rfl rfl) h1
  clear hA0
  simp only [List.append_nil] at hW'
  refine (walk a0 a1 w0 w1 W hT).mono fun e W' ⟨he, hg⟩ => ?_
  subst he
  exact ⟨_, rfl, post_of_same (pa := []) (pv := []) hW' (fun _ _ _ => trodAll_cons_mk (shut_bool Tryd.underlying4 _) trodAll_mk0) (fun _ _ => (trodAll_cons_mk (shut_int Tryd.underlying3 w0) (trodAll_cons_mk (shut_int Tryd.underlying3 w1) trodAll_mk0))) (fun _ _ => rfl) rfl
    (hg.frame _) hg.2.1 (ok_one (by kernel_rfl) rfl (okWide_bool_mk Tryd.underlying4 _))⟩

/-- A WORLD FOR THE WITNESS: the settled one, the table holding what its initialiser lays. -/
noncomputable def laidWorld (os : Os) : World :=
  { World.holding Tryd.prog os ⟨#[], #[], []⟩ with heap := (World.holding Tryd.prog os ⟨#[], #[], []⟩).heap.modify 0 fun
      | .cells _ t frozen => .cells textCells t frozen
      | o => o }
theorem laid_met (os : Os) : laidMet Tryd.prog Rows.wrapDividesRow.laid ((laidWorld os).forCall (fun _ _ => 0) ⟨#[], #[.int .i64 0, .int .i64 0], []⟩).memory :=
  laidMet_of_run' 8 (by kernel_rfl) (by kernel_rfl)
theorem reads (os : Os) {H : Type} (enc : TypeId × Value → H) : ∃ places, DataW.whole enc Tryd.prog ((laidWorld os).forCall (fun _ _ => 0) ⟨#[], #[.int .i64 0, .int .i64 0], []⟩).memory Tryd.f6.params.toList Rows.wrapDividesSpec.vars false (#[.int .i64 0, .int .i64 0] : Array Value).toList 8 = some ([.lit (.int .i64 0), .lit (.int .i64 0)], [], places) :=
  ⟨[], by kernel_rfl⟩

set_option maxRecDepth 100000 in
theorem lifted (os : Os) (started : os.Started) (H : Type) (enc : TypeId × Value → H) (F : Stop.Interp) :
    ReturnsInHanded {} Tryd.checked os 6 .any ((OpenSpec.ofChange Rows.wrapDividesSpec).preRow enc Tryd.prog Tryd.f6 Rows.wrapDividesRow.domain false Rows.wrapDividesRow.laid) (((OpenSpec.ofChange Rows.wrapDividesSpec).at F).post enc Tryd.prog Tryd.f6 false true false false) := by
  obtain ⟨places, hx⟩ := reads os enc
  refine returnsInHanded_of_row (C := Tryd.checked) (s := OpenSpec.ofChange Rows.wrapDividesSpec) own started (by kernel_rfl) Tryd.func6
    (witness_row_at (enc := enc) (C := Tryd.checked) false (laidWorld os) #[.int .i64 0, .int .i64 0] rfl (by kernel_rfl) (by kernel_rfl) (by kernel_rfl)
      (OpenSpec.preRow_of_cond 8 hx (by kernel_rfl) (fun k hk => by cases hk) (by kernel_rfl) (laid_met os))) ?_
  intro W base args ds gs before hval hW _ _ _ hL _ _
  exact contract H enc W base args ds gs before hval hW hL

theorem said : Rows.WrapDividesSaid :=
  OpenClaim.holds_of_cond 6 Tryd.f6 rfl rfl rfl rfl rfl rfl rfl ⟨rfl, rfl, rfl, rfl, rfl⟩ rfl rfl rfl rfl rfl (by kernel_rfl) Tryd.func6 (by kernel_rfl)
    (of_decide_eq_true (by kernel_rfl)) (by unfold Func.isWrapper; first | (rw [if_pos (by decide +kernel)]; kernel_rfl) | (rw [if_neg (by decide +kernel)]; exact ⟨rfl, rfl⟩))
    (fun os started H enc _ F => by rw [OpenClaim.pre_eq_preRow]; exact lifted os started H enc F)

theorem plain (f : FuncId) (fn : Func) (hf : Tryd.pinned.checked.prog.funcNamed "headstock/headstocklaw01.WrapDivides" = some f) (hfn : Tryd.pinned.checked.prog.funcs[f]? = some fn) :
    false = Tryd.pinned.checked.prog.looks [] ∧ ∀ (j : Nat) t, fn.params[j]? = some t → Tryd.pinned.checked.prog.wantsStandIn t = false := by
  obtain rfl : f = 6 := Option.some.inj ((show Tryd.prog.funcNamed "headstock/headstocklaw01.WrapDivides" = some 6 by kernel_rfl).symm.trans hf) |>.symm
  obtain rfl : fn = Tryd.f6 := (Option.some.inj (Tryd.func6.symm.trans hfn)).symm
  refine ⟨by kernel_rfl, fun j t ht => ?_⟩
  rw [Tryd.params6] at ht
  obtain rfl : t = 3 := by simpa using Array.mem_of_getElem? ht
  exact (show Tryd.prog.wantsStandIn 3 = false by kernel_rfl)

/-- THE CARD. -/
theorem card : Rows.WrapDividesCardSaid :=
  Claim7.holds_tied_plain_at .later [] _ _ _ _ said (fun _ h => by cases h) (by kernel_rfl) (fun _ h => by cases h) wrapDivides_row_tie rfl ⟨rfl, rfl⟩ (by kernel_rfl) rfl plain (by kernel_rfl)
#print axioms card
end Go.Proofs.YtldhkfgloeanoaaDoor.wrapDivides
