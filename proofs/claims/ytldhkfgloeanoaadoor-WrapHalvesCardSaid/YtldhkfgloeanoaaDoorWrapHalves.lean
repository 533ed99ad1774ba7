/- A product's halves are the product, with signs and without. Proved for every input of the law at the commit of the claim, where the package-level table of texts reads as its initialiser lays it; the card ties that table to the program's text. -/
import Derived.Test.YtldhkfgloeanoaaDoorCards
import Derived.Test.YtldhkfgloeanoaaDoorTie
import Derived.Test.YtldhkfgloeanoaaDoorAwake
import Derived.Test.YtldhkfgloeanoaaDoorLemmas
import Derived.WalkKit
import Derived.ProofKit
import Derived.OpenShut
import Derived.Deep.DeepHandedRow
import Derived.SevenTiedAt
namespace Go.Proofs.YtldhkfgloeanoaaDoor.wrapHalves
open Go.ChangeShapes Go.WideShapes Go.ChangeAt Go.RowKit Plain
set_option linter.unusedVariables false

set_option maxHeartbeats 4000000 in
theorem walk (a0 a1 : Int) (w0 : (Lit.int .i64 a0).wf = true) (w1 : (Lit.int .i64 a1).wf = true) (w : World) (hT : Texts w) :
    Calls Tryd.prog 7 #[.int .i64 a0, .int .i64 a1] w fun e w' => e = .returned (.bool true) ∧ Grown w w' := by
  clear w0 w1
  have f1 := halves a0 a1
  have f2 := top_half a0 a1
  have f3 := high_bd a0 a1
  have f4 : 0 ≤ two 3 a0 a1 % 4294967296 ∧ two 3 a0 a1 % 4294967296 ≤ 4294967295 := by omega
  have f5 := mul_bd (x := wrap32 a0) (y := wrap32 a1) ⟨w32_lo _, by have := w32_hi a0; omega⟩ ⟨w32_lo _, by have := w32_hi a1; omega⟩
  obtain ⟨x, hx⟩ : ∃ x, wrap32 a0 = x := ⟨_, rfl⟩
  obtain ⟨y, hy⟩ : ∃ y, wrap32 a1 = y := ⟨_, rfl⟩
  obtain ⟨u, hu⟩ : ∃ u, a0 % 4294967296 = u := ⟨_, rfl⟩
  obtain ⟨v, hv⟩ : ∃ v, a1 % 4294967296 = v := ⟨_, rfl⟩
  obtain ⟨l, hl⟩ : ∃ l, two 3 a0 a1 = l := ⟨_, rfl⟩
  obtain ⟨p, hp⟩ : ∃ p, high a0 a1 true = p := ⟨_, rfl⟩
  obtain ⟨q, hq⟩ : ∃ q, high a0 a1 false = q := ⟨_, rfl⟩
  rw [hl, hp, hx, hy] at f1
  rw [hq, hu, hv] at f2
  rw [hp] at f3
  rw [hl] at f4
  rw [hx, hy] at f5
  have u1 : 0 ≤ u ∧ u ≤ 4294967295 := by omega
  have v1 : 0 ≤ v ∧ v ≤ 4294967295 := by omega
  obtain ⟨d, hd⟩ : ∃ d, l % 4294967296 = d := ⟨_, rfl⟩
  rw [hd] at f1 f4
  have m1 := mul_bdu (x := u / 65536) (y := v) (by omega) v1
  have m2 := mul_bdu (x := u % 65536) (y := v) (by omega) v1
  have m1' : u / 65536 * v ≤ 65535 * 4294967295 := Int.mul_le_mul (by omega) v1.2 v1.1 (by omega)
  have m2' : u % 65536 * v ≤ 65535 * 4294967295 := Int.mul_le_mul (by omega) v1.2 v1.1 (by omega)
  obtain ⟨f31, f32⟩ := f3
  obtain ⟨f41, f42⟩ := f4
  obtain ⟨f51, f52⟩ := f5
  obtain ⟨u11, u12⟩ := u1
  obtain ⟨m11, _⟩ := m1
  obtain ⟨m21, _⟩ := m2
  obtain ⟨t, ht⟩ : ∃ t, (u / 65536 * v + u % 65536 * v / 65536) / 65536 = t := ⟨_, rfl⟩
  rw [ht] at f2
  have hm := and65535 u
  have Hhx := Lib.hid hx
  have Hhy := Lib.hid hy
  have Hhu := Lib.hid hu
  have Hhv := Lib.hid hv
  have Hhl := Lib.hid hl
  have Hhp := Lib.hid hp
  have Hhq := Lib.hid hq
  have Hhd := Lib.hid hd
  have Hf2 := Lib.hid f2
  have Hf1 := Lib.hid f1
  clear hx hy hu hv hl hp hq hd f2 f1
  all_goals
    go_enter Tryd.func7, Tryd.ntmps7
    go_wp2_with (first | (go_at_call 11; ((with_reducible refine (awake_any _ hT).mono ?_); rintro e w' ⟨rfl, rfl⟩)) | (go_at_call 23; ((with_reducible refine (wrap_lit Hhx.out _).mono ?_); rintro e w' ⟨rfl, rfl⟩)) | (go_at_call 23; ((with_reducible refine (wrap_lit Hhy.out _).mono ?_); rintro e w' ⟨rfl, rfl⟩)) | (go_at_call 25; ((with_reducible refine (word_lit Hhu.out _).mono ?_); rintro e w' ⟨rfl, rfl⟩)) | (go_at_call 25; ((with_reducible refine (word_lit Hhv.out _).mono ?_); rintro e w' ⟨rfl, rfl⟩)) | (go_at_call 25; ((with_reducible refine (word_lit Hhd.out _).mono ?_); rintro e w' ⟨rfl, rfl⟩)) | (go_at_call 25; ((with_reducible refine (word_lit Hf2.out _).mono ?_); rintro e w' ⟨rfl, rfl⟩)) | (go_at_call 13; ((with_reducible refine (two_lit (by omega) Hhl.out _).mono ?_); rintro e w' ⟨rfl, rfl⟩)) | (go_at_call 15; ((with_reducible refine (high_lit Hhp.out _).mono ?_); rintro e w' ⟨rfl, rfl⟩)) | (go_at_call 15; ((with_reducible refine (high_lit Hhq.out _).mono ?_); rintro e w' ⟨rfl, rfl⟩)))
    go_ret
    exact ⟨rfl, Grown.refl _⟩

theorem contract (H : Type) (enc : TypeId × Value → H) (W : World) (base : Nat) (args : Array Value) (ds gs : List (DataW H)) (before : List MemPlace)
    (hval : ∀ (j : Nat) t v, Tryd.f7.params[j]? = some t → args[j]? = some v → Value.okWide Tryd.prog W .any base t v)
    (hW : DataW.Whole enc Tryd.prog Tryd.f7.params.toList Rows.wrapHalvesSpec.vars false W args.toList ds gs before) (hL : laidMetH Tryd.prog Rows.wrapHalvesRow.laid W) :
    Calls Tryd.prog 7 args W fun e W' => ∃ v, e = .returned v ∧ Rows.wrapHalvesSpec.post enc Tryd.prog Tryd.f7 false true false false W args v W' := by
  have hT : Texts W := texts_of_laid hL
  have hW' := hW
  obtain ⟨p, q, hA0, hV, rfl, hfz, hnd⟩ := hW
  have hA : DataW.TrodAll enc Tryd.prog W 0 (fun _ => true) true Tryd.f7.params.toList args.toList ds p := hA0
  rw [Tryd.params7] at hA hval
  obtain ⟨v0, vs0, d0, ds0, p0, q0, hargs, rfl, rfl, h0, r0⟩ := trodAll_cons hA
  obtain ⟨v1, vs1, d1, ds1, p1, q1, rfl, rfl, rfl, h1, r1⟩ := trodAll_cons r0
  obtain ⟨rfl, rfl, rfl⟩ := trodAll_nil r1
  obtain rfl : args = #[v0, v1] := by cases args; simp_all
  obtain ⟨rfl, rfl⟩ := trodVars_none hV
  obtain ⟨a0, rfl, rfl, rfl, w0⟩ := open_int Tryd.underlying3 (hval 0 3 v0 rfl rfl) h0
  obtain ⟨a1, rfl, rfl, rfl, w1⟩ := open_int Tryd.underlying3 (hval 1 3 v1 rfl rfl) h1
  clear hA0
  simp only [List.append_nil] at hW'
  refine (walk a0 a1 w0 w1 W hT).mono fun e W' ⟨he, hg⟩ => ?_
  subst he
  exact ⟨_, rfl, post_of_same (pa := []) (pv := []) hW' (fun _ _ _ => trodAll_cons_mk (shut_bool Tryd.underlying4 _) trodAll_mk0) (fun _ _ => (trodAll_cons_mk (shut_int Tryd.underlying3 w0) (trodAll_cons_mk (shut_int Tryd.underlying3 w1) trodAll_mk0))) (fun _ _ => rfl) rfl
    (hg.frame _) hg.2.1 (ok_one (by kernel_rfl) rfl (okWide_bool_mk Tryd.underlying4 _))⟩

/-- A WORLD FOR THE WITNESS: the settled one, the table holding what its initialiser lays. -/
noncomputable def laidWorld (os : Os) : World :=
  { World.holding Tryd.prog os ⟨#[], #[], []⟩ with heap := (World.holding Tryd.prog os ⟨#[], #[], []⟩).heap.modify 0 fun
      | .cells _ t frozen => .cells textCells t frozen
      | o => o }
theorem laid_met (os : Os) : laidMet Tryd.prog Rows.wrapHalvesRow.laid ((laidWorld os).forCall (fun _ _ => 0) ⟨#[], #[.int .i64 0, .int .i64 0], []⟩).memory :=
  laidMet_of_run' 8 (by kernel_rfl) (by kernel_rfl)
theorem reads (os : Os) {H : Type} (enc : TypeId × Value → H) : ∃ places, DataW.whole enc Tryd.prog ((laidWorld os).forCall (fun _ _ => 0) ⟨#[], #[.int .i64 0, .int .i64 0], []⟩).memory Tryd.f7.params.toList Rows.wrapHalvesSpec.vars false (#[.int .i64 0, .int .i64 0] : Array Value).toList 8 = some ([.lit (.int .i64 0), .lit (.int .i64 0)], [], places) :=
  ⟨[], by kernel_rfl⟩

set_option maxRecDepth 100000 in
theorem lifted (os : Os) (started : os.Started) (H : Type) (enc : TypeId × Value → H) (F : Stop.Interp) :
    ReturnsInHanded {} Tryd.checked os 7 .any ((OpenSpec.ofChange Rows.wrapHalvesSpec).preRow enc Tryd.prog Tryd.f7 Rows.wrapHalvesRow.domain false Rows.wrapHalvesRow.laid) (((OpenSpec.ofChange Rows.wrapHalvesSpec).at F).post enc Tryd.prog Tryd.f7 false true false false) := by
  obtain ⟨places, hx⟩ := reads os enc
  refine returnsInHanded_of_row (C := Tryd.checked) (s := OpenSpec.ofChange Rows.wrapHalvesSpec) own started (by kernel_rfl) Tryd.func7
    (witness_row_at (enc := enc) (C := Tryd.checked) false (laidWorld os) #[.int .i64 0, .int .i64 0] rfl (by kernel_rfl) (by kernel_rfl) (by kernel_rfl)
      (OpenSpec.preRow_of_cond 8 hx (by kernel_rfl) (fun k hk => by cases hk) (by kernel_rfl) (laid_met os))) ?_
  intro W base args ds gs before hval hW _ _ _ hL _ _
  exact contract H enc W base args ds gs before hval hW hL

theorem said : Rows.WrapHalvesSaid :=
  OpenClaim.holds_of_cond 7 Tryd.f7 rfl rfl rfl rfl rfl rfl rfl ⟨rfl, rfl, rfl, rfl, rfl⟩ rfl rfl rfl rfl rfl (by kernel_rfl) Tryd.func7 (by kernel_rfl)
    (of_decide_eq_true (by kernel_rfl)) (by unfold Func.isWrapper; first | (rw [if_pos (by decide +kernel)]; kernel_rfl) | (rw [if_neg (by decide +kernel)]; exact ⟨rfl, rfl⟩))
    (fun os started H enc _ F => by rw [OpenClaim.pre_eq_preRow]; exact lifted os started H enc F)

theorem plain (f : FuncId) (fn : Func) (hf : Tryd.pinned.checked.prog.funcNamed "headstock/headstocklaw01.WrapHalves" = some f) (hfn : Tryd.pinned.checked.prog.funcs[f]? = some fn) :
    false = Tryd.pinned.checked.prog.looks [] ∧ ∀ (j : Nat) t, fn.params[j]? = some t → Tryd.pinned.checked.prog.wantsStandIn t = false := by
  obtain rfl : f = 7 := Option.some.inj ((show Tryd.prog.funcNamed "headstock/headstocklaw01.WrapHalves" = some 7 by kernel_rfl).symm.trans hf) |>.symm
  obtain rfl : fn = Tryd.f7 := (Option.some.inj (Tryd.func7.symm.trans hfn)).symm
  refine ⟨by kernel_rfl, fun j t ht => ?_⟩
  rw [Tryd.params7] at ht
  obtain rfl : t = 3 := by simpa using Array.mem_of_getElem? ht
  exact (show Tryd.prog.wantsStandIn 3 = false by kernel_rfl)

/-- THE CARD. -/
theorem card : Rows.WrapHalvesCardSaid :=
  Claim7.holds_tied_plain_at .later [] _ _ _ _ said (fun _ h => by cases h) (by kernel_rfl) (fun _ h => by cases h) wrapHalves_row_tie rfl ⟨rfl, rfl⟩ (by kernel_rfl) rfl plain (by kernel_rfl)
#print axioms card
end Go.Proofs.YtldhkfgloeanoaaDoor.wrapHalves
