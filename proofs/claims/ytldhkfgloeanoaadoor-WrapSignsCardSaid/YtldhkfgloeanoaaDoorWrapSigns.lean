/- Unlike operators of two numbers have unlike signs; levels are 1 to 8; beyond there is nothing. Proved for every input of the law at the commit of the claim, where the package-level table of texts reads as its initialiser lays it; the card ties that table to the program's text. -/
import Derived.Test.YtldhkfgloeanoaaDoorCards
import Derived.Test.YtldhkfgloeanoaaDoorTie
import Derived.Test.YtldhkfgloeanoaaDoorAwake
import Derived.Test.YtldhkfgloeanoaaDoorLemmas
import Derived.WalkKit
import Derived.ProofKit
import Derived.OpenShut
import Derived.Deep.DeepHandedRow
import Derived.SevenTiedAt
namespace Go.Proofs.YtldhkfgloeanoaaDoor.wrapSigns
open Go.ChangeShapes Go.WideShapes Go.ChangeAt Go.RowKit Plain
set_option linter.unusedVariables false

set_option maxHeartbeats 4000000 in
theorem walk (a0 a1 a2 : Int) (w0 : (Lit.int .i64 a0).wf = true) (w1 : (Lit.int .i64 a1).wf = true) (w2 : (Lit.int .i64 a2).wf = true) (w : World) (hT : Texts w) :
    Calls Tryd.prog 8 #[.int .i64 a0, .int .i64 a1, .int .i64 a2] w fun e w' => e = .returned (.bool true) ∧ Grown w w' := by
  obtain ⟨l0, u0⟩ := i64_bd w0
  obtain ⟨l1, u1⟩ := i64_bd w1
  obtain ⟨l2, u2⟩ := i64_bd w2
  clear w0 w1 w2
  have hb0 := pick_bd a0 14 (by omega)
  have hb1 := pick_bd a1 14 (by omega)
  have hb2 := pick_bd a2 1073741824 (by omega)
  obtain ⟨i, hi⟩ : ∃ i, pick a0 14 = i := ⟨_, rfl⟩
  obtain ⟨j, hj⟩ : ∃ j, pick a1 14 = j := ⟨_, rfl⟩
  obtain ⟨k, hk⟩ : ∃ k, pick a2 1073741824 = k := ⟨_, rfl⟩
  rw [hi] at hb0
  rw [hj] at hb1
  rw [hk] at hb2
  obtain ⟨i1, i2⟩ := hb0
  obtain ⟨j1, j2⟩ := hb1
  obtain ⟨k1, k2⟩ := hb2
  obtain ⟨v, hv⟩ : ∃ v, level (1 + i) = v := ⟨_, rfl⟩
  have v1 : 1 ≤ v ∧ v ≤ 8 := by
    obtain ⟨n, rfl⟩ := Int.eq_ofNat_of_zero_le i1
    rw [← hv]
    exact level_bd n (by omega)
  obtain ⟨v11, v12⟩ := v1
  obtain ⟨s, hs⟩ : ∃ s : ByteArray, (⟨(text (1 + i)).toArray⟩ : ByteArray) = s := ⟨_, rfl⟩
  obtain ⟨t, ht⟩ : ∃ t : ByteArray, (⟨(text (1 + j)).toArray⟩ : ByteArray) = t := ⟨_, rfl⟩
  have e1 : isSign (1 + i) = true := decide_eq_true (by omega)
  have e2 : isSign (1 + j) = true := decide_eq_true (by omega)
  have e3 : isSign (18 + k) = false := decide_eq_false (by omega)
  have e4 : text (18 + k) = [] := text_out _ (by omega)
  have e5 : (⟨(text (18 + k)).toArray⟩ : ByteArray) = ⟨#[]⟩ := by rw [e4]
  have e6 : level (18 + k) = 0 := level_out _ (by omega)
  have e7 : level (-(18 + k)) = 0 := level_out _ (by omega)
  have ways : (i = j ∧ s = t) ∨ ((1 + i == 1 + j) = false ∧ (s.toList == t.toList) = false) := by
    by_cases h : i = j
    · subst h
      exact Or.inl ⟨rfl, hs.symm.trans ht⟩
    · refine Or.inr ⟨beq_eq_false_iff_ne.2 (by omega), beq_eq_false_iff_ne.2 fun c => h ?_⟩
      obtain ⟨n, rfl⟩ := Int.eq_ofNat_of_zero_le i1
      obtain ⟨m, rfl⟩ := Int.eq_ofNat_of_zero_le j1
      rw [← hs, ← ht, ByteArray.toList_eq, ByteArray.toList_eq] at c
      have := text_inj n m (by omega) (by omega) c
      omega
  have Hhi := Lib.hid hi
  have Hhj := Lib.hid hj
  have Hhk := Lib.hid hk
  have Hhv := Lib.hid hv
  have Hhs := Lib.hid hs
  have Hht := Lib.hid ht
  have He1 := Lib.hid e1
  have He2 := Lib.hid e2
  have He3 := Lib.hid e3
  have He5 := Lib.hid e5
  have He6 := Lib.hid e6
  have He7 := Lib.hid e7
  clear e4 hi hj hk hv hs ht e1 e2 e3 e5 e6 e7
  rcases ways with ⟨rfl, rfl⟩ | ⟨c1, c2⟩
  all_goals
    go_enter Tryd.func8, Tryd.ntmps8
    go_wp2_with (first | (go_at_call 11; ((with_reducible refine (awake_any _ hT).mono ?_); rintro e w' ⟨rfl, rfl⟩)) | (go_at_call 12; ((with_reducible refine (pick_lit l0 u0 (by omega) Hhi.out _).mono ?_); rintro e w' ⟨rfl, rfl⟩)) | (go_at_call 12; ((with_reducible refine (pick_lit l1 u1 (by omega) Hhj.out _).mono ?_); rintro e w' ⟨rfl, rfl⟩)) | (go_at_call 12; ((with_reducible refine (pick_lit l2 u2 (by omega) Hhk.out _).mono ?_); rintro e w' ⟨rfl, rfl⟩)) | (go_at_call 19; ((with_reducible refine (sign_lit Hhs.out He1.out _ hT).mono ?_); rintro e w' ⟨rfl, rfl⟩)) | (go_at_call 19; ((with_reducible refine (sign_lit Hht.out He2.out _ hT).mono ?_); rintro e w' ⟨rfl, rfl⟩)) | (go_at_call 19; ((with_reducible refine (sign_lit He5.out He3.out _ hT).mono ?_); rintro e w' ⟨rfl, rfl⟩)) | (go_at_call 13; ((with_reducible refine (two_none _ _ _ (by omega) _).mono ?_); rintro e w' ⟨rfl, rfl⟩)) | (go_at_call 17; ((with_reducible refine (one_none _ _ (by omega) _).mono ?_); rintro e w' ⟨rfl, rfl⟩)) | (go_at_call 21; ((with_reducible refine (level_lit Hhv.out _).mono ?_); rintro e w' ⟨rfl, rfl⟩)) | (go_at_call 21; ((with_reducible refine (level_lit He6.out _).mono ?_); rintro e w' ⟨rfl, rfl⟩)) | (go_at_call 21; ((with_reducible refine (level_lit He7.out _).mono ?_); rintro e w' ⟨rfl, rfl⟩)))
    go_ret
    exact ⟨rfl, Grown.refl _⟩

theorem contract (H : Type) (enc : TypeId × Value → H) (W : World) (base : Nat) (args : Array Value) (ds gs : List (DataW H)) (before : List MemPlace)
    (hval : ∀ (j : Nat) t v, Tryd.f8.params[j]? = some t → args[j]? = some v → Value.okWide Tryd.prog W .any base t v)
    (hW : DataW.Whole enc Tryd.prog Tryd.f8.params.toList Rows.wrapSignsSpec.vars false W args.toList ds gs before) (hL : laidMetH Tryd.prog Rows.wrapSignsRow.laid W) :
    Calls Tryd.prog 8 args W fun e W' => ∃ v, e = .returned v ∧ Rows.wrapSignsSpec.post enc Tryd.prog Tryd.f8 false true false false W args v W' := by
  have hT : Texts W := texts_of_laid hL
  have hW' := hW
  obtain ⟨p, q, hA0, hV, rfl, hfz, hnd⟩ := hW
  have hA : DataW.TrodAll enc Tryd.prog W 0 (fun _ => true) true Tryd.f8.params.toList args.toList ds p := hA0
  rw [Tryd.params8] at hA hval
  obtain ⟨v0, vs0, d0, ds0, p0, q0, hargs, rfl, rfl, h0, r0⟩ := trodAll_cons hA
  obtain ⟨v1, vs1, d1, ds1, p1, q1, rfl, rfl, rfl, h1, r1⟩ := trodAll_cons r0
  obtain ⟨v2, vs2, d2, ds2, p2, q2, rfl, rfl, rfl, h2, r2⟩ := trodAll_cons r1
  obtain ⟨rfl, rfl, rfl⟩ := trodAll_nil r2
  obtain rfl : args = #[v0, v1, v2] := by cases args; simp_all
  obtain ⟨rfl, rfl⟩ := trodVars_none hV
  obtain ⟨a0, rfl, rfl, rfl, w0⟩ := open_int Tryd.underlying3 (hval 0 3 v0 rfl rfl) h0
  obtain ⟨a1, rfl, rfl, rfl, w1⟩ := open_int Tryd.underlying3 (hval 1 3 v1 rfl rfl) h1
  obtain ⟨a2, rfl, rfl, rfl, w2⟩ := open_int Tryd.underlying3 (hval 2 3 v2 rfl rfl) h2
  clear hA0
  simp only [List.append_nil] at hW'
  refine (walk a0 a1 a2 w0 w1 w2 W hT).mono fun e W' ⟨he, hg⟩ => ?_
  subst he
  exact ⟨_, rfl, post_of_same (pa := []) (pv := []) hW' (fun _ _ _ => trodAll_cons_mk (shut_bool Tryd.underlying4 _) trodAll_mk0) (fun _ _ => (trodAll_cons_mk (shut_int Tryd.underlying3 w0) (trodAll_cons_mk (shut_int Tryd.underlying3 w1) (trodAll_cons_mk (shut_int Tryd.underlying3 w2) trodAll_mk0)))) (fun _ _ => rfl) rfl
    (hg.frame _) hg.2.1 (ok_one (by kernel_rfl) rfl (okWide_bool_mk Tryd.underlying4 _))⟩

/-- A WORLD FOR THE WITNESS: the settled one, the table holding what its initialiser lays. -/
noncomputable def laidWorld (os : Os) : World :=
  { World.holding Tryd.prog os ⟨#[], #[], []⟩ with heap := (World.holding Tryd.prog os ⟨#[], #[], []⟩).heap.modify 0 fun
      | .cells _ t frozen => .cells textCells t frozen
      | o => o }
theorem laid_met (os : Os) : laidMet Tryd.prog Rows.wrapSignsRow.laid ((laidWorld os).forCall (fun _ _ => 0) ⟨#[], #[.int .i64 0, .int .i64 0, .int .i64 0], []⟩).memory :=
  laidMet_of_run' 8 (by kernel_rfl) (by kernel_rfl)
theorem reads (os : Os) {H : Type} (enc : TypeId × Value → H) : ∃ places, DataW.whole enc Tryd.prog ((laidWorld os).forCall (fun _ _ => 0) ⟨#[], #[.int .i64 0, .int .i64 0, .int .i64 0], []⟩).memory Tryd.f8.params.toList Rows.wrapSignsSpec.vars false (#[.int .i64 0, .int .i64 0, .int .i64 0] : Array Value).toList 8 = some ([.lit (.int .i64 0), .lit (.int .i64 0), .lit (.int .i64 0)], [], places) :=
  ⟨[], by kernel_rfl⟩

set_option maxRecDepth 100000 in
theorem lifted (os : Os) (started : os.Started) (H : Type) (enc : TypeId × Value → H) (F : Stop.Interp) :
    ReturnsInHanded {} Tryd.checked os 8 .any ((OpenSpec.ofChange Rows.wrapSignsSpec).preRow enc Tryd.prog Tryd.f8 Rows.wrapSignsRow.domain false Rows.wrapSignsRow.laid) (((OpenSpec.ofChange Rows.wrapSignsSpec).at F).post enc Tryd.prog Tryd.f8 false true false false) := by
  obtain ⟨places, hx⟩ := reads os enc
  refine returnsInHanded_of_row (C := Tryd.checked) (s := OpenSpec.ofChange Rows.wrapSignsSpec) own started (by kernel_rfl) Tryd.func8
    (witness_row_at (enc := enc) (C := Tryd.checked) false (laidWorld os) #[.int .i64 0, .int .i64 0, .int .i64 0] rfl (by kernel_rfl) (by kernel_rfl) (by kernel_rfl)
      (OpenSpec.preRow_of_cond 8 hx (by kernel_rfl) (fun k hk => by cases hk) (by kernel_rfl) (laid_met os))) ?_
  intro W base args ds gs before hval hW _ _ _ hL _ _
  exact contract H enc W base args ds gs before hval hW hL

theorem said : Rows.WrapSignsSaid :=
  OpenClaim.holds_of_cond 8 Tryd.f8 rfl rfl rfl rfl rfl rfl rfl ⟨rfl, rfl, rfl, rfl, rfl⟩ rfl rfl rfl rfl rfl (by kernel_rfl) Tryd.func8 (by kernel_rfl)
    (of_decide_eq_true (by kernel_rfl)) (by unfold Func.isWrapper; first | (rw [if_pos (by decide +kernel)]; kernel_rfl) | (rw [if_neg (by decide +kernel)]; exact ⟨rfl, rfl⟩))
    (fun os started H enc _ F => by rw [OpenClaim.pre_eq_preRow]; exact lifted os started H enc F)

theorem plain (f : FuncId) (fn : Func) (hf : Tryd.pinned.checked.prog.funcNamed "headstock/headstocklaw01.WrapSigns" = some f) (hfn : Tryd.pinned.checked.prog.funcs[f]? = some fn) :
    false = Tryd.pinned.checked.prog.looks [] ∧ ∀ (j : Nat) t, fn.params[j]? = some t → Tryd.pinned.checked.prog.wantsStandIn t = false := by
  obtain rfl : f = 8 := Option.some.inj ((show Tryd.prog.funcNamed "headstock/headstocklaw01.WrapSigns" = some 8 by kernel_rfl).symm.trans hf) |>.symm
  obtain rfl : fn = Tryd.f8 := (Option.some.inj (Tryd.func8.symm.trans hfn)).symm
  refine ⟨by kernel_rfl, fun j t ht => ?_⟩
  rw [Tryd.params8] at ht
  obtain rfl : t = 3 := by simpa using Array.mem_of_getElem? ht
  exact (show Tryd.prog.wantsStandIn 3 = false by kernel_rfl)

/-- THE CARD. -/
theorem card : Rows.WrapSignsCardSaid :=
  Claim7.holds_tied_plain_at .later [] _ _ _ _ said (fun _ h => by cases h) (by kernel_rfl) (fun _ h => by cases h) wrapSigns_row_tie rfl ⟨rfl, rfl⟩ (by kernel_rfl) rfl plain (by kernel_rfl)
#print axioms card
end Go.Proofs.YtldhkfgloeanoaaDoor.wrapSigns
