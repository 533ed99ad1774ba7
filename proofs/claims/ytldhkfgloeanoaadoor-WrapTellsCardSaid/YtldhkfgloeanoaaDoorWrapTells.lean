/- Numbers are cut, and operators do, as the document says: package wrap and the document's own answer agree, for any operator number and any numbers. Proved for every input of the law at the commit of the claim, where the package-level table of texts reads as its initialiser lays it; the card ties that table to the program's text. -/
import Derived.Test.YtldhkfgloeanoaaDoorCards
import Derived.Test.YtldhkfgloeanoaaDoorTie
import Derived.Test.YtldhkfgloeanoaaDoorAwake
import Derived.Test.YtldhkfgloeanoaaDoorLemmas
import Derived.Test.YtldhkfgloeanoaaDoorRef4
import Derived.WalkKit
import Derived.ProofKit
import Derived.OpenShut
import Derived.Deep.DeepHandedRow
import Derived.SevenTiedAt
namespace Go.Proofs.YtldhkfgloeanoaaDoor.wrapTells
open Go.ChangeShapes Go.WideShapes Go.ChangeAt Go.RowKit Plain
set_option linter.unusedVariables false

theorem cells_at (a k : Int) (n : Nat) (hn : n < 2) : ∃ o : Int, (#[Value.int IntKind.i64 a, Value.int IntKind.i64 k] : Array Value)[n]? = some (.int .i64 o) := by
  have h : n = 0 ∨ n = 1 := by omega
  rcases h with rfl | rfl
  · exact ⟨a, rfl⟩
  · exact ⟨k, rfl⟩
theorem list_at (a b : Int) (j : Nat) (hj : j < 7) : ∃ y : Int, ∀ h : j < [Value.int IntKind.i64 a, Value.int IntKind.i64 b, Value.int IntKind.i64 0, Value.int IntKind.i64 1, Value.int IntKind.i64 (-1), Value.int IntKind.i64 (-2147483648), Value.int IntKind.i64 4294967295].length, [Value.int IntKind.i64 a, Value.int IntKind.i64 b, Value.int IntKind.i64 0, Value.int IntKind.i64 1, Value.int IntKind.i64 (-1), Value.int IntKind.i64 (-2147483648), Value.int IntKind.i64 4294967295][j]'h = .int .i64 y := by
  have h : j = 0 ∨ j = 1 ∨ j = 2 ∨ j = 3 ∨ j = 4 ∨ j = 5 ∨ j = 6 := by omega
  rcases h with rfl | rfl | rfl | rfl | rfl | rfl | rfl
  all_goals exact ⟨_, fun _ => rfl⟩
set_option maxRecDepth 100000 in
set_option maxHeartbeats 4000000 in
theorem walk (a0 a1 a2 : Int) (w0 : (Lit.int .i64 a0).wf = true) (w1 : (Lit.int .i64 a1).wf = true) (w2 : (Lit.int .i64 a2).wf = true) (w : World) (hT : Texts w) :
    Calls Tryd.prog 3 #[.int .i64 a0, .int .i64 a1, .int .i64 a2] w fun e w' => e = .returned (.bool true) ∧ Grown w w' := by
  obtain ⟨l0, u0⟩ := i64_bd w0
  clear w0 w1 w2
  obtain ⟨k, hk⟩ : ∃ k, pick a0 19 = k := ⟨_, rfl⟩
  have HK := Lib.hid hk
  clear hk
  go_enter Tryd.func3, Tryd.ntmps3
  go_wp2_with (first | (go_at_call 11; refine (awake_any _ hT).mono ?_; rintro e w' ⟨rfl, rfl⟩) | (go_at_call 12; refine (pick_lit l0 u0 (by omega) HK.out _).mono ?_; rintro e w' ⟨rfl, rfl⟩))
  go_loopw [30] (fun i wr => ∃ n : Nat, n ≤ 2 ∧ i = .int .i64 n ∧ Both (w.alloc (Obj.cells #[Value.int IntKind.i64 a0, Value.int IntKind.i64 k] 3)) wr) (fun i _ => 2 - (intOf i).toNat)
  case atStart => exact ⟨0, by omega, rfl, Both.refl _⟩
  case round =>
    obtain ⟨n, hn, rfl, hb⟩ := hrel
    by_cases hlt : n < 2
    · obtain ⟨o, ho⟩ : ∃ o : Int, wr.cell? ⟨w.heap.size, n, none⟩ = some (.int .i64 o) := by
        have h1 := hb.1.cell (p := ⟨w.heap.size, n, none⟩) (by show w.heap.size < (w.heap.push _).size; simp)
        obtain ⟨o, ho⟩ := cells_at a0 k n hlt
        refine ⟨o, h1.trans ?_⟩
        rw [← ho]
        exact World.cell?_alloc_new w _ _ _
      have hTr : Texts wr := texts_both (texts_both hT (Both.alloc _ _ _)) hb
      have HB := Lib.hid hb
      have hd : decide ((n : Int) < 2) = true := decide_eq_true (by omega)
      clear hb hT HK l0 u0
      go_wp2_with fail
      go_loop [38] (fun i => ∃ j : Nat, j ≤ 7 ∧ i = .int .i64 j) (fun i => 7 - (intOf i).toNat)
      case atStart => exact ⟨0, by omega, rfl⟩
      case round =>
        obtain ⟨j, hj, rfl⟩ := hrel
        by_cases hlj : j < 7
        · obtain ⟨y, hy⟩ := list_at a2 a1 j hlj
          obtain ⟨v, hv⟩ : ∃ v, two o a1 y = v := ⟨_, rfl⟩
          obtain ⟨q, hq⟩ : ∃ q, isTwo o = q := ⟨_, rfl⟩
          obtain ⟨h, hh⟩ : ∃ h, high a1 y true = h := ⟨_, rfl⟩
          obtain ⟨g, hg⟩ : ∃ g, high a1 y false = g := ⟨_, rfl⟩
          have HV := Lib.hid hv
          have HQ := Lib.hid hq
          have HH := Lib.hid hh
          have HG := Lib.hid hg
          clear hv hq hh hg
          go_wp2_with fail
          refine (two_val HV.out HQ.out _).mono ?_
          rintro e w' ⟨rfl, rfl⟩
          go_wp2_with fail
          refine (rtwo_val HV.out HQ.out _).mono ?_
          rintro e w' ⟨rfl, rfl⟩
          go_wp2_with fail
          refine (high_lit HH.out _).mono ?_
          rintro e w' ⟨rfl, rfl⟩
          go_wp2_with fail
          refine (rhigh_lit HH.out _).mono ?_
          rintro e w' ⟨rfl, rfl⟩
          go_wp2_with fail
          refine (high_lit HG.out _).mono ?_
          rintro e w' ⟨rfl, rfl⟩
          go_wp2_with fail
          refine (rhigh_lit HG.out _).mono ?_
          rintro e w' ⟨rfl, rfl⟩
          go_wp2_with fail
          go_round
          case rel => exact ⟨j + 1, by omega, by go_num⟩
          case measure => simp [intOf]; omega
        · have HT' := Lib.hid (texts_both hTr (Both.alloc wr #[Value.int IntKind.i64 a2, Value.int IntKind.i64 a1, Value.int IntKind.i64 0, Value.int IntKind.i64 1, Value.int IntKind.i64 (-1), Value.int IntKind.i64 (-2147483648), Value.int IntKind.i64 4294967295] 3))
          obtain ⟨v, hv⟩ : ∃ v, one o a1 = v := ⟨_, rfl⟩
          obtain ⟨q, hq⟩ : ∃ q, isOne o = q := ⟨_, rfl⟩
          obtain ⟨s, hs⟩ : ∃ s : ByteArray, (⟨(text o).toArray⟩ : ByteArray) = s := ⟨_, rfl⟩
          obtain ⟨g, hg⟩ : ∃ g, isSign o = g := ⟨_, rfl⟩
          obtain ⟨l, hl⟩ : ∃ l, level o = l := ⟨_, rfl⟩
          have HV := Lib.hid hv
          have HQ := Lib.hid hq
          have HS := Lib.hid hs
          have HG := Lib.hid hg
          have HL := Lib.hid hl
          clear hv hq hs hg hl hTr
          go_wp2_with fail
          refine (one_val HV.out HQ.out _).mono ?_
          rintro e w' ⟨rfl, rfl⟩
          go_wp2_with fail
          refine (rone_val HV.out HQ.out _).mono ?_
          rintro e w' ⟨rfl, rfl⟩
          go_wp2_with fail
          refine (sign_lit HS.out HG.out _ HT'.out).mono ?_
          rintro e w' ⟨rfl, rfl⟩
          go_wp2_with fail
          refine (rsign_val HS.out HG.out _).mono ?_
          rintro e W1 ⟨rfl, hb1⟩
          have HB1 := Lib.hid hb1
          clear hb1
          go_wp2_with fail
          refine (level_lit HL.out _).mono ?_
          rintro e w' ⟨rfl, rfl⟩
          go_wp2_with fail
          refine (rlevel_val HL.out _).mono ?_
          rintro e W2 ⟨rfl, hb2⟩
          have HB2 := Lib.hid hb2
          clear hb2
          go_wp2_with fail
          go_roundw
          case rel => exact ⟨n + 1, by omega, by go_num, HB.out.trans ((Both.alloc _ _ _).trans (HB1.out.trans HB2.out))⟩
          case measure => simp [intOf]; omega
    · go_wp2_with (first | (go_at_call 23; refine (wrap_any _ _).mono ?_; rintro e w' ⟨rfl, rfl⟩) | (go_at_call 24; refine (rwrap_any _ _).mono ?_; rintro e w' ⟨rfl, rfl⟩) | (go_at_call 25; refine (word_any _ _).mono ?_; rintro e w' ⟨rfl, rfl⟩) | (go_at_call 26; refine (rword_any _ _).mono ?_; rintro e w' ⟨rfl, rfl⟩))
      go_ret
      exact ⟨rfl, ((Both.alloc w _ _).trans hb).grown⟩

theorem contract (H : Type) (enc : TypeId × Value → H) (W : World) (base : Nat) (args : Array Value) (ds gs : List (DataW H)) (before : List MemPlace)
    (hval : ∀ (j : Nat) t v, Tryd.f3.params[j]? = some t → args[j]? = some v → Value.okWide Tryd.prog W .any base t v)
    (hW : DataW.Whole enc Tryd.prog Tryd.f3.params.toList Rows.wrapTellsSpec.vars false W args.toList ds gs before) (hL : laidMetH Tryd.prog Rows.wrapTellsRow.laid W) :
    Calls Tryd.prog 3 args W fun e W' => ∃ v, e = .returned v ∧ Rows.wrapTellsSpec.post enc Tryd.prog Tryd.f3 false true false false W args v W' := by
  have hT : Texts W := texts_of_laid hL
  have hW' := hW
  obtain ⟨p, q, hA0, hV, rfl, hfz, hnd⟩ := hW
  have hA : DataW.TrodAll enc Tryd.prog W 0 (fun _ => true) true Tryd.f3.params.toList args.toList ds p := hA0
  rw [Tryd.params3] at hA hval
  obtain ⟨v0, vs0, d0, ds0, p0, q0, hargs, rfl, rfl, h0, r0⟩ := trodAll_cons hA
  obtain ⟨v1, vs1, d1, ds1, p1, q1, rfl, rfl, rfl, h1, r1⟩ := trodAll_cons r0
  obtain ⟨v2, vs2, d2, ds2, p2, q2, rfl, rfl, rfl, h2, r2⟩ := trodAll_cons r1
  obtain ⟨rfl, rfl, rfl⟩ := trodAll_nil r2
  obtain rfl : args = #[v0, v1, v2] := by cases args; simp_all
  obtain ⟨rfl, rfl⟩ := trodVars_none hV
  obtain ⟨a0, rfl, rfl, rfl, w0⟩ := open_int Tryd.underlying3 (hval 0 3 v0 rfl rfl) h0
  obtain ⟨a1, rfl, rfl, rfl, w1⟩ := open_int Tryd.underlying3 (hval 1 3 v1 rfl rfl) h1
  obtain ⟨a2, rfl, rfl, rfl, w2⟩ := open_int Tryd.underlying3 (hval 2 3 v2 rfl rfl) h2
  clear hA0
  simp only [List.append_nil] at hW'
  refine (walk a0 a1 a2 w0 w1 w2 W hT).mono fun e W' ⟨he, hg⟩ => ?_
  subst he
  exact ⟨_, rfl, post_of_same (pa := []) (pv := []) hW' (fun _ _ _ => trodAll_cons_mk (shut_bool Tryd.underlying4 _) trodAll_mk0) (fun _ _ => (trodAll_cons_mk (shut_int Tryd.underlying3 w0) (trodAll_cons_mk (shut_int Tryd.underlying3 w1) (trodAll_cons_mk (shut_int Tryd.underlying3 w2) trodAll_mk0)))) (fun _ _ => rfl) rfl
    (hg.frame _) hg.2.1 (ok_one (by kernel_rfl) rfl (okWide_bool_mk Tryd.underlying4 _))⟩

/-- A WORLD FOR THE WITNESS: the settled one, the table holding what its initialiser lays. -/
noncomputable def laidWorld (os : Os) : World :=
  { World.holding Tryd.prog os ⟨#[], #[], []⟩ with heap := (World.holding Tryd.prog os ⟨#[], #[], []⟩).heap.modify 0 fun
      | .cells _ t frozen => .cells textCells t frozen
      | o => o }
theorem laid_met (os : Os) : laidMet Tryd.prog Rows.wrapTellsRow.laid ((laidWorld os).forCall (fun _ _ => 0) ⟨#[], #[.int .i64 0, .int .i64 0, .int .i64 0], []⟩).memory :=
  laidMet_of_run' 8 (by kernel_rfl) (by kernel_rfl)
theorem reads (os : Os) {H : Type} (enc : TypeId × Value → H) : ∃ places, DataW.whole enc Tryd.prog ((laidWorld os).forCall (fun _ _ => 0) ⟨#[], #[.int .i64 0, .int .i64 0, .int .i64 0], []⟩).memory Tryd.f3.params.toList Rows.wrapTellsSpec.vars false (#[.int .i64 0, .int .i64 0, .int .i64 0] : Array Value).toList 8 = some ([.lit (.int .i64 0), .lit (.int .i64 0), .lit (.int .i64 0)], [], places) :=
  ⟨[], by kernel_rfl⟩

set_option maxRecDepth 100000 in
theorem lifted (os : Os) (started : os.Started) (H : Type) (enc : TypeId × Value → H) (F : Stop.Interp) :
    ReturnsInHanded {} Tryd.checked os 3 .any ((OpenSpec.ofChange Rows.wrapTellsSpec).preRow enc Tryd.prog Tryd.f3 Rows.wrapTellsRow.domain false Rows.wrapTellsRow.laid) (((OpenSpec.ofChange Rows.wrapTellsSpec).at F).post enc Tryd.prog Tryd.f3 false true false false) := by
  obtain ⟨places, hx⟩ := reads os enc
  refine returnsInHanded_of_row (C := Tryd.checked) (s := OpenSpec.ofChange Rows.wrapTellsSpec) own started (by kernel_rfl) Tryd.func3
    (witness_row_at (enc := enc) (C := Tryd.checked) false (laidWorld os) #[.int .i64 0, .int .i64 0, .int .i64 0] rfl (by kernel_rfl) (by kernel_rfl) (by kernel_rfl)
      (OpenSpec.preRow_of_cond 8 hx (by kernel_rfl) (fun k hk => by cases hk) (by kernel_rfl) (laid_met os))) ?_
  intro W base args ds gs before hval hW _ _ _ hL _ _
  exact contract H enc W base args ds gs before hval hW hL

theorem said : Rows.WrapTellsSaid :=
  OpenClaim.holds_of_cond 3 Tryd.f3 rfl rfl rfl rfl rfl rfl rfl ⟨rfl, rfl, rfl, rfl, rfl⟩ rfl rfl rfl rfl rfl (by kernel_rfl) Tryd.func3 (by kernel_rfl)
    (of_decide_eq_true (by kernel_rfl)) (by unfold Func.isWrapper; first | (rw [if_pos (by decide +kernel)]; kernel_rfl) | (rw [if_neg (by decide +kernel)]; exact ⟨rfl, rfl⟩))
    (fun os started H enc _ F => by rw [OpenClaim.pre_eq_preRow]; exact lifted os started H enc F)

theorem plain (f : FuncId) (fn : Func) (hf : Tryd.pinned.checked.prog.funcNamed "headstock/headstocklaw01.WrapTells" = some f) (hfn : Tryd.pinned.checked.prog.funcs[f]? = some fn) :
    false = Tryd.pinned.checked.prog.looks [] ∧ ∀ (j : Nat) t, fn.params[j]? = some t → Tryd.pinned.checked.prog.wantsStandIn t = false := by
  obtain rfl : f = 3 := Option.some.inj ((show Tryd.prog.funcNamed "headstock/headstocklaw01.WrapTells" = some 3 by kernel_rfl).symm.trans hf) |>.symm
  obtain rfl : fn = Tryd.f3 := (Option.some.inj (Tryd.func3.symm.trans hfn)).symm
  refine ⟨by kernel_rfl, fun j t ht => ?_⟩
  rw [Tryd.params3] at ht
  obtain rfl : t = 3 := by simpa using Array.mem_of_getElem? ht
  exact (show Tryd.prog.wantsStandIn 3 = false by kernel_rfl)

/-- THE CARD. -/
theorem card : Rows.WrapTellsCardSaid :=
  Claim7.holds_tied_plain_at .later [] _ _ _ _ said (fun _ h => by cases h) (by kernel_rfl) (fun _ h => by cases h) wrapTells_row_tie rfl ⟨rfl, rfl⟩ (by kernel_rfl) rfl plain (by kernel_rfl)
#print axioms card
end Go.Proofs.YtldhkfgloeanoaaDoor.wrapTells
