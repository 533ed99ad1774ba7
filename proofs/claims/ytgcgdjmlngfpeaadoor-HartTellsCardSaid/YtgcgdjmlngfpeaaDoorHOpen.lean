/- What the table of operators holds where it reads as its initialiser lays it; raw numbers that come in; a law's last step. -/
import Derived.Test.YtgcgdjmlngfpeaaDoorRows
import Derived.Test.YtgcgdjmlngfpeaaDoorHFit
import Derived.Test.YtgcgdjmlngfpeaaDoorCOpen
import Derived.Deep.Slices
import Derived.ProofKit
import Derived.OpenShut
import Derived.LaidSub
import Derived.MakeChecks
import Derived.Lay
namespace Go.Proofs.YtgcgdjmlngfpeaaDoor
open Go.ChangeShapes Go.WideShapes Go.ChangeAt Go.RowKit Ht
set_option linter.unusedVariables false
theorem own : ownKnob Tryd.prog.godebug = none := by kernel_rfl
theorem gOps : Tryd.prog.globalNamed "headstock/hart.operators" = some 0 := by kernel_rfl
theorem gOpsType : (Tryd.prog.globals[0]?).map (·.type) = some 91 := by kernel_rfl
abbrev laidAllH : List (String × DataW Unit) := Rows.hartTellsRow.laid
def dataOps : List (DataW Unit) := [.lit (.int .i64 0), .lit (.int .i64 0), .lit (.int .i64 0), .lit (.int .i64 0), .lit (.int .i64 0), .lit (.int .i64 13), .lit (.int .i64 14), .lit (.int .i64 11), .lit (.int .i64 11), .lit (.int .i64 12), .lit (.int .i64 12), .lit (.int .i64 0), .lit (.int .i64 0), .lit (.int .i64 1), .lit (.int .i64 11), .lit (.int .i64 12), .lit (.int .i64 8), .lit (.int .i64 7), .lit (.int .i64 6), .lit (.int .i64 9), .lit (.int .i64 0), .lit (.int .i64 10), .lit (.int .i64 1), .lit (.int .i64 2), .lit (.int .i64 9), .lit (.int .i64 11), .lit (.int .i64 12), .lit (.int .i64 8), .lit (.int .i64 0), .lit (.int .i64 10), .lit (.int .i64 7), .lit (.int .i64 6), .lit (.int .i64 3), .lit (.int .i64 0), .lit (.int .i64 0), .lit (.int .i64 4), .lit (.int .i64 0), .lit (.int .i64 5), .lit (.int .i64 0), .lit (.int .i64 0), .lit (.int .i64 0), .lit (.int .i64 0), .lit (.int .i64 0), .lit (.int .i64 0), .lit (.int .i64 0), .lit (.int .i64 0), .lit (.int .i64 0), .lit (.int .i64 0), .lit (.int .i64 0), .lit (.int .i64 0)]
theorem data_eq : (Rows.laid_headstock_hart_operators : DataW Unit) = .agg dataOps := rfl
theorem data_at (k : Nat) (hk : k < 50) : dataOps[k]? = some (.lit (.int .i64 (opOf (k : Int)))) := by
  have h : k = 0 ∨ k = 1 ∨ k = 2 ∨ k = 3 ∨ k = 4 ∨ k = 5 ∨ k = 6 ∨ k = 7 ∨ k = 8 ∨ k = 9 ∨ k = 10 ∨ k = 11 ∨ k = 12 ∨ k = 13 ∨ k = 14 ∨ k = 15 ∨ k = 16 ∨ k = 17 ∨ k = 18 ∨ k = 19 ∨ k = 20 ∨ k = 21 ∨ k = 22 ∨ k = 23 ∨ k = 24 ∨ k = 25 ∨ k = 26 ∨ k = 27 ∨ k = 28 ∨ k = 29 ∨ k = 30 ∨ k = 31 ∨ k = 32 ∨ k = 33 ∨ k = 34 ∨ k = 35 ∨ k = 36 ∨ k = 37 ∨ k = 38 ∨ k = 39 ∨ k = 40 ∨ k = 41 ∨ k = 42 ∨ k = 43 ∨ k = 44 ∨ k = 45 ∨ k = 46 ∨ k = 47 ∨ k = 48 ∨ k = 49 := by omega
  rcases h with rfl | rfl | rfl | rfl | rfl | rfl | rfl | rfl | rfl | rfl | rfl | rfl | rfl | rfl | rfl | rfl | rfl | rfl | rfl | rfl | rfl | rfl | rfl | rfl | rfl | rfl | rfl | rfl | rfl | rfl | rfl | rfl | rfl | rfl | rfl | rfl | rfl | rfl | rfl | rfl | rfl | rfl | rfl | rfl | rfl | rfl | rfl | rfl | rfl | rfl
  all_goals rfl
set_option maxRecDepth 100000 in
theorem ops_of_laid {W : World} (h' : laidMet Tryd.prog laidAllH W) : OpsAt W := by
  obtain ⟨ps, ⟨g', t', cs, fuel, p, q, hg', ht', hvar, hd, _, _⟩, _⟩ := h'
  obtain rfl := Option.some.inj (gOps.symm.trans hg')
  obtain rfl := Option.some.inj (gOpsType.symm.trans ht')
  rw [data_eq] at hd
  obtain ⟨xs, m, rfl, hx, hlen, hn, hel⟩ := DataW.trod_array Tryd.underlying91 hd
  have hc : ∀ k : Nat, k < 50 → W.cell? ⟨0, k, none⟩ = some (.int .i64 (opOf (k : Int))) := by
    intro k hk
    have hx1 : dataOps = xs.map (·.1) := by
      have := congrArg Prod.fst hx
      simpa using this
    have hk1 : (xs.map (·.1))[k]? = some (.lit (.int .i64 (opOf (k : Int)))) := hx1 ▸ data_at k hk
    rw [List.getElem?_map] at hk1
    obtain ⟨x, hxk, hxd⟩ := Option.map_eq_some_iff.1 hk1
    have h0 := hel k hk
    rw [hxk] at h0
    obtain ⟨y, q, hs, _⟩ := DataW.trod_int Tryd.underlying3 h0
    subst hs
    have hy : y = opOf (k : Int) := by simpa using hxd
    have hc : W.cell? ⟨0, k, none⟩ = cs[k]? := World.var?_cell hg' hvar k
    rw [hc, ← hy]
    rw [cellsInt, Nat.mul_one] at q
    have := congrArg (·[0]?) q
    simpa [List.getElem?_take, List.getElem?_drop] using this
  exact ⟨World.block_lt_of_cell? _ _ (hc 0 (by omega)), hc⟩
theorem lib_of_laid {W : World} (h : laidMetH Tryd.prog laidAllH W) : OpsAt W := by
  rw [MakeChecks.laidMetH_plain _ _ _ (by kernel_rfl)] at h
  exact ops_of_laid h
theorem in_of {a : Int} (h : (Lit.int .i64 a).wf = true) : inInt a := by
  have := bounds_i64 h
  exact this
theorem spot_none {W : World} {a : Addr} {v : Value} (h : W.cell? a = some v) : a.spot = none := by
  unfold World.cell? at h
  cases hs : a.spot with
  | none => rfl
  | some q =>
    rw [hs] at h
    split at h
    · simp at h
    · cases h
set_option maxRecDepth 100000 in
theorem open_intsQ {H : Type} {enc : TypeId × Value → H} {W : World} {b0 base : Nat} {sp : Nat → Bool} {held : Bool} {r : Reach} {v : Value} {d : DataW H} {p : List MemPlace}
    (hv : Value.okWide Tryd.prog W r b0 22 v) (h : DataW.Trod enc Tryd.prog W base sp held 22 v d p) :
    ∃ (P : Option Addr) (n c : Nat) (raw : List Int), v = .slice P n c ∧ raw.length = n ∧ n ≤ c ∧ n ≤ 9223372036854775807 ∧ Hid (IntsQ W P raw) := by
  obtain ⟨a0, len0, cap0, rfl⟩ := okWide_slice Tryd.underlying22 hv
  obtain ⟨fuel, hf⟩ := h
  rcases Go.Deep.open_slice Tryd.underlying22 hf with ⟨hcs, _⟩ | ⟨a, len, cap, m, n, D, Pl, hcs, hb, hl, hm, hmm, hx, hel⟩
  · simp [Value.cells] at hcs
    obtain ⟨rfl, rfl, rfl⟩ := hcs
    exact ⟨none, 0, 0, [], rfl, rfl, Nat.le_refl _, by omega, fun j x hj => by simp at hj⟩
  · simp [Value.cells] at hcs
    obtain ⟨rfl, rfl, rfl⟩ := hcs
    have hlm : len0 ≤ m := by rw [hmm]; split <;> omega
    have hone : ∀ i, ∃ y : Int, i < len0 → inInt y ∧ W.cells? base (a.add (i * 1)) 1 = some [.int .i64 y] := by
      intro i
      by_cases hi : i < len0
      · obtain ⟨cs', h1, h2⟩ := hel i (by omega)
        rw [cellsInt] at h1
        obtain ⟨y, q, g, hw⟩ := DataW.trod_int Tryd.underlying3 h2
        subst q
        exact ⟨y, fun _ => ⟨in_of hw, h1⟩⟩
      · exact ⟨0, fun c => absurd c hi⟩
    obtain ⟨f, hf'⟩ := Classical.skolem.1 hone
    have hget : ∀ j, j < len0 → ((List.range len0).map f)[j]? = some (f j) := fun j hj => by rw [List.getElem?_map, List.getElem?_range hj]; rfl
    refine ⟨some a, len0, cap0, (List.range len0).map f, rfl, by simp, by first | omega | exact hl, by unfold maxLen at hm; omega, fun j x hj => ?_⟩
    have hjl : j < len0 := by have := (List.getElem?_eq_some_iff.1 hj).1; simpa using this
    rw [hget j hjl] at hj
    obtain rfl := Option.some.inj hj
    obtain ⟨w1, h2⟩ := hf' j hjl
    obtain ⟨_, _, h3⟩ := World.cells?_some h2
    obtain ⟨_, g2⟩ := hf' 0 (by omega)
    obtain ⟨_, _, g3⟩ := World.cells?_some g2
    have h4 := g3 0 (by omega)
    have hs := spot_none (h4.trans (show ([.int .i64 (f 0)] : List Value)[0]? = some (.int .i64 (f 0)) from rfl))
    have h0 := World.block_lt_of_cell? _ _ (h4.trans (show ([.int .i64 (f 0)] : List Value)[0]? = some (.int .i64 (f 0)) from rfl))
    have k0 := (h3 0 (by omega)).trans (show ([.int .i64 (f j)] : List Value)[0]? = some (.int .i64 (f j)) from rfl)
    obtain ⟨b, o, s⟩ := a
    simp only [Addr.add] at hs
    subst hs
    rw [Addr.add_lit, Addr.add_lit] at k0
    simp only [Nat.mul_one, Nat.add_zero] at k0
    exact ⟨w1, b, o, rfl, h0, k0⟩
set_option maxRecDepth 100000 in
/-- a law that answers true, of whose memory it is known that nothing of what was there has turned: its post -/
theorem post_law {H : Type} {enc : TypeId × Value → H} {f : Func} {s : ChangeSpec} {apart fresh handsOn again : Bool} {W W' : World} {args : Array Value} {v : Value} {ds gs : List (DataW H)} {before : List MemPlace}
    (hW : DataW.Whole enc Tryd.prog f.params.toList s.vars apart W args.toList ds gs before)
    (hres : ∀ (b : Nat) (sp : Nat → Bool) (hd : Bool), DataW.TrodAll enc Tryd.prog W' b sp hd f.resultTypes.toList (v.resultList f.resultTypes.size) (s.fn H (ds ++ gs)).results [])
    (hargs : ∀ sp : Nat → Bool, (∀ p ∈ before, sp p.block = true) → DataW.TrodAll enc Tryd.prog W' 0 sp true f.params.toList args.toList (s.fn H (ds ++ gs)).args before)
    (hvars : ∀ sp : Nat → Bool, DataW.TrodVars enc Tryd.prog W' sp s.vars (s.fn H (ds ++ gs)).vars [])
    (hb : Bel W W')
    (hok : ∀ (j : Nat) (t : TypeId) (r : Value), f.resultTypes[j]? = some t → (v.resultList f.resultTypes.size)[j]? = some r → Value.okWide Tryd.prog W' .any 0 t r) :
    s.post enc Tryd.prog f apart fresh handsOn again W args v W' := by
  have hlt := hW.lt
  have hW2 := hW
  obtain ⟨_, _, _, _, _, hfz, hnd⟩ := hW2
  have here : ∀ p ∈ before, (fun b => decide (b < W.heap.size)) p.block = true := fun p hp => decide_eq_true (hlt p hp)
  have kept : W.keptBut W' fun p => p ∈ before := Below.frame hb _
  have all : ∀ sp : Nat → Bool, (∀ p ∈ before, sp p.block = true) → DataW.TrodAll enc Tryd.prog W' 0 sp true (f.resultTypes.toList ++ f.params.toList) (v.resultList f.resultTypes.size ++ args.toList) ((s.fn H (ds ++ gs)).results ++ (s.fn H (ds ++ gs)).args) ([] ++ before) := fun sp hsp => trodAll_append (hargs sp hsp) (hres 0 sp true)
  have twice : DataW.Whole enc Tryd.prog (f.resultTypes.toList ++ f.params.toList) s.vars apart W' (v.resultList f.resultTypes.size ++ args.toList) ((s.fn H (ds ++ gs)).results ++ (s.fn H (ds ++ gs)).args) (s.fn H (ds ++ gs)).vars before := by
    refine ⟨[] ++ before, [], all _ fun _ _ => rfl, hvars _, by simp, fun b off hp => ?_, hnd⟩
    rw [Below.frozen hb (hlt _ hp)]
    exact hfz b off hp
  refine ⟨ds, gs, before, [], before, [], hW, hres _ _ _, hargs _ here, hvars _, World.keptBut_mono (fun p hp => ⟨hp, Or.inr (Or.inl hp)⟩) kept, fun _ => ⟨hok, _, _, before, twice, fun p hp _ => by simpa using hp⟩⟩
end Go.Proofs.YtgcgdjmlngfpeaaDoor
