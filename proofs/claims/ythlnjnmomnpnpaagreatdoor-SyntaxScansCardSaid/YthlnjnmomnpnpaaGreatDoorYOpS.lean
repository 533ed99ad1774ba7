/- What the rows list, and raw numbers handed to a law. -/
import Derived.Test.YthlnjnmomnpnpaaGreatDoorRows
import Derived.Test.YthlnjnmomnpnpaaGreatDoorYItoa
import Derived.Test.YthlnjnmomnpnpaaGreatDoorYWrap
import Derived.Deep.Slices
import Derived.ProofKit
import Derived.OpenShut
import Derived.LaidSub
import Derived.Lib.LaidTab
import Derived.MakeChecks
import Derived.Lay
import Derived.Test.YthlnjnmomnpnpaaGreatDoorYSrc
import Derived.Test.YthlnjnmomnpnpaaGreatDoorKScan
namespace Go.Proofs.YthlnjnmomnpnpaaGreatDoor
end Go.Proofs.YthlnjnmomnpnpaaGreatDoor
namespace Go.Proofs.YthlnjnmomnpnpaaGreatDoor.Lx
section
open Go.ChangeShapes Go.WideShapes Go.ChangeAt Go.RowKit Tk
set_option linter.unusedVariables false
theorem gSigns : Tryz.prog.globalNamed "headstock/token.signs" = some 0 := by kernel_rfl
theorem gSignsType : (Tryz.prog.globals[0]?).map (·.type) = some 101 := by kernel_rfl
theorem cellsSigns : Tryz.prog.cellsOf 101 = 25 := by kernel_rfl
theorem cellsString : Tryz.prog.cellsOf 9 = 1 := by kernel_rfl
abbrev laidSigns {H : Type} : List (String × DataW H) := [("headstock/token.signs", Rows.laid_headstock_token_signs)]
def dataSigns : List (DataW Unit) := signs.map fun s => .lit (.string s)
theorem data_eq : (Rows.laid_headstock_token_signs : DataW Unit) = .agg dataSigns := rfl
theorem signCells_eq : signCells = (signs.map fun s => Value.string (str s)).toArray := rfl
theorem signs_of_laid {W : World} (h : laidMetH Tryz.prog laidSigns W) : SignsAt W := by
  have h' : laidMet Tryz.prog laidSigns W := h
  obtain ⟨ps, ⟨g', t', cs, fuel, p, q, hg', ht', hvar, hd, _, _⟩, _⟩ := h'
  obtain rfl := Option.some.inj (gSigns.symm.trans hg')
  obtain rfl := Option.some.inj (gSignsType.symm.trans ht')
  rw [data_eq] at hd
  obtain ⟨xs, m, rfl, hx, hlen, hn, hel⟩ := DataW.trod_array Tryz.underlying101 hd
  have hx1 : dataSigns = xs.map (·.1) := by
    have := congrArg Prod.fst hx
    simpa using this
  rw [cellsSigns] at hlen
  have hcs : cs = signCells := by
    rw [signCells_eq]
    apply Array.ext'
    apply List.ext_getElem?
    intro k
    by_cases hk : k < 25
    · have hk1 : (xs.map (·.1))[k]? = some (.lit (.string (signs.getD k []))) := by
        rw [← hx1]
        unfold dataSigns
        rw [List.getElem?_map, List.getElem?_eq_getElem (by exact hk), List.getD_eq_getElem?_getD, List.getElem?_eq_getElem (by exact hk)]
        rfl
      rw [List.getElem?_map] at hk1
      obtain ⟨x, hxk, hxd⟩ := Option.map_eq_some_iff.1 hk1
      have h0 := hel k hk
      rw [hxk] at h0
      obtain ⟨s, hs1, hs2, _⟩ := DataW.trod_string Tryz.underlying9 h0
      subst hs2
      have hst : s.data.toList = signs.getD k [] := by simpa using hxd
      have hs : s = str (signs.getD k []) := by rw [← hst, data_str]
      rw [cellsString, Nat.mul_one] at hs1
      have := congrArg (·[0]?) hs1
      have e1 : (signs.map fun s => Value.string (str s))[k]? = some (.string (str (signs.getD k []))) := by
        rw [List.getElem?_map, List.getElem?_eq_getElem (show k < signs.length from hk), List.getD_eq_getElem?_getD, List.getElem?_eq_getElem (show k < signs.length from hk)]
        rfl
      rw [List.toList_toArray, e1]
      rw [hs] at this
      simpa [List.getElem?_take, List.getElem?_drop] using this
    · rw [List.getElem?_eq_none (by omega), List.getElem?_eq_none (by show 25 ≤ k; omega)]
  unfold World.var? at hvar
  rw [gSigns] at hvar
  simp only [Option.bind_some] at hvar
  split at hvar
  · rename_i cs' t fr hh
    obtain rfl := Option.some.inj hvar
    rw [hcs] at hh
    exact ⟨t, fr, hh⟩
  · cases hvar
end
end Go.Proofs.YthlnjnmomnpnpaaGreatDoor.Lx
namespace Go.Proofs.YthlnjnmomnpnpaaGreatDoor
section
open Go.ChangeShapes Go.WideShapes Go.ChangeAt Go.RowKit Tk Sy Plain
set_option linter.unusedVariables false
theorem own : ownKnob Tryz.prog.godebug = none := by kernel_rfl
theorem cellsInt : Tryz.prog.cellsOf 3 = 1 := by kernel_rfl
theorem gTexts : Tryz.prog.globalNamed "headstock/wrap.texts" = some 2 := by kernel_rfl
theorem gTextsType : (Tryz.prog.globals[2]?).map (·.type) = some 148 := by kernel_rfl
theorem cellsTexts : Tryz.prog.cellsOf 148 = 18 := by kernel_rfl
theorem cellsString : Tryz.prog.cellsOf 9 = 1 := by kernel_rfl
theorem gPowType : (Tryz.prog.globals[3]?).map (·.type) = some 162 := by kernel_rfl
theorem cellsU64 : Tryz.prog.cellsOf 153 = 1 := by kernel_rfl
theorem cellsPow : Tryz.prog.cellsOf 162 = 20 := by kernel_rfl
abbrev laidAllY : List (String × DataW Unit) := Rows.syntaxScansRow.laid
theorem filt_tx : laidAllY.filter (fun x => x.1 == "headstock/wrap.texts") = [("headstock/wrap.texts", Rows.laid_headstock_wrap_texts)] := by kernel_rfl
theorem filt_pow : laidAllY.filter (fun x => x.1 == "internal/strconv.uint64pow10") = [("internal/strconv.uint64pow10", Rows.laid_internal_strconv_uint64pow10)] := by kernel_rfl
theorem pow_eq : (Rows.laid_internal_strconv_uint64pow10 : DataW Unit) = Lib.tabData .u64 Lib.pow10Tab := by kernel_rfl
def dataTexts : List (DataW Unit) := [.lit (.string []), .lit (.string [43]), .lit (.string [45]), .lit (.string [42]), .lit (.string [47]), .lit (.string [37]), .lit (.string [38]), .lit (.string [124]), .lit (.string [94]), .lit (.string [60, 60]), .lit (.string [62, 62]), .lit (.string [60]), .lit (.string [60, 46]), .lit (.string [61, 61]), .lit (.string [33, 61]), .lit (.string [45]), .lit (.string [33]), .lit (.string [126])]
theorem data_eq : (Rows.laid_headstock_wrap_texts : DataW Unit) = .agg dataTexts := rfl
theorem data_at (k : Nat) (hk : k < 18) : dataTexts[k]? = some (.lit (.string (text (k : Int)))) := by
  have h : k = 0 ∨ k = 1 ∨ k = 2 ∨ k = 3 ∨ k = 4 ∨ k = 5 ∨ k = 6 ∨ k = 7 ∨ k = 8 ∨ k = 9 ∨ k = 10 ∨ k = 11 ∨ k = 12 ∨ k = 13 ∨ k = 14 ∨ k = 15 ∨ k = 16 ∨ k = 17 := by omega
  rcases h with rfl | rfl | rfl | rfl | rfl | rfl | rfl | rfl | rfl | rfl | rfl | rfl | rfl | rfl | rfl | rfl | rfl | rfl
  all_goals rfl
theorem texts_of_laid {W : World} (h' : laidMet Tryz.prog [("headstock/wrap.texts", Rows.laid_headstock_wrap_texts)] W) : Texts W := by
  obtain ⟨ps, ⟨g', t', cs, fuel, p, q, hg', ht', hvar, hd, _, _⟩, _⟩ := h'
  obtain rfl := Option.some.inj (gTexts.symm.trans hg')
  obtain rfl := Option.some.inj (gTextsType.symm.trans ht')
  rw [data_eq] at hd
  obtain ⟨xs, m, rfl, hx, hlen, hn, hel⟩ := DataW.trod_array Tryz.underlying148 hd
  intro k hk
  have hx1 : dataTexts = xs.map (·.1) := by
    have := congrArg Prod.fst hx
    simpa using this
  have hk1 : (xs.map (·.1))[k]? = some (.lit (.string (text (k : Int)))) := hx1 ▸ data_at k hk
  rw [List.getElem?_map] at hk1
  obtain ⟨x, hxk, hxd⟩ := Option.map_eq_some_iff.1 hk1
  have h0 := hel k hk
  rw [hxk] at h0
  obtain ⟨s, hcs, hs, _⟩ := DataW.trod_string Tryz.underlying9 h0
  subst hs
  have hst : s.data.toList = text (k : Int) := by simpa using hxd
  have hs : s = ⟨(text (k : Int)).toArray⟩ := by
    rw [← hst]
  have hc : W.cell? ⟨2, k, none⟩ = cs[k]? := World.var?_cell hg' hvar k
  rw [hc, ← hs]
  rw [cellsString, Nat.mul_one] at hcs
  have := congrArg (·[0]?) hcs
  simpa [List.getElem?_take, List.getElem?_drop] using this
set_option maxRecDepth 100000 in
theorem lib_of_laid {W : World} (h : laidMetH Tryz.prog laidAllY W) : Texts W ∧ PowAt W := by
  rw [MakeChecks.laidMetH_plain _ _ _ (by kernel_rfl)] at h
  have h1 := h.filter (fun x => x.1 == "headstock/wrap.texts")
  have h3 := h.filter (fun x => x.1 == "internal/strconv.uint64pow10")
  rw [filt_tx] at h1
  rw [filt_pow, pow_eq] at h3
  refine ⟨texts_of_laid h1, ?_⟩
  have ht := Lib.tabIs_of_head gPow gPowType Tryz.underlying162 Tryz.underlying153 cellsU64 cellsPow h3
  unfold Lib.TabIs World.var? at ht
  rw [gPow] at ht
  simp only [Option.bind_some] at ht
  split at ht
  · rename_i cs' t fr hh
    obtain rfl := Option.some.inj ht
    exact ⟨t, fr, hh⟩
  · cases ht
set_option maxRecDepth 100000 in
/-- a law that answers true, of whose memory it is known that nothing of what was there has turned: its post -/
theorem post_law {H : Type} {enc : TypeId × Value → H} {f : Func} {s : ChangeSpec} {apart fresh handsOn again : Bool} {W W' : World} {args : Array Value} {v : Value} {ds gs : List (DataW H)} {before : List MemPlace}
    (hW : DataW.Whole enc Tryz.prog f.params.toList s.vars apart W args.toList ds gs before)
    (hres : ∀ (b : Nat) (sp : Nat → Bool) (hd : Bool), DataW.TrodAll enc Tryz.prog W' b sp hd f.resultTypes.toList (v.resultList f.resultTypes.size) (s.fn H (ds ++ gs)).results [])
    (hargs : ∀ sp : Nat → Bool, (∀ p ∈ before, sp p.block = true) → DataW.TrodAll enc Tryz.prog W' 0 sp true f.params.toList args.toList (s.fn H (ds ++ gs)).args before)
    (hvars : ∀ sp : Nat → Bool, DataW.TrodVars enc Tryz.prog W' sp s.vars (s.fn H (ds ++ gs)).vars [])
    (hb : Bel W W')
    (hok : ∀ (j : Nat) (t : TypeId) (r : Value), f.resultTypes[j]? = some t → (v.resultList f.resultTypes.size)[j]? = some r → Value.okWide Tryz.prog W' .any 0 t r) :
    s.post enc Tryz.prog f apart fresh handsOn again W args v W' := by
  have hlt := hW.lt
  have hW2 := hW
  obtain ⟨_, _, _, _, _, hfz, hnd⟩ := hW2
  have here : ∀ p ∈ before, (fun b => decide (b < W.heap.size)) p.block = true := fun p hp => decide_eq_true (hlt p hp)
  have kept : W.keptBut W' fun p => p ∈ before := Below.frame hb _
  have all : ∀ sp : Nat → Bool, (∀ p ∈ before, sp p.block = true) → DataW.TrodAll enc Tryz.prog W' 0 sp true (f.resultTypes.toList ++ f.params.toList) (v.resultList f.resultTypes.size ++ args.toList) ((s.fn H (ds ++ gs)).results ++ (s.fn H (ds ++ gs)).args) ([] ++ before) := fun sp hsp => trodAll_append (hargs sp hsp) (hres 0 sp true)
  have twice : DataW.Whole enc Tryz.prog (f.resultTypes.toList ++ f.params.toList) s.vars apart W' (v.resultList f.resultTypes.size ++ args.toList) ((s.fn H (ds ++ gs)).results ++ (s.fn H (ds ++ gs)).args) (s.fn H (ds ++ gs)).vars before := by
    refine ⟨[] ++ before, [], all _ fun _ _ => rfl, hvars _, by simp, fun b off hp => ?_, hnd⟩
    rw [Below.frozen hb (hlt _ hp)]
    exact hfz b off hp
  refine ⟨ds, gs, before, [], before, [], hW, hres _ _ _, hargs _ here, hvars _, World.keptBut_mono (fun p hp => ⟨hp, Or.inr (Or.inl hp)⟩) kept, fun _ => ⟨hok, _, _, before, twice, fun p hp _ => by simpa using hp⟩⟩
end
section
open Go.ChangeShapes Go.WideShapes Go.ChangeAt Go.RowKit Tk Sy
set_option linter.unusedVariables false
theorem in_of {a : Int} (h : (Lit.int .i64 a).wf = true) : inInt a := by
  have := bounds_i64 h
  exact this
theorem spot_none {W : World} {a : Addr} {v : Value} (h : W.cell? a = some v) : a.spot = none := by
  unfold World.cell? at h
  cases hs : a.spot with
  | none => rfl
  | some q =>
    rw [hs] at h
    split at h
    · simp at h
    · cases h
set_option maxRecDepth 100000 in
theorem open_intsQ {H : Type} {enc : TypeId × Value → H} {W : World} {b0 base : Nat} {sp : Nat → Bool} {held : Bool} {r : Reach} {v : Value} {d : DataW H} {p : List MemPlace}
    (hv : Value.okWide Tryz.prog W r b0 22 v) (h : DataW.Trod enc Tryz.prog W base sp held 22 v d p) :
    ∃ (P : Option Addr) (n c : Nat) (raw : List Int), v = .slice P n c ∧ raw.length = n ∧ n ≤ c ∧ n ≤ 9223372036854775807 ∧ Hid (RawAt W P raw) := by
  obtain ⟨a0, len0, cap0, rfl⟩ := okWide_slice Tryz.underlying22 hv
  obtain ⟨fuel, hf⟩ := h
  rcases Go.Deep.open_slice Tryz.underlying22 hf with ⟨hcs, _⟩ | ⟨a, len, cap, m, n, D, Pl, hcs, hb, hl, hm, hmm, hx, hel⟩
  · simp [Value.cells] at hcs
    obtain ⟨rfl, rfl, rfl⟩ := hcs
    exact ⟨none, 0, 0, [], rfl, rfl, Nat.le_refl _, by omega, fun j x hj => by simp at hj⟩
  · simp [Value.cells] at hcs
    obtain ⟨rfl, rfl, rfl⟩ := hcs
    have hlm : len0 ≤ m := by rw [hmm]; split <;> omega
    have hone : ∀ i, ∃ y : Int, i < len0 → inInt y ∧ W.cells? base (a.add (i * 1)) 1 = some [.int .i64 y] := by
      intro i
      by_cases hi : i < len0
      · obtain ⟨cs', h1, h2⟩ := hel i (by omega)
        rw [cellsInt] at h1
        obtain ⟨y, q, g, hw⟩ := DataW.trod_int Tryz.underlying3 h2
        subst q
        exact ⟨y, fun _ => ⟨in_of hw, h1⟩⟩
      · exact ⟨0, fun c => absurd c hi⟩
    obtain ⟨f, hf'⟩ := Classical.skolem.1 hone
    have hget : ∀ j, j < len0 → ((List.range len0).map f)[j]? = some (f j) := fun j hj => by rw [List.getElem?_map, List.getElem?_range hj]; rfl
    refine ⟨some a, len0, cap0, (List.range len0).map f, rfl, by simp, by first | omega | exact hl, by unfold maxLen at hm; omega, fun j x hj => ?_⟩
    have hjl : j < len0 := by have := (List.getElem?_eq_some_iff.1 hj).1; simpa using this
    rw [hget j hjl] at hj
    obtain rfl := Option.some.inj hj
    obtain ⟨w1, h2⟩ := hf' j hjl
    obtain ⟨_, _, h3⟩ := World.cells?_some h2
    obtain ⟨_, g2⟩ := hf' 0 (by omega)
    obtain ⟨_, _, g3⟩ := World.cells?_some g2
    have h4 := g3 0 (by omega)
    have hs := spot_none (h4.trans (show ([.int .i64 (f 0)] : List Value)[0]? = some (.int .i64 (f 0)) from rfl))
    have h0 := World.block_lt_of_cell? _ _ (h4.trans (show ([.int .i64 (f 0)] : List Value)[0]? = some (.int .i64 (f 0)) from rfl))
    have k0 := (h3 0 (by omega)).trans (show ([.int .i64 (f j)] : List Value)[0]? = some (.int .i64 (f j)) from rfl)
    obtain ⟨b, o, s⟩ := a
    simp only [Addr.add] at hs
    subst hs
    rw [Addr.add_lit, Addr.add_lit] at k0
    simp only [Nat.mul_one, Nat.add_zero] at k0
    exact ⟨w1, b, o, rfl, h0, k0⟩
end
theorem filt_sg : laidAllY.filter (fun x => x.1 == "headstock/token.signs") = [("headstock/token.signs", Rows.laid_headstock_token_signs)] := by kernel_rfl
theorem signs_of_all {W : World} (h : laidMetH Tryz.prog laidAllY W) : Lx.SignsAt W := by
  rw [MakeChecks.laidMetH_plain _ _ _ (by kernel_rfl)] at h
  have h1 := h.filter (fun x => x.1 == "headstock/token.signs")
  rw [filt_sg] at h1
  exact Lx.signs_of_laid h1
end Go.Proofs.YthlnjnmomnpnpaaGreatDoor
