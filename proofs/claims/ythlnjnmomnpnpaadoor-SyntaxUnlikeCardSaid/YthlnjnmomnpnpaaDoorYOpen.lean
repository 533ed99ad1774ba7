/- What the listed variables hold where they read as their initialisers lay them; a law's last step. -/
import Derived.Test.YthlnjnmomnpnpaaDoorRows
import Derived.Test.YthlnjnmomnpnpaaDoorYItoa
import Derived.Test.YthlnjnmomnpnpaaDoorYWrap
import Derived.Deep.Slices
import Derived.ProofKit
import Derived.OpenShut
import Derived.LaidSub
import Derived.Lib.LaidTab
import Derived.MakeChecks
import Derived.Lay
namespace Go.Proofs.YthlnjnmomnpnpaaDoor
open Go.ChangeShapes Go.WideShapes Go.ChangeAt Go.RowKit Tk Sy Plain
set_option linter.unusedVariables false
theorem own : ownKnob Tryd.prog.godebug = none := by kernel_rfl
theorem cellsInt : Tryd.prog.cellsOf 3 = 1 := by kernel_rfl
theorem gTexts : Tryd.prog.globalNamed "headstock/wrap.texts" = some 0 := by kernel_rfl
theorem gTextsType : (Tryd.prog.globals[0]?).map (·.type) = some 127 := by kernel_rfl
theorem cellsTexts : Tryd.prog.cellsOf 127 = 18 := by kernel_rfl
theorem cellsString : Tryd.prog.cellsOf 9 = 1 := by kernel_rfl
theorem gPowType : (Tryd.prog.globals[1]?).map (·.type) = some 137 := by kernel_rfl
theorem cellsU64 : Tryd.prog.cellsOf 131 = 1 := by kernel_rfl
theorem cellsPow : Tryd.prog.cellsOf 137 = 20 := by kernel_rfl
abbrev laidAllY : List (String × DataW Unit) := Rows.syntaxBindsRow.laid
theorem filt_tx : laidAllY.filter (fun x => x.1 == "headstock/wrap.texts") = [("headstock/wrap.texts", Rows.laid_headstock_wrap_texts)] := by kernel_rfl
theorem filt_pow : laidAllY.filter (fun x => x.1 == "internal/strconv.uint64pow10") = [("internal/strconv.uint64pow10", Rows.laid_internal_strconv_uint64pow10)] := by kernel_rfl
theorem pow_eq : (Rows.laid_internal_strconv_uint64pow10 : DataW Unit) = Lib.tabData .u64 Lib.pow10Tab := by kernel_rfl
def dataTexts : List (DataW Unit) := [.lit (.string []), .lit (.string [43]), .lit (.string [45]), .lit (.string [42]), .lit (.string [47]), .lit (.string [37]), .lit (.string [38]), .lit (.string [124]), .lit (.string [94]), .lit (.string [60, 60]), .lit (.string [62, 62]), .lit (.string [60]), .lit (.string [60, 46]), .lit (.string [61, 61]), .lit (.string [33, 61]), .lit (.string [45]), .lit (.string [33]), .lit (.string [126])]
theorem data_eq : (Rows.laid_headstock_wrap_texts : DataW Unit) = .agg dataTexts := rfl
theorem data_at (k : Nat) (hk : k < 18) : dataTexts[k]? = some (.lit (.string (text (k : Int)))) := by
  have h : k = 0 ∨ k = 1 ∨ k = 2 ∨ k = 3 ∨ k = 4 ∨ k = 5 ∨ k = 6 ∨ k = 7 ∨ k = 8 ∨ k = 9 ∨ k = 10 ∨ k = 11 ∨ k = 12 ∨ k = 13 ∨ k = 14 ∨ k = 15 ∨ k = 16 ∨ k = 17 := by omega
  rcases h with rfl | rfl | rfl | rfl | rfl | rfl | rfl | rfl | rfl | rfl | rfl | rfl | rfl | rfl | rfl | rfl | rfl | rfl
  all_goals rfl
theorem texts_of_laid {W : World} (h' : laidMet Tryd.prog [("headstock/wrap.texts", Rows.laid_headstock_wrap_texts)] W) : Texts W := by
  obtain ⟨ps, ⟨g', t', cs, fuel, p, q, hg', ht', hvar, hd, _, _⟩, _⟩ := h'
  obtain rfl := Option.some.inj (gTexts.symm.trans hg')
  obtain rfl := Option.some.inj (gTextsType.symm.trans ht')
  rw [data_eq] at hd
  obtain ⟨xs, m, rfl, hx, hlen, hn, hel⟩ := DataW.trod_array Tryd.underlying127 hd
  intro k hk
  have hx1 : dataTexts = xs.map (·.1) := by
    have := congrArg Prod.fst hx
    simpa using this
  have hk1 : (xs.map (·.1))[k]? = some (.lit (.string (text (k : Int)))) := hx1 ▸ data_at k hk
  rw [List.getElem?_map] at hk1
  obtain ⟨x, hxk, hxd⟩ := Option.map_eq_some_iff.1 hk1
  have h0 := hel k hk
  rw [hxk] at h0
  obtain ⟨s, hcs, hs, _⟩ := DataW.trod_string Tryd.underlying9 h0
  subst hs
  have hst : s.data.toList = text (k : Int) := by simpa using hxd
  have hs : s = ⟨(text (k : Int)).toArray⟩ := by
    rw [← hst]
  have hc : W.cell? ⟨0, k, none⟩ = cs[k]? := World.var?_cell hg' hvar k
  rw [hc, ← hs]
  rw [cellsString, Nat.mul_one] at hcs
  have := congrArg (·[0]?) hcs
  simpa [List.getElem?_take, List.getElem?_drop] using this
set_option maxRecDepth 100000 in
theorem lib_of_laid {W : World} (h : laidMetH Tryd.prog laidAllY W) : Texts W ∧ PowAt W := by
  rw [MakeChecks.laidMetH_plain _ _ _ (by kernel_rfl)] at h
  have h1 := h.filter (fun x => x.1 == "headstock/wrap.texts")
  have h3 := h.filter (fun x => x.1 == "internal/strconv.uint64pow10")
  rw [filt_tx] at h1
  rw [filt_pow, pow_eq] at h3
  refine ⟨texts_of_laid h1, ?_⟩
  have ht := Lib.tabIs_of_head gPow gPowType Tryd.underlying137 Tryd.underlying131 cellsU64 cellsPow h3
  unfold Lib.TabIs World.var? at ht
  rw [gPow] at ht
  simp only [Option.bind_some] at ht
  split at ht
  · rename_i cs' t fr hh
    obtain rfl := Option.some.inj ht
    exact ⟨t, fr, hh⟩
  · cases ht
set_option maxRecDepth 100000 in
/-- a law that answers true, of whose memory it is known that nothing of what was there has turned: its post -/
theorem post_law {H : Type} {enc : TypeId × Value → H} {f : Func} {s : ChangeSpec} {apart fresh handsOn again : Bool} {W W' : World} {args : Array Value} {v : Value} {ds gs : List (DataW H)} {before : List MemPlace}
    (hW : DataW.Whole enc Tryd.prog f.params.toList s.vars apart W args.toList ds gs before)
    (hres : ∀ (b : Nat) (sp : Nat → Bool) (hd : Bool), DataW.TrodAll enc Tryd.prog W' b sp hd f.resultTypes.toList (v.resultList f.resultTypes.size) (s.fn H (ds ++ gs)).results [])
    (hargs : ∀ sp : Nat → Bool, (∀ p ∈ before, sp p.block = true) → DataW.TrodAll enc Tryd.prog W' 0 sp true f.params.toList args.toList (s.fn H (ds ++ gs)).args before)
    (hvars : ∀ sp : Nat → Bool, DataW.TrodVars enc Tryd.prog W' sp s.vars (s.fn H (ds ++ gs)).vars [])
    (hb : Bel W W')
    (hok : ∀ (j : Nat) (t : TypeId) (r : Value), f.resultTypes[j]? = some t → (v.resultList f.resultTypes.size)[j]? = some r → Value.okWide Tryd.prog W' .any 0 t r) :
    s.post enc Tryd.prog f apart fresh handsOn again W args v W' := by
  have hlt := hW.lt
  have hW2 := hW
  obtain ⟨_, _, _, _, _, hfz, hnd⟩ := hW2
  have here : ∀ p ∈ before, (fun b => decide (b < W.heap.size)) p.block = true := fun p hp => decide_eq_true (hlt p hp)
  have kept : W.keptBut W' fun p => p ∈ before := Below.frame hb _
  have all : ∀ sp : Nat → Bool, (∀ p ∈ before, sp p.block = true) → DataW.TrodAll enc Tryd.prog W' 0 sp true (f.resultTypes.toList ++ f.params.toList) (v.resultList f.resultTypes.size ++ args.toList) ((s.fn H (ds ++ gs)).results ++ (s.fn H (ds ++ gs)).args) ([] ++ before) := fun sp hsp => trodAll_append (hargs sp hsp) (hres 0 sp true)
  have twice : DataW.Whole enc Tryd.prog (f.resultTypes.toList ++ f.params.toList) s.vars apart W' (v.resultList f.resultTypes.size ++ args.toList) ((s.fn H (ds ++ gs)).results ++ (s.fn H (ds ++ gs)).args) (s.fn H (ds ++ gs)).vars before := by
    refine ⟨[] ++ before, [], all _ fun _ _ => rfl, hvars _, by simp, fun b off hp => ?_, hnd⟩
    rw [Below.frozen hb (hlt _ hp)]
    exact hfz b off hp
  refine ⟨ds, gs, before, [], before, [], hW, hres _ _ _, hargs _ here, hvars _, World.keptBut_mono (fun p hp => ⟨hp, Or.inr (Or.inl hp)⟩) kept, fun _ => ⟨hok, _, _, before, twice, fun p hp _ => by simpa using hp⟩⟩
end Go.Proofs.YthlnjnmomnpnpaaDoor
