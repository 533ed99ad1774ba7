/- From what the rows list to what the walks read: where the table of texts reads as its initialiser lays it, its eighteen cells hold the eighteen texts. -/
import Derived.Test.YtldhkfgloeanoaaDoorRows
import Derived.Test.YtldhkfgloeanoaaDoorBase
import Derived.ProofKit
import Derived.OpenShut
namespace Go.Proofs.YtldhkfgloeanoaaDoor
open Go.ChangeShapes Go.WideShapes Go.ChangeAt Go.RowKit Plain
theorem own : ownKnob Tryd.prog.godebug = none := by kernel_rfl
theorem gTexts : Tryd.prog.globalNamed "headstock/wrap.texts" = some 0 := by kernel_rfl
theorem gTextsType : (Tryd.prog.globals[0]?).map (·.type) = some 37 := by kernel_rfl
theorem cellsTexts : Tryd.prog.cellsOf 37 = 18 := by kernel_rfl
theorem cellsString : Tryd.prog.cellsOf 9 = 1 := by kernel_rfl
abbrev laidTexts {H : Type} : List (String × DataW H) := [("headstock/wrap.texts", Rows.laid_headstock_wrap_texts)]
def dataTexts : List (DataW Unit) := [.lit (.string []), .lit (.string [43]), .lit (.string [45]), .lit (.string [42]), .lit (.string [47]), .lit (.string [37]), .lit (.string [38]), .lit (.string [124]), .lit (.string [94]), .lit (.string [60, 60]), .lit (.string [62, 62]), .lit (.string [60]), .lit (.string [60, 46]), .lit (.string [61, 61]), .lit (.string [33, 61]), .lit (.string [45]), .lit (.string [33]), .lit (.string [126])]
theorem data_eq : (Rows.laid_headstock_wrap_texts : DataW Unit) = .agg dataTexts := rfl
theorem data_at (k : Nat) (hk : k < 18) : dataTexts[k]? = some (.lit (.string (text (k : Int)))) := by
  have h : k = 0 ∨ k = 1 ∨ k = 2 ∨ k = 3 ∨ k = 4 ∨ k = 5 ∨ k = 6 ∨ k = 7 ∨ k = 8 ∨ k = 9 ∨ k = 10 ∨ k = 11 ∨ k = 12 ∨ k = 13 ∨ k = 14 ∨ k = 15 ∨ k = 16 ∨ k = 17 := by omega
  rcases h with rfl | rfl | rfl | rfl | rfl | rfl | rfl | rfl | rfl | rfl | rfl | rfl | rfl | rfl | rfl | rfl | rfl | rfl
  all_goals rfl
theorem texts_of_laid {W : World} (h : laidMetH Tryd.prog laidTexts W) : Texts W := by
  have h' : laidMet Tryd.prog laidTexts W := h
  obtain ⟨ps, ⟨g', t', cs, fuel, p, q, hg', ht', hvar, hd, _, _⟩, _⟩ := h'
  obtain rfl := Option.some.inj (gTexts.symm.trans hg')
  obtain rfl := Option.some.inj (gTextsType.symm.trans ht')
  rw [data_eq] at hd
  obtain ⟨xs, m, rfl, hx, hlen, hn, hel⟩ := DataW.trod_array Tryd.underlying37 hd
  intro k hk
  have hx1 : dataTexts = xs.map (·.1) := by
    have := congrArg Prod.fst hx
    simpa using this
  have hk1 : (xs.map (·.1))[k]? = some (.lit (.string (text (k : Int)))) := hx1 ▸ data_at k hk
  rw [List.getElem?_map] at hk1
  obtain ⟨x, hxk, hxd⟩ := Option.map_eq_some_iff.1 hk1
  have h0 := hel k hk
  rw [hxk] at h0
  obtain ⟨s, hcs, hs, _⟩ := DataW.trod_string Tryd.underlying9 h0
  subst hs
  have hst : s.data.toList = text (k : Int) := by simpa using hxd
  have hs : s = ⟨(text (k : Int)).toArray⟩ := by
    rw [← hst]
  have hc : W.cell? ⟨0, k, none⟩ = cs[k]? := World.var?_cell hg' hvar k
  rw [hc, ← hs]
  rw [cellsString, Nat.mul_one] at hcs
  have := congrArg (·[0]?) hcs
  simpa [List.getElem?_take, List.getElem?_drop] using this
/-- the table's cells, as its initialiser lays them -/
def textCells : Array Value := #[.string ⟨#[]⟩, .string ⟨#[43]⟩, .string ⟨#[45]⟩, .string ⟨#[42]⟩, .string ⟨#[47]⟩, .string ⟨#[37]⟩, .string ⟨#[38]⟩, .string ⟨#[124]⟩, .string ⟨#[94]⟩, .string ⟨#[60, 60]⟩, .string ⟨#[62, 62]⟩, .string ⟨#[60]⟩, .string ⟨#[60, 46]⟩, .string ⟨#[61, 61]⟩, .string ⟨#[33, 61]⟩, .string ⟨#[45]⟩, .string ⟨#[33]⟩, .string ⟨#[126]⟩]
end Go.Proofs.YtldhkfgloeanoaaDoor
