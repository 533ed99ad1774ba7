/- From what the rows list to what the walks read: where the table of signs reads as its initialiser lays it, its cells hold the twenty-five signs. -/
import Derived.Test.YtgameoiofikhmaaDoorRows
import Derived.Test.YtgameoiofikhmaaDoorTOpen
namespace Go.Proofs.YtgameoiofikhmaaDoor
open Go.ChangeShapes Go.WideShapes Go.ChangeAt Go.RowKit Tk
set_option linter.unusedVariables false
theorem own : ownKnob Tryd.prog.godebug = none := by kernel_rfl
theorem gSigns : Tryd.prog.globalNamed "headstock/token.signs" = some 0 := by kernel_rfl
theorem gSignsType : (Tryd.prog.globals[0]?).map (·.type) = some 54 := by kernel_rfl
theorem cellsSigns : Tryd.prog.cellsOf 54 = 25 := by kernel_rfl
theorem cellsString : Tryd.prog.cellsOf 9 = 1 := by kernel_rfl
abbrev laidSigns {H : Type} : List (String × DataW H) := [("headstock/token.signs", Rows.laid_headstock_token_signs)]
def dataSigns : List (DataW Unit) := signs.map fun s => .lit (.string s)
theorem data_eq : (Rows.laid_headstock_token_signs : DataW Unit) = .agg dataSigns := rfl
theorem signCells_eq : signCells = (signs.map fun s => Value.string (str s)).toArray := rfl
theorem signs_of_laid {W : World} (h : laidMetH Tryd.prog laidSigns W) : SignsAt W := by
  have h' : laidMet Tryd.prog laidSigns W := h
  obtain ⟨ps, ⟨g', t', cs, fuel, p, q, hg', ht', hvar, hd, _, _⟩, _⟩ := h'
  obtain rfl := Option.some.inj (gSigns.symm.trans hg')
  obtain rfl := Option.some.inj (gSignsType.symm.trans ht')
  rw [data_eq] at hd
  obtain ⟨xs, m, rfl, hx, hlen, hn, hel⟩ := DataW.trod_array Tryd.underlying54 hd
  have hx1 : dataSigns = xs.map (·.1) := by
    have := congrArg Prod.fst hx
    simpa using this
  rw [cellsSigns] at hlen
  have hcs : cs = signCells := by
    rw [signCells_eq]
    apply Array.ext'
    apply List.ext_getElem?
    intro k
    by_cases hk : k < 25
    · have hk1 : (xs.map (·.1))[k]? = some (.lit (.string (signs.getD k []))) := by
        rw [← hx1]
        unfold dataSigns
        rw [List.getElem?_map, List.getElem?_eq_getElem (by exact hk), List.getD_eq_getElem?_getD, List.getElem?_eq_getElem (by exact hk)]
        rfl
      rw [List.getElem?_map] at hk1
      obtain ⟨x, hxk, hxd⟩ := Option.map_eq_some_iff.1 hk1
      have h0 := hel k hk
      rw [hxk] at h0
      obtain ⟨s, hs1, hs2, _⟩ := DataW.trod_string Tryd.underlying9 h0
      subst hs2
      have hst : s.data.toList = signs.getD k [] := by simpa using hxd
      have hs : s = str (signs.getD k []) := by rw [← hst, data_str]
      rw [cellsString, Nat.mul_one] at hs1
      have := congrArg (·[0]?) hs1
      have e1 : (signs.map fun s => Value.string (str s))[k]? = some (.string (str (signs.getD k []))) := by
        rw [List.getElem?_map, List.getElem?_eq_getElem (show k < signs.length from hk), List.getD_eq_getElem?_getD, List.getElem?_eq_getElem (show k < signs.length from hk)]
        rfl
      rw [List.toList_toArray, e1]
      rw [hs] at this
      simpa [List.getElem?_take, List.getElem?_drop] using this
    · rw [List.getElem?_eq_none (by omega), List.getElem?_eq_none (by show 25 ≤ k; omega)]
  unfold World.var? at hvar
  rw [gSigns] at hvar
  simp only [Option.bind_some] at hvar
  split at hvar
  · rename_i cs' t fr hh
    obtain rfl := Option.some.inj hvar
    rw [hcs] at hh
    exact ⟨t, fr, hh⟩
  · cases hvar
end Go.Proofs.YtgameoiofikhmaaDoor
