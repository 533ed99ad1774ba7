/- What the library's tables of blanks hold where they read as their initialisers lay them. -/
import Derived.Test.YtojdpeokceebhaaGreatDoorIOpen
import Derived.Test.YtojdpeokceebhaaGreatDoorIFields
import Derived.Lib.LaidU8
namespace Go.Proofs.YtojdpeokceebhaaGreatDoor
open Go.RowKit Go.Lib Im
set_option linter.unusedVariables false
theorem gSp : Tryz.prog.globalNamed "strings.asciiSpace" = some 1 := by kernel_rfl
theorem gSpType : (Tryz.prog.globals[1]?).map (·.type) = some 115 := by kernel_rfl
theorem cellsU8 : Tryz.prog.cellsOf 5 = 1 := by kernel_rfl
theorem cellsSp : Tryz.prog.cellsOf 115 = 256 := by kernel_rfl
def spTab : List Int := (List.range 256).map fun c => if 9 ≤ c ∧ c ≤ 13 ∨ c = 32 then 1 else 0
theorem filt_sp : laidAllI.filter (fun x => x.1 == "strings.asciiSpace") = [("strings.asciiSpace", Rows.laid_strings_asciiSpace)] := by kernel_rfl
theorem sp_eq : (Rows.laid_strings_asciiSpace : DataW Unit) = Lib.tabData .u8 spTab := by kernel_rfl
theorem first_mem : ("unicode/utf8.first", Lib.firstData) ∈ laidAllI := by
  have : laidAllI.filter (fun x => x.1 == "unicode/utf8.first") = [("unicode/utf8.first", Lib.firstData)] := by kernel_rfl
  exact ((List.mem_filter (p := fun x => x.1 == "unicode/utf8.first")).1 (by rw [this]; exact List.mem_singleton.2 rfl)).1
theorem accept_mem : ("unicode/utf8.acceptRanges", Lib.acceptData) ∈ laidAllI := by
  have : laidAllI.filter (fun x => x.1 == "unicode/utf8.acceptRanges") = [("unicode/utf8.acceptRanges", Lib.acceptData)] := by kernel_rfl
  exact ((List.mem_filter (p := fun x => x.1 == "unicode/utf8.acceptRanges")).1 (by rw [this]; exact List.mem_singleton.2 rfl)).1
theorem white_mem : ("unicode.White_Space", Lib.whiteData) ∈ laidAllI := by
  have : laidAllI.filter (fun x => x.1 == "unicode.White_Space") = [("unicode.White_Space", Lib.whiteData)] := by kernel_rfl
  exact ((List.mem_filter (p := fun x => x.1 == "unicode.White_Space")).1 (by rw [this]; exact List.mem_singleton.2 rfl)).1
set_option maxRecDepth 100000 in
theorem sp_of_laid {W : World} (h : laidMetH Tryz.prog laidAllI W) : SpAt W := by
  rw [MakeChecks.laidMetH_plain _ _ _ (by kernel_rfl)] at h
  have h3 := h.filter (fun x => x.1 == "strings.asciiSpace")
  rw [filt_sp, sp_eq] at h3
  refine ⟨fun c hc => ?_, utf8Tabs_of_reads { Tryz.lays197 with } ⟨by kernel_rfl, by kernel_rfl, by kernel_rfl, by kernel_rfl, by kernel_rfl, by kernel_rfl, by kernel_rfl⟩ (Lib.laidMet.reads h first_mem) (Lib.laidMet.reads h accept_mem), whiteTab_of_reads { Tryz.lays199 with } ⟨by kernel_rfl, by kernel_rfl, by kernel_rfl, by kernel_rfl, by kernel_rfl, by kernel_rfl, by kernel_rfl, by kernel_rfl⟩ (Lib.laidMet.reads h white_mem)⟩
  have ht := Lib.tabIs_of_head gSp gSpType Tryz.underlying115 Tryz.underlying5 cellsU8 cellsSp h3
  unfold Lib.TabIs World.var? at ht
  rw [gSp] at ht
  simp only [Option.bind_some] at ht
  split at ht
  · rename_i cs' t fr hh
    obtain rfl := Option.some.inj ht
    rw [cell_of_heap hh c]
    unfold spTab
    simp [hc]
  · cases ht
end Go.Proofs.YtojdpeokceebhaaGreatDoor
