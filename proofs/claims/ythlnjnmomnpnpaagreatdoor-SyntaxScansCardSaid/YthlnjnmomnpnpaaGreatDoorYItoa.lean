/- Package syntax: numbers' texts. -/
import Derived.Test.YthlnjnmomnpnpaaGreatDoorYBld
import Derived.Test.YthlnjnmomnpnpaaGreatDoorYShelf
import Derived.Shelf.SlSorted.Search
namespace Go.Proofs.YthlnjnmomnpnpaaGreatDoor
open Go.RowKit Tk Sy
set_option linter.unusedVariables false
def PowAt (w : World) : Prop := ∃ t fr, w.heap[3]? = some (.cells (Lib.pow10Tab.map fun z => Value.int .u64 z).toArray t fr)
theorem PowAt.bel {w w' : World} (h : PowAt w) (hb : Bel w w') : PowAt w' := by
  obtain ⟨t, fr, h⟩ := h
  exact ⟨t, fr, hb.stays h⟩
theorem gPow : Tryz.prog.globalNamed "internal/strconv.uint64pow10" = some 3 := by kernel_rfl
theorem PowAt.tab {w : World} (h : PowAt w) : Lib.TabIs Tryz.prog w "internal/strconv.uint64pow10" .u64 Lib.pow10Tab := by
  obtain ⟨t, fr, h⟩ := h
  unfold Lib.TabIs World.var?
  rw [gPow]
  simp only [Option.bind_some, h]
theorem itoa_lit {n : Int} {S : ByteArray} (h : str (Lib.itoa n) = S) (h0 : -9223372036854775808 ≤ n) (h1 : n ≤ 9223372036854775807) (w : World) (hP : PowAt w) :
    Calls Tryz.prog 58 #[.int .i64 n] w fun e w' => e = .returned (.string S) ∧ Bel w w' := by
  subst h
  refine (Tryz.strconv_Itoa n h0 h1 w hP.tab).mono ?_
  rintro e w' ⟨rfl, k, os, rfl⟩
  exact ⟨rfl, below_grown_sl _ w k os (Nat.le_refl _)⟩
end Go.Proofs.YthlnjnmomnpnpaaGreatDoor
