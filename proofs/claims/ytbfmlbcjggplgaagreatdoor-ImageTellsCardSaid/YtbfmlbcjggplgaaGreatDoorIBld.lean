/- The library's builder and its decimal digits. -/
import Derived.Test.YtbfmlbcjggplgaaGreatDoorIDig
import Derived.Shelf.Strings.BuilderK
import Derived.Test.YtbfmlbcjggplgaaGreatDoorIPn
import Derived.Deep.RegionHeld3
namespace Go.Proofs.YtbfmlbcjggplgaaGreatDoor
open Go.RowKit Im
set_option linter.unusedVariables false
/-- the library's table of powers of ten -/
def PowAt (w : World) : Prop := ∃ t fr, w.heap[5]? = some (.cells (Lib.pow10Tab.map fun z => Value.int .u64 z).toArray t fr)
theorem PowAt.bel {w w' : World} (h : PowAt w) (hb : Bel w w') : PowAt w' := by
  obtain ⟨t, fr, h⟩ := h
  exact ⟨t, fr, hb.stays h⟩
theorem gPow : Tryz.prog.globalNamed "internal/strconv.uint64pow10" = some 5 := by kernel_rfl
theorem PowAt.tab {w : World} (h : PowAt w) : Lib.TabIs Tryz.prog w "internal/strconv.uint64pow10" .u64 Lib.pow10Tab := by
  obtain ⟨t, fr, h⟩ := h
  unfold Lib.TabIs World.var?
  rw [gPow]
  simp only [Option.bind_some, h]
theorem itoa_lit {n : Int} {S : ByteArray} (h : str (Lib.itoa n) = S) (h0 : -9223372036854775808 ≤ n) (h1 : n ≤ 9223372036854775807) (w : World) (hP : PowAt w) :
    Calls Tryz.prog 39 #[.int .i64 n] w fun e w' => e = .returned (.string S) ∧ Bel w w' := by
  subst h
  refine (Tryz.strconv_Itoa n h0 h1 w hP.tab).mono ?_
  rintro e w' ⟨rfl, k, os, rfl⟩
  exact ⟨rfl, below_grown_sl _ w k os (Nat.le_refl _)⟩
/-- a builder of the call's own, that holds so many bytes -/
def BAt (B b : Nat) (l : Bs) (w : World) : Prop := Lib.IsBuilderF 63 5 B b (Lib.byteCells l) w
theorem bcells_len (l : Bs) : (Lib.byteCells l).length = l.length := Lib.byteCells_length l
/-- a builder has been written to: what it holds now; what has stayed -/
def Wrote (B b : Nat) (m : Bs) (w w' : World) : Prop := BAt B b m w' ∧ Below B w w' ∧ Lib.OthersKept 5 (some b) w w'
theorem Wrote.keeps {B b : Nat} {m : Bs} {w w' : World} (h : Wrote B b m w w') {g : Nat} {cs : Array Value} {t : TypeId} {fr : Nat × Nat} (hg : w.heap[g]? = some (.cells cs t fr)) (hb : g ≠ b) (ht : t ≠ 5) : w'.heap[g]? = some (.cells cs t fr) :=
  h.2.2 g _ hg (fun e => hb (Option.some.inj e)) (fun c fz e => ht (by injection e))
theorem write_str {B b : Nat} {l : Bs} {s : ByteArray} {m : Bs} (hm : l ++ s.data.toList = m) (w : World) (h : BAt B b l w) (hlen : m.length ≤ 1000000000) (hB : B ≤ w.heap.size) :
    Calls Tryz.prog 38 #[.pointer (some ⟨b, 0, none⟩), .string s] w fun e w' => e = .returned (.tuple #[.int .i64 s.size, .nilIface]) ∧ Wrote B b m w w' := by
  subst hm
  rw [List.length_append, size_list] at hlen
  refine (Any.Builder_WriteString_k Tryz.lays166 Tryz.Builder_Extra_166 B b _ s w h (by rw [bcells_len]; omega) hB).mono ?_
  rintro e w' ⟨rfl, h1, h2, h3⟩
  refine ⟨rfl, Or.inr ?_, h2, h3⟩
  rw [Lib.byteCells_append]
  exact h1
theorem write_byte {B b : Nat} {l : Bs} {c : UInt8} {m : Bs} (hm : l ++ [c] = m) (w : World) (h : BAt B b l w) (hlen : m.length ≤ 1000000000) (hB : B ≤ w.heap.size) :
    Calls Tryz.prog 41 #[.pointer (some ⟨b, 0, none⟩), .int .u8 (c.toNat : Int)] w fun e w' => e = .returned .nilIface ∧ Wrote B b m w w' := by
  subst hm
  rw [List.length_append] at hlen
  refine (Any.Builder_WriteByte_k Tryz.lays167 Tryz.Builder_Extra_167 B b _ (c.toNat : Int) w h (by rw [bcells_len]; simp at hlen; omega) hB).mono ?_
  rintro e w' ⟨rfl, h1, h2, h3⟩
  refine ⟨rfl, Or.inr ?_, h2, h3⟩
  rw [Lib.byteCells_append]
  exact h1
theorem read_str {B b : Nat} {l : Bs} {S : ByteArray} (hS : str l = S) (w : World) (h : BAt B b l w) (hB : B ≤ w.heap.size) :
    Calls Tryz.prog 42 #[.pointer (some ⟨b, 0, none⟩)] w fun e w' => e = .returned (.string S) ∧ Below B w w' := by
  subst hS
  refine (Any.Builder_String_any_k Tryz.lays169 Tryz.Builder_Extra_169 B b l w h hB).mono ?_
  rintro e w' ⟨rfl, h1, h2, h3⟩
  exact ⟨rfl, h2⟩
theorem new_builder (w : World) : BAt w.heap.size w.heap.size [] (w.alloc (.cells #[.pointer none, .slice none 0 0] 63)) :=
  Or.inl ⟨Nat.le_refl _, .slice none 0 0, heap_alloc_new w _, World.ownsRowF_nil _ _ _ _, by simp [Value.ownBlock]⟩
theorem ownsRowF_bel {w w' : World} {base : Nat} {e : TypeId} {size : Nat} {v : Value} {n : Nat} {xs : List Value} (h : w.ownsRowF base e size v n xs) (hb : Bel w w') : w'.ownsRowF base e size v n xs := by
  refine ⟨h.1, ?_⟩
  rcases h.2 with hn | ⟨g, cap, cur, fz, rfl, hb', hgg, rest⟩
  · exact .inl hn
  · exact .inr ⟨g, cap, cur, fz, rfl, hb', hb.stays hgg, rest⟩
theorem BAt.bel {B b : Nat} {l : Bs} {w w' : World} (h : BAt B b l w) (hb : Bel w w') : BAt B b l w' := by
  rcases h with ⟨h1, v, h2, h3, h4⟩ | ⟨h1, v, h2, h3, h4⟩
  · exact Or.inl ⟨h1, v, hb.stays h2, ownsRowF_bel h3 hb, h4⟩
  · exact Or.inr ⟨h1, v, hb.stays h2, ownsRowF_bel h3 hb, h4⟩
end Go.Proofs.YtbfmlbcjggplgaaGreatDoor
