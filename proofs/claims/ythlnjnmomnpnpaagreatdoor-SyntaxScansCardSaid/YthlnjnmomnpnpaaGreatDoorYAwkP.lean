/- The law's first calls: what they build, plain. -/
import Derived.Test.YthlnjnmomnpnpaaGreatDoorYSize
import Derived.Test.YthlnjnmomnpnpaaGreatDoorYPrint
import Derived.Test.YthlnjnmomnpnpaaGreatDoorYSameP
namespace Go.Proofs.YthlnjnmomnpnpaaGreatDoor
open Go.RowKit Tk Sy
set_option linter.unusedVariables false
def oneE : Ex := .mk 1 0 1 ⟨#[]⟩ []
def sumE : Ex := .mk 4 1 0 ⟨#[]⟩ [oneE, oneE]
def mulE : Ex := .mk 4 3 0 ⟨#[]⟩ [sumE, oneE]
def setS : St := .mk 1 ⟨#[120]⟩ ⟨#[]⟩ 0 [mulE] [] []
def theT : Tsk := ⟨⟨#[116]⟩, false, 0, 1, 0, [setS]⟩
def theP : Prg := ⟨1, [], [], [theT]⟩
def noP : Prg := ⟨0, [], [], []⟩
theorem itoa_one : numT 1 = [49] := by
  unfold numT Lib.itoa
  rw [if_neg (by decide)]
  show Lib.decDigits 1 = _
  rw [Lib.decDigits_one (by decide)]
  rfl
theorem itoa_zero : numT 0 = [48] := by
  unfold numT Lib.itoa
  rw [if_neg (by decide)]
  show Lib.decDigits 0 = _
  rw [Lib.decDigits_one (by decide)]
  rfl
theorem body_mul : bodyE 30 mulE = true := by decide +kernel
theorem right_the : right theP = true := by decide +kernel
theorem right_no : right noP = false := by decide +kernel
theorem size_the : size theP = 6 := by decide +kernel
theorem eqv_the : eqv theP theP = true := eqv_iff.2 rfl
theorem eqv_none : eqv theP noP = false := eqv_no (fun h => by
  have : theP.harts = noP.harts := by rw [h]
  exact absurd this (by decide))
theorem exT_one (k : Nat) : exT (k + 1) oneE = [49] := by
  show numT 1 = _
  exact itoa_one
theorem exT_sum (k : Nat) : exT (k + 2) sumE = [49, 32, 43, 32, 49] := by
  have h : exT (k + 2) sumE = par (low oneE (level 1)) (exT (k + 1) oneE) ++ ([32] ++ opT 1 ++ [32]) ++ par (low oneE (level 1 + 1)) (exT (k + 1) oneE) := rfl
  rw [h, exT_one]
  decide +kernel
theorem exT_mul (k : Nat) : exT (k + 3) mulE = [40, 49, 32, 43, 32, 49, 41, 32, 42, 32, 49] := by
  have h : exT (k + 3) mulE = par (low sumE (level 3)) (exT (k + 2) sumE) ++ ([32] ++ opT 3 ++ [32]) ++ par (low oneE (level 3 + 1)) (exT (k + 2) oneE) := rfl
  rw [h, exT_one, exT_sum]
  decide +kernel
theorem text_the : prgT theP = [104, 97, 114, 116, 115, 32, 49, 10, 116, 97, 115, 107, 32, 116, 32, 48, 32, 49, 32, 123, 10, 9, 120, 32, 61, 32, 40, 49, 32, 43, 32, 49, 41, 32, 42, 32, 49, 59, 10, 125, 10] := by
  have h : prgT theP = lineT 0 [[104, 97, 114, 116, 115, 32], numT 1] ++ [] ++ [] ++ ((lineT 0 [[116, 97, 115, 107, 32], [116], [32], numT 0, [32], numT 1, [32, 123]] ++ (lineT 1 [[120], [32, 61, 32], exT 30 mulE, [59]] ++ []) ++ lineT 0 [[125]]) ++ []) := rfl
  rw [h, itoa_one, itoa_zero, exT_mul 27]
  decide +kernel
theorem wfE_one : WfE oneE := ⟨⟨by decide, by decide⟩, ⟨by decide, by decide⟩, ⟨by decide, by decide⟩, by unfold maxLen; decide, by decide⟩
theorem wfE_sum : WfE sumE := ⟨⟨by decide, by decide⟩, ⟨by decide, by decide⟩, ⟨by decide, by decide⟩, by unfold maxLen; decide, by decide⟩
theorem wfE_mul : WfE mulE := ⟨⟨by decide, by decide⟩, ⟨by decide, by decide⟩, ⟨by decide, by decide⟩, by unfold maxLen; decide, by decide⟩
theorem wfS_set : WfS setS := ⟨⟨by decide, by decide⟩, ⟨by decide, by decide⟩, by unfold maxLen; decide, by unfold maxLen; decide, by decide, by decide, by decide⟩
theorem EAt.two {w : World} {g : Nat} {e f : Ex} {q r : Option Addr} {c d : Nat} {t : TypeId} {fr : Nat × Nat} (h : w.heap[g]? = some (.cells #[.int .i64 e.kind, .int .i64 e.op, .int .i64 e.n, .string e.name, .slice q e.args.length c, .int .i64 f.kind, .int .i64 f.op, .int .i64 f.n, .string f.name, .slice r f.args.length d] t fr)) (hw : WfE e) (hE : EAt w q e.args) (hv : WfE f) (hF : EAt w r f.args) : EAt w (some ⟨g, 0, none⟩) [e, f] := by
  refine EAt.mk fun j x hj => ?_
  match j, hj with
  | 0, hj =>
    obtain rfl : e = x := by simpa using hj
    exact ⟨hw, g, 0, q, c, rfl, lt_of_heap h, cell_of_heap h 0, cell_of_heap h 1, cell_of_heap h 2, cell_of_heap h 3, cell_of_heap h 4, hE⟩
  | 1, hj =>
    obtain rfl : f = x := by simpa using hj
    exact ⟨hv, g, 0, r, d, rfl, lt_of_heap h, cell_of_heap h 5, cell_of_heap h 6, cell_of_heap h 7, cell_of_heap h 8, cell_of_heap h 9, hF⟩
  | j + 2, hj => simp at hj
theorem StsAt.succ {w : World} : ∀ (k : Nat) (p : Option Addr) (l : List St), StsAt k w p l → StsAt (k + 1) w p l := by
  intro k
  induction k with
  | zero =>
    intro p l h j e hj
    have : l = [] := h
    subst this
    cases hj
  | succ k ih =>
    intro p l h j s hj
    obtain ⟨hw, b, o, q, c, q1, c1, q2, c2, hp, hl, hc, ha, ht, he⟩ := h j s hj
    exact ⟨hw, b, o, q, c, q1, c1, q2, c2, hp, hl, hc, ha, ih q1 _ ht, ih q2 _ he⟩
theorem StsAt.mono {w : World} {k k' : Nat} (hk : k ≤ k') {p : Option Addr} {l : List St} (h : StsAt k w p l) : StsAt k' w p l := by
  induction hk with
  | refl => exact h
  | step _ ih => exact StsAt.succ _ _ _ ih
theorem SAt.one {w : World} {g : Nat} {s : St} {q : Option Addr} {c : Nat} {q1 : Option Addr} {c1 : Nat} {q2 : Option Addr} {c2 : Nat} {t : TypeId} {fr : Nat × Nat} (h : w.heap[g]? = some (.cells #[.int .i64 s.kind, .string s.name, .string s.src, .int .i64 s.n, .slice q s.args.length c, .slice q1 s.thn.length c1, .slice q2 s.els.length c2] t fr)) (hw : WfS s) (hE : EAt w q s.args) (hT : SAt w q1 s.thn) (hF : SAt w q2 s.els) : SAt w (some ⟨g, 0, none⟩) [s] := by
  obtain ⟨k1, hT⟩ := hT
  obtain ⟨k2, hF⟩ := hF
  refine ⟨max k1 k2 + 1, fun j x hj => ?_⟩
  match j, hj with
  | 0, hj =>
    obtain rfl : s = x := by simpa using hj
    exact ⟨hw, g, 0, q, c, q1, c1, q2, c2, rfl, lt_of_heap h, ⟨cell_of_heap h 0, cell_of_heap h 1, cell_of_heap h 2, cell_of_heap h 3, cell_of_heap h 4, cell_of_heap h 5, cell_of_heap h 6⟩, hE, hT.mono (Nat.le_max_left _ _), hF.mono (Nat.le_max_right _ _)⟩
  | j + 1, hj => simp at hj
theorem the_at {w : World} {g : Nat} {q : Option Addr} {c : Nat} {t : TypeId} {fr : Nat × Nat} (h : w.heap[g]? = some (.cells #[.string ⟨#[116]⟩, .bool false, .int .i64 0, .int .i64 1, .int .i64 0, .slice q 1 c] t fr)) (hs : SAt w q [setS]) : PrgAt w none none (some ⟨g, 0, none⟩) theP := by
  refine ⟨fun j x hj => by simp [theP] at hj, fun j x hj => by simp [theP] at hj, fun j x hj => ?_, ⟨by decide, by decide⟩, by decide, by decide, by decide⟩
  match j, hj with
  | 0, hj =>
    obtain rfl : theT = x := by simpa [theP] using hj
    exact ⟨⟨by unfold maxLen; decide, ⟨by decide, by decide⟩, ⟨by decide, by decide⟩, ⟨by decide, by decide⟩, by decide⟩, g, 0, q, c, rfl, lt_of_heap h, cell_of_heap h 0, cell_of_heap h 1, cell_of_heap h 2, cell_of_heap h 3, cell_of_heap h 4, cell_of_heap h 5, hs⟩
  | j + 1, hj => simp [theP] at hj
theorem no_at (w : World) : PrgAt w none none none noP :=
  ⟨fun j x hj => by simp [noP] at hj, fun j x hj => by simp [noP] at hj, fun j x hj => by simp [noP] at hj, ⟨by decide, by decide⟩, by decide, by decide, by decide⟩
abbrev theV (g : Nat) : Value := .agg #[.int .i64 1, .slice none 0 0, .slice none 0 0, .slice (some ⟨g, 0, none⟩) 1 1]
abbrev noV : Value := .agg #[.int .i64 0, .slice none 0 0, .slice none 0 0, .slice none 0 0]
abbrev mulV (g : Nat) : Value := .agg #[.int .i64 4, .int .i64 3, .int .i64 0, .string ⟨#[]⟩, .slice (some ⟨g, 0, none⟩) 2 2]
theorem print_1 {S : ByteArray} (hS : str [104, 97, 114, 116, 115, 32, 49, 10, 116, 97, 115, 107, 32, 116, 32, 48, 32, 49, 32, 123, 10, 9, 120, 32, 61, 32, 40, 49, 32, 43, 32, 49, 41, 32, 42, 32, 49, 59, 10, 125, 10] = S) (g : Nat) (w : World) (H : Hid (PrgAt w none none (some ⟨g, 0, none⟩) theP)) (hX : Texts w) (hP : PowAt w) :
    Calls Tryz.prog 8 #[theV g] w fun r w' => r = .returned (.tuple #[.string S, .int .i64 0]) ∧ Bel w w' :=
  Print_yes (p := theP) (q1 := none) (q2 := none) (q3 := some ⟨g, 0, none⟩) (c1 := 0) (c2 := 0) (c3 := 1) (by rw [text_the]; exact hS) right_the w H.out hX hP (by rw [text_the]; decide)
theorem exprA_1 {S : ByteArray} (hS : str [40, 49, 32, 43, 32, 49, 41, 32, 42, 32, 49] = S) (g : Nat) (w : World) (H : Hid (EAt w (some ⟨g, 0, none⟩) [sumE, oneE])) (hX : Texts w) (hP : PowAt w) :
    Calls Tryz.prog 18 #[mulV g] w fun r w' => r = .returned (.tuple #[.string S, .int .i64 0]) ∧ Bel w w' :=
  Expr_yes (k := 30) rfl (e := mulE) (q := some ⟨g, 0, none⟩) (c := 2) (by rw [exT_mul 27]; exact hS) body_mul w H.out wfE_mul hX hP
theorem right_1 (g : Nat) (w : World) (H : Hid (PrgAt w none none (some ⟨g, 0, none⟩) theP)) : Calls Tryz.prog 10 #[theV g] w fun r w' => r = .returned (.bool true) ∧ Bel w w' :=
  right_lit (p := theP) (q1 := none) (q2 := none) (q3 := some ⟨g, 0, none⟩) (c1 := 0) (c2 := 0) (c3 := 1) right_the w H
theorem right_0 (w : World) : Calls Tryz.prog 10 #[noV] w fun r w' => r = .returned (.bool false) ∧ Bel w w' :=
  right_lit (p := noP) (q1 := none) (q2 := none) (q3 := none) (c1 := 0) (c2 := 0) (c3 := 0) right_no w (Lib.hid (no_at w))
theorem size_1 (g : Nat) (w : World) (H : Hid (PrgAt w none none (some ⟨g, 0, none⟩) theP)) : Calls Tryz.prog 14 #[theV g] w fun r w' => r = .returned (.int .i64 6) ∧ Bel w w' :=
  size_any (p := theP) (q1 := none) (q2 := none) (q3 := some ⟨g, 0, none⟩) (c1 := 0) (c2 := 0) (c3 := 1) (by rw [size_the]; unfold wrap64; omega) w H.out
theorem same_1 (g : Nat) (w : World) (H : Hid (PrgAt w none none (some ⟨g, 0, none⟩) theP)) : Calls Tryz.prog 12 #[theV g, theV g] w fun r w' => r = .returned (.bool true) ∧ Bel w w' :=
  same_lit (e := theP) (f := theP) (p1 := none) (p2 := none) (p3 := some ⟨g, 0, none⟩) (q1 := none) (q2 := none) (q3 := some ⟨g, 0, none⟩) (c1 := 0) (c2 := 0) (c3 := 1) (d1 := 0) (d2 := 0) (d3 := 1) eqv_the w H.out H.out
theorem same_0 (g : Nat) (w : World) (H : Hid (PrgAt w none none (some ⟨g, 0, none⟩) theP)) : Calls Tryz.prog 12 #[theV g, noV] w fun r w' => r = .returned (.bool false) ∧ Bel w w' :=
  same_lit (e := theP) (f := noP) (p1 := none) (p2 := none) (p3 := some ⟨g, 0, none⟩) (q1 := none) (q2 := none) (q3 := none) (c1 := 0) (c2 := 0) (c3 := 1) (d1 := 0) (d2 := 0) (d3 := 0) eqv_none w H.out (no_at w)
end Go.Proofs.YthlnjnmomnpnpaaGreatDoor
