/- The pieces and blanks that a law's loop lays one behind the other. -/
import Derived.Test.YtgameoiofikhmaaDoorTOpen
import Derived.Deep.RegionHeld3
namespace Go.Proofs.YtgameoiofikhmaaDoor
open Go.RowKit Tk
set_option linter.unusedVariables false
def its (raw : List (Int × Int)) (L : List Int) (d : Nat) (k : Nat) : List Tk.Item := (List.range k).map fun i => itemOf (raw.getD i (0, 0)) (blankV L (i + d))
theorem its_succ (raw : List (Int × Int)) (L : List Int) (d k : Nat) : its raw L d (k + 1) = its raw L d k ++ [itemOf (raw.getD k (0, 0)) (blankV L (k + d))] := by
  unfold its
  rw [List.range_succ, List.map_append]
  rfl
theorem its_ok (raw : List (Int × Int)) (L : List Int) (d k : Nat) : ∀ x ∈ its raw L d k, x.ok := by
  intro x hx
  obtain ⟨i, _, rfl⟩ := List.mem_map.1 hx
  exact item_ok _ (blank_mem _ _)
theorem its_len (raw : List (Int × Int)) (L : List Int) (d k : Nat) : (its raw L d k).length = k := by
  unfold its
  simp
theorem getD_of {raw : List (Int × Int)} {k : Nat} {x : Int × Int} (h : raw[k]? = some x) : raw.getD k (0, 0) = x := by
  rw [List.getD_eq_getElem?_getD, h]
  rfl
theorem text_succ (raw : List (Int × Int)) (L : List Int) (d k : Nat) {x : Int × Int} (h : raw[k]? = some x) : textOf (its raw L d (k + 1)) = textOf (its raw L d k) ++ (pieceV x.1 x.2 ++ blankV L (k + d)) := by
  rw [its_succ, textOf_snoc, getD_of h]
  rfl
theorem text_le (raw : List (Int × Int)) (L : List Int) (d : Nat) : ∀ k : Nat, (textOf (its raw L d k)).length ≤ 20 * k := by
  intro k
  induction k with
  | zero => exact Nat.le_refl 0
  | succ k ih =>
    rw [its_succ, textOf_snoc, List.length_append, List.length_append]
    have h1 := piece_len (raw.getD k (0, 0)).1 (raw.getD k (0, 0)).2
    have h2 := (blanks_len _ (blank_mem L (k + d))).2
    show _ + ((pieceV (raw.getD k (0, 0)).1 (raw.getD k (0, 0)).2).length + (blankV L (k + d)).length) ≤ _
    omega
theorem feeds_succ (raw : List (Int × Int)) (L : List Int) (d k : Nat) {x : Int × Int} (h : raw[k]? = some x) : feeds (textOf (its raw L d (k + 1))) = feeds (textOf (its raw L d k)) + feeds (blankV L (k + d)) := by
  rw [text_succ raw L d k h, feeds_app, feeds_app, good_feeds (piece_good x.1 x.2)]
  omega
theorem toks_succ (raw : List (Int × Int)) (L : List Int) (d k n : Nat) {x : Int × Int} (h : raw[k]? = some x) : toksOf (its raw L d (k + 1)) n = toksOf (its raw L d k) n ++ [⟨kindOf x.1, pieceV x.1 x.2, numOf x.1 x.2, ((n + feeds (textOf (its raw L d k)) : Nat) : Int)⟩] := by
  rw [its_succ, toksOf_snoc _ _ (fun y hy => (its_ok raw L d k y hy).2.2), getD_of h]
  rfl
theorem toks_len : ∀ (l : List Tk.Item) (n : Nat), (toksOf l n).length = l.length := by
  intro l
  induction l with
  | nil => intro n; rfl
  | cons x l ih => intro n; rw [toksOf, List.length_cons, ih, List.length_cons]
theorem scan_its (raw : List (Int × Int)) (L : List Int) (d k n : Nat) : scan (textOf (its raw L d k)) n = .ok (toksOf (its raw L d k) n ++ [⟨5, [], 0, ((n + feeds (textOf (its raw L d k)) : Nat) : Int)⟩]) := by
  have := scan_items (its raw L d k) (its_ok raw L d k) [] n
  rw [List.append_nil, scan_nil] at this
  exact this
theorem kind_three (x : Int) : kindOf x = 3 ↔ pick x 4 = 2 := by
  unfold kindOf
  by_cases h0 : pick x 4 = 0
  · rw [if_pos h0]; constructor <;> intro h <;> omega
  · rw [if_neg h0]
    by_cases h1 : pick x 4 = 1
    · rw [if_pos h1]; constructor <;> intro h <;> omega
    · rw [if_neg h1]
      by_cases h2 : pick x 4 = 2
      · rw [if_pos h2]; exact ⟨fun _ => h2, fun _ => rfl⟩
      · rw [if_neg h2]; constructor <;> intro h <;> omega
theorem num_yes {x y : Int} (h : kindOf x = 3) : numOf x y = pick y 4294967296 := by
  unfold numOf
  rw [if_pos ((kind_three x).1 h)]
theorem num_no {x y : Int} (h : kindOf x ≠ 3) : numOf x y = 0 := by
  unfold numOf
  rw [if_neg (fun c => h ((kind_three x).2 c))]
theorem blank_two {L : List Int} {p : Option Addr} {c i n : Nat} {w : World} {t : ByteArray} (h : str (blankV L i) = t) (hn : L.length = n) (hQ : IntsQ w p L) (hL : n ≤ 9223372036854775807) (hi : i ≤ 1000) :
    Calls Tryd.prog 12 #[.slice p n c, .int .i64 (i : Int)] w fun e w' => e = .returned (.string t) ∧ Bel w w' := by
  subst hn
  exact blank_lit h hQ hL hi
theorem sum_ok {a b : Nat} (h : a + b ≤ 9223372036854775807) : a + b ≤ 9223372036854775807 := h
end Go.Proofs.YtgameoiofikhmaaDoor
