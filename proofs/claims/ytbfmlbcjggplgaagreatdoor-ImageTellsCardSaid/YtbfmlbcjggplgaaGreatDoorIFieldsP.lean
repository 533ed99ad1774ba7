/- The words of a text, one after the other; in plain words. -/
import Derived.Test.YtbfmlbcjggplgaaGreatDoorISplitP
namespace Go.Proofs.YtbfmlbcjggplgaaGreatDoor.Im
set_option linter.unusedVariables false
def curV (L : Bs) : Option Nat → Nat → Bs
  | none, _ => []
  | some k, i => (L.drop k).take (i - k)
/-- what has come of the words of a text of one-byte runes when its first i bytes have been looked at; st: where the word begins that has been begun -/
def FOk (L : Bs) (pre : List Bs) (st : Option Nat) (i : Nat) : Prop := asc L → fieldsG [] L = pre ++ fieldsG (curV L st i) (L.drop i)
theorem drop_get {L : Bs} {i : Nat} {c : UInt8} (h : L[i]? = some c) : L.drop i = c :: L.drop (i + 1) := by
  obtain ⟨hi, hc⟩ := List.getElem?_eq_some_iff.1 h
  rw [List.drop_eq_getElem_cons hi, hc]
theorem FOk.start (L : Bs) : FOk L [] none 0 := fun _ => rfl
theorem FOk.skip {L : Bs} {pre : List Bs} {i : Nat} {c : UInt8} (h : FOk L pre none i) (hc : L[i]? = some c) (hs : isSp c = true) : FOk L pre none (i + 1) := fun ha => by
  rw [h ha, drop_get hc]
  show pre ++ fieldsG [] (c :: _) = _
  rw [fieldsG, if_pos hs, if_pos rfl]
  rfl
theorem FOk.begin {L : Bs} {pre : List Bs} {i : Nat} {c : UInt8} (h : FOk L pre none i) (hc : L[i]? = some c) (hs : isSp c = false) : FOk L pre (some i) (i + 1) := fun ha => by
  rw [h ha, drop_get hc]
  show pre ++ fieldsG [] (c :: _) = _
  rw [fieldsG, if_neg (by rw [hs]; exact Bool.false_ne_true)]
  show _ = pre ++ fieldsG ((L.drop i).take (i + 1 - i)) _
  rw [drop_get hc, Nat.add_sub_cancel_left]
  rfl
theorem FOk.more {L : Bs} {pre : List Bs} {i k : Nat} {c : UInt8} (h : FOk L pre (some k) i) (hk : k ≤ i) (hc : L[i]? = some c) (hs : isSp c = false) : FOk L pre (some k) (i + 1) := fun ha => by
  rw [h ha, drop_get hc]
  show pre ++ fieldsG ((L.drop k).take (i - k)) (c :: _) = pre ++ fieldsG ((L.drop k).take (i + 1 - k)) _
  rw [fieldsG, if_neg (by rw [hs]; exact Bool.false_ne_true)]
  have : (L.drop k).take (i + 1 - k) = (L.drop k).take (i - k) ++ [c] := by
    rw [show i + 1 - k = (i - k) + 1 by omega, List.take_add_one, List.getElem?_drop, show k + (i - k) = i by omega, hc]
    rfl
  rw [this]
theorem cur_ne {L : Bs} {i k : Nat} (hk : k < i) (hi : i ≤ L.length) : (L.drop k).take (i - k) ≠ [] := by
  intro c
  have := congrArg List.length c
  simp at this
  omega
theorem FOk.word {L : Bs} {pre : List Bs} {i k : Nat} {c : UInt8} (h : FOk L pre (some k) i) (hk : k < i) (hc : L[i]? = some c) (hs : isSp c = true) : FOk L (pre ++ [(L.drop k).take (i - k)]) none (i + 1) := fun ha => by
  rw [h ha, drop_get hc]
  show pre ++ fieldsG ((L.drop k).take (i - k)) (c :: _) = _
  rw [fieldsG, if_pos hs, if_neg (cur_ne hk (Nat.le_of_lt (List.getElem?_eq_some_iff.1 hc).1))]
  show _ = (pre ++ [_]) ++ fieldsG [] _
  simp
theorem FOk.wild {L : Bs} {i : Nat} {c : UInt8} (hc : L[i]? = some c) (h : 128 ≤ c.toNat) (pre : List Bs) (st : Option Nat) (j : Nat) : FOk L pre st j := fun ha => by
  have := ha c (List.mem_of_getElem? hc)
  omega
theorem FOk.none_end {L : Bs} {pre : List Bs} (h : FOk L pre none L.length) (ha : asc L) : fieldsG [] L = pre := by
  rw [h ha, List.drop_length]
  show pre ++ fieldsG [] [] = pre
  rw [fieldsG, if_pos rfl, List.append_nil]
theorem FOk.some_end {L : Bs} {pre : List Bs} {k : Nat} (h : FOk L pre (some k) L.length) (hk : k < L.length) (ha : asc L) : fieldsG [] L = pre ++ [(L.drop k).take (L.length - k)] := by
  rw [h ha, List.drop_length]
  show pre ++ fieldsG ((L.drop k).take (L.length - k)) [] = _
  rw [fieldsG, if_neg (cur_ne hk (Nat.le_refl _))]
end Go.Proofs.YtbfmlbcjggplgaaGreatDoor.Im
