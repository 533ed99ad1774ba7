/- Lists that hold another list's items among items to which nothing leads: what is long stays long. In plain words. -/
import Derived.Test.YtjjbfeoidceiiaaLPlain
namespace Go.Proofs.Ytjjbfeoidceiiaa.Lb
open Rv
set_option linter.unusedVariables false
open Classical in
/-- the branches of m are those of l, moved by up, and reach alike: the least sets are alike -/
theorem fin_up {l m : List Itm} (up : Nat → Nat) (inj : ∀ i j, up i = up j → i = j) (h1 : ∀ j, brAt l j = true → brAt m (up j) = true) (h2 : ∀ j', brAt m j' = true → ∃ j, j' = up j ∧ brAt l j = true)
    (h3 : ∀ (g : Nat → Bool) (j : Nat), brAt l j = true → (reach m g (up j) ↔ reach l (fun i => g (up i)) j)) (j : Nat) : fin m (up j) = fin l j := by
  have hg : ∀ i, (decide (∃ q, up i = up q ∧ fin l q = true) : Bool) = fin l i := fun i => by
    cases hi : fin l i with
    | true => exact decide_eq_true ⟨i, rfl, hi⟩
    | false =>
      refine decide_eq_false (fun ⟨q, hq, hf⟩ => ?_)
      obtain rfl := inj _ _ hq
      rw [hi] at hf
      cases hf
  have c1 : closed m (fun j' => decide (∃ q, j' = up q ∧ fin l q = true)) := by
    intro j' hb hf
    obtain ⟨i, rfl, hbi⟩ := h2 j' hb
    refine (h3 _ i hbi).2 ?_
    have e : (fun i => decide (∃ q, up i = up q ∧ fin l q = true)) = fin l := funext hg
    rw [e]
    exact fin_closed l i hbi (by rw [← hg i]; exact hf)
  have c2 : closed l (fun i => fin m (up i)) := fun i hb hf => (h3 _ i hb).1 (fin_closed m _ (h1 i hb) hf)
  cases hj : fin l j with
  | true => exact fin_le c2 j hj
  | false =>
    cases hm : fin m (up j) with
    | false => rfl
    | true =>
      have h4 : decide (∃ q, up j = up q ∧ fin l q = true) = true := fin_le c1 _ hm
      rw [hg j, hj] at h4
      cases h4
/-- reach, where places and targets move alike -/
theorem reach_up {l m : List Itm} {up : Nat → Nat} {c : Nat} {g : Nat → Bool} {j : Nat} (hp : ∀ i, place m g (up i) = place l (fun q => g (up q)) i + c) (ht : to m (up j) = up (to l j)) : reach m g (up j) ↔ reach l (fun q => g (up q)) j := by
  unfold reach
  rw [ht, hp, hp]
  omega
/-- an item put in at k -/
def ins1 (l : List Itm) (k : Nat) (x : Itm) : List Itm := l.take k ++ x :: l.drop k
def up1 (k j : Nat) : Nat := if j < k then j else j + 1
theorem up1_inj (k : Nat) (i j : Nat) (h : up1 k i = up1 k j) : i = j := by
  unfold up1 at h
  split at h <;> split at h <;> omega
theorem ins1_len {l : List Itm} {k : Nat} (x : Itm) (hk : k ≤ l.length) : (ins1 l k x).length = l.length + 1 := by
  simp [ins1]
  omega
theorem ins1_at {l : List Itm} {k : Nat} (x : Itm) (hk : k ≤ l.length) : (ins1 l k x)[k]? = some x := by
  have h : (l.take k).length = k := by simp; omega
  unfold ins1
  rw [List.getElem?_append_right (by omega), h, Nat.sub_self]
  rfl
theorem ins1_up {l : List Itm} {k : Nat} (x : Itm) (hk : k ≤ l.length) (j : Nat) : (ins1 l k x)[up1 k j]? = l[j]? := by
  have h : (l.take k).length = k := by simp; omega
  unfold ins1 up1
  split
  · rw [List.getElem?_append_left (by omega), List.getElem?_take]
    simp [*]
  · rw [List.getElem?_append_right (by omega), h, show j + 1 - k = (j - k) + 1 by omega, List.getElem?_cons_succ, List.getElem?_drop]
    congr 1
    omega
theorem up1_or (k j' : Nat) : j' = k ∨ ∃ j, j' = up1 k j := by
  by_cases h : j' < k
  · exact Or.inr ⟨j', by simp [up1, h]⟩
  · by_cases e : j' = k
    · exact Or.inl e
    · exact Or.inr ⟨j' - 1, by unfold up1; rw [if_neg (by omega)]; omega⟩
theorem brAt_ins1 {l : List Itm} {k : Nat} (x : Itm) (hk : k ≤ l.length) (j : Nat) : brAt (ins1 l k x) (up1 k j) = brAt l j := by
  unfold brAt
  rw [ins1_up x hk]
theorem sz_ins1 {l : List Itm} {k : Nat} (x : Itm) (hk : k ≤ l.length) (g : Nat → Bool) (j : Nat) : sz (ins1 l k x) g (up1 k j) = sz l (fun q => g (up1 k q)) j := by
  unfold sz
  rw [ins1_up x hk]
/-- a label put in takes no place -/
theorem place_ins1 {l : List Itm} {k : Nat} {x : Itm} (hk : k ≤ l.length) (hx : x.kind = 2) (g : Nat → Bool) (j : Nat) : place (ins1 l k x) g (up1 k j) = place l (fun q => g (up1 k q)) j := by
  have h0 : sz (ins1 l k x) g k = 0 := by
    unfold sz
    rw [ins1_at x hk]
    have hb : isBr x = false := by unfold isBr; simp [hx]
    simp [hb, size1, hx]
  have low : ∀ j, j ≤ k → place (ins1 l k x) g j = place l (fun q => g (up1 k q)) j := by
    intro j
    induction j with
    | zero => intro _; rfl
    | succ j ih =>
      intro hj
      have h1 := sz_ins1 x hk g j
      rw [show up1 k j = j by unfold up1; rw [if_pos (by omega)]] at h1
      show place _ g j + sz _ g j = _ + _
      rw [ih (by omega), h1]
  have high : ∀ j, k ≤ j → place (ins1 l k x) g (j + 1) = place l (fun q => g (up1 k q)) j := by
    intro j
    induction j with
    | zero =>
      intro h
      obtain rfl : k = 0 := by omega
      show 0 + sz _ g 0 = 0
      rw [h0]
    | succ j ih =>
      intro hj
      by_cases e : k = j + 1
      · subst e
        show place _ g (j + 1) + sz _ g (j + 1) = _
        rw [h0, low (j + 1) (Nat.le_refl _)]
        rfl
      · have h1 := sz_ins1 x hk g j
        rw [show up1 k j = j + 1 by unfold up1; rw [if_neg (by omega)]] at h1
        show place _ g (j + 1) + sz _ g (j + 1) = _ + _
        rw [ih (by omega), h1]
  unfold up1
  split
  · exact low j (by omega)
  · exact high j (by omega)
theorem named_ins1 {l : List Itm} {k : Nat} {x : Itm} {s : ByteArray} (hk : k ≤ l.length) (hs : isNamed s x = false) : named (ins1 l k x) s = (named l s).map (up1 k) := by
  have h : (l.take k).length = k := by simp; omega
  have e : named l s = ((l.take k).findIdx? (isNamed s)).or (((l.drop k).findIdx? (isNamed s)).map fun q => q + k) := by
    unfold named
    have e0 : l.findIdx? (isNamed s) = (l.take k ++ l.drop k).findIdx? (isNamed s) := by rw [List.take_append_drop]
    rw [e0, List.findIdx?_append, h]
  rw [e]
  unfold named ins1
  rw [List.findIdx?_append, h, List.findIdx?_cons, hs]
  cases ht : (l.take k).findIdx? (isNamed s) with
  | some i =>
    have hi : i < k := by
      have := (List.findIdx?_eq_some_iff_getElem.1 ht).1
      omega
    simp [up1, hi]
  | none =>
    cases hd : (l.drop k).findIdx? (isNamed s) with
    | none => simp
    | some q =>
      simp [up1]
      split <;> omega
/-- a new label is found where it stands -/
theorem named_new {l : List Itm} {k : Nat} {x : Itm} {s : ByteArray} (hk : k ≤ l.length) (hs : isNamed s x = true) (hn : named l s = none) : named (ins1 l k x) s = some k := by
  have h : (l.take k).length = k := by simp; omega
  have h1 : (l.take k).findIdx? (isNamed s) = none := by
    unfold named at hn
    rw [List.findIdx?_eq_none_iff] at hn ⊢
    exact fun y hy => hn y (List.mem_of_mem_take hy)
  unfold named ins1
  rw [List.findIdx?_append, h1, h, List.findIdx?_cons, hs]
  simp
theorem to_ins1 {l : List Itm} {k j q : Nat} {x y : Itm} (hk : k ≤ l.length) (hy : l[j]? = some y) (h3 : y.kind = 3) (hq : named l y.name = some q) (hs : isNamed y.name x = false) : to (ins1 l k x) (up1 k j) = up1 k (to l j) := by
  unfold to
  rw [ins1_up x hk, hy]
  simp only [h3, if_true]
  rw [named_ins1 hk hs, hq]
  rfl
/-- a label to which nothing leads, put in anywhere: what is long stays long -/
theorem fin_ins1 {l : List Itm} {k : Nat} {x : Itm} (hk : k ≤ l.length) (hx : x.kind = 2) (hto : ∀ (j : Nat) (y : Itm), l[j]? = some y → y.kind = 3 → (∃ q, named l y.name = some q) ∧ isNamed y.name x = false) (j : Nat) : fin (ins1 l k x) (up1 k j) = fin l j := by
  refine fin_up (up1 k) (up1_inj k) (fun i hb => by rw [brAt_ins1 x hk]; exact hb) (fun j' hb => ?_) (fun g i hb => ?_) j
  · rcases up1_or k j' with rfl | ⟨i, rfl⟩
    · unfold brAt at hb
      rw [ins1_at x hk] at hb
      unfold isBr at hb
      simp [hx] at hb
    · exact ⟨i, rfl, by rw [brAt_ins1 x hk] at hb; exact hb⟩
  · have hb' := hb
    unfold brAt at hb'
    cases hy : l[i]? with
    | none => rw [hy] at hb'; cases hb'
    | some y =>
      rw [hy] at hb'
      unfold isBr at hb'
      simp only [Bool.and_eq_true, decide_eq_true_eq] at hb'
      obtain ⟨⟨q, hq⟩, hs⟩ := hto i y hy hb'.1
      exact reach_up (c := 0) (fun a => place_ins1 hk hx g a) (to_ins1 hk hy hb'.1 hq hs)
/-- what lies in a list with an item put in -/
theorem ins1_mem {l : List Itm} {k : Nat} {x y : Itm} : y ∈ ins1 l k x ↔ y = x ∨ y ∈ l := by
  unfold ins1
  rw [List.mem_append, List.mem_cons]
  constructor
  · rintro (h | h | h)
    · exact Or.inr (List.mem_of_mem_take h)
    · exact Or.inl h
    · exact Or.inr (List.mem_of_mem_drop h)
  · rintro (h | h)
    · exact Or.inr (Or.inl h)
    · rw [← List.take_append_drop k l, List.mem_append] at h
      rcases h with h | h
      · exact Or.inl h
      · exact Or.inr (Or.inr h)
end Go.Proofs.Ytjjbfeoidceiiaa.Lb
