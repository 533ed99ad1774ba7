/- A region that draws its order, in a round or outside one: what is kept whichever operation that may come up comes. -/
import Derived.OrdersIn
import Derived.Test.YtbfmlbcjggplgaaGreatDoorIBase
namespace Go.Proofs.YtbfmlbcjggplgaaGreatDoor
open Go.RowKit
set_option linter.unusedVariables false
def unl (l : Array Bool) : Nat := l.toList.countP (· == false)
theorem unl_set {l : Array Bool} {i : Nat} (h : l[i]? = some false) : unl (l.setIfInBounds i true) + 1 = unl l := by
  obtain ⟨hi, hv⟩ := Array.getElem?_eq_some_iff.1 h
  have hi' : i < l.toList.length := by simpa using hi
  have hv' : l.toList[i] = false := by simpa using hv
  have hpos : 0 < l.toList.countP (· == false) := List.countP_pos_iff.2 ⟨false, by rw [← hv']; exact List.getElem_mem hi', rfl⟩
  unfold unl
  rw [Array.toList_setIfInBounds, List.countP_set hi', hv', if_pos (show (false == false) = true from rfl), if_neg (show ¬ (true == false) = true by decide)]
  omega
theorem unl_zero {l : Array Bool} (h : unl l = 0) {i : Nat} (hi : i < l.size) : l[i]? = some true := by
  unfold unl at h
  rw [List.countP_eq_zero] at h
  have hi' : i < l.toList.length := by simpa using hi
  have := h _ (List.getElem_mem hi')
  rw [Array.getElem?_eq_getElem hi]
  simp at this
  rw [this]
/-- each operation waits for earlier ones alone -/
def early (ops : Array Oper) : Bool := (List.range ops.size).all fun i => match ops[i]? with
  | some o => o.after.all fun e => decide (e.on < i) && Region.binds .any e
  | none => true
theorem early_spec {ops : Array Oper} (h : early ops = true) {i : Nat} {o : Oper} (ho : ops[i]? = some o) : ∀ e ∈ o.after, e.on < i ∧ Region.binds .any e = true := by
  have hi := (Array.getElem?_eq_some_iff.1 ho).1
  unfold early at h
  rw [List.all_eq_true] at h
  have := h i (List.mem_range.2 hi)
  rw [ho] at this
  simp only [Array.all_eq_true_iff_forall_mem, Bool.and_eq_true, decide_eq_true_eq] at this
  exact this
theorem ready_mem {ops : Array Oper} {l : Array Bool} (hl : l.size = ops.size) (he : early ops = true) {i : Nat} : i ∈ Region.ready .any ops l ↔ ∃ o, ops[i]? = some o ∧ l[i]? = some false ∧ ∀ e ∈ o.after, l[e.on]? = some true := by
  unfold Region.ready
  rw [List.mem_filter, List.mem_range]
  constructor
  · rintro ⟨hi, h⟩
    obtain ⟨o, ho⟩ : ∃ o, ops[i]? = some o := ⟨_, Array.getElem?_eq_getElem hi⟩
    rw [ho, Bool.and_eq_true] at h
    obtain ⟨h1, h2⟩ := h
    refine ⟨o, ho, ?_, fun e hm => ?_⟩
    · have hi' : i < l.size := by omega
      rw [Array.getElem?_eq_getElem hi']
      simp [hi'] at h1
      rw [h1]
    · simp only [Option.map_some, Option.getD_some, Array.all_eq_true_iff_forall_mem] at h2
      have h3 := h2 e hm
      rw [(early_spec he ho e hm).2] at h3
      have h4 : e.on < l.size := by have := (early_spec he ho e hm).1; omega
      rw [Array.getElem?_eq_getElem h4]
      simp [h4] at h3
      rw [h3]
  · rintro ⟨o, ho, h1, h2⟩
    have hi := (Array.getElem?_eq_some_iff.1 ho).1
    refine ⟨hi, ?_⟩
    rw [ho, Bool.and_eq_true]
    constructor
    · obtain ⟨h3, h4⟩ := Array.getElem?_eq_some_iff.1 h1
      simp [h3, h4]
    · simp only [Option.map_some, Option.getD_some, Array.all_eq_true_iff_forall_mem]
      intro e hm
      obtain ⟨h3, h4⟩ := Array.getElem?_eq_some_iff.1 (h2 e hm)
      simp [h3, h4]
theorem ready_nil {ops : Array Oper} {l : Array Bool} (hl : l.size = ops.size) (he : early ops = true) (h : Region.ready .any ops l = []) : ∀ i, i < ops.size → l[i]? = some true := by
  intro i
  induction i using Nat.strongRecOn with
  | ind i ih =>
    intro hi
    have hi' : i < l.size := by omega
    cases hv : l[i] with
    | true => rw [Array.getElem?_eq_getElem hi', hv]
    | false =>
      have ho : ops[i]? = some ops[i] := Array.getElem?_eq_getElem hi
      have : i ∈ Region.ready .any ops l := (ready_mem hl he).2 ⟨_, ho, by rw [Array.getElem?_eq_getElem hi', hv], fun e hm => by
        have := (early_spec he ho e hm).1
        exact ih e.on this (by omega)⟩
      rw [h] at this
      cases this
/-- what has come has all come that it waits for -/
def Closed (ops : Array Oper) (l : Array Bool) : Prop := ∀ (j : Nat) (o : Oper), ops[j]? = some o → l[j]? = some true → ∀ e ∈ o.after, l[e.on]? = some true
theorem set_ne {l : Array Bool} {i j : Nat} (h : i ≠ j) (b : Bool) : (l.setIfInBounds i b)[j]? = l[j]? := by rw [Array.getElem?_setIfInBounds, if_neg h]
theorem set_eq {l : Array Bool} {i : Nat} (h : l[i]? = some false) : (l.setIfInBounds i true)[i]? = some true := by
  have hi := (Array.getElem?_eq_some_iff.1 h).1
  rw [Array.getElem?_setIfInBounds, if_pos rfl, if_pos hi]
theorem set_true {l : Array Bool} {i j : Nat} (h : l[j]? = some true) : (l.setIfInBounds i true)[j]? = some true := by
  by_cases e : i = j
  · subst e
    have hi := (Array.getElem?_eq_some_iff.1 h).1
    rw [Array.getElem?_setIfInBounds, if_pos rfl, if_pos hi]
  · rw [set_ne e, h]
theorem not_yet {l : Array Bool} {j : Nat} (hj : j < l.size) (h : ¬ l[j]? = some true) : l[j]? = some false := by
  rw [Array.getElem?_eq_getElem hj] at h ⊢
  cases hv : l[j] with
  | true => rw [hv] at h; exact absurd rfl h
  | false => rfl
theorem Closed.set {ops : Array Oper} {l : Array Bool} (h : Closed ops l) {i : Nat} {o : Oper} (ho : ops[i]? = some o) (hd : ∀ e ∈ o.after, l[e.on]? = some true) : Closed ops (l.setIfInBounds i true) := by
  intro j o' hj hl e he
  by_cases c : i = j
  · subst c
    rw [ho] at hj
    obtain rfl := Option.some.inj hj
    exact set_true (hd e he)
  · rw [set_ne c] at hl
    exact set_true (h j o' hj hl e he)
section
variable {F : Fence} {n : Nat} {P : Program} {ops : Array Oper} {Q : Exit → Act → World → Prop}
theorem anyIn_inv (he : early ops = true) (I : Array Bool → Act → World → Prop)
    (hs : ∀ (l : Array Bool) (a : Act) (w : World) (i : Nat) (o : Oper), l.size = ops.size → Closed ops l → I l a w → ops[i]? = some o → l[i]? = some false → (∀ e ∈ o.after, l[e.on]? = some true) → ∀ K : Act → World → Prop, (∀ a w, I (l.setIfInBounds i true) a w → K a w) → Region.wanted o (yielded ops a.tmps) = true ∧ Oper.wpIn F n P o a w K Q)
    (hend : ∀ (l : Array Bool) (a : Act) (w : World), (∀ i, i < ops.size → l[i]? = some true) → I l a w → Q .normal a w) :
    ∀ (fuel : Nat) (l : Array Bool) (a : Act) (w : World), l.size = ops.size → Closed ops l → unl l ≤ fuel → I l a w → wpAnyIn F n P .any ops Q fuel l a w := by
  intro fuel
  induction fuel with
  | zero =>
    intro l a w hl hcl hu hI
    have hall : ∀ i, i < ops.size → l[i]? = some true := fun i hi => unl_zero (by omega) (by omega)
    refine ⟨?_, hend l a w hall hI⟩
    rw [List.eq_nil_iff_forall_not_mem]
    intro i hi
    obtain ⟨o, ho, h1, _⟩ := (ready_mem hl he).1 hi
    rw [hall i (Array.getElem?_eq_some_iff.1 ho).1] at h1
    cases h1
  | succ fuel ih =>
    intro l a w hl hcl hu hI
    refine ⟨fun h0 => hend l a w (ready_nil hl he h0) hI, fun i hi => ?_⟩
    obtain ⟨o, ho, h1, h2⟩ := (ready_mem hl he).1 hi
    refine wpOpIn_step ho fun K' hK' => ?_
    obtain ⟨g1, g2⟩ := hs l a w i o hl hcl hI ho h1 h2 K' fun a w h => hK' a w (ih _ _ _ (by simpa using hl) (hcl.set ho h2) (by have := unl_set h1; omega) h)
    rw [if_pos g1]
    exact g2
theorem region_inv {id : Nat} {a : Act} {w : World} (hm : P.follows .mixedOrders = true) (he : early ops = true) (I : Array Bool → Act → World → Prop)
    (hs : ∀ (l : Array Bool) (a : Act) (w : World) (i : Nat) (o : Oper), l.size = ops.size → Closed ops l → I l a w → ops[i]? = some o → l[i]? = some false → (∀ e ∈ o.after, l[e.on]? = some true) → ∀ K : Act → World → Prop, (∀ a w, I (l.setIfInBounds i true) a w → K a w) → Region.wanted o (yielded ops a.tmps) = true ∧ Oper.wpIn F n P o a w K Q)
    (hend : ∀ (l : Array Bool) (a : Act) (w : World), (∀ i, i < ops.size → l[i]? = some true) → I l a w → Q .normal a w)
    (h0 : I (Array.replicate ops.size false) a w.drew) : (Code.region id ops true).wpIn F n P Q a w :=
  wpIn_region_any hm (anyIn_inv he I hs hend _ _ _ _ (by simp) (fun j o hj hl => by simp [Array.getElem?_replicate] at hl) (by unfold unl; rw [Array.toList_replicate]; exact Nat.le_trans List.countP_le_length (by simp)) h0)
end
end Go.Proofs.YtbfmlbcjggplgaaGreatDoor
