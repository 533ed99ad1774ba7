/- A region that draws its order: what is kept whichever operation that may come up comes. -/
import Derived.RegionTactic
import Derived.Test.YtojdpeokceebhaaGreatDoorIInv
import Derived.Test.YtojdpeokceebhaaGreatDoorIFitS
namespace Go.Proofs.YtojdpeokceebhaaGreatDoor
open Go.RowKit Im
set_option linter.unusedVariables false
section
variable {P : Program} {ops : Array Oper} {Q : Exit → Act → World → Prop}
theorem any_inv (he : early ops = true) (I : Array Bool → Act → World → Prop)
    (hs : ∀ (l : Array Bool) (a : Act) (w : World) (i : Nat) (o : Oper), l.size = ops.size → Closed ops l → I l a w → ops[i]? = some o → l[i]? = some false → (∀ e ∈ o.after, l[e.on]? = some true) → ∀ K : Act → World → Prop, (∀ a w, I (l.setIfInBounds i true) a w → K a w) → Region.wanted o (yielded ops a.tmps) = true ∧ Oper.wp P o a w K Q)
    (hend : ∀ (l : Array Bool) (a : Act) (w : World), (∀ i, i < ops.size → l[i]? = some true) → I l a w → Q .normal a w) :
    ∀ (fuel : Nat) (l : Array Bool) (a : Act) (w : World), l.size = ops.size → Closed ops l → unl l ≤ fuel → I l a w → wpAny P .any ops Q fuel l a w := by
  intro fuel
  induction fuel with
  | zero =>
    intro l a w hl hcl hu hI
    have hall : ∀ i, i < ops.size → l[i]? = some true := fun i hi => unl_zero (by omega) (by omega)
    refine ⟨?_, hend l a w hall hI⟩
    rw [List.eq_nil_iff_forall_not_mem]
    intro i hi
    obtain ⟨o, ho, h1, _⟩ := (ready_mem hl he).1 hi
    rw [hall i (Array.getElem?_eq_some_iff.1 ho).1] at h1
    cases h1
  | succ fuel ih =>
    intro l a w hl hcl hu hI
    refine ⟨fun h0 => hend l a w (ready_nil hl he h0) hI, fun i hi => ?_⟩
    obtain ⟨o, ho, h1, h2⟩ := (ready_mem hl he).1 hi
    refine wpOp_step ho fun K' hK' => ?_
    obtain ⟨g1, g2⟩ := hs l a w i o hl hcl hI ho h1 h2 K' fun a w h => hK' a w (ih _ _ _ (by simpa using hl) (hcl.set ho h2) (by have := unl_set h1; omega) h)
    rw [if_pos g1]
    exact g2
theorem region_invW {id : Nat} {a : Act} {w : World} (hm : P.follows .mixedOrders = true) (he : early ops = true) (I : Array Bool → Act → World → Prop)
    (hs : ∀ (l : Array Bool) (a : Act) (w : World) (i : Nat) (o : Oper), l.size = ops.size → Closed ops l → I l a w → ops[i]? = some o → l[i]? = some false → (∀ e ∈ o.after, l[e.on]? = some true) → ∀ K : Act → World → Prop, (∀ a w, I (l.setIfInBounds i true) a w → K a w) → Region.wanted o (yielded ops a.tmps) = true ∧ Oper.wp P o a w K Q)
    (hend : ∀ (l : Array Bool) (a : Act) (w : World), (∀ i, i < ops.size → l[i]? = some true) → I l a w → Q .normal a w)
    (h0 : I (Array.replicate ops.size false) a w.drew) : (Code.region id ops true).wp P Q a w :=
  wp_region_any hm (any_inv he I hs hend _ _ _ _ (by simp) (fun j o hj hl => by simp [Array.getElem?_replicate] at hl) (by unfold unl; rw [Array.toList_replicate]; exact Nat.le_trans List.countP_le_length (by simp)) h0)
end
theorem flat_inv {α : Type} {enc : α → List Value} {k : Nat} (hk : ∀ x, (enc x).length = k) (hk0 : 0 < k) {l : List α} {j : Nat} {u : Value} (h : (l.flatMap enc)[j]? = some u) : ∃ x, l[j / k]? = some x ∧ (enc x)[j % k]? = some u := by
  have hj := (List.getElem?_eq_some_iff.1 h).1
  rw [flat_len hk] at hj
  have hq : j / k < l.length := by rw [Nat.div_lt_iff_lt_mul hk0]; exact hj
  have hi : j % k < k := Nat.mod_lt _ hk0
  refine ⟨l[j / k], List.getElem?_eq_getElem hq, ?_⟩
  have hv : (enc l[j / k])[j % k]? = some ((enc l[j / k])[j % k]'(by rw [hk]; exact hi)) := List.getElem?_eq_getElem _
  have := flat_get hk (List.getElem?_eq_getElem hq) hv
  rw [Nat.div_add_mod' j k, h] at this
  rw [hv, ← this]
/-- append(nil, row...) : a row of the call's own with the same elements -/
theorem clone_row {α : Type} {enc : α → List Value} {P : Program} {t e : TypeId} {i : TypeInfo} {z : Value} {k bytes : Nat} (ht : P.underlying t = some (.slice e)) (hi : P.info? e = some i) (hz : i.zero = some z) (hsize : i.size = k) (hby : i.bytes = bytes)
    (hzs : z.cells.size = k) (hk0 : 0 < k) (hk : ∀ x, (enc x).length = k) (h1 : ∀ x, ∀ u ∈ enc x, u.oneCell' = true) (hb : bytes ≤ 24) {w : World} {a : Addr} {c : Nat} {l : List α} (h : EncAt enc k w (some a) l) (hl : l.length ≤ 1000000) {base : Nat} (hbase : base ≤ w.heap.size) :
    ∃ v' w', (Builtin.append_ #[t, t] t #[.slice none 0 0, .slice (some a) l.length c]).run P w = .ok v' w' ∧ ERow enc e k w' base v' l ∧ Bel w w' := by
  obtain ⟨v', w', hrun, hown, hg, _⟩ := run_append_own (P := P) w base t t e i z k bytes ht hi hz hsize hby hzs hk0 (.slice none 0 0) 0 [] (World.ownsRow_nil _ _ _ _) a l.length c (l.flatMap enc) (flat_len hk l)
    (fun j u hj => by
      obtain ⟨x, h2, h3⟩ := flat_inv hk hk0 hj
      obtain ⟨b, o, h4, _, h6⟩ := h _ _ h2
      injection h4 with h4
      subst h4
      rw [Addr.add_lit]
      have := h6 _ _ h3
      rw [show o + j / k * k + j % k = o + j by have := Nat.div_add_mod' j k; omega] at this
      exact this)
    (fun u hu => by
      obtain ⟨x, _, hx⟩ := List.mem_flatMap.1 hu
      exact h1 x u hx) (by unfold maxLen; omega) (Nat.le_trans (Nat.mul_le_mul (show 0 + l.length ≤ 1000000 by omega) hb) (by decide)) hbase
  refine ⟨v', w', hrun, ?_, ⟨hg.os, hg.tape, hg.output, hg.size, fun j hj => hg.block j hj (by simp [Value.ownBlock])⟩⟩
  simpa using hown
end Go.Proofs.YtojdpeokceebhaaGreatDoor
