/- What LabelWrong says, in plain words. -/
import Derived.Test.YtjjbfeoidceiiaaLShortW
import Derived.Test.YtjjbfeoidceiiaaLUp
namespace Go.Proofs.Ytjjbfeoidceiiaa
open Go.RowKit Rv Lb
set_option linter.unusedVariables false
theorem lay_bad {L : List Itm} (h : FitOk L) {k : Nat} (hk : k ≤ L.length) {x : Itm} (hx : rightX x = false) : layE (ins1 L k x) = 1 := by
  have h2 := h.most
  have hl := ins1_len x hk
  have h3 : (ins1 L k x).all rightX = false := not_all (ins1_at x hk) hx
  unfold layE
  rw [if_neg (by omega), if_pos h3]
theorem find_bad {l : List Itm} (h : layE l ≠ 0) (s : ByteArray) : findV l s = -1 := by
  unfold findV
  rw [if_neg h]
theorem all_ins1 {L : List Itm} (h : FitOk L) {k : Nat} {x : Itm} (hx : rightX x = true) : (ins1 L k x).all rightX = true := List.all_eq_true.2 fun y hy => by
  rcases ins1_mem.1 hy with rfl | hy
  · exact hx
  · exact (h.right y hy).1
theorem lay_lost {L : List Itm} (h : FitOk L) {k : Nat} (hk : k ≤ L.length) {x : Itm} (hx : rightX x = true) (h3 : x.kind = 3) (hn : x.name ∉ endName :: names8) : layE (ins1 L k x) = 30 := by
  have h2 := h.most
  have hl := ins1_len x hk
  have hlost : lostAt (ins1 L k x) k = true := by
    unfold lostAt
    rw [ins1_at x hk]
    have hnone : Lb.named (ins1 L k x) x.name = none := by
      cases e : Lb.named (ins1 L k x) x.name with
      | none => rfl
      | some q =>
        obtain ⟨j, y, hy, h2', hn'⟩ := named_some.1 (show (Lb.named (ins1 L k x) x.name).isSome = true by rw [e]; rfl)
        rcases ins1_mem.1 (List.mem_of_getElem? hy) with rfl | hy
        · omega
        · have := h.lab y hy (Or.inl h2')
          rw [hn'] at this
          exact absurd this hn
    simp [h3, hnone]
  have hok : okT (ins1 L k x) = false := okT_no (by omega) (Or.inr hlost)
  unfold layE
  rw [if_neg (by omega), if_neg (by rw [all_ins1 h hx]; simp), if_pos hok]
theorem lay_twice {L : List Itm} (h : FitOk L) {k : Nat} (hk : k ≤ L.length) {x : Itm} (hx : rightX x = true) (h3 : x.kind = 2) : layE (ins1 L k x ++ [x]) = 30 := by
  have h2 := h.most
  have hl := ins1_len x hk
  have hend : (ins1 L k x ++ [x])[(ins1 L k x).length]? = some x := by rw [List.getElem?_append_right (Nat.le_refl _), Nat.sub_self]; rfl
  have hat : (ins1 L k x ++ [x])[k]? = some x := by rw [List.getElem?_append_left (by omega)]; exact ins1_at x hk
  have hdup : dupAt (ins1 L k x ++ [x]) (ins1 L k x).length = true := by
    unfold dupAt
    rw [hend]
    simp only [h3, decide_true, Bool.true_and]
    exact namedTo_some.2 ⟨k, x, by omega, hat, h3, rfl⟩
  have hlen : (ins1 L k x ++ [x]).length = L.length + 2 := by rw [List.length_append, hl]; rfl
  have hok : okT (ins1 L k x ++ [x]) = false := okT_no (by omega) (Or.inl hdup)
  have hall : (ins1 L k x ++ [x]).all rightX = true := by
    rw [List.all_append, all_ins1 h hx]
    simp [hx]
  unfold layE
  rw [if_neg (by omega), if_neg (by rw [hall]; simp), if_pos hok]
def badX : List Itm := [⟨0, ⟨0, 0, 0, 0, 0⟩, ⟨#[]⟩, 0⟩, ⟨1, ⟨22, 32, 0, 0, 0⟩, ⟨#[]⟩, 0⟩, ⟨2, ⟨0, 0, 0, 0, 0⟩, ⟨#[97, 32, 98]⟩, 0⟩, ⟨5, ⟨0, 0, 0, 0, 0⟩, ⟨#[]⟩, -1⟩, ⟨4, ⟨0, 0, 0, 0, 0⟩, ⟨#[]⟩, 4⟩, ⟨3, ⟨5, 0, 0, 0, 8⟩, ⟨#[97]⟩, 0⟩]
theorem badX_wrong : ∀ x ∈ badX, rightX x = false := by decide +kernel
def lostX : Itm := ⟨3, ⟨6, 0, 0, 0, 0⟩, ⟨#[110, 111, 119, 104, 101, 114, 101]⟩, 0⟩
theorem lostX_right : rightX lostX = true := by decide +kernel
theorem lostX_ne : ∀ s ∈ endName :: names8, s ≠ lostX.name := by decide +kernel
def mainX : Itm := ⟨2, ⟨0, 0, 0, 0, 0⟩, ⟨#[109, 97, 105, 110]⟩, 0⟩
theorem mainX_right : rightX mainX = true := by decide +kernel
theorem lay_lostX {L : List Itm} (h : FitOk L) {k : Nat} (hk : k ≤ L.length) : layE (ins1 L k lostX) = 30 := lay_lost h hk lostX_right rfl (fun c => lostX_ne _ c rfl)
theorem lay_mainX {L : List Itm} (h : FitOk L) {k : Nat} (hk : k ≤ L.length) : layE (ins1 L k mainX ++ [mainX]) = 30 := lay_twice h hk mainX_right rfl
end Go.Proofs.Ytjjbfeoidceiiaa
