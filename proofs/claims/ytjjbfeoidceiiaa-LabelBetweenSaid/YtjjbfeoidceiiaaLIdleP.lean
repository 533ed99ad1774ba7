/- What LabelIdle says, in plain words. -/
import Derived.Test.YtjjbfeoidceiiaaLShortW
import Derived.Test.YtjjbfeoidceiiaaLUp
namespace Go.Proofs.Ytjjbfeoidceiiaa
open Go.RowKit Rv Lb
set_option linter.unusedVariables false
def idleName : ByteArray := ⟨#[105, 100, 108, 101, 33]⟩
theorem idle_ne : ∀ s ∈ endName :: names8, s ≠ idleName := by decide +kernel
theorem idle_not : idleName ∉ endName :: names8 := fun h => idle_ne _ h rfl
theorem idle_lab : isLab idleName = true := by decide +kernel
def idleX : Itm := ⟨2, ⟨0, 0, 0, 0, 0⟩, idleName, 0⟩
theorem idle_right : rightX idleX = true ∧ Itm.wf idleX := by
  refine ⟨by decide +kernel, ⟨zin (by simp [idleX]) (by simp [idleX]), ⟨zin (by simp [idleX]) (by simp [idleX]), zin (by simp [idleX]) (by simp [idleX]), zin (by simp [idleX]) (by simp [idleX]), zin (by simp [idleX]) (by simp [idleX]), zin (by simp [idleX]) (by simp [idleX])⟩, by unfold maxLen; decide +kernel, zin (by simp [idleX]) (by simp [idleX])⟩⟩
theorem idle_of {L : List Itm} (h : FitOk L) {y : Itm} (hy : y ∈ L) (hk : y.kind = 2 ∨ y.kind = 3) : isNamed y.name idleX = false := by
  have h1 := h.lab y hy hk
  cases e : isNamed y.name idleX with
  | false => rfl
  | true =>
    have := (isNamed_iff.1 e).2
    rw [← this] at h1
    exact absurd h1 idle_not
theorem idle_none {L : List Itm} (h : FitOk L) : Lb.named L idleName = none := by
  cases e : Lb.named L idleName with
  | none => rfl
  | some q =>
    obtain ⟨j, x, hx, h2, hn⟩ := named_some.1 (show (Lb.named L idleName).isSome = true by rw [e]; rfl)
    have := h.lab x (List.mem_of_getElem? hx) (Or.inl h2)
    rw [hn] at this
    exact absurd this idle_not
theorem idle_to {L : List Itm} (h : FitOk L) (j : Nat) (y : Itm) (hy : L[j]? = some y) (h3 : y.kind = 3) : (∃ q, Lb.named L y.name = some q) ∧ isNamed y.name idleX = false := by
  obtain ⟨q, hq, _⟩ := h.named hy h3
  exact ⟨⟨q, hq⟩, idle_of h (List.mem_of_getElem? hy) (Or.inr h3)⟩
theorem idle_fin {L : List Itm} (h : FitOk L) {k : Nat} (hk : k ≤ L.length) : (fun j => Lb.fin (ins1 L k idleX) (up1 k j)) = Lb.fin L := funext fun j => fin_ins1 hk rfl (idle_to h) j
theorem idle_place {L : List Itm} (h : FitOk L) {k : Nat} (hk : k ≤ L.length) (j : Nat) : place (ins1 L k idleX) (Lb.fin (ins1 L k idleX)) (up1 k j) = place L (Lb.fin L) j := by
  rw [place_ins1 hk rfl, idle_fin h hk]
theorem FitOk.nodup {L : List Itm} (h : FitOk L) {j : Nat} (hj : j < L.length) : dupAt L j = false := by
  have hok := h.ok
  unfold okT at hok
  rw [List.all_eq_true] at hok
  have := hok j (List.mem_range.2 hj)
  simp only [Bool.and_eq_true, Bool.not_eq_true'] at this
  exact this.1
theorem idle_okT {L : List Itm} (h : FitOk L) {k : Nat} (hk : k ≤ L.length) : okT (ins1 L k idleX) = true := by
  refine okT_yes (fun j' _ => ?_) (fun j' _ => ?_)
  · cases hd : dupAt (ins1 L k idleX) j' with
    | false => rfl
    | true =>
      unfold dupAt at hd
      rcases up1_or k j' with rfl | ⟨j, rfl⟩
      · rw [ins1_at idleX hk] at hd
        simp only [Bool.and_eq_true] at hd
        obtain ⟨i, x, hi, hx, h2, hn⟩ := namedTo_some.1 hd.2
        have hi' : up1 j' i = i := by simp [up1, hi]
        have hx' := ins1_up idleX hk i
        rw [hi', hx] at hx'
        have := h.lab x (List.mem_of_getElem? hx'.symm) (Or.inl h2)
        rw [hn] at this
        exact absurd this idle_not
      · rw [ins1_up idleX hk] at hd
        cases hy : L[j]? with
        | none => rw [hy] at hd; cases hd
        | some y =>
          rw [hy] at hd
          simp only [Bool.and_eq_true, decide_eq_true_eq] at hd
          obtain ⟨i, x, hi, hx, h2, hn⟩ := namedTo_some.1 hd.2
          rcases up1_or k i with rfl | ⟨i0, rfl⟩
          · rw [ins1_at idleX hk] at hx
            obtain rfl := Option.some.inj hx
            have h4 := idle_of h (List.mem_of_getElem? hy) (Or.inl hd.1)
            rw [isNamed_iff.2 ⟨rfl, hn⟩] at h4
            cases h4
          · rw [ins1_up idleX hk] at hx
            have hj := (List.getElem?_eq_some_iff.1 hy).1
            have h5 := h.nodup hj
            unfold dupAt at h5
            rw [hy] at h5
            have h6 : (namedTo L j y.name).isSome = true := namedTo_some.2 ⟨i0, x, by unfold up1 at hi; split at hi <;> split at hi <;> omega, hx, h2, hn⟩
            simp only [h6, hd.1, decide_true, Bool.and_self] at h5
            cases h5
  · unfold lostAt
    rcases up1_or k j' with rfl | ⟨j, rfl⟩
    · rw [ins1_at idleX hk]
      simp [idleX]
    · rw [ins1_up idleX hk]
      cases hy : L[j]? with
      | none => rfl
      | some y =>
        simp only
        by_cases h3 : y.kind = 3
        · obtain ⟨⟨q, hq⟩, hs⟩ := idle_to h j y hy h3
          rw [named_ins1 hk hs, hq]
          simp
        · simp [h3]
theorem idle_lay {L : List Itm} (h : FitOk L) {k : Nat} (hk : k ≤ L.length) : layE (ins1 L k idleX) = 0 := by
  have h1 := place_fit h.size (Lb.fin L) L.length
  have h2 := h.most
  have hl := ins1_len idleX hk
  have h3 : (ins1 L k idleX).all rightX = true := List.all_eq_true.2 fun x hx => by
    rcases ins1_mem.1 hx with rfl | hx
    · exact idle_right.1
    · exact (h.right x hx).1
  have h4 := idle_place h hk L.length
  rw [show up1 k L.length = L.length + 1 by unfold up1; rw [if_neg (by omega)], ← hl] at h4
  unfold layE
  rw [if_neg (by omega), if_neg (by rw [h3]; simp), if_neg (by rw [idle_okT h hk]; simp), if_neg (by omega)]
theorem idle_find {L : List Itm} (h : FitOk L) {k : Nat} (hk : k ≤ L.length) : findV (ins1 L k idleX) idleName = 4 * (place L (Lb.fin L) k : Int) ∧ findV L idleName = -1 := by
  constructor
  · unfold findV
    rw [if_pos (idle_lay h hk), named_new (s := idleName) hk (isNamed_iff.2 ⟨rfl, rfl⟩) (idle_none h)]
    simp only
    have h4 := idle_place h hk k
    have h0 : place (ins1 L k idleX) (Lb.fin (ins1 L k idleX)) (up1 k k) = place (ins1 L k idleX) (Lb.fin (ins1 L k idleX)) k + sz (ins1 L k idleX) (Lb.fin (ins1 L k idleX)) k := by
      rw [show up1 k k = k + 1 by unfold up1; rw [if_neg (by omega)]]
      rfl
    have h5 : sz (ins1 L k idleX) (Lb.fin (ins1 L k idleX)) k = 0 := by
      unfold sz
      rw [ins1_at idleX hk]
      simp [isBr, idleX, size1]
    rw [h0, h5] at h4
    rw [← h4]
    rfl
  · unfold findV
    rw [if_pos h.lay, idle_none h]
theorem idle_instr {L : List Itm} (h : FitOk L) {k : Nat} (hk : k ≤ L.length) {j : Nat} {y : Itm} (hy : L[j]? = some y) : instrL (ins1 L k idleX) (up1 k j) y = instrL L j y := by
  by_cases h3 : y.kind = 3
  · obtain ⟨⟨q, hq⟩, hs⟩ := idle_to h j y hy h3
    have ht := to_ins1 (x := idleX) hk hy h3 hq hs
    have hb : byOf (ins1 L k idleX) (up1 k j) = byOf L j := by
      unfold byOf
      rw [ht, idle_place h hk, idle_place h hk]
    have hz : sz (ins1 L k idleX) (Lb.fin (ins1 L k idleX)) (up1 k j) = sz L (Lb.fin L) j := by
      rw [sz_ins1 idleX hk, idle_fin h hk]
    unfold instrL leadL
    rw [hz, hb]
  · unfold instrL
    simp only [h3, if_false]
theorem idle_words {L : List Itm} (h : FitOk L) {k : Nat} (hk : k ≤ L.length) : wordsTo (ins1 L k idleX) (ins1 L k idleX).length = wordsTo L L.length := by
  have low : ∀ j, j ≤ k → wordsTo (ins1 L k idleX) j = wordsTo L j := by
    intro j
    induction j with
    | zero => intro _; rfl
    | succ j ih =>
      intro hj
      have hy : L[j]? = some (L[j]'(by omega)) := List.getElem?_eq_getElem _
      have hu : up1 k j = j := by unfold up1; rw [if_pos (by omega)]
      have hm := ins1_up idleX hk j
      have hi := idle_instr h hk hy
      rw [hu] at hm hi
      rw [wordsTo_succ (hm.trans hy), wordsTo_succ hy, ih (by omega), hi]
  have high : ∀ j, k ≤ j → j ≤ L.length → wordsTo (ins1 L k idleX) (j + 1) = wordsTo L j := by
    intro j
    induction j with
    | zero =>
      intro hkj _
      obtain rfl : k = 0 := by omega
      rw [wordsTo_succ (ins1_at idleX hk)]
      rfl
    | succ j ih =>
      intro hj hjl
      by_cases e : k = j + 1
      · subst e
        rw [wordsTo_succ (ins1_at idleX hk), low (j + 1) (Nat.le_refl _)]
        have : instrL (ins1 L (j + 1) idleX) (j + 1) idleX = [] := rfl
        rw [this]
        simp
      · have hy : L[j]? = some (L[j]'(by omega)) := List.getElem?_eq_getElem _
        have hu : up1 k j = j + 1 := by unfold up1; rw [if_neg (by omega)]
        have hm := ins1_up idleX hk j
        have hi := idle_instr h hk hy
        rw [hu] at hm hi
        rw [wordsTo_succ (hm.trans hy), wordsTo_succ hy, ih (by omega) (by omega), hi]
  rw [ins1_len idleX hk]
  exact high L.length hk (Nat.le_refl _)
end Go.Proofs.Ytjjbfeoidceiiaa
