/- Symbols rise; which one is found. -/
import Derived.Test.YtbfmlbcjggplgaaGreatDoorIPrint
namespace Go.Proofs.YtbfmlbcjggplgaaGreatDoor
open Go.RowKit Im
set_option linter.unusedVariables false
theorem u8_lt (a b : UInt8) : (a < b) ↔ a.toNat < b.toNat := UInt8.lt_iff_toNat_lt
theorem bl_irrefl : ∀ l : Bs, Op.bytesLess l l = false := by
  intro l
  induction l with
  | nil => rfl
  | cons a x ih =>
    unfold Op.bytesLess
    rw [ih]
    simp
theorem bl_trans : ∀ a b c : Bs, Op.bytesLess a b = true → Op.bytesLess b c = true → Op.bytesLess a c = true := by
  intro a
  induction a with
  | nil =>
    intro b c h1 h2
    cases b with
    | nil => exact h2
    | cons y b =>
      cases c with
      | nil => simp [Op.bytesLess] at h2
      | cons z c => rfl
  | cons x a ih =>
    intro b c h1 h2
    cases b with
    | nil => simp [Op.bytesLess] at h1
    | cons y b =>
      cases c with
      | nil => simp [Op.bytesLess] at h2
      | cons z c =>
        simp only [Op.bytesLess, Bool.or_eq_true, Bool.and_eq_true, decide_eq_true_eq, beq_iff_eq] at h1 h2 ⊢
        rcases h1 with h1 | ⟨rfl, h1⟩
        · rcases h2 with h2 | ⟨rfl, h2⟩
          · left; rw [u8_lt] at *; omega
          · left; exact h1
        · rcases h2 with h2 | ⟨rfl, h2⟩
          · left; exact h2
          · right; exact ⟨rfl, ih b c h1 h2⟩
theorem less_irrefl (s : ByteArray) : less s s = false := bl_irrefl _
theorem less_trans {a b c : ByteArray} (h1 : less a b = true) (h2 : less b c = true) : less a c = true := bl_trans _ _ _ h1 h2
/-- the names rise -/
theorem rise_step {m : Img} (h : right m = true) {j : Nat} {x y : Sym} (hx : m.syms[j]? = some x) (hy : m.syms[j + 1]? = some y) : less x.name y.name = true := by
  obtain ⟨_, _, _, _, _, h6⟩ := right_parts h
  have := h6 (j + 1) (List.getElem?_eq_some_iff.1 hy).1
  unfold symOk at this
  rw [hy] at this
  simp only [Bool.and_eq_true] at this
  have h2 : (match m.syms[j]? with | none => true | some z => less z.name y.name) = true := this.2
  rw [hx] at h2
  exact h2
theorem rise {m : Img} (h : right m = true) : ∀ (d j : Nat) {x y : Sym}, m.syms[j]? = some x → m.syms[j + d + 1]? = some y → less x.name y.name = true := by
  intro d
  induction d with
  | zero => intro j x y hx hy; exact rise_step h hx hy
  | succ d ih =>
    intro j x y hx hy
    obtain ⟨z, hz⟩ : ∃ z, m.syms[j + d + 1]? = some z := ⟨_, List.getElem?_eq_getElem (by have := (List.getElem?_eq_some_iff.1 hy).1; omega)⟩
    exact less_trans (ih j hx hz) (rise_step h hz hy)
/-- is the name of the symbol i not ahead? -/
def notLess (m : Img) (name : ByteArray) (i : Nat) : Bool := match m.syms[i]? with
  | none => true
  | some x => !less x.name name
theorem notLess_mono {m : Img} (h : right m = true) (name : ByteArray) (a b : Nat) (hab : a ≤ b) (hb : b < m.syms.length) (ha : notLess m name a = true) : notLess m name b = true := by
  by_cases e : a = b
  · rw [← e]; exact ha
  obtain ⟨x, hx⟩ : ∃ x, m.syms[a]? = some x := ⟨_, List.getElem?_eq_getElem (by omega)⟩
  obtain ⟨y, hy⟩ : ∃ y, m.syms[b]? = some y := ⟨_, List.getElem?_eq_getElem hb⟩
  unfold notLess at ha ⊢
  rw [hx] at ha
  rw [hy]
  simp only [Bool.not_eq_true'] at ha ⊢
  have h1 := rise h (b - a - 1) a hx (by rw [show a + (b - a - 1) + 1 = b by omega]; exact hy)
  cases h2 : less y.name name with
  | false => rfl
  | true => rw [less_trans h1 h2] at ha; cases ha
/-- how many names are ahead -/
def ahead (m : Img) (name : ByteArray) : Nat := (List.range m.syms.length).countP fun i => !notLess m name i
theorem ahead_le (m : Img) (name : ByteArray) : ahead m name ≤ m.syms.length := by
  unfold ahead
  have := List.countP_le_length (p := fun i => !notLess m name i) (l := List.range m.syms.length)
  simpa using this
theorem countP_upto (p : Nat → Bool) (k : Nat) : ∀ n, k ≤ n → (∀ i, i < k → p i = true) → (∀ i, k ≤ i → i < n → p i = false) → (List.range n).countP p = k := by
  intro n
  induction n with
  | zero => intro h _ _; have : k = 0 := by omega
            rw [this]; rfl
  | succ n ih =>
    intro h h1 h2
    rw [List.range_succ, List.countP_append]
    by_cases e : k = n + 1
    · subst e
      have : (List.range n).countP p = n := by
        have h3 : (List.range n).countP p = (List.range n).length := List.countP_eq_length.2 (fun i hi => h1 i (by have := List.mem_range.1 hi; omega))
        simpa using h3
      rw [this]
      simp [h1 n (by omega)]
    · rw [ih (by omega) h1 (fun i a b => h2 i a (by omega))]
      simp [h2 n (by omega) (by omega)]
theorem ahead_at {m : Img} (h : right m = true) {j : Nat} {x : Sym} (hx : m.syms[j]? = some x) : ahead m x.name = j := by
  have hj := (List.getElem?_eq_some_iff.1 hx).1
  refine countP_upto _ j _ (by omega) (fun i hi => ?_) (fun i hi hn => ?_)
  · obtain ⟨y, hy⟩ : ∃ y, m.syms[i]? = some y := ⟨_, List.getElem?_eq_getElem (by omega)⟩
    unfold notLess
    rw [hy]
    have := rise h (j - i - 1) i hy (by rw [show i + (j - i - 1) + 1 = j by omega]; exact hx)
    simp [this]
  · have h0 : notLess m x.name j = true := by unfold notLess; rw [hx]; simp [less_irrefl]
    simp [notLess_mono h x.name j i hi hn h0]
end Go.Proofs.YtbfmlbcjggplgaaGreatDoor
