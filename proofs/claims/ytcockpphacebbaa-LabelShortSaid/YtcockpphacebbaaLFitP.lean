/- Of raw items such that may be: what the law's Fit keeps, in plain words. -/
import Derived.Test.YtcockpphacebbaaLName
namespace Go.Proofs.Ytcockpphacebbaa
open Go.RowKit Rv Lb
set_option linter.unusedVariables false
theorem find_some {l : List Itm} {p : Itm → Bool} : (l.findIdx? p).isSome = true ↔ ∃ (j : Nat) (x : Itm), l[j]? = some x ∧ p x = true := by
  rw [List.findIdx?_isSome, List.any_eq_true]
  constructor
  · rintro ⟨x, hx, hp⟩
    obtain ⟨j, hj⟩ := List.mem_iff_getElem?.1 hx
    exact ⟨j, x, hj, hp⟩
  · rintro ⟨j, x, hj, hp⟩
    exact ⟨x, List.mem_of_getElem? hj, hp⟩
theorem isNamed_iff {s : ByteArray} {x : Itm} : isNamed s x = true ↔ x.kind = 2 ∧ x.name = s := by
  unfold isNamed
  simp
theorem named_some {l : List Itm} {s : ByteArray} : (named l s).isSome = true ↔ ∃ (j : Nat) (x : Itm), l[j]? = some x ∧ x.kind = 2 ∧ x.name = s := by
  unfold named
  rw [find_some]
  simp only [isNamed_iff]
theorem namedTo_some {l : List Itm} {k : Nat} {s : ByteArray} : (namedTo l k s).isSome = true ↔ ∃ (j : Nat) (x : Itm), j < k ∧ l[j]? = some x ∧ x.kind = 2 ∧ x.name = s := by
  unfold namedTo
  rw [find_some]
  simp only [isNamed_iff, List.getElem?_take]
  constructor
  · rintro ⟨j, x, hx, h⟩
    split at hx
    · exact ⟨j, x, by assumption, hx, h⟩
    · cases hx
  · rintro ⟨j, x, hj, hx, h⟩
    exact ⟨j, x, by rw [if_pos hj]; exact hx, h⟩
/-- a label stands nowhere twice -/
def once (l : List Itm) : Prop := ∀ (i j : Nat) (x y : Itm), i < j → l[i]? = some x → l[j]? = some y → x.kind = 2 → y.kind = 2 → x.name ≠ y.name
theorem dup_of_once {l : List Itm} (h : once l) (k : Nat) : dupAt l k = false := by
  cases hd : dupAt l k with
  | false => rfl
  | true =>
    unfold dupAt at hd
    cases hy : l[k]? with
    | none => rw [hy] at hd; cases hd
    | some y =>
      rw [hy] at hd
      simp only [Bool.and_eq_true, decide_eq_true_eq] at hd
      obtain ⟨j, x, hj, hx, h2, hn⟩ := namedTo_some.1 hd.2
      exact absurd hn (h j k x y hj hx hy h2 hd.1)
theorem okT_of {l : List Itm} (h : once l) (hl : ∀ x ∈ l, x.kind = 3 → ∃ y ∈ l, y.kind = 2 ∧ y.name = x.name) : okT l = true := by
  refine okT_yes (fun j _ => dup_of_once h j) (fun j hj => ?_)
  unfold lostAt
  rw [List.getElem?_eq_getElem hj]
  simp only
  by_cases h3 : (l[j]).kind = 3
  · obtain ⟨y, hy, h2, hn⟩ := hl l[j] (List.getElem_mem _) h3
    obtain ⟨i, hi⟩ := List.mem_iff_getElem?.1 hy
    have := named_some.2 ⟨i, y, hi, h2, hn⟩
    cases hq : named l (l[j]).name with
    | none => rw [hq] at this; cases this
    | some q => simp
  · rw [decide_eq_false h3, Bool.false_and]
structure FitInv (O : List Itm) (Nm : List ByteArray) : Prop where
  right : ∀ x ∈ O, rightX x = true ∧ Itm.wf x ∧ size1 x ≤ 1139
  sub : ∀ s ∈ Nm, s ∈ endName :: names8
  has : ∀ s ∈ Nm, ∃ x ∈ O, x.kind = 2 ∧ x.name = s
  lab : ∀ x ∈ O, x.kind = 2 → x.name ∈ Nm
  once' : once O
theorem FitInv.nil : FitInv [] [] := ⟨fun x h => (by cases h), fun x h => (by cases h), fun x h => (by cases h), fun x h => (by cases h), fun i j x y _ h => (by simp at h)⟩
theorem once_snoc {O : List Itm} {x : Itm} (h : once O) (hx : x.kind = 2 → ∀ y ∈ O, y.kind = 2 → y.name ≠ x.name) : once (O ++ [x]) := by
  intro i j a b hij ha hb h2 h2'
  have hj : j < (O ++ [x]).length := (List.getElem?_eq_some_iff.1 hb).1
  rw [List.length_append, List.length_singleton] at hj
  rw [List.getElem?_append_left (by omega)] at ha
  by_cases e : j < O.length
  · rw [List.getElem?_append_left e] at hb
    exact h i j a b hij ha hb h2 h2'
  · obtain rfl : j = O.length := by omega
    rw [List.getElem?_append_right (Nat.le_refl _), Nat.sub_self] at hb
    obtain rfl : x = b := Option.some.inj hb
    exact hx h2' a (List.mem_of_getElem? ha) h2
theorem FitInv.other {O : List Itm} {Nm : List ByteArray} {x : Itm} (h : FitInv O Nm) (hr : rightX x = true ∧ Itm.wf x ∧ size1 x ≤ 1139) (hk : x.kind ≠ 2) : FitInv (O ++ [x]) Nm := by
  refine ⟨fun y hy => ?_, h.sub, fun s hs => ?_, fun y hy h2 => ?_, once_snoc h.once' (fun c => absurd c hk)⟩
  · rcases List.mem_append.1 hy with e | e
    · exact h.right y e
    · obtain rfl := List.mem_singleton.1 e
      exact hr
  · obtain ⟨y, hy, h2⟩ := h.has s hs
    exact ⟨y, List.mem_append_left _ hy, h2⟩
  · rcases List.mem_append.1 hy with e | e
    · exact h.lab y e h2
    · obtain rfl := List.mem_singleton.1 e
      exact absurd h2 hk
def labI (s : ByteArray) : Itm := ⟨2, ⟨0, 0, 0, 0, 0⟩, s, 0⟩
theorem zin {n : Int} (h1 : -1000000000 ≤ n) (h2 : n ≤ 1000000000) : inInt n := ⟨by omega, by omega⟩
theorem labI_right {s : ByteArray} (hs : s ∈ endName :: names8) : rightX (labI s) = true ∧ Itm.wf (labI s) ∧ size1 (labI s) ≤ 1139 := by
  refine ⟨?_, ⟨zin (by simp [labI]) (by simp [labI]), ⟨zin (by simp [labI]) (by simp [labI]), zin (by simp [labI]) (by simp [labI]), zin (by simp [labI]) (by simp [labI]), zin (by simp [labI]) (by simp [labI]), zin (by simp [labI]) (by simp [labI])⟩, ?_, zin (by simp [labI]) (by simp [labI])⟩, by simp [size1, labI]⟩
  · unfold rightX labI
    rw [if_neg (by simp), if_pos rfl, names8_lab s hs]
    rfl
  · have := names8_size s hs
    unfold maxLen labI
    simp only
    omega
theorem FitInv.label {O : List Itm} {Nm : List ByteArray} {s : ByteArray} (h : FitInv O Nm) (hs : s ∈ endName :: names8) (hn : s ∉ Nm) : FitInv (O ++ [labI s]) (Nm ++ [s]) := by
  refine ⟨fun y hy => ?_, fun t ht => ?_, fun t ht => ?_, fun y hy h2 => ?_, once_snoc h.once' (fun _ y hy h2 e => hn (by have := h.lab y hy h2; rw [e] at this; exact this))⟩
  · rcases List.mem_append.1 hy with e | e
    · exact h.right y e
    · obtain rfl := List.mem_singleton.1 e
      exact labI_right hs
  · rcases List.mem_append.1 ht with e | e
    · exact h.sub t e
    · obtain rfl := List.mem_singleton.1 e
      exact hs
  · rcases List.mem_append.1 ht with e | e
    · obtain ⟨y, hy, h2⟩ := h.has t e
      exact ⟨y, List.mem_append_left _ hy, h2⟩
    · obtain rfl := List.mem_singleton.1 e
      exact ⟨labI t, by simp, rfl, rfl⟩
  · rcases List.mem_append.1 hy with e | e
    · exact List.mem_append_left _ (h.lab y e h2)
    · obtain rfl := List.mem_singleton.1 e
      simp [labI]
/-- the items whose first k have their labels -/
structure Led (O L : List Itm) (Nm : List ByteArray) (k : Nat) : Prop where
  len : L.length = O.length
  same : ∀ (j : Nat) (x : Itm), O[j]? = some x → (x.kind ≠ 3 ∨ k ≤ j) → L[j]? = some x
  led : ∀ (j : Nat) (x : Itm), O[j]? = some x → x.kind = 3 → j < k → ∃ s ∈ Nm, L[j]? = some ⟨x.kind, x.i, s, x.n⟩
structure FitOk (L : List Itm) : Prop where
  pos : 1 ≤ L.length
  most : L.length ≤ 17
  right : allRight L
  ok : okT L = true
  size : ∀ x ∈ L, size1 x ≤ 1139
  lab : ∀ x ∈ L, x.kind = 2 ∨ x.kind = 3 → x.name ∈ endName :: names8
theorem Led.fit {O L : List Itm} {Nm : List ByteArray} (h : FitInv O Nm) (hl : Led O L Nm O.length) (h1 : 1 ≤ O.length) (h2 : O.length ≤ 17) : FitOk L := by
  have key : ∀ (j : Nat) (y : Itm), L[j]? = some y → ∃ x, O[j]? = some x ∧ x ∈ O ∧ ((x.kind ≠ 3 ∧ y = x) ∨ (x.kind = 3 ∧ ∃ s ∈ Nm, y = ⟨x.kind, x.i, s, x.n⟩)) := by
    intro j y hy
    have hlt : j < O.length := by rw [← hl.len]; exact (List.getElem?_eq_some_iff.1 hy).1
    have hx : O[j]? = some O[j] := List.getElem?_eq_getElem hlt
    refine ⟨O[j], hx, List.getElem_mem _, ?_⟩
    by_cases h3 : (O[j]).kind = 3
    · obtain ⟨s, hs, e⟩ := hl.led j _ hx h3 hlt
      rw [hy] at e
      exact Or.inr ⟨h3, s, hs, Option.some.inj e⟩
    · have e := hl.same j _ hx (Or.inl h3)
      rw [hy] at e
      exact Or.inl ⟨h3, Option.some.inj e⟩
  have hmem : ∀ y ∈ L, rightX y = true ∧ Itm.wf y ∧ size1 y ≤ 1139 ∧ (y.kind = 2 ∨ y.kind = 3 → y.name ∈ endName :: names8) ∧ (y.kind = 3 → y.name ∈ Nm) := by
    intro y hy
    obtain ⟨j, hj⟩ := List.mem_iff_getElem?.1 hy
    obtain ⟨x, hx, hxO, ⟨h3, rfl⟩ | ⟨h3, s, hs, rfl⟩⟩ := key j y hj
    · obtain ⟨r1, r2, r3⟩ := h.right y hxO
      refine ⟨r1, r2, r3, fun c => ?_, fun c => absurd c h3⟩
      rcases c with c | c
      · exact h.sub _ (h.lab y hxO c)
      · exact absurd c h3
    · obtain ⟨r1, r2, r3⟩ := h.right x hxO
      have hl8 := names8_lab s (h.sub s hs)
      have hs8 := names8_size s (h.sub s hs)
      refine ⟨?_, ⟨r2.kind, r2.i, by unfold maxLen; simp only; omega, r2.n⟩, r3, fun _ => h.sub s hs, fun _ => hs⟩
      unfold rightX at r1 ⊢
      simp only [h3] at r1 ⊢
      rw [if_neg (by decide), if_neg (by decide), if_pos trivial] at r1 ⊢
      simp only [Bool.and_eq_true] at r1 ⊢
      exact ⟨r1.1, hl8⟩
  refine ⟨by rw [hl.len]; exact h1, by rw [hl.len]; exact h2, fun y hy => ⟨(hmem y hy).1, (hmem y hy).2.1⟩, okT_of ?_ ?_, fun y hy => (hmem y hy).2.2.1, fun y hy => (hmem y hy).2.2.2.1⟩
  · intro i j a b hij ha hb k2 k2'
    obtain ⟨x, hx, _, ⟨_, rfl⟩ | ⟨h3, s, _, rfl⟩⟩ := key i a ha
    · obtain ⟨z, hz, _, ⟨_, rfl⟩ | ⟨h3, s, _, rfl⟩⟩ := key j b hb
      · exact h.once' i j a b hij hx hz k2 k2'
      · simp only at k2'; omega
    · simp only at k2; omega
  · intro x hx h3
    obtain ⟨y, hy, y2, yn⟩ := h.has x.name ((hmem x hx).2.2.2.2 h3)
    obtain ⟨j, hj⟩ := List.mem_iff_getElem?.1 hy
    exact ⟨y, List.mem_of_getElem? (hl.same j y hj (Or.inl (by omega))), y2, yn⟩
end Go.Proofs.Ytcockpphacebbaa
