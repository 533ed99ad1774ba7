/- What the laws' walks share. -/
import Derived.Test.YtigefdoejcggpaaNFit
import Derived.Test.YtigefdoejcggpaaNLawP
namespace Go.Proofs.Ytigefdoejcggpaa
open Go.RowKit Ax
set_option linter.unusedVariables false
set_option linter.unusedSimpArgs false
theorem fitEv_bd (x : Q4) : 0 ≤ (fitEv x).1 ∧ (fitEv x).1 < 3 ∧ 0 ≤ (fitEv x).2.2.1 ∧ (fitEv x).2.2.1 < 3 ∧ 0 ≤ (fitEv x).2.2.2 ∧ (fitEv x).2.2.2 < 3 ∧ ((fitEv x).2.1 = 3 → (fitEv x).2.2.1 = 0 ∧ (fitEv x).2.2.2 = 0) ∧ ((fitEv x).2.1 = 1 ∨ (fitEv x).2.1 = 2 ∨ (fitEv x).2.1 = 3) := by
  have h0 := pick_bd x.2.1 (n := 3) (by decide)
  have h1 := pick_bd x.1 (n := 2) (by decide)
  have h2 := pick_bd x.2.2.1 (n := 3) (by decide)
  have h3 := pick_bd x.2.2.2 (n := 3) (by decide)
  unfold fitEv
  by_cases h : pick x.1 7 = 6
  · rw [if_pos h]
    exact ⟨h0.1, h0.2, Int.le_refl 0, (by decide : (0 : Int) < 3), Int.le_refl 0, (by decide : (0 : Int) < 3), fun _ => ⟨rfl, rfl⟩, .inr (.inr rfl)⟩
  · rw [if_neg h]
    refine ⟨h0.1, h0.2, h2.1, h2.2, h3.1, h3.2, fun c => ?_, ?_⟩
    · have c : 1 + pick x.1 2 = 3 := c
      omega
    · show 1 + pick x.1 2 = 1 ∨ 1 + pick x.1 2 = 2 ∨ 1 + pick x.1 2 = 3
      omega
/-- events of the law's making -/
structure Small (l : List Ev) : Prop where
  len : l.length ≤ 6
  bd : ∀ e ∈ l, 0 ≤ e.1 ∧ e.1 < 4 ∧ 0 ≤ e.2.2.1 ∧ e.2.2.1 < 3 ∧ 0 ≤ e.2.2.2 ∧ e.2.2.2 < 3 ∧ (e.2.1 = 3 → e.2.2.1 = 0 ∧ e.2.2.2 = 0) ∧ (e.2.1 = 1 ∨ e.2.1 = 2 ∨ e.2.1 = 3)
theorem Small.ev {l : List Ev} (h : Small l) : ∀ e ∈ l, isEv e = true := fun e he => by
  obtain ⟨h0, h1, h2, h3, h4, h5, h6, h7⟩ := h.bd e he
  unfold isEv isAcc
  by_cases hk : e.2.1 = 3
  · rw [if_pos hk]
    simp [h0, h1, h6 hk]
  · rw [if_neg hk]
    simp only [Bool.and_eq_true, Bool.or_eq_true, decide_eq_true_eq]
    omega
theorem Small.right {l : List Ev} (h : Small l) : right l = true := right_iff.2 ⟨by have := h.len; omega, h.ev⟩
theorem fit_small (raw : List Q4) : Small (fitV raw) := by
  refine ⟨?_, fun e he => ?_⟩
  · unfold fitV
    rw [List.length_map, List.length_take]
    omega
  · unfold fitV at he
    obtain ⟨x, _, rfl⟩ := List.mem_map.1 he
    obtain ⟨h0, h1, h2, h3, h4, h5, h6, h7⟩ := fitEv_bd x
    exact ⟨h0, by omega, h2, h3, h4, h5, h6, h7⟩
theorem encQ_len (x : Ev) : (encQ x).length = 4 := rfl
theorem encI_len (x : Int) : (encI x).length = 1 := rfl
theorem ERow.lat {w : World} {base : Nat} {s : Sl} {l : List Ev} {T : TypeId} (h : ERow encQ T 4 w base s.val l) : LAt w s.p l := by
  obtain ⟨p, c, h1, h2, -⟩ := ERow.form encQ_len h
  injection h1 with h1 _ _
  rw [h1]
  exact h2
theorem ERow.iat {w : World} {base : Nat} {s : Sl} {l : List Int} {T : TypeId} (h : ERow encI T 1 w base s.val l) : IAt w s.p l := by
  obtain ⟨p, c, h1, h2, -⟩ := ERow.form encI_len h
  injection h1 with h1 _ _
  rw [h1]
  exact h2
theorem fit_lit {w : World} {p : Option Addr} {raw : List Q4} {n c : Nat} (hl : LAt w p raw) (hn : raw.length = n) (hw : ∀ x ∈ raw, in4 x) :
    Calls Try.prog 12 #[.slice p n c] w fun e w' => ∃ (p2 : Option Addr) (n2 c2 : Nat), e = .returned (.slice p2 n2 c2) ∧ Bel w w' ∧ ERow encQ 26 4 w' w.heap.size (.slice p2 n2 c2) (fitV raw) :=
  (fit_any hl hn hw).mono fun e w' ⟨s, h1, h2, h3⟩ => ⟨s.p, s.n, s.c, h1, h2, h3⟩
def fewK (l : List Ev) (k j : Nat) : List Ev := if (ev l k).2.1 = 2 then l.take j else (l.take j).eraseIdx k
theorem few_skip {l : List Ev} {k j : Nat} (hs : (ev l k).2.1 ≠ 2) (hj : j = k) (hl : j < l.length) : fewK l k (j + 1) = fewK l k j := by
  unfold fewK
  rw [if_neg hs, if_neg hs, List.take_add_one, get_ev hl]
  subst hj
  have h1 : (l.take j).length = j := by rw [List.length_take]; omega
  show (l.take j ++ [ev l j]).eraseIdx j = _
  rw [List.eraseIdx_append_of_length_le (by omega), h1, Nat.sub_self]
  rw [List.eraseIdx_of_length_le (l := l.take j) (by omega)]
  simp
theorem few_more {l : List Ev} {k j : Nat} (h : j ≠ k ∨ (ev l k).2.1 = 2) (hl : j < l.length) : fewK l k (j + 1) = fewK l k j ++ [ev l j] := by
  unfold fewK
  rw [List.take_add_one, get_ev hl]
  have h1 : (l.take j).length = j := by rw [List.length_take]; omega
  by_cases hs : (ev l k).2.1 = 2
  · rw [if_pos hs, if_pos hs]
    rfl
  · rw [if_neg hs, if_neg hs]
    have hj : j ≠ k := h.resolve_right hs
    by_cases hlt : k < j
    · rw [List.eraseIdx_append_of_lt_length (by omega)]
      rfl
    · rw [List.eraseIdx_of_length_le (l := l.take j) (by omega), List.eraseIdx_of_length_le]
      · rfl
      · rw [List.length_append, h1]
        simp
        omega
theorem few_allowed {l : List Ev} {k : Nat} (hk : k < l.length) (h : allowed l = true) : allowed (fewK l k l.length) = true := by
  unfold fewK
  rw [List.take_length]
  by_cases hs : (ev l k).2.1 = 2
  · rw [if_pos hs]; exact h
  · rw [if_neg hs]; exact erase_allowed hk hs h
theorem few_len (l : List Ev) (k j : Nat) : (fewK l k j).length ≤ l.length := by
  unfold fewK
  split
  · rw [List.length_take]; omega
  · have := List.length_eraseIdx_le (l.take j) k
    rw [List.length_take] at this
    omega
end Go.Proofs.Ytigefdoejcggpaa
