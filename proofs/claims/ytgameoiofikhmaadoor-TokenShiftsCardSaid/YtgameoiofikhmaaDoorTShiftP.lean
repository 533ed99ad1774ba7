/- Lines of tokens: their bounds, and tokens further on, in plain words. -/
import Derived.Test.YtgameoiofikhmaaDoorTPick
namespace Go.Proofs.YtgameoiofikhmaaDoor.Tk
set_option linter.unusedVariables false
def resB (M : Nat) : Res → Prop
  | .ok l => ∀ x ∈ l, 0 ≤ x.line ∧ x.line ≤ M
  | .err e => e ≤ M
theorem resB.mono {M M' : Nat} {r : Res} (h : resB M r) (hm : M ≤ M') : resB M' r := by
  cases r with
  | ok l => exact fun x hx => ⟨(h x hx).1, by have := (h x hx).2; omega⟩
  | err e => exact Nat.le_trans h hm
theorem resB.cons {M : Nat} {x : Tok} {r : Res} (h : resB M r) (h1 : 0 ≤ x.line) (h2 : x.line ≤ M) : resB M (r.cons x) := by
  cases r with
  | ok l =>
    intro y hy
    rcases List.mem_cons.1 hy with rfl | hy
    · exact ⟨h1, h2⟩
    · exact h y hy
  | err e => exact h
theorem feeds_take_le (s : Bs) (k : Nat) : feeds (s.take k) ≤ k := by
  have h1 : feeds (s.take k) ≤ (s.take k).length := List.length_filter_le _ _
  rw [List.length_take] at h1
  omega
theorem scanF_bd : ∀ (f : Nat) (s : Bs) (n : Nat), s.length < f → resB (n + s.length) (scanF f s n) := by
  intro f
  induction f with
  | zero => intro s n h; omega
  | succ f ih =>
    intro s n h
    cases s with
    | nil =>
      intro x hx
      obtain rfl := List.mem_singleton.1 hx
      exact ⟨by show (0 : Int) ≤ (n : Int); omega, by show (n : Int) ≤ _; simp⟩
    | cons c t =>
      rw [scanF]
      have hl : (c :: t).length = t.length + 1 := rfl
      rw [hl] at h
      by_cases hg : 0 < gap (c :: t)
      · rw [if_pos hg]
        have hgl : gap (c :: t) ≤ (c :: t).length := by
          show (if c.toNat = 32 ∨ c.toNat = 9 ∨ c.toNat = 10 then 1 else if c.toNat = 35 then 1 + (t.takeWhile fun x => decide (x.toNat ≠ 10)).length else 0) ≤ t.length + 1
          have := (List.takeWhile_prefix (p := fun x : UInt8 => decide (x.toNat ≠ 10)) (l := t)).length_le
          split
          · omega
          · split <;> omega
        have hf := feeds_take_le (c :: t) (gap (c :: t))
        refine (ih ((c :: t).drop (gap (c :: t))) (n + feeds ((c :: t).take (gap (c :: t)))) (by rw [List.length_drop, hl]; omega)).mono ?_
        rw [List.length_drop]
        omega
      · rw [if_neg hg]
        by_cases hr : 0 < runLen (c :: t)
        · rw [if_pos hr]
          cases ofRun ((c :: t).take (runLen (c :: t))) with
          | none => exact Nat.le_add_right _ _
          | some p =>
            obtain ⟨k, m⟩ := p
            simp only
            refine resB.cons ((ih _ n (by rw [List.length_drop, hl]; omega)).mono ?_) (by show (0 : Int) ≤ (n : Int); omega) (by show (n : Int) ≤ _; omega)
            rw [List.length_drop]
            omega
        · rw [if_neg hr]
          cases hs : signAt (c :: t) with
          | none => exact Nat.le_add_right _ _
          | some g =>
            have := sign_pos hs
            simp only
            refine resB.cons ((ih _ n (by rw [List.length_drop, hl]; omega)).mono ?_) (by show (0 : Int) ≤ (n : Int); omega) (by show (n : Int) ≤ _; omega)
            rw [List.length_drop]
            omega
theorem scan_bd (s : Bs) (n : Nat) : resB (n + s.length) (scan s n) := scanF_bd _ s n (Nat.lt_succ_self _)
def resL (M : Nat) : Res → Prop
  | .ok l => l.length ≤ M
  | .err _ => True
theorem resL.mono {M M' : Nat} {r : Res} (h : resL M r) (hm : M ≤ M') : resL M' r := by
  cases r with
  | ok l => exact Nat.le_trans h hm
  | err e => exact trivial
theorem resL.cons {M : Nat} {x : Tok} {r : Res} (h : resL M r) : resL (M + 1) (r.cons x) := by
  cases r with
  | ok l => exact Nat.succ_le_succ h
  | err e => exact trivial
theorem scanF_len : ∀ (f : Nat) (s : Bs) (n : Nat), s.length < f → resL (s.length + 1) (scanF f s n) := by
  intro f
  induction f with
  | zero => intro s n h; omega
  | succ f ih =>
    intro s n h
    cases s with
    | nil => exact Nat.le_refl 1
    | cons c t =>
      rw [scanF]
      have hl : (c :: t).length = t.length + 1 := rfl
      rw [hl] at h ⊢
      by_cases hg : 0 < gap (c :: t)
      · rw [if_pos hg]
        refine (ih _ _ (by rw [List.length_drop, hl]; omega)).mono ?_
        rw [List.length_drop, hl]
        omega
      · rw [if_neg hg]
        by_cases hr : 0 < runLen (c :: t)
        · rw [if_pos hr]
          cases ofRun ((c :: t).take (runLen (c :: t))) with
          | none => exact trivial
          | some p =>
            obtain ⟨k, m⟩ := p
            simp only
            refine (resL.cons (ih _ n (by rw [List.length_drop, hl]; omega))).mono ?_
            rw [List.length_drop, hl]
            omega
        · rw [if_neg hr]
          cases hs : signAt (c :: t) with
          | none => exact trivial
          | some g =>
            have := sign_pos hs
            simp only
            refine (resL.cons (ih _ n (by rw [List.length_drop, hl]; omega))).mono ?_
            rw [List.length_drop, hl]
            omega
theorem scan_len (s : Bs) (n : Nat) : resL (s.length + 1) (scan s n) := scanF_len _ s n (Nat.lt_succ_self _)
/-- the first k further on by f lines -/
def mix (l : List Tok) (f k : Nat) : List Tok := (l.take k).map (Tok.down f) ++ l.drop k
theorem mix_zero (l : List Tok) (f : Nat) : mix l f 0 = l := rfl
theorem mix_all (l : List Tok) (f k : Nat) (h : l.length ≤ k) : mix l f k = l.map (Tok.down f) := by
  unfold mix
  rw [List.take_of_length_le h, List.drop_eq_nil_of_le h, List.append_nil]
theorem mix_len (l : List Tok) (f k : Nat) : (mix l f k).length = l.length := by
  unfold mix
  rw [List.length_append, List.length_map, List.length_take, List.length_drop]
  omega
theorem mix_get (l : List Tok) (f k j : Nat) : (mix l f k)[j]? = if j < k then (l[j]?).map (Tok.down f) else l[j]? := by
  have h0 : ((l.take k).map (Tok.down f) ++ l.drop k).length = l.length := mix_len l f k
  unfold mix
  by_cases h : j < k
  · rw [if_pos h]
    by_cases hl : j < l.length
    · rw [List.getElem?_append_left (by rw [List.length_map, List.length_take]; omega), List.getElem?_map, List.getElem?_take, if_pos h]
    · rw [List.getElem?_eq_none (show ((l.take k).map (Tok.down f) ++ l.drop k).length ≤ j by rw [h0]; omega), List.getElem?_eq_none (show l.length ≤ j by omega)]
      rfl
  · rw [if_neg h]
    by_cases hl : k ≤ l.length
    · rw [List.getElem?_append_right (by rw [List.length_map, List.length_take]; omega), List.length_map, List.length_take, List.getElem?_drop]
      congr 1
      omega
    · rw [List.getElem?_eq_none (show ((l.take k).map (Tok.down f) ++ l.drop k).length ≤ j by rw [h0]; omega), List.getElem?_eq_none (show l.length ≤ j by omega)]
def blanksTo (L : List Int) (i : Nat) : Bs := ((List.range i).map (blankV L)).flatten
theorem blanksTo_succ (L : List Int) (i : Nat) : blanksTo L (i + 1) = blanksTo L i ++ blankV L i := by
  unfold blanksTo
  rw [List.range_succ, List.map_append, List.flatten_append]
  simp
theorem scan_ahead (L : List Int) (i : Nat) (s : Bs) : scan (blanksTo L i ++ s) 1 = (scan s 1).down (feeds (blanksTo L i)) := by
  unfold blanksTo
  rw [scan_blanks _ (fun b hb => by
    obtain ⟨j, _, rfl⟩ := List.mem_map.1 hb
    exact blank_mem L j) s 1]
  exact scan_down s 1 _
end Go.Proofs.YtgameoiofikhmaaDoor.Tk
