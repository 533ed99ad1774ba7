/- Numbers' texts, to the base 10 and 16, in plain words, and what package token's words tell of them. -/
import Derived.Test.YthlnjnmomnpnpaaGreatDoorTPlain
namespace Go.Proofs.YthlnjnmomnpnpaaGreatDoor.Tk
set_option linter.unusedVariables false
def dig (n : Nat) : UInt8 := UInt8.ofNat (48 + n)
def hexd (n : Nat) : UInt8 := UInt8.ofNat (if n < 10 then 48 + n else 87 + n)
def dec (n : Nat) : Bs := if h : n < 10 then [dig n] else dec (n / 10) ++ [dig (n % 10)]
termination_by n
decreasing_by omega
def hex (n : Nat) : Bs := if h : n < 16 then [hexd n] else hex (n / 16) ++ [hexd (n % 16)]
termination_by n
decreasing_by omega
theorem dec_small {n : Nat} (h : n < 10) : dec n = [dig n] := by rw [dec, dif_pos h]
theorem dec_big {n : Nat} (h : ¬ n < 10) : dec n = dec (n / 10) ++ [dig (n % 10)] := by rw [dec, dif_neg h]
theorem hex_small {n : Nat} (h : n < 16) : hex n = [hexd n] := by rw [hex, dif_pos h]
theorem hex_big {n : Nat} (h : ¬ n < 16) : hex n = hex (n / 16) ++ [hexd (n % 16)] := by rw [hex, dif_neg h]
theorem dig_nat {n : Nat} (h : n < 10) : (dig n).toNat = 48 + n := by
  unfold dig
  rw [UInt8.toNat_ofNat']
  omega
theorem hexd_nat {n : Nat} (h : n < 16) : (hexd n).toNat = if n < 10 then 48 + n else 87 + n := by
  unfold hexd
  rw [UInt8.toNat_ofNat']
  split <;> omega
theorem dig_isDig {n : Nat} (h : n < 10) : isDig (dig n) = true := by
  unfold isDig
  rw [dig_nat h]
  exact decide_eq_true (by omega)
theorem digit_dig {n : Nat} (h : n < 10) : digit (dig n) = n := by
  unfold digit
  rw [dig_nat h, if_pos (by omega)]
  omega
theorem digit_hexd {n : Nat} (h : n < 16) : digit (hexd n) = n := by
  unfold digit
  rw [hexd_nat h]
  by_cases h1 : n < 10
  · rw [if_pos h1, if_pos (by omega)]
    omega
  · rw [if_neg h1, if_neg (by omega), if_pos (by omega)]
    omega
theorem hexd_run {n : Nat} (h : n < 16) : isRun (hexd n) = true := by
  unfold isRun isLet isDig
  rw [hexd_nat h]
  by_cases h1 : n < 10
  · rw [if_pos h1, decide_eq_true (p := 48 ≤ 48 + n ∧ 48 + n ≤ 57) (by omega), Bool.or_true]
  · rw [if_neg h1, decide_eq_true (by omega), Bool.true_or]
theorem dec_all (n : Nat) : ∀ c ∈ dec n, isDig c = true := by
  induction n using Nat.strongRecOn with
  | ind n ih =>
    by_cases h : n < 10
    · rw [dec_small h]
      intro c hc
      rw [List.mem_singleton] at hc
      subst hc
      exact dig_isDig h
    · rw [dec_big h]
      intro c hc
      rw [List.mem_append, List.mem_singleton] at hc
      rcases hc with hc | hc
      · exact ih (n / 10) (by omega) c hc
      · subst hc
        exact dig_isDig (by omega)
theorem hex_all (n : Nat) : ∀ c ∈ hex n, isRun c = true := by
  induction n using Nat.strongRecOn with
  | ind n ih =>
    by_cases h : n < 16
    · rw [hex_small h]
      intro c hc
      rw [List.mem_singleton] at hc
      subst hc
      exact hexd_run h
    · rw [hex_big h]
      intro c hc
      rw [List.mem_append, List.mem_singleton] at hc
      rcases hc with hc | hc
      · exact ih (n / 16) (by omega) c hc
      · subst hc
        exact hexd_run (by omega)
theorem dec_pos (n : Nat) : 1 ≤ (dec n).length := by
  by_cases h : n < 10
  · rw [dec_small h]; exact Nat.le_refl _
  · rw [dec_big h, List.length_append]; exact Nat.le_add_left _ _
theorem hex_pos (n : Nat) : 1 ≤ (hex n).length := by
  by_cases h : n < 16
  · rw [hex_small h]; exact Nat.le_refl _
  · rw [hex_big h, List.length_append]; exact Nat.le_add_left _ _
theorem dec_len (k : Nat) : ∀ n : Nat, n < 10 ^ (k + 1) → (dec n).length ≤ k + 1 := by
  induction k with
  | zero => intro n h; rw [dec_small (by simpa using h)]; exact Nat.le_refl _
  | succ k ih =>
    intro n h
    by_cases h1 : n < 10
    · rw [dec_small h1]; simp
    · rw [dec_big h1, List.length_append]
      have := ih (n / 10) (by rw [Nat.pow_succ] at h; omega)
      simp only [List.length_cons, List.length_nil]
      omega
theorem hex_len (k : Nat) : ∀ n : Nat, n < 16 ^ (k + 1) → (hex n).length ≤ k + 1 := by
  induction k with
  | zero => intro n h; rw [hex_small (by simpa using h)]; exact Nat.le_refl _
  | succ k ih =>
    intro n h
    by_cases h1 : n < 16
    · rw [hex_small h1]; simp
    · rw [hex_big h1, List.length_append]
      have := ih (n / 16) (by rw [Nat.pow_succ] at h; omega)
      simp only [List.length_cons, List.length_nil]
      omega
theorem hex_long (k : Nat) : ∀ n : Nat, 16 ^ k ≤ n → k + 1 ≤ (hex n).length := by
  induction k with
  | zero => intro n _; exact hex_pos n
  | succ k ih =>
    intro n h
    have h1 : ¬ n < 16 := by
      have : 16 ^ 1 ≤ 16 ^ (k + 1) := Nat.pow_le_pow_right (by omega) (by omega)
      omega
    rw [hex_big h1, List.length_append]
    have := ih (n / 16) (by rw [Nat.pow_succ] at h; omega)
    simp only [List.length_cons, List.length_nil]
    omega
theorem val_append (b : Nat) (s t : Bs) : ∀ n : Nat, val b (s ++ t) n = (val b s n).bind (val b t) := by
  induction s with
  | nil => intro n; rfl
  | cons c s ih =>
    intro n
    rw [List.cons_append, val, val]
    by_cases h : digit c < b
    · rw [if_pos h, if_pos h, ih]
    · rw [if_neg h, if_neg h]; rfl
theorem val_one {b d : Nat} {c : UInt8} (hc : digit c = d) (h : d < b) (n : Nat) : val b [c] n = some (n * b + d) := by
  rw [val, hc, if_pos h]
  rfl
theorem val_dec (n : Nat) : val 10 (dec n) 0 = some n := by
  induction n using Nat.strongRecOn with
  | ind n ih =>
    by_cases h : n < 10
    · rw [dec_small h, val_one (digit_dig h) h]
      congr 1
      omega
    · rw [dec_big h, val_append, ih (n / 10) (by omega), Option.bind_some, val_one (digit_dig (by omega)) (by omega)]
      congr 1
      omega
theorem val_hex (n : Nat) : val 16 (hex n) 0 = some n := by
  induction n using Nat.strongRecOn with
  | ind n ih =>
    by_cases h : n < 16
    · rw [hex_small h, val_one (digit_hexd h) h]
      congr 1
      omega
    · rw [hex_big h, val_append, ih (n / 16) (by omega), Option.bind_some, val_one (digit_hexd (by omega)) (by omega)]
      congr 1
      omega
theorem val_bad {b : Nat} {s : Bs} {c : UInt8} (hc : c ∈ s) (h : ¬ digit c < b) : ∀ n : Nat, val b s n = none := by
  induction s with
  | nil => cases hc
  | cons d s ih =>
    intro n
    rw [val]
    rcases List.mem_cons.1 hc with rfl | hm
    · rw [if_neg h]
    · by_cases hd : digit d < b
      · rw [if_pos hd]; exact ih hm _
      · rw [if_neg hd]
theorem head_app {s t : Bs} (h : 1 ≤ s.length) : (s ++ t).head? = s.head? := by
  cases s with
  | nil => simp at h
  | cons c s => rfl
theorem hex_pre (n : Nat) : ([48, 120] : Bs).isPrefixOf (48 :: 120 :: hex n) = true := by
  rw [List.isPrefixOf_iff_prefix]
  exact ⟨hex n, rfl⟩
theorem dec_head (n : Nat) (h : 1 ≤ n) : (dec n).head? ≠ some 48 := by
  induction n using Nat.strongRecOn with
  | ind n ih =>
    by_cases h1 : n < 10
    · rw [dec_small h1]
      intro c
      simp only [List.head?_cons, Option.some.injEq] at c
      have := dig_nat h1
      rw [c] at this
      have e : (48 : UInt8).toNat = 48 := rfl
      omega
    · rw [dec_big h1, head_app (by have := dec_pos (n / 10); omega)]
      exact ih (n / 10) (by omega) (by omega)
theorem dec_headDig (n : Nat) (t : Bs) : headDig (dec n ++ t) = true := by
  have h := dec_all n
  cases hd : dec n with
  | nil => have := dec_pos n; rw [hd] at this; simp at this
  | cons c s => exact h c (by rw [hd]; exact List.mem_cons_self)
theorem dec_no_x (n : Nat) : (120 : UInt8) ∉ dec n := fun h => by
  have := dec_all n 120 h
  revert this
  decide
theorem pre_x {s : Bs} (h : ([48, 120] : Bs).isPrefixOf s = true) : ∃ t, s = 48 :: 120 :: t := by
  rw [List.isPrefixOf_iff_prefix] at h
  obtain ⟨t, rfl⟩ := h
  exact ⟨t, rfl⟩
theorem number_dec (n : Nat) (h : n < 4294967296) : number (dec n) = some n := by
  unfold number
  rw [if_neg (fun c => by
    obtain ⟨t, ht⟩ := pre_x c
    exact dec_no_x n (by rw [ht]; simp))]
  rw [if_neg (fun c => by
    by_cases h0 : n < 10
    · rw [dec_small h0] at c; simp at c
    · exact dec_head n (by omega) c.2)]
  unfold valueV
  have h1 := dec_pos n
  have h2 := dec_len 9 n (by omega)
  rw [if_neg (by omega), val_dec]
  simp only
  rw [if_pos (by omega)]
theorem number_dec_big (n : Nat) (h : 4294967296 ≤ n) : number (dec n) = none := by
  unfold number
  rw [if_neg (fun c => by
    obtain ⟨t, ht⟩ := pre_x c
    exact dec_no_x n (by rw [ht]; simp))]
  split
  · rfl
  · unfold valueV
    split
    · rfl
    · rw [val_dec]
      simp only
      rw [if_neg (by omega)]
theorem number_hex (n : Nat) (h : n < 4294967296) : number (48 :: 120 :: hex n) = some n := by
  unfold number
  rw [if_pos (hex_pre n)]
  show valueV (hex n) 16 8 = _
  unfold valueV
  have h1 := hex_pos n
  have h2 := hex_len 7 n (by omega)
  rw [if_neg (by omega), val_hex]
  simp only
  rw [if_pos (by omega)]
theorem number_hex_big (n : Nat) (h : 4294967296 ≤ n) : number (48 :: 120 :: hex n) = none := by
  unfold number
  rw [if_pos (hex_pre n)]
  show valueV (hex n) 16 8 = _
  unfold valueV
  have h1 := hex_long 8 n (by omega)
  rw [if_pos (by omega)]
theorem number_zero (n : Nat) : number (48 :: dec n) = none := by
  unfold number
  rw [if_neg (fun c => by
    obtain ⟨t, ht⟩ := pre_x c
    rw [List.cons.injEq] at ht
    exact dec_no_x n (by rw [ht.2]; simp))]
  have := dec_pos n
  rw [if_pos ⟨by rw [List.length_cons]; omega, rfl⟩]
theorem number_letter (n : Nat) (c : UInt8) (h : 103 ≤ c.toNat ∧ c.toNat ≤ 122) : number (dec n ++ [c]) = none := by
  have hd : ¬ digit c < 16 := by
    unfold digit
    rw [if_neg (by omega), if_neg (by omega)]
    omega
  unfold number
  split
  · rename_i hp
    obtain ⟨t, ht⟩ := pre_x hp
    unfold valueV
    split
    · rfl
    · rename_i hl
      have hm : c ∈ (dec n ++ [c]).drop 2 := by
        have h1 : 3 ≤ (dec n ++ [c]).length := by
          rw [List.length_drop] at hl
          omega
        rw [List.length_append, List.length_singleton] at h1
        rw [List.drop_append_of_le_length (by omega)]
        simp
      rw [val_bad hm hd]
  · split
    · rfl
    · unfold valueV
      split
      · rfl
      · rw [val_bad (c := c) (by simp) (by omega)]
theorem words_nodig : ∀ w ∈ words, headDig w = false := by decide
theorem word_nodig {s : Bs} (h : headDig s = true) : isWord s = false := by
  unfold isWord
  rw [List.any_eq_false]
  intro w hw c
  have := words_nodig w hw
  rw [beq_iff_eq] at c
  rw [c, h] at this
  cases this
theorem name_nodig {s : Bs} (h : headDig s = true) : isName s = false := by
  unfold isName
  rw [h]
  simp
theorem dig_run {c : UInt8} (h : isDig c = true) : isRun c = true := by unfold isRun; rw [h, Bool.or_true]
theorem runLen_all {s : Bs} (h : ∀ c ∈ s, isRun c = true) : runLen s = s.length := by
  unfold runLen
  induction s with
  | nil => rfl
  | cons c s ih =>
    rw [List.takeWhile_cons, if_pos (h c List.mem_cons_self), List.length_cons, List.length_cons, ih fun x hx => h x (List.mem_cons_of_mem _ hx)]
theorem gap_run {c : UInt8} {t : Bs} (h : isRun c = true) : gap (c :: t) = 0 := by
  show (if c.toNat = 32 ∨ c.toNat = 9 ∨ c.toNat = 10 then 1 else if c.toNat = 35 then 1 + (t.takeWhile fun x => decide (x.toNat ≠ 10)).length else 0) = 0
  unfold isRun isLet isDig at h
  rw [Bool.or_eq_true, decide_eq_true_eq, decide_eq_true_eq] at h
  rw [if_neg (by omega), if_neg (by omega)]
theorem scan_letter (k : Nat) (c : UInt8) (h : 103 ≤ c.toNat ∧ c.toNat ≤ 122) : scan (dec k ++ [c]) 1 = .err 1 := by
  have hall : ∀ x ∈ dec k ++ [c], isRun x = true := by
    intro x hx
    rw [List.mem_append, List.mem_singleton] at hx
    rcases hx with hx | rfl
    · exact dig_run (dec_all k x hx)
    · unfold isRun isLet
      rw [decide_eq_true (by omega), Bool.true_or]
  have hr := runLen_all hall
  have h1 := dec_pos k
  refine scan_run_no 1 ?_ (by rw [hr, List.length_append]; omega) ?_
  · cases hd : dec k with
    | nil => rw [hd] at h1; simp at h1
    | cons d t => exact gap_run (hall d (by rw [hd]; exact List.mem_cons_self))
  · rw [hr, List.take_length]
    unfold ofRun
    have hh := dec_headDig k [c]
    rw [if_neg (by rw [word_nodig hh]; exact Bool.false_ne_true), if_neg (by rw [name_nodig hh]; exact Bool.false_ne_true), number_letter k c h]
end Go.Proofs.YthlnjnmomnpnpaaGreatDoor.Tk
