/- StoreSums in plain words: what is added to the first word, while nothing is on its way there. -/
import Derived.Test.YtobpoghophhphaaMLawP
namespace Go.Proofs.Ytobpoghophhphaa.Mm
open Go.RowKit (wrap32)
open Plain (two isTwo)
set_option linter.unusedVariables false
structure Sm (m : Mem) (sum : Int) : Prop where
  big : Big m 3 4
  pd : ∀ l ∈ m.pend, ∀ e ∈ l, e.1 ≠ 0
  w0 : wordN m 0 = sum
theorem new_big {h n : Nat} (h1 : 1 ≤ h) (h4 : h ≤ 4) (hn : n ≤ 4096) : ∃ m, newV h n = (m, 0) ∧ Big m h n ∧ (∀ l ∈ m.pend, l = []) ∧ (∀ a : Nat, wordN m a = 0) ∧ (∀ k : Nat, k < h → resN m k = -1) := by
  have o := ok_new h n
  have e : newV h n = (⟨List.replicate n 0, List.replicate h [], List.replicate h (-1)⟩, 0) := by
    unfold newV
    rw [if_pos (by simp only [Bool.and_eq_true, decide_eq_true_eq]; omega), Int.toNat_natCast, Int.toNat_natCast]
  rw [e] at o
  refine ⟨_, e, ⟨o, List.length_replicate, List.length_replicate⟩, fun l hl => List.eq_of_mem_replicate hl, fun a => ?_, fun k hk => ?_⟩
  · unfold wordN
    rw [List.getD_eq_getElem?_getD, List.getElem?_replicate]
    split <;> rfl
  · unfold resN
    rw [List.getD_eq_getElem?_getD, List.getElem?_replicate, if_pos (by rw [Int.toNat_natCast]; exact hk)]
    rfl
theorem sm_new : ∃ m, newV 3 4 = (m, 0) ∧ Sm m 0 := by
  obtain ⟨m, e, b, p, w, _⟩ := new_big (h := 3) (n := 4) (by decide) (by decide) (by decide)
  exact ⟨m, e, b, fun l hl e he => (by rw [p l hl] at he; cases he), w 0⟩
theorem sm_change {m m' : Mem} {s q r n : Int} {h : Nat} (S : Sm m s) (hh : h < 3) (e : changeV m h 0 1 n = (q, m', r)) : r = 0 → q = s ∧ Sm m' (two 1 s n) := by
  intro hr
  subst hr
  by_cases hl : 0 < (row m h).length
  · rw [show (0 : Int) = ((0 : Nat) : Int) from rfl, change_busy S.big hh (by decide) hl 1 n (.inl rfl)] at e
    injection e with _ e
    injection e with _ e
    exact absurd e (by decide)
  · have hr : row m h = [] := List.eq_nil_of_length_eq_zero (by omega)
    rw [show (0 : Int) = ((0 : Nat) : Int) from rfl, change_eq S.big hh (by decide) hr 1 n (.inl rfl)] at e
    injection e with e1 e
    injection e with e2 _
    have h0 : wordN m ((0 : Nat) : Int) = s := S.w0
    rw [h0] at e1 e2
    refine ⟨e1.symm, ?_⟩
    have eo : opOf s 1 n = two 1 s n := by unfold opOf; rw [if_neg (by decide)]
    rw [eo] at e2
    rw [← e2]
    exact ⟨big_arr S.big _ _ _, S.pd, word_same S.big (a := 0) (by decide) h _⟩
theorem sm_store {m m' : Mem} {s r n : Int} {h a : Nat} (S : Sm m s) (hh : h < 3) (ha : a < 4) (h0 : a ≠ 0) (e : storeV m h a n = (m', r)) : r = 0 → Sm m' s := by
  intro hr
  subst hr
  by_cases hl : 8 ≤ (row m h).length
  · rw [store_full S.big hh ha hl n] at e
    injection e with _ e
    exact absurd e (by decide)
  · rw [store_eq S.big hh ha (by omega) n] at e
    injection e with e1 _
    rw [← e1]
    obtain ⟨h8, hat⟩ := row_at S.big hh
    refine ⟨big_setP' S.big h (by rw [List.length_append, List.length_singleton]; omega) (fun e he => ?_), fun l hl e he => ?_, S.w0⟩
    · rcases List.mem_append.1 he with h | h
      · exact hat e h
      · rw [List.mem_singleton.1 h]; exact ⟨by simp, by simp; omega⟩
    · rcases List.mem_or_eq_of_mem_set hl with h | rfl
      · exact S.pd l h e he
      · rcases List.mem_append.1 he with h | h
        · exact S.pd _ (row_mem (isH_of S.big hh)) e h
        · rw [List.mem_singleton.1 h]; show (a : Int) ≠ 0; omega
theorem drain_form {m m' : Mem} {r : Int} {h k : Nat} (e : drainV m h k = (m', r)) (hr : r = 0) : ∃ x, (row m h)[k]? = some x ∧ isH m h = true ∧ m' = arr (setP m h ((row m h).eraseIdx k)) h x.1 x.2 ∧ ((row m h).take k).any (fun z => decide (z.1 = x.1)) = false := by
  subst hr
  unfold drainV at e
  split at e
  · rename_i hc
    rw [Bool.and_eq_true, Bool.and_eq_true, decide_eq_true_eq, decide_eq_true_eq] at hc
    rw [Int.toNat_natCast] at e
    split at e
    · injection e with _ e
      exact absurd e (by decide)
    · rename_i ha
      injection e with e1 _
      have hkl : k < (row m h).length := by omega
      refine ⟨(row m h).getD k (0, 0), ?_, hc.1, e1.symm, Bool.eq_false_iff.2 ha⟩
      rw [List.getD_eq_getElem?_getD, List.getElem?_eq_getElem hkl]
      rfl
  · injection e with _ e
    exact absurd e (by decide)
theorem sm_drain {m m' : Mem} {s r : Int} {h k : Nat} (S : Sm m s) (e : drainV m h k = (m', r)) : r = 0 → Sm m' s := by
  intro hr
  obtain ⟨x, hx, hh, rfl, _⟩ := drain_form e hr
  have hxm : x ∈ row m h := List.mem_of_getElem? hx
  have hx0 := S.pd _ (row_mem hh) x hxm
  have hxa := S.big.ok.at_ _ (row_mem hh) x hxm
  obtain ⟨xa, hxe⟩ : ∃ xa : Nat, x.1 = xa := ⟨x.1.toNat, by omega⟩
  have hsub : ∀ e ∈ (row m h).eraseIdx k, e ∈ row m h := fun e he => List.mem_of_mem_eraseIdx he
  have o : Ok (setP m h ((row m h).eraseIdx k)) := ok_setP S.big.ok h (Nat.le_trans (List.length_eraseIdx_le _ _) (S.big.ok.p8 _ (row_mem hh))) (fun e he => S.big.ok.at_ _ (row_mem hh) e (hsub e he))
  refine ⟨big_arr (big_setP S.big o) _ _ _, fun l hl e he => ?_, ?_⟩
  · rcases List.mem_or_eq_of_mem_set hl with h1 | rfl
    · exact S.pd l h1 e he
    · exact S.pd _ (row_mem hh) e (hsub e he)
  · rw [hxe]
    have := word_other (m := setP m h ((row m h).eraseIdx k)) (a := xa) (k := 0) (by omega) h x.2
    exact this.trans S.w0
theorem sm_load {m : Mem} {s : Int} (S : Sm m s) : loadV m 1 0 = (s, 0) := by
  have e := load_eq S.big (h := 1) (a := 0) (by decide) (by decide)
  have hn : loadN m ((1 : Nat) : Int) ((0 : Nat) : Int) = s := by
    unfold loadN
    rw [← S.w0]
    have hz : ∀ (l : List (Int × Int)) (d : Int), (∀ e ∈ l, e.1 ≠ 0) → last l ((0 : Nat) : Int) d = d := by
      intro l
      induction l with
      | nil => intro d _; rfl
      | cons x l ih =>
        intro d h
        show last l _ (if x.1 = _ then x.2 else d) = d
        rw [if_neg (show ¬ x.1 = ((0 : Nat) : Int) from h x (by simp))]
        exact ih d (fun e he => h e (by simp [he]))
    exact hz _ _ (S.pd _ (row_mem (isH_of S.big (h := 1) (by decide))))
  rw [← hn]
  exact e
end Go.Proofs.Ytobpoghophhphaa.Mm
