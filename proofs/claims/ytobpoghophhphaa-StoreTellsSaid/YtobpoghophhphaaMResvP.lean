/- StoreReserves in plain words: a hart's reserved word, till another one's store goes there. -/
import Derived.Test.YtobpoghophhphaaMOwnP
namespace Go.Proofs.Ytobpoghophhphaa.Mm
open Go.RowKit (wrap32)
open Plain (two isTwo)
set_option linter.unusedVariables false
structure Rv (m : Mem) (w : Nat) (t : Bool) : Prop where
  big : Big m 2 4
  r0 : row m 0 = []
  rs : resN m 0 = if t then -1 else (w : Int)
theorem res_arr (m : Mem) (ok : Ok m) {k : Nat} (hk : isH m k = true) (h a n : Int) : resN (arr m h a n) k = if (k : Int) ≠ h ∧ resN m k = a then -1 else resN m k := by
  have hg := res_get ok hk
  rw [Int.toNat_natCast] at hg
  unfold resN arr
  rw [List.getD_eq_getElem?_getD, Int.toNat_natCast, List.getElem?_mapIdx, hg]
  have hv : m.res.getD k 0 = resN m k := rfl
  rw [hv]
  rfl
theorem res_setP (m : Mem) (h : Int) (l : List (Int × Int)) (k : Int) : resN (setP m h l) k = resN m k := rfl
theorem res_setR_other {m : Mem} {h k : Nat} (hne : h ≠ k) (x : Int) : resN (setR m h x) k = resN m k := by
  unfold resN setR
  rw [List.getD_eq_getElem?_getD, List.getD_eq_getElem?_getD, Int.toNat_natCast, Int.toNat_natCast, List.getElem?_set_ne hne]
theorem res_setR_same {m : Mem} (ok : Ok m) {h : Nat} (hh : isH m h = true) (x : Int) : resN (setR m h x) h = x := by
  have := isH_iff.1 hh
  unfold resN setR
  rw [List.getD_eq_getElem?_getD, Int.toNat_natCast, List.getElem?_set_self (by rw [ok.pr]; omega)]
  rfl
theorem rv_new {w : Nat} (hw : w < 4) : ∃ m m1 x, newV 2 4 = (m, 0) ∧ Ok m ∧ reserveV m 0 w = (x, m1, 0) ∧ Rv m1 w false := by
  obtain ⟨m, e, b, p, _, _⟩ := new_big (h := 2) (n := 4) (by decide) (by decide) (by decide)
  have hr : row m ((0 : Nat) : Int) = [] := p _ (row_mem (isH_of b (by decide)))
  have er := reserve_eq b (h := 0) (a := w) (by decide) hw hr
  refine ⟨m, setR m ((0 : Nat) : Int) w, wordN m w, e, b.ok, er, big_setR b _ _, hr, ?_⟩
  exact res_setR_same b.ok (isH_of b (h := 0) (by decide)) w
theorem rv_store {m m' : Mem} {w a : Nat} {t : Bool} {n r : Int} (o : Rv m w t) (ha : a < 4) (e : storeV m 1 a n = (m', r)) (hr : r = 0) : Rv m' w t := by
  subst hr
  have e : storeV m ((1 : Nat) : Int) a n = (m', 0) := e
  by_cases hl : 8 ≤ (row m ((1 : Nat) : Int)).length
  · rw [store_full o.big (by decide) ha hl n] at e
    injection e with _ e
    exact absurd e (by decide)
  · rw [store_eq o.big (by decide) ha (by omega) n] at e
    injection e with e1 _
    rw [← e1]
    obtain ⟨h8, hat⟩ := row_at o.big (h := 1) (by decide)
    refine ⟨big_setP' o.big _ (by rw [List.length_append, List.length_singleton]; omega) (fun e he => ?_), (row_other (m := m) (h := 1) (k := 0) (by decide) _).trans o.r0, o.rs⟩
    rcases List.mem_append.1 he with h | h
    · exact hat e h
    · rw [List.mem_singleton.1 h]; exact ⟨by simp, by simp; omega⟩
/-- a store of the second hart goes to memory -/
theorem rv_arr {m : Mem} {w : Nat} {t : Bool} (o : Rv m w t) {a : Int} (ha : 0 ≤ a) (n : Int) : Rv (arr m 1 a n) w (t || decide (a = w)) := by
  refine ⟨big_arr o.big _ _ _, o.r0, ?_⟩
  have h := res_arr m o.big.ok (k := 0) (isH_of o.big (by decide)) 1 a n
  have h' : resN (arr m 1 a n) 0 = if ((0 : Nat) : Int) ≠ 1 ∧ resN m ((0 : Nat) : Int) = a then -1 else resN m ((0 : Nat) : Int) := h
  rw [h']
  have hs : resN m ((0 : Nat) : Int) = if t then -1 else (w : Int) := o.rs
  rw [hs]
  cases t with
  | true => rw [if_neg (by simp; omega)]; simp
  | false =>
    by_cases hc : a = (w : Int)
    · rw [if_pos (by simp [hc])]; simp [hc]
    · rw [if_neg (by simp; exact fun e => hc e.symm)]; simp [hc]
theorem rv_drain {m m' : Mem} {w j : Nat} {t : Bool} {r : Int} (o : Rv m w t) (e : drainV m 1 j = (m', r)) (hr : r = 0) : ∃ x, (row m 1)[j]? = some x ∧ Rv m' w (t || decide (x.1 = w)) := by
  have e : drainV m ((1 : Nat) : Int) j = (m', r) := e
  obtain ⟨x, hx, hh, rfl, _⟩ := drain_form e hr
  refine ⟨x, hx, ?_⟩
  have hxa := o.big.ok.at_ _ (row_mem hh) x (List.mem_of_getElem? hx)
  obtain ⟨g8, gat⟩ := row_at o.big (h := 1) (by decide)
  have bs : Big (setP m ((1 : Nat) : Int) ((row m ((1 : Nat) : Int)).eraseIdx j)) 2 4 := big_setP' o.big _ (Nat.le_trans (List.length_eraseIdx_le _ _) g8) (fun e he => gat e (List.mem_of_mem_eraseIdx he))
  exact rv_arr ⟨bs, (row_other (m := m) (h := 1) (k := 0) (by decide) _).trans o.r0, o.rs⟩ hxa.1 x.2
theorem rv_change {m m' : Mem} {w a : Nat} {t : Bool} {q n r : Int} (o : Rv m w t) (ha : a < 4) (e : changeV m 1 a 0 n = (q, m', r)) (hr : r = 0) : Rv m' w (t || decide ((a : Int) = w)) := by
  subst hr
  have e : changeV m ((1 : Nat) : Int) a 0 n = (q, m', 0) := e
  by_cases hl : 0 < (row m ((1 : Nat) : Int)).length
  · rw [change_busy o.big (by decide) ha hl 0 n (.inr rfl)] at e
    injection e with _ e
    injection e with _ e
    exact absurd e (by decide)
  · rw [change_eq o.big (by decide) ha (List.eq_nil_of_length_eq_zero (by omega)) 0 n (.inr rfl)] at e
    injection e with _ e
    injection e with e2 _
    rw [← e2]
    exact rv_arr o (by omega) _
theorem rv_reserve {m m' : Mem} {w a : Nat} {t : Bool} {q r : Int} (o : Rv m w t) (ha : a < 4) (e : reserveV m 1 a = (q, m', r)) (hr : r = 0) : Rv m' w t := by
  subst hr
  have e : reserveV m ((1 : Nat) : Int) a = (q, m', 0) := e
  by_cases hl : 0 < (row m ((1 : Nat) : Int)).length
  · rw [reserve_busy o.big (by decide) ha hl] at e
    injection e with _ e
    injection e with _ e
    exact absurd e (by decide)
  · rw [reserve_eq o.big (by decide) ha (List.eq_nil_of_length_eq_zero (by omega))] at e
    injection e with _ e
    injection e with e2 _
    rw [← e2]
    exact ⟨big_setR o.big _ _, o.r0, (res_setR_other (h := 1) (k := 0) (by decide) _).trans o.rs⟩
/-- how it ends -/
theorem rv_end {m : Mem} {w o : Nat} {t : Bool} (v : Rv m w t) (hw : w < 4) (ho : o < 4) (n : Int) : ∃ (is wrong again : Bool) (m1 m2 m3 : Mem) (x was : Int), condV m 0 o n = (wrong, m1, 0) ∧ condV m 0 w n = (is, m2, 0) ∧ Ok m2 ∧ condV m2 0 w n = (again, m3, 0) ∧ loadV m2 0 w = (x, 0) ∧ loadV m 0 w = (was, 0) ∧
    is = !t ∧ wrong = (is && decide ((o : Int) = w)) ∧ again = false ∧ (is = true → x = wrap32 n) ∧ (is = false → x = was) := by
  have h0 : isH m ((0 : Nat) : Int) = true := isH_of v.big (by decide)
  have hr : row m ((0 : Nat) : Int) = [] := v.r0
  have hs : resN m ((0 : Nat) : Int) = if t then -1 else (w : Int) := v.rs
  have ew := cond_eq v.big (h := 0) (a := w) (by decide) hw hr n
  have eo := cond_eq v.big (h := 0) (a := o) (by decide) ho hr n
  obtain ⟨m2, hm2⟩ : ∃ m2, setR (if resN m ((0 : Nat) : Int) = (w : Int) then arr m ((0 : Nat) : Int) w (wrap32 n) else m) ((0 : Nat) : Int) (-1) = m2 := ⟨_, rfl⟩
  have b1 : Big (if resN m ((0 : Nat) : Int) = (w : Int) then arr m ((0 : Nat) : Int) w (wrap32 n) else m) 2 4 := by split; exact big_arr v.big _ _ _; exact v.big
  have b2 : Big m2 2 4 := by rw [← hm2]; exact big_setR b1 _ _
  have r2 : row m2 ((0 : Nat) : Int) = [] := by rw [← hm2]; show row (if _ then _ else _) _ = []; split; exact hr; exact hr
  have s2 : resN m2 ((0 : Nat) : Int) = -1 := by rw [← hm2]; exact res_setR_same b1.ok (isH_of b1 (by decide)) (-1)
  have ea := cond_eq b2 (h := 0) (a := w) (by decide) hw r2 n
  rw [s2, decide_eq_false (by omega : ¬ (-1 : Int) = (w : Int)), if_neg (by omega)] at ea
  have lx := load_eq b2 (h := 0) (a := w) (by decide) hw
  rw [load_nil r2] at lx
  have lw := load_eq v.big (h := 0) (a := w) (by decide) hw
  rw [load_nil hr] at lw
  have w2 : wordN m2 w = if resN m ((0 : Nat) : Int) = (w : Int) then wrap32 n else wordN m w := by
    rw [← hm2]
    show wordN (if _ then _ else _) w = _
    split
    · exact word_same v.big hw _ _
    · rfl
  rw [hm2] at ew
  refine ⟨_, _, false, _, m2, _, wordN m2 w, wordN m w, eo, ew, b2.ok, ea, lx, lw, ?_, ?_, rfl, fun h => ?_, fun h => ?_⟩
  · rw [hs]
    cases t with
    | true => simp
    | false => simp
  · rw [hs]
    cases t with
    | true => simp
    | false => simp; by_cases hc : (w : Int) = o <;> simp [hc] <;> omega
  · rw [w2, if_pos (of_decide_eq_true h)]
  · rw [w2, if_neg (of_decide_eq_false h)]
end Go.Proofs.Ytobpoghophhphaa.Mm
