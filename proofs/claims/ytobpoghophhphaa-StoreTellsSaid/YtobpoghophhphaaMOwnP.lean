/- StoreOwn in plain words: a hart loads what it stored last, whatever was drained. -/
import Derived.Test.YtobpoghophhphaaMAwayP
import Derived.Test.YtobpoghophhphaaMSumsP
namespace Go.Proofs.Ytobpoghophhphaa.Mm
open Go.RowKit (wrap32)
open Plain (two isTwo)
set_option linter.unusedVariables false
structure Ow (m : Mem) (f : Nat → Int) : Prop where
  big : Big m 2 4
  r0 : row m 0 = []
  own : ∀ k : Nat, k < 4 → loadN m 1 k = f k
def put4 (f : Nat → Int) (a : Nat) (x : Int) : Nat → Int := fun k => if a = k then x else f k
theorem ow_new : ∃ m, newV 2 4 = (m, 0) ∧ Ow m (fun _ => 0) := by
  obtain ⟨m, e, b, p, w, _⟩ := new_big (h := 2) (n := 4) (by decide) (by decide) (by decide)
  have hr : ∀ h : Nat, h < 2 → row m h = [] := fun h hh => p _ (row_mem (isH_of b hh))
  refine ⟨m, e, b, hr 0 (by decide), fun k hk => ?_⟩
  have h1 : row m 1 = [] := hr 1 (by decide)
  rw [load_nil h1]
  exact w k
theorem ow_load {m : Mem} {f : Nat → Int} (o : Ow m f) {k : Nat} (hk : k < 4) : loadV m 1 k = (f k, 0) := by
  have e := load_eq o.big (h := 1) (a := k) (by decide) hk
  rw [← o.own k hk]
  exact e
theorem ow_store {m m' : Mem} {f : Nat → Int} {a : Nat} {n r : Int} (o : Ow m f) (ha : a < 4) (e : storeV m 1 a n = (m', r)) (hr : r = 0) : Ow m' (put4 f a (wrap32 n)) := by
  subst hr
  have e : storeV m ((1 : Nat) : Int) a n = (m', 0) := e
  by_cases hl : 8 ≤ (row m ((1 : Nat) : Int)).length
  · rw [store_full o.big (by decide) ha hl n] at e
    injection e with _ e
    exact absurd e (by decide)
  · rw [store_eq o.big (by decide) ha (by omega) n] at e
    injection e with e1 _
    rw [← e1]
    obtain ⟨h8, hat⟩ := row_at o.big (h := 1) (by decide)
    refine ⟨big_setP' o.big _ (by rw [List.length_append, List.length_singleton]; omega) (fun e he => ?_), ?_, fun k hk => ?_⟩
    · rcases List.mem_append.1 he with h | h
      · exact hat e h
      · rw [List.mem_singleton.1 h]; exact ⟨by simp, by simp; omega⟩
    · exact (row_other (m := m) (h := 1) (k := 0) (by decide) _).trans o.r0
    · have hs := row_same o.big (h := 1) (by decide) (row m ((1 : Nat) : Int) ++ [((a : Int), wrap32 n)])
      show last (row (setP m ((1 : Nat) : Int) _) ((1 : Nat) : Int)) k (wordN m k) = _
      rw [hs, last_snoc]
      unfold put4
      by_cases hc : a = k
      · rw [if_pos (show (a : Int) = k by omega), if_pos hc]
      · rw [if_neg (show ¬ (a : Int) = k by omega), if_neg hc]
        exact o.own k hk
theorem last_skip {a b : List (Int × Int)} {x : Int × Int} (hn : ∀ y ∈ a, y.1 ≠ x.1) (k d : Int) : Mm.last (a ++ b) k (if x.1 = k then x.2 else d) = Mm.last (a ++ x :: b) k d := by
  have app : ∀ (l l' : List (Int × Int)) (d : Int), Mm.last (l ++ l') k d = Mm.last l' k (Mm.last l k d) := fun l l' d => by unfold Mm.last; rw [List.foldl_append]
  rw [app, app]
  show _ = Mm.last b k (if x.1 = k then x.2 else Mm.last a k d)
  congr 1
  by_cases hc : x.1 = k
  · rw [if_pos hc, if_pos hc]
    have none : ∀ (l : List (Int × Int)) (d : Int), (∀ y ∈ l, y.1 ≠ k) → Mm.last l k d = d := by
      intro l
      induction l with
      | nil => intro d _; rfl
      | cons y l ih =>
        intro d h
        show Mm.last l k (if y.1 = k then y.2 else d) = d
        rw [if_neg (h y (by simp))]
        exact ih d fun z hz => h z (by simp [hz])
    exact none a _ fun y hy => by rw [← hc]; exact hn y hy
  · rw [if_neg hc, if_neg hc]
theorem ow_drain {m m' : Mem} {f : Nat → Int} {j : Nat} {r : Int} (o : Ow m f) (e : drainV m 1 j = (m', r)) (hr : r = 0) : Ow m' f := by
  have e : drainV m ((1 : Nat) : Int) j = (m', r) := e
  obtain ⟨x, hx, hh, rfl, hany⟩ := drain_form e hr
  have hxm : x ∈ row m ((1 : Nat) : Int) := List.mem_of_getElem? hx
  have hxa := o.big.ok.at_ _ (row_mem hh) x hxm
  rw [o.big.w] at hxa
  obtain ⟨xa, hxe⟩ : ∃ xa : Nat, x.1 = xa := ⟨x.1.toNat, by omega⟩
  obtain ⟨g8, gat⟩ := row_at o.big (h := 1) (by decide)
  have hsub : ∀ e ∈ (row m ((1 : Nat) : Int)).eraseIdx j, e ∈ row m ((1 : Nat) : Int) := fun e he => List.mem_of_mem_eraseIdx he
  have bs : Big (setP m ((1 : Nat) : Int) ((row m ((1 : Nat) : Int)).eraseIdx j)) 2 4 := big_setP' o.big _ (Nat.le_trans (List.length_eraseIdx_le _ _) g8) (fun e he => gat e (hsub e he))
  refine ⟨big_arr bs _ _ _, (row_other (m := m) (h := 1) (k := 0) (by decide) _).trans o.r0, fun k hk => ?_⟩
  have hlt := (List.getElem?_eq_some_iff.1 hx).1
  have hxv : (row m ((1 : Nat) : Int))[j] = x := (List.getElem?_eq_some_iff.1 hx).2
  have hl : row m ((1 : Nat) : Int) = (row m ((1 : Nat) : Int)).take j ++ x :: (row m ((1 : Nat) : Int)).drop (j + 1) := by rw [← hxv, ← List.drop_eq_getElem_cons hlt, List.take_append_drop]
  have hs := row_same o.big (h := 1) (by decide) ((row m ((1 : Nat) : Int)).eraseIdx j)
  have hw : wordN (arr (setP m ((1 : Nat) : Int) ((row m ((1 : Nat) : Int)).eraseIdx j)) ((1 : Nat) : Int) x.1 x.2) k = if x.1 = (k : Int) then x.2 else wordN m k := by
    rw [hxe]
    by_cases hc : xa = k
    · subst hc
      rw [if_pos rfl, word_same bs hk]
    · rw [if_neg (by omega), word_other hc]
      rfl
  show last (row (setP m ((1 : Nat) : Int) _) ((1 : Nat) : Int)) k (wordN _ k) = f k
  rw [hs, hw, List.eraseIdx_eq_take_drop_succ, last_skip (a := (row m ((1 : Nat) : Int)).take j) (b := (row m ((1 : Nat) : Int)).drop (j + 1)) (x := x) (fun y hy => ?_), ← hl]
  · exact o.own k hk
  · have := List.any_eq_false.1 hany y hy
    simpa using this
theorem ow_flush {m : Mem} {f : Nat → Int} (o : Ow m f) : ∃ m', flushV m 1 = (m', 0) ∧ Ok m' ∧ ∀ k : Nat, k < 4 → loadV m' 0 k = (f k, 0) := by
  have b := big_flush o.big ((1 : Nat) : Int)
  refine ⟨flushN m ((1 : Nat) : Int), flush_eq o.big (h := 1) (by decide), b.ok, fun k hk => ?_⟩
  have e := load_eq b (h := 0) (a := k) (by decide) hk
  have hr : row (flushN m ((1 : Nat) : Int)) ((0 : Nat) : Int) = [] := by
    have h1 : row (flushN m ((1 : Nat) : Int)) ((0 : Nat) : Int) = row (arrs m ((1 : Nat) : Int) (row m ((1 : Nat) : Int))) ((0 : Nat) : Int) := row_other (h := 1) (k := 0) (by decide) []
    rw [h1]
    unfold row
    have hp : ∀ (l : List (Int × Int)) (m : Mem), (arrs m ((1 : Nat) : Int) l).pend = m.pend := by
      intro l
      induction l with
      | nil => intro m; rfl
      | cons e l ih => intro m; exact ih (arr m _ e.1 e.2)
    rw [hp]
    exact o.r0
  rw [load_nil hr] at e
  have hw : wordN (flushN m ((1 : Nat) : Int)) k = f k := by
    show wordN (arrs m ((1 : Nat) : Int) (row m ((1 : Nat) : Int))) k = f k
    rw [arrs_word o.big _ hk _ (row_at o.big (h := 1) (by decide)).2]
    exact o.own k hk
  rw [hw] at e
  exact e
end Go.Proofs.Ytobpoghophhphaa.Mm
