/- StoreTurns in plain words: two stores to unlike words may be drained in either order. -/
import Derived.Test.YtobpoghophhphaaMResvP
namespace Go.Proofs.Ytobpoghophhphaa.Mm
open Go.RowKit (wrap32)
set_option linter.unusedVariables false
/-- one that may be drained is -/
theorem drain_yes {m : Mem} {H N : Nat} (b : Big m H N) {h k : Nat} (hh : h < H) {x : Int × Int} (hx : (row m h)[k]? = some x) (ha : ((row m h).take k).any (fun z => decide (z.1 = x.1)) = false) : drainV m h k = (arr (setP m h ((row m h).eraseIdx k)) h x.1 x.2, 0) := by
  have hkl := (List.getElem?_eq_some_iff.1 hx).1
  have hg : (row m h).getD k (0, 0) = x := by rw [List.getD_eq_getElem?_getD, hx]; rfl
  unfold drainV
  rw [isH_of b hh, decide_eq_true (by omega : (0 : Int) ≤ (k : Int)), decide_eq_true (by omega : (k : Int) < ((row m h).length : Int)), if_pos (by rfl), Int.toNat_natCast, hg, ha, if_neg (by decide)]
theorem drain_no {m : Mem} {H N : Nat} (b : Big m H N) {h k : Nat} (hh : h < H) {x : Int × Int} (hx : (row m h)[k]? = some x) (ha : ((row m h).take k).any (fun z => decide (z.1 = x.1)) = true) : drainV m h k = (zero, 91) := by
  have hkl := (List.getElem?_eq_some_iff.1 hx).1
  have hg : (row m h).getD k (0, 0) = x := by rw [List.getD_eq_getElem?_getD, hx]; rfl
  unfold drainV
  rw [isH_of b hh, decide_eq_true (by omega : (0 : Int) ≤ (k : Int)), decide_eq_true (by omega : (k : Int) < ((row m h).length : Int)), if_pos (by rfl), Int.toNat_natCast, hg, ha, if_pos rfl]
theorem arr_comm (m : Mem) {a c : Int} {x y : Int × Int} (hne : x.1 ≠ y.1) (hx : 0 ≤ x.1) (hy : 0 ≤ y.1) : arr (arr m a x.1 x.2) c y.1 y.2 = arr (arr m c y.1 y.2) a x.1 x.2 := by
  unfold arr
  congr 1
  · exact List.set_comm _ _ (by omega)
  · apply List.ext_getElem?
    intro i
    simp only [List.getElem?_mapIdx]
    cases m.res[i]? with
    | none => rfl
    | some r =>
      simp only [Option.map_some, Option.some.injEq]
      by_cases h1 : (i : Int) ≠ a ∧ r = x.1 <;> by_cases h2 : (i : Int) ≠ c ∧ r = y.1
      · exact absurd (h1.2.symm.trans h2.2) hne
      · rw [if_pos h1, if_neg h2, if_neg (fun c => by omega), if_pos h1]
      · rw [if_neg h1, if_pos h2, if_neg (fun c => by omega)]
      · simp only [if_neg h1, if_neg h2]
theorem arr_setP (m : Mem) (h a n g : Int) (l : List (Int × Int)) : arr (setP m g l) h a n = setP (arr m h a n) g l := rfl
theorem setP_setP_same (m : Mem) (h : Int) (l l' : List (Int × Int)) : setP (setP m h l) h l' = setP m h l' := by unfold setP; simp
theorem setP_comm (m : Mem) {a c : Nat} (hne : a ≠ c) (l l' : List (Int × Int)) : setP (setP m a l) c l' = setP (setP m c l') a l := by
  unfold setP
  simp only [Int.toNat_natCast]
  rw [List.set_comm _ _ hne]
theorem any_mono {a b : List (Int × Int)} {p : Int × Int → Bool} (h : ∀ x ∈ a, x ∈ b) (hb : b.any p = false) : a.any p = false := by
  rw [List.any_eq_false] at hb ⊢
  exact fun x hx => hb x (h x hx)
theorem mem_take_at {l : List (Int × Int)} {k : Nat} {x : Int × Int} (h : x ∈ l.take k) : ∃ t, t < k ∧ l[t]? = some x := by
  obtain ⟨t, ht⟩ := List.getElem?_of_mem h
  have hlt := (List.getElem?_eq_some_iff.1 ht).1
  rw [List.length_take] at hlt
  rw [List.getElem?_take_of_lt (by omega)] at ht
  exact ⟨t, by omega, ht⟩
theorem at_mem_take {l : List (Int × Int)} {k t : Nat} {x : Int × Int} (ht : t < k) (h : l[t]? = some x) : x ∈ l.take k := by
  refine List.mem_of_getElem? (i := t) ?_
  rw [List.getElem?_take_of_lt ht]
  exact h
/-- two of one hart, the first ahead of the second -/
theorem turns_same {m : Mem} {H N : Nat} (b : Big m H N) {a i k : Nat} (ha : a < H) {x y : Int × Int} (hx : (row m a)[i]? = some x) (hy : (row m a)[k]? = some y) (hne : x.1 ≠ y.1) (hik : i < k)
    (ax : ((row m a).take i).any (fun z => decide (z.1 = x.1)) = false) (ay : ((row m a).take k).any (fun z => decide (z.1 = y.1)) = false) (bp : Big (arr (setP m a ((row m a).eraseIdx i)) a x.1 x.2) H N) (bq : Big (arr (setP m a ((row m a).eraseIdx k)) a y.1 y.2) H N) (h0 : 0 ≤ x.1) (h1 : 0 ≤ y.1) :
    ∃ r1, drainV (arr (setP m a ((row m a).eraseIdx i)) a x.1 x.2) a ((k - 1 : Nat) : Int) = (r1, 0) ∧ drainV (arr (setP m a ((row m a).eraseIdx k)) a y.1 y.2) a i = (r1, 0) := by
  have rp : row (arr (setP m a ((row m a).eraseIdx i)) a x.1 x.2) a = (row m a).eraseIdx i := row_same b ha _
  have rq : row (arr (setP m a ((row m a).eraseIdx k)) a y.1 y.2) a = (row m a).eraseIdx k := row_same b ha _
  have hyp : (row (arr (setP m a ((row m a).eraseIdx i)) a x.1 x.2) a)[k - 1]? = some y := by
    rw [rp, List.getElem?_eraseIdx, if_neg (by omega), show k - 1 + 1 = k by omega]
    exact hy
  have hxq : (row (arr (setP m a ((row m a).eraseIdx k)) a y.1 y.2) a)[i]? = some x := by
    rw [rq, List.getElem?_eraseIdx, if_pos (by omega)]
    exact hx
  have ayp : ((row (arr (setP m a ((row m a).eraseIdx i)) a x.1 x.2) a).take (k - 1)).any (fun z => decide (z.1 = y.1)) = false := by
    rw [rp]
    refine any_mono (fun z hz => ?_) ay
    obtain ⟨t, ht, hg⟩ := mem_take_at hz
    rw [List.getElem?_eraseIdx] at hg
    split at hg
    · exact at_mem_take (by omega) hg
    · exact at_mem_take (t := t + 1) (by omega) hg
  have axq : ((row (arr (setP m a ((row m a).eraseIdx k)) a y.1 y.2) a).take i).any (fun z => decide (z.1 = x.1)) = false := by
    rw [rq]
    refine any_mono (fun z hz => ?_) ax
    obtain ⟨t, ht, hg⟩ := mem_take_at hz
    rw [List.getElem?_eraseIdx, if_pos (by omega)] at hg
    exact at_mem_take ht hg
  have hl : ((row m a).eraseIdx i).eraseIdx (k - 1) = ((row m a).eraseIdx k).eraseIdx i := by
    apply List.ext_getElem?
    intro t
    simp only [List.getElem?_eraseIdx]
    by_cases h1 : t < i
    · rw [if_pos (by omega), if_pos h1, if_pos h1, if_pos (by omega)]
    · by_cases h2 : t < k - 1
      · rw [if_pos h2, if_neg h1, if_neg h1, if_pos (by omega)]
      · rw [if_neg h2, if_neg (by omega), if_neg h1, if_neg (by omega)]
  refine ⟨_, drain_yes bp ha hyp ayp, ?_⟩
  rw [drain_yes bq ha hxq axq, rp, rq]
  change (setP (setP (arr (arr m a y.1 y.2) a x.1 x.2) a _) a _, (0 : Int)) = (setP (setP (arr (arr m a x.1 x.2) a y.1 y.2) a _) a _, 0)
  rw [setP_setP_same, setP_setP_same, hl, arr_comm m hne h0 h1]
theorem turns_all {m : Mem} {H N : Nat} (b : Big m H N) {a c i k : Nat} (ha : a < H) (hc : c < H) {x y : Int × Int} (hx : (row m a)[i]? = some x) (hy : (row m c)[k]? = some y) (hne : x.1 ≠ y.1) :
    ∃ (p q : Mem) (e f : Int), drainV m a i = (p, e) ∧ drainV m c k = (q, f) ∧ Ok p ∧ Ok q ∧ (e ≠ 0 ∨ f ≠ 0 → e = 91 ∨ f = 91) ∧
      (e = 0 → f = 0 → ∃ (l j : Nat) (r1 : Mem), l = (if a = c ∧ i < k then k - 1 else k) ∧ j = (if a = c ∧ k < i then i - 1 else i) ∧ drainV p c l = (r1, 0) ∧ drainV q a j = (r1, 0) ∧ Ok r1) := by
  have hxm := row_at b ha
  have hym := row_at b hc
  have h0 := (hxm.2 x (List.mem_of_getElem? hx)).1
  have h1 := (hym.2 y (List.mem_of_getElem? hy)).1
  have bx : Big (setP m a ((row m a).eraseIdx i)) H N := big_setP' b a (Nat.le_trans (List.length_eraseIdx_le _ _) hxm.1) (fun e he => hxm.2 e (List.mem_of_mem_eraseIdx he))
  have by' : Big (setP m c ((row m c).eraseIdx k)) H N := big_setP' b c (Nat.le_trans (List.length_eraseIdx_le _ _) hym.1) (fun e he => hym.2 e (List.mem_of_mem_eraseIdx he))
  have bp := big_arr bx a x.1 x.2
  have bq := big_arr by' c y.1 y.2
  cases ax : ((row m a).take i).any (fun z => decide (z.1 = x.1)) with
  | true =>
    have op := ok_drain b.ok c k
    exact ⟨zero, (drainV m c k).1, 91, (drainV m c k).2, drain_no b ha hx ax, rfl, ok_zero, op, fun _ => .inl rfl, fun e => absurd e (by decide)⟩
  | false =>
    cases ay : ((row m c).take k).any (fun z => decide (z.1 = y.1)) with
    | true => exact ⟨_, zero, 0, 91, drain_yes b ha hx ax, drain_no b hc hy ay, bp.ok, ok_zero, fun _ => .inr rfl, fun _ e => absurd e (by decide)⟩
    | false =>
      refine ⟨_, _, 0, 0, drain_yes b ha hx ax, drain_yes b hc hy ay, bp.ok, bq.ok, fun h => by rcases h with h | h <;> exact absurd rfl h, fun _ _ => ?_⟩
      by_cases hac : a = c
      · subst hac
        by_cases hik : i < k
        · obtain ⟨r1, e1, e2⟩ := turns_same b ha hx hy hne hik ax ay bp bq h0 h1
          have o := ok_drain bp.ok a ((k - 1 : Nat) : Int)
          rw [e1] at o
          exact ⟨k - 1, i, r1, by rw [if_pos ⟨rfl, hik⟩], by rw [if_neg (by omega)], e1, e2, o⟩
        · by_cases hki : k < i
          · obtain ⟨r1, e1, e2⟩ := turns_same b ha hy hx (Ne.symm hne) hki ay ax bq bp h1 h0
            have o := ok_drain bp.ok a (k : Int)
            rw [e2] at o
            exact ⟨k, i - 1, r1, by rw [if_neg (by omega)], by rw [if_pos ⟨rfl, hki⟩], e2, e1, o⟩
          · obtain rfl : i = k := by omega
            rw [hx] at hy
            injection hy with hy
            exact absurd (by rw [hy]) hne
      · have rp : row (arr (setP m a ((row m a).eraseIdx i)) a x.1 x.2) c = row m c := row_other hac _
        have rq : row (arr (setP m c ((row m c).eraseIdx k)) c y.1 y.2) a = row m a := row_other (fun e => hac e.symm) _
        have e1 := drain_yes bp hc (x := y) (k := k) (by rw [rp]; exact hy) (by rw [rp]; exact ay)
        have e2 := drain_yes bq ha (x := x) (k := i) (by rw [rq]; exact hx) (by rw [rq]; exact ax)
        rw [rp] at e1
        rw [rq] at e2
        have o := ok_drain bp.ok c (k : Int)
        rw [e1] at o
        refine ⟨k, i, _, by rw [if_neg (by omega)], by rw [if_neg (by omega)], e1, ?_, o⟩
        rw [e2]
        change (setP (setP (arr (arr m c y.1 y.2) a x.1 x.2) c _) a _, (0 : Int)) = (setP (setP (arr (arr m a x.1 x.2) c y.1 y.2) a _) c _, 0)
        rw [arr_comm m hne h0 h1, setP_comm _ hac]
end Go.Proofs.Ytobpoghophhphaa.Mm
