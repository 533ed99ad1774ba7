/- Branches become long: what the work list keeps, so that in the end the long ones are the least set that is closed. -/
import Derived.Test.YtcockpphacebbaaLNarrow
namespace Go.Proofs.Ytcockpphacebbaa
open Go.RowKit Rv Lb
set_option linter.unusedVariables false
def ats (l : List Itm) : List Nat := (List.range l.length).filter (brAt l)
structure Stat (l : List Itm) (bs : List Br) : Prop where
  at' : bs.map Br.at' = ats l
  to' : ∀ b ∈ bs, b.to' = to l b.at'
theorem Stat.get {l : List Itm} {bs : List Br} (h : Stat l bs) {i : Nat} {b : Br} (hb : bs[i]? = some b) : (ats l)[i]? = some b.at' := by
  rw [← h.at', List.getElem?_map, hb]
  rfl
theorem Stat.br {l : List Itm} {bs : List Br} (h : Stat l bs) {i : Nat} {b : Br} (hb : bs[i]? = some b) : brAt l b.at' = true ∧ b.at' < l.length := by
  have := List.mem_of_getElem? (h.get hb)
  unfold ats at this
  rw [List.mem_filter, List.mem_range] at this
  exact ⟨this.2, this.1⟩
theorem Stat.lt {l : List Itm} {bs : List Br} (h : Stat l bs) {i j : Nat} {b c : Br} (hb : bs[i]? = some b) (hc : bs[j]? = some c) (hij : i < j) : b.at' < c.at' := by
  have hp : (ats l).Pairwise (· < ·) := List.Pairwise.filter _ List.pairwise_lt_range
  obtain ⟨h1, e1⟩ := List.getElem?_eq_some_iff.1 (h.get hb)
  obtain ⟨h2, e2⟩ := List.getElem?_eq_some_iff.1 (h.get hc)
  have := (List.pairwise_iff_getElem.1 hp) i j h1 h2 hij
  rw [e1, e2] at this
  exact this
theorem Stat.ne {l : List Itm} {bs : List Br} (h : Stat l bs) {i j : Nat} {b c : Br} (hb : bs[i]? = some b) (hc : bs[j]? = some c) (hij : i ≠ j) : b.at' ≠ c.at' := by
  rcases Nat.lt_or_gt_of_ne hij with e | e
  · have := h.lt hb hc e; omega
  · have := h.lt hc hb e; omega
theorem Stat.has {l : List Itm} {bs : List Br} (h : Stat l bs) {k : Nat} (hk : brAt l k = true) : ∃ (i : Nat) (b : Br), bs[i]? = some b ∧ b.at' = k := by
  have hl : k < l.length := by
    unfold brAt at hk
    cases e : l[k]? with
    | none => rw [e] at hk; cases hk
    | some x => exact (List.getElem?_eq_some_iff.1 e).1
  have hm : k ∈ bs.map Br.at' := by
    rw [h.at']
    unfold ats
    rw [List.mem_filter, List.mem_range]
    exact ⟨hl, hk⟩
  obtain ⟨b, hb, e⟩ := List.mem_map.1 hm
  obtain ⟨i, hi⟩ := List.mem_iff_getElem?.1 hb
  exact ⟨i, b, hi, e⟩
theorem sz_br {l : List Itm} (g : Nat → Bool) {k : Nat} (hk : brAt l k = true) : 1 ≤ sz l g k := by
  unfold brAt at hk
  unfold sz
  cases e : l[k]? with
  | none => rw [e] at hk; cases hk
  | some x =>
    rw [e] at hk
    simp only at hk ⊢
    have := size1_br hk
    split <;> omega
theorem Stat.dist {l : List Itm} {bs : List Br} (h : Stat l bs) (g : Nat → Bool) {i d : Nat} {b c : Br} (hb : bs[i]? = some b) (hc : bs[i + d]? = some c) : place l g b.at' + d ≤ place l g c.at' := by
  induction d generalizing c with
  | zero =>
    obtain rfl : b = c := Option.some.inj (hb.symm.trans hc)
    omega
  | succ d ih =>
    have hlen : i + d + 1 < bs.length := (List.getElem?_eq_some_iff.1 hc).1
    have hm : bs[i + d]? = some bs[i + d] := List.getElem?_eq_getElem (by omega)
    have h1 := ih hm
    have h2 := h.lt hm hc (by omega)
    have h3 := sz_br g (h.br hm).1
    have h4 := place_mono l g (show (bs[i + d]).at' + 1 ≤ c.at' from h2)
    have h5 : place l g ((bs[i + d]).at' + 1) = place l g (bs[i + d]).at' + sz l g (bs[i + d]).at' := rfl
    omega
/-- who spans one that is far off has no room -/
theorem Stat.far {l : List Itm} {bs : List Br} (h : Stat l bs) (g : Nat → Bool) {i j : Nat} {b c : Br} (hb : bs[i]? = some b) (hc : bs[j]? = some c) (hs : spansB b c.at' = true) (hf : ¬ (j - 1024 ≤ i ∧ i ≤ j + 1024)) : room l g b.at' < 0 := by
  have ht := h.to' b (List.mem_of_getElem? hb)
  unfold spansB at hs
  rw [Bool.or_eq_true, decide_eq_true_eq, decide_eq_true_eq, ht] at hs
  unfold room
  rcases hs with ⟨s1, s2⟩ | ⟨s1, s2⟩
  · rw [if_pos (by omega)]
    have hij : i < j := by
      refine Nat.lt_of_not_le fun hle => ?_
      rcases Nat.lt_or_ge j i with e | e
      · have := h.lt hc hb e; omega
      · obtain rfl : i = j := by omega
        obtain rfl : b = c := Option.some.inj (hb.symm.trans hc)
        omega
    have h1 := h.dist g hb (d := j - i) (by rw [show i + (j - i) = j by omega]; exact hc)
    have h3 := sz_br g (h.br hc).1
    have h4 := place_mono l g (show c.at' + 1 ≤ to l b.at' from s2)
    have h5 : place l g (c.at' + 1) = place l g c.at' + sz l g c.at' := rfl
    omega
  · rw [if_neg (by omega)]
    have hij : j < i := by
      refine Nat.lt_of_not_le fun hle => ?_
      rcases Nat.lt_or_ge i j with e | e
      · have := h.lt hb hc e; omega
      · obtain rfl : i = j := by omega
        obtain rfl : b = c := Option.some.inj (hb.symm.trans hc)
        omega
    have h1 := h.dist g hc (d := i - j) (by rw [show j + (i - j) = i by omega]; exact hb)
    have h4 := place_mono l g (Nat.le_of_lt s1)
    omega
/-- how many branches are not long yet -/
def cnt (l : List Itm) (g : Nat → Bool) : Nat := ((ats l).filter fun k => !g k).length
theorem filter_lt {p q : Nat → Bool} {xs : List Nat} (h : ∀ x ∈ xs, q x = true → p x = true) {y : Nat} (hy : y ∈ xs) (hp : p y = true) (hq : q y = false) : (xs.filter q).length < (xs.filter p).length := by
  induction xs with
  | nil => cases hy
  | cons x t ih =>
    have hle : (t.filter q).length ≤ (t.filter p).length := by
      clear ih hy
      induction t with
      | nil => exact Nat.le_refl _
      | cons z u ih2 =>
        have := ih2 (fun w hw => h w (by simp at hw ⊢; rcases hw with e | e; exact Or.inl e; exact Or.inr (Or.inr e)))
        have hz := h z (by simp)
        rw [List.filter_cons, List.filter_cons]
        cases e1 : q z with
        | false =>
          cases e2 : p z <;> simp <;> omega
        | true =>
          rw [hz e1]
          simp
          omega
    rw [List.filter_cons, List.filter_cons]
    rcases List.mem_cons.1 hy with e | e
    · subst e
      rw [hp, hq]
      simp
      omega
    · have := ih (fun w hw => h w (List.mem_cons_of_mem _ hw)) e
      have hx := h x (by simp)
      cases e1 : q x with
      | false => cases e2 : p x <;> simp <;> omega
      | true =>
        rw [hx e1]
        simp
        omega
structure LenInv (l : List Itm) (bs : List Br) (F : List Nat) (g : Nat → Bool) : Prop where
  stat : Stat l bs
  neg : ∀ (i : Nat) (b : Br), bs[i]? = some b → (b.room < 0 ↔ (i ∈ F ∨ g b.at' = true))
  disj : ∀ (i : Nat) (b : Br), i ∈ F → bs[i]? = some b → g b.at' = false
  nodup : F.Nodup
  rng : ∀ i ∈ F, i < bs.length
  exact' : ∀ (i : Nat) (b : Br), bs[i]? = some b → 0 ≤ b.room → b.room = room l g b.at'
  fin' : ∀ (i : Nat) (b : Br), i ∈ F → bs[i]? = some b → Lb.fin l b.at' = true
  le' : le g (Lb.fin l)
  lo : ∀ (i : Nat) (b : Br), bs[i]? = some b → -1099511627776 + (cnt l g : Int) - bs.length ≤ b.room ∧ b.room ≤ 1024
theorem Stat.len {l : List Itm} {bs : List Br} (h : Stat l bs) : bs.length = (ats l).length := by rw [← h.at', List.length_map]
/-- a branch's label is no branch -/
def toLab (l : List Itm) : Prop := ∀ k, brAt l k = true → brAt l (to l k) = false
theorem le_with {l : List Itm} {g : Nat → Bool} {a : Nat} (h : le g (fin l)) (ha : fin l a = true) : le (with1 g a) (fin l) := by
  intro k hk
  unfold with1 at hk
  rw [Bool.or_eq_true, decide_eq_true_eq] at hk
  rcases hk with e | e
  · exact h k e
  · rw [e]; exact ha
theorem NrwTo.stat {l : List Itm} {bs bs' : List Br} {out : List Nat} {a L k : Nat} (h : NrwTo bs bs' out a L k) (hs : Stat l bs) : Stat l bs' := by
  have hg : ∀ i : Nat, (bs'[i]?).map Br.at' = (bs[i]?).map Br.at' := by
    intro i
    cases hb : bs[i]? with
    | none =>
      rw [List.getElem?_eq_none (by rw [h.len]; exact List.getElem?_eq_none_iff.1 hb)]
    | some b =>
      rw [h.get i b hb]
      split <;> rfl
  refine ⟨?_, ?_⟩
  · rw [← hs.at']
    apply List.ext_getElem?
    intro i
    rw [List.getElem?_map, List.getElem?_map]
    exact hg i
  · intro b' hb'
    obtain ⟨i, hi⟩ := List.mem_iff_getElem?.1 hb'
    have hlt : i < bs.length := by rw [← h.len]; exact (List.getElem?_eq_some_iff.1 hi).1
    have hb : bs[i]? = some bs[i] := List.getElem?_eq_getElem hlt
    have := h.get i _ hb
    rw [hi] at this
    have e := Option.some.inj this
    have ht := hs.to' bs[i] (List.getElem_mem _)
    rw [e]
    split
    · exact ht
    · exact ht
theorem fin_of_no {l : List Itm} {g : Nat → Bool} {k : Nat} (hg : le g (Lb.fin l)) (hb : brAt l k = true) (hr : room l g k < 0) : Lb.fin l k = true := by
  cases e : Lb.fin l k with
  | true => rfl
  | false =>
    have := reach_le hg (fin_closed l k hb e)
    rw [room_reach] at this
    omega
/-- one branch of the list becomes long -/
theorem LenInv.step {l : List Itm} {bs bs' : List Br} {F out : List Nat} {g : Nat → Bool} {j k : Nat} {c : Br} (h : LenInv l bs (F ++ [j]) g) (hc : bs[j]? = some c) (hn : NrwTo bs bs' out c.at' j k) (hk : k = bs.length ∨ k = j + 1025) (hT : toLab l) :
    LenInv l bs' (F ++ out) (with1 g c.at') ∧ cnt l (with1 g c.at') < cnt l g := by
  have hbr := h.stat.br hc
  have hgc : g c.at' = false := h.disj j c (by simp) hc
  have hfc : Lb.fin l c.at' = true := h.fin' j c (by simp) hc
  have hle := le_with h.le' hfc
  have hjF : j ∉ F := by
    have := h.nodup
    rw [List.nodup_append] at this
    intro hj
    exact this.2.2 j hj j (by simp) rfl
  have hFn : F.Nodup := (List.nodup_append.1 h.nodup).1
  have hrF : ∀ (i : Nat) (b : Br), bs[i]? = some b → b.room = 0 → i ∉ F := fun i b hb hr hi => by
    have := (h.neg i b hb).2 (Or.inl (by simp [hi]))
    omega
  have hcnt : cnt l (with1 g c.at') < cnt l g := by
    refine filter_lt (y := c.at') ?_ ?_ ?_ ?_
    · intro x _ hx
      unfold with1 at hx
      cases e : g x with
      | false => rfl
      | true => rw [e] at hx; simp at hx
    · unfold ats
      rw [List.mem_filter, List.mem_range]
      exact ⟨hbr.2, hbr.1⟩
    · rw [hgc]; rfl
    · unfold with1; simp
  have hne : ∀ (i : Nat) (b : Br), bs[i]? = some b → i ≠ j → with1 g c.at' b.at' = g b.at' := fun i b hb hi => by
    unfold with1
    rw [decide_eq_false (h.stat.ne hb hc hi), Bool.or_false]
  have htoc : ∀ (i : Nat) (b : Br), bs[i]? = some b → to l b.at' ≠ c.at' := fun i b hb e => by
    have := hT _ (h.stat.br hb).1
    rw [e, hbr.1] at this
    cases this
  have hsp : ∀ (i : Nat) (b : Br), bs[i]? = some b → spansB b c.at' = spans l b.at' c.at' := fun i b hb => by
    unfold spansB spans
    rw [h.stat.to' b (List.mem_of_getElem? hb)]
  have hwin : ∀ (i : Nat) (b : Br), bs[i]? = some b → spansB b c.at' = true → 0 ≤ b.room → winK j k i = true := by
    intro i b hb hs hr
    refine decide_eq_true ?_
    have hlt := (List.getElem?_eq_some_iff.1 hb).1
    have : j - 1024 ≤ i ∧ i ≤ j + 1024 := by
      refine Classical.byContradiction fun hf => ?_
      have h1 := h.stat.far g hb hc hs hf
      have h2 := h.exact' i b hb hr
      omega
    omega
  -- what is known of each one behind the round
  have key : ∀ (i : Nat) (b' : Br), bs'[i]? = some b' → ∃ b : Br, bs[i]? = some b ∧ b'.at' = b.at' ∧ (b'.room = b.room ∨ b'.room = b.room - 1) ∧
      ((b'.room < 0 ↔ (i ∈ F ++ out ∨ with1 g c.at' b.at' = true)) ∧ (0 ≤ b'.room → b'.room = room l (with1 g c.at') b.at') ∧ (i ∈ out → room l (with1 g c.at') b.at' < 0 ∧ g b.at' = false ∧ i ≠ j)) := by
    intro i b' hb'
    have hlt : i < bs.length := by rw [← hn.len]; exact (List.getElem?_eq_some_iff.1 hb').1
    have hb : bs[i]? = some bs[i] := List.getElem?_eq_getElem hlt
    generalize bs[i] = b at hb
    refine ⟨b, hb, ?_⟩
    have hget := hn.get i b hb
    rw [hb'] at hget
    have e := Option.some.inj hget
    have hmem := hn.mem i
    by_cases hij : i = j
    · subst hij
      obtain rfl : b = c := Option.some.inj (hb.symm.trans hc)
      have hs : spansB b b.at' = false := by unfold spansB; simp
      rw [hs, Bool.and_false] at e
      have e2 : b' = b := by simpa using e
      subst e2
      have hneg := (h.neg i b' hb).2 (Or.inl (by simp))
      have hw : with1 g b'.at' b'.at' = true := by unfold with1; simp
      refine ⟨rfl, Or.inl rfl, ⟨fun _ => Or.inr hw, fun _ => hneg⟩, fun h0 => by omega, fun ho => ?_⟩
      obtain ⟨d, hd, _, hsd, _⟩ := hmem.1 ho
      obtain rfl : b' = d := Option.some.inj (hb.symm.trans hd)
      rw [hs] at hsd
      cases hsd
    · have hw := hne i b hb hij
      have hiF : ∀ P : Prop, (i ∈ F ++ [j] ∨ P) ↔ (i ∈ F ∨ P) := fun P => by simp [hij]
      have hneg := h.neg i b hb
      rw [hiF] at hneg
      have hrw := room_with1 (l := l) (g := g) (j := c.at') (k := b.at') hbr.1 hgc (h.stat.ne hb hc hij) (htoc i b hb)
      rw [← hsp i b hb] at hrw
      have hmem' : i ∈ out ↔ (winK j k i = true ∧ spansB b c.at' = true ∧ b.room = 0) := by
        rw [hmem]
        constructor
        · rintro ⟨d, hd, h1, h2, h3⟩
          obtain rfl : b = d := Option.some.inj (hb.symm.trans hd)
          exact ⟨h1, h2, h3⟩
        · rintro ⟨h1, h2, h3⟩
          exact ⟨b, hb, h1, h2, h3⟩
      rw [hw, List.mem_append]
      by_cases hr : b.room < 0
      · have hno : i ∉ out := fun ho => by have := (hmem'.1 ho).2.2; omega
        have e3 : b'.at' = b.at' ∧ (b'.room = b.room ∨ b'.room = b.room - 1) := by
          rw [e]
          split
          · exact ⟨rfl, Or.inr rfl⟩
          · exact ⟨rfl, Or.inl rfl⟩
        refine ⟨e3.1, e3.2, ⟨fun _ => ?_, fun _ => by omega⟩, fun h0 => by omega, fun ho => absurd ho hno⟩
        rcases hneg.1 hr with h1 | h1
        · exact Or.inl (Or.inl h1)
        · exact Or.inr h1
      · have hnot : ¬ (i ∈ F ∨ g b.at' = true) := fun c2 => hr (hneg.2 c2)
        have hgb : g b.at' = false := by
          cases e4 : g b.at' with
          | false => rfl
          | true => exact absurd (Or.inr e4) hnot
        have hiF' : i ∉ F := fun c2 => hnot (Or.inl c2)
        have hex := h.exact' i b hb (by omega)
        cases hs : spansB b c.at' with
        | false =>
          rw [hs, Bool.and_false] at e
          have e2 : b' = b := by simpa using e
          subst e2
          have hno : i ∉ out := fun ho => by have := (hmem'.1 ho).2.1; rw [hs] at this; cases this
          rw [hs] at hrw
          simp at hrw
          refine ⟨rfl, Or.inl rfl, ⟨fun h0 => absurd h0 hr, fun h0 => ?_⟩, fun _ => by omega, fun ho => absurd ho hno⟩
          rcases h0 with (h1 | h1) | h1
          · exact absurd h1 hiF'
          · exact absurd h1 hno
          · rw [hgb] at h1; cases h1
        | true =>
          have hwi := hwin i b hb hs (by omega)
          rw [hs, hwi] at e
          have e2 : b' = less1 b := by simpa using e
          subst e2
          rw [hs] at hrw
          simp at hrw
          have er : (less1 b).room = b.room - 1 := rfl
          refine ⟨rfl, Or.inr rfl, ⟨fun h0 => ?_, fun h0 => ?_⟩, fun _ => by rw [er]; omega, fun ho => ?_⟩
          · rw [er] at h0
            exact Or.inl (Or.inr (hmem'.2 ⟨hwi, hs, by omega⟩))
          · rcases h0 with (h1 | h1) | h1
            · exact absurd h1 hiF'
            · have := (hmem'.1 h1).2.2
              rw [er]; omega
            · rw [hgb] at h1; cases h1
          · have := (hmem'.1 ho).2.2
            exact ⟨by omega, hgb, hij⟩
  have hst := hn.stat h.stat
  refine ⟨⟨hst, ?_, ?_, ?_, ?_, ?_, ?_, hle, ?_⟩, hcnt⟩
  · intro i b' hb'
    obtain ⟨b, hb, ea, _, k1, _, _⟩ := key i b' hb'
    rw [ea]
    exact k1
  · intro i b' hi hb'
    obtain ⟨b, hb, ea, _, k1, _, k3⟩ := key i b' hb'
    rw [ea]
    rcases List.mem_append.1 hi with h1 | h1
    · have hij : i ≠ j := by rintro rfl; exact hjF h1
      rw [hne i b hb hij]
      exact h.disj i b (by simp [h1]) hb
    · obtain ⟨_, h2, h3⟩ := k3 h1
      rw [hne i b hb h3]
      exact h2
  · rw [List.nodup_append]
    refine ⟨hFn, hn.nodup, ?_⟩
    rintro x hx y hy rfl
    obtain ⟨b, hb, _, _, hr⟩ := (hn.mem x).1 hy
    exact hrF x b hb hr hx
  · intro i hi
    rw [hn.len]
    rcases List.mem_append.1 hi with h1 | h1
    · exact h.rng i (by simp [h1])
    · obtain ⟨b, hb, _⟩ := (hn.mem i).1 h1
      exact (List.getElem?_eq_some_iff.1 hb).1
  · intro i b' hb' hr
    obtain ⟨b, hb, ea, _, _, k2, _⟩ := key i b' hb'
    rw [ea]
    exact k2 hr
  · intro i b' hi hb'
    obtain ⟨b, hb, ea, _, k1, _, k3⟩ := key i b' hb'
    rw [ea]
    rcases List.mem_append.1 hi with h1 | h1
    · exact h.fin' i b (by simp [h1]) hb
    · exact fin_of_no hle (h.stat.br hb).1 (k3 h1).1
  · intro i b' hb'
    obtain ⟨b, hb, ea, er, _⟩ := key i b' hb'
    have := h.lo i b hb
    rw [hn.len]
    omega
/-- in the end the long ones are the least closed set -/
theorem LenInv.done {l : List Itm} {bs : List Br} {g : Nat → Bool} (h : LenInv l bs [] g) : g = Lb.fin l := by
  refine fin_unique (fun k hk hg => ?_) h.le'
  obtain ⟨i, b, hb, rfl⟩ := h.stat.has hk
  rw [room_reach]
  have hr : ¬ b.room < 0 := fun c => by
    rcases (h.neg i b hb).1 c with e | e
    · cases e
    · rw [hg] at e; cases e
  rw [← h.exact' i b hb (by omega)]
  omega
end Go.Proofs.Ytcockpphacebbaa
