/- What may be may be in another numbering, and without loads and fences. -/
import Derived.Test.YtigefdoejcggpaaNHist2
namespace Go.Proofs.Ytigefdoejcggpaa
namespace Ax
theorem keep_pair {l : List Ev} {o : List Int} : Keep l o ↔ o.Pairwise (fun a b => kp l b a = false) := by
  constructor
  · intro h
    rw [List.pairwise_iff_getElem]
    intro i j hi hj hij
    have e := split_at (List.getElem?_eq_getElem hi)
    refine h _ _ _ e _ (List.mem_cons_of_mem _ ?_)
    rw [List.mem_drop_iff_getElem]
    exact ⟨j - (i + 1), by omega, by congr 1; omega⟩
  · intro h x i y e k hk
    subst e
    rw [List.pairwise_append, List.pairwise_cons] at h
    rcases List.mem_cons.1 hk with rfl | hk
    · refine Bool.eq_false_iff.2 fun c => ?_
      have := ahd_lt (kp_ahd c)
      omega
    · exact h.2.1.1 k hk
theorem fen_iff {l : List Ev} {i k : Int} : fen l i k = true ↔ ∃ q : Nat, i.toNat ≤ q ∧ q < k.toNat ∧ q < l.length ∧ isFen (ev l i).1 (ev l q) = true := by
  unfold fen
  rw [List.any_eq_true]
  constructor
  · rintro ⟨e, he, hf⟩
    obtain ⟨j, hj⟩ := List.mem_iff_getElem?.1 he
    rw [List.getElem?_drop, List.getElem?_take] at hj
    split at hj
    · exact ⟨i.toNat + j, by omega, by assumption, (List.getElem?_eq_some_iff.1 hj).1, by rw [ev_get hj]; exact hf⟩
    · cases hj
  · rintro ⟨q, h1, h2, h3, h4⟩
    refine ⟨ev l q, List.mem_iff_getElem?.2 ⟨q - i.toNat, ?_⟩, h4⟩
    rw [List.getElem?_drop, List.getElem?_take, if_pos (by omega), show i.toNat + (q - i.toNat) = q by omega]
    exact get_ev h3
structure Emb (l' l : List Ev) (f : Int → Int) : Prop where
  plc : ∀ j, plc l' j = true → plc l (f j) = true
  kind : ∀ j, Ax.plc l' j = true → (ev l' j).2.1 = (ev l (f j)).2.1
  num : ∀ j, Ax.plc l' j = true → (ev l' j).2.2.2 = (ev l (f j)).2.2.2
  hart : ∀ i j, Ax.plc l' i = true → Ax.plc l' j = true → ((ev l' i).1 = (ev l' j).1 ↔ (ev l (f i)).1 = (ev l (f j)).1)
  word : ∀ i j, Ax.plc l' i = true → Ax.plc l' j = true → ((ev l' i).2.2.1 = (ev l' j).2.2.1 ↔ (ev l (f i)).2.2.1 = (ev l (f j)).2.2.1)
  mono : ∀ i j, Ax.plc l' i = true → Ax.plc l' j = true → (i < j ↔ f i < f j)
  fen : ∀ i j, Ax.plc l' i = true → Ax.plc l' j = true → fen l' i j = true → fen l (f i) (f j) = true
  store : ∀ x, Ax.plc l x = true → (ev l x).2.1 = 2 → ∃ j, Ax.plc l' j = true ∧ f j = x
namespace Emb
variable {l' l : List Ev} {f : Int → Int}
theorem inj (E : Emb l' l f) {i j : Int} (hi : Ax.plc l' i = true) (hj : Ax.plc l' j = true) (h : f i = f j) : i = j := by
  have h1 := E.mono i j hi hj
  have h2 := E.mono j i hj hi
  rw [h] at h1
  rw [h] at h2
  omega
open Classical in
/-- the place that goes to a place, if there is one -/
noncomputable def inv (l' : List Ev) (f : Int → Int) (x : Int) : Option Int := if h : ∃ j, Ax.plc l' j = true ∧ f j = x then some h.choose else none
theorem inv_some {x j : Int} (h : inv l' f x = some j) : Ax.plc l' j = true ∧ f j = x := by
  unfold inv at h
  split at h
  · rename_i hh
    injection h with h
    subst h
    exact hh.choose_spec
  · cases h
theorem inv_of (E : Emb l' l f) {j : Int} (hj : Ax.plc l' j = true) : inv l' f (f j) = some j := by
  unfold inv
  rw [dif_pos ⟨j, hj, rfl⟩]
  congr 1
  have hh : ∃ i, Ax.plc l' i = true ∧ f i = f j := ⟨j, hj, rfl⟩
  have := hh.choose_spec
  exact E.inj this.1 hj this.2
theorem map_inv (x : List Int) : (x.filterMap (inv l' f)).map f = x.filter (fun a => (inv l' f a).isSome) := by
  induction x with
  | nil => rfl
  | cons a x ih =>
    cases h : inv l' f a with
    | none => rw [List.filterMap_cons_none h, ih, List.filter_cons_of_neg (by rw [h]; exact Bool.false_ne_true)]
    | some j => rw [List.filterMap_cons_some h, List.map_cons, ih, List.filter_cons_of_pos (by rw [h]; rfl), (inv_some h).2]
theorem kp_up (E : Emb l' l f) {i k : Int} (hi : Ax.plc l' i = true) (hk : Ax.plc l' k = true) (h : kp l' i k = true) : kp l (f i) (f k) = true := by
  unfold kp ahd isSt at h ⊢
  simp only [Bool.and_eq_true, Bool.or_eq_true, decide_eq_true_eq] at h ⊢
  obtain ⟨⟨h1, h2⟩, h3⟩ := h
  refine ⟨⟨(E.mono i k hi hk).1 h1, (E.hart i k hi hk).1 h2⟩, ?_⟩
  rcases h3 with (h3 | ⟨h3, h4⟩) | h3
  · exact .inl (.inl (by rw [← E.kind i hi]; exact h3))
  · exact .inl (.inr ⟨by rw [← E.kind k hk]; exact h3, (E.word k i hk hi).1 h4⟩)
  · exact .inr (E.fen i k hi hk h3)
theorem lst_fm {p p' : Int → Bool} (hp : ∀ x, p x = true → ∃ j, inv l' f x = some j) (hq : ∀ x j, inv l' f x = some j → p' j = p x ∧ (ev l' j).2.2.2 = (ev l x).2.2.2) (d : Int) (x : List Int) : lst l' p' d (x.filterMap (inv l' f)) = lst l p d x := by
  induction x generalizing d with
  | nil => rfl
  | cons a x ih =>
    cases h : inv l' f a with
    | none =>
      rw [List.filterMap_cons_none h, ih]
      have : p a = false := Bool.eq_false_iff.2 fun c => by obtain ⟨j, hj⟩ := hp a c; rw [h] at hj; cases hj
      show _ = lst l p (if p a then (ev l a).2.2.2 else d) x
      rw [this]
      rfl
    | some j =>
      rw [List.filterMap_cons_some h]
      show lst l' p' (if p' j then (ev l' j).2.2.2 else d) _ = lst l p (if p a then (ev l a).2.2.2 else d) x
      rw [ih, (hq a j h).1, (hq a j h).2]
theorem holds (E : Emb l' l f) (hr : right l' = true) {o : List Int} (h : Holds l o) : Holds l' (o.filterMap (inv l' f)) := by
  obtain ⟨_, ho, hk, ht⟩ := holds_parts.1 h
  have hsub : List.Sublist ((o.filterMap (inv l' f)).map f) o := by rw [map_inv]; exact List.filter_sublist
  have hpl : ∀ k ∈ o.filterMap (inv l' f), Ax.plc l' k = true := fun k hk => by
    obtain ⟨x, _, hx⟩ := List.mem_filterMap.1 hk
    exact (inv_some hx).1
  refine holds_parts.2 ⟨hr, ⟨hpl, ?_, fun i hi ha => ?_⟩, ?_, ?_⟩
  · have h1 := List.Pairwise.sublist hsub ho.one
    rw [List.pairwise_map] at h1
    exact h1.imp fun {a b} h c => h (by rw [c])
  · have hp := plc_of hi ha
    obtain ⟨x0, x1, x2⟩ := plc_acc (E.plc _ hp)
    have := ho.all (f i).toNat (by omega) (by rw [Int.toNat_of_nonneg x0]; exact x2)
    rw [Int.toNat_of_nonneg x0] at this
    exact List.mem_filterMap.2 ⟨f i, this, E.inv_of hp⟩
  · rw [keep_pair] at hk ⊢
    have h1 := List.Pairwise.sublist hsub hk
    rw [List.pairwise_map] at h1
    refine List.Pairwise.imp_of_mem (fun {a b} ha hb h => ?_) h1
    refine Bool.eq_false_iff.2 fun c => ?_
    rw [E.kp_up (hpl b hb) (hpl a ha) c] at h
    cases h
  · intro x' i y' e hl
    have hi : Ax.plc l' i = true := hpl i (by rw [e]; simp)
    obtain ⟨x, z, e1, e2, e3⟩ := List.filterMap_eq_append_iff.1 e
    obtain ⟨z1, fi, y, e4, e5, e6, e7⟩ := List.filterMap_eq_cons_iff.1 e3
    obtain ⟨-, hfi⟩ := inv_some e6
    subst hfi
    have eo : o = (x ++ z1) ++ f i :: y := by rw [e1, e4]; simp
    have h1 := ht _ _ _ eo (by rw [← E.kind i hi]; exact hl)
    rw [E.num i hi, h1]
    have hz : z1.filterMap (inv l' f) = [] := List.filterMap_eq_nil_iff.2 e5
    have hx : (x ++ z1).filterMap (inv l' f) = x' := by rw [List.filterMap_append, e2, hz, List.append_nil]
    rw [← hx, ← e7]
    have hq1 : ∀ a j, inv l' f a = some j → pw l' i j = pw l (f i) a ∧ (ev l' j).2.2.2 = (ev l a).2.2.2 := fun a j h => by
      obtain ⟨hj, rfl⟩ := inv_some h
      refine ⟨?_, E.num j hj⟩
      unfold pw isSt
      rw [E.kind j hj, Bool.eq_iff_iff]
      simp only [Bool.and_eq_true, decide_eq_true_eq]
      exact and_congr_right fun _ => E.word j i hj hi
    have hin : ∀ a ∈ o, pw l (f i) a = true → ∃ j, inv l' f a = some j := fun a ha hp => by
      unfold pw isSt at hp
      simp only [Bool.and_eq_true, decide_eq_true_eq] at hp
      obtain ⟨j, hj, e⟩ := E.store a (ho.plc a ha) hp.1
      exact ⟨j, by rw [← e]; exact E.inv_of hj⟩
    have lfm : ∀ (p p' : Int → Bool) (d : Int) (u : List Int), (∀ a ∈ u, p a = true → ∃ j, inv l' f a = some j) → (∀ a j, inv l' f a = some j → p' j = p a ∧ (ev l' j).2.2.2 = (ev l a).2.2.2) → lst l' p' d (u.filterMap (inv l' f)) = lst l p d u := by
      intro p p' d u hu hq
      induction u generalizing d with
      | nil => rfl
      | cons a u ih =>
        cases h : inv l' f a with
        | none =>
          rw [List.filterMap_cons_none h, ih _ fun b hb => hu b (List.mem_cons_of_mem _ hb)]
          have : p a = false := Bool.eq_false_iff.2 fun c => by obtain ⟨j, hj⟩ := hu a (List.mem_cons_self ..) c; rw [h] at hj; cases hj
          show _ = lst l p (if p a then (ev l a).2.2.2 else d) u
          rw [this]
          rfl
        | some j =>
          rw [List.filterMap_cons_some h]
          show lst l' p' (if p' j then (ev l' j).2.2.2 else d) _ = lst l p (if p a then (ev l a).2.2.2 else d) u
          rw [ih _ fun b hb => hu b (List.mem_cons_of_mem _ hb), (hq a j h).1, (hq a j h).2]
    rw [lfm (pw l (f i)) (pw l' i) 0 (x ++ z1) (fun a ha => hin a (by rw [eo]; exact List.mem_append_left _ ha)) hq1]
    rw [lfm (fun k => pw l (f i) k && ahd l k (f i)) (fun k => pw l' i k && ahd l' k i) _ y (fun a ha hp => hin a (by rw [eo]; simp [ha]) (by rw [Bool.and_eq_true] at hp; exact hp.1)) (fun a j h => ?_)]
    obtain ⟨h1, h2⟩ := hq1 a j h
    obtain ⟨hj, rfl⟩ := inv_some h
    refine ⟨?_, h2⟩
    rw [h1]
    congr 1
    unfold ahd
    rw [Bool.eq_iff_iff]
    simp only [Bool.and_eq_true, decide_eq_true_eq]
    exact and_congr (E.mono j i hj hi) (E.hart j i hj hi)
theorem allowed (E : Emb l' l f) (hr : right l' = true) (h : Ax.allowed l = true) : Ax.allowed l' = true := by
  obtain ⟨o, ho⟩ := allowed_iff.1 h
  exact allowed_iff.2 ⟨_, E.holds hr ho⟩
end Emb
end Ax
end Go.Proofs.Ytigefdoejcggpaa
