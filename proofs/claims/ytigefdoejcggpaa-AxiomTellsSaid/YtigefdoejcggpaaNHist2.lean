/- What the search finds is what holds. -/
import Derived.Test.YtigefdoejcggpaaNHist
namespace Go.Proofs.Ytigefdoejcggpaa
namespace Ax
theorem nonneg {l : List Ev} {x : List Int} (h : ∀ k ∈ x, plc l k = true) : ∀ k ∈ x, 0 ≤ k := fun k hk => (plc_acc (h k hk)).1
theorem opn_stOf {l : List Ev} {x : List Int} (h : ∀ k ∈ x, plc l k = true) (i : Nat) : opn l (stOf l x) i = (isAcc (ev l i) && decide ((i : Int) ∉ x)) := by
  unfold opn
  rw [bit_stOf (nonneg h)]
  simp
theorem run_iff {l : List Ev} {pre o : List Int} (hp : ∀ k ∈ pre, plc l k = true) :
    Run l (stOf l pre) o ↔ (∀ x i y, o = x ++ i :: y → plc l i = true ∧ i ∉ pre ++ x ∧ nextB l (stOf l (pre ++ x)) i.toNat = true) ∧ ∀ i : Nat, i < l.length → isAcc (ev l i) = true → (i : Int) ∈ pre ++ o := by
  induction o generalizing pre with
  | nil =>
    constructor
    · intro h
      refine ⟨fun x i y e => by cases x <;> simp at e, fun i hi ha => ?_⟩
      have := h i hi
      rw [opn_stOf hp, ha] at this
      simpa using this
    · rintro ⟨-, h⟩ i hi
      rw [opn_stOf hp]
      by_cases ha : isAcc (ev l i) = true
      · have := h i hi ha
        simp at this
        simp [this]
      · simp [ha]
  | cons k o ih =>
    constructor
    · rintro ⟨i, rfl, hi, h1, h2, h3⟩
      rw [opn_stOf hp] at h1
      simp only [Bool.and_eq_true, decide_eq_true_eq] at h1
      have hpi := plc_of hi h1.1
      have e : wth (stOf l pre) i (ev l i) = stOf l (pre ++ [(i : Int)]) := by rw [stOf_snoc, Int.toNat_natCast]
      rw [e, ih (fun k hk => by rcases List.mem_append.1 hk with h | h; exact hp k h; rw [List.mem_singleton.1 h]; exact hpi)] at h3
      refine ⟨fun x j y e => ?_, fun j hj ha => ?_⟩
      · cases x with
        | nil =>
          injection e with e1 e2
          subst e1
          rw [List.append_nil, Int.toNat_natCast]
          exact ⟨hpi, h1.2, h2⟩
        | cons a x =>
          injection e with e1 e2
          subst e1
          obtain ⟨b1, b2, b3⟩ := h3.1 x j y e2
          rw [List.append_assoc] at b2 b3
          exact ⟨b1, b2, b3⟩
      · have := h3.2 j hj ha
        rwa [List.append_assoc] at this
    · rintro ⟨h1, h2⟩
      obtain ⟨a1, a2, a3⟩ := h1 [] k o rfl
      rw [List.append_nil] at a2 a3
      obtain ⟨b1, b2, b3⟩ := plc_acc a1
      obtain ⟨i, rfl⟩ : ∃ i : Nat, k = i := ⟨k.toNat, by omega⟩
      refine ⟨i, rfl, by omega, by rw [opn_stOf hp, b3]; simpa using a2, by rwa [Int.toNat_natCast] at a3, ?_⟩
      have e : wth (stOf l pre) i (ev l i) = stOf l (pre ++ [(i : Int)]) := by rw [stOf_snoc, Int.toNat_natCast]
      rw [e, ih (fun k hk => by rcases List.mem_append.1 hk with h | h; exact hp k h; rw [List.mem_singleton.1 h]; exact a1)]
      refine ⟨fun x j y e => ?_, fun j hj ha => ?_⟩
      · obtain ⟨c1, c2, c3⟩ := h1 (i :: x) j y (by rw [e]; rfl)
        rw [List.append_assoc]
        exact ⟨c1, c2, c3⟩
      · have := h2 j hj ha
        rwa [List.append_assoc]
/-- an order, by its parts -/
def Keep (l : List Ev) (o : List Int) : Prop := ∀ x i y, o = x ++ i :: y → ∀ k ∈ i :: y, kp l k i = false
def Tell (l : List Ev) (o : List Int) : Prop := ∀ x i y, o = x ++ i :: y → (ev l i).2.1 = 1 → (ev l i).2.2.2 = lst l (fun k => pw l i k && ahd l k i) (lst l (pw l i) 0 x) y
structure Ordr (l : List Ev) (o : List Int) : Prop where
  plc : ∀ k ∈ o, plc l k = true
  one : o.Nodup
  all : ∀ i : Nat, i < l.length → isAcc (ev l i) = true → (i : Int) ∈ o
theorem ord_ordr {l : List Ev} {o : List Int} : Ord l o ↔ Ordr l o := by
  constructor
  · rintro ⟨h1, h2⟩
    refine ⟨fun k hk => ?_, ?_, fun i hi ha => h2 i _ (get_ev hi) ha⟩
    · obtain ⟨p, hp⟩ := List.mem_iff_getElem?.1 hk
      exact (h1 p k hp).1
    · rw [List.Nodup, List.pairwise_iff_getElem]
      intro i j hi hj hij e
      refine (h1 j _ (List.getElem?_eq_getElem hj)).2 ?_
      rw [← e, List.mem_take_iff_getElem]
      exact ⟨i, by omega, rfl⟩
  · rintro ⟨h1, h2, h3⟩
    refine ⟨fun p x hx => ⟨h1 x (List.mem_of_getElem? hx), fun c => ?_⟩, fun i e he ha => h3 i (List.getElem?_eq_some_iff.1 he).1 (by rw [ev_get he]; exact ha)⟩
    rw [List.mem_take_iff_getElem] at c
    obtain ⟨i, hi, e⟩ := c
    rw [List.Nodup, List.pairwise_iff_getElem] at h2
    obtain ⟨hp, e2⟩ := List.getElem?_eq_some_iff.1 hx
    exact h2 i p (by omega) hp (by omega) (by rw [e, e2])
theorem split_at {o : List Int} {p : Nat} {k : Int} (h : o[p]? = some k) : o = o.take p ++ k :: o.drop (p + 1) := by
  obtain ⟨hp, e⟩ := List.getElem?_eq_some_iff.1 h
  have := List.take_append_drop p o
  rw [List.drop_eq_getElem_cons hp, e] at this
  exact this.symm
theorem nodup_split {o x y : List Int} {i : Int} (h : o.Nodup) (e : o = x ++ i :: y) : i ∉ x ∧ i ∉ y ∧ ∀ k ∈ x, k ∉ y := by
  subst e
  rw [List.nodup_append, List.nodup_cons] at h
  obtain ⟨_, ⟨h2, _⟩, h3⟩ := h
  exact ⟨fun c => h3 i c i (List.mem_cons_self ..) rfl, h2, fun k hk c => h3 k hk k (List.mem_cons_of_mem _ c) rfl⟩
theorem holds_parts {l : List Ev} {o : List Int} : Holds l o ↔ right l = true ∧ Ordr l o ∧ Keep l o ∧ Tell l o := by
  unfold Holds
  refine and_congr_right fun hr => ?_
  rw [ord_ordr]
  refine and_congr_right fun ho => ?_
  constructor
  · intro h
    have key : ∀ x i y, o = x ++ i :: y → (∀ k ∈ i :: y, kp l k i = false) ∧ ((ev l i).2.1 = 1 → (ev l i).2.2.2 = val l o i) := by
      intro x i y e
      have := h x.length i (by rw [e]; simp)
      rw [e, List.drop_left] at this
      rw [e]
      exact this
    refine ⟨fun x i y e => (key x i y e).1, fun x i y e hl => ?_⟩
    rw [(key x i y e).2 hl, e]
    exact val_split hl (nodup_split ho.one e).1 y
  · rintro ⟨h1, h2⟩ p k hk
    have e := split_at hk
    have ed : o.drop p = k :: o.drop (p + 1) := by
      obtain ⟨hp, e⟩ := List.getElem?_eq_some_iff.1 hk
      rw [List.drop_eq_getElem_cons hp, e]
    refine ⟨fun i hi => ?_, fun hl => ?_⟩
    · rw [ed] at hi
      exact h1 _ k _ e i hi
    · have h3 := h2 _ k _ e hl
      have h4 := val_split hl (nodup_split ho.one e).1 (o.drop (p + 1))
      rw [← e] at h4
      rw [h3, h4]
theorem kp_ahd {l : List Ev} {i k : Int} (h : kp l i k = true) : ahd l i k = true := by
  unfold kp at h
  rw [Bool.and_eq_true] at h
  exact h.1
theorem ahd_lt {l : List Ev} {i k : Int} (h : ahd l i k = true) : i < k := by
  unfold ahd at h
  rw [Bool.and_eq_true, decide_eq_true_eq] at h
  exact h.1
/-- what is pending of a load's own hart, in order, is in program's order -/
theorem pend_eq {l : List Ev} {o x y : List Int} {i : Nat} (ho : Ordr l o) (hk : Keep l o) (e : o = x ++ (i : Int) :: y) (hi : i < l.length) :
    y.filter (fun k => pw l i k && ahd l k i) = ((List.range i).map Int.ofNat).filter (fun k => ahd l k i && pw l i k && decide (k ∉ x)) := by
  obtain ⟨n1, n2, n3⟩ := nodup_split ho.one e
  have hsub : ∀ k ∈ y, k ∈ o := fun k hk => by rw [e]; simp [hk]
  refine rise_eq ?_ ?_ fun k => ?_
  · rw [List.pairwise_filter]
    have : y.Pairwise (fun a b => a ≠ b ∧ kp l b a = false) := by
      rw [List.pairwise_iff_getElem]
      intro a b ha hb hab
      constructor
      · have := ho.one
        rw [e, List.nodup_append, List.nodup_cons, List.Nodup] at this
        exact (List.pairwise_iff_getElem.1 this.2.1.2) a b ha hb hab
      · have h1 : o = (x ++ (i : Int) :: y.take a) ++ y[a] :: y.drop (a + 1) := by
          rw [e, List.append_assoc, List.cons_append]
          congr 2
          have := List.take_append_drop a y
          rw [List.drop_eq_getElem_cons ha] at this
          exact this.symm
        refine hk _ _ _ h1 _ (List.mem_cons_of_mem _ ?_)
        rw [List.mem_drop_iff_getElem]
        exact ⟨b - (a + 1), by omega, by congr 1; omega⟩
    refine this.imp fun {a b} ⟨hne, hkp⟩ pa pb => ?_
    rw [Bool.and_eq_true] at pa pb
    have ra := ahd_lt pa.2
    have rb := ahd_lt pb.2
    by_cases hlt : a < b
    · exact hlt
    · exfalso
      have : kp l b a = true := by
        have ea := pa.2
        have eb := pb.2
        have wa := pa.1
        have wb := pb.1
        unfold ahd at ea eb
        unfold pw isSt at wa wb
        simp only [Bool.and_eq_true, decide_eq_true_eq] at ea eb wa wb
        unfold kp ahd isSt
        simp only [Bool.and_eq_true, Bool.or_eq_true, decide_eq_true_eq]
        exact ⟨⟨by omega, eb.2.trans ea.2.symm⟩, .inl (.inr ⟨wa.1, wa.2.trans wb.2.symm⟩)⟩
      rw [hkp] at this
      cases this
  · rw [List.pairwise_filter, List.pairwise_map]
    have := List.pairwise_lt_range (n := i)
    refine this.imp fun {a b} h _ _ => ?_
    exact Int.ofNat_lt.2 h
  · rw [List.mem_filter, List.mem_filter, List.mem_map]
    constructor
    · rintro ⟨hy, hp⟩
      rw [Bool.and_eq_true] at hp
      have h1 := ahd_lt hp.2
      have h0 := (plc_acc (ho.plc k (hsub k hy))).1
      refine ⟨⟨k.toNat, List.mem_range.2 (by omega), by show ((k.toNat : Nat) : Int) = k; omega⟩, ?_⟩
      rw [hp.1, hp.2]
      simp only [Bool.and_self, Bool.true_and, decide_eq_true_eq]
      exact fun c => n3 k c hy
    · rintro ⟨⟨j, hj, rfl⟩, hp⟩
      simp only [Bool.and_eq_true, decide_eq_true_eq] at hp
      have hj := List.mem_range.1 hj
      refine ⟨?_, by rw [hp.1.1, hp.1.2]; rfl⟩
      have ha : isAcc (ev l j) = true := by
        have := hp.1.2
        unfold pw isSt at this
        simp only [Bool.and_eq_true, decide_eq_true_eq] at this
        unfold isAcc
        simp [show (ev l j).2.1 = 2 from this.1]
      have hm := ho.all j (by omega) ha
      rw [e, List.mem_append, List.mem_cons] at hm
      rcases hm with h | h | h
      · exact absurd h hp.2
      · have h : (j : Int) = i := h; omega
      · exact h
theorem loadV_eq {l : List Ev} {x : List Int} {i : Nat} (hr : right l = true) (hp : ∀ k ∈ x, plc l k = true) (hi : plc l i = true) : loadV l (stOf l x) i = lst l (fun k => ahd l k i && pw l i k && decide (k ∉ x)) (lst l (pw l i) 0 x) ((List.range i).map Int.ofNat) := by
  obtain ⟨b0, b4⟩ := acc_at (right_ev hr hi) (plc_acc hi).2.2
  unfold loadV ldk
  rw [wat_stOf hr b0 b4 hp]
  unfold lst
  rw [List.foldl_map]
  congr 1
  funext n k
  rw [bit_stOf (nonneg hp)]
  simp only [Int.ofNat_eq_natCast, decide_not]
theorem next_iff {l : List Ev} {s : St} {i : Nat} : nextB l s i = true ↔ (∀ k : Nat, k < i → isAcc (ev l k) = true → bit s k = false → kp l k i = false) ∧ ((ev l i).2.1 = 1 → (ev l i).2.2.2 = loadV l s i) := by
  unfold nextB
  simp only [Bool.and_eq_true, List.all_eq_true, List.mem_range, Bool.or_eq_true, Bool.not_eq_true', decide_eq_false_iff_not, decide_eq_true_iff]
  refine and_congr ⟨fun h k hk ha hb => ?_, fun h k hk => ?_⟩ ⟨fun h hl => h.resolve_left fun c => c hl, fun h => ?_⟩
  · have := h k hk
    rw [ha, hb] at this
    simpa using this
  · cases ha : isAcc (ev l k)
    · simp
    · cases hb : bit s k
      · rw [h k hk ha hb]; simp
      · simp
  · by_cases hl : (ev l i).2.1 = 1
    · exact .inr (h hl)
    · exact .inl hl
theorem run_holds {l : List Ev} {o : List Int} (hr : right l = true) : Run l init o ↔ Ordr l o ∧ Keep l o ∧ Tell l o := by
  have h0 : init = stOf l [] := rfl
  rw [h0, run_iff (by simp)]
  simp only [List.nil_append]
  constructor
  · rintro ⟨h1, h2⟩
    have hpl : ∀ k ∈ o, plc l k = true := fun k hk => by
      obtain ⟨x, y, e⟩ := List.append_of_mem hk
      exact (h1 x k y e).1
    have hone : o.Nodup := by
      rw [List.Nodup, List.pairwise_iff_getElem]
      intro a b ha hb hab e
      have h3 := (h1 _ _ _ (split_at (List.getElem?_eq_getElem hb))).2.1
      rw [← e] at h3
      refine h3 ?_
      rw [List.mem_take_iff_getElem]
      exact ⟨a, by omega, rfl⟩
    have ho : Ordr l o := ⟨hpl, hone, h2⟩
    have hkeep : Keep l o := by
      intro x i y e k hk
      obtain ⟨a1, a2, a3⟩ := h1 x i y e
      obtain ⟨n1, n2, n3⟩ := nodup_split hone e
      have hko : k ∈ o := by rw [e]; exact List.mem_append_right _ hk
      have hkx : k ∉ x := fun c => by
        rcases List.mem_cons.1 hk with h | h
        · subst h; exact n1 c
        · exact n3 k c h
      obtain ⟨k0, _, kacc⟩ := plc_acc (hpl k hko)
      obtain ⟨i0, _, _⟩ := plc_acc a1
      rw [next_iff] at a3
      by_cases hc : kp l k i = true
      · have hlt := ahd_lt (kp_ahd hc)
        have hxp : ∀ k ∈ x, plc l k = true := fun k hk => hpl k (by rw [e]; exact List.mem_append_left _ hk)
        have := a3.1 k.toNat (by omega) (by rw [Int.toNat_of_nonneg k0]; exact kacc) (by rw [bit_stOf (nonneg hxp), Int.toNat_of_nonneg k0]; exact decide_eq_false hkx)
        rwa [Int.toNat_of_nonneg k0, Int.toNat_of_nonneg i0] at this
      · exact Bool.eq_false_iff.2 hc
    refine ⟨ho, hkeep, fun x i y e hl => ?_⟩
    obtain ⟨a1, a2, a3⟩ := h1 x i y e
    obtain ⟨i0, i1, _⟩ := plc_acc a1
    obtain ⟨i, rfl⟩ : ∃ n : Nat, i = n := ⟨i.toNat, by omega⟩
    rw [Int.toNat_natCast, next_iff] at a3
    have hxp : ∀ k ∈ x, plc l k = true := fun k hk => hpl k (by rw [e]; exact List.mem_append_left _ hk)
    rw [a3.2 hl, loadV_eq hr hxp a1, lst_filter, lst_filter (o := y), pend_eq ho hkeep e (by omega)]
  · rintro ⟨ho, hk, ht⟩
    refine ⟨fun x i y e => ?_, ho.all⟩
    have hio : i ∈ o := by rw [e]; simp
    have a1 := ho.plc i hio
    obtain ⟨i0, i1, _⟩ := plc_acc a1
    obtain ⟨i, rfl⟩ : ∃ n : Nat, i = n := ⟨i.toNat, by omega⟩
    have hxp : ∀ k ∈ x, plc l k = true := fun k hk => ho.plc k (by rw [e]; exact List.mem_append_left _ hk)
    refine ⟨a1, (nodup_split ho.one e).1, ?_⟩
    rw [Int.toNat_natCast, next_iff]
    refine ⟨fun k hki ha hb => ?_, fun hl => ?_⟩
    · rw [bit_stOf (nonneg hxp)] at hb
      have hm := ho.all k (by omega) ha
      rw [e, List.mem_append] at hm
      rcases hm with h | h
      · exact absurd h (of_decide_eq_false hb)
      · exact hk x i y e k h
    · rw [ht x i y e hl, loadV_eq hr hxp a1, lst_filter, lst_filter (d := lst l (pw l i) 0 x) (o := (List.range i).map Int.ofNat), pend_eq ho hk e (by omega)]
/-- what may be is what holds in some order -/
theorem allowed_iff {l : List Ev} : allowed l = true ↔ ∃ o, Holds l o := by
  unfold allowed
  rw [Bool.and_eq_true]
  constructor
  · rintro ⟨hr, h⟩
    obtain ⟨o, ho⟩ := run_of h
    exact ⟨o, holds_parts.2 ⟨hr, (run_holds hr).1 ho⟩⟩
  · rintro ⟨o, h⟩
    obtain ⟨hr, h⟩ := holds_parts.1 h
    refine ⟨hr, (leads_fuel ?_).2 ⟨o, (run_holds hr).2 h⟩⟩
    have h1 := und_le l init
    unfold right at hr
    simp only [Bool.and_eq_true, decide_eq_true_eq] at hr
    omega
end Ax
end Go.Proofs.Ytigefdoejcggpaa
