/- Orders that keep what must be kept, built one by one: plain. -/
import Derived.Test.YtigefdoejcggpaaNLawP
namespace Go.Proofs.Ytigefdoejcggpaa
set_option linter.unusedVariables false
set_option linter.unusedSimpArgs false
namespace Ax
def inO (o : List Int) (i : Nat) : Bool := decide ((i : Int) ∈ o)
def frk (l : List Ev) (o : List Int) (i k : Nat) : Bool := (decide ((ev l i).2.1 ≠ 3) && !(inO o i)) && (List.range k).all (fun (q : Nat) => inO o q || !(keepsV l q i))
def fr (l : List Ev) (o : List Int) (i : Nat) : Bool := frk l o i i
def freeV (l : List Ev) (o : List Int) (j : Nat) : List Int := ((List.range j).map Int.ofNat).filter (fun i => fr l o i.toNat)
theorem frk_succ (l : List Ev) (o : List Int) (i k : Nat) : frk l o i (k + 1) = (frk l o i k && (inO o k || !(keepsV l k i))) := by
  unfold frk
  rw [List.range_succ, List.all_append]
  simp [Bool.and_assoc]
theorem frk_false {l : List Ev} {o : List Int} {i k m : Nat} (h : frk l o i k = false) (hm : k ≤ m) : frk l o i m = false := by
  induction m with
  | zero =>
    have : k = 0 := by omega
    subst this
    exact h
  | succ m ih =>
    by_cases e : k = m + 1
    · rw [← e]; exact h
    · rw [frk_succ, ih (by omega)]; rfl
theorem free_yes {l : List Ev} {o : List Int} {j : Nat} (h : fr l o j = true) : freeV l o (j + 1) = freeV l o j ++ [(j : Int)] := by
  unfold freeV
  rw [List.range_succ, List.map_append, List.filter_append]
  congr 1
  show List.filter _ [(j : Int)] = _
  rw [List.filter_cons_of_pos (by simpa using h)]
  rfl
theorem free_no {l : List Ev} {o : List Int} {j : Nat} (h : fr l o j = false) : freeV l o (j + 1) = freeV l o j := by
  unfold freeV
  rw [List.range_succ, List.map_append, List.filter_append]
  show _ ++ List.filter _ [(j : Int)] = _
  rw [List.filter_cons_of_neg (by simpa using h)]
  simp
theorem free_len (l : List Ev) (o : List Int) (j : Nat) : (freeV l o j).length ≤ j := by
  unfold freeV
  have := List.length_filter_le (fun i : Int => fr l o i.toNat) ((List.range j).map Int.ofNat)
  rwa [List.length_map, List.length_range] at this
theorem mem_free {l : List Ev} {o : List Int} {j : Nat} {x : Int} (h : x ∈ freeV l o j) : ∃ i : Nat, x = i ∧ i < j ∧ fr l o i = true := by
  unfold freeV at h
  obtain ⟨h1, h2⟩ := List.mem_filter.1 h
  obtain ⟨i, hi, rfl⟩ := List.mem_map.1 h1
  exact ⟨i, rfl, List.mem_range.1 hi, by simpa using h2⟩
theorem free_nil {l : List Ev} {o : List Int} {j : Nat} (h : freeV l o j = []) : ∀ i, i < j → fr l o i = false := fun i hi => by
  refine Bool.eq_false_iff.2 fun c => ?_
  have : (i : Int) ∈ freeV l o j := by
    unfold freeV
    exact List.mem_filter.2 ⟨List.mem_map.2 ⟨i, List.mem_range.2 hi, rfl⟩, by simpa using c⟩
  rw [h] at this
  cases this
structure KInv (l : List Ev) (o : List Int) : Prop where
  plc : ∀ k ∈ o, plc l k = true
  one : o.Nodup
  cl : ∀ x i y, o = x ++ i :: y → ∀ k, Ax.plc l k = true → kp l k i = true → k ∈ x
  und : (und l (stOf l o)).length + o.length ≤ l.length
theorem KInv.nil (l : List Ev) : KInv l [] := ⟨fun k h => (by cases h), List.nodup_nil, fun x i y e => (by cases x <;> cases e), by have := und_le l (stOf l []); simpa using this⟩
theorem kind_acc {l : List Ev} (hr : right l = true) {i : Nat} (hi : i < l.length) (h : (ev l i).2.1 ≠ 3) : isAcc (ev l i) = true := by
  have := (right_iff.1 hr).2 _ (List.mem_of_getElem? (get_ev hi))
  unfold isEv at this
  simp only [Bool.and_eq_true, decide_eq_true_eq] at this
  rw [if_neg h] at this
  simp only [Bool.and_eq_true] at this
  exact this.2.1.1
theorem KInv.step {l : List Ev} {o : List Int} (K : KInv l o) (hr : right l = true) {i : Nat} (hi : i < l.length) (hf : fr l o i = true) : KInv l (o ++ [(i : Int)]) := by
  unfold fr frk at hf
  simp only [Bool.and_eq_true, decide_eq_true_eq, Bool.not_eq_true', List.all_eq_true, List.mem_range, Bool.or_eq_true] at hf
  obtain ⟨⟨h1, h2⟩, h3⟩ := hf
  have hni : (i : Int) ∉ o := of_decide_eq_false h2
  have hp := plc_of hi (kind_acc hr hi h1)
  refine ⟨fun k hk => ?_, ?_, fun x j y e k hk hkp => ?_, ?_⟩
  · rcases List.mem_append.1 hk with h | h
    · exact K.plc k h
    · rw [List.mem_singleton.1 h]; exact hp
  · rw [List.nodup_append]
    refine ⟨K.one, by simp, fun a ha b hb c => ?_⟩
    rw [List.mem_singleton.1 hb] at c
    exact hni (by rw [← c]; exact ha)
  · rcases List.eq_nil_or_concat y with hy | ⟨y', z, hy⟩
    · subst hy
      have e2 : o = x ∧ (i : Int) = j := by
        have := List.append_inj' e rfl
        exact ⟨this.1, by have := this.2; injection this⟩
      obtain ⟨rfl, rfl⟩ := e2
      have hlt := ahd_lt (kp_ahd hkp)
      obtain ⟨k0, k1, k2⟩ := plc_acc hk
      obtain ⟨n, rfl⟩ : ∃ n : Nat, k = n := ⟨k.toNat, by omega⟩
      rcases h3 n (by omega) with h | h
      · exact of_decide_eq_true h
      · exfalso
        unfold keepsV at h
        rw [hr, hk, hp, hkp] at h
        cases h
    · rw [List.concat_eq_append] at hy
      subst hy
      have e2 : o = x ++ j :: y' := by
        have e3 : o ++ [(i : Int)] = (x ++ j :: y') ++ [z] := by rw [e]; simp
        exact (List.append_inj' e3 rfl).1
      exact K.cl x j y' e2 k hk hkp
  · have := und_lt (s := stOf l o) hi (by rw [opn_stOf K.plc, kind_acc hr hi h1]; simpa using hni) (ev l i)
    have h4 := K.und
    rw [stOf_snoc, List.length_append, Int.toNat_natCast]
    simp only [List.length_singleton]
    omega
theorem KInv.stuck {l : List Ev} {o : List Int} (K : KInv l o) (h : ∀ i, i < l.length → fr l o i = false) : ∀ i : Nat, i < l.length → isAcc (ev l i) = true → (i : Int) ∈ o := by
  intro i
  induction i using Nat.strongRecOn with
  | ind i ih =>
    intro hi ha
    by_cases hm : (i : Int) ∈ o
    · exact hm
    · exfalso
      have hf : fr l o i = true := by
        unfold fr frk inO
        simp only [Bool.and_eq_true, decide_eq_true_eq, Bool.not_eq_true', decide_eq_false_iff_not, List.all_eq_true, List.mem_range, Bool.or_eq_true]
        refine ⟨⟨acc_kind ha, hm⟩, fun q hq => ?_⟩
        by_cases hpq : Ax.plc l q = true
        · exact .inl (ih q hq (by omega) (plc_acc hpq).2.2)
        · right
          unfold keepsV
          rw [Bool.eq_false_iff.2 hpq]
          simp
      rw [h i hi] at hf
      cases hf
theorem KInv.full {l : List Ev} {o : List Int} (K : KInv l o) (h : l.length ≤ o.length) : ∀ i : Nat, i < l.length → isAcc (ev l i) = true → (i : Int) ∈ o := by
  intro i hi ha
  have h0 : Ax.und l (stOf l o) = [] := List.length_eq_zero_iff.1 (by have := K.und; omega)
  by_cases hm : (i : Int) ∈ o
  · exact hm
  · exfalso
    have : i ∈ Ax.und l (stOf l o) := by
      unfold Ax.und
      exact List.mem_filter.2 ⟨List.mem_range.2 hi, by rw [opn_stOf K.plc, ha]; simpa using hm⟩
    rw [h0] at this
    cases this
theorem KInv.keeps {l : List Ev} {o : List Int} (K : KInv l o) (h : ∀ i : Nat, i < l.length → isAcc (ev l i) = true → (i : Int) ∈ o) : Ordr l o ∧ Keep l o := by
  refine ⟨⟨K.plc, K.one, h⟩, fun x i y e k hk => ?_⟩
  refine Bool.eq_false_iff.2 fun c => ?_
  have hko : k ∈ o := by rw [e]; exact List.mem_append_right _ hk
  have := K.cl x i y e k (K.plc k hko) c
  obtain ⟨n1, n2, n3⟩ := nodup_split K.one e
  rcases List.mem_cons.1 hk with h | h
  · rw [h] at this; exact n1 this
  · exact n3 k this h
/-- what each load tells in such an order -/
def tellEv (l : List Ev) (o : List Int) (i : Nat) : Ev := if (ev l i).2.1 = 1 then ((ev l i).1, (ev l i).2.1, (ev l i).2.2.1, val l o i) else ev l i
def tellL (l : List Ev) (o : List Int) (j : Nat) : List Ev := (List.range j).map (tellEv l o) ++ l.drop j
theorem tell_ev {l : List Ev} {o : List Int} {j : Nat} (hj : j ≤ l.length) {i : Nat} (hi : i < l.length) : ev (tellL l o j) i = if i < j then tellEv l o i else ev l i := by
  refine ev_get ?_
  unfold tellL
  by_cases h : i < j
  · rw [if_pos h, List.getElem?_append_left (by simpa using h), List.getElem?_map, List.getElem?_range h]
    rfl
  · rw [if_neg h, List.getElem?_append_right (by simp; omega), List.getElem?_drop]
    simp only [List.length_map, List.length_range]
    rw [show j + (i - j) = i by omega]
    exact get_ev hi
theorem tell_len {l : List Ev} {o : List Int} {j : Nat} (hj : j ≤ l.length) : (tellL l o j).length = l.length := by
  unfold tellL
  simp
  omega
/-- but for loads' numbers two lists are the same -/
structure Sim (l m : List Ev) : Prop where
  len : m.length = l.length
  h : ∀ i : Nat, i < l.length → (ev m i).1 = (ev l i).1
  k : ∀ i : Nat, i < l.length → (ev m i).2.1 = (ev l i).2.1
  a : ∀ i : Nat, i < l.length → (ev m i).2.2.1 = (ev l i).2.2.1
  n : ∀ i : Nat, i < l.length → (ev l i).2.1 ≠ 1 → (ev m i).2.2.2 = (ev l i).2.2.2
theorem tell_sim {l : List Ev} {o : List Int} {j : Nat} (hj : j ≤ l.length) : Sim l (tellL l o j) := by
  refine ⟨tell_len hj, fun i hi => ?_, fun i hi => ?_, fun i hi => ?_, fun i hi h1 => ?_⟩
  all_goals
    rw [tell_ev hj hi]
    split
    · unfold tellEv
      split <;> first | rfl | (exfalso; contradiction)
    · rfl
theorem Sim.plc {l m : List Ev} (S : Sim l m) (i : Int) : Ax.plc m i = Ax.plc l i := by
  unfold Ax.plc
  rw [S.len]
  by_cases h0 : 0 ≤ i
  · by_cases h1 : i < (l.length : Int)
    · obtain ⟨n, rfl⟩ : ∃ n : Nat, i = n := ⟨i.toNat, by omega⟩
      unfold isAcc
      rw [S.k n (by omega)]
    · simp [h1]
  · simp [h0]
theorem Sim.kp {l m : List Ev} (S : Sim l m) {i k : Int} (hi : Ax.plc l i = true) (hk : Ax.plc l k = true) : Ax.kp m i k = Ax.kp l i k := by
  obtain ⟨i0, i1, _⟩ := plc_acc hi
  obtain ⟨k0, k1, _⟩ := plc_acc hk
  obtain ⟨i, rfl⟩ : ∃ n : Nat, i = n := ⟨i.toNat, by omega⟩
  obtain ⟨k, rfl⟩ : ∃ n : Nat, k = n := ⟨k.toNat, by omega⟩
  have hf : fen m i k = fen l i k := by
    rw [Bool.eq_iff_iff, fen_iff, fen_iff]
    refine exists_congr fun q => ?_
    rw [S.len]
    refine and_congr_right fun _ => and_congr_right fun _ => and_congr_right fun hq => ?_
    unfold isFen
    rw [S.h i (by omega), S.k q hq, S.h q hq]
  unfold Ax.kp ahd isSt
  rw [hf, S.h i (by omega), S.h k (by omega), S.k i (by omega), S.k k (by omega), S.a i (by omega), S.a k (by omega)]
theorem Sim.ordr {l m : List Ev} (S : Sim l m) {o : List Int} (h : Ordr l o) : Ordr m o := by
  refine ⟨fun k hk => by rw [S.plc]; exact h.plc k hk, h.one, fun i hi ha => h.all i (by rw [← S.len]; exact hi) ?_⟩
  rw [S.len] at hi
  unfold isAcc at *
  rwa [S.k i hi] at ha
theorem Sim.keep {l m : List Ev} (S : Sim l m) {o : List Int} (ho : Ordr l o) (h : Keep l o) : Keep m o := fun x i y e k hk => by
  rw [S.kp (ho.plc k (by rw [e]; exact List.mem_append_right _ hk)) (ho.plc i (by rw [e]; simp))]
  exact h x i y e k hk
theorem Sim.val {l m : List Ev} (S : Sim l m) {o : List Int} (ho : ∀ k ∈ o, Ax.plc l k = true) {i : Nat} (hi : i < l.length) : Ax.val m o i = Ax.val l o i := by
  unfold Ax.val
  have : ∀ (o : List Int) (n : Int) (b : Bool), (∀ k ∈ o, Ax.plc l k = true) → vgo m i n b o = vgo l i n b o := by
    intro o
    induction o with
    | nil => intro n b _; rfl
    | cons k o ih =>
      intro n b h
      obtain ⟨k0, k1, _⟩ := plc_acc (h k (List.mem_cons_self ..))
      obtain ⟨q, rfl⟩ : ∃ n : Nat, k = n := ⟨k.toNat, by omega⟩
      have hq : q < l.length := by omega
      have e1 : pw m i q = pw l i q := by unfold pw isSt; rw [S.k q hq, S.a q hq, S.a i hi]
      have e2 : ahd m q i = ahd l q i := by unfold ahd; rw [S.h q hq, S.h i hi]
      show vgo m i (if pw m i q && (!(b || decide ((q : Int) = i)) || ahd m q i) then (ev m q).2.2.2 else n) _ o = vgo l i (if pw l i q && (!(b || decide ((q : Int) = i)) || ahd l q i) then (ev l q).2.2.2 else n) _ o
      rw [e1, e2, ih _ _ fun k hk => h k (List.mem_cons_of_mem _ hk)]
      by_cases hp : pw l i q = true
      · have : (ev l q).2.1 ≠ 1 := by
          unfold pw isSt at hp
          simp only [Bool.and_eq_true, decide_eq_true_eq] at hp
          omega
        rw [S.n q hq this]
      · rw [Bool.eq_false_iff.2 hp]
        simp
  exact this o 0 false ho
theorem val_bd {l : List Ev} {m : Int} (hm : 0 < m) (h : ∀ e ∈ l, 0 ≤ e.2.2.2 ∧ e.2.2.2 < m) {o : List Int} (ho : ∀ k ∈ o, Ax.plc l k = true) (i : Int) : 0 ≤ Ax.val l o i ∧ Ax.val l o i < m := by
  have : ∀ (o : List Int) (n : Int) (b : Bool), 0 ≤ n ∧ n < m → (∀ k ∈ o, Ax.plc l k = true) → 0 ≤ vgo l i n b o ∧ vgo l i n b o < m := by
    intro o
    induction o with
    | nil => intro n b hn _; exact hn
    | cons k o ih =>
      intro n b hn hk
      refine ih _ _ ?_ fun q hq => hk q (List.mem_cons_of_mem _ hq)
      split
      · obtain ⟨k0, k1, _⟩ := plc_acc (hk k (List.mem_cons_self ..))
        obtain ⟨q, rfl⟩ : ∃ n : Nat, k = n := ⟨k.toNat, by omega⟩
        exact h _ (List.mem_of_getElem? (get_ev (by omega)))
      · exact hn
  exact this o 0 false ⟨by omega, hm⟩ ho
end Ax
end Go.Proofs.Ytigefdoejcggpaa
