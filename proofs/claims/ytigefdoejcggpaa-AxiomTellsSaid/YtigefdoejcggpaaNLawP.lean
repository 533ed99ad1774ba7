/- What the laws say, of plain data. -/
import Derived.Test.YtigefdoejcggpaaNEmb
namespace Go.Proofs.Ytigefdoejcggpaa
set_option linter.unusedVariables false
set_option linter.unusedSimpArgs false
namespace Ax
theorem right_iff {l : List Ev} : right l = true ↔ l.length ≤ 8 ∧ ∀ e ∈ l, isEv e = true := by
  unfold right
  rw [Bool.and_eq_true, decide_eq_true_eq, List.all_eq_true]
/-- one that is no store left out -/
theorem erase_emb {l : List Ev} {k : Nat} (hk : k < l.length) (hs : (ev l k).2.1 ≠ 2) : Emb (l.eraseIdx k) l (fun j => if j < (k : Int) then j else j + 1) := by
  have hev : ∀ j : Int, 0 ≤ j → ev (l.eraseIdx k) j = ev l (if j < (k : Int) then j else j + 1) := by
    intro j h0
    unfold ev
    rw [List.getElem?_eraseIdx]
    by_cases h : j < (k : Int)
    · rw [if_pos h, if_pos (by omega)]
    · rw [if_neg h, if_neg (by omega), show (j + 1).toNat = j.toNat + 1 by omega]
  have hlen : (l.eraseIdx k).length + 1 = l.length := by rw [List.length_eraseIdx_of_lt hk]; omega
  refine ⟨fun j hj => ?_, fun j hj => ?_, fun j hj => ?_, fun i j hi hj => ?_, fun i j hi hj => ?_, fun i j hi hj => ?_, fun i j hi hj hf => ?_, fun x hx h2 => ?_⟩
  · obtain ⟨h0, h1, h2⟩ := plc_acc hj
    rw [hev j h0] at h2
    unfold plc
    rw [h2]
    simp only [Bool.and_eq_true, decide_eq_true_eq, and_true]
    split <;> omega
  · rw [hev j (plc_acc hj).1]
  · rw [hev j (plc_acc hj).1]
  · rw [hev i (plc_acc hi).1, hev j (plc_acc hj).1]
  · rw [hev i (plc_acc hi).1, hev j (plc_acc hj).1]
  · show i < j ↔ (if i < (k : Int) then i else i + 1) < (if j < (k : Int) then j else j + 1)
    split <;> split <;> omega
  · obtain ⟨i0, i1, _⟩ := plc_acc hi
    obtain ⟨j0, j1, _⟩ := plc_acc hj
    obtain ⟨q, h1, h2, h3, h4⟩ := fen_iff.1 hf
    rw [hev i i0, hev q (by omega)] at h4
    refine fen_iff.2 ⟨(if (q : Int) < (k : Int) then (q : Int) else q + 1).toNat, ?_, ?_, ?_, ?_⟩
    · show (if i < (k : Int) then i else i + 1).toNat ≤ _
      split <;> split <;> omega
    · show _ < (if j < (k : Int) then j else j + 1).toNat
      split <;> split <;> omega
    · split <;> omega
    · rw [Int.toNat_of_nonneg (by split <;> omega)]
      exact h4
  · obtain ⟨x0, x1, x2⟩ := plc_acc hx
    have hne : x ≠ k := fun c => hs (by rw [c] at h2; exact h2)
    refine ⟨if x < (k : Int) then x else x - 1, ?_, ?_⟩
    · have h0 : 0 ≤ (if x < (k : Int) then x else x - 1) := by split <;> omega
      unfold plc
      rw [hev _ h0]
      simp only [Bool.and_eq_true, decide_eq_true_eq]
      refine ⟨⟨h0, by split <;> omega⟩, ?_⟩
      have : (if (if x < (k : Int) then x else x - 1) < (k : Int) then (if x < (k : Int) then x else x - 1) else (if x < (k : Int) then x else x - 1) + 1) = x := by
        by_cases c : x < (k : Int)
        · rw [if_pos c, if_pos c]
        · rw [if_neg c, if_neg (by omega)]; omega
      rw [this]
      exact x2
    · show (if (if x < (k : Int) then x else x - 1) < (k : Int) then (if x < (k : Int) then x else x - 1) else (if x < (k : Int) then x else x - 1) + 1) = x
      by_cases c : x < (k : Int)
      · rw [if_pos c, if_pos c]
      · rw [if_neg c, if_neg (by omega)]; omega
theorem erase_allowed {l : List Ev} {k : Nat} (hk : k < l.length) (hs : (ev l k).2.1 ≠ 2) (h : allowed l = true) : allowed (l.eraseIdx k) = true := by
  obtain ⟨o, ho⟩ := allowed_iff.1 h
  have hr := right_iff.1 (holds_parts.1 ho).1
  refine (erase_emb hk hs).allowed (right_iff.2 ⟨?_, fun e he => hr.2 e (List.mem_of_mem_eraseIdx he)⟩) h
  rw [List.length_eraseIdx_of_lt hk]
  omega
/-- events of a numbering turned -/
def tEv (a b : Int) (e : Ev) : Ev := ((e.1 + a) % 4, e.2.1, if e.2.1 = 3 then e.2.2.1 else (e.2.2.1 + b) % 4, e.2.2.2)
theorem ev_map {l : List Ev} {g : Ev → Ev} {j : Int} (h0 : 0 ≤ j) (h1 : j < l.length) : ev (l.map g) j = g (ev l j) := by
  obtain ⟨n, rfl⟩ : ∃ n : Nat, j = n := ⟨j.toNat, by omega⟩
  refine ev_get ?_
  rw [List.getElem?_map, get_ev (by omega)]
  rfl
theorem tEv_ev {a b : Int} (a0 : 0 ≤ a) (b0 : 0 ≤ b) {e : Ev} (h : isEv e = true) : isEv (tEv a b e) = true := by
  unfold isEv isAcc tEv at *
  simp only [Bool.and_eq_true, decide_eq_true_eq, Bool.or_eq_true] at h ⊢
  obtain ⟨⟨h0, h1⟩, h2⟩ := h
  refine ⟨⟨by omega, by omega⟩, ?_⟩
  by_cases h3 : e.2.1 = 3
  · rw [if_pos h3] at h2 ⊢
    rw [if_pos h3]
    exact h2
  · rw [if_neg h3] at h2 ⊢
    rw [if_neg h3]
    simp only [Bool.and_eq_true, decide_eq_true_eq, Bool.or_eq_true] at h2 ⊢
    exact ⟨⟨h2.1.1, by omega, by omega⟩, h2.2⟩
theorem acc_tEv {a b : Int} {e : Ev} : isAcc (tEv a b e) = isAcc e := rfl
theorem plc_turn {a b : Int} {l : List Ev} {j : Int} : plc (l.map (tEv a b)) j = plc l j := by
  unfold plc
  rw [List.length_map]
  by_cases h0 : 0 ≤ j
  · by_cases h1 : j < (l.length : Int)
    · rw [ev_map h0 h1, acc_tEv]
    · simp [h1]
  · simp [h0]
theorem acc_kind {e : Ev} (h : isAcc e = true) : e.2.1 ≠ 3 := by
  unfold isAcc at h
  simp only [Bool.or_eq_true, decide_eq_true_eq] at h
  omega
theorem ev_hart {l : List Ev} (h : right l = true) {i : Nat} (hi : i < l.length) : 0 ≤ (ev l i).1 ∧ (ev l i).1 < 4 := by
  have := (right_iff.1 h).2 _ (List.mem_of_getElem? (get_ev hi))
  unfold isEv at this
  simp only [Bool.and_eq_true, decide_eq_true_eq] at this
  exact this.1
theorem turn_facts {a b : Int} (a0 : 0 ≤ a) (b0 : 0 ≤ b) {l : List Ev} (hr : right l = true) {i j : Int} (hi : plc l i = true) (hj : plc l j = true) :
    ((ev (l.map (tEv a b)) i).1 = (ev (l.map (tEv a b)) j).1 ↔ (ev l i).1 = (ev l j).1) ∧ ((ev (l.map (tEv a b)) i).2.2.1 = (ev (l.map (tEv a b)) j).2.2.1 ↔ (ev l i).2.2.1 = (ev l j).2.2.1) ∧ fen (l.map (tEv a b)) i j = fen l i j ∧ (ev (l.map (tEv a b)) i).2.1 = (ev l i).2.1 ∧ (ev (l.map (tEv a b)) i).2.2.2 = (ev l i).2.2.2 := by
  obtain ⟨i0, i1, i2⟩ := plc_acc hi
  obtain ⟨j0, j1, j2⟩ := plc_acc hj
  obtain ⟨n, rfl⟩ : ∃ n : Nat, i = n := ⟨i.toNat, by omega⟩
  obtain ⟨m, rfl⟩ : ∃ n : Nat, j = n := ⟨j.toNat, by omega⟩
  have hA := ev_hart hr (i := n) (by omega)
  have hB := ev_hart hr (i := m) (by omega)
  have wA := acc_at (right_ev hr hi) i2
  have wB := acc_at (right_ev hr hj) j2
  have kA := acc_kind i2
  have kB := acc_kind j2
  rw [ev_map i0 i1, ev_map j0 j1]
  refine ⟨?_, ?_, ?_, rfl, rfl⟩
  · show ((ev l n).1 + a) % 4 = ((ev l m).1 + a) % 4 ↔ _
    omega
  · show (if (ev l n).2.1 = 3 then (ev l n).2.2.1 else ((ev l n).2.2.1 + b) % 4) = (if (ev l m).2.1 = 3 then (ev l m).2.2.1 else ((ev l m).2.2.1 + b) % 4) ↔ _
    rw [if_neg kA, if_neg kB]
    omega
  · rw [Bool.eq_iff_iff, fen_iff, fen_iff]
    refine exists_congr fun q => ?_
    rw [List.length_map]
    refine and_congr_right fun _ => and_congr_right fun _ => and_congr_right fun hq => ?_
    rw [ev_map i0 i1, ev_map (by omega) (by omega)]
    have hC := ev_hart hr hq
    unfold isFen
    simp only [Bool.and_eq_true, decide_eq_true_eq]
    refine and_congr_right fun _ => ?_
    show ((ev l q).1 + a) % 4 = ((ev l n).1 + a) % 4 ↔ _
    omega
theorem turn_right {a b : Int} (a0 : 0 ≤ a) (b0 : 0 ≤ b) {l : List Ev} (hr : right l = true) : right (l.map (tEv a b)) = true := by
  obtain ⟨h1, h2⟩ := right_iff.1 hr
  refine right_iff.2 ⟨by rw [List.length_map]; exact h1, fun e he => ?_⟩
  obtain ⟨x, hx, rfl⟩ := List.mem_map.1 he
  exact tEv_ev a0 b0 (h2 x hx)
theorem turn_allowed {a b : Int} (a0 : 0 ≤ a) (b0 : 0 ≤ b) {l : List Ev} (hr : right l = true) : allowed (l.map (tEv a b)) = allowed l := by
  have T := fun i j hi hj => turn_facts (a := a) (b := b) a0 b0 hr (i := i) (j := j) hi hj
  have E1 : Emb (l.map (tEv a b)) l id :=
    ⟨fun j hj => by rw [plc_turn] at hj; exact hj, fun j hj => by rw [plc_turn] at hj; exact (T j j hj hj).2.2.2.1, fun j hj => by rw [plc_turn] at hj; exact (T j j hj hj).2.2.2.2,
     fun i j hi hj => by rw [plc_turn] at hi hj; exact (T i j hi hj).1, fun i j hi hj => by rw [plc_turn] at hi hj; exact (T i j hi hj).2.1, fun _ _ _ _ => Iff.rfl,
     fun i j hi hj h => by rw [plc_turn] at hi hj; rw [(T i j hi hj).2.2.1] at h; exact h, fun x hx _ => ⟨x, by rw [plc_turn]; exact hx, rfl⟩⟩
  have E2 : Emb l (l.map (tEv a b)) id :=
    ⟨fun j hj => by rw [id, plc_turn]; exact hj, fun j hj => (T j j hj hj).2.2.2.1.symm, fun j hj => (T j j hj hj).2.2.2.2.symm,
     fun i j hi hj => (T i j hi hj).1.symm, fun i j hi hj => (T i j hi hj).2.1.symm, fun _ _ _ _ => Iff.rfl,
     fun i j hi hj h => by rw [id, id, (T i j hi hj).2.2.1]; exact h, fun x hx _ => ⟨x, by rw [plc_turn] at hx; exact hx, rfl⟩⟩
  rw [Bool.eq_iff_iff]
  exact ⟨E2.allowed hr, E1.allowed (turn_right a0 b0 hr)⟩
/-- what was stored last ahead of a place -/
def seen (l : List Ev) (i : Nat) (a : Int) : Int := lst l (fun k => isSt (ev l k) a) 0 ((List.range i).map Int.ofNat)
/-- the places of accesses, in the list's order -/
def plain (l : List Ev) : List Int := ((List.range l.length).map Int.ofNat).filter (fun i => isAcc (ev l i))
theorem plain_lt (l : List Ev) : (plain l).Pairwise (· < ·) := by
  unfold plain
  rw [List.pairwise_filter, List.pairwise_map]
  exact (List.pairwise_lt_range (n := l.length)).imp fun {a b} h _ _ => Int.ofNat_lt.2 h
theorem mem_plain {l : List Ev} {i : Int} : i ∈ plain l ↔ plc l i = true := by
  unfold plain plc
  rw [List.mem_filter, List.mem_map]
  simp only [Bool.and_eq_true, decide_eq_true_eq]
  constructor
  · rintro ⟨⟨n, hn, rfl⟩, h⟩
    have := List.mem_range.1 hn
    exact ⟨⟨by show (0 : Int) ≤ (n : Int); omega, by show ((n : Nat) : Int) < _; omega⟩, h⟩
  · rintro ⟨⟨h0, h1⟩, h2⟩
    exact ⟨⟨i.toNat, List.mem_range.2 (by omega), by show ((i.toNat : Nat) : Int) = i; omega⟩, h2⟩
theorem plain_ordr (l : List Ev) : Ordr l (plain l) :=
  ⟨fun k hk => mem_plain.1 hk, (plain_lt l).imp fun h c => by omega, fun i hi ha => mem_plain.2 (plc_of hi ha)⟩
theorem st_acc {e : Ev} {a : Int} (h : isSt e a = true) : isAcc e = true := by
  unfold isSt at h
  simp only [Bool.and_eq_true, decide_eq_true_eq] at h
  unfold isAcc
  simp [h.1]
/-- what holds one by one -/
theorem plays_holds {l : List Ev} (hr : right l = true) (h : ∀ i : Nat, i < l.length → (ev l i).2.1 = 1 → (ev l i).2.2.2 = seen l i (ev l i).2.2.1) : Holds l (plain l) := by
  refine holds_parts.2 ⟨hr, plain_ordr l, ?_, ?_⟩
  · rw [keep_pair]
    refine (plain_lt l).imp fun {a b} hab => Bool.eq_false_iff.2 fun c => ?_
    have := ahd_lt (kp_ahd c)
    omega
  · intro x i y e hl
    have hi := mem_plain.1 (show i ∈ plain l by rw [e]; simp)
    obtain ⟨i0, i1, i2⟩ := plc_acc hi
    have hp := plain_lt l
    rw [e, List.pairwise_append, List.pairwise_cons] at hp
    obtain ⟨hx, ⟨hy, _⟩, hxy⟩ := hp
    obtain ⟨n, rfl⟩ : ∃ n : Nat, i = n := ⟨i.toNat, by omega⟩
    rw [h n (by omega) hl]
    have e1 : lst l (fun k => pw l n k && ahd l k n) (lst l (pw l n) 0 x) y = lst l (pw l n) 0 x := by
      rw [lst_filter, List.filter_eq_nil_iff.2 fun a ha => ?_]
      · rfl
      · rw [Bool.and_eq_true]
        rintro ⟨-, c⟩
        have := ahd_lt c
        have := hy a ha
        omega
    rw [e1]
    unfold seen
    rw [lst_filter, lst_filter (o := x)]
    congr 1
    refine rise_eq ?_ ?_ fun k => ?_
    · rw [List.pairwise_filter, List.pairwise_map]
      exact (List.pairwise_lt_range (n := n)).imp fun {a b} h _ _ => Int.ofNat_lt.2 h
    · rw [List.pairwise_filter]
      exact hx.imp fun h _ _ => h
    · rw [List.mem_filter, List.mem_filter, List.mem_map]
      constructor
      · rintro ⟨⟨q, hq, rfl⟩, hs⟩
        refine ⟨?_, hs⟩
        have hq := List.mem_range.1 hq
        have hm : (q : Int) ∈ plain l := mem_plain.2 (plc_of (by omega) (st_acc hs))
        rw [e, List.mem_append, List.mem_cons] at hm
        rcases hm with hm | hm | hm
        · exact hm
        · have : (q : Int) = n := hm; omega
        · have := hy _ hm; omega
      · rintro ⟨hk, hs⟩
        have h1 := hxy k hk n (List.mem_cons_self ..)
        have h0 := (plc_acc (mem_plain.1 (show k ∈ plain l by rw [e]; simp [hk]))).1
        exact ⟨⟨k.toNat, List.mem_range.2 (by omega), by show ((k.toNat : Nat) : Int) = k; omega⟩, hs⟩
/-- of one hart alone each load tells what was stored last ahead -/
theorem alone_holds {l : List Ev} {h : Int} (hh : ∀ i : Nat, i < l.length → (ev l i).1 = h) {o : List Int} (ho : Holds l o) : ∀ i : Nat, i < l.length → (ev l i).2.1 = 1 → (ev l i).2.2.2 = seen l i (ev l i).2.2.1 := by
  intro i hi hl
  obtain ⟨hr, hO, hk, ht⟩ := holds_parts.1 ho
  have ha : isAcc (ev l i) = true := by unfold isAcc; simp [hl]
  have hio := hO.all i hi ha
  obtain ⟨x, y, e⟩ := List.append_of_mem hio
  obtain ⟨n1, n2, n3⟩ := nodup_split hO.one e
  rw [ht x i y e hl]
  have hart : ∀ k : Int, plc l k = true → (ev l k).1 = h := fun k hk => by
    obtain ⟨k0, k1, _⟩ := plc_acc hk
    have := hh k.toNat (by omega)
    rwa [Int.toNat_of_nonneg k0] at this
  have hpair := keep_pair.1 hk
  rw [e, List.pairwise_append, List.pairwise_cons] at hpair
  have hxlt : ∀ k ∈ x, k < (i : Int) := fun k hkx => by
    have hpk := hO.plc k (by rw [e]; simp [hkx])
    have h1 := hpair.2.2 k hkx i (List.mem_cons_self ..)
    by_cases hlt : (i : Int) < k
    · exfalso
      have : kp l i k = true := by
        unfold kp ahd
        simp only [Bool.and_eq_true, Bool.or_eq_true, decide_eq_true_eq]
        exact ⟨⟨hlt, by rw [hh i hi, hart k hpk]⟩, .inl (.inl hl)⟩
      rw [h1] at this
      cases this
    · have : k ≠ i := fun c => n1 (by rw [← c]; exact hkx)
      omega
  have e1 : lst l (pw l i) 0 x = lst l (fun k => pw l i k && decide (k < (i : Int))) 0 x := by
    rw [lst_filter, lst_filter (p := fun k => pw l i k && decide (k < (i : Int)))]
    congr 1
    refine List.filter_congr fun k hk => ?_
    rw [decide_eq_true (hxlt k hk), Bool.and_true]
  have e2 : ∀ d, lst l (fun k => pw l i k && ahd l k i) d y = lst l (fun k => pw l i k && decide (k < (i : Int))) d y := fun d => by
    rw [lst_filter, lst_filter (p := fun k => pw l i k && decide (k < (i : Int)))]
    congr 1
    refine List.filter_congr fun k hk => ?_
    have hpk := hO.plc k (by rw [e]; simp [hk])
    unfold ahd
    rw [hart k hpk, hh i hi]
    simp
  have e3 : lst l (fun k => pw l i k && decide (k < (i : Int))) (lst l (fun k => pw l i k && decide (k < (i : Int))) 0 x) y = lst l (fun k => pw l i k && decide (k < (i : Int))) 0 (x ++ y) := by
    unfold lst
    rw [List.foldl_append]
  rw [e2, e1, e3]
  unfold seen
  rw [lst_filter, lst_filter (p := fun k => isSt (ev l k) (ev l i).2.2.1)]
  congr 1
  refine rise_eq ?_ ?_ fun k => ?_
  · rw [List.pairwise_filter]
    have hsub : List.Sublist (x ++ y) o := by rw [e]; exact List.Sublist.append (List.Sublist.refl _) (List.sublist_cons_self ..)
    have h1 := List.Pairwise.sublist hsub (keep_pair.1 hk)
    have h2 := List.Pairwise.sublist hsub hO.one
    have hmem : ∀ k ∈ x ++ y, plc l k = true := fun k hk => hO.plc k (hsub.subset hk)
    refine List.Pairwise.imp_of_mem (R := fun a b => kp l b a = false ∧ a ≠ b) (fun {a b} ma mb ⟨h3, h4⟩ pa pb => ?_) (h1.and h2)
    rw [Bool.and_eq_true] at pa pb
    by_cases hlt : a < b
    · exact hlt
    · exfalso
      have wa := pa.1
      have wb := pb.1
      unfold pw isSt at wa wb
      simp only [Bool.and_eq_true, decide_eq_true_eq] at wa wb
      have : kp l b a = true := by
        unfold kp ahd isSt
        simp only [Bool.and_eq_true, Bool.or_eq_true, decide_eq_true_eq]
        exact ⟨⟨by omega, by rw [hart b (hmem b mb), hart a (hmem a ma)]⟩, .inl (.inr ⟨wa.1, wa.2.trans wb.2.symm⟩)⟩
      rw [h3] at this
      cases this
  · rw [List.pairwise_filter, List.pairwise_map]
    exact (List.pairwise_lt_range (n := i)).imp fun {a b} h _ _ => Int.ofNat_lt.2 h
  · rw [List.mem_filter, List.mem_filter, List.mem_map]
    constructor
    · rintro ⟨hk, hs⟩
      rw [Bool.and_eq_true, decide_eq_true_eq] at hs
      have h0 : 0 ≤ k := by
        refine (plc_acc (hO.plc k ?_)).1
        rw [e]
        rcases List.mem_append.1 hk with h | h <;> simp [h]
      exact ⟨⟨k.toNat, List.mem_range.2 (by omega), by show ((k.toNat : Nat) : Int) = k; omega⟩, hs.1⟩
    · rintro ⟨⟨q, hq, rfl⟩, hs⟩
      have hq := List.mem_range.1 hq
      have hm := hO.all q (by omega) (st_acc hs)
      rw [e, List.mem_append, List.mem_cons] at hm
      refine ⟨?_, by rw [Bool.and_eq_true, decide_eq_true_eq]; exact ⟨hs, by show ((q : Nat) : Int) < i; omega⟩⟩
      rcases hm with hm | hm | hm
      · exact List.mem_append_left _ hm
      · have : (q : Int) = i := hm; omega
      · exact List.mem_append_right _ hm
theorem alone_allowed {l : List Ev} {h : Int} (hr : right l = true) (hh : ∀ i : Nat, i < l.length → (ev l i).1 = h) : allowed l = true ↔ ∀ i : Nat, i < l.length → (ev l i).2.1 = 1 → (ev l i).2.2.2 = seen l i (ev l i).2.2.1 := by
  rw [allowed_iff]
  exact ⟨fun ⟨o, ho⟩ => alone_holds hh ho, fun h => ⟨_, plays_holds hr h⟩⟩
end Ax
end Go.Proofs.Ytigefdoejcggpaa
