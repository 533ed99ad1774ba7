/- The search finds an order just if there is one that holds. -/
import Derived.Test.YtigefdoejcggpaaNPlain
namespace Go.Proofs.Ytigefdoejcggpaa
namespace Ax
def Run (l : List Ev) : St → List Int → Prop
  | s, [] => ∀ i, i < l.length → opn l s i = false
  | s, x :: o => ∃ i : Nat, x = i ∧ i < l.length ∧ opn l s i = true ∧ nextB l s i = true ∧ Run l (wth s i (ev l i)) o
theorem run_of {l : List Ev} {f : Nat} {s : St} (h : leadsB l f s = true) : ∃ o, Run l s o := by
  induction f generalizing s with
  | zero => cases h
  | succ f ih =>
    unfold leadsB at h
    simp only [Bool.or_eq_true, List.all_eq_true, List.any_eq_true, List.mem_range, Bool.not_eq_true', Bool.and_eq_true] at h
    rcases h with h | ⟨i, hi, ⟨h1, h2⟩, h3⟩
    · exact ⟨[], h⟩
    · obtain ⟨o, ho⟩ := ih h3
      exact ⟨(i : Int) :: o, i, rfl, hi, h1, h2, ho⟩
theorem leads_of {l : List Ev} {f : Nat} {s : St} {o : List Int} (h : Run l s o) (hf : o.length < f) : leadsB l f s = true := by
  induction f generalizing s o with
  | zero => omega
  | succ f ih =>
    unfold leadsB
    simp only [Bool.or_eq_true, List.all_eq_true, List.any_eq_true, List.mem_range, Bool.not_eq_true', Bool.and_eq_true]
    match o, h with
    | [], h => exact .inl h
    | x :: o, ⟨i, _, hi, h1, h2, h3⟩ => exact .inr ⟨i, hi, ⟨h1, h2⟩, ih h3 (by rw [List.length_cons] at hf; omega)⟩
theorem bit_wth (s : St) (i j : Nat) (e : Ev) : bit (wth s i e) j = (bit s j || decide (j = i)) := by
  unfold bit wth
  rw [Nat.testBit_or, Nat.one_shiftLeft, Nat.testBit_two_pow]
  congr 1
  exact decide_eq_decide.2 ⟨fun h => h.symm, fun h => h.symm⟩
theorem opn_wth (l : List Ev) (s : St) (i j : Nat) (e : Ev) : opn l (wth s i e) j = (opn l s j && decide (j ≠ i)) := by
  unfold opn
  rw [bit_wth]
  by_cases h : j = i <;> simp [h]
def und (l : List Ev) (s : St) : List Nat := (List.range l.length).filter (opn l s)
theorem und_wth (l : List Ev) (s : St) (i : Nat) (e : Ev) : und l (wth s i e) = (und l s).filter fun j => decide (j ≠ i) := by
  unfold und
  rw [List.filter_filter]
  congr 1
  funext j
  rw [opn_wth, Bool.and_comm]
theorem und_lt {l : List Ev} {s : St} {i : Nat} (hi : i < l.length) (h : opn l s i = true) (e : Ev) : (und l (wth s i e)).length < (und l s).length := by
  rw [und_wth]
  exact List.length_filter_lt_length_iff_exists.2 ⟨i, List.mem_filter.2 ⟨List.mem_range.2 hi, h⟩, by simp⟩
theorem run_len {l : List Ev} {s : St} {o : List Int} (h : Run l s o) : o.length ≤ (und l s).length := by
  induction o generalizing s with
  | nil => exact Nat.zero_le _
  | cons x o ih =>
    obtain ⟨i, _, hi, h1, _, h3⟩ := h
    have := ih h3
    have := und_lt hi h1 (ev l i)
    rw [List.length_cons]
    omega
theorem und_le (l : List Ev) (s : St) : (und l s).length ≤ l.length := by
  have := List.length_filter_le (opn l s) (List.range l.length)
  rwa [List.length_range] at this
/-- with fuel enough more fuel tells the same -/
theorem leads_fuel {l : List Ev} {f : Nat} {s : St} (hf : (und l s).length < f) : leadsB l f s = true ↔ ∃ o, Run l s o :=
  ⟨run_of, fun ⟨_, h⟩ => leads_of h (by have := run_len h; omega)⟩
def stOf (l : List Ev) (x : List Int) : St := x.foldl (fun s k => wth s k.toNat (ev l k)) init
theorem stOf_snoc (l : List Ev) (x : List Int) (k : Int) : stOf l (x ++ [k]) = wth (stOf l x) k.toNat (ev l k) := by unfold stOf; rw [List.foldl_append]; rfl
theorem snocRec {α : Type} {p : List α → Prop} (h0 : p []) (h1 : ∀ x k, p x → p (x ++ [k])) (x : List α) : p x := by
  have : ∀ y : List α, p y.reverse := by
    intro y
    induction y with
    | nil => exact h0
    | cons a y ih => rw [List.reverse_cons]; exact h1 _ _ ih
  have h := this x.reverse
  rwa [List.reverse_reverse] at h
theorem bit_stOf {l : List Ev} {x : List Int} (hx : ∀ k ∈ x, 0 ≤ k) (j : Nat) : bit (stOf l x) j = decide ((j : Int) ∈ x) := by
  revert hx
  refine snocRec (p := fun x => (∀ k ∈ x, 0 ≤ k) → bit (stOf l x) j = decide ((j : Int) ∈ x)) (fun _ => ?_) (fun x k ih hx => ?_) x
  · simp [stOf, bit, init]
  · rw [stOf_snoc, bit_wth, ih fun k hk => hx k (List.mem_append_left _ hk)]
    have h0 := hx k (by simp)
    rw [Bool.eq_iff_iff]
    simp only [Bool.or_eq_true, decide_eq_true_eq, List.mem_append, List.mem_singleton]
    refine or_congr Iff.rfl ⟨fun h => by omega, fun h => by omega⟩
theorem wat_wset (s : Wd) {a b : Int} (n : Int) (h0 : 0 ≤ a) (h1 : a < 4) (k0 : 0 ≤ b) (k1 : b < 4) : wat (wset s a n) b = if a = b then n else wat s b := by
  unfold wat wset
  have ha : a = 0 ∨ a = 1 ∨ a = 2 ∨ a = 3 := by omega
  have hb : b = 0 ∨ b = 1 ∨ b = 2 ∨ b = 3 := by omega
  rcases ha with rfl | rfl | rfl | rfl <;> rcases hb with rfl | rfl | rfl | rfl <;> simp
theorem right_ev {l : List Ev} (h : right l = true) {i : Int} (hi : plc l i = true) : isEv (ev l i) = true := by
  unfold right at h
  unfold plc at hi
  simp only [Bool.and_eq_true, List.all_eq_true, decide_eq_true_eq] at h hi
  obtain ⟨n, rfl⟩ : ∃ n : Nat, i = n := ⟨i.toNat, by omega⟩
  exact h.2 _ (List.mem_of_getElem? (get_ev (by omega)))
theorem acc_at {e : Ev} (h : isEv e = true) (ha : isAcc e = true) : 0 ≤ e.2.2.1 ∧ e.2.2.1 < 4 := by
  unfold isEv at h
  unfold isAcc at ha
  simp only [Bool.or_eq_true, decide_eq_true_eq] at ha
  simp only [Bool.and_eq_true, decide_eq_true_eq] at h
  rw [if_neg (by omega)] at h
  simp only [Bool.and_eq_true, decide_eq_true_eq] at h
  exact ⟨h.2.1.2.1, h.2.1.2.2⟩
theorem plc_acc {l : List Ev} {i : Int} (h : plc l i = true) : 0 ≤ i ∧ i < l.length ∧ isAcc (ev l i) = true := by
  unfold plc at h
  simp only [Bool.and_eq_true, decide_eq_true_eq] at h
  exact ⟨h.1.1, h.1.2, h.2⟩
theorem plc_of {l : List Ev} {i : Nat} (h : i < l.length) (ha : isAcc (ev l i) = true) : plc l i = true := by
  unfold plc
  rw [ha]
  simp [h]
/-- the last one of some -/
def lst (l : List Ev) (p : Int → Bool) (d : Int) (o : List Int) : Int := o.foldl (fun n k => if p k then (ev l k).2.2.2 else n) d
theorem lst_filter (l : List Ev) (p : Int → Bool) (d : Int) (o : List Int) : lst l p d o = (o.filter p).foldl (fun _ k => (ev l k).2.2.2) d := by
  unfold lst
  rw [List.foldl_filter]
theorem wat_stOf {l : List Ev} (hr : right l = true) {a : Int} (a0 : 0 ≤ a) (a4 : a < 4) {x : List Int} (hx : ∀ k ∈ x, plc l k = true) : wat (stOf l x).wd a = lst l (fun k => isSt (ev l k) a) 0 x := by
  revert hx
  refine snocRec (p := fun x => (∀ k ∈ x, plc l k = true) → wat (stOf l x).wd a = lst l (fun k => isSt (ev l k) a) 0 x) (fun _ => ?_) (fun x k ih hx => ?_) x
  · simp [stOf, init, lst, wat]
  · have h := ih fun k hk => hx k (List.mem_append_left _ hk)
    have hp := hx k (by simp)
    obtain ⟨b0, b4⟩ := acc_at (right_ev hr hp) (plc_acc hp).2.2
    unfold lst at h ⊢
    rw [List.foldl_append, stOf_snoc, ← h]
    show wat (if (ev l k).2.1 = 2 then wset (stOf l x).wd (ev l k).2.2.1 (ev l k).2.2.2 else (stOf l x).wd) a = if isSt (ev l k) a = true then (ev l k).2.2.2 else wat (stOf l x).wd a
    unfold isSt
    by_cases hk : (ev l k).2.1 = 2
    · rw [if_pos hk, wat_wset _ _ b0 b4 a0 a4]
      by_cases he : (ev l k).2.2.1 = a <;> simp [hk, he]
    · rw [if_neg hk]
      simp [hk]
theorem vgo_true (l : List Ev) (i : Int) (n : Int) (o : List Int) : vgo l i n true o = lst l (fun k => pw l i k && ahd l k i) n o := by
  induction o generalizing n with
  | nil => rfl
  | cons k o ih =>
    unfold vgo lst
    rw [Bool.true_or, ih]
    rfl
theorem vgo_app (l : List Ev) (i : Int) (n : Int) {x : List Int} (hx : i ∉ x) (y : List Int) : vgo l i n false (x ++ y) = vgo l i (lst l (pw l i) n x) false y := by
  induction x generalizing n with
  | nil => rfl
  | cons k x ih =>
    have hk : decide (k = i) = false := decide_eq_false fun c => hx (by rw [c]; exact List.mem_cons_self ..)
    rw [List.cons_append]
    show vgo l i (if pw l i k && (!(false || decide (k = i)) || ahd l k i) then (ev l k).2.2.2 else n) (false || decide (k = i)) (x ++ y) = _
    rw [hk]
    simp only [Bool.or_self, Bool.not_false, Bool.true_or, Bool.and_true]
    exact ih _ fun c => hx (List.mem_cons_of_mem _ c)
theorem pw_self {l : List Ev} {i : Int} (h : (ev l i).2.1 = 1) : pw l i i = false := by unfold pw isSt; rw [h]; rfl
theorem val_split {l : List Ev} {i : Int} (h : (ev l i).2.1 = 1) {x : List Int} (hx : i ∉ x) (y : List Int) : val l (x ++ i :: y) i = lst l (fun k => pw l i k && ahd l k i) (lst l (pw l i) 0 x) y := by
  unfold val
  rw [vgo_app l i 0 hx]
  show vgo l i (if pw l i i && (!(false || decide (i = i)) || ahd l i i) then (ev l i).2.2.2 else lst l (pw l i) 0 x) (false || decide (i = i)) y = _
  rw [pw_self h]
  simp only [Bool.false_and, decide_true, Bool.or_true]
  exact vgo_true _ _ _ _
/-- rising lists of the same are the same -/
theorem rise_eq {a b : List Int} (ha : a.Pairwise (· < ·)) (hb : b.Pairwise (· < ·)) (h : ∀ x, x ∈ a ↔ x ∈ b) : a = b := by
  induction a generalizing b with
  | nil =>
    match b with
    | [] => rfl
    | y :: b => exact absurd ((h y).2 (List.mem_cons_self ..)) (by simp)
  | cons x a ih =>
    match b with
    | [] => exact absurd ((h x).1 (List.mem_cons_self ..)) (by simp)
    | y :: b =>
      rw [List.pairwise_cons] at ha hb
      have hxy : x = y := by
        rcases List.mem_cons.1 ((h x).1 (List.mem_cons_self ..)) with e | e
        · exact e
        · rcases List.mem_cons.1 ((h y).2 (List.mem_cons_self ..)) with e' | e'
          · exact e'.symm
          · have := hb.1 x e
            have := ha.1 y e'
            omega
      subst hxy
      rw [ih ha.2 hb.2 fun z => ⟨fun hz => ?_, fun hz => ?_⟩]
      · rcases List.mem_cons.1 ((h z).1 (List.mem_cons_of_mem _ hz)) with e | e
        · subst e; have := ha.1 z hz; omega
        · exact e
      · rcases List.mem_cons.1 ((h z).2 (List.mem_cons_of_mem _ hz)) with e | e
        · subst e; have := hb.1 z hz; omega
        · exact e
end Ax
end Go.Proofs.Ytigefdoejcggpaa
