/- Texts of expressions, statements and what else there is, plain. -/
import Derived.Test.YthlnjnmomnpnpaaGreatDoorYRowsP
namespace Go.Proofs.YthlnjnmomnpnpaaGreatDoor
section
open Tk
namespace Sy
set_option linter.unusedVariables false
set_option linter.unusedSimpArgs false
/-! numbers -/
theorem dec_dig (u : Nat) : ∀ c ∈ Lib.decDigits u, isDig c = true := by
  rw [Lib.decDigits_eq]
  intro c hc
  obtain ⟨j, _, hj⟩ := List.mem_map.1 hc
  have h1 : ∀ i : Fin 10, isDig (UInt8.ofNat (48 + i.val)) = true := by decide
  have h2 : Lib.dg u (Lib.nDigits u - 1 - j) = UInt8.ofNat (48 + (u / 10 ^ (Lib.nDigits u - 1 - j)) % 10) := rfl
  rw [h2] at hj
  rw [← hj]
  exact h1 ⟨(u / 10 ^ (Lib.nDigits u - 1 - j)) % 10, Nat.mod_lt _ (by decide)⟩
theorem dec_ne (u : Nat) : Lib.decDigits u ≠ [] := by
  intro h
  have h2 := Lib.decDigits_length u
  rw [h] at h2
  have := Lib.nDigits_pos u
  simp at h2
  omega
theorem dig_inj {a b : Nat} (ha : a < 10) (hb : b < 10) (h : UInt8.ofNat (48 + a) = UInt8.ofNat (48 + b)) : a = b := by
  have h1 : ∀ i j : Fin 10, UInt8.ofNat (48 + i.val) = UInt8.ofNat (48 + j.val) → i = j := by decide
  exact congrArg Fin.val (h1 ⟨a, ha⟩ ⟨b, hb⟩ h)
theorem dec_lo {u : Nat} (h : u < 10) : Lib.decDigits u = [UInt8.ofNat (48 + u)] := by rw [Lib.decDigits, dif_pos h]
theorem dec_hi {u : Nat} (h : ¬ u < 10) : Lib.decDigits u = Lib.decDigits (u / 10) ++ [UInt8.ofNat (48 + u % 10)] := by rw [Lib.decDigits, dif_neg h]
theorem dec_inj : ∀ (u v : Nat), Lib.decDigits u = Lib.decDigits v → u = v := by
  intro u
  induction u using Nat.strongRecOn with
  | ind u ih =>
    intro v h
    have lone : ∀ (w : Nat) (c d : UInt8), [c] = Lib.decDigits w ++ [d] → False := fun w c d hh => by
      have h1 := congrArg List.length hh
      rw [List.length_append] at h1
      have h2 := List.length_pos_iff.2 (dec_ne w)
      simp at h1
      rw [h1] at h2
      simp at h2
    by_cases hu : u < 10
    · by_cases hv : v < 10
      · rw [dec_lo hu, dec_lo hv] at h
        injection h with h1
        exact dig_inj hu hv h1
      · rw [dec_lo hu, dec_hi hv] at h
        exact (lone _ _ _ h).elim
    · by_cases hv : v < 10
      · rw [dec_hi hu, dec_lo hv] at h
        exact (lone _ _ _ h.symm).elim
      · rw [dec_hi hu, dec_hi hv] at h
        obtain ⟨h1, h2⟩ := List.append_inj' h rfl
        have h3 := ih (u / 10) (by omega) (v / 10) h1
        injection h2 with h5
        have h4 := dig_inj (Nat.mod_lt u (by decide)) (Nat.mod_lt v (by decide)) h5
        omega
theorem numT_dec {n : Int} (h : 0 ≤ n) : numT n = Lib.decDigits n.toNat := by
  unfold numT Lib.itoa
  rw [if_neg (by omega)]
theorem numT_inj {n m : Int} (hn : 0 ≤ n) (hm : 0 ≤ m) (h : numT n = numT m) : n = m := by
  rw [numT_dec hn, numT_dec hm] at h
  have := dec_inj _ _ h
  omega
theorem numT_dig {n : Int} (h : 0 ≤ n) : ∀ c ∈ numT n, isDig c = true := by rw [numT_dec h]; exact dec_dig _
theorem numT_ne {n : Int} (h : 0 ≤ n) : numT n ≠ [] := by rw [numT_dec h]; exact dec_ne _
/-! runs -/
/-- what a run may stand ahead of -/
def Hd (p : UInt8 → Bool) (r : Bs) : Prop := ∀ c t, r = c :: t → p c = false
theorem split_run {p : UInt8 → Bool} : ∀ {a b r r' : Bs}, (∀ c ∈ a, p c = true) → (∀ c ∈ b, p c = true) → Hd p r → Hd p r' → a ++ r = b ++ r' → a = b ∧ r = r'
  | [], [], r, r', _, _, _, _, h => ⟨rfl, h⟩
  | [], c :: b, r, r', _, hb, hr, _, h => by
    have := hr c (b ++ r') h
    rw [hb c (List.mem_cons_self ..)] at this
    cases this
  | c :: a, [], r, r', ha, _, _, hr', h => by
    have := hr' c (a ++ r) h.symm
    rw [ha c (List.mem_cons_self ..)] at this
    cases this
  | c :: a, d :: b, r, r', ha, hb, hr, hr', h => by
    injection h with h1 h2
    obtain ⟨h3, h4⟩ := split_run (fun x hx => ha x (List.mem_cons_of_mem _ hx)) (fun x hx => hb x (List.mem_cons_of_mem _ hx)) hr hr' h2
    exact ⟨by rw [h1, h3], h4⟩
theorem name_run {s : Bs} (h : isName s = true) : (∀ c ∈ s, isRun c = true) ∧ s ≠ [] ∧ headDig s = false ∧ isWord s = false := by
  unfold isName at h
  simp only [Bool.and_eq_true, Bool.not_eq_true', decide_eq_true_eq] at h
  obtain ⟨⟨⟨h1, h2⟩, h3⟩, h4⟩ := h
  rw [List.all_eq_true] at h3
  exact ⟨h3, fun e => by rw [e] at h1; simp at h1, h2, h4⟩
theorem dig_run {c : UInt8} (h : isDig c = true) : isRun c = true := by unfold isRun; rw [h, Bool.or_true]
/-! shapes -/
theorem nm_inj {s t : ByteArray} (h : nm s = nm t) : s = t := by
  rw [← str_of s, ← str_of t]
  exact congrArg str h
theorem numbers_0 {o : Int} (h : numbersV o = 0) : o = 0 := by
  unfold numbersV at h
  split at h
  · assumption
  · split at h
    · cases h
    · split at h <;> cases h
theorem numbers_1 {o : Int} (h : numbersV o = 1) : 15 ≤ o ∧ o ≤ 17 := by
  unfold numbersV at h
  split at h
  · cases h
  · split at h
    · rename_i h2
      exact of_decide_eq_true h2
    · split at h <;> cases h
theorem numbers_2 {o : Int} (h : numbersV o = 2) : 1 ≤ o ∧ o ≤ 14 := by
  unfold numbersV at h
  split at h
  · cases h
  · split at h
    · cases h
    · rename_i h1 h2
      split at h
      · rename_i h3
        have h4 : ¬ (15 ≤ o ∧ o ≤ 17) := fun c => h2 (decide_eq_true c)
        by_cases hc : o < 1 ∨ 14 < o
        · have e : level o = 0 := Plain.level_out o hc
          omega
        · omega
      · cases h
/-- what right expressions there are -/
inductive View (k : Nat) : Ex → Prop
  | num (n : Int) (h : 0 ≤ n) : View k (.mk 1 0 n ⟨#[]⟩ [])
  | var (s : ByteArray) (h : isName s.data.toList = true) : View k (.mk 2 0 0 s [])
  | one (o : Int) (a : Ex) (h : 15 ≤ o ∧ o ≤ 17) (ha : bodyE k a = true) : View k (.mk 3 o 0 ⟨#[]⟩ [a])
  | two (o : Int) (a b : Ex) (h : 1 ≤ o ∧ o ≤ 14) (ha : bodyE k a = true) (hb : bodyE k b = true) : View k (.mk 4 o 0 ⟨#[]⟩ [a, b])
  | idx (s : ByteArray) (a : Ex) (h : isName s.data.toList = true) (ha : bodyE k a = true) : View k (.mk 5 0 0 s [a])
theorem view {k : Nat} {e : Ex} (h : bodyE (k + 1) e = true) : View k e := by
  obtain ⟨hf, hsub, hk⟩ := kind_of h
  obtain ⟨ek, eo, en, es, el⟩ := e
  change fitsE (eShp ek) (.mk ek eo en es el) = true at hf
  change ∀ (i : Nat) (a : Ex), el[i]? = some a → bodyE k a = true at hsub
  change ek = 1 ∨ ek = 2 ∨ ek = 3 ∨ ek = 4 ∨ ek = 5 at hk
  unfold fitsE within nameIf at hf
  simp only [Bool.and_eq_true, decide_eq_true_eq] at hf
  obtain ⟨_, h1, ⟨h2, h3⟩, h4, h5⟩ := hf
  change numbersV eo = _ at h1
  change 0 ≤ en at h2
  change en ≤ _ at h3
  change (el.length : Int) = _ at h5
  rcases hk with rfl | rfl | rfl | rfl | rfl
  · have e1 := numbers_0 h1
    have e2 : es = ⟨#[]⟩ := of_decide_eq_true h4
    have e3 : el = [] := List.length_eq_zero_iff.1 (by have : (el.length : Int) = 0 := h5; omega)
    subst e1 e2 e3
    exact .num en h2
  · have e1 := numbers_0 h1
    have e2 : isName es.data.toList = true := h4
    have e3 : el = [] := List.length_eq_zero_iff.1 (by have : (el.length : Int) = 0 := h5; omega)
    have e4 : en = 0 := by have : en ≤ 0 := h3; omega
    subst e1 e3 e4
    exact .var es e2
  · have e1 := numbers_1 h1
    have e2 : es = ⟨#[]⟩ := of_decide_eq_true h4
    have e4 : en = 0 := by have : en ≤ 0 := h3; omega
    obtain ⟨a, e3⟩ := List.length_eq_one_iff.1 (by have : (el.length : Int) = 1 := h5; omega : el.length = 1)
    subst e2 e3 e4
    exact .one eo a e1 (hsub 0 a rfl)
  · have e1 := numbers_2 h1
    have e2 : es = ⟨#[]⟩ := of_decide_eq_true h4
    have e4 : en = 0 := by have : en ≤ 0 := h3; omega
    have h6 : el.length = 2 := by have : (el.length : Int) = 2 := h5; omega
    subst e2 e4
    match el, h6, hsub with
    | [a, b], _, hsub => exact .two eo a b e1 (hsub 0 a rfl) (hsub 1 b rfl)
  · have e1 := numbers_0 h1
    have e2 : isName es.data.toList = true := h4
    have e4 : en = 0 := by have : en ≤ 0 := h3; omega
    obtain ⟨a, e3⟩ := List.length_eq_one_iff.1 (by have : (el.length : Int) = 1 := h5; omega : el.length = 1)
    subst e1 e3 e4
    exact .idx es a e2 (hsub 0 a rfl)
/-! texts, without a bound on the depth -/
def tx (e : Ex) : Bs := exT 30 e
theorem up29 {k : Nat} (hk : k ≤ 29) {a : Ex} (ha : bodyE k a = true) : exT 29 a = tx a := by
  unfold tx
  rw [exT_up k a ha 29 hk, exT_up k a ha 30 (by omega)]
theorem tx_num (n : Int) : tx (.mk 1 0 n ⟨#[]⟩ []) = numT n := exT_1 rfl
theorem tx_var (s : ByteArray) : tx (.mk 2 0 0 s []) = nm s := exT_2 rfl
theorem tx_one {k : Nat} (hk : k ≤ 29) (o : Int) {a : Ex} (ha : bodyE k a = true) : tx (.mk 3 o 0 ⟨#[]⟩ [a]) = opT o ++ par (low a 9223372036854775807) (tx a) := by
  show exT (29 + 1) _ = _
  rw [exT_3 rfl]
  show opT o ++ par (low a _) (exT 29 a) = _
  rw [up29 hk ha]
theorem tx_two {k : Nat} (hk : k ≤ 29) (o : Int) {a b : Ex} (ha : bodyE k a = true) (hb : bodyE k b = true) : tx (.mk 4 o 0 ⟨#[]⟩ [a, b]) = par (low a (level o)) (tx a) ++ ([32] ++ opT o ++ [32]) ++ par (low b (level o + 1)) (tx b) := by
  show exT (29 + 1) _ = _
  rw [exT_4 rfl]
  show par (low a _) (exT 29 a) ++ _ ++ par (low b _) (exT 29 b) = _
  rw [up29 hk ha, up29 hk hb]
  rfl
theorem tx_idx {k : Nat} (hk : k ≤ 29) (s : ByteArray) {a : Ex} (ha : bodyE k a = true) : tx (.mk 5 0 0 s [a]) = nm s ++ [91] ++ tx a ++ [93] := by
  show exT (29 + 1) _ = _
  rw [exT_5 rfl]
  show _ ++ exT 29 a ++ _ = _
  rw [up29 hk ha]
  rfl
/-! an expression as a row of operands with operators between them -/
abbrev At := Bool × Ex
abbrev Ft := At × List (Int × At)
def atT (x : At) : Bs := par x.1 (tx x.2)
def pcT (x : Int × At) : Bs := [32] ++ opT x.1 ++ [32] ++ atT x.2
def ftT (f : Ft) : Bs := atT f.1 ++ f.2.flatMap pcT
theorem par_false (s : Bs) : par false s = s := rfl
theorem par_true (s : Bs) : par true s = [40] ++ s ++ [41] := rfl
theorem kne {k o n : Int} {s : ByteArray} {l : List Ex} (h : k ≠ 4) : (Ex.mk k o n s l).kind ≠ 4 := h
theorem atT_mk (b : Bool) (e : Ex) : atT (b, e) = par b (tx e) := rfl
theorem ftT_lone (x : At) : ftT (x, []) = atT x := by
  unfold ftT
  exact List.append_nil _
def flat : Nat → Ex → Ft
  | 0, e => ((false, e), [])
  | d + 1, e => if e.kind = 4 then
      ((if low (argAt e.args 0) (level e.op) = true then ((true, argAt e.args 0), []) else flat d (argAt e.args 0)).1,
        (if low (argAt e.args 0) (level e.op) = true then ((true, argAt e.args 0), []) else flat d (argAt e.args 0)).2 ++ (e.op, (if low (argAt e.args 1) (level e.op + 1) = true then ((true, argAt e.args 1), []) else flat d (argAt e.args 1)).1) :: (if low (argAt e.args 1) (level e.op + 1) = true then ((true, argAt e.args 1), []) else flat d (argAt e.args 1)).2)
    else ((false, e), [])
/-- an operand, at a level -/
def opnd (d : Nat) (a : Ex) (l : Int) : Ft := if low a l = true then ((true, a), []) else flat d a
theorem flat_two (d : Nat) (o : Int) (a b : Ex) : flat (d + 1) (.mk 4 o 0 ⟨#[]⟩ [a, b]) = ((opnd d a (level o)).1, (opnd d a (level o)).2 ++ (o, (opnd d b (level o + 1)).1) :: (opnd d b (level o + 1)).2) := rfl
theorem flat_not {d : Nat} {e : Ex} (h : e.kind ≠ 4) : flat d e = ((false, e), []) := by
  cases d with
  | zero => rfl
  | succ d => unfold flat; rw [if_neg h]
theorem opnd_text {d : Nat} {a : Ex} {l : Int} (h : tx a = ftT (flat d a)) : par (low a l) (tx a) = ftT (opnd d a l) := by
  unfold opnd
  by_cases hl : low a l = true
  · rw [if_pos hl, hl, ftT_lone, atT_mk]
  · rw [if_neg hl]
    have : low a l = false := by simpa using hl
    rw [this, ← h, par_false]
theorem ftT_join (f g : Ft) (o : Int) : ftT (f.1, f.2 ++ (o, g.1) :: g.2) = ftT f ++ ([32] ++ opT o ++ [32]) ++ ftT g := by
  unfold ftT
  show atT f.1 ++ (f.2 ++ (o, g.1) :: g.2).flatMap pcT = _
  rw [List.flatMap_append, List.flatMap_cons]
  show _ ++ (_ ++ (([32] ++ opT o ++ [32] ++ atT g.1) ++ _)) = _
  simp only [List.append_assoc]
theorem flat_text : ∀ (d : Nat) (e : Ex), bodyE d e = true → d ≤ 30 → tx e = ftT (flat d e) := by
  intro d
  induction d with
  | zero => intro e h; cases h
  | succ d ih =>
    intro e h hd
    have hv := view h
    cases hv with
    | two o a b ho ha hb =>
      rw [tx_two (by omega) o ha hb, flat_two, ftT_join, ← opnd_text (ih a ha (by omega)), ← opnd_text (ih b hb (by omega))]
    | _ =>
      rw [flat_not (kne (by decide)), ftT_lone, atT_mk, par_false]
/-- the operators of a row that needs no parentheses at a level are of that level or above -/
theorem flat_lev : ∀ (d : Nat) (e : Ex) (l : Int), low e l = false → ∀ x ∈ (flat d e).2, l ≤ level x.1 := by
  intro d
  induction d with
  | zero => intro e l _ x hx; cases hx
  | succ d ih =>
    intro e l hl x hx
    by_cases hk : e.kind = 4
    · have hle : l ≤ level e.op := by
        unfold low at hl
        rw [decide_eq_true hk, Bool.true_and, decide_eq_false_iff_not] at hl
        omega
      unfold flat at hx
      rw [if_pos hk] at hx
      rcases List.mem_append.1 hx with hx | hx
      · split at hx
        · cases hx
        · rename_i hlow
          have := ih _ (level e.op) (by simpa using hlow) x hx
          omega
      · rcases List.mem_cons.1 hx with hx | hx
        · subst hx
          exact hle
        · split at hx
          · cases hx
          · rename_i hlow
            have := ih _ (level e.op + 1) (by simpa using hlow) x hx
            omega
    · rw [flat_not hk] at hx
      cases hx
theorem opnd_lev (d : Nat) (a : Ex) (l : Int) : ∀ x ∈ (opnd d a l).2, l ≤ level x.1 := by
  unfold opnd
  intro x hx
  split at hx
  · cases hx
  · rename_i h
    exact flat_lev d a l (by simpa using h) x hx
/-- where the root is -/
theorem root_split {X X' Y Y' : List (Int × At)} {o o' : Int} {B B' : At} (h : X ++ (o, B) :: Y = X' ++ (o', B') :: Y') (h1 : ∀ x ∈ X, level o ≤ level x.1) (h2 : ∀ x ∈ Y, level o + 1 ≤ level x.1) (h3 : ∀ x ∈ X', level o' ≤ level x.1) (h4 : ∀ x ∈ Y', level o' + 1 ≤ level x.1) :
    X = X' ∧ o = o' ∧ B = B' ∧ Y = Y' := by
  have hlen : X.length = X'.length := by
    have key : ∀ {X X' Y Y' : List (Int × At)} {o o' : Int} {B B' : At}, X ++ (o, B) :: Y = X' ++ (o', B') :: Y' → (∀ x ∈ Y, level o + 1 ≤ level x.1) → (∀ x ∈ X', level o' ≤ level x.1) → ¬ X.length < X'.length := by
      intro X X' Y Y' o o' B B' h h2 h3 hlt
      have e1 : (X ++ (o, B) :: Y)[X.length]? = some (o, B) := by rw [List.getElem?_append_right (Nat.le_refl _), Nat.sub_self]; rfl
      rw [h, List.getElem?_append_left hlt] at e1
      have e2 := h3 _ (List.mem_of_getElem? e1)
      have e3 : (X' ++ (o', B') :: Y')[X'.length]? = some (o', B') := by rw [List.getElem?_append_right (Nat.le_refl _), Nat.sub_self]; rfl
      rw [← h, List.getElem?_append_right (by omega)] at e3
      have e4 : X'.length - X.length = (X'.length - X.length - 1) + 1 := by omega
      rw [e4, List.getElem?_cons_succ] at e3
      have e5 := h2 _ (List.mem_of_getElem? e3)
      have e6 : level o' ≤ level o := e2
      have e7 : level o + 1 ≤ level o' := e5
      omega
    have := key h h2 h3
    have := key h.symm h4 h1
    omega
  obtain ⟨e1, e2⟩ := List.append_inj h hlen
  injection e2 with e3 e4
  injection e3 with e5 e6
  exact ⟨e1, e5, e6, e4⟩
theorem flat_inj : ∀ (d : Nat) (e e' : Ex), bodyE d e = true → bodyE d e' = true → flat d e = flat d e' → e = e' := by
  intro d
  induction d with
  | zero => intro e e' h; cases h
  | succ d ih =>
    intro e e' h h' hf
    have op_inj : ∀ (a a' : Ex) (l : Int), bodyE d a = true → bodyE d a' = true → opnd d a l = opnd d a' l → a = a' := by
      intro a a' l ha ha' ho
      have mixed : ∀ (a a' : Ex), flat d a' = ((true, a), []) → False := by
        intro a a' hm
        by_cases hk : a'.kind = 4
        · cases d with
          | zero =>
            have : false = true := congrArg (fun f : Ft => f.1.1) hm
            cases this
          | succ d =>
            unfold flat at hm
            rw [if_pos hk] at hm
            have := congrArg (fun f : Ft => f.2.length) hm
            simp at this
        · rw [flat_not hk] at hm
          exact absurd (congrArg (fun f : Ft => f.1.1) hm) (by simp)
      unfold opnd at ho
      split at ho
      · split at ho
        · injection ho with h1 _
          injection h1
        · exact (mixed a a' ho.symm).elim
      · split at ho
        · exact (mixed a' a ho).elim
        · exact ih a a' ha ha' ho
    by_cases hk : e.kind = 4
    · by_cases hk' : e'.kind = 4
      · have hv := view h
        have hv' := view h'
        cases hv with
        | two o a b ho ha hb =>
          cases hv' with
          | two o' a' b' ho' ha' hb' =>
            rw [flat_two, flat_two] at hf
            injection hf with h1 h2
            obtain ⟨e1, e2, e3, e4⟩ := root_split h2 (opnd_lev d a _) (opnd_lev d b _) (opnd_lev d a' _) (opnd_lev d b' _)
            subst e2
            rw [op_inj a a' _ ha ha' (Prod.ext h1 e1), op_inj b b' _ hb hb' (Prod.ext e3 e4)]
          | _ => exact absurd hk' (kne (by decide))
        | _ => exact absurd hk (kne (by decide))
      · rw [flat_not hk'] at hf
        unfold flat at hf
        rw [if_pos hk] at hf
        have := congrArg (fun f : Ft => f.2.length) hf
        simp at this
    · by_cases hk' : e'.kind = 4
      · rw [flat_not hk] at hf
        unfold flat at hf
        rw [if_pos hk'] at hf
        have := congrArg (fun f : Ft => f.2.length) hf
        simp at this
      · rw [flat_not hk, flat_not hk'] at hf
        injection hf with h1 _
        injection h1
end Sy
end
section
open Tk
namespace Sy
set_option linter.unusedVariables false
set_option linter.unusedSimpArgs false
def pA (c : UInt8) : Bool := isRun c || c == 91
def pE (c : UInt8) : Bool := isRun c || (c == 91 || c == 32)
theorem Hd.mk {p : UInt8 → Bool} {c : UInt8} {t : Bs} (h : p c = false) : Hd p (c :: t) := fun d u e => by
  injection e with h1 _
  rw [← h1]
  exact h
theorem Hd.nil {p : UInt8 → Bool} : Hd p [] := fun d u e => by cases e
theorem pA_run {r : Bs} (h : Hd pA r) : Hd isRun r := fun c t e => by
  have := h c t e
  unfold pA at this
  rw [Bool.or_eq_false_iff] at this
  exact this.1
theorem pE_A {r : Bs} (h : Hd pE r) : Hd pA r := fun c t e => by
  have := h c t e
  unfold pE at this
  unfold pA
  rw [Bool.or_eq_false_iff, Bool.or_eq_false_iff] at this
  rw [this.1, this.2.1]
  rfl
def cls (c : UInt8) : Nat := if isDig c = true then 0 else if isRun c = true then 1 else if c = 40 then 3 else 2
def kcls (k : Int) : Nat := if k = 1 then 0 else if k = 3 then 2 else 1
theorem opT_one {o : Int} (h : 15 ≤ o ∧ o ≤ 17) : ∃ c, opT o = [c] ∧ cls c = 2 := by
  rcases (show o = 15 ∨ o = 16 ∨ o = 17 by omega) with rfl | rfl | rfl
  · exact ⟨45, rfl, by decide⟩
  · exact ⟨33, rfl, by decide⟩
  · exact ⟨126, rfl, by decide⟩
theorem opT_one_inj {o o' : Int} (h : 15 ≤ o ∧ o ≤ 17) (h' : 15 ≤ o' ∧ o' ≤ 17) (he : opT o = opT o') : o = o' := by
  rcases (show o = 15 ∨ o = 16 ∨ o = 17 by omega) with rfl | rfl | rfl <;> rcases (show o' = 15 ∨ o' = 16 ∨ o' = 17 by omega) with rfl | rfl | rfl <;> first | rfl | (exact absurd he (by decide))
theorem opT_two_inj {o o' : Int} (h : 1 ≤ o ∧ o ≤ 14) (h' : 1 ≤ o' ∧ o' ≤ 14) (he : opT o = opT o') : o = o' := by
  have key : ∀ i j : Fin 14, opT ((i.val : Int) + 1) = opT ((j.val : Int) + 1) → i = j := by decide +kernel
  have h1 : (((o - 1).toNat : Nat) : Int) + 1 = o := by omega
  have h2 : (((o' - 1).toNat : Nat) : Int) + 1 = o' := by omega
  have := key ⟨(o - 1).toNat, by omega⟩ ⟨(o' - 1).toNat, by omega⟩ (by show opT ((((o - 1).toNat : Nat) : Int) + 1) = opT ((((o' - 1).toNat : Nat) : Int) + 1); rw [h1, h2]; exact he)
  have := congrArg Fin.val this
  simp at this
  omega
theorem opT_no32 {o : Int} (h : 1 ≤ o ∧ o ≤ 14) : ∀ c ∈ opT o, (c != 32) = true := by
  have key : ∀ i : Fin 14, ∀ c ∈ opT ((i.val : Int) + 1), (c != 32) = true := by decide +kernel
  have h1 : (((o - 1).toNat : Nat) : Int) + 1 = o := by omega
  have := key ⟨(o - 1).toNat, by omega⟩
  rw [show ((((⟨(o - 1).toNat, by omega⟩ : Fin 14).val : Nat) : Int) + 1) = o from h1] at this
  exact this
theorem name_head {s : ByteArray} (h : isName s.data.toList = true) : ∃ c t, nm s = c :: t ∧ cls c = 1 := by
  obtain ⟨h1, h2, h3, _⟩ := name_run h
  unfold nm
  cases hs : s.data.toList with
  | nil => exact absurd hs h2
  | cons c t =>
    rw [hs] at h1 h3
    refine ⟨c, t, rfl, ?_⟩
    unfold cls
    have e1 : isDig c = false := h3
    rw [e1, h1 c (List.mem_cons_self ..)]
    rfl
theorem num_head {n : Int} (h : 0 ≤ n) : ∃ c t, numT n = c :: t ∧ cls c = 0 := by
  have h1 := numT_dig h
  cases hs : numT n with
  | nil => exact absurd hs (numT_ne h)
  | cons c t =>
    rw [hs] at h1
    refine ⟨c, t, rfl, ?_⟩
    unfold cls
    rw [h1 c (List.mem_cons_self ..)]
    rfl
theorem tx_head {k : Nat} (hk : k ≤ 29) {x : Ex} (hx : x.kind ≠ 4) (h : bodyE (k + 1) x = true) : ∃ c t, tx x = c :: t ∧ cls c = kcls x.kind := by
  have hv := view h
  cases hv with
  | num n hn => rw [tx_num]; exact num_head hn
  | var s hs => rw [tx_var]; exact name_head hs
  | one o a ho ha =>
    rw [tx_one hk o ha]
    obtain ⟨c, hc, h2⟩ := opT_one ho
    rw [hc]
    exact ⟨c, _, rfl, h2⟩
  | two o a b ho ha hb => exact absurd rfl hx
  | idx s a hs ha =>
    rw [tx_idx hk s ha]
    obtain ⟨c, t, hc, h2⟩ := name_head hs
    rw [hc]
    exact ⟨c, _, rfl, h2⟩
theorem kcls_ne {x : Ex} : kcls x.kind ≠ 3 := by
  unfold kcls
  split
  · decide
  · split <;> decide
def AtomC (k : Nat) : Prop := ∀ (x y : Ex) (r r' : Bs), x.kind ≠ 4 → y.kind ≠ 4 → bodyE k x = true → bodyE k y = true → Hd pA r → Hd pA r' → tx x ++ r = tx y ++ r' → x = y ∧ r = r'
def ExC (k : Nat) : Prop := ∀ (x y : Ex) (r r' : Bs), bodyE k x = true → bodyE k y = true → Hd pE r → Hd pE r' → tx x ++ r = tx y ++ r' → x = y ∧ r = r'
def AtOk (k m : Nat) (x : At) : Prop := (x.1 = true ∧ bodyE k x.2 = true) ∨ (x.1 = false ∧ x.2.kind ≠ 4 ∧ bodyE m x.2 = true)
theorem par_no {m : Nat} (hm : m ≤ 30) {a b : Ex} {r r' : Bs} (hb : b.kind ≠ 4) (hk : bodyE m b = true) (h : par true (tx a) ++ r = par false (tx b) ++ r') : False := by
  cases m with
  | zero => cases hk
  | succ m =>
    obtain ⟨c, t, hc, h2⟩ := tx_head (by omega) hb hk
    rw [par_true, par_false, hc] at h
    injection h with h1 _
    rw [← h1] at h2
    exact kcls_ne (h2.symm.trans (by decide))
theorem atC {k m : Nat} (hm : m ≤ 30) (hA : AtomC m) (hE : ExC k) {x y : At} {r r' : Bs} (hx : AtOk k m x) (hy : AtOk k m y) (hr : Hd pA r) (hr' : Hd pA r') (h : atT x ++ r = atT y ++ r') : x = y ∧ r = r' := by
  obtain ⟨b, e⟩ := x
  obtain ⟨b', e'⟩ := y
  rw [atT_mk, atT_mk] at h
  rcases hx with ⟨h1, h2⟩ | ⟨h1, h2, h3⟩
  · rcases hy with ⟨h4, h5⟩ | ⟨h4, h5, h6⟩
    · change b = true at h1
      change b' = true at h4
      subst h1 h4
      rw [par_true, par_true] at h
      simp only [List.append_assoc, List.singleton_append, List.cons_append, List.nil_append] at h
      injection h with _ h
      obtain ⟨e1, e2⟩ := hE e e' _ _ h2 h5 (Hd.mk (by decide)) (Hd.mk (by decide)) h
      injection e2 with _ e2
      exact ⟨by rw [e1], e2⟩
    · change b = true at h1
      change b' = false at h4
      subst h1 h4
      exact (par_no hm h5 h6 h).elim
  · rcases hy with ⟨h4, h5⟩ | ⟨h4, h5, h6⟩
    · change b = false at h1
      change b' = true at h4
      subst h1 h4
      exact (par_no hm h2 h3 h.symm).elim
    · change b = false at h1
      change b' = false at h4
      subst h1 h4
      rw [par_false, par_false] at h
      obtain ⟨e1, e2⟩ := hA e e' r r' h2 h5 h3 h6 hr hr' h
      exact ⟨by rw [e1], e2⟩
theorem low_max (a : Ex) : low a 9223372036854775807 = decide (a.kind = 4) := by
  have := level_bds a.op
  unfold low
  rw [decide_eq_true (show level a.op < 9223372036854775807 by omega), Bool.and_true]
theorem AtOk.par {k : Nat} {a : Ex} (h : bodyE k a = true) : AtOk k k (low a 9223372036854775807, a) := by
  rw [low_max]
  by_cases hk : a.kind = 4
  · exact .inl ⟨decide_eq_true hk, h⟩
  · exact .inr ⟨decide_eq_false hk, hk, h⟩
theorem atom_step {k : Nat} (hk : k ≤ 29) (hA : AtomC k) (hE : ExC k) : AtomC (k + 1) := by
  intro x y r r' hx hy bx bY hr hr' h
  obtain ⟨c, t, hc, h1⟩ := tx_head hk hx bx
  obtain ⟨c', t', hc', h2⟩ := tx_head hk hy bY
  have hkk : kcls x.kind = kcls y.kind := by
    rw [hc, hc'] at h
    injection h with e _
    rw [← h1, ← h2, e]
  clear hc hc' h1 h2
  have hv := view bx
  have hw := view bY
  cases hv with
  | num n hn =>
    cases hw with
    | num n' hn' =>
      rw [tx_num, tx_num] at h
      obtain ⟨e1, e2⟩ := split_run (p := isRun) (fun c hc => dig_run (numT_dig hn c hc)) (fun c hc => dig_run (numT_dig hn' c hc)) (pA_run hr) (pA_run hr') h
      rw [numT_inj hn hn' e1]
      exact ⟨rfl, e2⟩
    | var s hs => exact absurd hkk (by show ¬ (kcls 1 = kcls 2); decide)
    | one o a ho ha => exact absurd hkk (by show ¬ (kcls 1 = kcls 3); decide)
    | two o a b ho ha hb => exact absurd rfl hy
    | idx s a hs ha => exact absurd hkk (by show ¬ (kcls 1 = kcls 5); decide)
  | var s hs =>
    cases hw with
    | num n' hn' => exact absurd hkk (by show ¬ (kcls 2 = kcls 1); decide)
    | var s' hs' =>
      rw [tx_var, tx_var] at h
      obtain ⟨e1, e2⟩ := split_run (p := isRun) (name_run hs).1 (name_run hs').1 (pA_run hr) (pA_run hr') h
      rw [nm_inj e1]
      exact ⟨rfl, e2⟩
    | one o a ho ha => exact absurd hkk (by show ¬ (kcls 2 = kcls 3); decide)
    | two o a b ho ha hb => exact absurd rfl hy
    | idx s' a hs' ha =>
      rw [tx_var, tx_idx hk s' ha] at h
      simp only [List.append_assoc, List.singleton_append, List.cons_append, List.nil_append] at h
      obtain ⟨e1, e2⟩ := split_run (p := isRun) (name_run hs).1 (name_run hs').1 (pA_run hr) (Hd.mk (by decide)) h
      exact absurd (hr _ _ e2) (by decide)
  | one o a ho ha =>
    cases hw with
    | num n' hn' => exact absurd hkk (by show ¬ (kcls 3 = kcls 1); decide)
    | var s' hs' => exact absurd hkk (by show ¬ (kcls 3 = kcls 2); decide)
    | one o' a' ho' ha' =>
      rw [tx_one hk o ha, tx_one hk o' ha'] at h
      obtain ⟨d, hd, _⟩ := opT_one ho
      obtain ⟨d', hd', _⟩ := opT_one ho'
      have hdd : d = d' := by
        rw [hd, hd'] at h
        injection h
      have hoo : o = o' := opT_one_inj ho ho' (by rw [hd, hd', hdd])
      subst hoo
      rw [List.append_assoc, List.append_assoc] at h
      have h4 := List.append_cancel_left h
      obtain ⟨e1, e2⟩ := atC (by omega) hA hE (AtOk.par ha) (AtOk.par ha') hr hr' (by rw [atT_mk, atT_mk]; exact h4)
      injection e1 with _ e1
      rw [e1]
      exact ⟨rfl, e2⟩
    | two o' a' b' ho' ha' hb' => exact absurd rfl hy
    | idx s' a' hs' ha' => exact absurd hkk (by show ¬ (kcls 3 = kcls 5); decide)
  | two o a b ho ha hb => exact absurd rfl hx
  | idx s a hs ha =>
    cases hw with
    | num n' hn' => exact absurd hkk (by show ¬ (kcls 5 = kcls 1); decide)
    | var s' hs' =>
      rw [tx_var, tx_idx hk s ha] at h
      simp only [List.append_assoc, List.singleton_append, List.cons_append, List.nil_append] at h
      obtain ⟨e1, e2⟩ := split_run (p := isRun) (name_run hs).1 (name_run hs').1 (Hd.mk (by decide)) (pA_run hr') h
      exact absurd (hr' _ _ e2.symm) (by decide)
    | one o' a' ho' ha' => exact absurd hkk (by show ¬ (kcls 5 = kcls 3); decide)
    | two o' a' b' ho' ha' hb' => exact absurd rfl hy
    | idx s' a' hs' ha' =>
      rw [tx_idx hk s ha, tx_idx hk s' ha'] at h
      simp only [List.append_assoc, List.singleton_append, List.cons_append, List.nil_append] at h
      obtain ⟨e1, e2⟩ := split_run (p := isRun) (name_run hs).1 (name_run hs').1 (Hd.mk (by decide)) (Hd.mk (by decide)) h
      injection e2 with _ e2
      obtain ⟨e3, e4⟩ := hE a a' _ _ ha ha' (Hd.mk (by decide)) (Hd.mk (by decide)) e2
      injection e4 with _ e4
      rw [nm_inj e1, e3]
      exact ⟨rfl, e4⟩
theorem AtOk.mono {k m : Nat} {x : At} (h : AtOk k m x) : AtOk (k + 1) (m + 1) x := by
  rcases h with ⟨h1, h2⟩ | ⟨h1, h2, h3⟩
  · exact .inl ⟨h1, body_mono _ _ h2⟩
  · exact .inr ⟨h1, h2, body_mono _ _ h3⟩
def FtOk (k m : Nat) (f : Ft) : Prop := AtOk k m f.1 ∧ ∀ x ∈ f.2, (1 ≤ x.1 ∧ x.1 ≤ 14) ∧ AtOk k m x.2
theorem FtOk.mono {k m : Nat} {f : Ft} (h : FtOk k m f) : FtOk (k + 1) (m + 1) f := ⟨h.1.mono, fun x hx => ⟨(h.2 x hx).1, (h.2 x hx).2.mono⟩⟩
theorem flat_ok : ∀ (d : Nat) (e : Ex), bodyE (d + 1) e = true → FtOk d (d + 1) (flat (d + 1) e) := by
  intro d
  induction d with
  | zero =>
    intro e h
    have hv := view h
    cases hv with
    | two o a b ho ha hb => cases ha
    | _ =>
      rw [flat_not (kne (by decide))]
      exact ⟨.inr ⟨rfl, kne (by decide), h⟩, fun x hx => by cases hx⟩
  | succ d ih =>
    intro e h
    have op_ok : ∀ (a : Ex) (l : Int), bodyE (d + 1) a = true → FtOk (d + 1) (d + 2) (opnd (d + 1) a l) := by
      intro a l ha
      unfold opnd
      split
      · exact ⟨.inl ⟨rfl, ha⟩, fun x hx => by cases hx⟩
      · exact (ih a ha).mono
    have hv := view h
    cases hv with
    | two o a b ho ha hb =>
      rw [flat_two]
      obtain ⟨h1, h2⟩ := op_ok a (level o) ha
      obtain ⟨h3, h4⟩ := op_ok b (level o + 1) hb
      refine ⟨h1, fun x hx => ?_⟩
      rcases List.mem_append.1 hx with hx | hx
      · exact h2 x hx
      · rcases List.mem_cons.1 hx with hx | hx
        · subst hx
          exact ⟨ho, h3⟩
        · exact h4 x hx
    | _ =>
      rw [flat_not (kne (by decide))]
      exact ⟨.inr ⟨rfl, kne (by decide), h⟩, fun x hx => by cases hx⟩
theorem rest_hd {L : List (Int × At)} {r : Bs} (hr : Hd pE r) : Hd pA (L.flatMap pcT ++ r) := by
  cases L with
  | nil => exact pE_A hr
  | cons x L => exact Hd.mk (by decide)
theorem rest_dec {k m : Nat} (hm : m ≤ 30) (hA : AtomC m) (hE : ExC k) : ∀ (L L' : List (Int × At)) (r r' : Bs), (∀ x ∈ L, (1 ≤ x.1 ∧ x.1 ≤ 14) ∧ AtOk k m x.2) → (∀ x ∈ L', (1 ≤ x.1 ∧ x.1 ≤ 14) ∧ AtOk k m x.2) → Hd pE r → Hd pE r' → L.flatMap pcT ++ r = L'.flatMap pcT ++ r' → L = L' ∧ r = r' := by
  intro L
  induction L with
  | nil =>
    intro L' r r' _ _ hr hr' h
    cases L' with
    | nil => exact ⟨rfl, h⟩
    | cons x L' => exact absurd (hr _ _ h) (by decide)
  | cons x L ih =>
    intro L' r r' hL hL' hr hr' h
    cases L' with
    | nil => exact absurd (hr' _ _ h.symm) (by decide)
    | cons y L' =>
      obtain ⟨o, a⟩ := x
      obtain ⟨o', a'⟩ := y
      obtain ⟨h1, h2⟩ := hL _ (List.mem_cons_self ..)
      obtain ⟨h3, h4⟩ := hL' _ (List.mem_cons_self ..)
      rw [List.flatMap_cons, List.flatMap_cons] at h
      change ([32] ++ opT o ++ [32] ++ atT a) ++ L.flatMap pcT ++ r = ([32] ++ opT o' ++ [32] ++ atT a') ++ L'.flatMap pcT ++ r' at h
      simp only [List.append_assoc, List.singleton_append, List.cons_append, List.nil_append] at h
      injection h with _ h
      obtain ⟨e1, e2⟩ := split_run (p := fun c => c != 32) (opT_no32 h1) (opT_no32 h3) (Hd.mk (by decide)) (Hd.mk (by decide)) h
      injection e2 with _ e2
      obtain ⟨e3, e4⟩ := atC hm hA hE h2 h4 (rest_hd hr) (rest_hd hr') e2
      obtain ⟨e5, e6⟩ := ih L' r r' (fun z hz => hL z (List.mem_cons_of_mem _ hz)) (fun z hz => hL' z (List.mem_cons_of_mem _ hz)) hr hr' e4
      have e7 : o = o' := opT_two_inj h1 h3 e1
      have e8 : a = a' := e3
      rw [e7, e8, e5]
      exact ⟨rfl, e6⟩
theorem ex_step {k : Nat} (hk : k ≤ 29) (hA : AtomC (k + 1)) (hE : ExC k) : ExC (k + 1) := by
  intro x y r r' bx bY hr hr' h
  rw [flat_text (k + 1) x bx (by omega), flat_text (k + 1) y bY (by omega)] at h
  obtain ⟨h1, h2⟩ := flat_ok k x bx
  obtain ⟨h3, h4⟩ := flat_ok k y bY
  have hi := flat_inj (k + 1) x y bx bY
  generalize flat (k + 1) x = f at h h1 h2 hi
  generalize flat (k + 1) y = g at h h3 h4 hi
  unfold ftT at h
  rw [List.append_assoc, List.append_assoc] at h
  obtain ⟨e1, e2⟩ := atC (by omega) hA hE h1 h3 (rest_hd hr) (rest_hd hr') h
  obtain ⟨e3, e4⟩ := rest_dec (by omega) hA hE f.2 g.2 r r' h2 h4 hr hr' e2
  exact ⟨hi (Prod.ext e1 e3), e4⟩
theorem both : ∀ (k : Nat), k ≤ 30 → AtomC k ∧ ExC k := by
  intro k
  induction k with
  | zero => exact fun _ => ⟨fun x y r r' _ _ h => (by cases h), fun x y r r' h => (by cases h)⟩
  | succ k ih =>
    intro hk
    obtain ⟨h1, h2⟩ := ih (by omega)
    have h3 := atom_step (by omega) h1 h2
    exact ⟨h3, ex_step (by omega) h3 h2⟩
/-- an expression's text tells it, and where it ends -/
theorem ex_dec : ExC 30 := (both 30 (Nat.le_refl _)).2
theorem ex_inj {x y : Ex} (hx : bodyE 30 x = true) (hy : bodyE 30 y = true) (h : exT 30 x = exT 30 y) : x = y := (ex_dec x y [] [] hx hy Hd.nil Hd.nil (by rw [List.append_nil, List.append_nil]; exact h)).1
end Sy
end
section
open Tk
namespace Sy
set_option linter.unusedVariables false
set_option linter.unusedSimpArgs false
/-- what right statements there are -/
inductive VS (d : Nat) : St → Prop
  | set (s : ByteArray) (a : Ex) (h : isName s.data.toList = true) (ha : bodyE 30 a = true) : VS d (.mk 1 s ⟨#[]⟩ 0 [a] [] [])
  | get (s u : ByteArray) (n : Int) (h : isName s.data.toList = true) (hu : isName u.data.toList = true) (hn : 0 ≤ n) : VS d (.mk 2 s u n [] [] [])
  | put (s : ByteArray) (n : Int) (a : Ex) (h : isName s.data.toList = true) (hn : 0 ≤ n) (ha : bodyE 30 a = true) : VS d (.mk 3 s ⟨#[]⟩ n [a] [] [])
  | store (s : ByteArray) (a b : Ex) (h : isName s.data.toList = true) (ha : bodyE 30 a = true) (hb : bodyE 30 b = true) : VS d (.mk 4 s ⟨#[]⟩ 0 [a, b] [] [])
  | lock (s : ByteArray) (t : List St) (h : isName s.data.toList = true) (ht : ∀ x ∈ t, bodyS d x = true) : VS d (.mk 5 s ⟨#[]⟩ 0 [] t [])
  | cond (a : Ex) (t e : List St) (ha : bodyE 30 a = true) (ht : ∀ x ∈ t, bodyS d x = true) (he : ∀ x ∈ e, bodyS d x = true) : VS d (.mk 6 ⟨#[]⟩ ⟨#[]⟩ 0 [a] t e)
  | rep (n : Int) (t : List St) (hn : 0 ≤ n) (ht : ∀ x ∈ t, bodyS d x = true) : VS d (.mk 7 ⟨#[]⟩ ⟨#[]⟩ n [] t [])
  | halt : VS d (.mk 8 ⟨#[]⟩ ⟨#[]⟩ 0 [] [] [])
theorem viewS {d : Nat} {s : St} (h : bodyS (d + 1) s = true) : VS d s := by
  have h' : (fitsS (sShp s.kind) s && (areE 30 s.args && (areS d s.thn && areS d s.els))) = true := h
  simp only [Bool.and_eq_true] at h'
  obtain ⟨h1, h2, h3, h4⟩ := h'
  rw [areS_all, List.all_eq_true] at h3 h4
  rw [areE_all, List.all_eq_true] at h2
  have hk := (fitS_parts h1).1
  obtain ⟨k, a, b, n, xs, t, e⟩ := s
  change fitsS (sShp k) (.mk k a b n xs t e) = true at h1
  change 1 ≤ k ∧ k ≤ 8 at hk
  change ∀ x ∈ t, bodyS d x = true at h3
  change ∀ x ∈ e, bodyS d x = true at h4
  change ∀ x ∈ xs, bodyE 30 x = true at h2
  unfold fitsS within at h1
  simp only [Bool.and_eq_true, Bool.or_eq_true, decide_eq_true_eq] at h1
  obtain ⟨_, q1, q2, ⟨q3, q4⟩, q5, q6, q7⟩ := h1
  change nameIf _ a = true at q1
  change nameIf _ b = true at q2
  change 0 ≤ n at q3
  change n ≤ _ at q4
  change (xs.length : Int) = _ at q5
  change _ ∨ t.length = 0 at q6
  change _ ∨ e.length = 0 at q7
  have none : ∀ {x : ByteArray}, nameIf false x = true → x = ⟨#[]⟩ := fun h => of_decide_eq_true h
  have nil : ∀ {α : Type} {l : List α}, (false = true ∨ l.length = 0) → l = [] := fun h => List.length_eq_zero_iff.1 (h.resolve_left (by decide))
  rcases (show k = 1 ∨ k = 2 ∨ k = 3 ∨ k = 4 ∨ k = 5 ∨ k = 6 ∨ k = 7 ∨ k = 8 by omega) with rfl | rfl | rfl | rfl | rfl | rfl | rfl | rfl
  · have e1 := none q2
    have e2 : n = 0 := by have : n ≤ 0 := q4; omega
    have e3 := nil q6
    have e4 := nil q7
    obtain ⟨x, e5⟩ := List.length_eq_one_iff.1 (by have : (xs.length : Int) = 1 := q5; omega : xs.length = 1)
    subst e1 e2 e3 e4 e5
    exact .set a x q1 (h2 x (List.mem_singleton_self x))
  · have e3 := nil q6
    have e4 := nil q7
    have e5 : xs = [] := List.length_eq_zero_iff.1 (by have : (xs.length : Int) = 0 := q5; omega)
    subst e3 e4 e5
    exact .get a b n q1 q2 q3
  · have e1 := none q2
    have e3 := nil q6
    have e4 := nil q7
    obtain ⟨x, e5⟩ := List.length_eq_one_iff.1 (by have : (xs.length : Int) = 1 := q5; omega : xs.length = 1)
    subst e1 e3 e4 e5
    exact .put a n x q1 q3 (h2 x (List.mem_singleton_self x))
  · have e1 := none q2
    have e2 : n = 0 := by have : n ≤ 0 := q4; omega
    have e3 := nil q6
    have e4 := nil q7
    have e5 : xs.length = 2 := by have : (xs.length : Int) = 2 := q5; omega
    subst e1 e2 e3 e4
    match xs, e5, h2 with
    | [x, y], _, h2 => exact .store a x y q1 (h2 x (by simp)) (h2 y (by simp))
  · have e1 := none q2
    have e2 : n = 0 := by have : n ≤ 0 := q4; omega
    have e4 := nil q7
    have e5 : xs = [] := List.length_eq_zero_iff.1 (by have : (xs.length : Int) = 0 := q5; omega)
    subst e1 e2 e4 e5
    exact .lock a t q1 h3
  · have e0 := none q1
    have e1 := none q2
    have e2 : n = 0 := by have : n ≤ 0 := q4; omega
    obtain ⟨x, e5⟩ := List.length_eq_one_iff.1 (by have : (xs.length : Int) = 1 := q5; omega : xs.length = 1)
    subst e0 e1 e2 e5
    exact .cond x t e (h2 x (List.mem_singleton_self x)) h3 h4
  · have e0 := none q1
    have e1 := none q2
    have e4 := nil q7
    have e5 : xs = [] := List.length_eq_zero_iff.1 (by have : (xs.length : Int) = 0 := q5; omega)
    subst e0 e1 e4 e5
    exact .rep n t q3 h3
  · have e0 := none q1
    have e1 := none q2
    have e2 : n = 0 := by have : n ≤ 0 := q4; omega
    have e3 := nil q6
    have e4 := nil q7
    have e5 : xs = [] := List.length_eq_zero_iff.1 (by have : (xs.length : Int) = 0 := q5; omega)
    subst e0 e1 e2 e3 e4 e5
    exact .halt
def tabs (k : Nat) : Bs := List.replicate k 9
theorem tx_def (x : Ex) : exT 30 x = tx x := rfl
theorem arg0 (x : Ex) (l : List Ex) : argAt (x :: l) 0 = x := rfl
theorem arg1 (x y : Ex) (l : List Ex) : argAt (x :: y :: l) 1 = y := rfl
theorem ln (k : Nat) (ps : List Bs) (r : Bs) : lineT k ps ++ r = tabs k ++ (ps.flatten ++ (10 :: r)) := by
  unfold lineT tabs
  simp [List.append_assoc]
theorem st1 (g k : Nat) (a b : ByteArray) (n : Int) (x : Ex) (t e : List St) (r : Bs) : stT (g + 1) k (.mk 1 a b n [x] t e) ++ r = tabs k ++ (nm a ++ (32 :: 61 :: 32 :: (tx x ++ (59 :: 10 :: r)))) := by
  show lineT k [nm a, [32, 61, 32], exT 30 (argAt [x] 0), [59]] ++ r = _
  rw [arg0, tx_def, ln]
  simp
theorem st2 (g k : Nat) (a b : ByteArray) (n : Int) (xs : List Ex) (t e : List St) (r : Bs) : stT (g + 1) k (.mk 2 a b n xs t e) ++ r = tabs k ++ (nm a ++ (32 :: 61 :: 32 :: (nm b ++ (46 :: (numT n ++ (59 :: 10 :: r)))))) := by
  show lineT k [nm a, [32, 61, 32], nm b, [46], numT n, [59]] ++ r = _
  rw [ln]
  simp
theorem st3 (g k : Nat) (a b : ByteArray) (n : Int) (x : Ex) (t e : List St) (r : Bs) : stT (g + 1) k (.mk 3 a b n [x] t e) ++ r = tabs k ++ (nm a ++ (46 :: (numT n ++ (32 :: 61 :: 32 :: (tx x ++ (59 :: 10 :: r)))))) := by
  show lineT k [nm a, [46], numT n, [32, 61, 32], exT 30 (argAt [x] 0), [59]] ++ r = _
  rw [arg0, tx_def, ln]
  simp
theorem st4 (g k : Nat) (a b : ByteArray) (n : Int) (x y : Ex) (t e : List St) (r : Bs) : stT (g + 1) k (.mk 4 a b n [x, y] t e) ++ r = tabs k ++ (nm a ++ (91 :: (tx x ++ (93 :: 32 :: 61 :: 32 :: (tx y ++ (59 :: 10 :: r)))))) := by
  show lineT k [nm a, [91], exT 30 (argAt [x, y] 0), [93, 32, 61, 32], exT 30 (argAt [x, y] 1), [59]] ++ r = _
  rw [arg0, arg1, tx_def, tx_def, ln]
  simp
theorem st5 (g k : Nat) (a b : ByteArray) (n : Int) (xs : List Ex) (t e : List St) (r : Bs) : stT (g + 1) k (.mk 5 a b n xs t e) ++ r = tabs k ++ ([108, 111, 99, 107] ++ (32 :: (nm a ++ (32 :: 123 :: 10 :: (t.flatMap (stT g (k + 1)) ++ (tabs k ++ (125 :: 10 :: r))))))) := by
  show (lineT k [[108, 111, 99, 107, 32], nm a, [32, 123]] ++ t.flatMap (stT g (k + 1)) ++ lineT k [[125]]) ++ r = _
  rw [List.append_assoc, List.append_assoc, ln, ln]
  simp
theorem st6 (g k : Nat) (a b : ByteArray) (n : Int) (x : Ex) (t e : List St) (r : Bs) : stT (g + 1) k (.mk 6 a b n [x] t e) ++ r = tabs k ++ ([105, 102] ++ (32 :: 40 :: (tx x ++ (41 :: 32 :: 123 :: 10 :: (t.flatMap (stT g (k + 1)) ++ (if 0 < e.length then tabs k ++ (125 :: 32 :: 101 :: 108 :: 115 :: 101 :: 32 :: 123 :: 10 :: (e.flatMap (stT g (k + 1)) ++ (tabs k ++ (125 :: 10 :: r)))) else tabs k ++ (125 :: 10 :: r))))))) := by
  show (lineT k [[105, 102, 32, 40], exT 30 (argAt [x] 0), [41, 32, 123]] ++ t.flatMap (stT g (k + 1)) ++ (if 0 < e.length then lineT k [[125, 32, 101, 108, 115, 101, 32, 123]] ++ e.flatMap (stT g (k + 1)) else []) ++ lineT k [[125]]) ++ r = _
  rw [arg0, tx_def]
  by_cases h : 0 < e.length
  · rw [if_pos h, if_pos h]
    simp only [List.append_assoc]
    rw [ln, ln, ln]
    simp
  · rw [if_neg h, if_neg h]
    simp only [List.append_assoc, List.nil_append]
    rw [ln, ln]
    simp
theorem st7 (g k : Nat) (a b : ByteArray) (n : Int) (xs : List Ex) (t e : List St) (r : Bs) : stT (g + 1) k (.mk 7 a b n xs t e) ++ r = tabs k ++ ([114, 101, 112, 101, 97, 116] ++ (32 :: (numT n ++ (32 :: 123 :: 10 :: (t.flatMap (stT g (k + 1)) ++ (tabs k ++ (125 :: 10 :: r))))))) := by
  show (lineT k [[114, 101, 112, 101, 97, 116, 32], numT n, [32, 123]] ++ t.flatMap (stT g (k + 1)) ++ lineT k [[125]]) ++ r = _
  rw [List.append_assoc, List.append_assoc, ln, ln]
  simp
theorem st8 (g k : Nat) (a b : ByteArray) (n : Int) (xs : List Ex) (t e : List St) (r : Bs) : stT (g + 1) k (.mk 8 a b n xs t e) ++ r = tabs k ++ ([104, 97, 108, 116] ++ (59 :: 10 :: r)) := by
  show lineT k [[104, 97, 108, 116, 59]] ++ r = _
  rw [ln]
  simp
/-! what is one thing, and no other -/
theorem key_run {w s : Bs} (hw : isWord w = true) (h1 : ∀ c ∈ w, isRun c = true) (hs : isName s = true) {r r' : Bs} (hr : Hd isRun r) (hr' : Hd isRun r') (h : w ++ r = s ++ r') : False := by
  obtain ⟨e, _⟩ := split_run (p := isRun) h1 (name_run hs).1 hr hr' h
  rw [e, (name_run hs).2.2.2] at hw
  cases hw
theorem key_ne {w v : Bs} (hne : w ≠ v) (h1 : ∀ c ∈ w, isRun c = true) (h2 : ∀ c ∈ v, isRun c = true) {r r' : Bs} (hr : Hd isRun r) (hr' : Hd isRun r') (h : w ++ r = v ++ r') : False := hne (split_run (p := isRun) h1 h2 hr hr' h).1
/-- an expression does not begin with a name and a dot -/
theorem ex_dot {a : Ex} (ha : bodyE 30 a = true) {s : ByteArray} (hs : isName s.data.toList = true) {c : UInt8} {r t : Bs} (hc : pE c = false) (hc2 : c ≠ 46) (h : tx a ++ (c :: r) = nm s ++ (46 :: t)) : False := by
  obtain ⟨h1, h2⟩ := flat_ok 29 a ha
  rw [flat_text 30 a ha (Nat.le_refl _)] at h
  change ftT (flat (29 + 1) a) ++ _ = _ at h
  generalize flat (29 + 1) a = f at h h1 h2
  unfold ftT at h
  rw [List.append_assoc, ← tx_var s] at h
  have hv : AtOk 29 30 (false, .mk 2 0 0 s []) := .inr ⟨rfl, kne (by decide), body_up (d := 1) (by decide) (by
    show (fitsE (eShp 2) _ && areE 0 []) = true
    rw [fits_var hs]
    rfl)⟩
  have hh : Hd pA (f.2.flatMap pcT ++ (c :: r)) := rest_hd (Hd.mk hc)
  have hz : Hd pA (46 :: t) := Hd.mk (by decide)
  have he : atT (false, .mk 2 0 0 s []) = tx (.mk 2 0 0 s []) := by rw [atT_mk, par_false]
  rw [← he] at h
  obtain ⟨_, e⟩ := atC (Nat.le_refl 30) (both 30 (Nat.le_refl _)).1 (both 29 (by decide)).2 h1 hv hh hz h
  cases hf : f.2 with
  | nil =>
    rw [hf] at e
    injection e with e _
    exact hc2 e
  | cons x l =>
    rw [hf] at e
    have : (32 : UInt8) = 46 := by injection e
    exact absurd this (by decide)
/-- as many tabulators, and no more -/
def Short (k : Nat) (c : Bs) : Prop := ∃ t, c = tabs k ++ t ∧ Hd (· == 9) t
theorem Short.mk {k : Nat} {x : UInt8} {t : Bs} (h : (x == 9) = false) : Short k (tabs k ++ (x :: t)) := ⟨_, rfl, Hd.mk h⟩
theorem tabs_succ (k : Nat) : tabs (k + 1) = tabs k ++ [9] := List.replicate_succ'
theorem st_tabs {d f k : Nat} {s : St} (h : bodyS d s = true) (hf : d ≤ f) (r : Bs) : ∃ t, stT f k s ++ r = tabs k ++ t := by
  cases d with
  | zero => cases h
  | succ d =>
    obtain ⟨g, rfl⟩ : ∃ g, f = g + 1 := ⟨f - 1, by omega⟩
    cases viewS h with
    | set => exact ⟨_, st1 ..⟩
    | get => exact ⟨_, st2 ..⟩
    | put => exact ⟨_, st3 ..⟩
    | store => exact ⟨_, st4 ..⟩
    | lock => exact ⟨_, st5 ..⟩
    | cond => exact ⟨_, st6 ..⟩
    | rep => exact ⟨_, st7 ..⟩
    | halt => exact ⟨_, st8 ..⟩
def StC (d : Nat) : Prop := ∀ (s s' : St) (f k : Nat) (r r' : Bs), d ≤ f → bodyS d s = true → bodyS d s' = true → stT f k s ++ r = stT f k s' ++ r' → s = s' ∧ r = r'
theorem sts_dec {d : Nat} (hS : StC d) {f k : Nat} (hf : d ≤ f) : ∀ (l l' : List St) (c c' : Bs), (∀ x ∈ l, bodyS d x = true) → (∀ x ∈ l', bodyS d x = true) → Short k c → Short k c' → l.flatMap (stT f (k + 1)) ++ c = l'.flatMap (stT f (k + 1)) ++ c' → l = l' ∧ c = c' := by
  have bad : ∀ (c : Bs) (x : St) (l : List St) (c' : Bs), Short k c → bodyS d x = true → c = (x :: l).flatMap (stT f (k + 1)) ++ c' → False := by
    intro c x l c' hc hx h
    obtain ⟨t, h1, h2⟩ := hc
    rw [List.flatMap_cons, List.append_assoc] at h
    obtain ⟨u, hu⟩ := st_tabs hx hf (k := k + 1) (l.flatMap (stT f (k + 1)) ++ c')
    rw [hu, h1, tabs_succ, List.append_assoc] at h
    have h3 := List.append_cancel_left h
    exact absurd (h2 9 u h3) (by decide)
  intro l
  induction l with
  | nil =>
    intro l' c c' _ hl' hc hc' h
    cases l' with
    | nil => exact ⟨rfl, h⟩
    | cons x l' => exact (bad c x l' c' hc (hl' x (List.mem_cons_self ..)) h).elim
  | cons x l ih =>
    intro l' c c' hl hl' hc hc' h
    cases l' with
    | nil => exact (bad c' x l c hc' (hl x (List.mem_cons_self ..)) h.symm).elim
    | cons y l' =>
      rw [List.flatMap_cons, List.flatMap_cons, List.append_assoc, List.append_assoc] at h
      obtain ⟨e1, e2⟩ := hS x y f (k + 1) _ _ hf (hl x (List.mem_cons_self ..)) (hl' y (List.mem_cons_self ..)) h
      obtain ⟨e3, e4⟩ := ih l' c c' (fun z hz => hl z (List.mem_cons_of_mem _ hz)) (fun z hz => hl' z (List.mem_cons_of_mem _ hz)) hc hc' e2
      rw [e1, e3]
      exact ⟨rfl, e4⟩
end Sy
end
section
open Tk
namespace Sy
set_option linter.unusedVariables false
set_option linter.unusedSimpArgs false
theorem cancel_tabs {k : Nat} {a b : Bs} (h : tabs k ++ a = tabs k ++ b) : a = b := List.append_cancel_left h
theorem kindT_cases {k : Int} (h : (kindT k).isEmpty = false) : k = 1 ∨ k = 2 ∨ k = 3 := by
  unfold kindT at h
  split at h
  · omega
  · split at h
    · omega
    · split at h
      · omega
      · cases h
theorem kindT_run {k : Int} (h : k = 1 ∨ k = 2 ∨ k = 3) : ∀ c ∈ kindT k, isRun c = true := by
  rcases h with rfl | rfl | rfl <;> decide
theorem devT_eq (x : Dev) (r : Bs) : devT x ++ r = [100, 101, 118, 105, 99, 101, 32] ++ (nm x.name ++ (32 :: (kindT x.kind ++ (10 :: r)))) := by
  unfold devT
  rw [ln]
  simp [tabs]
theorem rscT_eq (x : Rsc) (r : Bs) : rscT x ++ r = [114, 101, 115, 111, 117, 114, 99, 101, 32] ++ (nm x.name ++ (32 :: (numT x.words ++ (10 :: r)))) := by
  unfold rscT
  rw [ln]
  simp [tabs]
theorem tskT_no (x : Tsk) (h : x.handler = false) (r : Bs) : tskT x ++ r = 116 :: 97 :: 115 :: 107 :: 32 :: (nm x.name ++ (32 :: (numT x.hart ++ (32 :: (numT x.prio ++ (32 :: 123 :: 10 :: (x.body.flatMap (stT 30 1) ++ (tabs 0 ++ (125 :: 10 :: r))))))))) := by
  unfold tskT
  rw [h, if_neg (by decide), List.append_assoc, List.append_assoc, ln, ln]
  simp [tabs]
theorem tskT_yes (x : Tsk) (h : x.handler = true) (r : Bs) : tskT x ++ r = 104 :: 97 :: 110 :: 100 :: 108 :: 101 :: 114 :: 32 :: (nm x.name ++ (32 :: (numT x.hart ++ (32 :: (numT x.prio ++ (32 :: (numT x.line ++ (32 :: 123 :: 10 :: (x.body.flatMap (stT 30 1) ++ (tabs 0 ++ (125 :: 10 :: r))))))))))) := by
  unfold tskT
  rw [if_pos h, List.append_assoc, List.append_assoc, ln, ln]
  simp [tabs]
end Sy
end
end Go.Proofs.YthlnjnmomnpnpaaGreatDoor
