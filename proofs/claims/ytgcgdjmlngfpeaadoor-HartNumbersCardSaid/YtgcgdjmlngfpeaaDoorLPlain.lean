/- Code with labels, as plain functions: which items may be, what brings a number, sizes, places, what reaches, and the least set of long branches. No Go program in sight. -/
import Derived.Test.YtgcgdjmlngfpeaaDoorCWord
namespace Go.Proofs.YtgcgdjmlngfpeaaDoor.Lb
open Rv
structure Itm where
  kind : Int
  i : Ins
  name : ByteArray
  n : Int
def isLab (s : ByteArray) : Bool := decide (1 ≤ s.size ∧ s.size ≤ 40) && s.data.toList.all fun c => decide (33 ≤ c.toNat ∧ c.toNat ≤ 126)
def opp (op : Int) : Int := if op = 5 then 6 else if op = 6 then 5 else if op = 7 then 8 else if op = 8 then 7 else if op = 9 then 10 else if op = 10 then 9 else 0
def isB (op : Int) : Bool := decide (5 ≤ op ∧ op ≤ 10)
def leads (i : Ins) : Bool := (decide (i.op = 3) || isB i.op) && decide (i.n = 0) && right i
def mayLoad (d n : Int) : Bool := decide (1 ≤ d ∧ d < 32 ∧ -2147483648 ≤ n ∧ n ≤ 2147483647)
def low12 (n : Int) : Int := (n + 2048) % 4096 - 2048
def high20 (n : Int) : Int := (n - low12 n) / 4096 % 1048576
def number (d n : Int) : List Ins := if mayLoad d n then (if n = low12 n then [⟨13, d, 0, 0, n⟩] else [⟨1, d, 0, 0, high20 n⟩, ⟨13, d, d, 0, low12 n⟩]) else []
def onlyD (i : Ins) (d : Int) : Bool := decide (i.op = 0 ∧ i.d = d ∧ i.a = 0 ∧ i.b = 0 ∧ i.n = 0)
def rightX (x : Itm) : Bool :=
  if x.kind = 1 then decide (x.name.size = 0 ∧ x.n = 0) && right x.i else
  if x.kind = 2 then onlyD x.i 0 && decide (x.n = 0) && isLab x.name else
  if x.kind = 3 then decide (x.n = 0) && leads x.i && isLab x.name else
  if x.kind = 4 then onlyD x.i x.i.d && decide (x.name.size = 0) && mayLoad x.i.d x.n else
  if x.kind = 5 then onlyD x.i 0 && decide (x.name.size = 0) && decide (0 ≤ x.n ∧ x.n ≤ 4096) else false
def size1 (x : Itm) : Nat := if x.kind = 2 then 0 else if x.kind = 4 then (number x.i.d x.n).length else if x.kind = 5 then x.n.toNat else 1
def isBr (x : Itm) : Bool := decide (x.kind = 3) && isB x.i.op
def brAt (l : List Itm) (k : Nat) : Bool := match l[k]? with | none => false | some x => isBr x
def sz (l : List Itm) (g : Nat → Bool) (k : Nat) : Nat := match l[k]? with | none => 0 | some x => if isBr x && g k then 2 else size1 x
def place (l : List Itm) (g : Nat → Bool) : Nat → Nat
  | 0 => 0
  | k + 1 => place l g k + sz l g k
def isNamed (s : ByteArray) (x : Itm) : Bool := decide (x.kind = 2) && decide (x.name = s)
def named (l : List Itm) (s : ByteArray) : Option Nat := l.findIdx? (isNamed s)
def to (l : List Itm) (k : Nat) : Nat := match l[k]? with | none => 0 | some x => if x.kind = 3 then (named l x.name).getD 0 else 0
def namedTo (l : List Itm) (k : Nat) (s : ByteArray) : Option Nat := (l.take k).findIdx? (isNamed s)
def dupAt (l : List Itm) (k : Nat) : Bool := match l[k]? with | none => false | some x => decide (x.kind = 2) && (namedTo l k x.name).isSome
def lostAt (l : List Itm) (k : Nat) : Bool := match l[k]? with | none => false | some x => decide (x.kind = 3) && (named l x.name).isNone
def okT (l : List Itm) : Bool := (List.range l.length).all fun k => !dupAt l k && !lostAt l k
theorem namedTo_succ {l : List Itm} {k : Nat} {x : Itm} (h : l[k]? = some x) (s : ByteArray) : namedTo l (k + 1) s = (namedTo l k s).or (if isNamed s x then some k else none) := by
  obtain ⟨hk, e⟩ := List.getElem?_eq_some_iff.1 h
  unfold namedTo
  rw [List.take_succ_eq_append_getElem hk, List.findIdx?_append, e]
  have hl : (l.take k).length = k := by simp; omega
  cases hn : isNamed s x <;> simp [List.findIdx?_cons, hn, hl]
def reach (l : List Itm) (g : Nat → Bool) (k : Nat) : Prop := -4096 ≤ 4 * (place l g (to l k) : Int) - 4 * (place l g k : Int) ∧ 4 * (place l g (to l k) : Int) - 4 * (place l g k : Int) ≤ 4094
def closed (l : List Itm) (g : Nat → Bool) : Prop := ∀ k, brAt l k = true → g k = false → reach l g k
open Classical in
/-- the least closed set of branches -/
noncomputable def fin (l : List Itm) (k : Nat) : Bool := brAt l k && decide (∀ t, closed l t → t k = true)
def le (g h : Nat → Bool) : Prop := ∀ k, g k = true → h k = true
theorem size1_br {x : Itm} (h : isBr x = true) : size1 x = 1 := by
  simp only [isBr, Bool.and_eq_true, decide_eq_true_eq] at h
  unfold size1
  rw [if_neg (by omega), if_neg (by omega), if_neg (by omega)]
theorem sz_le {l : List Itm} {g h : Nat → Bool} (hgh : le g h) (k : Nat) : sz l g k ≤ sz l h k := by
  unfold sz
  cases l[k]? with
  | none => exact Nat.le_refl _
  | some x =>
    simp only
    cases hb : isBr x with
    | false => simp
    | true =>
      have e := size1_br hb
      cases hg : g k with
      | false =>
        cases hh : h k <;> simp [e]
      | true => simp [hgh k hg]
theorem place_le {l : List Itm} {g h : Nat → Bool} (hgh : le g h) {i j : Nat} (hij : i ≤ j) : place l g j - place l g i ≤ place l h j - place l h i := by
  induction j with
  | zero =>
    obtain rfl : i = 0 := by omega
    simp
  | succ j ih =>
    by_cases e : i = j + 1
    · subst e; simp
    · have h1 := ih (by omega)
      have h2 := sz_le (l := l) hgh j
      have m1 : ∀ (q : Nat → Bool) (a b : Nat), a ≤ b → place l q a ≤ place l q b := by
        intro q a b hab
        induction b with
        | zero => obtain rfl : a = 0 := by omega
                  exact Nat.le_refl _
        | succ b ihb =>
          by_cases e : a = b + 1
          · subst e; exact Nat.le_refl _
          · have := ihb (by omega)
            show place l q a ≤ place l q b + sz l q b
            omega
      have := m1 g i j (by omega)
      have := m1 h i j (by omega)
      show place l g j + sz l g j - place l g i ≤ place l h j + sz l h j - place l h i
      omega
theorem place_mono (l : List Itm) (q : Nat → Bool) {a b : Nat} (hab : a ≤ b) : place l q a ≤ place l q b := by
  induction b with
  | zero => obtain rfl : a = 0 := by omega
            exact Nat.le_refl _
  | succ b ihb =>
    by_cases e : a = b + 1
    · subst e; exact Nat.le_refl _
    · have := ihb (by omega)
      show place l q a ≤ place l q b + sz l q b
      omega
theorem reach_le {l : List Itm} {g h : Nat → Bool} (hgh : le g h) {k : Nat} (hr : reach l h k) : reach l g k := by
  unfold reach at *
  rcases Nat.le_total k (to l k) with hk | hk
  · have := place_le (l := l) hgh hk
    have := place_mono l g hk
    have := place_mono l h hk
    omega
  · have := place_le (l := l) hgh hk
    have := place_mono l g hk
    have := place_mono l h hk
    omega
theorem fin_br {l : List Itm} {k : Nat} (h : fin l k = true) : brAt l k = true := by
  unfold fin at h
  rw [Bool.and_eq_true] at h
  exact h.1
open Classical in
theorem fin_le {l : List Itm} {t : Nat → Bool} (h : closed l t) : le (fin l) t := by
  intro k hk
  unfold fin at hk
  rw [Bool.and_eq_true, decide_eq_true_eq] at hk
  exact hk.2 t h
open Classical in
theorem fin_closed (l : List Itm) : closed l (fin l) := by
  intro k hb hk
  unfold fin at hk
  rw [hb, Bool.true_and] at hk
  have ⟨t, ht⟩ := Classical.not_forall.1 (@of_decide_eq_false _ _ hk)
  have ⟨hc, hn⟩ := Classical.not_imp.1 ht
  have hf : t k = false := by
    cases e : t k with
    | false => rfl
    | true => exact absurd e hn
  exact reach_le (fin_le hc) (hc k hb hf)
/-- what is closed, of branches alone, and in the least one, is the least one -/
theorem fin_unique {l : List Itm} {g : Nat → Bool} (hc : closed l g) (hg : le g (fin l)) : g = fin l := by
  funext k
  cases e : g k with
  | true => rw [hg k e]
  | false =>
    cases f : fin l k with
    | false => rfl
    | true => rw [fin_le hc k f] at e; cases e
/-- with one branch more -/
def with1 (g : Nat → Bool) (j : Nat) : Nat → Bool := fun k => g k || decide (k = j)
theorem le_with1 (g : Nat → Bool) (j : Nat) : le g (with1 g j) := fun k h => by simp [with1, h]
theorem sz_with1 {l : List Itm} {g : Nat → Bool} {j : Nat} (hb : brAt l j = true) (hg : g j = false) (k : Nat) : sz l (with1 g j) k = sz l g k + if k = j then 1 else 0 := by
  unfold sz with1
  by_cases e : k = j
  · subst e
    unfold brAt at hb
    cases hl : l[k]? with
    | none => rw [hl] at hb; cases hb
    | some x =>
      rw [hl] at hb
      simp only at hb
      simp [hb, hg, size1_br hb]
  · simp [e]
theorem place_with1 {l : List Itm} {g : Nat → Bool} {j : Nat} (hb : brAt l j = true) (hg : g j = false) (m : Nat) : place l (with1 g j) m = place l g m + if j < m then 1 else 0 := by
  induction m with
  | zero => simp [place]
  | succ m ih =>
    show place l (with1 g j) m + sz l (with1 g j) m = place l g m + sz l g m + _
    rw [ih, sz_with1 hb hg]
    by_cases e : m = j
    · subst e; simp; omega
    · by_cases f : j < m
      · rw [if_pos f, if_neg e, if_pos (by omega)]; omega
      · rw [if_neg f, if_neg e, if_neg (by omega)]; omega
/-- how many words may still come between -/
def room (l : List Itm) (g : Nat → Bool) (k : Nat) : Int := if k < to l k then 1023 - ((place l g (to l k) : Int) - place l g k) else 1024 + ((place l g (to l k) : Int) - place l g k)
theorem room_reach {l : List Itm} {g : Nat → Bool} {k : Nat} : reach l g k ↔ 0 ≤ room l g k := by
  unfold reach room
  split
  · rename_i h
    have := place_mono l g (Nat.le_of_lt h)
    constructor <;> intro _ <;> omega
  · rename_i h
    have := place_mono l g (Nat.le_of_not_lt h)
    constructor <;> intro _ <;> omega
def spans (l : List Itm) (k j : Nat) : Bool := decide (k < j ∧ j < to l k) || decide (to l k < j ∧ j < k)
theorem room_with1 {l : List Itm} {g : Nat → Bool} {j k : Nat} (hb : brAt l j = true) (hg : g j = false) (hk : k ≠ j) (ht : to l k ≠ j) : room l (with1 g j) k = room l g k - if spans l k j then 1 else 0 := by
  unfold room spans
  rw [place_with1 hb hg, place_with1 hb hg]
  by_cases h : k < to l k
  · rw [if_pos h, if_pos h]
    by_cases c : k < j ∧ j < to l k
    · rw [if_pos (show j < to l k by omega), if_neg (show ¬ j < k by omega), if_pos (by simp [c])]; push_cast; omega
    · have c2 : ¬ (to l k < j ∧ j < k) := by omega
      rw [if_neg (c := (decide (k < j ∧ j < to l k) || decide (to l k < j ∧ j < k)) = true) (by simp [c, c2])]
      by_cases d : j < k
      · rw [if_pos (show j < to l k by omega), if_pos d]; push_cast; omega
      · rw [if_neg (show ¬ j < to l k by omega), if_neg d]; push_cast; omega
  · rw [if_neg h, if_neg h]
    by_cases c : to l k < j ∧ j < k
    · rw [if_neg (show ¬ j < to l k by omega), if_pos (show j < k by omega), if_pos (by simp [c])]; push_cast; omega
    · have c2 : ¬ (k < j ∧ j < to l k) := by omega
      rw [if_neg (c := (decide (k < j ∧ j < to l k) || decide (to l k < j ∧ j < k)) = true) (by simp [c, c2])]
      by_cases d : j < k
      · rw [if_pos (show j < to l k by omega), if_pos d]; push_cast; omega
      · rw [if_neg (show ¬ j < to l k by omega), if_neg d]; push_cast; omega
end Go.Proofs.YtgcgdjmlngfpeaaDoor.Lb
