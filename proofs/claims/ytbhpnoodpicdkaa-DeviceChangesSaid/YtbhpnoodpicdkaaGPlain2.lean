/- Devices of the laws' own, in plain words: a uart that was fed, a timer that counts, a gpio that changes; how often a uart was sent to. -/
import Derived.Test.YtbhpnoodpicdkaaGPlain
namespace Go.Proofs.Ytbhpnoodpicdkaa.Dv
open Go.RowKit Plain
set_option linter.unusedVariables false
/-! a uart -/
def uq (c : Int) (r : List Int) : Dev := upd { newD 1 with r2 := c, q := r }
theorem byte (n : Int) : wrap32 n % 256 = n % 256 := by unfold wrap32; omega
theorem odd_wrap (n : Int) : wrap32 n % 2 = n % 2 := by unfold wrap32; omega
theorem uq_new (x : Int) : wrV (newD 1) 2 x = uq (wrap32 x) [] := rfl
theorem uq_in (c : Int) (r : List Int) (n : Int) : inV (uq c r) n = if r.length < 16 then uq c (r ++ [n % 256]) else uq c r := by
  show (if r.length < 16 then upd { uq c r with q := r ++ [wrap32 n % 256] } else uq c r) = _
  rw [byte]
  rfl
theorem uq_rd (c x : Int) (t : List Int) : rdV (uq c (x :: t)) 0 = (x, uq c t) := rfl
theorem uq_nil0 (c : Int) : rdV (uq c []) 0 = (-1, uq c []) := rfl
theorem uq_nil1 (c : Int) : rdV (uq c []) 1 = (2, uq c []) := rfl
theorem uq_up (c : Int) (r : List Int) : (uq c r).up = (decide (c % 2 = 1) && !r.isEmpty) := rfl
def fq (l : List Int) : List Int := (l.take 16).map (fun n => n % 256)
theorem fq_in {l : List Int} {k : Nat} {x : Int} (c : Int) (h : l[k]? = some x) : inV (uq c (fq (l.take k))) x = uq c (fq (l.take (k + 1))) := by
  have hk := (List.getElem?_eq_some_iff.1 h).1
  rw [uq_in]
  unfold fq
  rw [List.take_take, List.take_take, List.length_map, List.length_take]
  split
  · rename_i hl
    rw [show min 16 k = k by omega, show min 16 (k + 1) = k + 1 by omega, List.take_add_one, h, List.map_append]
    rfl
  · rename_i hl
    rw [show min 16 k = 16 by omega, show min 16 (k + 1) = 16 by omega]
theorem fq_pos {l : List Int} {k : Nat} (hk : k < l.length) : (fq (l.take (k + 1))).isEmpty = false := by
  unfold fq
  rw [List.take_take]
  cases l with
  | nil => simp at hk
  | cons a t =>
    rw [show min 16 (k + 1) = min 15 k + 1 by omega]
    rfl
theorem fq_drop {l : List Int} {k : Nat} {x : Int} (h : l[k]? = some x) (hk : k < 16) : (fq l).drop k = (x % 256) :: (fq l).drop (k + 1) := by
  have hk2 := (List.getElem?_eq_some_iff.1 h).1
  have hl : k < (fq l).length := by unfold fq; rw [List.length_map, List.length_take]; omega
  have e : (fq l)[k]? = some (x % 256) := by
    unfold fq
    rw [List.getElem?_map, List.getElem?_take_of_lt hk, h]
    rfl
  rw [List.drop_eq_getElem_cons hl, (List.getElem?_eq_some_iff.1 e).2]
theorem fq_end {l : List Int} {k : Nat} (h : l.length ≤ k ∨ 16 ≤ k) : (fq l).drop k = [] := by
  rw [List.drop_eq_nil_of_le]
  unfold fq
  rw [List.length_map, List.length_take]
  omega
/-! a timer -/
def tq (k j : Int) (u : Bool) : Dev := { newD 2 with r0 := j, r1 := k, r2 := 1, up := u }
theorem tq_1 {k : Int} (h : in32 k) : wrV (newD 2) 1 k = { newD 2 with r1 := k } := by
  show ({ newD 2 with r1 := wrap32 k } : Dev) = _
  rw [wrap_in h]
theorem tq_2 (k : Int) : wrV { newD 2 with r1 := k } 2 1 = tq k 0 false := by
  show ({ newD 2 with r1 := k, r2 := wrap32 1 } : Dev) = _
  rw [wrap_in (by unfold in32; omega)]
  rfl
theorem tq_in (k j : Int) (u : Bool) (x : Int) (h : 0 ≤ j ∧ j ≤ 1000) : inV (tq k j u) x = tq k (j + 1) (u || j + 1 == k) := by
  show ({ tq k j u with r0 := wrap32 (j + 1), up := u || (wrap32 (j + 1) == k && decide ((1 : Int) % 2 = 1)) } : Dev) = _
  rw [wrap_in (by unfold in32; omega)]
  simp [tq]
theorem tq_rd3 (k j : Int) (u : Bool) : rdV (tq k j u) 3 = (if u then 1 else 0, tq k j u) := rfl
theorem tq_rd0 (k j : Int) (u : Bool) : rdV (tq k j u) 0 = (j, tq k j u) := rfl
theorem tq_wr3 (k j : Int) (u : Bool) : wrV (tq k j u) 3 0 = tq k j false := rfl
/-! a gpio -/
def gq (m a c : Int) : Dev := { newD 3 with r1 := a, r2 := m, r3 := c, up := c != 0 }
theorem gq_new (x : Int) : wrV (newD 3) 2 x = gq (wrap32 x) 0 0 := rfl
theorem gq_in (m a c x : Int) : inV (gq m a c) x = gq m (wrap32 x) (bits .or .i64 c (bits .and .i64 (bits .xor .i64 a (wrap32 x)) m)) := rfl
theorem gq_rd3 (m a c : Int) : rdV (gq m a c) 3 = (c, gq m a c) := rfl
theorem gq_rd1 (m a c : Int) : rdV (gq m a c) 1 = (a, gq m a c) := rfl
theorem gq_wr3 {m a c : Int} (h : in32 c) : wrV (gq m a c) 3 c = gq m a 0 := by
  show change (gq m a c) (bits .andNot .i64 c (wrap32 c)) = _
  rw [wrap_in h, andNot_self]
  rfl
/-! how often a uart was sent to -/
def sends (x : Int × Int × Int) : Bool := decide (pick x.1 3 = 1) && decide (pick x.2.1 4 = 0)
def cnt (raw : List (Int × Int × Int)) (k : Nat) : Nat := (raw.take k).countP sends
theorem cnt_succ {raw : List (Int × Int × Int)} {k : Nat} {x : Int × Int × Int} (h : raw[k]? = some x) : cnt raw (k + 1) = cnt raw k + if sends x then 1 else 0 := by
  unfold cnt
  rw [List.take_add_one, h, List.countP_append]
  simp [List.countP_cons]
theorem cnt_le (raw : List (Int × Int × Int)) (k : Nat) : cnt raw k ≤ k := by
  unfold cnt
  exact Nat.le_trans List.countP_le_length (by rw [List.length_take]; omega)
theorem sent_upd (d : Dev) : (upd d).sent = d.sent := rfl
theorem sent_step {d : Dev} (hk : d.kind = 1) (x : Int × Int × Int) : (stepV d x).2.sent = if sends x then (d.sent + 1) % 2147483648 else d.sent := by
  have hb := pick_bd x.2.1 (n := 4) (by omega)
  unfold stepV sends
  by_cases h0 : pick x.1 3 = 0
  · rw [if_pos h0, if_neg (by simp; omega)]
    unfold rdV rdU
    rw [if_pos hk]
    split
    · split <;> rfl
    · split
      · rfl
      · split <;> rfl
  · rw [if_neg h0]
    by_cases h1 : pick x.1 3 = 1
    · rw [if_pos h1]
      show (wrV d _ _).sent = _
      unfold wrV wrU
      rw [if_pos hk]
      by_cases h2 : pick x.2.1 4 = 0
      · rw [if_pos (by rw [h2]; rfl), if_pos (by simp [h1, h2])]
      · have e : (decide (pick x.1 3 = 1) && decide (pick x.2.1 4 = 0)) = false := by simp [h2]
        rw [e, if_neg (by omega)]
        split <;> rfl
    · rw [if_neg h1, if_neg (by simp [h1])]
      show (inV d _).sent = _
      unfold inV inU
      rw [if_pos hk]
      split <;> rfl
theorem sent_fold {raw : List (Int × Int × Int)} {s : Dev} (hk : s.kind = 1) (h0 : s.sent = 0) (k : Nat) (hle : k ≤ 50) : ((raw.take k).foldl (fun d x => (stepV d x).2) s).sent = (cnt raw k : Int) ∧ ((raw.take k).foldl (fun d x => (stepV d x).2) s).kind = 1 := by
  induction k with
  | zero => exact ⟨by rw [List.take_zero]; exact h0, by rw [List.take_zero]; exact hk⟩
  | succ k ih =>
    obtain ⟨ih1, ih2⟩ := ih (by omega)
    cases h : raw[k]? with
    | none =>
      have hl : raw.length ≤ k := by simpa using h
      have e : raw.take (k + 1) = raw.take k := by rw [List.take_of_length_le (by omega), List.take_of_length_le hl]
      unfold cnt
      rw [e]
      exact ⟨ih1, ih2⟩
    | some x =>
      have hc := cnt_succ h
      have hb := cnt_le raw k
      rw [List.take_add_one, h]
      show ((raw.take k ++ [x]).foldl (fun d x => (stepV d x).2) s).sent = _ ∧ ((raw.take k ++ [x]).foldl (fun d x => (stepV d x).2) s).kind = 1
      rw [List.foldl_append]
      show (stepV ((raw.take k).foldl (fun d x => (stepV d x).2) s) x).2.sent = _ ∧ (stepV ((raw.take k).foldl (fun d x => (stepV d x).2) s) x).2.kind = 1
      rw [sent_step ih2, kind_step, ih1, hc]
      refine ⟨?_, ih2⟩
      split
      · omega
      · omega
theorem rd3_uart {d : Dev} (hk : d.kind = 1) : rdV d 3 = (d.sent, d) := by
  unfold rdV rdU
  rw [if_pos hk]
  rfl
end Go.Proofs.Ytbhpnoodpicdkaa.Dv
