/- What raw steps make of a memory, in plain words. -/
import Derived.Test.YtobpoghophhphaaMPlain
namespace Go.Proofs.Ytobpoghophhphaa.Mm
open Go.RowKit (wrap32)
open Plain (two isTwo)
set_option linter.unusedVariables false
/-- what was told, if that was no error -/
def sel (m : Mem) (p : Mem × Int) : Mem := if p.2 = 0 then p.1 else m
def hp (m : Mem) (x : Int × Int × Int × Int) : Int := pick x.2.1 m.pend.length
def ap (m : Mem) (x : Int × Int × Int × Int) : Int := pick x.2.2.1 m.words.length
def stepM (m : Mem) (x : Int × Int × Int × Int) : Mem :=
  if pick x.1 8 = 0 then m
  else if pick x.1 8 = 1 ∨ pick x.1 8 = 2 then sel m (storeV m (hp m x) (ap m x) x.2.2.2)
  else if pick x.1 8 = 3 ∨ pick x.1 8 = 4 then sel m (drainV m (hp m x) (pick x.2.2.1 8))
  else if pick x.1 8 = 5 then sel m (reserveV m (hp m x) (ap m x)).2
  else if pick x.1 8 = 6 then sel m (condV m (hp m x) (ap m x) x.2.2.2).2
  else sel m (changeV m (hp m x) (ap m x) (pick x.2.2.1 3) x.2.2.2).2
/-- of so many harts and words -/
structure Big (m : Mem) (h n : Nat) : Prop where
  ok : Ok m
  p : m.pend.length = h
  w : m.words.length = n
theorem big_arr {m : Mem} {H N : Nat} (b : Big m H N) (h a n : Int) : Big (arr m h a n) H N := ⟨ok_arr b.ok _ _ _, b.p, by show (m.words.set _ _).length = _; rw [List.length_set]; exact b.w⟩
theorem big_setP {m : Mem} {H N : Nat} (b : Big m H N) {h : Int} {l : List (Int × Int)} (o : Ok (setP m h l)) : Big (setP m h l) H N := ⟨o, by show (m.pend.set _ _).length = _; rw [List.length_set]; exact b.p, b.w⟩
theorem big_setR {m : Mem} {H N : Nat} (b : Big m H N) (h x : Int) : Big (setR m h x) H N := ⟨ok_setR b.ok _ _, b.p, b.w⟩
theorem big_store {m : Mem} {H N : Nat} (b : Big m H N) (h a n : Int) : Big (sel m (storeV m h a n)) H N := by
  have o := ok_store b.ok h a n
  unfold sel
  split
  · rename_i hc
    unfold storeV at hc o ⊢
    split at hc
    · split at hc
      · cases hc
      · rename_i h1 h2
        rw [if_pos h1, if_neg h2] at o ⊢
        exact big_setP b o
    · cases hc
  · exact b
theorem big_drain {m : Mem} {H N : Nat} (b : Big m H N) (h k : Int) : Big (sel m (drainV m h k)) H N := by
  have o := ok_drain b.ok h k
  unfold sel
  split
  · rename_i hc
    unfold drainV at hc o ⊢
    split at hc
    · split at hc
      · cases hc
      · rename_i h1 h2
        rw [if_pos h1, if_neg h2] at o ⊢
        exact ⟨o, by show (m.pend.set _ _).length = _; rw [List.length_set]; exact b.p, by show (m.words.set _ _).length = _; rw [List.length_set]; exact b.w⟩
    · cases hc
  · exact b
theorem big_reserve {m : Mem} {H N : Nat} (b : Big m H N) (h a : Int) : Big (sel m (reserveV m h a).2) H N := by
  unfold sel
  split
  · rename_i hc
    unfold reserveV at hc ⊢
    split at hc
    · rename_i h1
      rw [if_pos h1]
      exact big_setR b _ _
    · rename_i h1
      exact absurd hc h1
  · exact b
theorem big_cond {m : Mem} {H N : Nat} (b : Big m H N) (h a n : Int) : Big (sel m (condV m h a n).2) H N := by
  unfold sel
  split
  · rename_i hc
    unfold condV at hc ⊢
    split at hc
    · rename_i h1
      rw [if_pos h1]
      show Big (setR (if _ then _ else _) _ _) H N
      split
      · exact big_setR (big_arr b _ _ _) _ _
      · exact big_setR b _ _
    · rename_i h1
      exact absurd hc h1
  · exact b
theorem big_change {m : Mem} {H N : Nat} (b : Big m H N) (h a op n : Int) : Big (sel m (changeV m h a op n).2) H N := by
  unfold sel
  split
  · rename_i hc
    unfold changeV at hc ⊢
    split at hc
    · rename_i h0
      rw [if_pos h0]
      split at hc
      · rename_i h1
        rw [if_pos h1]
        exact big_arr b _ _ _
      · rename_i h1
        exact absurd hc h1
    · cases hc
  · exact b
theorem big_step {m : Mem} {H N : Nat} (b : Big m H N) (x : Int × Int × Int × Int) : Big (stepM m x) H N := by
  unfold stepM
  split
  · exact b
  · split
    · exact big_store b _ _ _
    · split
      · exact big_drain b _ _
      · split
        · exact big_reserve b _ _
        · split
          · exact big_cond b _ _ _
          · exact big_change b _ _ _ _
def new0 (harts words : Int) : Mem := (newV (2 + pick harts 3) (1 + pick words 4)).1
theorem new0_eq (harts words : Int) : newV (2 + pick harts 3) (1 + pick words 4) = (new0 harts words, 0) := by
  have h1 := pick_bd harts (n := 3) (by omega)
  have h2 := pick_bd words (n := 4) (by omega)
  unfold new0 newV
  rw [if_pos (by simp only [Bool.and_eq_true, decide_eq_true_eq]; omega)]
theorem big_new (harts words : Int) : Big (new0 harts words) (2 + pick harts 3).toNat (1 + pick words 4).toNat := by
  have h1 := pick_bd harts (n := 3) (by omega)
  have h2 := pick_bd words (n := 4) (by omega)
  have o := ok_new (2 + pick harts 3) (1 + pick words 4)
  refine ⟨o, ?_, ?_⟩
  · unfold new0 newV
    rw [if_pos (by simp only [Bool.and_eq_true, decide_eq_true_eq]; omega)]
    exact List.length_replicate
  · unfold new0 newV
    rw [if_pos (by simp only [Bool.and_eq_true, decide_eq_true_eq]; omega)]
    exact List.length_replicate
def fd (m : Mem) (raw : List (Int × Int × Int × Int)) (k : Nat) : Mem := (raw.take k).foldl stepM m
theorem fd_succ {m : Mem} {raw : List (Int × Int × Int × Int)} {k : Nat} {x : Int × Int × Int × Int} (h : raw[k]? = some x) : stepM (fd m raw k) x = fd m raw (k + 1) := by
  unfold fd
  rw [List.take_add_one, h, List.foldl_append]
  rfl
theorem fd_big {m : Mem} {H N : Nat} (b : Big m H N) (raw : List (Int × Int × Int × Int)) (k : Nat) : Big (fd m raw k) H N := by
  unfold fd
  generalize raw.take k = l
  induction l generalizing m with
  | nil => exact b
  | cons x l ih => exact ih (big_step b x)
def madeM (harts words : Int) (raw : List (Int × Int × Int × Int)) : Mem := fd (new0 harts words) raw 40
theorem fd_end {m : Mem} {raw : List (Int × Int × Int × Int)} {k : Nat} (h : k = raw.length ∨ k = 40) (h2 : k ≤ 40) : fd m raw k = fd m raw 40 := by
  unfold fd
  rcases h with rfl | rfl
  · rw [List.take_of_length_le (Nat.le_refl _), List.take_of_length_le h2]
  · rfl
theorem big_made (harts words : Int) (raw : List (Int × Int × Int × Int)) : Big (madeM harts words raw) (2 + pick harts 3).toNat (1 + pick words 4).toNat := fd_big (big_new harts words) raw 40
end Go.Proofs.Ytobpoghophhphaa.Mm
