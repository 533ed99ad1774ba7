/- Memory that harts share, as plain data: its words, what each hart has pending, what each has reserved; and what package store's calls make of it. -/
import Derived.Test.YtobpoghophhphaaPlain
namespace Go.Proofs.Ytobpoghophhphaa
open Go.RowKit (wrap32)
open Plain (two isTwo)
namespace Mm
structure Mem where
  words : List Int
  pend : List (List (Int × Int))
  res : List Int
def zero : Mem := ⟨[], [], []⟩
def pick (c n : Int) : Int := (if c < 0 then -(c + 1) else c) % n
theorem pick_bd (c : Int) {n : Int} (h : 0 < n) : 0 ≤ pick c n ∧ pick c n < n := ⟨Int.emod_nonneg _ (by omega), Int.emod_lt_of_pos _ h⟩
/-- what a hart has pending -/
def row (m : Mem) (h : Int) : List (Int × Int) := m.pend.getD h.toNat []
def isH (m : Mem) (h : Int) : Bool := decide (0 ≤ h) && decide (h < (m.pend.length : Int))
def isW (m : Mem) (a : Int) : Bool := decide (0 ≤ a) && decide (a < (m.words.length : Int))
def last (l : List (Int × Int)) (a d : Int) : Int := l.foldl (fun n e => if e.1 = a then e.2 else n) d
def wordN (m : Mem) (a : Int) : Int := m.words.getD a.toNat 0
def loadN (m : Mem) (h a : Int) : Int := last (row m h) a (wordN m a)
def loadV (m : Mem) (h a : Int) : Int × Int := if isH m h && isW m a then (loadN m h a, 0) else (0, 1)
/-- a number goes to memory -/
def arr (m : Mem) (h a n : Int) : Mem := ⟨m.words.set a.toNat n, m.pend, m.res.mapIdx fun i r => if (i : Int) ≠ h ∧ r = a then -1 else r⟩
def setP (m : Mem) (h : Int) (l : List (Int × Int)) : Mem := { m with pend := m.pend.set h.toNat l }
def setR (m : Mem) (h x : Int) : Mem := { m with res := m.res.set h.toNat x }
def storeV (m : Mem) (h a n : Int) : Mem × Int := if isH m h && isW m a then (if 8 ≤ (row m h).length then (zero, 90) else (setP m h (row m h ++ [(a, wrap32 n)]), 0)) else (zero, 1)
def drainV (m : Mem) (h k : Int) : Mem × Int :=
  if isH m h && (decide (0 ≤ k) && decide (k < ((row m h).length : Int))) then
    (if ((row m h).take k.toNat).any (fun x => decide (x.1 = ((row m h).getD k.toNat (0, 0)).1)) then (zero, 91)
     else (arr (setP m h ((row m h).eraseIdx k.toNat)) h ((row m h).getD k.toNat (0, 0)).1 ((row m h).getD k.toNat (0, 0)).2, 0))
  else (zero, 1)
def arrs (m : Mem) (h : Int) (l : List (Int × Int)) : Mem := l.foldl (fun m e => arr m h e.1 e.2) m
def flushN (m : Mem) (h : Int) : Mem := setP (arrs m h (row m h)) h []
def flushV (m : Mem) (h : Int) : Mem × Int := if isH m h then (flushN m h, 0) else (zero, 1)
def busy (m : Mem) (h a : Int) : Int := if isH m h && isW m a then (if 0 < (row m h).length then 92 else 0) else 1
def resN (m : Mem) (h : Int) : Int := m.res.getD h.toNat 0
def reserveV (m : Mem) (h a : Int) : Int × Mem × Int := if busy m h a = 0 then (wordN m a, setR m h a, 0) else (0, zero, busy m h a)
def condV (m : Mem) (h a n : Int) : Bool × Mem × Int :=
  if busy m h a = 0 then (decide (resN m h = a), setR (if resN m h = a then arr m h a (wrap32 n) else m) h (-1), 0) else (false, zero, busy m h a)
def opOf (old op n : Int) : Int := if op = 0 then wrap32 n else two op old n
def changeV (m : Mem) (h a op n : Int) : Int × Mem × Int :=
  if isTwo op || decide (op = 0) then (if busy m h a = 0 then (wordN m a, arr m h a (opOf (wordN m a) op n), 0) else (0, zero, busy m h a)) else (0, zero, 1)
def newV (h n : Int) : Mem × Int := if decide (1 ≤ h) && decide (h ≤ 4) && decide (0 ≤ n) && decide (n ≤ 4096) then (⟨List.replicate n.toNat 0, List.replicate h.toNat [], List.replicate h.toNat (-1)⟩, 0) else (zero, 1)
/-- a memory that calls told -/
structure Ok (m : Mem) : Prop where
  p4 : m.pend.length ≤ 4
  pr : m.res.length = m.pend.length
  w : m.words.length ≤ 4096
  p8 : ∀ l ∈ m.pend, l.length ≤ 8
  at_ : ∀ l ∈ m.pend, ∀ e ∈ l, 0 ≤ e.1 ∧ e.1 < (m.words.length : Int)
theorem ok_zero : Ok zero := ⟨by decide, rfl, by decide, fun l h => (by cases h), fun l h => (by cases h)⟩
theorem isH_iff {m : Mem} {h : Int} : isH m h = true ↔ 0 ≤ h ∧ h < (m.pend.length : Int) := by unfold isH; simp
theorem isW_iff {m : Mem} {a : Int} : isW m a = true ↔ 0 ≤ a ∧ a < (m.words.length : Int) := by unfold isW; simp
theorem row_mem {m : Mem} {h : Int} (hh : isH m h = true) : row m h ∈ m.pend := by
  have := isH_iff.1 hh
  have hl : h.toNat < m.pend.length := by omega
  unfold row
  rw [List.getD_eq_getElem?_getD, List.getElem?_eq_getElem hl]
  exact List.getElem_mem _
theorem row_get {m : Mem} {h : Int} (hh : isH m h = true) : m.pend[h.toNat]? = some (row m h) := by
  have := isH_iff.1 hh
  have hl : h.toNat < m.pend.length := by omega
  unfold row
  rw [List.getD_eq_getElem?_getD, List.getElem?_eq_getElem hl]
  rfl
theorem word_get {m : Mem} {a : Int} (hh : isW m a = true) : m.words[a.toNat]? = some (wordN m a) := by
  have := isW_iff.1 hh
  have hl : a.toNat < m.words.length := by omega
  unfold wordN
  rw [List.getD_eq_getElem?_getD, List.getElem?_eq_getElem hl]
  rfl
theorem res_get {m : Mem} (ho : Ok m) {h : Int} (hh : isH m h = true) : m.res[h.toNat]? = some (resN m h) := by
  have := isH_iff.1 hh
  have hl : h.toNat < m.res.length := by rw [ho.pr]; omega
  unfold resN
  rw [List.getD_eq_getElem?_getD, List.getElem?_eq_getElem hl]
  rfl
theorem ok_arr {m : Mem} (ho : Ok m) (h a n : Int) : Ok (arr m h a n) :=
  ⟨ho.p4, by show (m.res.mapIdx _).length = _; rw [List.length_mapIdx]; exact ho.pr, by show (m.words.set _ _).length ≤ _; rw [List.length_set]; exact ho.w, ho.p8, fun l hl e he => by
    show _ ∧ _ < (((m.words.set _ _).length : Nat) : Int)
    rw [List.length_set]; exact ho.at_ l hl e he⟩
theorem ok_setP {m : Mem} (ho : Ok m) (h : Int) {l : List (Int × Int)} (h8 : l.length ≤ 8) (ha : ∀ e ∈ l, 0 ≤ e.1 ∧ e.1 < (m.words.length : Int)) : Ok (setP m h l) :=
  ⟨by show (m.pend.set _ _).length ≤ _; rw [List.length_set]; exact ho.p4, by show _ = (m.pend.set _ _).length; rw [List.length_set]; exact ho.pr, ho.w,
    fun x hx => by rcases List.mem_or_eq_of_mem_set hx with h | rfl; exact ho.p8 x h; exact h8,
    fun x hx e he => by rcases List.mem_or_eq_of_mem_set hx with h | rfl; exact ho.at_ x h e he; exact ha e he⟩
theorem ok_setR {m : Mem} (ho : Ok m) (h x : Int) : Ok (setR m h x) :=
  ⟨ho.p4, by show (m.res.set _ _).length = _; rw [List.length_set]; exact ho.pr, ho.w, ho.p8, ho.at_⟩
theorem ok_store {m : Mem} (ho : Ok m) (h a n : Int) : Ok (storeV m h a n).1 := by
  unfold storeV
  split
  · rename_i hc
    split
    · exact ok_zero
    · rename_i h8
      rw [Bool.and_eq_true] at hc
      refine ok_setP ho h (by rw [List.length_append, List.length_singleton]; omega) fun e he => ?_
      rcases List.mem_append.1 he with hm | hm
      · exact ho.at_ _ (row_mem hc.1) e hm
      · rw [List.mem_singleton.1 hm]
        exact isW_iff.1 hc.2
  · exact ok_zero
theorem getD_mem {α : Type} {l : List α} {k : Nat} {d : α} (h : k < l.length) : l.getD k d ∈ l := by
  rw [List.getD_eq_getElem?_getD, List.getElem?_eq_getElem h]
  exact List.getElem_mem _
theorem ok_drain {m : Mem} (ho : Ok m) (h k : Int) : Ok (drainV m h k).1 := by
  unfold drainV
  split
  · rename_i hc
    split
    · exact ok_zero
    · rw [Bool.and_eq_true] at hc
      refine ok_arr (ok_setP ho h ?_ fun e he => ?_) _ _ _
      · exact Nat.le_trans (List.length_eraseIdx_le _ _) (ho.p8 _ (row_mem hc.1))
      · exact ho.at_ _ (row_mem hc.1) e (List.mem_of_mem_eraseIdx he)
  · exact ok_zero
theorem ok_arrs {m : Mem} (ho : Ok m) (h : Int) (l : List (Int × Int)) : Ok (arrs m h l) := by
  induction l generalizing m with
  | nil => exact ho
  | cons e l ih => exact ih (ok_arr ho _ _ _)
theorem ok_flush {m : Mem} (ho : Ok m) (h : Int) : Ok (flushV m h).1 := by
  unfold flushV
  split
  · exact ok_setP (ok_arrs ho _ _) h (Nat.zero_le _) fun e he => by cases he
  · exact ok_zero
theorem ok_reserve {m : Mem} (ho : Ok m) (h a : Int) : Ok (reserveV m h a).2.1 := by
  unfold reserveV
  split
  · exact ok_setR ho _ _
  · exact ok_zero
theorem ok_cond {m : Mem} (ho : Ok m) (h a n : Int) : Ok (condV m h a n).2.1 := by
  unfold condV
  split
  · refine ok_setR ?_ _ _
    split
    · exact ok_arr ho _ _ _
    · exact ho
  · exact ok_zero
theorem ok_change {m : Mem} (ho : Ok m) (h a op n : Int) : Ok (changeV m h a op n).2.1 := by
  unfold changeV
  split
  · split
    · exact ok_arr ho _ _ _
    · exact ok_zero
  · exact ok_zero
theorem ok_new (h n : Int) : Ok (newV h n).1 := by
  unfold newV
  split
  · rename_i hc
    simp only [Bool.and_eq_true, decide_eq_true_eq] at hc
    refine ⟨by show (List.replicate _ _).length ≤ 4; rw [List.length_replicate]; omega, by show (List.replicate _ _).length = (List.replicate _ _).length; rw [List.length_replicate, List.length_replicate], by show (List.replicate _ _).length ≤ 4096; rw [List.length_replicate]; omega, fun l hl => ?_, fun l hl e he => ?_⟩
    · rw [List.eq_of_mem_replicate hl]; decide
    · rw [List.eq_of_mem_replicate hl] at he; cases he
  · exact ok_zero
end Mm
end Go.Proofs.Ytobpoghophhphaa
