/- Memories in plain words: what each call leaves of rows and words. -/
import Derived.Test.YtobpoghophhphaaMMadeP
namespace Go.Proofs.Ytobpoghophhphaa.Mm
open Go.RowKit (wrap32)
open Plain (two isTwo)
set_option linter.unusedVariables false
theorem isH_of {m : Mem} {H N : Nat} (b : Big m H N) {h : Nat} (hh : h < H) : isH m h = true := isH_iff.2 ⟨by omega, by rw [b.p]; omega⟩
theorem isW_of {m : Mem} {H N : Nat} (b : Big m H N) {a : Nat} (ha : a < N) : isW m a = true := isW_iff.2 ⟨by omega, by rw [b.w]; omega⟩
theorem row_same {m : Mem} {H N : Nat} (b : Big m H N) {h : Nat} (hh : h < H) (l : List (Int × Int)) : row (setP m h l) h = l := by
  unfold row setP
  rw [List.getD_eq_getElem?_getD, Int.toNat_natCast, List.getElem?_set_self (by rw [b.p]; exact hh)]
  rfl
theorem row_other {m : Mem} {h k : Nat} (hne : h ≠ k) (l : List (Int × Int)) : row (setP m h l) k = row m k := by
  unfold row setP
  rw [List.getD_eq_getElem?_getD, List.getD_eq_getElem?_getD, Int.toNat_natCast, Int.toNat_natCast, List.getElem?_set_ne hne]
theorem row_arr (m : Mem) (h a n k : Int) : row (arr m h a n) k = row m k := rfl
theorem word_same {m : Mem} {H N : Nat} (b : Big m H N) {a : Nat} (ha : a < N) (h n : Int) : wordN (arr m h a n) a = n := by
  unfold wordN arr
  rw [List.getD_eq_getElem?_getD, Int.toNat_natCast, List.getElem?_set_self (by rw [b.w]; exact ha)]
  rfl
theorem word_other {m : Mem} {a k : Nat} (hne : a ≠ k) (h n : Int) : wordN (arr m h a n) k = wordN m k := by
  unfold wordN arr
  rw [List.getD_eq_getElem?_getD, List.getD_eq_getElem?_getD, Int.toNat_natCast, Int.toNat_natCast, List.getElem?_set_ne hne]
theorem word_setP (m : Mem) (h : Int) (l : List (Int × Int)) (a : Int) : wordN (setP m h l) a = wordN m a := rfl
theorem word_setR (m : Mem) (h x a : Int) : wordN (setR m h x) a = wordN m a := rfl
theorem row_setR (m : Mem) (h x a : Int) : row (setR m h x) a = row m a := rfl
theorem big_setP' {m : Mem} {H N : Nat} (b : Big m H N) (h : Int) {l : List (Int × Int)} (h8 : l.length ≤ 8) (ha : ∀ e ∈ l, 0 ≤ e.1 ∧ e.1 < (N : Int)) : Big (setP m h l) H N := big_setP b (ok_setP b.ok h h8 (by rw [b.w]; exact ha))
theorem busy_no {m : Mem} {H N : Nat} (b : Big m H N) {h a : Nat} (hh : h < H) (ha : a < N) (hr : row m h = []) : busy m h a = 0 := by
  unfold busy
  rw [isH_of b hh, isW_of b ha, hr]
  rfl
theorem busy_yes {m : Mem} {H N : Nat} (b : Big m H N) {h a : Nat} (hh : h < H) (ha : a < N) (hr : 0 < (row m h).length) : busy m h a = 92 := by
  unfold busy
  rw [isH_of b hh, isW_of b ha, if_pos (by rfl), if_pos hr]
theorem arrs_big {m : Mem} {H N : Nat} (b : Big m H N) (h : Int) (l : List (Int × Int)) : Big (arrs m h l) H N := by
  induction l generalizing m with
  | nil => exact b
  | cons e l ih => exact ih (big_arr b h e.1 e.2)
theorem big_flush {m : Mem} {H N : Nat} (b : Big m H N) (h : Int) : Big (flushN m h) H N := big_setP' (arrs_big b h (row m h)) h (Nat.zero_le _) (fun e he => by cases he)
theorem flush_eq {m : Mem} {H N : Nat} (b : Big m H N) {h : Nat} (hh : h < H) : flushV m h = (flushN m h, 0) := by
  unfold flushV
  rw [isH_of b hh]
  rfl
theorem flush_row {m : Mem} {H N : Nat} (b : Big m H N) {h : Nat} (hh : h < H) : row (flushN m h) h = [] := row_same (arrs_big b h (row m h)) hh []
theorem load_eq {m : Mem} {H N : Nat} (b : Big m H N) {h a : Nat} (hh : h < H) (ha : a < N) : loadV m h a = (loadN m h a, 0) := by
  unfold loadV
  rw [isH_of b hh, isW_of b ha]
  rfl
theorem load_nil {m : Mem} {h a : Int} (hr : row m h = []) : loadN m h a = wordN m a := by
  unfold loadN
  rw [hr]
  rfl
theorem change_eq {m : Mem} {H N : Nat} (b : Big m H N) {h a : Nat} (hh : h < H) (ha : a < N) (hr : row m h = []) (op n : Int) (ho : isTwo op = true ∨ op = 0) : changeV m h a op n = (wordN m a, arr m h a (opOf (wordN m a) op n), 0) := by
  unfold changeV
  rw [if_pos (by rcases ho with h | h <;> simp [h]), if_pos (busy_no b hh ha hr)]
theorem change_busy {m : Mem} {H N : Nat} (b : Big m H N) {h a : Nat} (hh : h < H) (ha : a < N) (hr : 0 < (row m h).length) (op n : Int) (ho : isTwo op = true ∨ op = 0) : changeV m h a op n = (0, zero, 92) := by
  unfold changeV
  rw [if_pos (by rcases ho with h | h <;> simp [h]), busy_yes b hh ha hr]
  rfl
theorem reserve_eq {m : Mem} {H N : Nat} (b : Big m H N) {h a : Nat} (hh : h < H) (ha : a < N) (hr : row m h = []) : reserveV m h a = (wordN m a, setR m h a, 0) := by
  unfold reserveV
  rw [if_pos (busy_no b hh ha hr)]
theorem reserve_busy {m : Mem} {H N : Nat} (b : Big m H N) {h a : Nat} (hh : h < H) (ha : a < N) (hr : 0 < (row m h).length) : reserveV m h a = (0, zero, 92) := by
  unfold reserveV
  rw [busy_yes b hh ha hr]
  rfl
theorem cond_busy {m : Mem} {H N : Nat} (b : Big m H N) {h a : Nat} (hh : h < H) (ha : a < N) (hr : 0 < (row m h).length) (n : Int) : condV m h a n = (false, zero, 92) := by
  unfold condV
  rw [busy_yes b hh ha hr]
  rfl
theorem cond_eq {m : Mem} {H N : Nat} (b : Big m H N) {h a : Nat} (hh : h < H) (ha : a < N) (hr : row m h = []) (n : Int) : condV m h a n = (decide (resN m h = a), setR (if resN m h = a then arr m h a (wrap32 n) else m) h (-1), 0) := by
  unfold condV
  rw [if_pos (busy_no b hh ha hr)]
theorem store_eq {m : Mem} {H N : Nat} (b : Big m H N) {h a : Nat} (hh : h < H) (ha : a < N) (hr : (row m h).length < 8) (n : Int) : storeV m h a n = (setP m h (row m h ++ [((a : Int), wrap32 n)]), 0) := by
  unfold storeV
  rw [isH_of b hh, isW_of b ha, if_pos (by rfl), if_neg (by omega)]
theorem store_full {m : Mem} {H N : Nat} (b : Big m H N) {h a : Nat} (hh : h < H) (ha : a < N) (hr : 8 ≤ (row m h).length) (n : Int) : storeV m h a n = (zero, 90) := by
  unfold storeV
  rw [isH_of b hh, isW_of b ha, if_pos (by rfl), if_pos hr]
theorem row_at {m : Mem} {H N : Nat} (b : Big m H N) {h : Nat} (hh : h < H) : (row m h).length ≤ 8 ∧ ∀ e ∈ row m h, 0 ≤ e.1 ∧ e.1 < (N : Int) :=
  ⟨b.ok.p8 _ (row_mem (isH_of b hh)), by have := b.ok.at_ _ (row_mem (isH_of b hh)); rw [b.w] at this; exact this⟩
/-- busy's story -/
theorem busy_all {m : Mem} {H N : Nat} (b : Big m H N) {h a : Nat} (hh : h < H) (ha : a < N) (n : Int) : ∃ (was : Int) (m1 m2 m3 m4 m5 : Mem), Big m1 H N ∧ Big m2 H N ∧ Big m3 H N ∧ Big m4 H N ∧ flushV m h = (m1, 0) ∧ loadV m1 h a = (was, 0) ∧ changeV m1 h a 0 n = (was, m2, 0) ∧ storeV m2 h a n = (m3, 0) ∧
    changeV m3 h a 0 n = (0, zero, 92) ∧ reserveV m3 h a = (0, zero, 92) ∧ condV m3 h a n = (false, zero, 92) ∧ flushV m3 h = (m4, 0) ∧ reserveV m4 h a = (wrap32 n, m5, 0) := by
  have b1 := big_flush b h
  have r1 := flush_row b hh
  have b2 := big_arr b1 h a (wrap32 n)
  have r2 : row (arr (flushN m h) h a (wrap32 n)) h = [] := r1
  have e3 := store_eq b2 hh ha (by rw [r2]; decide) n
  rw [r2] at e3
  have b3 : Big (setP (arr (flushN m h) h a (wrap32 n)) h ([] ++ [((a : Int), wrap32 n)])) H N := big_setP' b2 h (by show (1 : Nat) ≤ 8; decide) (fun e he => by rw [List.mem_singleton.1 he]; exact ⟨by simp, by simp; omega⟩)
  have r3 := row_same b2 hh ([] ++ [((a : Int), wrap32 n)])
  have l3 : 0 < (row (setP (arr (flushN m h) h a (wrap32 n)) h ([] ++ [((a : Int), wrap32 n)])) h).length := by rw [r3]; exact Nat.one_pos
  have b4 := big_flush b3 h
  refine ⟨wordN (flushN m h) a, _, _, _, _, setR (flushN (setP (arr (flushN m h) h a (wrap32 n)) h ([] ++ [((a : Int), wrap32 n)])) h) h a, b1, b2, b3, b4, flush_eq b hh, ?_, change_eq b1 hh ha r1 0 n (.inr rfl), e3, change_busy b3 hh ha l3 0 n (.inr rfl), reserve_busy b3 hh ha l3, cond_busy b3 hh ha l3 n, flush_eq b3 hh, ?_⟩
  · rw [load_eq b1 hh ha, load_nil r1]
  · rw [reserve_eq b4 hh ha (flush_row b3 hh)]
    have e : wordN (flushN (setP (arr (flushN m h) h a (wrap32 n)) h ([] ++ [((a : Int), wrap32 n)])) h) a = wrap32 n := by
      show wordN (arrs _ h (row _ h)) a = _
      rw [r3]
      exact word_same b3 ha h (wrap32 n)
    rw [e]
end Go.Proofs.Ytobpoghophhphaa.Mm
