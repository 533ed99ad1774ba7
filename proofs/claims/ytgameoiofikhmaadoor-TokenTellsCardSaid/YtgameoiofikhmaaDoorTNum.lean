/- What digits tell, and which texts are numbers, as package token asks. -/
import Derived.Test.YtgameoiofikhmaaDoorTLib
namespace Go.Proofs.YtgameoiofikhmaaDoor
open Go.RowKit Tk
set_option linter.unusedVariables false
def hexs : Bs := [48, 49, 50, 51, 52, 53, 54, 55, 56, 57, 97, 98, 99, 100, 101, 102]
theorem idx_all : ∀ n : Fin 256, Lib.indexByte hexs (UInt8.ofNat n.val) = if digit (UInt8.ofNat n.val) < 16 then (digit (UInt8.ofNat n.val) : Int) else -1 := by decide +kernel
theorem idx_digit (c : UInt8) : Lib.indexByte hexs c = if digit c < 16 then (digit c : Int) else -1 := by
  have := idx_all ⟨c.toNat, c.toNat_lt⟩
  simpa using this
theorem idx_lit {c : UInt8} {d : Int} (h : (if digit c < 16 then (digit c : Int) else -1) = d) (w : World) :
    Calls Tryd.prog 40 #[.string ⟨#[48, 49, 50, 51, 52, 53, 54, 55, 56, 57, 97, 98, 99, 100, 101, 102]⟩, .int .u8 (c.toNat : Int)] w fun e w' => e = .returned (.int .i64 d) ∧ w = w' := by
  refine index_lit ?_ w
  rw [← h, ← idx_digit]
  congr 1
  simp
def valFrom (base : Nat) (s : ByteArray) (k m : Nat) : Option Nat := val base (s.data.toList.drop k) m
theorem valFrom_yes {base : Nat} (s : ByteArray) (k m : Nat) (h : k < s.size) (hd : digit s[k] < base) : valFrom base s k m = valFrom base s (k + 1) (m * base + digit s[k]) := by
  unfold valFrom
  rw [drop_cons s k h, val, if_pos hd]
theorem valFrom_no {base : Nat} (s : ByteArray) (k m : Nat) (h : k < s.size) (hd : ¬ digit s[k] < base) : valFrom base s k m = none := by
  unfold valFrom
  rw [drop_cons s k h, val, if_neg hd]
theorem valFrom_end {base : Nat} (s : ByteArray) (k m : Nat) (h : s.size ≤ k) : valFrom base s k m = some m := by
  unfold valFrom
  rw [List.drop_eq_nil_of_le (by simpa using h)]
  rfl
def optV (o : Option Nat) : Value := .tuple #[.int .i64 ((o.getD 0 : Nat) : Int), .bool o.isSome]
theorem rt {o p : Option Nat} (h : p = o) : Ending.returned (optV p) = .returned (optV o) := by rw [h]
theorem pow_bd {k : Nat} (h : k ≤ 10) : 16 ^ k ≤ 1099511627776 := Nat.le_trans (Nat.pow_le_pow_right (by omega) h) (by decide)
theorem pow_step {base m d k : Nat} (hb : base ≤ 16) (hm : m < 16 ^ k) (hd : d < base) : m * base + d < 16 ^ (k + 1) := by
  rw [Nat.pow_succ]
  have h1 : (m + 1) * base ≤ 16 ^ k * 16 := Nat.mul_le_mul hm hb
  rw [Nat.add_mul, Nat.one_mul] at h1
  omega
set_option maxHeartbeats 2000000 in
theorem value_lit {s : ByteArray} {base most : Nat} {o : Option Nat} (h : valueV s.data.toList base most = o) (hb : 1 ≤ base) (hb2 : base ≤ 16) (hm : most ≤ 10) (hs : s.size ≤ maxLen) (w : World) :
    Calls Tryd.prog 37 #[.string s, .int .i64 base, .int .i64 most] w fun e w' => e = .returned (optV o) ∧ w = w' := by
  unfold maxLen at hs
  by_cases h0 : s.size = 0
  · have e : o = none := by
      rw [← h]
      unfold valueV
      rw [size_list, if_pos (Or.inl h0)]
    obtain rfl := empty_of_size h0
    subst e
    clear h h0
    go_enter Tryd.func37, Tryd.ntmps37
    go_wp2
    go_ret2
    exact ⟨rfl, rfl⟩
  have hp : 0 < s.size := by omega
  have e1 := isEmpty_no hp
  have e2 := toList_no hp
  by_cases hml : most < s.size
  · have e : o = none := by
      rw [← h]
      unfold valueV
      rw [size_list, if_pos (Or.inr hml)]
    subst e
    clear h h0
    go_enter Tryd.func37, Tryd.ntmps37
    go_wp2
    go_ret2
    exact ⟨rfl, rfl⟩
  have hval : (match valFrom base s 0 0 with
      | some n => if n ≤ 4294967295 then some n else none
      | none => none) = o := by
    rw [← h]
    unfold valueV
    rw [size_list, if_neg (by omega)]
    rfl
  have HV := Lib.hid hval
  clear h h0 hval
  go_enter Tryd.func37, Tryd.ntmps37
  go_wp2
  go_loop [8, 21] (fun n i => ∃ k m : Nat, k ≤ s.size ∧ n = .int .i64 m ∧ i = .int .i64 k ∧ Hid (valFrom base s k m = valFrom base s 0 0) ∧ Hid (m < 16 ^ k)) (fun _ i => s.size - (intOf i).toNat)
  case atStart => exact ⟨0, 0, Nat.zero_le _, rfl, rfl, rfl, Lib.hid (by decide)⟩
  case round =>
    obtain ⟨k, m, hk, rfl, rfl, HA, HM⟩ := hrel
    have hp16 := pow_bd (k := k) (by omega)
    have hmb : m < 1099511627776 := by have := HM.out; omega
    clear hp16
    by_cases hlt : k < s.size
    · by_cases hdb : digit s[k] < base
      · have hy := valFrom_yes s k m hlt hdb
        have hst := pow_step hb2 HM.out hdb
        have hst2 : (m * base + digit s[k] : Nat) < 1099511627776 := by
          have := pow_bd (k := k + 1) (by omega)
          omega
        have hmul : ((m * base : Nat) : Int) = (m : Int) * base := by simp
        have hd : (if digit s[k] < 16 then (digit s[k] : Int) else -1) = (digit s[k] : Int) := if_pos (by omega)
        obtain ⟨q, hq⟩ : ∃ q, digit s[k] = q := ⟨_, rfl⟩
        rw [hq] at hy hst hst2 hdb
        have HD : Hid ((if digit s[k] < 16 then (digit s[k] : Int) else -1) = (q : Int)) := Lib.hid (hd.trans (by rw [hq]))
        clear hd hq
        have ht : decide ((base : Int) ≤ (q : Int)) = false := decide_eq_false (by omega)
        have ht2 : decide (base ≤ q) = false := decide_eq_false (by omega)
        have HY := Lib.hid hy
        have HST := Lib.hid hst
        have HQ := Lib.hid hst2
        have hw1 : (m : Int) * base ≤ 1099511627776 := by rw [← hmul]; omega
        have hw0 : 0 ≤ (m : Int) * base := by rw [← hmul]; omega
        have hw2 : (m : Int) * base + q ≤ 1099511627776 := by rw [← hmul]; omega
        have HMUL := Lib.hid hmul
        clear hy hst hst2 hmul
        go_wp2_with (go_at_call 40; ((with_reducible refine (idx_lit HD.out _).mono ?_); rintro e w' ⟨rfl, rfl⟩))
        go_round
        case rel => exact ⟨k + 1, m * base + q, by omega, by go_num, by go_num, Lib.hid (by rw [← HA.out, HY.out]), HST⟩
        case measure => simp [intOf]; omega
      · have hn := valFrom_no s k m hlt hdb
        have e : o = none := by
          have := HV.out
          rw [← HA.out, hn] at this
          exact this.symm
        subst e
        obtain ⟨d, hd⟩ : ∃ d : Int, (if digit s[k] < 16 then (digit s[k] : Int) else -1) = d := ⟨_, rfl⟩
        have HD := Lib.hid hd
        by_cases h16 : digit s[k] < 16
        · rw [if_pos h16] at hd
          have hd0 : ¬ d < 0 := by omega
          have hd1 : (base : Int) ≤ d := by omega
          clear hd hn hdb h16
          go_wp2_with (go_at_call 40; ((with_reducible refine (idx_lit HD.out _).mono ?_); rintro e w' ⟨rfl, rfl⟩))
          go_ret2
          exact ⟨rfl, rfl⟩
        · rw [if_neg h16] at hd
          have hd0 : d < 0 := by omega
          clear hd hn hdb h16
          go_wp2_with (go_at_call 40; ((with_reducible refine (idx_lit HD.out _).mono ?_); rintro e w' ⟨rfl, rfl⟩))
          go_ret2
          exact ⟨rfl, rfl⟩
    · have hn := valFrom_end (base := base) s k m (by omega)
      have hv := HV.out
      rw [← HA.out, hn] at hv
      by_cases hbig : m ≤ 4294967295
      · have e : o = some m := by rw [← hv]; exact if_pos hbig
        subst e
        clear hv hn
        go_wp2
        go_ret2
        exact ⟨rfl, rfl⟩
      · have e : o = none := by rw [← hv]; exact if_neg hbig
        subst e
        clear hv hn
        go_wp2
        go_ret2
        exact ⟨rfl, rfl⟩
end Go.Proofs.YtgameoiofikhmaaDoor
