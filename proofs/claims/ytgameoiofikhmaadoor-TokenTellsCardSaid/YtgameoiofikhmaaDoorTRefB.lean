/- The document's own answer for layer 5: numbers. -/
import Derived.Test.YtgameoiofikhmaaDoorTRefA
namespace Go.Proofs.YtgameoiofikhmaaDoor
open Go.RowKit Tk
set_option linter.unusedVariables false
theorem digit_of_dig {c : UInt8} (h : isDig c = true) : 48 ≤ c.toNat ∧ c.toNat ≤ 57 ∧ digit c = c.toNat - 48 := by
  have h1 : 48 ≤ c.toNat ∧ c.toNat ≤ 57 := of_decide_eq_true h
  exact ⟨h1.1, h1.2, if_pos h1⟩
theorem digit_of_not {c : UInt8} (h : isDig c = false) : (97 ≤ c.toNat ∧ c.toNat ≤ 102 ∧ digit c = c.toNat - 87) ∨ (¬ (97 ≤ c.toNat ∧ c.toNat ≤ 102) ∧ digit c = 99) := by
  have h1 : ¬ (48 ≤ c.toNat ∧ c.toNat ≤ 57) := of_decide_eq_false h
  unfold digit
  rw [if_neg h1]
  by_cases h2 : 97 ≤ c.toNat ∧ c.toNat ≤ 102
  · exact Or.inl ⟨h2.1, h2.2, if_pos h2⟩
  · exact Or.inr ⟨h2, if_neg h2⟩
set_option maxHeartbeats 4000000 in
theorem rvalue10 {s : ByteArray} {o : Int} (h : vOf (val 10 s.data.toList 0) = o) (hs : s.size ≤ 10) (w : World) :
    Calls Tryd.prog 38 #[.string s, .int .i64 10] w fun e w' => e = .returned (.int .i64 o) ∧ w = w' := by
  have HV : Hid (vOf (valFrom 10 s 0 0) = o) := Lib.hid h
  clear h
  go_enter Tryd.func38, Tryd.ntmps38
  go_wp2
  go_loop [5, 6] (fun n i => ∃ k m : Nat, k ≤ s.size ∧ n = .int .i64 m ∧ i = .int .i64 k ∧ Hid (valFrom 10 s k m = valFrom 10 s 0 0) ∧ Hid (m < 16 ^ k)) (fun _ i => s.size - (intOf i).toNat)
  case atStart => exact ⟨0, 0, Nat.zero_le _, rfl, rfl, rfl, Lib.hid (by decide)⟩
  case round =>
    obtain ⟨k, m, hk, rfl, rfl, HA, HM⟩ := hrel
    have hp16 := pow_bd (k := k) (by omega)
    have hmb : m < 1099511627776 := by have := HM.out; omega
    clear hp16
    by_cases hlt : k < s.size
    · have hyes : digit s[k] < 10 → ∀ q : Nat, digit s[k] = q → valFrom 10 s (k + 1) (10 * m + q) = valFrom 10 s 0 0 ∧ 10 * m + q < 16 ^ (k + 1) := by
        intro hd q hq
        have h1 := valFrom_yes s k m hlt hd
        have h2 := pow_step (base := 10) (by omega) HM.out hd
        rw [hq, Nat.mul_comm] at h1 h2
        exact ⟨h1.symm.trans HA.out, h2⟩
      have hno : ¬ digit s[k] < 10 → o = -1 := by
        intro hd
        have h1 := valFrom_no s k m hlt hd
        have h2 := HV.out
        rw [← HA.out, h1] at h2
        exact h2.symm
      cases hdg : isDig s[k] with
      | true =>
        obtain ⟨l1, l2, l3⟩ := digit_of_dig hdg
        have HD := Lib.hid hdg
        obtain ⟨y1, y2⟩ := hyes (by omega) _ l3
        have c97 : ¬ 97 ≤ (s[k].toNat : Int) := by omega
        have HY1 := Lib.hid y1
        have HY2 := Lib.hid y2
        have HQ : Hid (((10 * m + (s[k].toNat - 48) : Nat) : Int) = 10 * (m : Int) + ((s[k].toNat : Int) - 48)) := Lib.hid (by omega)
        clear hdg y1 y2 hyes hno l3
        go_wp2_with (go_at_call 29; ((with_reducible refine (rdig_lit HD.out _).mono ?_); rintro e w2 ⟨rfl, rfl⟩))
        all_goals
          go_round
          case rel => exact ⟨k + 1, 10 * m + (s[k].toNat - 48), by omega, by rw [HQ.out], by go_num, HY1, HY2⟩
          case measure => simp [intOf]; omega
      | false =>
        have HD := Lib.hid hdg
        rcases digit_of_not hdg with ⟨l1, l2, l3⟩ | ⟨l1, l3⟩
        · obtain rfl := hno (by omega)
          clear hdg hyes hno l3
          go_wp2_with (go_at_call 29; ((with_reducible refine (rdig_lit HD.out _).mono ?_); rintro e w2 ⟨rfl, rfl⟩))
          go_ret
          exact ⟨rfl, rfl⟩
        · obtain rfl := hno (by omega)
          rcases (show s[k].toNat < 97 ∨ 102 < s[k].toNat by omega) with l4 | l4
          all_goals
            clear hdg hyes hno l3 l1
            go_wp2_with (go_at_call 29; ((with_reducible refine (rdig_lit HD.out _).mono ?_); rintro e w2 ⟨rfl, rfl⟩))
            go_ret
            exact ⟨rfl, rfl⟩
    · have hn := valFrom_end (base := 10) s k m (by omega)
      have hv := HV.out
      rw [← HA.out, hn] at hv
      obtain rfl : (m : Int) = o := hv
      clear hn
      go_wp2
      go_ret
      exact ⟨rfl, rfl⟩
set_option maxHeartbeats 4000000 in
theorem rvalue16 {s : ByteArray} {o : Int} (h : vOf (val 16 s.data.toList 0) = o) (hs : s.size ≤ 10) (w : World) :
    Calls Tryd.prog 38 #[.string s, .int .i64 16] w fun e w' => e = .returned (.int .i64 o) ∧ w = w' := by
  have HV : Hid (vOf (valFrom 16 s 0 0) = o) := Lib.hid h
  clear h
  go_enter Tryd.func38, Tryd.ntmps38
  go_wp2
  go_loop [5, 6] (fun n i => ∃ k m : Nat, k ≤ s.size ∧ n = .int .i64 m ∧ i = .int .i64 k ∧ Hid (valFrom 16 s k m = valFrom 16 s 0 0) ∧ Hid (m < 16 ^ k)) (fun _ i => s.size - (intOf i).toNat)
  case atStart => exact ⟨0, 0, Nat.zero_le _, rfl, rfl, rfl, Lib.hid (by decide)⟩
  case round =>
    obtain ⟨k, m, hk, rfl, rfl, HA, HM⟩ := hrel
    have hp16 := pow_bd (k := k) (by omega)
    have hmb : m < 1099511627776 := by have := HM.out; omega
    clear hp16
    by_cases hlt : k < s.size
    · have hyes : digit s[k] < 16 → ∀ q : Nat, digit s[k] = q → valFrom 16 s (k + 1) (16 * m + q) = valFrom 16 s 0 0 ∧ 16 * m + q < 16 ^ (k + 1) := by
        intro hd q hq
        have h1 := valFrom_yes s k m hlt hd
        have h2 := pow_step (base := 16) (by omega) HM.out hd
        rw [hq, Nat.mul_comm] at h1 h2
        exact ⟨h1.symm.trans HA.out, h2⟩
      have hno : ¬ digit s[k] < 16 → o = -1 := by
        intro hd
        have h1 := valFrom_no s k m hlt hd
        have h2 := HV.out
        rw [← HA.out, h1] at h2
        exact h2.symm
      cases hdg : isDig s[k] with
      | true =>
        obtain ⟨l1, l2, l3⟩ := digit_of_dig hdg
        have HD := Lib.hid hdg
        obtain ⟨y1, y2⟩ := hyes (by omega) _ l3
        have c97 : ¬ 97 ≤ (s[k].toNat : Int) := by omega
        have HY1 := Lib.hid y1
        have HY2 := Lib.hid y2
        have HQ : Hid (((16 * m + (s[k].toNat - 48) : Nat) : Int) = 16 * (m : Int) + ((s[k].toNat : Int) - 48)) := Lib.hid (by omega)
        clear hdg y1 y2 hyes hno l3
        go_wp2_with (go_at_call 29; ((with_reducible refine (rdig_lit HD.out _).mono ?_); rintro e w2 ⟨rfl, rfl⟩))
        all_goals
          go_round
          case rel => exact ⟨k + 1, 16 * m + (s[k].toNat - 48), by omega, by rw [HQ.out], by go_num, HY1, HY2⟩
          case measure => simp [intOf]; omega
      | false =>
        have HD := Lib.hid hdg
        rcases digit_of_not hdg with ⟨l1, l2, l3⟩ | ⟨l1, l3⟩
        · obtain ⟨y1, y2⟩ := hyes (by omega) _ l3
          have HY1 := Lib.hid y1
          have HY2 := Lib.hid y2
          have HQ : Hid (((16 * m + (s[k].toNat - 87) : Nat) : Int) = 16 * (m : Int) + ((s[k].toNat : Int) - 97 + 10)) := Lib.hid (by omega)
          clear hdg y1 y2 hyes hno l3
          go_wp2_with (go_at_call 29; ((with_reducible refine (rdig_lit HD.out _).mono ?_); rintro e w2 ⟨rfl, rfl⟩))
          all_goals
            go_round
            case rel => exact ⟨k + 1, 16 * m + (s[k].toNat - 87), by omega, by rw [HQ.out], by go_num, HY1, HY2⟩
            case measure => simp [intOf]; omega
        · obtain rfl := hno (by omega)
          rcases (show s[k].toNat < 97 ∨ 102 < s[k].toNat by omega) with l4 | l4
          all_goals
            clear hdg hyes hno l3 l1
            go_wp2_with (go_at_call 29; ((with_reducible refine (rdig_lit HD.out _).mono ?_); rintro e w2 ⟨rfl, rfl⟩))
            go_ret
            exact ⟨rfl, rfl⟩
    · have hn := valFrom_end (base := 16) s k m (by omega)
      have hv := HV.out
      rw [← HA.out, hn] at hv
      obtain rfl : (m : Int) = o := hv
      clear hn
      go_wp2
      go_ret
      exact ⟨rfl, rfl⟩
end Go.Proofs.YtgameoiofikhmaaDoor
