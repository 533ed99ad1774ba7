/- Numbers of a text, and the image that a text may be the one of, in plain words. -/
import Derived.Test.YtbfmlbcjggplgaaGreatDoorIRefD
namespace Go.Proofs.YtbfmlbcjggplgaaGreatDoor.Im
/-- a digit to a base; below 0: none -/
def dV (base : Nat) (c : UInt8) : Int := if 48 ≤ c.toNat ∧ c.toNat ≤ 57 then (c.toNat : Int) - 48 else if 97 ≤ c.toNat ∧ c.toNat ≤ 102 ∧ base = 16 then (c.toNat : Int) - 87 else -1
/-- the digits behind a number to a base -/
def valG (base : Nat) (n : Int) : Bs → Int
  | [] => n
  | c :: r => if dV base c < 0 ∨ 1099511627776 < n then -1 else valG base (n * base + dV base c) r
theorem valG_cons (base : Nat) (n : Int) (c : UInt8) (r : Bs) : valG base n (c :: r) = if dV base c < 0 ∨ 1099511627776 < n then -1 else valG base (n * base + dV base c) r := rfl
def valV (base : Nat) (s : Bs) : Int := if s = [] then -1 else valG base 0 s
theorem dV_lt (base : Nat) (c : UInt8) : -1 ≤ dV base c ∧ dV base c < 16 := by
  unfold dV
  split
  · omega
  · split <;> omega
theorem dV_10 (c : UInt8) : dV 10 c < 10 := by
  unfold dV
  split
  · omega
  · rw [if_neg (by omega)]
    omega
theorem valG_bounds {base : Nat} (hb : base = 10 ∨ base = 16) : ∀ (s : Bs) (n : Int), 0 ≤ n → n ≤ 20000000000000 → -1 ≤ valG base n s ∧ valG base n s ≤ 20000000000000 := by
  intro s
  induction s with
  | nil => intro n h0 h1; unfold valG; omega
  | cons c r ih =>
    intro n h0 h1
    unfold valG
    split
    · omega
    · have := dV_lt base c
      rcases hb with rfl | rfl
      · exact ih _ (by omega) (by omega)
      · exact ih _ (by omega) (by omega)
theorem valV_bounds {base : Nat} (hb : base = 10 ∨ base = 16) (s : Bs) : -1 ≤ valV base s ∧ valV base s ≤ 20000000000000 := by
  unfold valV
  split
  · omega
  · exact valG_bounds hb s 0 (by omega) (by omega)
end Go.Proofs.YtbfmlbcjggplgaaGreatDoor.Im
namespace Go.Proofs.YtbfmlbcjggplgaaGreatDoor
open Go.RowKit Im
set_option linter.unusedVariables false
set_option linter.unusedSimpArgs false
set_option maxHeartbeats 4000000 in
theorem value_any {base : Nat} {b : Int} (hb : base = 10 ∧ b = 10 ∨ base = 16 ∧ b = 16) {s : ByteArray} {v : Int} (hs : s.size ≤ maxLen) (hv : valV base s.data.toList = v) (w : World) :
    Calls Tryz.prog 37 #[.string s, .int .i64 b] w fun e w' => e = .returned (.int .i64 v) ∧ w = w' := by
  unfold maxLen at hs
  by_cases h0 : s.size = 0
  · obtain rfl := empty_of_size h0
    have : v = -1 := by rw [← hv]; rfl
    subst this
    clear h0
    go_enter Tryz.func37, Tryz.ntmps37
    go_wp2_with fail
    go_loopw [5, 6] (fun n i wr => n = .int .i64 0 ∧ i = .int .i64 0 ∧ wr = w) (fun _ _ _ => 0)
    case atStart => exact ⟨rfl, rfl, rfl⟩
    case round =>
      obtain ⟨rfl, rfl, rfl⟩ := hrel
      go_wp2_with fail
      go_ret
      exact ⟨rfl, rfl⟩
  · have hne : ¬ s.data.toList = [] := by intro c; apply h0; have := congrArg List.length c; simpa using this
    have HV0 : Hid (valG base 0 (s.data.toList.drop 0) = v) := Lib.hid (by rw [← hv]; unfold valV; rw [if_neg hne, List.drop_zero])
    clear hv hne
    rcases hb with ⟨rfl, rfl⟩ | ⟨rfl, rfl⟩
    · skip
      go_enter Tryz.func37, Tryz.ntmps37
      go_wp2_with fail
      go_loopw [5, 6] (fun n i wr => ∃ (k : Nat) (m : Int), k ≤ s.size ∧ i = .int .i64 k ∧ n = .int .i64 m ∧ 0 ≤ m ∧ m ≤ 20000000000000 ∧ Hid (valG 10 m (s.data.toList.drop k) = v) ∧ wr = w) (fun _ i _ => s.size - (intOf i).toNat)
      case atStart => exact ⟨0, 0, Nat.zero_le _, rfl, rfl, by omega, by omega, HV0.out, rfl⟩
      case round =>
        obtain ⟨k, m, hk, rfl, rfl, m0, m1, HV, rfl⟩ := hrel
        by_cases hlt : k < s.size
        · have hdr : s.data.toList.drop k = s[k] :: s.data.toList.drop (k + 1) := by rw [List.drop_eq_getElem_cons (by simpa using hlt)]; rfl
          obtain ⟨c, hc⟩ : ∃ c, s[k].toNat = c := ⟨_, rfl⟩
          have hc2 : c < 256 := by rw [← hc]; exact s[k].toNat_lt
          by_cases d1 : 48 ≤ c ∧ c ≤ 57
          · have hd : dV 10 s[k] = (c : Int) - 48 := by unfold dV; rw [hc, if_pos d1]
            obtain ⟨a1, a2⟩ := d1
            by_cases big : 1099511627776 < m
            · have p0 := big
              have HE : Hid ((-1 : Int) = v) := Lib.hid (by
                rw [← HV.out, hdr, valG_cons, hd, if_pos (by omega)])
              have w1 : IntKind.u8.wrap ((c : Int) - 48) = (c : Int) - 48 := IntWalk.u8_in _ (by constructor <;> omega)
              have w4 : IntKind.i64.wrap ((c : Int) - 48) = (c : Int) - 48 := IntWalk.i64_in _ (by constructor <;> omega)
              have t0 : decide ((c : Int) - 48 < 0) = false := decide_eq_false (by omega)
              clear hd hdr
              go_wp2_with fail
              go_ret
              exact ⟨ri HE.out, rfl⟩
            · have t2 : decide (1099511627776 < m) = false := decide_eq_false big
              have p3 : ¬ ((c : Int) - 48 < 0 ∨ 1099511627776 < m) := by omega
              have HN : Hid (valG 10 (m * 10 + ((c : Int) - 48)) (s.data.toList.drop (k + 1)) = v) := Lib.hid (by
                rw [← HV.out, hdr, valG_cons, hd, if_neg p3]
                rfl)
              have w2 : IntKind.i64.wrap (m * 10) = m * 10 := IntWalk.i64_in _ (by constructor <;> omega)
              have w3 : IntKind.i64.wrap (m * 10 + ((c : Int) - 48)) = m * 10 + ((c : Int) - 48) := IntWalk.i64_in _ (by constructor <;> omega)
              have w1 : IntKind.u8.wrap ((c : Int) - 48) = (c : Int) - 48 := IntWalk.u8_in _ (by constructor <;> omega)
              have w4 : IntKind.i64.wrap ((c : Int) - 48) = (c : Int) - 48 := IntWalk.i64_in _ (by constructor <;> omega)
              have t0 : decide ((c : Int) - 48 < 0) = false := decide_eq_false (by omega)
              clear hd hdr p3
              go_wp2_with fail
              go_roundw
              case rel => exact ⟨k + 1, m * 10 + ((c : Int) - 48), by omega, by go_num, by first | rfl | go_num, by omega, by omega, HN.out, by first | rfl | trivial⟩
              case measure => simp [intOf]; omega
          · have hd : dV 10 s[k] = -1 := by unfold dV; rw [hc, if_neg d1, if_neg (by omega)]
            rcases (show c < 48 ∨ (57 < c ∧ c < 97) ∨ (97 ≤ c ∧ c ≤ 102) ∨ 102 < c by omega) with d3 | ⟨d3, d4⟩ | ⟨d3, d4⟩ | d3
            all_goals
              clear d1
              have HE : Hid ((-1 : Int) = v) := Lib.hid (by
                rw [← HV.out, hdr, valG_cons, hd, if_pos (by omega)])
              clear hd hdr
              go_wp2_with fail
              go_ret
              exact ⟨ri HE.out, rfl⟩
        · obtain rfl : k = s.size := by omega
          have HE : Hid (m = v) := Lib.hid (by rw [← HV.out, List.drop_of_length_le (by simp)]; rfl)
          have hz : (s.toList == ([] : Bs)) = false := by rw [beq_eq_false_iff_ne, ByteArray.toList_eq]; intro c; apply h0; have := congrArg List.length c; simpa using this
          clear hlt
          go_wp2_with fail
          go_ret
          exact ⟨ri HE.out, rfl⟩
    · skip
      go_enter Tryz.func37, Tryz.ntmps37
      go_wp2_with fail
      go_loopw [5, 6] (fun n i wr => ∃ (k : Nat) (m : Int), k ≤ s.size ∧ i = .int .i64 k ∧ n = .int .i64 m ∧ 0 ≤ m ∧ m ≤ 20000000000000 ∧ Hid (valG 16 m (s.data.toList.drop k) = v) ∧ wr = w) (fun _ i _ => s.size - (intOf i).toNat)
      case atStart => exact ⟨0, 0, Nat.zero_le _, rfl, rfl, by omega, by omega, HV0.out, rfl⟩
      case round =>
        obtain ⟨k, m, hk, rfl, rfl, m0, m1, HV, rfl⟩ := hrel
        by_cases hlt : k < s.size
        · have hdr : s.data.toList.drop k = s[k] :: s.data.toList.drop (k + 1) := by rw [List.drop_eq_getElem_cons (by simpa using hlt)]; rfl
          obtain ⟨c, hc⟩ : ∃ c, s[k].toNat = c := ⟨_, rfl⟩
          have hc2 : c < 256 := by rw [← hc]; exact s[k].toNat_lt
          by_cases d1 : 48 ≤ c ∧ c ≤ 57
          · have hd : dV 16 s[k] = (c : Int) - 48 := by unfold dV; rw [hc, if_pos d1]
            obtain ⟨a1, a2⟩ := d1
            by_cases big : 1099511627776 < m
            · have p0 := big
              have HE : Hid ((-1 : Int) = v) := Lib.hid (by
                rw [← HV.out, hdr, valG_cons, hd, if_pos (by omega)])
              have w1 : IntKind.u8.wrap ((c : Int) - 48) = (c : Int) - 48 := IntWalk.u8_in _ (by constructor <;> omega)
              have w4 : IntKind.i64.wrap ((c : Int) - 48) = (c : Int) - 48 := IntWalk.i64_in _ (by constructor <;> omega)
              have t0 : decide ((c : Int) - 48 < 0) = false := decide_eq_false (by omega)
              clear hd hdr
              go_wp2_with fail
              go_ret
              exact ⟨ri HE.out, rfl⟩
            · have t2 : decide (1099511627776 < m) = false := decide_eq_false big
              have p3 : ¬ ((c : Int) - 48 < 0 ∨ 1099511627776 < m) := by omega
              have HN : Hid (valG 16 (m * 16 + ((c : Int) - 48)) (s.data.toList.drop (k + 1)) = v) := Lib.hid (by
                rw [← HV.out, hdr, valG_cons, hd, if_neg p3]
                rfl)
              have w2 : IntKind.i64.wrap (m * 16) = m * 16 := IntWalk.i64_in _ (by constructor <;> omega)
              have w3 : IntKind.i64.wrap (m * 16 + ((c : Int) - 48)) = m * 16 + ((c : Int) - 48) := IntWalk.i64_in _ (by constructor <;> omega)
              have w1 : IntKind.u8.wrap ((c : Int) - 48) = (c : Int) - 48 := IntWalk.u8_in _ (by constructor <;> omega)
              have w4 : IntKind.i64.wrap ((c : Int) - 48) = (c : Int) - 48 := IntWalk.i64_in _ (by constructor <;> omega)
              have t0 : decide ((c : Int) - 48 < 0) = false := decide_eq_false (by omega)
              clear hd hdr p3
              go_wp2_with fail
              go_roundw
              case rel => exact ⟨k + 1, m * 16 + ((c : Int) - 48), by omega, by go_num, by first | rfl | go_num, by omega, by omega, HN.out, by first | rfl | trivial⟩
              case measure => simp [intOf]; omega
          · by_cases d2 : 97 ≤ c ∧ c ≤ 102
            · have hd : dV 16 s[k] = (c : Int) - 87 := by unfold dV; rw [hc, if_neg d1, if_pos (by omega)]
              obtain ⟨a1, a2⟩ := d2
              clear d1
              have a3 : 57 < c := by omega
              by_cases big : 1099511627776 < m
              · have p0 := big
                have HE : Hid ((-1 : Int) = v) := Lib.hid (by
                  rw [← HV.out, hdr, valG_cons, hd, if_pos (by omega)])
                have w1 : IntKind.u8.wrap ((c : Int) - 97) = (c : Int) - 97 := IntWalk.u8_in _ (by constructor <;> omega)
                have w4 : IntKind.i64.wrap ((c : Int) - 97) = (c : Int) - 97 := IntWalk.i64_in _ (by constructor <;> omega)
                have w5 : IntKind.i64.wrap ((c : Int) - 97 + 10) = (c : Int) - 87 := by rw [IntWalk.i64_in _ (by constructor <;> omega)]; omega
                have t0 : decide ((c : Int) - 87 < 0) = false := decide_eq_false (by omega)
                clear hd hdr
                go_wp2_with fail
                go_ret
                exact ⟨ri HE.out, rfl⟩
              · have t2 : decide (1099511627776 < m) = false := decide_eq_false big
                have p3 : ¬ ((c : Int) - 87 < 0 ∨ 1099511627776 < m) := by omega
                have HN : Hid (valG 16 (m * 16 + ((c : Int) - 87)) (s.data.toList.drop (k + 1)) = v) := Lib.hid (by
                  rw [← HV.out, hdr, valG_cons, hd, if_neg p3]
                  rfl)
                have w2 : IntKind.i64.wrap (m * 16) = m * 16 := IntWalk.i64_in _ (by constructor <;> omega)
                have w3 : IntKind.i64.wrap (m * 16 + ((c : Int) - 87)) = m * 16 + ((c : Int) - 87) := IntWalk.i64_in _ (by constructor <;> omega)
                have w1 : IntKind.u8.wrap ((c : Int) - 97) = (c : Int) - 97 := IntWalk.u8_in _ (by constructor <;> omega)
                have w4 : IntKind.i64.wrap ((c : Int) - 97) = (c : Int) - 97 := IntWalk.i64_in _ (by constructor <;> omega)
                have w5 : IntKind.i64.wrap ((c : Int) - 97 + 10) = (c : Int) - 87 := by rw [IntWalk.i64_in _ (by constructor <;> omega)]; omega
                have t0 : decide ((c : Int) - 87 < 0) = false := decide_eq_false (by omega)
                clear hd hdr p3
                go_wp2_with fail
                go_roundw
                case rel => exact ⟨k + 1, m * 16 + ((c : Int) - 87), by omega, by go_num, by first | rfl | go_num, by omega, by omega, HN.out, by first | rfl | trivial⟩
                case measure => simp [intOf]; omega
            · have hd : dV 16 s[k] = -1 := by unfold dV; rw [hc, if_neg d1, if_neg (by omega)]
              rcases (show c < 48 ∨ (57 < c ∧ c < 97) ∨ 102 < c by omega) with d3 | ⟨d3, d4⟩ | d3
              all_goals
                clear d1 d2
                have HE : Hid ((-1 : Int) = v) := Lib.hid (by
                  rw [← HV.out, hdr, valG_cons, hd, if_pos (by omega)])
                clear hd hdr
                go_wp2_with fail
                go_ret
                exact ⟨ri HE.out, rfl⟩
        · obtain rfl : k = s.size := by omega
          have HE : Hid (m = v) := Lib.hid (by rw [← HV.out, List.drop_of_length_le (by simp)]; rfl)
          have hz : (s.toList == ([] : Bs)) = false := by rw [beq_eq_false_iff_ne, ByteArray.toList_eq]; intro c; apply h0; have := congrArg List.length c; simpa using this
          clear hlt
          go_wp2_with fail
          go_ret
          exact ⟨ri HE.out, rfl⟩
end Go.Proofs.YtbfmlbcjggplgaaGreatDoor
