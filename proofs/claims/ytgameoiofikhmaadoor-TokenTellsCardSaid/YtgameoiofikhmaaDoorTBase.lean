/- What package token asks of bytes, runs of bytes, and words. -/
import Derived.Test.YtgameoiofikhmaaDoorTRow
namespace Go.Proofs.YtgameoiofikhmaaDoor
open Go.RowKit Tk
set_option linter.unusedVariables false
theorem isDig_any (c : UInt8) (w : World) : Calls Tryd.prog 27 #[.int .u8 (c.toNat : Int)] w fun e w' => e = .returned (.bool (isDig c)) ∧ w = w' := by
  go_enter Tryd.func27, Tryd.ntmps27
  go_wp2
  all_goals go_ret
  all_goals refine ⟨rb ?_, rfl⟩
  all_goals (rw [Bool.eq_iff_iff]; simp only [isDig, decide_eq_true_eq, Bool.false_eq_true, false_iff]; omega)
theorem isDig_lit {c : UInt8} {b : Bool} (h : isDig c = b) (w : World) : Calls Tryd.prog 27 #[.int .u8 (c.toNat : Int)] w fun e w' => e = .returned (.bool b) ∧ w = w' := by
  subst h
  exact isDig_any c w
theorem isLet_any (c : UInt8) (w : World) : Calls Tryd.prog 39 #[.int .u8 (c.toNat : Int)] w fun e w' => e = .returned (.bool (isLet c)) ∧ w = w' := by
  go_enter Tryd.func39, Tryd.ntmps39
  go_wp2
  all_goals go_ret
  all_goals refine ⟨rb ?_, rfl⟩
  all_goals (rw [Bool.eq_iff_iff]; simp [isLet]; try omega)
theorem isLet_lit {c : UInt8} {b : Bool} (h : isLet c = b) (w : World) : Calls Tryd.prog 39 #[.int .u8 (c.toNat : Int)] w fun e w' => e = .returned (.bool b) ∧ w = w' := by
  subst h
  exact isLet_any c w
def runFrom (s : ByteArray) (k : Nat) : Nat := runLen (s.data.toList.drop k)
theorem drop_cons (s : ByteArray) (k : Nat) (h : k < s.size) : s.data.toList.drop k = s[k] :: s.data.toList.drop (k + 1) := by
  rw [List.drop_eq_getElem_cons (by simpa using h)]
  rfl
theorem runFrom_yes (s : ByteArray) (k : Nat) (h : k < s.size) (hc : isRun s[k] = true) : runFrom s k = runFrom s (k + 1) + 1 := by
  unfold runFrom runLen
  rw [drop_cons s k h, List.takeWhile_cons, if_pos hc, List.length_cons]
theorem runFrom_no (s : ByteArray) (k : Nat) (h : k < s.size) (hc : isRun s[k] = false) : runFrom s k = 0 := by
  unfold runFrom runLen
  rw [drop_cons s k h, List.takeWhile_cons, if_neg (by rw [hc]; exact Bool.false_ne_true)]
  rfl
theorem runFrom_end (s : ByteArray) (k : Nat) (h : s.size ≤ k) : runFrom s k = 0 := by
  unfold runFrom runLen
  rw [List.drop_eq_nil_of_le (by simpa using h)]
  rfl
set_option maxHeartbeats 1000000 in
theorem runLength_lit {s : ByteArray} {r : Nat} (hr : runLen s.data.toList = r) (hs : s.size ≤ maxLen) (w : World) :
    Calls Tryd.prog 28 #[.string s] w fun e w' => e = .returned (.int .i64 r) ∧ w = w' := by
  unfold maxLen at hs
  have hr0 : runFrom s 0 = r := hr
  have HR := Lib.hid hr0
  clear hr hr0
  go_enter Tryd.func28, Tryd.ntmps28
  go_wp2
  go_loop [3] (fun i => ∃ k : Nat, k ≤ s.size ∧ i = .int .i64 k ∧ Hid (k + runFrom s k = r)) (fun i => s.size - (intOf i).toNat)
  case atStart => exact ⟨0, Nat.zero_le _, rfl, by rw [← HR.out]; exact Nat.zero_add _⟩
  case round =>
    obtain ⟨k, hk, rfl, HA⟩ := hrel
    by_cases hlt : k < s.size
    · cases hl : isLet s[k] with
      | true =>
        have hy := runFrom_yes s k hlt (by unfold isRun; rw [hl]; rfl)
        have HY := Lib.hid hy
        have HL := Lib.hid hl
        clear hy hl
        go_wp2_with (go_at_call 39; ((with_reducible refine (isLet_lit HL.out _).mono ?_); rintro e w' ⟨rfl, rfl⟩))
        go_round
        case rel => exact ⟨k + 1, by omega, by go_num, by have h1 := HA.out; have h2 := HY.out; exact Lib.hid (by omega)⟩
        case measure => simp [intOf]; omega
      | false =>
        cases hd : isDig s[k] with
        | true =>
          have hy := runFrom_yes s k hlt (by unfold isRun; rw [hd, Bool.or_true])
          have HY := Lib.hid hy
          have HL := Lib.hid hl
          have HD := Lib.hid hd
          clear hy hl hd
          go_wp2_with (first | (go_at_call 39; ((with_reducible refine (isLet_lit HL.out _).mono ?_); rintro e w' ⟨rfl, rfl⟩)) | (go_at_call 27; ((with_reducible refine (isDig_lit HD.out _).mono ?_); rintro e w' ⟨rfl, rfl⟩)))
          go_round
          case rel => exact ⟨k + 1, by omega, by go_num, by have h1 := HA.out; have h2 := HY.out; exact Lib.hid (by omega)⟩
          case measure => simp [intOf]; omega
        | false =>
          have hy := runFrom_no s k hlt (by unfold isRun; rw [hd, hl]; rfl)
          have HY := Lib.hid hy
          have HL := Lib.hid hl
          have HD := Lib.hid hd
          clear hy hl hd
          go_wp2_with (first | (go_at_call 39; ((with_reducible refine (isLet_lit HL.out _).mono ?_); rintro e w' ⟨rfl, rfl⟩)) | (go_at_call 27; ((with_reducible refine (isDig_lit HD.out _).mono ?_); rintro e w' ⟨rfl, rfl⟩)))
          go_ret
          exact ⟨ri (by have h1 := HA.out; have h2 := HY.out; omega), rfl⟩
    · have hy := runFrom_end s k (by omega)
      have HY := Lib.hid hy
      clear hy
      go_wp2
      go_ret
      exact ⟨ri (by have h1 := HA.out; have h2 := HY.out; omega), rfl⟩
/-- which of the words a text is -/
theorem word_cases (s : ByteArray) (P : Prop) (h : ∀ b, isWord s.data.toList = b → P) : P := h _ rfl
theorem eqs_lit (s : ByteArray) (l : Bs) : (s.toList == l) = (l == s.data.toList) := by
  rw [ByteArray.toList_eq, Bool.eq_iff_iff, beq_iff_eq, beq_iff_eq]
  exact eq_comm
set_option maxHeartbeats 4000000 in
theorem word_any (s : ByteArray) (w : World) :
    Calls Tryd.prog 15 #[.string s] w fun e w' => e = .returned (.bool (isWord s.data.toList)) ∧ w = w' := by
  have e : isWord s.data.toList = (s.toList == [104, 97, 114, 116, 115] || (s.toList == [100, 101, 118, 105, 99, 101] || (s.toList == [117, 97, 114, 116] || (s.toList == [116, 105, 109, 101, 114] || (s.toList == [103, 112, 105, 111] || (s.toList == [114, 101, 115, 111, 117, 114, 99, 101] || (s.toList == [116, 97, 115, 107] || (s.toList == [104, 97, 110, 100, 108, 101, 114] || (s.toList == [108, 111, 99, 107] || (s.toList == [105, 102] || (s.toList == [101, 108, 115, 101] || (s.toList == [114, 101, 112, 101, 97, 116] || s.toList == [104, 97, 108, 116])))))))))))) := by
    simp only [eqs_lit]
    simp only [isWord, words, List.any_cons, List.any_nil, Bool.or_false]
  rw [e]
  clear e
  go_enter Tryd.func15, Tryd.ntmps15
  go_wp2
  all_goals go_ret
  all_goals first | (exfalso; simp_all; done) | (refine ⟨rb ?_, rfl⟩; simp [*])
theorem word_lit {s : ByteArray} {b : Bool} (h : isWord s.data.toList = b) (w : World) : Calls Tryd.prog 15 #[.string s] w fun e w' => e = .returned (.bool b) ∧ w = w' := by
  subst h
  exact word_any s w
end Go.Proofs.YtgameoiofikhmaaDoor
