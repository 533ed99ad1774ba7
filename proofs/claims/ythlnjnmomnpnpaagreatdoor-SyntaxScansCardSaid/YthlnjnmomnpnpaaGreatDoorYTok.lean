/- What package token asks of bytes, runs of bytes, words and names. -/
import Derived.Test.YthlnjnmomnpnpaaGreatDoorYBase
namespace Go.Proofs.YthlnjnmomnpnpaaGreatDoor
open Go.RowKit Tk
set_option linter.unusedVariables false
theorem isDig_any (c : UInt8) (w : World) : Calls Tryz.prog 87 #[.int .u8 (c.toNat : Int)] w fun e w' => e = .returned (.bool (isDig c)) ∧ w = w' := by
  go_enter Tryz.func87, Tryz.ntmps87
  go_wp2
  all_goals go_ret
  all_goals refine ⟨rb ?_, rfl⟩
  all_goals (rw [Bool.eq_iff_iff]; simp only [isDig, decide_eq_true_eq, Bool.false_eq_true, false_iff]; omega)
theorem isDig_lit {c : UInt8} {b : Bool} (h : isDig c = b) (w : World) : Calls Tryz.prog 87 #[.int .u8 (c.toNat : Int)] w fun e w' => e = .returned (.bool b) ∧ w = w' := by
  subst h
  exact isDig_any c w
theorem isLet_any (c : UInt8) (w : World) : Calls Tryz.prog 86 #[.int .u8 (c.toNat : Int)] w fun e w' => e = .returned (.bool (isLet c)) ∧ w = w' := by
  go_enter Tryz.func86, Tryz.ntmps86
  go_wp2
  all_goals go_ret
  all_goals refine ⟨rb ?_, rfl⟩
  all_goals (rw [Bool.eq_iff_iff]; simp [isLet]; try omega)
theorem isLet_lit {c : UInt8} {b : Bool} (h : isLet c = b) (w : World) : Calls Tryz.prog 86 #[.int .u8 (c.toNat : Int)] w fun e w' => e = .returned (.bool b) ∧ w = w' := by
  subst h
  exact isLet_any c w
def runFrom (s : ByteArray) (k : Nat) : Nat := runLen (s.data.toList.drop k)
theorem drop_cons (s : ByteArray) (k : Nat) (h : k < s.size) : s.data.toList.drop k = s[k] :: s.data.toList.drop (k + 1) := by
  rw [List.drop_eq_getElem_cons (by simpa using h)]
  rfl
theorem runFrom_yes (s : ByteArray) (k : Nat) (h : k < s.size) (hc : isRun s[k] = true) : runFrom s k = runFrom s (k + 1) + 1 := by
  unfold runFrom runLen
  rw [drop_cons s k h, List.takeWhile_cons, if_pos hc, List.length_cons]
theorem runFrom_no (s : ByteArray) (k : Nat) (h : k < s.size) (hc : isRun s[k] = false) : runFrom s k = 0 := by
  unfold runFrom runLen
  rw [drop_cons s k h, List.takeWhile_cons, if_neg (by rw [hc]; exact Bool.false_ne_true)]
  rfl
theorem runFrom_end (s : ByteArray) (k : Nat) (h : s.size ≤ k) : runFrom s k = 0 := by
  unfold runFrom runLen
  rw [List.drop_eq_nil_of_le (by simpa using h)]
  rfl
set_option maxHeartbeats 1000000 in
theorem runLength_lit {s : ByteArray} {r : Nat} (hr : runLen s.data.toList = r) (hs : s.size ≤ maxLen) (w : World) :
    Calls Tryz.prog 51 #[.string s] w fun e w' => e = .returned (.int .i64 r) ∧ w = w' := by
  unfold maxLen at hs
  have hr0 : runFrom s 0 = r := hr
  have HR := Lib.hid hr0
  clear hr hr0
  go_enter Tryz.func51, Tryz.ntmps51
  go_wp2
  go_loop [3] (fun i => ∃ k : Nat, k ≤ s.size ∧ i = .int .i64 k ∧ Hid (k + runFrom s k = r)) (fun i => s.size - (intOf i).toNat)
  case atStart => exact ⟨0, Nat.zero_le _, rfl, by rw [← HR.out]; exact Nat.zero_add _⟩
  case round =>
    obtain ⟨k, hk, rfl, HA⟩ := hrel
    by_cases hlt : k < s.size
    · cases hl : isLet s[k] with
      | true =>
        have hy := runFrom_yes s k hlt (by unfold isRun; rw [hl]; rfl)
        have HY := Lib.hid hy
        have HL := Lib.hid hl
        clear hy hl
        go_wp2_with (go_at_call 86; ((with_reducible refine (isLet_lit HL.out _).mono ?_); rintro e w' ⟨rfl, rfl⟩))
        go_round
        case rel => exact ⟨k + 1, by omega, by go_num, by have h1 := HA.out; have h2 := HY.out; exact Lib.hid (by omega)⟩
        case measure => simp [intOf]; omega
      | false =>
        cases hd : isDig s[k] with
        | true =>
          have hy := runFrom_yes s k hlt (by unfold isRun; rw [hd, Bool.or_true])
          have HY := Lib.hid hy
          have HL := Lib.hid hl
          have HD := Lib.hid hd
          clear hy hl hd
          go_wp2_with (first | (go_at_call 86; ((with_reducible refine (isLet_lit HL.out _).mono ?_); rintro e w' ⟨rfl, rfl⟩)) | (go_at_call 87; ((with_reducible refine (isDig_lit HD.out _).mono ?_); rintro e w' ⟨rfl, rfl⟩)))
          go_round
          case rel => exact ⟨k + 1, by omega, by go_num, by have h1 := HA.out; have h2 := HY.out; exact Lib.hid (by omega)⟩
          case measure => simp [intOf]; omega
        | false =>
          have hy := runFrom_no s k hlt (by unfold isRun; rw [hd, hl]; rfl)
          have HY := Lib.hid hy
          have HL := Lib.hid hl
          have HD := Lib.hid hd
          clear hy hl hd
          go_wp2_with (first | (go_at_call 86; ((with_reducible refine (isLet_lit HL.out _).mono ?_); rintro e w' ⟨rfl, rfl⟩)) | (go_at_call 87; ((with_reducible refine (isDig_lit HD.out _).mono ?_); rintro e w' ⟨rfl, rfl⟩)))
          go_ret
          exact ⟨ri (by have h1 := HA.out; have h2 := HY.out; omega), rfl⟩
    · have hy := runFrom_end s k (by omega)
      have HY := Lib.hid hy
      clear hy
      go_wp2
      go_ret
      exact ⟨ri (by have h1 := HA.out; have h2 := HY.out; omega), rfl⟩
/-- which of the words a text is -/
theorem word_cases (s : ByteArray) (P : Prop) (h : ∀ b, isWord s.data.toList = b → P) : P := h _ rfl
theorem eqs_lit (s : ByteArray) (l : Bs) : (s.toList == l) = (l == s.data.toList) := by
  rw [ByteArray.toList_eq, Bool.eq_iff_iff, beq_iff_eq, beq_iff_eq]
  exact eq_comm
set_option maxHeartbeats 4000000 in
theorem word_any (s : ByteArray) (w : World) :
    Calls Tryz.prog 90 #[.string s] w fun e w' => e = .returned (.bool (isWord s.data.toList)) ∧ w = w' := by
  have e : isWord s.data.toList = (s.toList == [104, 97, 114, 116, 115] || (s.toList == [100, 101, 118, 105, 99, 101] || (s.toList == [117, 97, 114, 116] || (s.toList == [116, 105, 109, 101, 114] || (s.toList == [103, 112, 105, 111] || (s.toList == [114, 101, 115, 111, 117, 114, 99, 101] || (s.toList == [116, 97, 115, 107] || (s.toList == [104, 97, 110, 100, 108, 101, 114] || (s.toList == [108, 111, 99, 107] || (s.toList == [105, 102] || (s.toList == [101, 108, 115, 101] || (s.toList == [114, 101, 112, 101, 97, 116] || s.toList == [104, 97, 108, 116])))))))))))) := by
    simp only [eqs_lit]
    simp only [isWord, words, List.any_cons, List.any_nil, Bool.or_false]
  rw [e]
  clear e
  go_enter Tryz.func90, Tryz.ntmps90
  go_wp2
  all_goals go_ret
  all_goals first | (exfalso; simp_all; done) | (refine ⟨rb ?_, rfl⟩; simp [*])
theorem word_lit {s : ByteArray} {b : Bool} (h : isWord s.data.toList = b) (w : World) : Calls Tryz.prog 90 #[.string s] w fun e w' => e = .returned (.bool b) ∧ w = w' := by
  subst h
  exact word_any s w
theorem runLen_le (s : Bs) : runLen s ≤ s.length := (List.takeWhile_prefix _).length_le
theorem takeWhile_yes {p : UInt8 → Bool} {s : Bs} {c : UInt8} (h : c ∈ s.takeWhile p) : p c = true := by
  induction s with
  | nil => cases h
  | cons d t ih =>
    rw [List.takeWhile_cons] at h
    split at h
    · rcases List.mem_cons.1 h with rfl | h
      · assumption
      · exact ih h
    · cases h
theorem runLen_all {s : Bs} (h : ∀ c ∈ s, isRun c = true) : runLen s = s.length := by
  unfold runLen
  induction s with
  | nil => rfl
  | cons c s ih =>
    rw [List.takeWhile_cons, if_pos (h c List.mem_cons_self), List.length_cons, List.length_cons, ih fun x hx => h x (List.mem_cons_of_mem _ hx)]
theorem runLen_eq (s : Bs) : (runLen s = s.length) ↔ s.all isRun = true := by
  constructor
  · intro h
    rw [List.all_eq_true]
    have h1 : s.takeWhile isRun = s := (List.takeWhile_prefix _).eq_of_length h
    intro c hc
    rw [← h1] at hc
    exact takeWhile_yes hc
  · intro h
    exact runLen_all (List.all_eq_true.1 h)
theorem headDig_get (s : ByteArray) (h : 0 < s.size) : headDig s.data.toList = isDig s[0] := by
  have := drop_cons s 0 h
  rw [List.drop_zero] at this
  rw [this]
  rfl
theorem isEmpty_no {s : ByteArray} (h : 0 < s.size) : s.toList.isEmpty = false := by
  rw [ByteArray.toList_eq]
  cases hs : s.data.toList with
  | nil => have := size_list s; rw [hs] at this; simp at this; omega
  | cons c t => rfl
theorem toList_no {s : ByteArray} (h : 0 < s.size) : ¬ s.toList = [] := by
  intro c
  have := isEmpty_no h
  rw [c] at this
  cases this
theorem empty_of_size {s : ByteArray} (h : s.size = 0) : s = ⟨#[]⟩ := by
  obtain ⟨x⟩ := s
  have : x.size = 0 := h
  rw [Array.size_eq_zero_iff] at this
  rw [this]
set_option maxHeartbeats 1000000 in
theorem name_any (s : ByteArray) (hs : s.size ≤ maxLen) (w : World) :
    Calls Tryz.prog 62 #[.string s] w fun e w' => e = .returned (.bool (isName s.data.toList)) ∧ w = w' := by
  by_cases h0 : s.size = 0
  · obtain rfl := empty_of_size h0
    clear h0 hs
    show Calls _ _ _ w fun e w' => e = .returned (.bool false) ∧ w = w'
    go_enter Tryz.func62, Tryz.ntmps62
    go_wp2
    go_ret
    exact ⟨rfl, rfl⟩
  have hp : 0 < s.size := by omega
  have e1 := isEmpty_no hp
  have e2 := toList_no hp
  by_cases h20 : 20 < s.size
  · have e : isName s.data.toList = false := by
      unfold isName
      rw [size_list, decide_eq_false (by omega)]
      rfl
    rw [e]
    clear e h0
    go_enter Tryz.func62, Tryz.ntmps62
    go_wp2
    go_ret
    exact ⟨rfl, rfl⟩
  have eN : isName s.data.toList = (!isDig s[0] && decide (runLen s.data.toList = s.size) && !isWord s.data.toList) := by
    unfold isName
    rw [size_list, decide_eq_true (show 1 ≤ s.size ∧ s.size ≤ 20 by omega), headDig_get s hp]
    have := runLen_eq s.data.toList
    rw [size_list] at this
    rw [show decide (runLen s.data.toList = s.size) = s.data.toList.all isRun by rw [Bool.eq_iff_iff, decide_eq_true_eq]; exact this]
    rfl
  rw [eN]
  clear eN h0
  cases hd : isDig s[0] with
  | true =>
    have HD := Lib.hid hd
    clear hd
    go_enter Tryz.func62, Tryz.ntmps62
    go_wp2_with (go_at_call 87; ((with_reducible refine (isDig_lit HD.out _).mono ?_); rintro e w' ⟨rfl, rfl⟩))
    go_ret
    exact ⟨rfl, rfl⟩
  | false =>
    have HD := Lib.hid hd
    clear hd
    obtain ⟨r, hr⟩ : ∃ r, runLen s.data.toList = r := ⟨_, rfl⟩
    obtain ⟨b, hb⟩ : ∃ b, isWord s.data.toList = b := ⟨_, rfl⟩
    rw [hr, hb]
    have HR := Lib.hid hr
    have HB := Lib.hid hb
    clear hr hb
    by_cases hrs : r = s.size
    · rw [decide_eq_true hrs]
      have hb1 : ((r : Int) == (s.size : Int)) = true := by simp [hrs]
      have HRS := Lib.hid hrs
      subst hrs
      go_enter Tryz.func62, Tryz.ntmps62
      go_wp2_with (first | (go_at_call 87; ((with_reducible refine (isDig_lit HD.out _).mono ?_); rintro e w' ⟨rfl, rfl⟩)) | (go_at_call 51; ((with_reducible refine (runLength_lit HR.out hs _).mono ?_); rintro e w' ⟨rfl, rfl⟩)) | (go_at_call 90; ((with_reducible refine (word_lit HB.out _).mono ?_); rintro e w' ⟨rfl, rfl⟩)))
      go_ret
      exact ⟨rb (by simp), rfl⟩
    · rw [decide_eq_false hrs]
      have hb1 : ((r : Int) == (s.size : Int)) = false := by simp; omega
      go_enter Tryz.func62, Tryz.ntmps62
      go_wp2_with (first | (go_at_call 87; ((with_reducible refine (isDig_lit HD.out _).mono ?_); rintro e w' ⟨rfl, rfl⟩)) | (go_at_call 51; ((with_reducible refine (runLength_lit HR.out hs _).mono ?_); rintro e w' ⟨rfl, rfl⟩)) | (go_at_call 90; ((with_reducible refine (word_lit HB.out _).mono ?_); rintro e w' ⟨rfl, rfl⟩)))
      go_ret
      exact ⟨rb (by simp), rfl⟩
theorem name_lit {s : ByteArray} {b : Bool} (h : isName s.data.toList = b) (hs : s.size ≤ maxLen) (w : World) :
    Calls Tryz.prog 62 #[.string s] w fun e w' => e = .returned (.bool b) ∧ w = w' := by
  subst h
  exact name_any s hs w
end Go.Proofs.YthlnjnmomnpnpaaGreatDoor
