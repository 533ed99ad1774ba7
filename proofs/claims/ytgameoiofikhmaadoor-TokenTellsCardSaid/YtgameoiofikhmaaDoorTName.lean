/- Which texts are names, and which numbers are told, as package token asks. -/
import Derived.Test.YtgameoiofikhmaaDoorTBase
namespace Go.Proofs.YtgameoiofikhmaaDoor
open Go.RowKit Tk
set_option linter.unusedVariables false
theorem runLen_le (s : Bs) : runLen s ≤ s.length := (List.takeWhile_prefix _).length_le
theorem takeWhile_yes {p : UInt8 → Bool} {s : Bs} {c : UInt8} (h : c ∈ s.takeWhile p) : p c = true := by
  induction s with
  | nil => cases h
  | cons d t ih =>
    rw [List.takeWhile_cons] at h
    split at h
    · rcases List.mem_cons.1 h with rfl | h
      · assumption
      · exact ih h
    · cases h
theorem runLen_eq (s : Bs) : (runLen s = s.length) ↔ s.all isRun = true := by
  constructor
  · intro h
    rw [List.all_eq_true]
    have h1 : s.takeWhile isRun = s := (List.takeWhile_prefix _).eq_of_length h
    intro c hc
    rw [← h1] at hc
    exact takeWhile_yes hc
  · intro h
    exact runLen_all (List.all_eq_true.1 h)
theorem size_list (s : ByteArray) : s.data.toList.length = s.size := by simp
theorem headDig_get (s : ByteArray) (h : 0 < s.size) : headDig s.data.toList = isDig s[0] := by
  have := drop_cons s 0 h
  rw [List.drop_zero] at this
  rw [this]
  rfl
theorem isEmpty_no {s : ByteArray} (h : 0 < s.size) : s.toList.isEmpty = false := by
  rw [ByteArray.toList_eq]
  cases hs : s.data.toList with
  | nil => have := size_list s; rw [hs] at this; simp at this; omega
  | cons c t => rfl
theorem toList_no {s : ByteArray} (h : 0 < s.size) : ¬ s.toList = [] := by
  intro c
  have := isEmpty_no h
  rw [c] at this
  cases this
theorem empty_of_size {s : ByteArray} (h : s.size = 0) : s = ⟨#[]⟩ := by
  obtain ⟨x⟩ := s
  have : x.size = 0 := h
  rw [Array.size_eq_zero_iff] at this
  rw [this]
set_option maxHeartbeats 1000000 in
theorem name_any (s : ByteArray) (hs : s.size ≤ maxLen) (w : World) :
    Calls Tryd.prog 13 #[.string s] w fun e w' => e = .returned (.bool (isName s.data.toList)) ∧ w = w' := by
  by_cases h0 : s.size = 0
  · obtain rfl := empty_of_size h0
    clear h0 hs
    show Calls _ _ _ w fun e w' => e = .returned (.bool false) ∧ w = w'
    go_enter Tryd.func13, Tryd.ntmps13
    go_wp2
    go_ret
    exact ⟨rfl, rfl⟩
  have hp : 0 < s.size := by omega
  have e1 := isEmpty_no hp
  have e2 := toList_no hp
  by_cases h20 : 20 < s.size
  · have e : isName s.data.toList = false := by
      unfold isName
      rw [size_list, decide_eq_false (by omega)]
      rfl
    rw [e]
    clear e h0
    go_enter Tryd.func13, Tryd.ntmps13
    go_wp2
    go_ret
    exact ⟨rfl, rfl⟩
  have eN : isName s.data.toList = (!isDig s[0] && decide (runLen s.data.toList = s.size) && !isWord s.data.toList) := by
    unfold isName
    rw [size_list, decide_eq_true (show 1 ≤ s.size ∧ s.size ≤ 20 by omega), headDig_get s hp]
    have := runLen_eq s.data.toList
    rw [size_list] at this
    rw [show decide (runLen s.data.toList = s.size) = s.data.toList.all isRun by rw [Bool.eq_iff_iff, decide_eq_true_eq]; exact this]
    rfl
  rw [eN]
  clear eN h0
  cases hd : isDig s[0] with
  | true =>
    have HD := Lib.hid hd
    clear hd
    go_enter Tryd.func13, Tryd.ntmps13
    go_wp2_with (go_at_call 27; ((with_reducible refine (isDig_lit HD.out _).mono ?_); rintro e w' ⟨rfl, rfl⟩))
    go_ret
    exact ⟨rfl, rfl⟩
  | false =>
    have HD := Lib.hid hd
    clear hd
    obtain ⟨r, hr⟩ : ∃ r, runLen s.data.toList = r := ⟨_, rfl⟩
    obtain ⟨b, hb⟩ : ∃ b, isWord s.data.toList = b := ⟨_, rfl⟩
    rw [hr, hb]
    have HR := Lib.hid hr
    have HB := Lib.hid hb
    clear hr hb
    by_cases hrs : r = s.size
    · rw [decide_eq_true hrs]
      have hb1 : ((r : Int) == (s.size : Int)) = true := by simp [hrs]
      have HRS := Lib.hid hrs
      subst hrs
      go_enter Tryd.func13, Tryd.ntmps13
      go_wp2_with (first | (go_at_call 27; ((with_reducible refine (isDig_lit HD.out _).mono ?_); rintro e w' ⟨rfl, rfl⟩)) | (go_at_call 28; ((with_reducible refine (runLength_lit HR.out hs _).mono ?_); rintro e w' ⟨rfl, rfl⟩)) | (go_at_call 15; ((with_reducible refine (word_lit HB.out _).mono ?_); rintro e w' ⟨rfl, rfl⟩)))
      go_ret
      exact ⟨rb (by simp), rfl⟩
    · rw [decide_eq_false hrs]
      have hb1 : ((r : Int) == (s.size : Int)) = false := by simp; omega
      go_enter Tryd.func13, Tryd.ntmps13
      go_wp2_with (first | (go_at_call 27; ((with_reducible refine (isDig_lit HD.out _).mono ?_); rintro e w' ⟨rfl, rfl⟩)) | (go_at_call 28; ((with_reducible refine (runLength_lit HR.out hs _).mono ?_); rintro e w' ⟨rfl, rfl⟩)) | (go_at_call 15; ((with_reducible refine (word_lit HB.out _).mono ?_); rintro e w' ⟨rfl, rfl⟩)))
      go_ret
      exact ⟨rb (by simp), rfl⟩
theorem name_lit {s : ByteArray} {b : Bool} (h : isName s.data.toList = b) (hs : s.size ≤ maxLen) (w : World) :
    Calls Tryd.prog 13 #[.string s] w fun e w' => e = .returned (.bool b) ∧ w = w' := by
  subst h
  exact name_any s hs w
end Go.Proofs.YtgameoiofikhmaaDoor
