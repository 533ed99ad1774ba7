/- Which texts are numbers, and what is passed over at a text's head, as package token asks. -/
import Derived.Test.YtgameoiofikhmaaDoorTNum
namespace Go.Proofs.YtgameoiofikhmaaDoor
open Go.RowKit Tk
set_option linter.unusedVariables false
def numIs (s : Bs) (n : Nat) (b : Bool) : Prop := (number s).getD 0 = n ∧ (number s).isSome = b
theorem value_two {s : ByteArray} {base most n : Nat} {b : Bool} (h : (valueV s.data.toList base most).getD 0 = n ∧ (valueV s.data.toList base most).isSome = b) (hb : 1 ≤ base) (hb2 : base ≤ 16) (hm : most ≤ 10) (hs : s.size ≤ maxLen) (w : World) :
    Calls Tryd.prog 37 #[.string s, .int .i64 base, .int .i64 most] w fun e w' => e = .returned (.tuple #[.int .i64 n, .bool b]) ∧ w = w' := by
  obtain ⟨h1, h2⟩ := h
  subst h1
  subst h2
  exact value_lit rfl hb hb2 hm hs w
theorem value_16 {s : ByteArray} {n : Nat} {b : Bool} (h : (valueV s.data.toList 16 8).getD 0 = n ∧ (valueV s.data.toList 16 8).isSome = b) (hs : s.size ≤ maxLen) (w : World) :
    Calls Tryd.prog 37 #[.string s, .int .i64 16, .int .i64 8] w fun e w' => e = .returned (.tuple #[.int .i64 n, .bool b]) ∧ w = w' :=
  value_two (base := 16) (most := 8) h (by omega) (by omega) (by omega) hs w
theorem value_10 {s : ByteArray} {n : Nat} {b : Bool} (h : (valueV s.data.toList 10 10).getD 0 = n ∧ (valueV s.data.toList 10 10).isSome = b) (hs : s.size ≤ maxLen) (w : World) :
    Calls Tryd.prog 37 #[.string s, .int .i64 10, .int .i64 10] w fun e w' => e = .returned (.tuple #[.int .i64 n, .bool b]) ∧ w = w' :=
  value_two (base := 10) (most := 10) h (by omega) (by omega) (by omega) hs w
theorem head_get (s : ByteArray) (h : 0 < s.size) : s.data.toList.head? = some s[0] := by
  have := drop_cons s 0 h
  rw [List.drop_zero] at this
  rw [this]
  rfl
set_option maxHeartbeats 2000000 in
theorem number_lit {s : ByteArray} {n : Nat} {b : Bool} (h : numIs s.data.toList n b) (hs : s.size ≤ maxLen) (w : World) :
    Calls Tryd.prog 21 #[.string s] w fun e w' => e = .returned (.tuple #[.int .i64 n, .bool b]) ∧ w = w' := by
  unfold numIs number at h
  cases hp : ([48, 120] : Bs).isPrefixOf s.data.toList with
  | true =>
    simp only [hp, if_true] at h
    obtain ⟨t, ht⟩ : ∃ t, cutV s ⟨#[48, 120]⟩ = t := ⟨_, rfl⟩
    have hts : t.data.toList = s.data.toList.drop 2 ∧ t.size ≤ maxLen := by
      rw [← ht]
      unfold cutV
      rw [if_pos hp]
      refine ⟨rfl, ?_⟩
      rw [str_size, List.length_drop, size_list]
      omega
    rw [← hts.1] at h
    have H := Lib.hid h
    have HP := Lib.hid hp
    have HT := Lib.hid ht
    have HTS := Lib.hid hts.2
    clear h hp ht hts
    go_enter Tryd.func21, Tryd.ntmps21
    go_wp2_with (first | (go_at_call 34; ((with_reducible refine (cut_lit (p := ⟨#[48, 120]⟩) HP.out HT.out _).mono ?_); rintro e w' ⟨rfl, rfl⟩)) | (go_at_call 37; ((with_reducible refine (value_16 H.out HTS.out _).mono ?_); rintro e w' ⟨rfl, rfl⟩)))
    go_ret2
    exact ⟨rfl, rfl⟩
  | false =>
    simp only [hp, Bool.false_eq_true, if_false] at h
    have ht : cutV s ⟨#[48, 120]⟩ = s := by
      unfold cutV
      rw [if_neg (by show ¬ ([48, 120] : Bs).isPrefixOf s.data.toList = true; rw [hp]; exact Bool.false_ne_true)]
    have HP := Lib.hid hp
    have HT := Lib.hid ht
    clear hp ht
    by_cases h1 : 1 < s.size
    · have hp0 : 0 < s.size := by omega
      rw [size_list, head_get s hp0] at h
      by_cases h48 : s[0].toNat = 48
      · have e48 : s[0] = 48 := UInt8.toNat_inj.1 h48
        rw [if_pos ⟨h1, by rw [e48]⟩] at h
        obtain ⟨rfl, rfl⟩ : 0 = n ∧ false = b := h
        have hb : ((s[0].toNat : Int) == 48) = true := by simp [h48]
        clear e48 h48
        go_enter Tryd.func21, Tryd.ntmps21
        go_wp2_with (first | (go_at_call 34; ((with_reducible refine (cut_lit (p := ⟨#[48, 120]⟩) HP.out HT.out _).mono ?_); rintro e w' ⟨rfl, rfl⟩)))
        go_ret2
        exact ⟨rfl, rfl⟩
      · rw [if_neg (fun c => h48 (by have := c.2; simp only [Option.some.injEq] at this; rw [this]; rfl))] at h
        have hb : ((s[0].toNat : Int) == 48) = false := by simp; omega
        have H := Lib.hid h
        clear h h48
        go_enter Tryd.func21, Tryd.ntmps21
        go_wp2_with (first | (go_at_call 34; ((with_reducible refine (cut_lit (p := ⟨#[48, 120]⟩) HP.out HT.out _).mono ?_); rintro e w' ⟨rfl, rfl⟩)) | (go_at_call 37; ((with_reducible refine (value_10 H.out hs _).mono ?_); rintro e w' ⟨rfl, rfl⟩)))
        go_ret2
        exact ⟨rfl, rfl⟩
    · rw [size_list, if_neg (fun c => h1 c.1)] at h
      have H := Lib.hid h
      clear h
      go_enter Tryd.func21, Tryd.ntmps21
      go_wp2_with (first | (go_at_call 34; ((with_reducible refine (cut_lit (p := ⟨#[48, 120]⟩) HP.out HT.out _).mono ?_); rintro e w' ⟨rfl, rfl⟩)) | (go_at_call 37; ((with_reducible refine (value_10 H.out hs _).mono ?_); rintro e w' ⟨rfl, rfl⟩)))
      go_ret2
      exact ⟨rfl, rfl⟩
def upTo10 (l : Bs) : Nat := (l.takeWhile fun x => decide (x.toNat ≠ 10)).length
theorem upTo10_cons (c : UInt8) (l : Bs) : upTo10 (c :: l) = if c.toNat = 10 then 0 else upTo10 l + 1 := by
  unfold upTo10
  rw [List.takeWhile_cons]
  by_cases h : c.toNat = 10
  · rw [if_neg (by simp [h]), if_pos h]
    rfl
  · rw [if_pos (by simp [h]), if_neg h]
    rfl
theorem idx_feed (l : Bs) : Lib.indexByte l 10 = if upTo10 l < l.length then (upTo10 l : Int) else -1 := by
  induction l with
  | nil => rfl
  | cons c l ih =>
    unfold Lib.indexByte
    rw [ih, upTo10_cons, List.length_cons]
    by_cases h : c.toNat = 10
    · have hc : c = 10 := UInt8.toNat_inj.1 h
      subst hc
      rw [if_pos (by rfl), if_pos h, if_pos (by omega)]
      rfl
    · have hc : ¬ (c == 10) = true := by
        rw [beq_iff_eq]
        rintro rfl
        exact h rfl
      rw [if_neg hc, if_neg h]
      by_cases hl : upTo10 l < l.length
      · have e1 : (if upTo10 l < l.length then (upTo10 l : Int) else -1) = upTo10 l := if_pos hl
        have e2 : (if upTo10 l + 1 < l.length + 1 then ((upTo10 l + 1 : Nat) : Int) else -1) = ((upTo10 l + 1 : Nat) : Int) := if_pos (by omega)
        have e3 : ((upTo10 l : Int) == -1) = false := by rw [beq_eq_false_iff_ne]; omega
        rw [e1, e2, e3]
        simp
      · have e1 : (if upTo10 l < l.length then (upTo10 l : Int) else -1) = -1 := if_neg hl
        have e2 : (if upTo10 l + 1 < l.length + 1 then ((upTo10 l + 1 : Nat) : Int) else -1) = -1 := if_neg (by omega)
        rw [e1, e2]
        rfl
theorem upTo10_le (l : Bs) : upTo10 l ≤ l.length := (List.takeWhile_prefix _).length_le
theorem gap_note {c : UInt8} (l : Bs) (h : c.toNat = 35) : gap (c :: l) = upTo10 (c :: l) := by
  rw [upTo10_cons, if_neg (by omega)]
  show (if c.toNat = 32 ∨ c.toNat = 9 ∨ c.toNat = 10 then 1 else if c.toNat = 35 then 1 + upTo10 l else 0) = _
  rw [if_neg (by omega), if_pos h]
  omega
theorem gap_le (s : Bs) : gap s ≤ s.length := by
  cases s with
  | nil => exact Nat.le_refl _
  | cons c l =>
    show (if c.toNat = 32 ∨ c.toNat = 9 ∨ c.toNat = 10 then 1 else if c.toNat = 35 then 1 + upTo10 l else 0) ≤ l.length + 1
    have := upTo10_le l
    split
    · omega
    · split <;> omega
theorem cons_of (s : ByteArray) (h : 0 < s.size) : s.data.toList = s[0] :: s.data.toList.drop 1 := by
  have := drop_cons s 0 h
  rwa [List.drop_zero] at this
set_option maxHeartbeats 2000000 in
theorem gap_lit {s : ByteArray} {r : Nat} (h : gap s.data.toList = r) (hp : 0 < s.size) (hs : s.size ≤ maxLen) (w : World) :
    Calls Tryd.prog 31 #[.string s] w fun e w' => e = .returned (.int .i64 r) ∧ w = w' := by
  unfold maxLen at hs
  have hc := cons_of s hp
  by_cases h1 : s[0].toNat = 32 ∨ s[0].toNat = 9 ∨ s[0].toNat = 10
  · have e : r = 1 := by
      rw [← h, hc]
      exact if_pos h1
    subst e
    clear h hc
    rcases h1 with h1 | h1 | h1
    · have b32 : ((s[0].toNat : Int) == 32) = true := by simp [h1]
      have b9 : ((s[0].toNat : Int) == 9) = false := by simp [h1]
      have b10 : ((s[0].toNat : Int) == 10) = false := by simp [h1]
      clear h1
      go_enter Tryd.func31, Tryd.ntmps31
      go_wp2
      go_ret
      exact ⟨rfl, rfl⟩
    · have b32 : ((s[0].toNat : Int) == 32) = false := by simp [h1]
      have b9 : ((s[0].toNat : Int) == 9) = true := by simp [h1]
      have b10 : ((s[0].toNat : Int) == 10) = false := by simp [h1]
      clear h1
      go_enter Tryd.func31, Tryd.ntmps31
      go_wp2
      go_ret
      exact ⟨rfl, rfl⟩
    · have b32 : ((s[0].toNat : Int) == 32) = false := by simp [h1]
      have b9 : ((s[0].toNat : Int) == 9) = false := by simp [h1]
      have b10 : ((s[0].toNat : Int) == 10) = true := by simp [h1]
      clear h1
      go_enter Tryd.func31, Tryd.ntmps31
      go_wp2
      go_ret
      exact ⟨rfl, rfl⟩
  have b32 : ((s[0].toNat : Int) == 32) = false := by simp; omega
  have b9 : ((s[0].toNat : Int) == 9) = false := by simp; omega
  have b10 : ((s[0].toNat : Int) == 10) = false := by simp; omega
  by_cases h2 : s[0].toNat = 35
  · have b35 : ((s[0].toNat : Int) == 35) = true := by simp [h2]
    have hg : r = upTo10 s.data.toList := by
      rw [← h, hc]
      exact gap_note _ h2
    have hi := idx_feed s.data.toList
    rw [size_list, ← hg] at hi
    have hr : r ≤ s.size := by rw [hg, ← size_list]; exact upTo10_le _
    have hr1 : 1 ≤ r := by
      rw [hg, hc, upTo10_cons, if_neg (by omega)]
      omega
    by_cases hlt : r < s.size
    · rw [if_pos hlt] at hi
      have HI := Lib.hid hi
      clear h hc h1 h2 hg hi
      go_enter Tryd.func31, Tryd.ntmps31
      go_wp2_with (go_at_call 40; ((with_reducible refine (index_lit (c := 10) HI.out _).mono ?_); rintro e w' ⟨rfl, rfl⟩))
      go_ret
      exact ⟨rfl, rfl⟩
    · rw [if_neg hlt] at hi
      have HI := Lib.hid hi
      have hrs : r = s.size := by omega
      subst hrs
      clear h hc h1 h2 hg hi
      go_enter Tryd.func31, Tryd.ntmps31
      go_wp2_with (go_at_call 40; ((with_reducible refine (index_lit (c := 10) HI.out _).mono ?_); rintro e w' ⟨rfl, rfl⟩))
      go_ret
      exact ⟨rfl, rfl⟩
  · have b35 : ((s[0].toNat : Int) == 35) = false := by simp; omega
    have e : r = 0 := by
      rw [← h, hc]
      show (if s[0].toNat = 32 ∨ s[0].toNat = 9 ∨ s[0].toNat = 10 then 1 else if s[0].toNat = 35 then 1 + upTo10 (s.data.toList.drop 1) else 0) = 0
      rw [if_neg h1, if_neg h2]
    subst e
    clear h hc h1 h2
    go_enter Tryd.func31, Tryd.ntmps31
    go_wp2
    go_ret
    exact ⟨rfl, rfl⟩
theorem count_feeds (l : Bs) : Lib.countByte l 10 = feeds l := by
  unfold Lib.countByte feeds
  induction l with
  | nil => rfl
  | cons c l ih =>
    rw [List.count_cons, List.filter_cons, ih]
    by_cases h : c.toNat = 10
    · have hc : c = 10 := UInt8.toNat_inj.1 h
      subst hc
      rfl
    · have hc : (c == 10) = false := by
        rw [beq_eq_false_iff_ne]
        rintro rfl
        exact h rfl
      have e : (if decide (c.toNat = 10) = true then c :: l.filter (fun x => decide (x.toNat = 10)) else l.filter (fun x => decide (x.toNat = 10))) = l.filter (fun x => decide (x.toNat = 10)) := if_neg (by simpa using h)
      rw [hc, e]
      rfl
end Go.Proofs.YtgameoiofikhmaaDoor
