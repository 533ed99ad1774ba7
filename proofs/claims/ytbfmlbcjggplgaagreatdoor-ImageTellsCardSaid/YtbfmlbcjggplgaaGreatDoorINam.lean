/- Names, words and places, as package image asks them. -/
import Derived.WalkKit
import Derived.Lib.Hide
import Derived.OwnWalk
import Derived.Test.YtbfmlbcjggplgaaGreatDoorProg
import Derived.Test.YtbfmlbcjggplgaaGreatDoorCBoth
import Derived.Test.YtbfmlbcjggplgaaGreatDoorIBase
namespace Go.Proofs.YtbfmlbcjggplgaaGreatDoor.Im
/-- may a text be a label? -/
def isLab (s : ByteArray) : Bool := decide (1 ≤ s.size ∧ s.size ≤ 40) && s.data.toList.all fun c => decide (33 ≤ c.toNat ∧ c.toNat ≤ 126)
def isWd (n : Int) : Bool := decide (0 ≤ n ∧ n ≤ 4294967295)
def isPl (n m : Int) : Bool := decide (0 ≤ n ∧ n ≤ 4 * m ∧ n % 4 = 0)
end Go.Proofs.YtbfmlbcjggplgaaGreatDoor.Im
namespace Go.Proofs.YtbfmlbcjggplgaaGreatDoor
open Go.RowKit Im
set_option linter.unusedVariables false


def okc (c : UInt8) : Bool := decide (33 ≤ c.toNat ∧ c.toNat ≤ 126)
def allTo (s : ByteArray) (k : Nat) : Bool := (s.data.toList.take k).all okc
theorem allTo_succ (s : ByteArray) (k : Nat) (h : k < s.size) : allTo s (k + 1) = (allTo s k && okc s[k]) := by
  unfold allTo
  rw [List.take_succ_eq_append_getElem (by simpa using h), List.all_append]
  simp
  rfl
theorem allTo_full (s : ByteArray) : allTo s s.size = s.data.toList.all okc := by
  unfold allTo
  rw [List.take_of_length_le (by simp)]
theorem allTo_no (s : ByteArray) (k : Nat) (h : k ≤ s.size) (hn : allTo s k = false) : s.data.toList.all okc = false := by
  unfold allTo at hn
  cases hf : s.data.toList.all okc with
  | false => rfl
  | true =>
    rw [List.all_eq_true] at hf
    have : (s.data.toList.take k).all okc = true := List.all_eq_true.2 fun c hc => hf c (List.mem_of_mem_take hc)
    rw [hn] at this
    cases this
set_option maxHeartbeats 1000000 in
theorem lab_any (s : ByteArray) (hs : s.size ≤ maxLen) (w : World) :
    Calls Tryz.prog 57 #[.string s] w fun e w' => e = .returned (.bool (isLab s)) ∧ w = w' := by
  unfold maxLen at hs
  by_cases h0 : s.size < 1
  · have e : isLab s = false := by unfold isLab; rw [decide_eq_false (by omega)]; rfl
    rw [e]
    go_enter Tryz.func57, Tryz.ntmps57
    go_wp2
    go_ret
    exact ⟨rfl, rfl⟩
  by_cases h1 : 40 < s.size
  · have e : isLab s = false := by unfold isLab; rw [decide_eq_false (by omega)]; rfl
    rw [e]
    go_enter Tryz.func57, Tryz.ntmps57
    go_wp2
    go_ret
    exact ⟨rfl, rfl⟩
  have he : isLab s = s.data.toList.all okc := by unfold isLab; rw [decide_eq_true (by omega)]; rfl
  have hf := allTo_full s
  have hn := allTo_no s
  rw [← he] at hf hn
  clear he
  generalize isLab s = r at hf hn ⊢
  have HF := Lib.hid hf
  have HN := Lib.hid hn
  clear hf hn
  go_enter Tryz.func57, Tryz.ntmps57
  go_wp2
  go_loop [14] (fun i => ∃ k : Nat, k ≤ s.size ∧ i = .int .i64 k ∧ Hid (allTo s k = true)) (fun i => s.size - (intOf i).toNat)
  case atStart => exact ⟨0, Nat.zero_le _, rfl, rfl⟩
  case round =>
    obtain ⟨k, hk, rfl, HA⟩ := hrel
    by_cases hlt : k < s.size
    · have hsn := allTo_succ s k hlt
      rw [HA.out, Bool.true_and] at hsn
      have HS := Lib.hid hsn
      clear hsn
      cases hc : okc s[k] with
      | true =>
        have hc' : 33 ≤ s[k].toNat ∧ s[k].toNat ≤ 126 := of_decide_eq_true hc
        have HC := Lib.hid hc
        obtain ⟨c1, c2⟩ := hc'
        clear hc
        go_wp2
        go_round
        case rel => exact ⟨k + 1, by omega, by go_num, HS.out.trans HC.out⟩
        case measure => simp [intOf]; omega
      | false =>
        have hc' : ¬ (33 ≤ s[k].toNat ∧ s[k].toNat ≤ 126) := of_decide_eq_false hc
        have HC := Lib.hid hc
        clear hc
        obtain rfl : r = false := HN.out (k + 1) hlt (HS.out.trans HC.out)
        rcases (show s[k].toNat < 33 ∨ 126 < s[k].toNat by omega) with h | h
        · clear hc'
          go_wp2
          go_ret
          exact ⟨rfl, rfl⟩
        · clear hc'
          go_wp2
          go_ret
          exact ⟨rfl, rfl⟩
    · go_wp2
      go_ret
      obtain rfl : k = s.size := by omega
      exact ⟨rb (HA.out.symm.trans HF.out), rfl⟩
theorem lab_lit {s : ByteArray} {b : Bool} (h : isLab s = b) (hs : s.size ≤ maxLen) (w : World) :
    Calls Tryz.prog 57 #[.string s] w fun e w' => e = .returned (.bool b) ∧ w = w' := by
  subst h
  exact lab_any s hs w
theorem eql_yes (k o d a b n m : Int) (s : ByteArray) (w : World) :
    (binOp .eql 75 (.agg #[.int .i64 k, .int .i64 o, .int .i64 d, .int .i64 a, .int .i64 b, .int .i64 n, .string s, .int .i64 m]) (.agg #[.int .i64 k, .int .i64 o, .int .i64 d, .int .i64 a, .int .i64 b, .int .i64 n, .string s, .int .i64 m])).run Tryz.prog w = .ok (.bool true) w := by
  go_simp
theorem bytes_list {s t : ByteArray} (h : s.toList = t.toList) : s = t := by
  rw [ByteArray.toList_eq, ByteArray.toList_eq] at h
  obtain ⟨⟨x⟩⟩ := s
  obtain ⟨⟨y⟩⟩ := t
  simp at h
  rw [h]
theorem eql_no (k o d a b n m k' o' d' a' b' n' m' : Int) (s s' : ByteArray) (hne : ¬ (k = k' ∧ o = o' ∧ d = d' ∧ a = a' ∧ b = b' ∧ n = n' ∧ s = s' ∧ m = m')) (w : World) :
    (binOp .eql 75 (.agg #[.int .i64 k, .int .i64 o, .int .i64 d, .int .i64 a, .int .i64 b, .int .i64 n, .string s, .int .i64 m]) (.agg #[.int .i64 k', .int .i64 o', .int .i64 d', .int .i64 a', .int .i64 b', .int .i64 n', .string s', .int .i64 m'])).run Tryz.prog w = .ok (.bool false) w := by
  go_simp
  intro h1 h2 h3 h4 h5 h6 h7 h8
  exact hne ⟨h1, h2, h3, h4, h5, h6, bytes_list h7, h8⟩
theorem empty_of_size {s : ByteArray} (h : s.size = 0) : s = ⟨#[]⟩ := by
  obtain ⟨x⟩ := s
  have : x.size = 0 := h
  rw [Array.size_eq_zero_iff] at this
  rw [this]
set_option maxHeartbeats 4000000 in
/-- label.Right of a label alone -/
theorem right_label {s : ByteArray} {r : Bool} (h : isLab s = r) (hs : s.size ≤ maxLen) (w : World) :
    Calls Tryz.prog 43 #[.agg #[.int .i64 2, .int .i64 0, .int .i64 0, .int .i64 0, .int .i64 0, .int .i64 0, .string s, .int .i64 0]] w fun e w' => e = .returned (.bool r) ∧ Both w w' := by
  have HR := Lib.hid h
  have hE := eql_yes 2 0 0 0 0 0 0 s
  clear h
  go_enter Tryz.func43, Tryz.ntmps43
  go_wp2_with (go_at_call 57; ((with_reducible refine (lab_lit HR.out hs _).mono ?_); rintro e w' ⟨rfl, rfl⟩))
  go_ret
  exact ⟨rfl, (Both.refl _).alloc _ _⟩
set_option maxHeartbeats 1000000 in
theorem isName_lit {s : ByteArray} {r : Bool} (h : isLab s = r) (hs : s.size ≤ maxLen) (w : World) : Calls Tryz.prog 26 #[.string s] w fun e w' => e = .returned (.bool r) ∧ Both w w' := by
  go_enter Tryz.func26, Tryz.ntmps26
  go_wp2_with fail
  refine (right_label h hs _).mono ?_
  rintro e w' ⟨rfl, hb⟩
  have HB := Lib.hid hb
  clear hb
  go_wp2_with fail
  go_ret
  exact ⟨rfl, HB.out⟩
set_option maxHeartbeats 1000000 in
theorem isWord_lit {n : Int} {r : Bool} (h : isWd n = r) (w : World) : Calls Tryz.prog 25 #[.int .i64 n] w fun e w' => e = .returned (.bool r) ∧ w = w' := by
  unfold isWd at h
  subst h
  by_cases h1 : 0 ≤ n
  · go_enter Tryz.func25, Tryz.ntmps25
    go_wp2
    go_ret
    exact ⟨rb (by simp [h1]), rfl⟩
  · have h2 : decide (0 ≤ n) = false := decide_eq_false h1
    go_enter Tryz.func25, Tryz.ntmps25
    go_wp2
    go_ret
    exact ⟨rb (by simp), rfl⟩
set_option maxHeartbeats 1000000 in
theorem isPlace_lit {n m : Int} {r : Bool} (hm : 0 ≤ m) (hm2 : m ≤ 1000000) (h : isPl n m = r) (w : World) : Calls Tryz.prog 27 #[.int .i64 n, .int .i64 m] w fun e w' => e = .returned (.bool r) ∧ w = w' := by
  unfold isPl at h
  subst h
  have vm : IntKind.i64.wrap (m * 4) = m * 4 := IntWalk.i64_in _ (by constructor <;> omega)
  by_cases h1 : 0 ≤ n
  · by_cases h2 : n ≤ m * 4
    · have ht : Int.tmod n 4 = n % 4 := Int.tmod_eq_emod_of_nonneg h1
      generalize hq : n % 4 = q at ht
      have hd : decide (0 ≤ n ∧ n ≤ 4 * m ∧ q = 0) = (q == 0) := by
        by_cases e : q = 0
        · rw [decide_eq_true ⟨h1, by omega, e⟩]; simp [e]
        · rw [decide_eq_false (fun c => e c.2.2)]; simp [e]
      rw [hd]
      clear hq hd
      go_enter Tryz.func27, Tryz.ntmps27
      go_wp2
      go_ret
      exact ⟨rfl, rfl⟩
    · have h3 : decide (n ≤ m * 4) = false := decide_eq_false h2
      rw [decide_eq_false (show ¬ (0 ≤ n ∧ n ≤ 4 * m ∧ n % 4 = 0) by omega)]
      go_enter Tryz.func27, Tryz.ntmps27
      go_wp2
      go_ret
      exact ⟨rfl, rfl⟩
  · have h3 : decide (0 ≤ n) = false := decide_eq_false h1
    rw [decide_eq_false (show ¬ (0 ≤ n ∧ n ≤ 4 * m ∧ n % 4 = 0) by omega)]
    go_enter Tryz.func27, Tryz.ntmps27
    go_wp2
    go_ret
    exact ⟨rfl, rfl⟩
end Go.Proofs.YtbfmlbcjggplgaaGreatDoor
