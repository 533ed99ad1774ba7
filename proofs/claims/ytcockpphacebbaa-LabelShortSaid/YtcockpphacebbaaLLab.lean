/- Which labels may be, as package label asks it. -/
import Derived.Test.YtcockpphacebbaaLNum
namespace Go.Proofs.Ytcockpphacebbaa
open Go.RowKit Rv Lb
set_option linter.unusedVariables false
def okc (c : UInt8) : Bool := decide (33 ≤ c.toNat ∧ c.toNat ≤ 126)
def allTo (s : ByteArray) (k : Nat) : Bool := (s.data.toList.take k).all okc
theorem allTo_succ (s : ByteArray) (k : Nat) (h : k < s.size) : allTo s (k + 1) = (allTo s k && okc s[k]) := by
  unfold allTo
  rw [List.take_succ_eq_append_getElem (by simpa using h), List.all_append]
  simp
  rfl
theorem allTo_full (s : ByteArray) : allTo s s.size = s.data.toList.all okc := by
  unfold allTo
  rw [List.take_of_length_le (by simp)]
theorem allTo_no (s : ByteArray) (k : Nat) (h : k ≤ s.size) (hn : allTo s k = false) : s.data.toList.all okc = false := by
  unfold allTo at hn
  cases hf : s.data.toList.all okc with
  | false => rfl
  | true =>
    rw [List.all_eq_true] at hf
    have : (s.data.toList.take k).all okc = true := List.all_eq_true.2 fun c hc => hf c (List.mem_of_mem_take hc)
    rw [hn] at this
    cases this
set_option maxHeartbeats 1000000 in
theorem lab_any (s : ByteArray) (hs : s.size ≤ maxLen) (w : World) :
    Calls Try.prog 43 #[.string s] w fun e w' => e = .returned (.bool (isLab s)) ∧ w = w' := by
  unfold maxLen at hs
  by_cases h0 : s.size < 1
  · have e : isLab s = false := by unfold isLab; rw [decide_eq_false (by omega)]; rfl
    rw [e]
    go_enter Try.func43, Try.ntmps43
    go_wp2
    go_ret
    exact ⟨rfl, rfl⟩
  by_cases h1 : 40 < s.size
  · have e : isLab s = false := by unfold isLab; rw [decide_eq_false (by omega)]; rfl
    rw [e]
    go_enter Try.func43, Try.ntmps43
    go_wp2
    go_ret
    exact ⟨rfl, rfl⟩
  have he : isLab s = s.data.toList.all okc := by unfold isLab; rw [decide_eq_true (by omega)]; rfl
  have hf := allTo_full s
  have hn := allTo_no s
  rw [← he] at hf hn
  clear he
  generalize isLab s = r at hf hn ⊢
  have HF := Lib.hid hf
  have HN := Lib.hid hn
  clear hf hn
  go_enter Try.func43, Try.ntmps43
  go_wp2
  go_loop [14] (fun i => ∃ k : Nat, k ≤ s.size ∧ i = .int .i64 k ∧ Hid (allTo s k = true)) (fun i => s.size - (intOf i).toNat)
  case atStart => exact ⟨0, Nat.zero_le _, rfl, rfl⟩
  case round =>
    obtain ⟨k, hk, rfl, HA⟩ := hrel
    by_cases hlt : k < s.size
    · have hsn := allTo_succ s k hlt
      rw [HA.out, Bool.true_and] at hsn
      have HS := Lib.hid hsn
      clear hsn
      cases hc : okc s[k] with
      | true =>
        have hc' : 33 ≤ s[k].toNat ∧ s[k].toNat ≤ 126 := of_decide_eq_true hc
        have HC := Lib.hid hc
        obtain ⟨c1, c2⟩ := hc'
        clear hc
        go_wp2
        go_round
        case rel => exact ⟨k + 1, by omega, by go_num, HS.out.trans HC.out⟩
        case measure => simp [intOf]; omega
      | false =>
        have hc' : ¬ (33 ≤ s[k].toNat ∧ s[k].toNat ≤ 126) := of_decide_eq_false hc
        have HC := Lib.hid hc
        clear hc
        obtain rfl : r = false := HN.out (k + 1) hlt (HS.out.trans HC.out)
        rcases (show s[k].toNat < 33 ∨ 126 < s[k].toNat by omega) with h | h
        · clear hc'
          go_wp2
          go_ret
          exact ⟨rfl, rfl⟩
        · clear hc'
          go_wp2
          go_ret
          exact ⟨rfl, rfl⟩
    · go_wp2
      go_ret
      obtain rfl : k = s.size := by omega
      exact ⟨rb (HA.out.symm.trans HF.out), rfl⟩
theorem lab_lit {s : ByteArray} {b : Bool} (h : isLab s = b) (hs : s.size ≤ maxLen) (w : World) :
    Calls Try.prog 43 #[.string s] w fun e w' => e = .returned (.bool b) ∧ w = w' := by
  subst h
  exact lab_any s hs w
end Go.Proofs.Ytcockpphacebbaa
