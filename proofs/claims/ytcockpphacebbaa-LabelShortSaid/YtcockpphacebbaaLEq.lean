/- Which items may be, as package label asks it. -/
import Derived.Test.YtcockpphacebbaaLLab
import Derived.Test.YtcockpphacebbaaDRightW
namespace Go.Proofs.Ytcockpphacebbaa
open Go.RowKit Rv Lb
set_option linter.unusedVariables false
def cells8 (x : Itm) : List Value := [.int .i64 x.kind, .int .i64 x.i.op, .int .i64 x.i.d, .int .i64 x.i.a, .int .i64 x.i.b, .int .i64 x.i.n, .string x.name, .int .i64 x.n]
def xval (x : Itm) : Value := .agg (cells8 x).toArray
structure _root_.Go.Proofs.Ytcockpphacebbaa.Lb.Itm.wf (x : Itm) : Prop where
  kind : inInt x.kind
  i : Ins.wf x.i
  name : x.name.size ≤ maxLen
  n : inInt x.n
theorem eql_yes (k o d a b n m : Int) (s : ByteArray) (w : World) :
    (binOp .eql 26 (.agg #[.int .i64 k, .int .i64 o, .int .i64 d, .int .i64 a, .int .i64 b, .int .i64 n, .string s, .int .i64 m]) (.agg #[.int .i64 k, .int .i64 o, .int .i64 d, .int .i64 a, .int .i64 b, .int .i64 n, .string s, .int .i64 m])).run Try.prog w = .ok (.bool true) w := by
  go_simp
theorem bytes_list {s t : ByteArray} (h : s.toList = t.toList) : s = t := by
  rw [ByteArray.toList_eq, ByteArray.toList_eq] at h
  obtain ⟨⟨x⟩⟩ := s
  obtain ⟨⟨y⟩⟩ := t
  simp at h
  rw [h]
theorem eql_no (k o d a b n m k' o' d' a' b' n' m' : Int) (s s' : ByteArray) (hne : ¬ (k = k' ∧ o = o' ∧ d = d' ∧ a = a' ∧ b = b' ∧ n = n' ∧ s = s' ∧ m = m')) (w : World) :
    (binOp .eql 26 (.agg #[.int .i64 k, .int .i64 o, .int .i64 d, .int .i64 a, .int .i64 b, .int .i64 n, .string s, .int .i64 m]) (.agg #[.int .i64 k', .int .i64 o', .int .i64 d', .int .i64 a', .int .i64 b', .int .i64 n', .string s', .int .i64 m'])).run Try.prog w = .ok (.bool false) w := by
  go_simp
  intro h1 h2 h3 h4 h5 h6 h7 h8
  exact hne ⟨h1, h2, h3, h4, h5, h6, bytes_list h7, h8⟩
theorem empty_of_size {s : ByteArray} (h : s.size = 0) : s = ⟨#[]⟩ := by
  obtain ⟨x⟩ := s
  have : x.size = 0 := h
  rw [Array.size_eq_zero_iff] at this
  rw [this]
theorem lead_any (o d a b n : Int) (hi : Ins.wf ⟨o, d, a, b, n⟩) (w : World) :
    Calls Try.prog 44 #[.agg #[.int .i64 o, .int .i64 d, .int .i64 a, .int .i64 b, .int .i64 n]] w fun e w' => e = .returned (.bool (leads ⟨o, d, a, b, n⟩)) ∧ Both w w' := by
  obtain ⟨q, hq⟩ : ∃ q, isB o = q := ⟨_, rfl⟩
  obtain ⟨r, hr⟩ : ∃ r, right ⟨o, d, a, b, n⟩ = r := ⟨_, rfl⟩
  have HQ := Lib.hid hq
  have HR := Lib.hid hr
  have HI := Lib.hid hi
  have e : leads ⟨o, d, a, b, n⟩ = ((o == 3 || q) && (n == 0) && r) := by
    unfold leads
    rw [hr, hq]
    simp only
    by_cases h3 : o = 3 <;> by_cases hn : n = 0 <;> simp [h3, hn]
    rw [beq_eq_false_iff_ne.2 h3, Bool.false_or]
  rw [e]
  clear hq hr e hi
  cases h3 : (o == 3) <;> cases hn : (n == 0) <;> cases q
  all_goals
    go_enter Try.func44, Try.ntmps44
    go_wp2_with (first | (go_at_call 71; ((with_reducible refine (isB_lit HQ.out _).mono ?_); rintro e w' ⟨rfl, rfl⟩)) | (go_at_call 29; ((with_reducible refine (right_val HI.out HR.out _).mono ?_); rintro e W1 ⟨rfl, hb1⟩; have HB := Lib.hid hb1; clear hb1)))
    go_ret
    first
      | exact ⟨rb (by simp), (Both.refl _).alloc _ _⟩
      | exact ⟨rb (by simp), ((Both.refl _).alloc _ _).trans HB.out⟩
theorem lead_lit {o d a b n : Int} {q : Bool} (h : leads ⟨o, d, a, b, n⟩ = q) (hi : Ins.wf ⟨o, d, a, b, n⟩) (w : World) :
    Calls Try.prog 44 #[.agg #[.int .i64 o, .int .i64 d, .int .i64 a, .int .i64 b, .int .i64 n]] w fun e w' => e = .returned (.bool q) ∧ Both w w' := by
  subst h
  exact lead_any o d a b n hi w
set_option maxHeartbeats 4000000 in
theorem rightX_1 (o d a b n m : Int) (s : ByteArray) (hi : Ins.wf ⟨o, d, a, b, n⟩) (w : World) :
    Calls Try.prog 23 #[.agg #[.int .i64 1, .int .i64 o, .int .i64 d, .int .i64 a, .int .i64 b, .int .i64 n, .string s, .int .i64 m]] w fun e w' => e = .returned (.bool (rightX ⟨1, ⟨o, d, a, b, n⟩, s, m⟩)) ∧ Both w w' := by
  obtain ⟨r, hr⟩ : ∃ r, right ⟨o, d, a, b, n⟩ = r := ⟨_, rfl⟩
  have HR := Lib.hid hr
  have HI := Lib.hid hi
  by_cases hc : s.size = 0 ∧ m = 0
  · obtain ⟨h1, rfl⟩ := hc
    obtain rfl := empty_of_size h1
    have e : rightX ⟨1, ⟨o, d, a, b, n⟩, ⟨#[]⟩, 0⟩ = r := by
      unfold rightX
      rw [if_pos rfl, hr]
      rfl
    rw [e]
    clear hr e hi h1
    have hE := eql_yes 1 o d a b n 0 ⟨#[]⟩
    go_enter Try.func23, Try.ntmps23
    go_wp2_with (go_at_call 29; ((with_reducible refine (right_val HI.out HR.out _).mono ?_); rintro e W1 ⟨rfl, hb1⟩; have HB := Lib.hid hb1; clear hb1))
    go_ret
    exact ⟨rfl, ((Both.refl _).alloc _ _).trans HB.out⟩
  · have e : rightX ⟨1, ⟨o, d, a, b, n⟩, s, m⟩ = false := by
      unfold rightX
      rw [if_pos rfl, decide_eq_false (by simpa using hc)]
      rfl
    rw [e]
    have hE := eql_no 1 o d a b n m 1 o d a b n 0 s ⟨#[]⟩ (by rintro ⟨_, _, _, _, _, _, h7, h8⟩; exact hc ⟨by rw [h7]; rfl, h8⟩)
    clear hr e hi hc
    go_enter Try.func23, Try.ntmps23
    go_wp2_with fail
    go_ret
    exact ⟨rfl, (Both.refl _).alloc _ _⟩
end Go.Proofs.Ytcockpphacebbaa
