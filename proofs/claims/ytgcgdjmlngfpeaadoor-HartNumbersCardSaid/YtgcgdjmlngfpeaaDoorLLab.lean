/- What brings a number to a register, by package label; which operation is a branch, and its opposite. -/
import Derived.Test.YtgcgdjmlngfpeaaDoorCCode
import Derived.Test.YtgcgdjmlngfpeaaDoorDMath
import Derived.Test.YtgcgdjmlngfpeaaDoorLPlain
namespace Go.Proofs.YtgcgdjmlngfpeaaDoor
open Go.RowKit Rv Lb
set_option linter.unusedVariables false
theorem ri {k : IntKind} {a b : Int} (h : a = b) : Ending.returned (.int k a) = .returned (.int k b) := by rw [h]
theorem rb {a b : Bool} (h : a = b) : Ending.returned (.bool a) = .returned (.bool b) := by rw [h]
theorem and_4095 (x : Int) : bits .and .i64 x 4095 = x % 4096 := and_mask x 12 (by decide)
theorem and_1048575 (x : Int) : bits .and .i64 x 1048575 = x % 1048576 := and_mask x 20 (by decide)
theorem low_any (n : Int) (h1 : -2147483648 ≤ n) (h2 : n ≤ 2147483647) (w : World) :
    Calls Tryd.prog 54 #[.int .i64 n] w fun e w' => e = .returned (.int .i64 (low12 n)) ∧ w = w' := by
  go_enter Tryd.func54, Tryd.ntmps54
  go_wp2
  go_ret
  refine ⟨ri ?_, rfl⟩
  rw [and_4095]
  unfold low12
  exact IntWalk.wrap64_in _ (by constructor <;> omega)
theorem low12_bd (n : Int) : -2048 ≤ low12 n ∧ low12 n ≤ 2047 := by unfold low12; omega
theorem low_lit {n m : Int} (h : low12 n = m) (h1 : -2147483648 ≤ n) (h2 : n ≤ 2147483647) (w : World) :
    Calls Tryd.prog 54 #[.int .i64 n] w fun e w' => e = .returned (.int .i64 m) ∧ w = w' := by
  subst h
  exact low_any n h1 h2 w
theorem may_any (d n : Int) (w : World) :
    Calls Tryd.prog 52 #[.int .i64 d, .int .i64 n] w fun e w' => e = .returned (.bool (mayLoad d n)) ∧ w = w' := by
  go_enter Tryd.func52, Tryd.ntmps52
  go_wp2
  all_goals go_ret
  all_goals refine ⟨rb ?_, rfl⟩
  all_goals (rw [Bool.eq_iff_iff]; simp only [mayLoad, decide_eq_true_eq, Bool.false_eq_true, false_iff]; omega)
theorem may_lit {d n : Int} {b : Bool} (h : mayLoad d n = b) (w : World) :
    Calls Tryd.prog 52 #[.int .i64 d, .int .i64 n] w fun e w' => e = .returned (.bool b) ∧ w = w' := by
  subst h
  exact may_any d n w
theorem isB_opp (op : Int) : isB op = (opp op != 0) := by
  unfold isB opp
  by_cases h5 : op = 5
  · subst h5; rfl
  by_cases h6 : op = 6
  · subst h6; rfl
  by_cases h7 : op = 7
  · subst h7; rfl
  by_cases h8 : op = 8
  · subst h8; rfl
  by_cases h9 : op = 9
  · subst h9; rfl
  by_cases h10 : op = 10
  · subst h10; rfl
  simp [h5, h6, h7, h8, h9, h10]
  omega
theorem short_any (n : Int) (h1 : -2147483648 ≤ n) (h2 : n ≤ 2147483647) (w : World) :
    Calls Tryd.prog 53 #[.int .i64 n] w fun e w' => e = .returned (.bool (n == low12 n)) ∧ w = w' := by
  obtain ⟨m, hm⟩ : ∃ m, low12 n = m := ⟨_, rfl⟩
  have HM := Lib.hid hm
  rw [hm]
  clear hm
  go_enter Tryd.func53, Tryd.ntmps53
  go_wp2_with (go_at_call 54; ((with_reducible refine (low_lit HM.out h1 h2 _).mono ?_); rintro e w' ⟨rfl, rfl⟩))
  go_ret
  exact ⟨rfl, rfl⟩
theorem short_lit {n : Int} {b : Bool} (h : (n == low12 n) = b) (h1 : -2147483648 ≤ n) (h2 : n ≤ 2147483647) (w : World) :
    Calls Tryd.prog 53 #[.int .i64 n] w fun e w' => e = .returned (.bool b) ∧ w = w' := by
  subst h
  exact short_any n h1 h2 w
/-- five cells of an instruction -/
def cells5 (i : Ins) : List Value := [.int .i64 i.op, .int .i64 i.d, .int .i64 i.a, .int .i64 i.b, .int .i64 i.n]
/-- a row of instructions lies at a place -/
def InsAt (w : World) (p : Option Addr) (l : List Ins) : Prop :=
  ∀ (j : Nat) (i : Ins), l[j]? = some i → ∃ b o, p = some ⟨b, o, none⟩ ∧ b < w.heap.size ∧ ∀ (k : Nat) (v : Value), (cells5 i)[k]? = some v → w.cell? ⟨b, o + j * 5 + k, none⟩ = some v
theorem InsAt.both {w w' : World} {p : Option Addr} {l : List Ins} (h : InsAt w p l) (hb : Both w w') : InsAt w' p l := by
  intro j i hj
  obtain ⟨b, o, hp, hlt, hc⟩ := h j i hj
  exact ⟨b, o, hp, Nat.lt_of_lt_of_le hlt hb.1.size, fun k v hk => (hb.cell (p := ⟨b, o + j * 5 + k, none⟩) hlt).trans (hc k v hk)⟩
theorem InsAt.none (w : World) (p : Option Addr) : InsAt w p [] := fun j i h => by simp at h
/-- a row of instructions is handed back; of what was there nothing turns -/
def InsRow (l : List Ins) (w : World) (e : Ending) (w' : World) : Prop := ∃ p c, e = .returned (.slice p l.length c) ∧ InsAt w' p l ∧ Both w w'
theorem InsAt.one (w : World) (t : TypeId) (i : Ins) : InsAt (w.alloc (.cells (cells5 i).toArray t)) (some ⟨w.heap.size, 0, Option.none⟩) [i] := by
  intro j x hj
  match j, hj with
  | 0, hj =>
    obtain rfl := Option.some.inj hj
    refine ⟨_, _, rfl, by simp, fun k v hk => ?_⟩
    rw [Nat.zero_mul, Nat.zero_add]
    exact (World.cell?_alloc_new w _ _ k).trans (by rw [List.getElem?_toArray]; exact hk)
theorem InsAt.two (w : World) (t : TypeId) (x y : Ins) : InsAt (w.alloc (.cells (cells5 x ++ cells5 y).toArray t)) (some ⟨w.heap.size, 0, Option.none⟩) [x, y] := by
  intro j z hj
  match j, hj with
  | 0, hj =>
    obtain rfl := Option.some.inj hj
    refine ⟨_, _, rfl, by simp, fun k v hk => ?_⟩
    rw [Nat.zero_mul, Nat.zero_add]
    refine (World.cell?_alloc_new w _ _ k).trans ?_
    have : k < (cells5 x).length := (List.getElem?_eq_some_iff.1 hk).1
    rw [List.getElem?_toArray, List.getElem?_append_left this]
    exact hk
  | 1, hj =>
    obtain rfl := Option.some.inj hj
    refine ⟨_, _, rfl, by simp, fun k v hk => ?_⟩
    refine (World.cell?_alloc_new w _ _ (0 + 1 * 5 + k)).trans ?_
    rw [List.getElem?_toArray, List.getElem?_append_right (by show 5 ≤ _; omega)]
    have : 0 + 1 * 5 + k - (cells5 x).length = k := by show 0 + 1 * 5 + k - 5 = k; omega
    rw [this]
    exact hk
set_option maxHeartbeats 4000000 in
theorem number_any (d n : Int) (w : World) : Calls Tryd.prog 28 #[.int .i64 d, .int .i64 n] w (InsRow (number d n) w) := by
  cases hm : mayLoad d n with
  | false =>
    have e : number d n = [] := by unfold number; rw [hm]; rfl
    rw [e]
    have HM := Lib.hid hm
    clear hm e
    go_enter Tryd.func28, Tryd.ntmps28
    go_wp2_with (go_at_call 52; ((with_reducible refine (may_lit HM.out _).mono ?_); rintro e w' ⟨rfl, rfl⟩))
    go_ret
    exact ⟨none, 0, rfl, InsAt.none _ _, Both.refl _⟩
  | true =>
    have hb : 1 ≤ d ∧ d < 32 ∧ -2147483648 ≤ n ∧ n ≤ 2147483647 := of_decide_eq_true hm
    obtain ⟨_, _, hn1, hn2⟩ := hb
    have HM := Lib.hid hm
    cases hs : (n == low12 n) with
    | true =>
      have e : number d n = [⟨13, d, 0, 0, n⟩] := by unfold number; rw [hm, if_pos rfl, if_pos (by simpa using hs)]
      rw [e]
      have HS := Lib.hid hs
      clear hm e hs
      go_enter Tryd.func28, Tryd.ntmps28
      go_wp2_with (first | (go_at_call 52; ((with_reducible refine (may_lit HM.out _).mono ?_); rintro e w' ⟨rfl, rfl⟩)) | (go_at_call 53; ((with_reducible refine (short_lit HS.out hn1 hn2 _).mono ?_); rintro e w' ⟨rfl, rfl⟩)))
      go_ret
      exact ⟨_, _, rfl, InsAt.one w _ ⟨13, d, 0, 0, n⟩, (Both.refl _).alloc _ _⟩
    | false =>
      have e : number d n = [⟨1, d, 0, 0, high20 n⟩, ⟨13, d, d, 0, low12 n⟩] := by unfold number; rw [hm, if_pos rfl, if_neg (by simpa using hs)]
      rw [e]
      obtain ⟨l1, l2⟩ := low12_bd n
      have hh : bits .and .i64 ((n - low12 n) / 4096) 1048575 = high20 n := and_1048575 _
      generalize high20 n = h at hh ⊢
      have HS := Lib.hid hs
      obtain ⟨m, hlm⟩ : ∃ m, low12 n = m := ⟨_, rfl⟩
      rw [hlm] at l1 l2 hh ⊢
      have HL := Lib.hid hlm
      have HH := Lib.hid hh
      clear hm e hs hlm hh
      go_enter Tryd.func28, Tryd.ntmps28
      go_wp2_with (first | (go_at_call 52; ((with_reducible refine (may_lit HM.out _).mono ?_); rintro e w' ⟨rfl, rfl⟩)) | (go_at_call 53; ((with_reducible refine (short_lit HS.out hn1 hn2 _).mono ?_); rintro e w' ⟨rfl, rfl⟩)) | (go_at_call 54; ((with_reducible refine (low_lit HL.out hn1 hn2 _).mono ?_); rintro e w' ⟨rfl, rfl⟩)))
      go_ret
      rw [HH.out]
      exact ⟨_, _, rfl, InsAt.two w _ ⟨1, d, 0, 0, h⟩ ⟨13, d, d, 0, m⟩, (Both.refl _).alloc _ _⟩
end Go.Proofs.YtgcgdjmlngfpeaaDoor
/- Which labels may be, as package label asks it. -/
namespace Go.Proofs.YtgcgdjmlngfpeaaDoor
open Go.RowKit Rv Lb
set_option linter.unusedVariables false
def okc (c : UInt8) : Bool := decide (33 ≤ c.toNat ∧ c.toNat ≤ 126)
def allTo (s : ByteArray) (k : Nat) : Bool := (s.data.toList.take k).all okc
theorem allTo_succ (s : ByteArray) (k : Nat) (h : k < s.size) : allTo s (k + 1) = (allTo s k && okc s[k]) := by
  unfold allTo
  rw [List.take_succ_eq_append_getElem (by simpa using h), List.all_append]
  simp
  rfl
theorem allTo_full (s : ByteArray) : allTo s s.size = s.data.toList.all okc := by
  unfold allTo
  rw [List.take_of_length_le (by simp)]
theorem allTo_no (s : ByteArray) (k : Nat) (h : k ≤ s.size) (hn : allTo s k = false) : s.data.toList.all okc = false := by
  unfold allTo at hn
  cases hf : s.data.toList.all okc with
  | false => rfl
  | true =>
    rw [List.all_eq_true] at hf
    have : (s.data.toList.take k).all okc = true := List.all_eq_true.2 fun c hc => hf c (List.mem_of_mem_take hc)
    rw [hn] at this
    cases this
end Go.Proofs.YtgcgdjmlngfpeaaDoor
