/- What the functions of package wrap that package syntax asks answer. -/
import Derived.Test.YthlnjnmomnpnpaaGreatDoorYBase
import Derived.Test.YthlnjnmomnpnpaaGreatDoorPlain
import Derived.WalkSpells
namespace Go.Proofs.YthlnjnmomnpnpaaGreatDoor
open Go.RowKit Plain
set_option linter.unusedVariables false
theorem ret_int {k : IntKind} {a b : Int} (h : a = b) : Ending.returned (.int k a) = .returned (.int k b) := by rw [h]
theorem ret_pair {k : IntKind} {a b : Int} {p q : Bool} (h : a = b) (h' : p = q) : Ending.returned (.tuple #[.int k a, .bool p]) = .returned (.tuple #[.int k b, .bool q]) := by rw [h, h']
theorem wrap_any (n : Int) (w : World) : Calls Tryz.prog 129 #[.int .i64 n] w fun e w' => e = .returned (.int .i64 (wrap32 n)) ∧ w = w' := by
  have h1 := w32_lo n
  have h2 := w32_hi n
  go_enter Tryz.func129, Tryz.ntmps129
  go_wp2
  go_ret
  exact ⟨rfl, rfl⟩
theorem truth_t (w : World) : Calls Tryz.prog 130 #[.bool true] w fun e w' => e = .returned (.int .i64 1) ∧ w = w' := by
  go_enter Tryz.func130, Tryz.ntmps130
  go_wp2
  go_ret
  exact ⟨rfl, rfl⟩
theorem truth_f (w : World) : Calls Tryz.prog 130 #[.bool false] w fun e w' => e = .returned (.int .i64 0) ∧ w = w' := by
  go_enter Tryz.func130, Tryz.ntmps130
  go_wp2
  go_ret
  exact ⟨rfl, rfl⟩
theorem one_neg (a : Int) (w : World) : Calls Tryz.prog 119 #[.int .i64 15, .int .i64 a] w fun e w' => e = .returned (.tuple #[.int .i64 (one 15 a), .bool true]) ∧ w = w' := by
  have h1 := w32_lo a
  have h2 := w32_hi a
  go_enter Tryz.func119, Tryz.ntmps119
  go_wp2_with (first | (go_at_call 129; refine (wrap_any _ _).mono ?_; rintro e w' ⟨rfl, rfl⟩))
  go_ret2
  exact ⟨ret_pair rfl rfl, rfl⟩
theorem one_not (a : Int) (w : World) : Calls Tryz.prog 119 #[.int .i64 16, .int .i64 a] w fun e w' => e = .returned (.tuple #[.int .i64 (one 16 a), .bool true]) ∧ w = w' := by
  have h1 := w32_lo a
  have h2 := w32_hi a
  by_cases hc : wrap32 a = 0
  · have ht := Lib.hid (one_16y hc)
    have hb : (wrap32 a == 0) = true := beq_iff_eq.2 hc
    clear hc
    go_enter Tryz.func119, Tryz.ntmps119
    go_wp2_with (first | (go_at_call 129; refine (wrap_any _ _).mono ?_; rintro e w' ⟨rfl, rfl⟩) | (go_at_call 130; ((with_reducible refine (truth_t _).mono ?_); rintro e w' ⟨rfl, rfl⟩)) | (go_at_call 130; ((with_reducible refine (truth_f _).mono ?_); rintro e w' ⟨rfl, rfl⟩)))
    go_ret2
    exact ⟨ret_pair ht.out rfl, rfl⟩
  · have ht := Lib.hid (one_16n hc)
    have hb : (wrap32 a == 0) = false := beq_eq_false_iff_ne.2 hc
    clear hc
    go_enter Tryz.func119, Tryz.ntmps119
    go_wp2_with (first | (go_at_call 129; refine (wrap_any _ _).mono ?_; rintro e w' ⟨rfl, rfl⟩) | (go_at_call 130; ((with_reducible refine (truth_t _).mono ?_); rintro e w' ⟨rfl, rfl⟩)) | (go_at_call 130; ((with_reducible refine (truth_f _).mono ?_); rintro e w' ⟨rfl, rfl⟩)))
    go_ret2
    exact ⟨ret_pair ht.out rfl, rfl⟩
theorem one_inv (a : Int) (w : World) : Calls Tryz.prog 119 #[.int .i64 17, .int .i64 a] w fun e w' => e = .returned (.tuple #[.int .i64 (one 17 a), .bool true]) ∧ w = w' := by
  have h1 := w32_lo a
  have h2 := w32_hi a
  go_enter Tryz.func119, Tryz.ntmps119
  go_wp2_with (first | (go_at_call 129; refine (wrap_any _ _).mono ?_; rintro e w' ⟨rfl, rfl⟩))
  go_ret2
  exact ⟨ret_pair (one_17 a) rfl, rfl⟩
theorem one_none (op a : Int) (h : op < 15 ∨ 17 < op) (w : World) : Calls Tryz.prog 119 #[.int .i64 op, .int .i64 a] w fun e w' => e = .returned (.tuple #[.int .i64 0, .bool false]) ∧ w = w' := by
  rcases h with h | h
  all_goals
    go_enter Tryz.func119, Tryz.ntmps119
    go_wp2_with (first | (go_at_call 129; refine (wrap_any _ _).mono ?_; rintro e w' ⟨rfl, rfl⟩))
    go_ret2
    exact ⟨rfl, rfl⟩
theorem one_yes (op a : Int) (h : 15 ≤ op ∧ op ≤ 17) (w : World) : Calls Tryz.prog 119 #[.int .i64 op, .int .i64 a] w fun e w' => e = .returned (.tuple #[.int .i64 (one op a), .bool true]) ∧ w = w' := by
  have hk : op = 15 ∨ op = 16 ∨ op = 17 := by omega
  rcases hk with rfl | rfl | rfl
  · exact one_neg a w
  · exact one_not a w
  · exact one_inv a w
theorem one_any (op a : Int) (w : World) : Calls Tryz.prog 119 #[.int .i64 op, .int .i64 a] w fun e w' => e = .returned (.tuple #[.int .i64 (one op a), .bool (isOne op)]) ∧ w = w' := by
  by_cases h : 15 ≤ op ∧ op ≤ 17
  · have e : isOne op = true := decide_eq_true h
    rw [e]
    exact one_yes op a h w
  · have e : isOne op = false := decide_eq_false h
    have e0 : one op a = 0 := one_out op a (by omega)
    rw [e, e0]
    exact one_none op a (by omega) w
theorem level_any (op : Int) (w : World) : Calls Tryz.prog 107 #[.int .i64 op] w fun e w' => e = .returned (.int .i64 (level op)) ∧ w = w' := by
  have hk : op = 1 ∨ op = 2 ∨ op = 3 ∨ op = 4 ∨ op = 5 ∨ op = 6 ∨ op = 7 ∨ op = 8 ∨ op = 9 ∨ op = 10 ∨ op = 11 ∨ op = 12 ∨ op = 13 ∨ op = 14 ∨ op < 1 ∨ 14 < op := by omega
  rcases hk with rfl | rfl | rfl | rfl | rfl | rfl | rfl | rfl | rfl | rfl | rfl | rfl | rfl | rfl | h | h
  iterate 14
    · go_enter Tryz.func107, Tryz.ntmps107
      go_wp2
      go_ret
      exact ⟨rfl, rfl⟩
  all_goals
    have HL := Lib.hid (level_out op (by omega)).symm
    go_enter Tryz.func107, Tryz.ntmps107
    go_wp2
    go_ret
    exact ⟨ret_int HL.out, rfl⟩
def Texts (w : World) : Prop := ∀ k : Nat, k < 18 → w.cell? ⟨2, k, none⟩ = some (.string ⟨(text k).toArray⟩)
theorem sign_yes (n : Nat) (h1 : 1 ≤ n) (h2 : n ≤ 17) (s : ByteArray) (hs : s.toList.isEmpty = false) (w : World) (hc : w.cell? ⟨2, n, none⟩ = some (.string s)) :
    Calls Tryz.prog 105 #[.int .i64 (n : Int)] w fun e w' => e = .returned (.tuple #[.string s, .bool true]) ∧ w = w' := by
  go_enter Tryz.func105, Tryz.ntmps105
  go_wp2
  go_ret2
  exact ⟨rfl, rfl⟩
theorem sign_zero (w : World) (hc : w.cell? ⟨2, 0, none⟩ = some (.string ⟨#[]⟩)) :
    Calls Tryz.prog 105 #[.int .i64 0] w fun e w' => e = .returned (.tuple #[.string ⟨#[]⟩, .bool false]) ∧ w = w' := by
  have he : (⟨#[]⟩ : ByteArray).toList = [] := by rw [ByteArray.toList_eq]
  go_enter Tryz.func105, Tryz.ntmps105
  go_wp2
  go_ret2
  exact ⟨rfl, rfl⟩
theorem sign_out (op : Int) (h : op < 0 ∨ 17 < op) (w : World) :
    Calls Tryz.prog 105 #[.int .i64 op] w fun e w' => e = .returned (.tuple #[.string ⟨#[]⟩, .bool false]) ∧ w = w' := by
  rcases h with h | h
  all_goals
    go_enter Tryz.func105, Tryz.ntmps105
    go_wp2
    go_ret2
    exact ⟨rfl, rfl⟩
theorem sign_any (op : Int) (w : World) (hT : Texts w) :
    Calls Tryz.prog 105 #[.int .i64 op] w fun e w' => e = .returned (.tuple #[.string ⟨(text op).toArray⟩, .bool (isSign op)]) ∧ w = w' := by
  by_cases h : 1 ≤ op ∧ op ≤ 17
  · have e : isSign op = true := decide_eq_true h
    rw [e]
    obtain ⟨n, rfl⟩ := Int.eq_ofNat_of_zero_le (show 0 ≤ op by omega)
    refine sign_yes n (by omega) (by omega) _ ?_ w (hT n (by omega))
    rw [ByteArray.toList_eq]
    exact text_full n (by omega) (by omega)
  · have e : isSign op = false := decide_eq_false h
    have e0 : text op = [] := text_out op (by omega)
    rw [e, e0]
    by_cases h0 : op = 0
    · subst h0
      exact sign_zero w (hT 0 (by omega))
    · exact sign_out op (by omega) w
theorem one_op {op : Int} {b : Bool} (h : isOne op = b) (w : World) : Calls Tryz.prog 119 #[.int .i64 op, .int .i64 0] w fun e w' => (∃ v, e = .returned (.tuple #[.int .i64 v, .bool b])) ∧ w = w' := by
  subst h
  refine (one_any op 0 w).mono ?_
  rintro e w' ⟨rfl, rfl⟩
  exact ⟨⟨_, rfl⟩, rfl⟩
theorem level_lit {op r : Int} (h : level op = r) (w : World) : Calls Tryz.prog 107 #[.int .i64 op] w fun e w' => e = .returned (.int .i64 r) ∧ w = w' := by
  subst h
  exact level_any op w
theorem sign_lit {op : Int} {T : ByteArray} {b : Bool} (h : (⟨(text op).toArray⟩ : ByteArray) = T) (hb : isSign op = b) (w : World) (hT : Texts w) : Calls Tryz.prog 105 #[.int .i64 op] w fun e w' => e = .returned (.tuple #[.string T, .bool b]) ∧ w = w' := by
  subst h hb
  exact sign_any op w hT
end Go.Proofs.YthlnjnmomnpnpaaGreatDoor
