/- What the document's own Sign and Level answer: the same plain functions as package wrap's; each lays at most one new block and leaves all that was there as it was. -/
import Derived.Test.YtldhkfgloeanoaaDoorRef3
namespace Go.Proofs.YtldhkfgloeanoaaDoor
open Go.RowKit Plain
theorem two_val {op a b v : Int} {q : Bool} (h : two op a b = v) (h' : isTwo op = q) (w : World) : Calls Tryd.prog 13 #[.int .i64 op, .int .i64 a, .int .i64 b] w fun e w' => e = .returned (.tuple #[.int .i64 v, .bool q]) ∧ w = w' := by
  subst h h'
  exact two_any op a b w
theorem rtwo_val {op a b v : Int} {q : Bool} (h : two op a b = v) (h' : isTwo op = q) (w : World) : Calls Tryd.prog 14 #[.int .i64 op, .int .i64 a, .int .i64 b] w fun e w' => e = .returned (.tuple #[.int .i64 v, .bool q]) ∧ w = w' := by
  subst h h'
  exact rtwo_any op a b w
theorem rhigh_lit {a b r : Int} {signs : Bool} (e : high a b signs = r) (w : World) : Calls Tryd.prog 16 #[.int .i64 a, .int .i64 b, .bool signs] w fun e w' => e = .returned (.int .i64 r) ∧ w = w' := by
  subst e
  exact rhigh_any a b signs w
theorem one_val {op a v : Int} {q : Bool} (h : one op a = v) (h' : isOne op = q) (w : World) : Calls Tryd.prog 17 #[.int .i64 op, .int .i64 a] w fun e w' => e = .returned (.tuple #[.int .i64 v, .bool q]) ∧ w = w' := by
  subst h h'
  exact one_any op a w
theorem rone_val {op a v : Int} {q : Bool} (h : one op a = v) (h' : isOne op = q) (w : World) : Calls Tryd.prog 18 #[.int .i64 op, .int .i64 a] w fun e w' => e = .returned (.tuple #[.int .i64 v, .bool q]) ∧ w = w' := by
  subst h h'
  exact rone_any op a w
/-- of what was there nothing has turned, and no mark -/
def Both (w w' : World) : Prop := Below w.heap.size w w' ∧ ∀ a, w'.frozen? a = w.frozen? a
theorem Both.refl (w : World) : Both w w := ⟨Below.refl _ _, fun _ => rfl⟩
theorem Both.trans {a b c : World} (h : Both a b) (k : Both b c) : Both a c := ⟨h.1.trans (k.1.mono h.1.size), fun x => (k.2 x).trans (h.2 x)⟩
theorem Both.alloc (w : World) (c : Array Value) (t : TypeId) : Both w (w.alloc (.cells c t)) := ⟨(Below.refl _ _).alloc (Nat.le_refl _) _, fun a => frozen?_alloc_cells _ _ _ a⟩
theorem Both.grown {a b : World} (h : Both a b) : Grown a b := ⟨h.1.frame _, h.2, h.1.size⟩
theorem texts_size {w : World} (hT : Texts w) : 0 < w.heap.size := by
  have h := hT 0 (by omega)
  rcases Nat.eq_zero_or_pos w.heap.size with e | e
  · have e' : w.heap[0]? = none := by simp [e]
    simp [World.cell?, e'] at h
  · exact e
theorem texts_both {w w' : World} (hT : Texts w) (h : Both w w') : Texts w' := fun k hk => (h.1.cell (p := ⟨0, k, none⟩) (texts_size hT)).trans (hT k hk)
set_option maxHeartbeats 4000000 in
theorem rlevel_any (op : Int) (w : World) : Calls Tryd.prog 22 #[.int .i64 op] w fun e w' => e = .returned (.int .i64 (level op)) ∧ Both w w' := by
  have hk : op = 1 ∨ op = 2 ∨ op = 3 ∨ op = 4 ∨ op = 5 ∨ op = 6 ∨ op = 7 ∨ op = 8 ∨ op = 9 ∨ op = 10 ∨ op = 11 ∨ op = 12 ∨ op = 13 ∨ op = 14 ∨ op < 1 ∨ 14 < op := by omega
  rcases hk with rfl | rfl | rfl | rfl | rfl | rfl | rfl | rfl | rfl | rfl | rfl | rfl | rfl | rfl | h | h
  iterate 14
    · go_enter Tryd.func22, Tryd.ntmps22
      go_wp2
      go_ret
      exact ⟨rfl, Both.alloc _ _ _⟩
  all_goals
    have HL := Lib.hid (level_out op (by omega)).symm
    go_enter Tryd.func22, Tryd.ntmps22
    go_wp2
    go_ret
    exact ⟨ret_int HL.out, Both.refl _⟩
theorem ret_sb {s t : ByteArray} {p q : Bool} (h : s = t) (h' : p = q) : Ending.returned (.tuple #[.string s, .bool p]) = .returned (.tuple #[.string t, .bool q]) := by rw [h, h']
set_option maxHeartbeats 4000000 in
theorem rsign_any (op : Int) (w : World) : Calls Tryd.prog 20 #[.int .i64 op] w fun e w' => e = .returned (.tuple #[.string ⟨(text op).toArray⟩, .bool (isSign op)]) ∧ Both w w' := by
  have hk : op = 1 ∨ op = 2 ∨ op = 3 ∨ op = 4 ∨ op = 5 ∨ op = 6 ∨ op = 7 ∨ op = 8 ∨ op = 9 ∨ op = 10 ∨ op = 11 ∨ op = 12 ∨ op = 13 ∨ op = 14 ∨ op = 15 ∨ op = 16 ∨ op = 17 ∨ op < 1 ∨ 17 < op := by omega
  rcases hk with rfl | rfl | rfl | rfl | rfl | rfl | rfl | rfl | rfl | rfl | rfl | rfl | rfl | rfl | rfl | rfl | rfl | h | h
  iterate 17
    · go_enter Tryd.func20, Tryd.ntmps20
      go_wp2
      go_ret2
      exact ⟨ret_sb rfl rfl, Both.alloc _ _ _⟩
  all_goals
    have HL := Lib.hid (show (⟨#[]⟩ : ByteArray) = ⟨(text op).toArray⟩ by rw [text_out op (by omega)])
    have HS := Lib.hid (show false = isSign op from (decide_eq_false (by omega)).symm)
    go_enter Tryd.func20, Tryd.ntmps20
    go_wp2
    go_ret2
    exact ⟨ret_sb HL.out HS.out, Both.refl _⟩
theorem rlevel_val {op v : Int} (h : level op = v) (w : World) : Calls Tryd.prog 22 #[.int .i64 op] w fun e w' => e = .returned (.int .i64 v) ∧ Both w w' := by
  subst h
  exact rlevel_any op w
theorem rsign_val {op : Int} {s : ByteArray} {q : Bool} (h : (⟨(text op).toArray⟩ : ByteArray) = s) (h' : isSign op = q) (w : World) : Calls Tryd.prog 20 #[.int .i64 op] w fun e w' => e = .returned (.tuple #[.string s, .bool q]) ∧ Both w w' := by
  subst h h'
  exact rsign_any op w
end Go.Proofs.YtldhkfgloeanoaaDoor
