/- Package syntax: what a part of one kind has. -/
import Derived.Test.YthlnjnmomnpnpaaGreatDoorYWrap
import Derived.Test.YthlnjnmomnpnpaaGreatDoorYTok
import Derived.Test.YthlnjnmomnpnpaaGreatDoorYMem
import Derived.BigQuiet
import Derived.Deep.QuietTactic
namespace Go.Proofs.YthlnjnmomnpnpaaGreatDoor
open Go.RowKit Tk Sy
set_option linter.unusedVariables false
set_option linter.unusedSimpArgs false
theorem within_lit {n a b : Int} {r : Bool} (h : within n a b = r) (w : World) : Calls Tryz.prog 29 #[.int .i64 n, .int .i64 a, .int .i64 b] w fun e w' => e = .returned (.bool r) ∧ w = w' := by
  subst h
  go_enter Tryz.func29, Tryz.ntmps29
  go_wp2
  all_goals go_ret
  all_goals refine ⟨rb ?_, rfl⟩
  all_goals (rw [Bool.eq_iff_iff]; simp [within]; try omega)
theorem kindText_lit {k : Int} {T : ByteArray} (h : str (kindT k) = T) (w : World) : Calls Tryz.prog 59 #[.int .i64 k] w fun e w' => e = .returned (.string T) ∧ w = w' := by
  subst h
  by_cases h1 : k = 1
  · subst h1
    go_enter Tryz.func59, Tryz.ntmps59
    go_wp2
    go_ret
    exact ⟨rfl, rfl⟩
  by_cases h2 : k = 2
  · subst h2
    go_enter Tryz.func59, Tryz.ntmps59
    go_wp2
    go_ret
    exact ⟨rfl, rfl⟩
  by_cases h3 : k = 3
  · subst h3
    go_enter Tryz.func59, Tryz.ntmps59
    go_wp2
    go_ret
    exact ⟨rfl, rfl⟩
  have HT : Hid (kindT k = []) := Lib.hid (by unfold kindT; rw [if_neg h1, if_neg h2, if_neg h3])
  have q1 : (k == 1) = false := by simp [h1]
  have q2 : (k == 2) = false := by simp [h2]
  have q3 : (k == 3) = false := by simp [h3]
  clear h1 h2 h3
  go_enter Tryz.func59, Tryz.ntmps59
  go_wp2
  go_ret
  exact ⟨by rw [HT.out]; rfl, rfl⟩
theorem numbers_lit {op r : Int} (h : numbersV op = r) (w : World) : Calls Tryz.prog 103 #[.int .i64 op] w fun e w' => e = .returned (.int .i64 r) ∧ w = w' := by
  subst h
  by_cases h0 : op = 0
  · subst h0
    go_enter Tryz.func103, Tryz.ntmps103
    go_wp2
    go_ret
    exact ⟨rfl, rfl⟩
  have q0 : (op == 0) = false := by simp [h0]
  obtain ⟨b, hb⟩ : ∃ b, isOne op = b := ⟨_, rfl⟩
  obtain ⟨l, hl⟩ : ∃ l, level op = l := ⟨_, rfl⟩
  have HB := Lib.hid hb
  have HL := Lib.hid hl
  have HV : Hid (numbersV op = if b = true then 1 else if 0 < l then 2 else -1) := Lib.hid (by unfold numbersV; rw [if_neg h0, hb, hl])
  clear hb hl h0
  cases b with
  | true =>
    go_enter Tryz.func103, Tryz.ntmps103
    go_wp2_with (go_at_call 119; refine (one_op HB.out _).mono ?_; rintro e w' ⟨⟨v, rfl⟩, rfl⟩)
    go_ret
    exact ⟨ri (by rw [HV.out]; simp), rfl⟩
  | false =>
    by_cases hp : 0 < l
    · go_enter Tryz.func103, Tryz.ntmps103
      go_wp2_with (first | (go_at_call 119; refine (one_op HB.out _).mono ?_; rintro e w' ⟨⟨v, rfl⟩, rfl⟩) | (go_at_call 107; refine (level_lit HL.out _).mono ?_; rintro e w' ⟨rfl, rfl⟩))
      go_ret
      exact ⟨ri (by rw [HV.out]; simp [hp]), rfl⟩
    · go_enter Tryz.func103, Tryz.ntmps103
      go_wp2_with (first | (go_at_call 119; refine (one_op HB.out _).mono ?_; rintro e w' ⟨⟨v, rfl⟩, rfl⟩) | (go_at_call 107; refine (level_lit HL.out _).mono ?_; rintro e w' ⟨rfl, rfl⟩))
      go_ret
      exact ⟨ri (by rw [HV.out]; simp [hp]), rfl⟩
abbrev shV (s : Shp) : Value := .agg #[.bool s.known, .bool s.nm, .bool s.src, .int .i64 s.most, .int .i64 s.op, .int .i64 s.args, .bool s.thn, .bool s.els]
theorem results_e {W : World} {g : Nat} {y0 y1 y2 y3 y4 y5 y6 y7 : Value} {tmps : Array Value} (hp : tmps.getD 2 undef = .pointer (some ⟨g, 0, none⟩))
    (hh : W.heap[g]? = some (.cells #[y0, y1, y2, y3, y4, y5, y6, y7] 120 (0, 0))) :
    (results Tryz.f75 tmps).run Tryz.prog W = .ok (.agg #[y0, y1, y2, y3, y4, y5, y6, y7]) W := by
  have hp' : tmps[2]?.getD undef = .pointer (some ⟨g, 0, none⟩) := by simpa using hp
  have c0 := cell_of_heap hh 0
  have c1 := cell_of_heap hh 1
  have c2 := cell_of_heap hh 2
  have c3 := cell_of_heap hh 3
  have c4 := cell_of_heap hh 4
  have c5 := cell_of_heap hh 5
  have c6 := cell_of_heap hh 6
  have c7 := cell_of_heap hh 7
  simp only [List.getElem?_toArray, List.getElem?_cons_zero, List.getElem?_cons_succ] at c0 c1 c2 c3 c4 c5 c6 c7
  simp [results, Tryz.results75, go_sem, hp', c0, c1, c2, c3, c4, c5, c6, c7]
theorem results_s {W : World} {g : Nat} {y0 y1 y2 y3 y4 y5 y6 y7 : Value} {tmps : Array Value} (hp : tmps.getD 2 undef = .pointer (some ⟨g, 0, none⟩))
    (hh : W.heap[g]? = some (.cells #[y0, y1, y2, y3, y4, y5, y6, y7] 120 (0, 0))) :
    (results Tryz.f99 tmps).run Tryz.prog W = .ok (.agg #[y0, y1, y2, y3, y4, y5, y6, y7]) W := by
  have hp' : tmps[2]?.getD undef = .pointer (some ⟨g, 0, none⟩) := by simpa using hp
  have c0 := cell_of_heap hh 0
  have c1 := cell_of_heap hh 1
  have c2 := cell_of_heap hh 2
  have c3 := cell_of_heap hh 3
  have c4 := cell_of_heap hh 4
  have c5 := cell_of_heap hh 5
  have c6 := cell_of_heap hh 6
  have c7 := cell_of_heap hh 7
  simp only [List.getElem?_toArray, List.getElem?_cons_zero, List.getElem?_cons_succ] at c0 c1 c2 c3 c4 c5 c6 c7
  simp [results, Tryz.results99, go_sem, hp', c0, c1, c2, c3, c4, c5, c6, c7]
theorem eShape_lit {k : Int} {r : Shp} (h : eShp k = r) (w : World) : Calls Tryz.prog 75 #[.int .i64 k] w fun e w' => e = .returned (shV r) ∧ Bel w w' := by
  subst h
  by_cases hk : 1 ≤ k ∧ k ≤ 5
  · rcases (show k = 1 ∨ k = 2 ∨ k = 3 ∨ k = 4 ∨ k = 5 by omega) with rfl | rfl | rfl | rfl | rfl
    all_goals
      go_enter Tryz.func75, Tryz.ntmps75
      go_wp2
      exact bodyPost_ret (results_e rfl (heap_alloc_new w _)) rfl ⟨rfl, (Bel.refl w).alloc _ _⟩
  · have HT : Hid (eShp k = noShp) := Lib.hid (by unfold eShp; rw [if_neg (by omega), if_neg (by omega), if_neg (by omega), if_neg (by omega), if_neg (by omega)])
    have q1 : (k == 1) = false := by simp; omega
    have q2 : (k == 2) = false := by simp; omega
    have q3 : (k == 3) = false := by simp; omega
    have q4 : (k == 4) = false := by simp; omega
    have q5 : (k == 5) = false := by simp; omega
    clear hk
    go_enter Tryz.func75, Tryz.ntmps75
    go_wp2
    exact bodyPost_ret (results_e rfl (heap_alloc_new w _)) rfl ⟨by rw [HT.out]; rfl, (Bel.refl w).alloc _ _⟩
theorem sShape_lit {k : Int} {r : Shp} (h : sShp k = r) (w : World) : Calls Tryz.prog 99 #[.int .i64 k] w fun e w' => e = .returned (shV r) ∧ Bel w w' := by
  subst h
  by_cases hk : 1 ≤ k ∧ k ≤ 8
  · rcases (show k = 1 ∨ k = 2 ∨ k = 3 ∨ k = 4 ∨ k = 5 ∨ k = 6 ∨ k = 7 ∨ k = 8 by omega) with rfl | rfl | rfl | rfl | rfl | rfl | rfl | rfl
    all_goals
      go_enter Tryz.func99, Tryz.ntmps99
      go_wp2
      exact bodyPost_ret (results_s rfl (heap_alloc_new w _)) rfl ⟨rfl, (Bel.refl w).alloc _ _⟩
  · have HT : Hid (sShp k = noShp) := Lib.hid (by unfold sShp; rw [if_neg (by omega), if_neg (by omega), if_neg (by omega), if_neg (by omega), if_neg (by omega), if_neg (by omega), if_neg (by omega), if_neg (by omega)])
    have q1 : (k == 1) = false := by simp; omega
    have q2 : (k == 2) = false := by simp; omega
    have q3 : (k == 3) = false := by simp; omega
    have q4 : (k == 4) = false := by simp; omega
    have q5 : (k == 5) = false := by simp; omega
    have q6 : (k == 6) = false := by simp; omega
    have q7 : (k == 7) = false := by simp; omega
    have q8 : (k == 8) = false := by simp; omega
    clear hk
    go_enter Tryz.func99, Tryz.ntmps99
    go_wp2
    exact bodyPost_ret (results_s rfl (heap_alloc_new w _)) rfl ⟨by rw [HT.out]; rfl, (Bel.refl w).alloc _ _⟩
theorem nameIf_lit {b r : Bool} {s : ByteArray} (h : nameIf b s = r) (hs : s.size ≤ maxLen) (w : World) : Calls Tryz.prog 104 #[.bool b, .string s] w fun e w' => e = .returned (.bool r) ∧ w = w' := by
  cases b with
  | true =>
    have HN : Hid (isName s.data.toList = r) := Lib.hid (by rw [← h]; unfold nameIf; rw [if_pos rfl])
    clear h
    go_enter Tryz.func104, Tryz.ntmps104
    go_wp2_with (go_at_call 62; refine (name_lit HN.out hs _).mono ?_; rintro e w' ⟨rfl, rfl⟩)
    go_ret
    exact ⟨rfl, rfl⟩
  | false =>
    have hN : s.toList.isEmpty = r := by
      rw [← h]
      unfold nameIf
      rw [if_neg (by decide), ByteArray.toList_eq, Bool.eq_iff_iff, decide_eq_true_eq, List.isEmpty_iff]
      constructor
      · intro h
        exact empty_of_size (by rw [← size_list, h]; rfl)
      · intro h
        rw [h]
    have HN := Lib.hid hN
    clear h hN
    go_enter Tryz.func104, Tryz.ntmps104
    go_wp2
    go_ret
    exact ⟨rb HN.out, rfl⟩
end Go.Proofs.YthlnjnmomnpnpaaGreatDoor
