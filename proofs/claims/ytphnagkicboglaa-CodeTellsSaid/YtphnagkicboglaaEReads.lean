/- What Reads of the document's own answer answers; what ints does. -/
import Derived.Test.YtphnagkicboglaaERight
namespace Go.Proofs.Ytphnagkicboglaa
open Go.RowKit Rv
set_option linter.unusedVariables false
set_option linter.unusedSimpArgs false
set_option maxHeartbeats 4000000 in
theorem readsR_wrong (op d a b n : Int) (hi : Ins.wf ⟨op, d, a, b, n⟩) (hr : right ⟨op, d, a, b, n⟩ = false) (w : World) :
    Calls Try.prog 21 #[.agg #[.int .i64 op, .int .i64 d, .int .i64 a, .int .i64 b, .int .i64 n]] w (IntRow [] w) := by
  have HW := Lib.hid hi
  have HR := Lib.hid hr
  clear hi hr
  go_enter Try.func21, Try.ntmps21
  go_wp2_with fail
  refine (rightR_val HR.out _).mono ?_
  rintro e W1 ⟨rfl, hb1⟩
  have HB1 := Lib.hid (((Both.refl w).alloc _ _).trans hb1)
  clear hb1
  go_wp2
  go_ret
  exact row_of_none HB1.out
set_option maxHeartbeats 4000000 in
theorem readsR_empty (op d a b n : Int) (hi : Ins.wf ⟨op, d, a, b, n⟩) (hr : right ⟨op, d, a, b, n⟩ = true) (ha : ¬ 0 < a) (hb : ¬ 0 < b) (w : World) :
    Calls Try.prog 21 #[.agg #[.int .i64 op, .int .i64 d, .int .i64 a, .int .i64 b, .int .i64 n]] w (IntRow [] w) := by
  have HW := Lib.hid hi
  have HR := Lib.hid hr
  clear hi hr
  go_enter Try.func21, Try.ntmps21
  go_wp2_with fail
  refine (rightR_val HR.out _).mono ?_
  rintro e W1 ⟨rfl, hb1⟩
  have hri := (hb1.1.block w.heap.size (by simp)).trans (heap_alloc_new _ _)
  have hli : w.heap.size < W1.heap.size := by have := hb1.1.size; simp at this; omega
  have c2 := cell_of_heap hri 2
  have c3 := cell_of_heap hri 3
  simp only [List.getElem?_toArray, List.getElem?_cons_zero, List.getElem?_cons_succ] at c2 c3
  have HB1 := Lib.hid (((Both.refl w).alloc _ _).trans hb1)
  clear hb1 hri
  go_wp2
  go_ret
  exact row_of_none HB1.out
set_option maxHeartbeats 4000000 in
theorem readsR_a (op d a b n : Int) (hi : Ins.wf ⟨op, d, a, b, n⟩) (hr : right ⟨op, d, a, b, n⟩ = true) (ha : 0 < a) (hb : ¬ 0 < b) (w : World) :
    Calls Try.prog 21 #[.agg #[.int .i64 op, .int .i64 d, .int .i64 a, .int .i64 b, .int .i64 n]] w (IntRow [a] w) := by
  have HW := Lib.hid hi
  have HR := Lib.hid hr
  clear hi hr
  go_enter Try.func21, Try.ntmps21
  go_wp2_with fail
  refine (rightR_val HR.out _).mono ?_
  rintro e W1 ⟨rfl, hb1⟩
  have hri := (hb1.1.block w.heap.size (by simp)).trans (heap_alloc_new _ _)
  have hli : w.heap.size < W1.heap.size := by have := hb1.1.size; simp at this; omega
  have c2 := cell_of_heap hri 2
  have c3 := cell_of_heap hri 3
  simp only [List.getElem?_toArray, List.getElem?_cons_zero, List.getElem?_cons_succ] at c2 c3
  have HB1 := Lib.hid (((Both.refl w).alloc _ _).trans hb1)
  clear hb1 hri
  go_wp2
  go_ret
  generalize hcap : (Question.appendCap 1 0 3).cut (W1.tape W1.drawn (Question.appendCap 1 0 3)) = c
  clear hcap
  have hm : (((W1.alloc (.cells #[.int .i64 a] 3)).alloc (.cells (#[.int .i64 a] ++ Builtin.zeroCells #[.int .i64 0] (c - 1)) 3)).drew).cell? ⟨W1.heap.size + 1, 0, none⟩ = some (.int .i64 a) := by
    have s1 : (W1.alloc (.cells #[.int .i64 a] 3)).heap.size = W1.heap.size + 1 := by simp
    rw [← s1]
    exact (World.cell?_alloc_new (W1.alloc (.cells #[.int .i64 a] 3)) _ _ 0).trans (Array.getElem?_append_left (by show 0 < 1; omega))
  exact row_of_one hm (((HB1.out.alloc _ _).alloc _ _).drew)
set_option maxHeartbeats 4000000 in
theorem readsR_aa (op d a b n : Int) (hi : Ins.wf ⟨op, d, a, b, n⟩) (hr : right ⟨op, d, a, b, n⟩ = true) (ha : 0 < a) (hb : 0 < b) (hab : (b != a) = false) (w : World) :
    Calls Try.prog 21 #[.agg #[.int .i64 op, .int .i64 d, .int .i64 a, .int .i64 b, .int .i64 n]] w (IntRow [a] w) := by
  have HW := Lib.hid hi
  have HR := Lib.hid hr
  clear hi hr
  go_enter Try.func21, Try.ntmps21
  go_wp2_with fail
  refine (rightR_val HR.out _).mono ?_
  rintro e W1 ⟨rfl, hb1⟩
  have hri := (hb1.1.block w.heap.size (by simp)).trans (heap_alloc_new _ _)
  have hli : w.heap.size < W1.heap.size := by have := hb1.1.size; simp at this; omega
  have c2 := cell_of_heap hri 2
  have c3 := cell_of_heap hri 3
  simp only [List.getElem?_toArray, List.getElem?_cons_zero, List.getElem?_cons_succ] at c2 c3
  have HB1 := Lib.hid (((Both.refl w).alloc _ _).trans hb1)
  clear hb1 hri
  go_wp2
  go_ret
  generalize hcap : (Question.appendCap 1 0 3).cut (W1.tape W1.drawn (Question.appendCap 1 0 3)) = c
  clear hcap
  have hm : (((W1.alloc (.cells #[.int .i64 a] 3)).alloc (.cells (#[.int .i64 a] ++ Builtin.zeroCells #[.int .i64 0] (c - 1)) 3)).drew).cell? ⟨W1.heap.size + 1, 0, none⟩ = some (.int .i64 a) := by
    have s1 : (W1.alloc (.cells #[.int .i64 a] 3)).heap.size = W1.heap.size + 1 := by simp
    rw [← s1]
    exact (World.cell?_alloc_new (W1.alloc (.cells #[.int .i64 a] 3)) _ _ 0).trans (Array.getElem?_append_left (by show 0 < 1; omega))
  exact row_of_one hm (((HB1.out.alloc _ _).alloc _ _).drew)
set_option maxHeartbeats 4000000 in
theorem readsR_b (op d a b n : Int) (hi : Ins.wf ⟨op, d, a, b, n⟩) (hr : right ⟨op, d, a, b, n⟩ = true) (ha : ¬ 0 < a) (hb : 0 < b) (hab : (b != a) = true) (w : World) :
    Calls Try.prog 21 #[.agg #[.int .i64 op, .int .i64 d, .int .i64 a, .int .i64 b, .int .i64 n]] w (IntRow [b] w) := by
  have HW := Lib.hid hi
  have HR := Lib.hid hr
  clear hi hr
  go_enter Try.func21, Try.ntmps21
  go_wp2_with fail
  refine (rightR_val HR.out _).mono ?_
  rintro e W1 ⟨rfl, hb1⟩
  have hri := (hb1.1.block w.heap.size (by simp)).trans (heap_alloc_new _ _)
  have hli : w.heap.size < W1.heap.size := by have := hb1.1.size; simp at this; omega
  have c2 := cell_of_heap hri 2
  have c3 := cell_of_heap hri 3
  simp only [List.getElem?_toArray, List.getElem?_cons_zero, List.getElem?_cons_succ] at c2 c3
  have HB1 := Lib.hid (((Both.refl w).alloc _ _).trans hb1)
  clear hb1 hri
  go_wp2
  go_ret
  generalize hcap : (Question.appendCap 1 0 3).cut (W1.tape W1.drawn (Question.appendCap 1 0 3)) = c
  clear hcap
  have hm : (((W1.alloc (.cells #[.int .i64 b] 3)).alloc (.cells (#[.int .i64 b] ++ Builtin.zeroCells #[.int .i64 0] (c - 1)) 3)).drew).cell? ⟨W1.heap.size + 1, 0, none⟩ = some (.int .i64 b) := by
    have s1 : (W1.alloc (.cells #[.int .i64 b] 3)).heap.size = W1.heap.size + 1 := by simp
    rw [← s1]
    exact (World.cell?_alloc_new (W1.alloc (.cells #[.int .i64 b] 3)) _ _ 0).trans (Array.getElem?_append_left (by show 0 < 1; omega))
  exact row_of_one hm (((HB1.out.alloc _ _).alloc _ _).drew)
set_option maxHeartbeats 4000000 in
theorem readsR_ab (op d a b n : Int) (hi : Ins.wf ⟨op, d, a, b, n⟩) (hr : right ⟨op, d, a, b, n⟩ = true) (ha : 0 < a) (hb : 0 < b) (hab : (b != a) = true) (w : World) :
    Calls Try.prog 21 #[.agg #[.int .i64 op, .int .i64 d, .int .i64 a, .int .i64 b, .int .i64 n]] w (IntRow [a, b] w) := by
  have HW := Lib.hid hi
  have HR := Lib.hid hr
  clear hi hr
  go_enter Try.func21, Try.ntmps21
  go_wp2_with fail
  refine (rightR_val HR.out _).mono ?_
  rintro e W1 ⟨rfl, hb1⟩
  have hri := (hb1.1.block w.heap.size (by simp)).trans (heap_alloc_new _ _)
  have hli : w.heap.size < W1.heap.size := by have := hb1.1.size; simp at this; omega
  have c2 := cell_of_heap hri 2
  have c3 := cell_of_heap hri 3
  simp only [List.getElem?_toArray, List.getElem?_cons_zero, List.getElem?_cons_succ] at c2 c3
  have HB1 := Lib.hid (((Both.refl w).alloc _ _).trans hb1)
  clear hb1 hri
  go_upto_region 8 with (fail)
  rename_i K hK
  have h1c : 1 ≤ (Question.appendCap 1 0 3).cut (W1.tape W1.drawn (Question.appendCap 1 0 3)) := grownCap_ge W1 1 0 3
  generalize (Question.appendCap 1 0 3).cut (W1.tape W1.drawn (Question.appendCap 1 0 3)) = c at h1c ⊢
  have s1 : (W1.alloc (.cells #[.int .i64 a] 3)).heap.size = W1.heap.size + 1 := by simp
  have hB : (((W1.alloc (.cells #[.int .i64 a] 3)).alloc (.cells (#[.int .i64 a] ++ Builtin.zeroCells #[.int .i64 0] (c - 1)) 3)).drew).heap[W1.heap.size + 1]? = some (.cells (#[.int .i64 a] ++ Builtin.zeroCells #[.int .i64 0] (c - 1)) 3 (0, 0)) := by
    rw [← s1]
    exact heap_alloc_new _ _
  have hBW : Both W1 ((W1.alloc (.cells #[.int .i64 a] 3)).alloc (.cells (#[.int .i64 a] ++ Builtin.zeroCells #[.int .i64 0] (c - 1)) 3)).drew := (((Both.refl W1).alloc _ _).alloc _ _).drew
  generalize ((W1.alloc (.cells #[.int .i64 a] 3)).alloc (.cells (#[.int .i64 a] ++ Builtin.zeroCells #[.int .i64 0] (c - 1)) 3)).drew = W3 at hB hBW ⊢
  have c3' := (hBW.cell (p := ⟨w.heap.size, 3, none⟩) hli).trans c3
  have hWB : w.heap.size ≤ W1.heap.size + 1 := by omega
  have hBB := HB1.out.trans hBW
  clear c2 c3 hBW s1 HB1
  generalize W1.heap.size + 1 = B at hB hWB ⊢
  have hsB : B < W3.heap.size := by
    refine Nat.lt_of_not_le fun hge => ?_
    rw [Array.getElem?_eq_none hge] at hB
    cases hB
  refine wp_region_list ?_
  refine wpList_one rfl (w' := W3) (v := .slice (some ⟨B, 0, none⟩) 1 c) rfl ?_
  refine wpList_one rfl (w' := W3) (v := .pointer (some ⟨w.heap.size, 3, none⟩)) (by kernel_rfl) ?_
  have HBk := Lib.hid hB
  clear hB
  refine wpList_plain rfl fun K5 hK5 => ?_
  go_simp
  refine hK5 _ _ ?_
  clear hK5 K5
  refine wpList_one rfl (w' := W3.alloc (.cells #[.int .i64 b] 3)) (v := .slice (some ⟨W3.heap.size, 0, none⟩) 1 1) (by kernel_rfl) ?_
  obtain ⟨q, c', W5, hrun, hq, q0, q1, hb5⟩ := append_two (W3.alloc (.cells #[.int .i64 b] 3)) B c a b 33 h1c W3.heap.size ((heap_alloc_old _ _ hsB).trans HBk.out) (World.cell?_alloc_new W3 #[.int .i64 b] 3 0) w (hBB.alloc _ _) hWB
  refine wpList_append_run rfl (.tmp 27) (.tmp 30) 33 rfl _ _ _ rfl rfl hrun ?_
  refine wpList_one rfl (w' := W5) (v := .slice (some q) 2 c') rfl ?_
  refine wpList_nil ?_
  refine hK _ _ ?_
  have Q0 := Lib.hid q0
  have Q1 := Lib.hid q1
  have Q2 := Lib.hid hq
  have HB5 := Lib.hid hb5
  clear q0 q1 hq hb5 hrun hBB c3' ha hb hab hK
  go_wp2
  go_ret
  exact row_of_two Q2.out Q0.out Q1.out HB5.out
theorem readsR_any {op d a b n : Int} {l : List Int} (hi : Ins.wf ⟨op, d, a, b, n⟩) (h : readsL ⟨op, d, a, b, n⟩ = l) (w : World) :
    Calls Try.prog 21 #[.agg #[.int .i64 op, .int .i64 d, .int .i64 a, .int .i64 b, .int .i64 n]] w (IntRow l w) := by
  subst h
  cases hr : right ⟨op, d, a, b, n⟩ with
  | false =>
    have e : readsL ⟨op, d, a, b, n⟩ = [] := by unfold readsL; rw [hr]; rfl
    rw [e]
    exact readsR_wrong op d a b n hi hr w
  | true =>
    have e : readsL ⟨op, d, a, b, n⟩ = (if 0 < a then [a] else []) ++ (if 0 < b ∧ b ≠ a then [b] else []) := by unfold readsL; rw [hr]; rfl
    rw [e]
    by_cases ha : 0 < a
    · rw [if_pos ha]
      by_cases hb : 0 < b
      · by_cases hab : b = a
        · rw [if_neg (by omega)]
          exact readsR_aa op d a b n hi hr ha hb (by simp [hab]) w
        · rw [if_pos (by omega)]
          exact readsR_ab op d a b n hi hr ha hb (by simp [hab]) w
      · rw [if_neg (by omega)]
        exact readsR_a op d a b n hi hr ha hb w
    · rw [if_neg ha]
      by_cases hb : 0 < b
      · rw [if_pos (by omega)]
        exact readsR_b op d a b n hi hr ha hb (by simp; omega) w
      · rw [if_neg (by omega)]
        exact readsR_empty op d a b n hi hr ha hb w
def Lies (w : World) (p : Option Addr) (l : List Int) : Prop := ∀ (j : Nat) x, l[j]? = some x → ∃ b o, p = some ⟨b, o, none⟩ ∧ b < w.heap.size ∧ w.cell? ⟨b, o + j, none⟩ = some (.int .i64 x)
set_option maxHeartbeats 4000000 in
theorem ints_same (l : List Int) (n : Nat) (HN : Hid (l.length = n)) (n2 : n ≤ 2) (pl pm : Option Addr) (cl cm : Nat) (w : World) (HL : Hid (Lies w pl l)) (HM : Hid (Lies w pm l)) :
    Calls Try.prog 19 #[.slice pl n cl, .slice pm n cm] w fun e w' => e = .returned (.bool true) ∧ Both w w' := by
  go_enter Try.func19, Try.ntmps19
  go_wp2_with fail
  go_loopw [5] (fun i wr => ∃ k : Nat, k ≤ n ∧ i = .int .i64 k ∧ Both w wr) (fun i _ => n - (intOf i).toNat)
  case atStart => exact ⟨0, by omega, rfl, Both.refl _⟩
  case round =>
    obtain ⟨k, hk, rfl, hb9⟩ := hrel
    have B9 := Lib.hid hb9
    clear hb9
    by_cases hlt : k < n
    · have hkl : k < l.length := by rw [HN.out]; exact hlt
      obtain ⟨v, hv⟩ : ∃ v, l[k]? = some v := ⟨l[k], List.getElem?_eq_getElem hkl⟩
      obtain ⟨bl, ol, rfl, ll, cl7⟩ := HL.out k v hv
      obtain ⟨bm, om, rfl, lm, cm7⟩ := HM.out k v hv
      have gl := (B9.out.cell (p := ⟨bl, ol + k, none⟩) ll).trans cl7
      have gm := (B9.out.cell (p := ⟨bm, om + k, none⟩) lm).trans cm7
      clear hkl hv ll lm cl7 cm7
      have hlt' : (k : Int) < (n : Int) := by omega
      go_wp2_with fail
      go_quiet (fail)
      go_wp2
      go_roundw
      case rel => exact ⟨k + 1, by omega, by go_num, B9.out.drewN _⟩
      case measure => simp [intOf]; omega
    · have hge : ¬ (k : Int) < (n : Int) := by omega
      go_wp2
      go_ret
      exact ⟨rfl, B9.out⟩
end Go.Proofs.Ytphnagkicboglaa
