/- Places one behind the other, as package label lays them: end, apart, put, reckon. -/
import Derived.Test.YtjjbfeoidceiiaaLRow
import Derived.Deep.RegionLaw
import Derived.Deep.QuietTactic
import Derived.BigQuiet
import Derived.IntWalk
namespace Go.Proofs.Ytjjbfeoidceiiaa
open Go.RowKit Rv Lb
set_option linter.unusedVariables false
theorem end_any (B n c : Nat) (x : Int) (w : World) (hn : 1 ≤ n) (hn2 : n ≤ 1099511627776) (hc : w.cell? ⟨B, n - 1, none⟩ = some (.int .i64 x)) :
    Calls Try.prog 34 #[.slice (some ⟨B, 0, none⟩) n c] w fun e w' => e = .returned (.int .i64 x) ∧ w = w' := by
  go_enter Try.func34, Try.ntmps34
  go_wp2
  go_ret
  exact ⟨rfl, rfl⟩
def Drew (v : Value) (w : World) (e : Ending) (w' : World) : Prop := e = .returned v ∧ ∃ q, w' = w.drewN q
theorem apart_any (B n c i j : Nat) (x y : Int) (w : World) (hi : i < n) (hj : j < n) (hn2 : n ≤ 1099511627776) (hx : w.cell? ⟨B, i, none⟩ = some (.int .i64 x)) (hy : w.cell? ⟨B, j, none⟩ = some (.int .i64 y)) (x1 : 0 ≤ x) (x2 : x ≤ 1099511627776) (y1 : 0 ≤ y) (y2 : y ≤ 1099511627776) :
    Calls Try.prog 81 #[.slice (some ⟨B, 0, none⟩) n c, .int .i64 i, .int .i64 j] w (Drew (.int .i64 (y - x)) w) := by
  have hi' : (i : Int) < n := by omega
  have hj' : (j : Int) < n := by omega
  go_enter Try.func81, Try.ntmps81
  go_wp2
  go_quiet (fail)
  go_wp2
  go_ret
  exact ⟨rfl, nq, rfl⟩
theorem step_app {P : Program} {ops : Array Oper} {o : Oper} {a : Act} {w w' : World} {K : Act → World → Prop} {Q : Exit → Act → World → Prop} {E : Prop}
    (hg : o.guard = none) (s x : Operand) (t : TypeId) (hop : o.op = Op.call { callee := Callee.builtin Builtin.append, args := #[s, x], argTypes := #[t, t] })
    (sv xv r : Value) (hs : a.eval s = sv) (hx : a.eval x = xv) (hrun : (Builtin.append_ #[t, t] o.type #[sv, xv]).run P w = .ok r w')
    (hK : K (a.put o.dst r) w') : if Region.wanted o (yielded ops a.tmps) = true then Oper.wp P o a w K Q else E := by
  have hw : Region.wanted o (yielded ops a.tmps) = true := by simp [Region.wanted, hg]
  rw [if_pos hw]
  unfold Oper.wp
  simp [execOp, hop, resolve, invoke, builtin, hs, hx, hrun, Result.andThen]
  exact hK
/-- an int more, where there is room -/
theorem append_room_int (t ty : TypeId) (ht : Try.prog.underlying t = some (.slice 3)) (W : World) (B n c : Nat) (ps zs : List Int) (z x : Int) (hr : W.heap[B]? = some (.cells (ints (ps ++ z :: zs)).toArray 3 (0, 0))) (hp : ps.length = n) (hc : n < c) (b : Nat) (hb : W.cell? ⟨b, 0, none⟩ = some (.int .i64 x)) :
    (Builtin.append_ #[t, t] ty #[.slice (some ⟨B, 0, none⟩) n c, .slice (some ⟨b, 0, none⟩) 1 1]).run Try.prog W = .ok (.slice (some ⟨B, 0, none⟩) (n + 1) c) (W.setRow B (ints (ps ++ x :: zs)).toArray) := by
  obtain ⟨i, hi, hz, hs, hby⟩ := info_int
  have := run_append_room (P := Try.prog) W t ty 3 i ht hi B n c _ hr ⟨b, 0, none⟩ 1 1 [.int .i64 x] (by rw [hs]; rfl)
    (by intro j u hj
        match j, hj with
        | 0, hj => rw [← hj]; exact hb)
    (by intro u hu; simp at hu; subst hu; rfl) (by omega) (by rw [hs]; simp [ints]; omega)
  rw [this, hs]
  have e : ((ints (ps ++ z :: zs)).toArray.toList.take (n * 1) ++ [Value.int .i64 x] ++ (ints (ps ++ z :: zs)).toArray.toList.drop (n * 1 + [Value.int .i64 x].length)).toArray = (ints (ps ++ x :: zs)).toArray := by
    have hl : (ps.map (Value.int .i64)).length = n := by rw [List.length_map, hp]
    have e1 : (ints (ps ++ z :: zs)).toArray.toList = ps.map (Value.int .i64) ++ (Value.int .i64 z :: zs.map (Value.int .i64)) := by simp [ints]
    rw [e1, Nat.mul_one, List.take_left' hl, List.length_singleton, ← hl, List.drop_append, hl]
    rw [List.drop_eq_nil_of_le (by omega), show n + 1 - n = 1 by omega]
    simp [ints]
  rw [e]
/-- what is known behind the append: the row is longer, the layer's block is as it was -/
structure PutW (w W2 : World) (y B : Nat) (Y : Obj) (cs : List Int) : Prop where
  row : W2.heap[B]? = some (.cells (ints cs).toArray 3 (0, 0))
  lay : W2.heap[y]? = some Y
  sav : Sav (fun k => k = y ∨ k = B) w W2
theorem step_put {ops : Array Oper} {o : Oper} {a : Act} {w : World} {K : Act → World → Prop} {Q : Exit → Act → World → Prop} {E : Prop}
    (hg : o.guard = none) (s x : Operand) (t : TypeId) (ht : Try.prog.underlying t = some (.slice 3)) (hop : o.op = Op.call { callee := Callee.builtin Builtin.append, args := #[s, x], argTypes := #[t, t] })
    (B n c y : Nat) (ps zs : List Int) (z v : Int) (P I S T : Value) (hs : a.eval s = .slice (some ⟨B, 0, none⟩) n c) (hx : a.eval x = .slice (some ⟨w.heap.size, 0, none⟩) 1 1) (hne : B ≠ y)
    (hB : w.heap[B]? = some (.cells (ints (ps ++ z :: zs)).toArray 3 (0, 0))) (hy : w.heap[y]? = some (.cells #[P, I, S, T] 57 (0, 0))) (hp : ps.length = n) (hc : n < c)
    (hK : ∀ W2, W2.cell? ⟨y, 0, none⟩ = some P → W2.frozen? ⟨y, 0, none⟩ = false → Hid (PutW w W2 y B (.cells #[P, I, S, T] 57 (0, 0)) (ps ++ v :: zs)) → K (a.put o.dst (.slice (some ⟨B, 0, none⟩) (n + 1) c)) W2) :
    if Region.wanted o (yielded ops a.tmps) = true then Oper.wp Try.prog o a (w.alloc (.cells #[.int .i64 v] 3)).drew K Q else E := by
  have lB := lt_of_heap hB
  have ly := lt_of_heap hy
  have hB' : (w.alloc (.cells #[.int .i64 v] 3)).drew.heap[B]? = some (.cells (ints (ps ++ z :: zs)).toArray 3 (0, 0)) := (heap_alloc_old _ _ lB).trans hB
  have hy' : (w.alloc (.cells #[.int .i64 v] 3)).drew.heap[y]? = some (.cells #[P, I, S, T] 57 (0, 0)) := (heap_alloc_old _ _ ly).trans hy
  refine step_app hg s x t hop _ _ _ hs hx (append_room_int t _ ht _ B n c ps zs z v hB' hp hc w.heap.size (World.cell?_alloc_new _ _ _ 0)) (hK _ ?_ ?_ ⟨?_, ?_, ?_⟩)
  · have : ((w.alloc (.cells #[.int .i64 v] 3)).drew.setRow B (ints (ps ++ v :: zs)).toArray).heap[y]? = some (.cells #[P, I, S, T] 57 (0, 0)) := (setRow_other _ _ _ _ (Ne.symm hne)).trans hy'
    exact cell_of_heap this 0
  · have : ((w.alloc (.cells #[.int .i64 v] 3)).drew.setRow B (ints (ps ++ v :: zs)).toArray).heap[y]? = some (.cells #[P, I, S, T] 57 (0, 0)) := (setRow_other _ _ _ _ (Ne.symm hne)).trans hy'
    exact frozen_of_heap this 0
  · exact setRow_heap _ _ _ _ _ _ hB'
  · exact (setRow_other _ _ _ _ (Ne.symm hne)).trans hy'
  · exact ((Sav.refl _ w).alloc _ _).drew.setRow (Or.inl (Or.inr rfl)) _
theorem PutW.done {w W2 : World} {y B : Nat} {P I S T P' : Value} {cs : List Int} (h : PutW w W2 y B (.cells #[P, I, S, T] 57 (0, 0)) cs) (hne : B ≠ y) :
    (W2.setCell ⟨y, 0, none⟩ P').heap[y]? = some (.cells #[P', I, S, T] 57 (0, 0)) ∧ (W2.setCell ⟨y, 0, none⟩ P').heap[B]? = some (.cells (ints cs).toArray 3 (0, 0)) ∧ Sav (fun k => k = y ∨ k = B) w (W2.setCell ⟨y, 0, none⟩ P') := by
  rw [setCell_eq_setRow _ y 0 _ _ (0, 0) _ h.lay]
  exact ⟨setRow_heap _ _ _ _ _ _ h.lay, (setRow_other _ _ _ _ hne).trans h.row, h.sav.setRow (Or.inl (Or.inl rfl)) _⟩
set_option maxHeartbeats 1000000 in
theorem put_any (y B n c : Nat) (ps zs : List Int) (z x m : Int) (I S T : Value) (w : World) (hy : w.heap[y]? = some (.cells #[.slice (some ⟨B, 0, none⟩) n c, I, S, T] 57 (0, 0))) (hB : w.heap[B]? = some (.cells (ints (ps ++ z :: zs)).toArray 3 (0, 0)))
    (hp : ps.length = n) (hc : n < c) (hc2 : c ≤ 1099511627776) (h1 : 1 ≤ n) (hx : ps[n - 1]? = some x) (hne : B ≠ y) (x1 : 0 ≤ x) (x2 : x ≤ 1099511627776) (m1 : 0 ≤ m) (m2 : m ≤ 1048576) :
    Calls Try.prog 77 #[.pointer (some ⟨y, 0, none⟩), .int .i64 m] w fun e w' => e = .returned (.tuple #[]) ∧ w'.heap[y]? = some (.cells #[.slice (some ⟨B, 0, none⟩) (n + 1) c, I, S, T] 57 (0, 0)) ∧
      w'.heap[B]? = some (.cells (ints (ps ++ (x + 4 * m) :: zs)).toArray 3 (0, 0)) ∧ Sav (fun k => k = y ∨ k = B) w w' := by
  have q0 := cell_of_heap hy 0
  simp only [List.getElem?_toArray, List.getElem?_cons_zero] at q0
  have f0 := frozen_of_heap hy 0
  have q1 : w.cell? ⟨B, n - 1, none⟩ = some (.int .i64 x) := by
    rw [cell_of_heap hB, List.getElem?_toArray]
    unfold ints
    rw [List.getElem?_map, List.getElem?_append_left (by omega), hx]
    rfl
  have v1 : IntKind.i64.wrap (4 * m) = 4 * m := IntWalk.i64_in _ (by omega)
  have v2 : IntKind.i64.wrap (x + 4 * m) = x + 4 * m := IntWalk.i64_in _ (by omega)
  have HB := Lib.hid hB
  have HY := Lib.hid hy
  have HP := Lib.hid hp
  have q2 : (w.alloc (.cells #[.int .i64 (x + 4 * m)] 3)).cell? ⟨y, 0, none⟩ = some (.slice (some ⟨B, 0, none⟩) n c) := (World.cell?_alloc_lt _ _ _ (lt_of_heap hy)).trans q0
  clear hB hy hp hx
  go_enter Try.func77, Try.ntmps77
  go_wp2
  go_region_law (first
    | (refine step_put rfl (.tmp 7) (.tmp 15) 55 Try.underlying55 rfl B n c y ps zs z (x + 4 * m) (.slice (some ⟨B, 0, none⟩) n c) I S T (by simp [Act.eval]) (by simp [Act.eval]) hne HB.out HY.out HP.out hc ?_; intro W2 hc2 hf2 HF2)
    | (go_simp; refine (end_any B n c x _ h1 (by omega) (by exact q1)).mono ?_; rintro e w' ⟨rfl, rfl⟩))
  all_goals go_end0
  all_goals exact ⟨rfl, (HF2.out.done hne).1, (HF2.out.done hne).2.1, (HF2.out.done hne).2.2⟩
end Go.Proofs.Ytjjbfeoidceiiaa
/- Places laid by sizes: reckon of package label. -/
namespace Go.Proofs.Ytjjbfeoidceiiaa
open Go.RowKit Rv Lb
set_option linter.unusedVariables false
/-- the places that sizes make, in bytes -/
def sumAt (ss : List Int) (k : Nat) : Int := 4 * (ss.take k).sum
def sumsTo (ss : List Int) (k : Nat) : List Int := (List.range (k + 1)).map (sumAt ss)
theorem sumsTo_len (ss : List Int) (k : Nat) : (sumsTo ss k).length = k + 1 := by simp [sumsTo]
theorem sumsTo_get (ss : List Int) (k j : Nat) (h : j ≤ k) : (sumsTo ss k)[j]? = some (sumAt ss j) := by
  unfold sumsTo
  rw [List.getElem?_map, List.getElem?_range (by omega)]
  rfl
theorem sumAt_succ {ss : List Int} {k : Nat} {x : Int} (h : ss[k]? = some x) : sumAt ss (k + 1) = sumAt ss k + 4 * x := by
  obtain ⟨hk, e⟩ := List.getElem?_eq_some_iff.1 h
  unfold sumAt
  rw [List.take_succ_eq_append_getElem hk, List.sum_append, e]
  simp
  omega
theorem sumsTo_succ {ss : List Int} {k : Nat} {x : Int} (h : ss[k]? = some x) : sumsTo ss (k + 1) = sumsTo ss k ++ [sumAt ss k + 4 * x] := by
  rw [← sumAt_succ h]
  unfold sumsTo
  rw [List.range_succ, List.map_append]
  rfl
theorem sumAt_bd {ss : List Int} (h : ∀ x ∈ ss, 0 ≤ x ∧ x ≤ 4096) (k : Nat) (hk : k ≤ ss.length) : 0 ≤ sumAt ss k ∧ sumAt ss k ≤ 16384 * k := by
  induction k with
  | zero => simp [sumAt]
  | succ k ih =>
    have hx : ss[k]? = some ss[k] := List.getElem?_eq_getElem (by omega)
    rw [sumAt_succ hx]
    have := h ss[k] (List.getElem_mem _)
    have := ih (by omega)
    push_cast
    omega
structure Rk (w wr : World) (y B : Nat) (ss : List Int) (I S T : Value) (k : Nat) : Prop where
  lay : wr.heap[y]? = some (.cells #[.slice (some ⟨B, 0, none⟩) (k + 1) (ss.length + 1), I, S, T] 57 (0, 0))
  row : wr.heap[B]? = some (.cells (ints (sumsTo ss k ++ List.replicate (ss.length - k) 0)).toArray 3 (0, 0))
  sav : Sav (fun k => k = y) w wr
theorem Rk.start {w : World} {y : Nat} {ss : List Int} {P I S T : Value} {N : Nat} (hN : ss.length = N) (hy : w.heap[y]? = some (.cells #[P, I, S, T] 57 (0, 0))) :
    Rk w ((w.setCell ⟨y, 0, none⟩ (.slice (some ⟨w.heap.size, 0, none⟩) 1 (N + 1))).alloc (.cells (ints (List.replicate (N + 1) 0)).toArray 3)) y w.heap.size ss I S T 0 := by
  subst hN
  have hl : (w.setRow y ((#[P, I, S, T] : Array Value).setIfInBounds 0 (.slice (some ⟨w.heap.size, 0, none⟩) 1 (ss.length + 1)))).heap.size = w.heap.size := setRow_size _ _ _
  rw [setCell_eq_setRow _ y 0 _ _ (0, 0) _ hy]
  refine ⟨?_, ?_, ?_⟩
  · rw [heap_alloc_old _ _ (by rw [hl]; exact lt_of_heap hy)]
    exact setRow_heap _ _ _ _ _ _ hy
  · have e : sumsTo ss 0 ++ List.replicate (ss.length - 0) 0 = List.replicate (ss.length + 1) 0 := by
      rw [List.replicate_succ]
      rfl
    rw [e]
    have := heap_alloc_new (w.setRow y ((#[P, I, S, T] : Array Value).setIfInBounds 0 (.slice (some ⟨w.heap.size, 0, none⟩) 1 (ss.length + 1)))) (.cells (ints (List.replicate (ss.length + 1) 0)).toArray 3)
    rw [hl] at this
    exact this
  · exact (sav_setRow (g := y) (fun k => k = y) (Or.inl rfl) _).alloc _ _
theorem Rk.next {w wr w' : World} {y B : Nat} {ss : List Int} {I S T : Value} {k : Nat} {x : Int} (h : Rk w wr y B ss I S T k) (hk : ss[k]? = some x) (hB : w.heap.size ≤ B)
    (h1 : w'.heap[y]? = some (.cells #[.slice (some ⟨B, 0, none⟩) (k + 1 + 1) (ss.length + 1), I, S, T] 57 (0, 0)))
    (h2 : w'.heap[B]? = some (.cells (ints (sumsTo ss k ++ (sumAt ss k + 4 * x) :: List.replicate (ss.length - (k + 1)) 0)).toArray 3 (0, 0))) (h3 : Sav (fun k => k = y ∨ k = B) wr w') : Rk w w' y B ss I S T (k + 1) := by
  refine ⟨h1, ?_, ?_⟩
  · rw [sumsTo_succ hk, List.append_assoc]
    exact h2
  · refine ⟨h3.os.trans h.sav.os, h3.tape.trans h.sav.tape, h3.output.trans h.sav.output, Nat.le_trans h.sav.size h3.size, fun j hj hn => ?_, fun a => (h3.mark a).trans (h.sav.mark a)⟩
    exact (h3.block j (Nat.lt_of_lt_of_le hj h.sav.size) (by rintro (e | e); exact hn e; omega)).trans (h.sav.block j hj hn)
set_option maxHeartbeats 2000000 in
theorem reckon_any (y SB N ic sc : Nat) (ip : Option Addr) (P I S T : Value) (ss : List Int) (w : World) (hI : I = .slice ip N ic) (hS : S = .slice (some ⟨SB, 0, none⟩) N sc)
    (hy : w.heap[y]? = some (.cells #[P, I, S, T] 57 (0, 0))) (HSS : Hid (IntsAt w SB 0 ss)) (HN : Hid (ss.length = N)) (hN : N ≤ 40000) (HBD : Hid (∀ x ∈ ss, 0 ≤ x ∧ x ≤ 4096)) (hne : SB ≠ y) :
    Calls Try.prog 64 #[.pointer (some ⟨y, 0, none⟩)] w fun e w' => e = .returned (.tuple #[]) ∧ ∃ B, w.heap.size ≤ B ∧ Rk w w' y B ss I S T ss.length := by
  have q0 := cell_of_heap hy 0
  have q1 := cell_of_heap hy 1
  have q2 := cell_of_heap hy 2
  simp only [List.getElem?_toArray, List.getElem?_cons_zero, List.getElem?_cons_succ] at q0 q1 q2
  have f0 := frozen_of_heap hy 0
  have ly := lt_of_heap hy
  have HY := Lib.hid hy
  clear hy
  have hmk := make_ints 55 Try.underlying55 1 (N + 1) (by omega) (by omega)
  rw [show (((1 : Nat) : Int)) = 1 from rfl, show (((N + 1 : Nat) : Int)) = (N : Int) + 1 by omega] at hmk
  have q0' : (w.alloc (.cells (ints (List.replicate (N + 1) 0)).toArray 3)).cell? ⟨y, 0, none⟩ = some P := (World.cell?_alloc_lt _ _ _ ly).trans q0
  rw [hI] at q1
  rw [hS] at q2
  have HI := Lib.hid hI
  have HS := Lib.hid hS
  clear hI hS
  go_enter Try.func64, Try.ntmps64
  go_wp2_with fail
  have HR := Lib.hid (Rk.start (P := P) (I := I) (S := S) (T := T) HN.out HY.out)
  clear hmk q0 q0' q1 q2 f0
  generalize (w.setCell ⟨y, 0, none⟩ (.slice (some ⟨w.heap.size, 0, none⟩) 1 (N + 1))).alloc (.cells (ints (List.replicate (N + 1) 0)).toArray 3) = W0 at HR ⊢
  obtain ⟨B, hB⟩ : ∃ B, B = w.heap.size := ⟨_, rfl⟩
  have HBz : w.heap.size ≤ B := by omega
  rw [← hB] at HR
  have HSne : SB ≠ B := by have := HSS.out.1; omega
  have hyB : y ≠ B := by omega
  clear hB
  go_loopw [19] (fun i wr => ∃ k : Nat, k ≤ N ∧ i = .int .i64 k ∧ Hid (Rk w wr y B ss I S T k)) (fun i _ => N - (intOf i).toNat)
  case atStart => exact ⟨0, by omega, rfl, HR.out⟩
  case round =>
    rename_i wr
    obtain ⟨k, hk, rfl, HL⟩ := hrel
    by_cases hlt : k < N
    · obtain ⟨x, hx⟩ : ∃ x, ss[k]? = some x := ⟨_, List.getElem?_eq_getElem (by rw [HN.out]; exact hlt)⟩
      have hc := (HSS.out.sav HL.out.sav hne).2 k x hx
      rw [Nat.zero_add] at hc
      obtain ⟨x1, x2⟩ := HBD.out x (List.mem_of_getElem? hx)
      obtain ⟨s1, s2⟩ := sumAt_bd HBD.out k (by rw [HN.out]; exact hk)
      have hrep : List.replicate (ss.length - k) (0 : Int) = 0 :: List.replicate (ss.length - (k + 1)) 0 := by
        rw [HN.out, show N - k = (N - (k + 1)) + 1 by omega, List.replicate_succ]
      have hrow := HL.out.row
      rw [hrep] at hrow
      have HROW := Lib.hid hrow
      have HX := Lib.hid hx
      have hS1 := sumsTo_get ss k k (Nat.le_refl _)
      obtain ⟨sk, hsk⟩ : ∃ sk, sumAt ss k = sk := ⟨_, rfl⟩
      rw [hsk] at s1 s2 hS1
      have HS1 := Lib.hid hS1
      have HSK := Lib.hid hsk
      clear hrow hrep hx hS1 hsk
      go_wp2_with fail
      refine (put_any y B (k + 1) (ss.length + 1) (sumsTo ss k) (List.replicate (ss.length - (k + 1)) 0) 0 sk x I S T _ HL.out.lay HROW.out (sumsTo_len ss k) (by rw [HN.out]; omega) (by rw [HN.out]; omega) (by omega) (by simpa using HS1.out) (Ne.symm hyB) (by omega) (by omega) x1 (by omega)).mono ?_
      rintro e w' ⟨rfl, h1, h2, h3⟩
      have HNX := Lib.hid (HL.out.next HX.out HBz h1 (by rw [HSK.out]; exact h2) h3)
      clear h1 h2 h3 hc
      go_wp2_with fail
      go_roundw
      case rel => exact ⟨k + 1, hlt, by go_num, HNX.out⟩
      case measure => simp [intOf]; omega
    · obtain rfl : k = N := by omega
      go_wp2_with fail
      go_end0
      exact ⟨rfl, B, HBz, by rw [HN.out]; exact HL.out⟩
end Go.Proofs.Ytjjbfeoidceiiaa
