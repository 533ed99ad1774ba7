/- Places laid by sizes: reckon of package label. -/
import Derived.Test.YtcockpphacebbaaLPut
namespace Go.Proofs.Ytcockpphacebbaa
open Go.RowKit Rv Lb
set_option linter.unusedVariables false
/-- the places that sizes make, in bytes -/
def sumAt (ss : List Int) (k : Nat) : Int := 4 * (ss.take k).sum
def sumsTo (ss : List Int) (k : Nat) : List Int := (List.range (k + 1)).map (sumAt ss)
theorem sumsTo_len (ss : List Int) (k : Nat) : (sumsTo ss k).length = k + 1 := by simp [sumsTo]
theorem sumsTo_get (ss : List Int) (k j : Nat) (h : j ≤ k) : (sumsTo ss k)[j]? = some (sumAt ss j) := by
  unfold sumsTo
  rw [List.getElem?_map, List.getElem?_range (by omega)]
  rfl
theorem sumAt_succ {ss : List Int} {k : Nat} {x : Int} (h : ss[k]? = some x) : sumAt ss (k + 1) = sumAt ss k + 4 * x := by
  obtain ⟨hk, e⟩ := List.getElem?_eq_some_iff.1 h
  unfold sumAt
  rw [List.take_succ_eq_append_getElem hk, List.sum_append, e]
  simp
  omega
theorem sumsTo_succ {ss : List Int} {k : Nat} {x : Int} (h : ss[k]? = some x) : sumsTo ss (k + 1) = sumsTo ss k ++ [sumAt ss k + 4 * x] := by
  rw [← sumAt_succ h]
  unfold sumsTo
  rw [List.range_succ, List.map_append]
  rfl
theorem sumAt_bd {ss : List Int} (h : ∀ x ∈ ss, 0 ≤ x ∧ x ≤ 4096) (k : Nat) (hk : k ≤ ss.length) : 0 ≤ sumAt ss k ∧ sumAt ss k ≤ 16384 * k := by
  induction k with
  | zero => simp [sumAt]
  | succ k ih =>
    have hx : ss[k]? = some ss[k] := List.getElem?_eq_getElem (by omega)
    rw [sumAt_succ hx]
    have := h ss[k] (List.getElem_mem _)
    have := ih (by omega)
    push_cast
    omega
structure Rk (w wr : World) (y B : Nat) (ss : List Int) (I S T : Value) (k : Nat) : Prop where
  lay : wr.heap[y]? = some (.cells #[.slice (some ⟨B, 0, none⟩) (k + 1) (ss.length + 1), I, S, T] 57 (0, 0))
  row : wr.heap[B]? = some (.cells (ints (sumsTo ss k ++ List.replicate (ss.length - k) 0)).toArray 3 (0, 0))
  sav : Sav (fun k => k = y) w wr
theorem Rk.start {w : World} {y : Nat} {ss : List Int} {P I S T : Value} {N : Nat} (hN : ss.length = N) (hy : w.heap[y]? = some (.cells #[P, I, S, T] 57 (0, 0))) :
    Rk w ((w.setCell ⟨y, 0, none⟩ (.slice (some ⟨w.heap.size, 0, none⟩) 1 (N + 1))).alloc (.cells (ints (List.replicate (N + 1) 0)).toArray 3)) y w.heap.size ss I S T 0 := by
  subst hN
  have hl : (w.setRow y ((#[P, I, S, T] : Array Value).setIfInBounds 0 (.slice (some ⟨w.heap.size, 0, none⟩) 1 (ss.length + 1)))).heap.size = w.heap.size := setRow_size _ _ _
  rw [setCell_eq_setRow _ y 0 _ _ (0, 0) _ hy]
  refine ⟨?_, ?_, ?_⟩
  · rw [heap_alloc_old _ _ (by rw [hl]; exact lt_of_heap hy)]
    exact setRow_heap _ _ _ _ _ _ hy
  · have e : sumsTo ss 0 ++ List.replicate (ss.length - 0) 0 = List.replicate (ss.length + 1) 0 := by
      rw [List.replicate_succ]
      rfl
    rw [e]
    have := heap_alloc_new (w.setRow y ((#[P, I, S, T] : Array Value).setIfInBounds 0 (.slice (some ⟨w.heap.size, 0, none⟩) 1 (ss.length + 1)))) (.cells (ints (List.replicate (ss.length + 1) 0)).toArray 3)
    rw [hl] at this
    exact this
  · exact (sav_setRow (g := y) (fun k => k = y) (Or.inl rfl) _).alloc _ _
theorem Rk.next {w wr w' : World} {y B : Nat} {ss : List Int} {I S T : Value} {k : Nat} {x : Int} (h : Rk w wr y B ss I S T k) (hk : ss[k]? = some x) (hB : w.heap.size ≤ B)
    (h1 : w'.heap[y]? = some (.cells #[.slice (some ⟨B, 0, none⟩) (k + 1 + 1) (ss.length + 1), I, S, T] 57 (0, 0)))
    (h2 : w'.heap[B]? = some (.cells (ints (sumsTo ss k ++ (sumAt ss k + 4 * x) :: List.replicate (ss.length - (k + 1)) 0)).toArray 3 (0, 0))) (h3 : Sav (fun k => k = y ∨ k = B) wr w') : Rk w w' y B ss I S T (k + 1) := by
  refine ⟨h1, ?_, ?_⟩
  · rw [sumsTo_succ hk, List.append_assoc]
    exact h2
  · refine ⟨h3.os.trans h.sav.os, h3.tape.trans h.sav.tape, h3.output.trans h.sav.output, Nat.le_trans h.sav.size h3.size, fun j hj hn => ?_, fun a => (h3.mark a).trans (h.sav.mark a)⟩
    exact (h3.block j (Nat.lt_of_lt_of_le hj h.sav.size) (by rintro (e | e); exact hn e; omega)).trans (h.sav.block j hj hn)
set_option maxHeartbeats 2000000 in
theorem reckon_any (y SB N ic sc : Nat) (ip : Option Addr) (P I S T : Value) (ss : List Int) (w : World) (hI : I = .slice ip N ic) (hS : S = .slice (some ⟨SB, 0, none⟩) N sc)
    (hy : w.heap[y]? = some (.cells #[P, I, S, T] 57 (0, 0))) (HSS : Hid (IntsAt w SB 0 ss)) (HN : Hid (ss.length = N)) (hN : N ≤ 40000) (HBD : Hid (∀ x ∈ ss, 0 ≤ x ∧ x ≤ 4096)) (hne : SB ≠ y) :
    Calls Try.prog 64 #[.pointer (some ⟨y, 0, none⟩)] w fun e w' => e = .returned (.tuple #[]) ∧ ∃ B, w.heap.size ≤ B ∧ Rk w w' y B ss I S T ss.length := by
  have q0 := cell_of_heap hy 0
  have q1 := cell_of_heap hy 1
  have q2 := cell_of_heap hy 2
  simp only [List.getElem?_toArray, List.getElem?_cons_zero, List.getElem?_cons_succ] at q0 q1 q2
  have f0 := frozen_of_heap hy 0
  have ly := lt_of_heap hy
  have HY := Lib.hid hy
  clear hy
  have hmk := make_ints 55 Try.underlying55 1 (N + 1) (by omega) (by omega)
  rw [show (((1 : Nat) : Int)) = 1 from rfl, show (((N + 1 : Nat) : Int)) = (N : Int) + 1 by omega] at hmk
  have q0' : (w.alloc (.cells (ints (List.replicate (N + 1) 0)).toArray 3)).cell? ⟨y, 0, none⟩ = some P := (World.cell?_alloc_lt _ _ _ ly).trans q0
  rw [hI] at q1
  rw [hS] at q2
  have HI := Lib.hid hI
  have HS := Lib.hid hS
  clear hI hS
  go_enter Try.func64, Try.ntmps64
  go_wp2_with fail
  have HR := Lib.hid (Rk.start (P := P) (I := I) (S := S) (T := T) HN.out HY.out)
  clear hmk q0 q0' q1 q2 f0
  generalize (w.setCell ⟨y, 0, none⟩ (.slice (some ⟨w.heap.size, 0, none⟩) 1 (N + 1))).alloc (.cells (ints (List.replicate (N + 1) 0)).toArray 3) = W0 at HR ⊢
  obtain ⟨B, hB⟩ : ∃ B, B = w.heap.size := ⟨_, rfl⟩
  have HBz : w.heap.size ≤ B := by omega
  rw [← hB] at HR
  have HSne : SB ≠ B := by have := HSS.out.1; omega
  have hyB : y ≠ B := by omega
  clear hB
  go_loopw [19] (fun i wr => ∃ k : Nat, k ≤ N ∧ i = .int .i64 k ∧ Hid (Rk w wr y B ss I S T k)) (fun i _ => N - (intOf i).toNat)
  case atStart => exact ⟨0, by omega, rfl, HR.out⟩
  case round =>
    rename_i wr
    obtain ⟨k, hk, rfl, HL⟩ := hrel
    by_cases hlt : k < N
    · obtain ⟨x, hx⟩ : ∃ x, ss[k]? = some x := ⟨_, List.getElem?_eq_getElem (by rw [HN.out]; exact hlt)⟩
      have hc := (HSS.out.sav HL.out.sav hne).2 k x hx
      rw [Nat.zero_add] at hc
      obtain ⟨x1, x2⟩ := HBD.out x (List.mem_of_getElem? hx)
      obtain ⟨s1, s2⟩ := sumAt_bd HBD.out k (by rw [HN.out]; exact hk)
      have hrep : List.replicate (ss.length - k) (0 : Int) = 0 :: List.replicate (ss.length - (k + 1)) 0 := by
        rw [HN.out, show N - k = (N - (k + 1)) + 1 by omega, List.replicate_succ]
      have hrow := HL.out.row
      rw [hrep] at hrow
      have HROW := Lib.hid hrow
      have HX := Lib.hid hx
      have hS1 := sumsTo_get ss k k (Nat.le_refl _)
      obtain ⟨sk, hsk⟩ : ∃ sk, sumAt ss k = sk := ⟨_, rfl⟩
      rw [hsk] at s1 s2 hS1
      have HS1 := Lib.hid hS1
      have HSK := Lib.hid hsk
      clear hrow hrep hx hS1 hsk
      go_wp2_with fail
      refine (put_any y B (k + 1) (ss.length + 1) (sumsTo ss k) (List.replicate (ss.length - (k + 1)) 0) 0 sk x I S T _ HL.out.lay HROW.out (sumsTo_len ss k) (by rw [HN.out]; omega) (by rw [HN.out]; omega) (by omega) (by simpa using HS1.out) (Ne.symm hyB) (by omega) (by omega) x1 (by omega)).mono ?_
      rintro e w' ⟨rfl, h1, h2, h3⟩
      have HNX := Lib.hid (HL.out.next HX.out HBz h1 (by rw [HSK.out]; exact h2) h3)
      clear h1 h2 h3 hc
      go_wp2_with fail
      go_roundw
      case rel => exact ⟨k + 1, hlt, by go_num, HNX.out⟩
      case measure => simp [intOf]; omega
    · obtain rfl : k = N := by omega
      go_wp2_with fail
      go_end0
      exact ⟨rfl, B, HBz, by rw [HN.out]; exact HL.out⟩
end Go.Proofs.Ytcockpphacebbaa
