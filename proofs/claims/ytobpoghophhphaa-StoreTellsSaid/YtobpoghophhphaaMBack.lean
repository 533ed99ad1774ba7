/- slices.Backward over entries: its iterator's contract. -/
import Derived.RangeFuncNested
import Derived.RangeFuncBound
import Derived.RangeFuncCalls
import Derived.RangeFuncLeaves
import Derived.RangeFuncBox
import Derived.Shelf.Abstract
import Derived.Shelf.RegionOpen
import Derived.OwnWalkIn
import Derived.TacticsInMore
import Derived.LoopNIn
import Derived.LoopIn
import Derived.Test.YtobpoghophhphaaMArr
namespace Go.Proofs.Ytobpoghophhphaa
open Go.RowKit Go.Shelf Mm
attribute [local go_sem] Oper.semAt_some
set_option linter.unusedVariables false
set_option linter.unusedSimpArgs false
/-- what has come when k rounds are over -/
def upto {α : Type} (f : Nat → α) (k : Nat) : List α := (List.range k).map f
theorem upto_succ {α : Type} (f : Nat → α) (k : Nat) : upto f (k + 1) = upto f k ++ [f k] := by simp [upto, List.range_succ]
theorem upto_length {α : Type} (f : Nat → α) (k : Nat) : (upto f k).length = k := by simp [upto]
def bk (zs : List (Int × Int)) (j : Nat) : Nat × (Int × Int) := (zs.length - 1 - j, zs.getD (zs.length - 1 - j) (0, 0))
/-- what a round keeps: what lay below, and one block of cells -/
def Kb (n₀ Bs : Nat) (A B : World) : Prop := Below n₀ A B ∧ ∀ cs t fr, A.heap[Bs]? = some (.cells cs t fr) → B.heap[Bs]? = some (.cells cs t fr)
theorem Kb.refl (n₀ Bs : Nat) (A : World) : Kb n₀ Bs A A := ⟨Below.refl _ _, fun _ _ _ h => h⟩
theorem Kb.trans {n₀ Bs : Nat} {A B C : World} (h : Kb n₀ Bs A B) (k : Kb n₀ Bs B C) : Kb n₀ Bs A C := ⟨h.1.trans k.1, fun cs t fr hc => k.2 cs t fr (h.2 cs t fr hc)⟩
abbrev encB (x : Nat × (Int × Int)) : Array Value := #[.int .i64 (x.1 : Int), .agg #[.int .i64 x.2.1, .int .i64 x.2.2]]
set_option maxRecDepth 100000 in
set_option maxHeartbeats 2000000 in
theorem back1_in (F : Fence) (n : Nat) (h61 : F.fn 47) (hro : F.round = none) (hn : 1 ≤ n) (l Bs n₀ b cap : Nat) (zs : List (Int × Int)) (hz : zs.length ≤ 8) (hb : b < n₀) (J Jx : List (Nat × (Int × Int)) → World → Prop)
    (hY : ∀ pre x W, J pre W → pre.length < zs.length → YieldAt F (n - 1) Try.prog l (encB x) W fun e W' =>
      (e = .returned (.bool true) ∧ J (pre ++ [x]) W' ∧ Kb n₀ Bs W W') ∨ (e = .returned (.bool false) ∧ Jx (pre ++ [x]) W'))
    (W : World) {t : TypeId} (hBs : W.heap[Bs]? = some (.cells #[.slice (some ⟨b, 0, none⟩) zs.length cap] t (0, 0))) (hc : ∀ (j : Nat) (x : Int × Int), zs[j]? = some x → W.cell? ⟨b, j * 2, none⟩ = some (.int .i64 x.1) ∧ W.cell? ⟨b, j * 2 + 1, none⟩ = some (.int .i64 x.2)) (hcap : zs.length ≤ cap) (h0 : J [] W) :
    CallsIn F n Try.prog 47 #[.func (.yield l) #[] #[], .pointer (some ⟨Bs, 0, none⟩)] W fun e W' => (∃ v, e = .returned v) ∧
      ((∃ ys, ys = upto (bk zs) zs.length ∧ J ys W') ∨ (∃ pre, (∃ k, k < zs.length ∧ pre = upto (bk zs) (k + 1)) ∧ Jx pre W')) := by
  have hcB := cell_of_heap hBs 0
  refine callsIn_of_wp Try.func47 rfl h61 ?_ hro
  simp only [Try.ntmps47, List.size_toArray, List.length_cons, List.length_nil, Nat.reduceAdd, Nat.reduceSub, Array.replicate_succ, Array.replicate_zero, List.push_toArray, List.append_toArray, List.nil_append, List.cons_append]
  simp only [List.getElem?_toArray, List.getElem?_cons_zero, List.getElem?_cons_succ] at hcB
  gi_wp2
  gi_loopw [3] (fun i wr => ∃ k : Nat, k ≤ zs.length ∧ i = .int .i64 ((zs.length : Int) - 1 - (k : Int)) ∧ J (upto (bk zs) k) wr ∧ Kb n₀ Bs W wr) (fun i _ => (intOf i + 1).toNat)
  case atStart => exact ⟨0, Nat.zero_le _, by simp, h0, Kb.refl _ _ _⟩
  case round =>
    obtain ⟨k, hk, rfl, hJs, hnx⟩ := hrel
    by_cases hlt : k < zs.length
    · obtain ⟨j, hj⟩ : ∃ j : Nat, zs.length - 1 - k = j := ⟨_, rfl⟩
      have hjl : j < zs.length := by omega
      obtain ⟨x, hx⟩ : ∃ x, zs[j]? = some x := ⟨_, List.getElem?_eq_getElem hjl⟩
      have hbk : bk zs k = (j, x) := by
        unfold bk
        rw [hj, List.getD_eq_getElem?_getD, hx]
        rfl
      have hji : (zs.length : Int) - 1 - (k : Int) = (j : Int) := by omega
      obtain ⟨fn, tmps, assign, body, hy, hR⟩ := hY _ (bk zs k) wr hJs (by rw [upto_length]; exact hlt)
      rw [hbk] at hy
      obtain ⟨c0, c1⟩ := hc j x hx
      have c0' := (hnx.1.cell (p := ⟨b, j * 2, none⟩) hb).trans c0
      have c1' := (hnx.1.cell (p := ⟨b, j * 2 + 1, none⟩) hb).trans c1
      have hcB' := cell_of_heap (hnx.2 _ _ _ hBs) 0
      simp only [List.getElem?_toArray, List.getElem?_cons_zero, List.getElem?_cons_succ] at hcB'
      rw [hji]
      clear c0 c1 hcB
      have hjz : (0 : Int) ≤ (j : Int) := by omega
      clear hbk hx
      gi_wp2
      refine hR.mono ?_
      rintro e W3 (⟨rfl, hJ3, hk3⟩ | ⟨rfl, hJx3⟩)
      · gi_wp2
        go_roundw
        case rel => exact ⟨k + 1, by omega, by congr 1; omega, by rw [upto_succ]; exact hJ3, hnx.trans hk3⟩
        case measure => simp [intOf]
      · gi_wp2
        refine bodyPost_ret (results_none rfl _ _ _) rfl ?_
        exact ⟨⟨_, rfl⟩, .inr ⟨_, ⟨k, hlt, (upto_succ _ _).symm⟩, hJx3⟩⟩
    · obtain rfl : k = zs.length := by omega
      have hji : (zs.length : Int) - 1 - (zs.length : Int) = -1 := by omega
      rw [hji]
      gi_wp2
      go_end0
      exact ⟨⟨_, rfl⟩, .inl ⟨_, rfl, hJs⟩⟩
set_option maxRecDepth 100000 in
set_option maxHeartbeats 1000000 in
theorem back1_nil_in (F : Fence) (n : Nat) (h61 : F.fn 47) (hro : F.round = none) (l Bs : Nat) (J : List (Nat × (Int × Int)) → World → Prop) (W : World) (hcB : W.cell? ⟨Bs, 0, none⟩ = some (.slice none 0 0)) (h0 : J [] W) :
    CallsIn F n Try.prog 47 #[.func (.yield l) #[] #[], .pointer (some ⟨Bs, 0, none⟩)] W fun e W' => (∃ v, e = .returned v) ∧ J [] W' := by
  refine callsIn_of_wp Try.func47 rfl h61 ?_ hro
  simp only [Try.ntmps47, List.size_toArray, List.length_cons, List.length_nil, Nat.reduceAdd, Nat.reduceSub, Array.replicate_succ, Array.replicate_zero, List.push_toArray, List.append_toArray, List.nil_append, List.cons_append]
  gi_wp2
  gi_loopw [3] (fun i wr => i = .int .i64 (-1) ∧ J [] wr) (fun _ _ => 0)
  case atStart => exact ⟨rfl, h0⟩
  case round =>
    obtain ⟨rfl, hJs⟩ := hrel
    gi_wp2
    go_end0
    exact ⟨⟨_, rfl⟩, hJs⟩
set_option maxHeartbeats 1000000 in
theorem back_in (F : Fence) (n : Nat) (h39 : F.fn 30) (hro : F.round = none) (a : Option Addr) (len cap : Nat) (w : World) :
    CallsIn F n Try.prog 30 #[.slice a len cap] w fun e w' => e = .returned (.func (.func 47) #[] #[.pointer (some ⟨w.heap.size, 0, none⟩)]) ∧ w' = w.alloc (.cells #[.slice a len cap] 46) := by
  refine callsIn_of_wp Try.func30 rfl h39 ?_ hro
  simp only [Try.ntmps30, List.size_toArray, List.length_cons, List.length_nil, Nat.reduceAdd, Nat.reduceSub, Array.replicate_succ, Array.replicate_zero, List.push_toArray, List.append_toArray, List.nil_append, List.cons_append]
  gi_wp2
  go_ret
  exact ⟨rfl, rfl⟩
/-- the row of a hart, backwards: all of it, or its last ones -/
theorem back_stops (F : Fence) (n : Nat) (h61 : F.fn 47) (hro : F.round = none) (hn : 1 ≤ n) (Bs n₀ : Nat) (s : Sl) (zs : List (Int × Int)) (hz : zs.length ≤ 8) (w : World) (hn₀ : n₀ ≤ w.heap.size) {t : TypeId}
    (hBs : w.heap[Bs]? = some (.cells #[.slice s.p s.n s.c] t (0, 0))) {w0 : World} {base : Nat} (hrow : ERow encE 48 2 w0 base s.val zs) (hw0 : w0.heap.size ≤ n₀) (hbel : Bel w0 w) :
    SeqStopsK F n Try.prog 47 #[.pointer (some ⟨Bs, 0, none⟩)] encB (Kb n₀ Bs) (fun ys => ys = upto (bk zs) zs.length) (fun pre => ∃ k, k < zs.length ∧ pre = upto (bk zs) (k + 1)) zs.length w := fun l J Jx W hW _ _ hY h0 => by
  have hBs' : W.heap[Bs]? = some (.cells #[.slice s.p s.n s.c] t (0, 0)) := (hW.block Bs (lt_of_heap hBs)).trans hBs
  have hbel' : Bel w0 W := hbel.trans hW
  obtain ⟨p, n', c⟩ := s
  have hnn : n' = zs.length := hrow.n
  have hcc : n' ≤ c := hrow.c
  rcases ERow.two (enc := encE) (k := 2) (fun _ => rfl) hrow with ⟨h1, h2, h3, h4⟩ | ⟨b, h1, hb1, hb2, hx⟩
  · simp only at h1 h2 h3
    subst h1 h2 h3 h4
    have hcB := cell_of_heap hBs' 0
    simp only [List.getElem?_toArray, List.getElem?_cons_zero] at hcB
    exact (back1_nil_in F n h61 hro l Bs J W hcB h0).mono fun e W' ⟨he, hj⟩ => ⟨he, .inl ⟨_, rfl, hj⟩⟩
  · simp only at h1
    subst h1 hnn
    refine back1_in F n h61 hro hn l Bs n₀ b c zs hz (by omega) J Jx hY W hBs' (fun j x hj => ?_) hcc h0
    have h1 := hx j x hj 0 _ rfl
    have h2 := hx j x hj 1 _ rfl
    exact ⟨(hbel'.cell (p := ⟨b, j * 2 + 0, none⟩) hb2).trans h1, (hbel'.cell (p := ⟨b, j * 2 + 1, none⟩) hb2).trans h2⟩
theorem kb_t (n₀ Bs : Nat) : ∀ {A B C : World}, Kb n₀ Bs A B → Kb n₀ Bs B C → Kb n₀ Bs A C := fun h k => h.trans k
theorem kb_b {w : World} {n₀ Bs : Nat} (hn : n₀ ≤ w.heap.size) : ∀ (W : World) (l : Nat) (o o' : Obj), w.heap.size ≤ l → W.heap[l]? = some o → o.isCells = false → o.isWalk = false → Kb n₀ Bs W (W.putObj l o') := fun W l o o' hl ho h1 h2 =>
  ⟨belowK_b hn W l o o' hl ho h1 h2, fun cs t fr hc => (World.putObj_heap_other (fun e => by
    subst e
    rw [hc] at ho
    injection ho with ho
    rw [← ho] at h1
    cases h1)).trans hc⟩
end Go.Proofs.Ytobpoghophhphaa
