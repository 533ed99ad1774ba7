/- Words of a text of no byte. -/
import Derived.RangeFuncNested
import Derived.RangeFuncBound
import Derived.RangeFuncCalls
import Derived.RangeFuncLeaves
import Derived.RangeFuncFrom
import Derived.Shelf.Abstract
import Derived.Shelf.RegionOpen
import Derived.WalkKit
import Derived.OwnWalkIn
import Derived.TacticsInMore
import Derived.LoopNIn
import Derived.LoopIn
import Derived.Test.YtbfmlbcjggplgaaGreatDoorIBase
namespace Go.Proofs.YtbfmlbcjggplgaaGreatDoor
open Go.RowKit Go.Shelf Im
set_option linter.unusedVariables false
attribute [local go_sem] Oper.semAt_some
theorem fieldsSeq_in (F : Fence) (n : Nat) (h6 : F.fn 64) (hro : F.round = none) (s : ByteArray) (w : World) :
    CallsIn F n Tryz.prog 64 #[.string s] w fun e w' => e = .returned (.func (.func 80) #[] #[.pointer (some ⟨w.heap.size, 0, none⟩)]) ∧ w' = w.alloc (.cells #[.string s] 9) := by
  refine callsIn_of_wp Tryz.func64 rfl h6 ?_ hro
  simp only [Tryz.ntmps64, List.size_toArray, List.length_cons, List.length_nil, Nat.reduceAdd, Nat.reduceSub, Array.replicate_succ, Array.replicate_zero, List.push_toArray, List.append_toArray, List.nil_append, List.cons_append]
  gi_wp2
  go_ret
  exact ⟨rfl, rfl⟩
set_option maxHeartbeats 2000000 in
theorem fields0_in (F : Fence) (n : Nat) (h6 : F.fn 80) (hro : F.round = none) (l Bn : Nat) (J Jx : List ByteArray → World → Prop)
    (W : World) (hBn : W.cell? ⟨Bn, 0, none⟩ = some (.string ⟨#[]⟩)) (h0 : J [] W) :
    CallsIn F n Tryz.prog 80 #[.func (.yield l) #[] #[], .pointer (some ⟨Bn, 0, none⟩)] W fun e W' => (∃ v, e = .returned v) ∧
      ((∃ ys, ys = [] ∧ J ys W') ∨ (∃ pre, pre = [] ∧ False ∧ Jx pre W')) := by
  refine callsIn_of_wp Tryz.func80 rfl h6 ?_ hro
  simp only [Tryz.ntmps80, List.size_toArray, List.length_cons, List.length_nil, Nat.reduceAdd, Nat.reduceSub, Array.replicate_succ, Array.replicate_zero, List.push_toArray, List.append_toArray, List.nil_append, List.cons_append]
  gi_wp2
  gi_loopw [3, 4] (fun a b wr => a = .int .i64 (-1) ∧ b = .int .i64 0 ∧ wr = W) (fun a b _ => 0)
  case atStart => exact ⟨rfl, rfl, rfl⟩
  case round =>
    obtain ⟨rfl, rfl, rfl⟩ := hrel
    gi_wp2
    go_end0
    exact ⟨⟨_, rfl⟩, .inl ⟨[], rfl, h0⟩⟩
theorem fields0_stops (F : Fence) (n : Nat) (h6 : F.fn 80) (hro : F.round = none) (Bn : Nat) (Kp : World → World → Prop) (w : World) (hlt : Bn < w.heap.size) (hBn : w.cell? ⟨Bn, 0, none⟩ = some (.string ⟨#[]⟩)) :
    SeqStopsK F n Tryz.prog 80 #[.pointer (some ⟨Bn, 0, none⟩)] (fun x : ByteArray => #[.string x]) Kp (fun xs => xs = []) (fun _ => False) 0 w := by
  intro l J Jx W hW hJ hJx hY h0
  have hB : W.cell? ⟨Bn, 0, none⟩ = some (.string ⟨#[]⟩) := (hW.cell (p := ⟨Bn, 0, none⟩) hlt).trans hBn
  refine (fields0_in F n h6 hro l Bn J Jx W hB h0).mono ?_
  rintro e W' ⟨hv, h⟩
  refine ⟨hv, ?_⟩
  rcases h with ⟨ys, h1, h2⟩ | ⟨_, _, h, _⟩
  · exact .inl ⟨ys, h1, h2⟩
  · exact h.elim
set_option maxHeartbeats 2000000 in
theorem readWords0_in (F : Fence) (n : Nat) (h3 : F.fn 48) (h5 : F.fn 64) (h6 : F.fn 80) (hro : F.round = none) (hn : 3 ≤ n) (w : World) :
    CallsIn F n Tryz.prog 48 #[.string ⟨#[]⟩] w fun e w' => e = .returned (.slice none 0 0) ∧ Below w.heap.size w w' := by
  have h1 : 1 ≤ n := by omega
  refine callsIn_of_wp_marks Tryz.func48 rfl h3 ?_ hro
  simp only [Tryz.ntmps48, List.size_toArray, List.length_cons, List.length_nil, Nat.reduceAdd, Nat.reduceSub, Array.replicate_succ, Array.replicate_zero, List.push_toArray, List.append_toArray, List.nil_append, List.cons_append]
  gi_wp2_with (gi_at_call 64; refine (fieldsSeq_in F (n - 1) h5 hro _ _).mono ?_; rintro e w' ⟨rfl, rfl⟩)
  have hs : (w.alloc (.cells #[.slice none 0 0] 22)).cell? ⟨w.heap.size, 0, none⟩ = some (.slice none 0 0) := cell_of_heap (heap_alloc_new w _) 0
  have hb := cell_of_heap (heap_alloc_new (w.alloc (.cells #[.slice none 0 0] 22)) (.cells #[.string ⟨#[]⟩] 9)) 0
  rw [World.size_alloc] at hb
  have hs2 : ((w.alloc (.cells #[.slice none 0 0] 22)).alloc (.cells #[.string ⟨#[]⟩] 9)).cell? ⟨w.heap.size, 0, none⟩ = some (.slice none 0 0) := (((Bel.refl _).alloc _ _).cell (p := ⟨w.heap.size, 0, none⟩) (by simp)).trans hs
  refine wpIn_rangeFunc_ownF hro h1 (gf := 80) (lb := #[.pointer (some ⟨w.heap.size + 1, 0, none⟩)]) rfl h6 (enters_of Tryz.func80 (by kernel_rfl) rfl)
    (fields0_stops F (n - 1) h6 hro (w.heap.size + 1) (fun _ _ => True) _ (by simp) hb) (fun _ _ => trivial) (fun _ _ _ _ _ _ _ _ => trivial) (Below.refl _ _) (fun _ => rfl)
    (fun pre W => W.cell? ⟨w.heap.size, 0, none⟩ = some (.slice none 0 0) ∧ Below w.heap.size w W)
    (fun _ _ _ => False)
    (OwnFrom.and (Own.from (fun s A B row hs hg hr => cell_kept hs hg hr) _) (ownFrom_below (Nat.le_refl _) (by simp; omega)))
    (fun _ _ _ _ _ hs _ _ => hs)
    ⟨hs2, ((Below.refl _ w).alloc (Nat.le_refl _) _).alloc (by simp) _⟩
    (fun x => { tmps := #[.string ⟨#[]⟩, undef, .slice none 0 0, .pointer (some ⟨w.heap.size, 0, none⟩), .string x, .string ⟨#[]⟩, .func (.func 80) #[] #[.pointer (some ⟨w.heap.size + 1, 0, none⟩)], .string x, undef, undef, undef, undef, undef, undef], defers := [] }) ?assign ?body ?done ?stop
  case assign =>
    intro l x W K hK
    gi_wp2
    exact hK
  case body => exact fun _ pre x W _ h => absurd h (Nat.not_lt_zero _)
  case done =>
    rintro D ys W hD rfl ⟨hc, hB⟩ hK
    gi_wp2
    refine ⟨by simp, .inl ⟨_, _, rfl, run_takeDeferred hK, ?_⟩⟩
    exact ⟨_, results_tmp rfl _ _ _, rfl, hB.trans (belowK_b (w := w) (Nat.le_refl _) W D _ _ (by simp at hD; omega) hK rfl rfl)⟩
  case stop =>
    rintro D c pre W _ _ h _
    exact h.elim
theorem readWords0 (w : World) : Calls Tryz.prog 48 #[.string ⟨#[]⟩] w fun e w' => e = .returned (.slice none 0 0) ∧ Bel w w' :=
  (callsIn_wide (n := 3)).1 (readWords0_in Fence.wide 3 trivial trivial trivial rfl (by omega) w)
end Go.Proofs.YtbfmlbcjggplgaaGreatDoor
