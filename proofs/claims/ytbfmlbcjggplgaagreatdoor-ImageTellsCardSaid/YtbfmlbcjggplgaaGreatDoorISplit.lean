/- strings.SplitSeq at a line feed: the pieces of a text. -/
import Derived.RangeFuncNested
import Derived.RangeFuncBound
import Derived.RangeFuncCalls
import Derived.RangeFuncLeaves
import Derived.RangeFuncFrom
import Derived.Shelf.Abstract
import Derived.Shelf.RegionOpen
import Derived.WalkKit
import Derived.OwnWalkIn
import Derived.TacticsInMore
import Derived.LoopNIn
import Derived.LoopIn
import Derived.Test.YtbfmlbcjggplgaaGreatDoorIRange
import Derived.Test.YtbfmlbcjggplgaaGreatDoorISplitP
import Derived.Test.YtbfmlbcjggplgaaGreatDoorIShelf2
namespace Go.Proofs.YtbfmlbcjggplgaaGreatDoor
open Go.RowKit Go.Shelf Im
set_option linter.unusedVariables false
attribute [local go_sem] Oper.semAt_some
/-- a text that is no longer than this -/
abbrev Txt := { x : ByteArray // x.size ≤ 1000000 }
abbrev txtV (x : Txt) : Array Value := #[.string x.1]
theorem splitSeq_in (n : Nat) (s sep : ByteArray) (w : World) :
    CallsIn Fence.wide n Tryz.prog 88 #[.string s, .string sep, .int .i64 0] w fun e w' => e = .returned (.func (.func 106) #[] #[.pointer (some ⟨w.heap.size + 1, 0, none⟩), .pointer (some ⟨w.heap.size, 0, none⟩), .pointer (some ⟨w.heap.size + 1 + 1, 0, none⟩)]) ∧ w' = ((w.alloc (.cells #[.string s] 9)).alloc (.cells #[.string sep] 9)).alloc (.cells #[.int .i64 0] 3) := by
  refine callsIn_of_wp Tryz.func88 rfl trivial ?_ rfl
  simp only [Tryz.ntmps88, List.size_toArray, List.length_cons, List.length_nil, Nat.reduceAdd, Nat.reduceSub, Array.replicate_succ, Array.replicate_zero, List.push_toArray, List.append_toArray, List.nil_append, List.cons_append]
  gi_wp2
  go_ret
  exact ⟨rfl, rfl⟩
theorem SplitSeq_in (n : Nat) (hn : 1 ≤ n) (s sep : ByteArray) (w : World) :
    CallsIn Fence.wide n Tryz.prog 67 #[.string s, .string sep] w fun e w' => e = .returned (.func (.func 106) #[] #[.pointer (some ⟨w.heap.size + 1, 0, none⟩), .pointer (some ⟨w.heap.size, 0, none⟩), .pointer (some ⟨w.heap.size + 1 + 1, 0, none⟩)]) ∧ w' = ((w.alloc (.cells #[.string s] 9)).alloc (.cells #[.string sep] 9)).alloc (.cells #[.int .i64 0] 3) := by
  refine callsIn_of_wp Tryz.func67 rfl trivial ?_ rfl
  simp only [Tryz.ntmps67, List.size_toArray, List.length_cons, List.length_nil, Nat.reduceAdd, Nat.reduceSub, Array.replicate_succ, Array.replicate_zero, List.push_toArray, List.append_toArray, List.nil_append, List.cons_append]
  gi_wp2_with (refine ⟨trivial, ?_⟩; gi_at_call 88; refine (splitSeq_in (n - 1) _ _ _).mono ?_; rintro e w' ⟨rfl, rfl⟩)
  go_ret
  exact ⟨rfl, rfl⟩
theorem index_one {s : ByteArray} {i : Int} (h : Lib.indexByte s.data.toList 10 = i) (n : Nat) (w : World) :
    CallsIn Fence.wide n Tryz.prog 53 #[.string s, .string ⟨#[10]⟩] w fun e w' => e = .returned (.int .i64 i) ∧ w = w' := by
  subst h
  exact callsIn_wide.2 ((Tryz.strings_Index_one s 10 w).mono fun e w' h => ⟨h.1, h.2.symm⟩)
def restOf (w : World) (b : Nat) : Nat := match w.cell? ⟨b, 0, none⟩ with
  | some (.string r) => r.size
  | _ => 0
set_option maxRecDepth 100000 in
set_option maxHeartbeats 4000000 in
theorem split1_in (n : Nat) (hn : 2 ≤ n) (l Bp Bt Bv m : Nat) (hne : Bp ≠ Bt) (hne2 : Bv ≠ Bt) (s : ByteArray) (hs : s.size ≤ 1000000) (J : List Txt → World → Prop) (W : World)
    (hp : W.heap[Bp]? = some (.cells #[.string ⟨#[10]⟩] 9 (0, 0))) (hv : W.heap[Bv]? = some (.cells #[.int .i64 0] 3 (0, 0))) (hb : W.heap[Bt]? = some (.cells #[.string s] 9 (0, 0)))
    (hJs : ∀ pre A v, J pre A → J pre (A.setCell ⟨Bt, 0, none⟩ v)) (hJb : ∀ pre A B, J pre A → Bel A B → J pre B)
    (hY : ∀ pre x A, J pre A → pre.length < s.size + 1 → YieldAt Fence.wide (n - 1) Tryz.prog l (txtV x) A fun e B => e = .returned (.bool true) ∧ J (pre ++ [x]) B ∧ Below m A B ∧ ∀ k, k = Bt ∨ k = Bp ∨ k = Bv → B.heap[k]? = A.heap[k]?)
    (h0 : J [] W) :
    CallsIn Fence.wide n Tryz.prog 106 (#[.func (.yield l) #[] #[]] ++ #[.pointer (some ⟨Bp, 0, none⟩), .pointer (some ⟨Bt, 0, none⟩), .pointer (some ⟨Bv, 0, none⟩)]) W fun e B => (∃ v, e = .returned v) ∧ ∃ xs : List Txt, xs.map (·.1) = (splitV 10 s.data.toList).map str ∧ J xs B := by
  have hn1 : 1 ≤ n := by omega
  have HY := Lib.hid hY
  have HJS := Lib.hid hJs
  have HJB := Lib.hid hJb
  have HN := Lib.hid (⟨hne, hne2⟩ : _ ∧ _)
  have HV := Lib.hid hv
  have HP := Lib.hid hp
  have HBX := Lib.hid hb
  have HS := Lib.hid hs
  have H0 := Lib.hid h0
  clear hY hJs hJb hne hne2 hv hp hb hs h0
  have cp : W.cell? ⟨Bp, 0, none⟩ = some (.string ⟨#[10]⟩) := cell_of_heap HP.out 0
  refine callsIn_of_wp Tryz.func106 rfl trivial ?_ rfl
  simp only [Tryz.ntmps106, List.size_toArray, List.length_cons, List.length_nil, Nat.reduceAdd, Nat.reduceSub, Array.replicate_succ, Array.replicate_zero, List.push_toArray, List.append_toArray, List.nil_append, List.cons_append]
  gi_wp2
  gi_loopw [7, 8] (fun a b wr => ∃ (pre : List Txt) (L : Bs), Hid (J pre wr ∧ wr.heap[Bp]? = some (.cells #[.string ⟨#[10]⟩] 9 (0, 0)) ∧ wr.heap[Bv]? = some (.cells #[.int .i64 0] 3 (0, 0)) ∧ wr.heap[Bt]? = some (.cells #[.string (str L)] 9 (0, 0)) ∧ L.length ≤ 1000000 ∧ (splitV 10 s.data.toList).map str = pre.map (·.1) ++ (splitV 10 L).map str)) (fun a b wr => restOf wr Bt)
  case atStart => exact ⟨[], s.data.toList, Lib.hid ⟨H0.out, HP.out, HV.out, by rw [str_of]; exact HBX.out, by rw [size_list]; exact HS.out, by simp⟩⟩
  case round =>
    obtain ⟨pre, L, HR⟩ := hrel
    have cp : wr.cell? ⟨Bp, 0, none⟩ = some (.string ⟨#[10]⟩) := cell_of_heap HR.out.2.1 0
    have cs : wr.cell? ⟨Bt, 0, none⟩ = some (.string (str L)) := cell_of_heap HR.out.2.2.2.1 0
    have cv : wr.cell? ⟨Bv, 0, none⟩ = some (.int .i64 0) := cell_of_heap HR.out.2.2.1 0
    rcases part_cases 10 L with hno | ⟨a, r, rfl, ha⟩
    · have HI : Hid (Lib.indexByte (str L).data.toList 10 = -1) := Lib.hid (by rw [str_list]; exact lf_none hno)
      have HSP := Lib.hid (splitV_none hno)
      obtain ⟨sl, hsl⟩ : ∃ x, str L = x := ⟨_, rfl⟩
      have hsz : sl.size ≤ 1000000 := by rw [← hsl, str_size]; exact HR.out.2.2.2.2.1
      rw [hsl] at HI cs
      have HSL := Lib.hid hsl
      clear hsl hno
      obtain ⟨fn, tmps, assign, body, hy, hR⟩ := HY.out pre ⟨sl, hsz⟩ wr HR.out.1 (by
        have h1 := congrArg List.length HR.out.2.2.2.2.2
        have h2 := splitV_len 10 s.data.toList
        rw [HSP.out] at h1
        simp at h1 h2
        omega)
      have hy : (Instr.yield l #[.string sl]).run Tryz.prog wr = .ok (.round l fn tmps assign body) wr := hy
      gi_wp2_with (refine ⟨trivial, ?_⟩; gi_at_call 53; refine (index_one HI.out _ _).mono ?_; rintro e w' ⟨rfl, rfl⟩)
      refine hR.mono ?_
      rintro e B ⟨rfl, hJ, hbl⟩
      gi_wp2
      go_end0
      exact ⟨⟨_, rfl⟩, pre ++ [⟨sl, hsz⟩], by rw [HR.out.2.2.2.2.2, HSP.out, List.map_append]; show _ ++ [sl] = _ ++ [str L]; rw [HSL.out], hJ⟩
    · have HI : Hid (Lib.indexByte (str (a ++ 10 :: r)).data.toList 10 = (a.length : Int)) := Lib.hid (by rw [str_list]; exact lf_at ha)
      have HSP := Lib.hid (splitV_app (r := r) ha)
      obtain ⟨i, hi⟩ : ∃ i, a.length = i := ⟨_, rfl⟩
      have e1 := ext_ahead a r 10
      have e2 := ext_behind a r 10
      have hla : (str (a ++ 10 :: r)).size = i + (1 + r.length) := by rw [str_size, ← hi]; simp; omega
      have hlen := HR.out.2.2.2.2.1
      have hls : (a ++ 10 :: r).length = i + (1 + r.length) := by rw [← hi]; simp; omega
      rw [hls] at hlen
      rw [hi] at HI e1 e2
      obtain ⟨A, hA⟩ : ∃ x, str a = x := ⟨_, rfl⟩
      obtain ⟨R, hR0⟩ : ∃ x, str r = x := ⟨_, rfl⟩
      have hAz : A.size ≤ 1000000 := by rw [← hA, str_size, hi]; omega
      rw [hA] at e1
      rw [hR0] at e2
      have HR2 := HR.out
      obtain ⟨q1, q3, q4, q5, q6, q7⟩ := HR2
      rw [HSP.out] at q7
      have q8 : pre.length < s.size + 1 := by
        have h1 := congrArg List.length q7
        have h2 := splitV_len 10 s.data.toList
        simp at h1 h2
        omega
      obtain ⟨fn, tmps, assign, body, hy, hR⟩ := HY.out pre ⟨A, hAz⟩ wr q1 q8
      have hy : (Instr.yield l #[.string A]).run Tryz.prog wr = .ok (.round l fn tmps assign body) wr := hy
      have HRH := Lib.hid hR0
      have HQ7 := Lib.hid q7
      have HHA := Lib.hid hA
      have HRL : Hid (r.length ≤ 1000000) := Lib.hid (by omega)
      generalize str (a ++ 10 :: r) = sl at HI cs e1 e2 hla q5
      rw [hla] at e2
      have hz : (i : Int) ≤ sl.size := by omega
      have hz2 : (i : Int) + 1 ≤ sl.size := by omega
      clear HR HSP hA hR0 hls q7 q8 ha q1
      clear hi
      gi_wp2_with (refine ⟨trivial, ?_⟩; gi_at_call 53; refine (index_one HI.out _ _).mono ?_; rintro e w' ⟨rfl, rfl⟩)
      refine hR.mono ?_
      rintro e B ⟨rfl, hJ, hbl⟩
      have b5 := (hbl.2 Bt (.inl rfl)).trans q5
      have b3 := (hbl.2 Bp (.inr (.inl rfl))).trans q3
      have b4 := (hbl.2 Bv (.inr (.inr rfl))).trans q4
      have d5 : B.cell? ⟨Bt, 0, none⟩ = some (.string sl) := cell_of_heap b5 0
      have d3 : B.cell? ⟨Bp, 0, none⟩ = some (.string ⟨#[10]⟩) := cell_of_heap b3 0
      have f5 := frozen_of_heap b5 0
      have HN2 : Hid (J (pre ++ [⟨A, hAz⟩]) (B.setCell ⟨Bt, 0, none⟩ (.string R)) ∧ (B.setCell ⟨Bt, 0, none⟩ (.string R)).heap[Bp]? = some (.cells #[.string ⟨#[10]⟩] 9 (0, 0)) ∧ (B.setCell ⟨Bt, 0, none⟩ (.string R)).heap[Bv]? = some (.cells #[.int .i64 0] 3 (0, 0)) ∧ (B.setCell ⟨Bt, 0, none⟩ (.string R)).heap[Bt]? = some (.cells #[.string (str r)] 9 (0, 0)) ∧ r.length ≤ 1000000 ∧ (splitV 10 s.data.toList).map str = (pre ++ [⟨A, hAz⟩] : List Txt).map (·.1) ++ (splitV 10 r).map str) := Lib.hid ⟨HJS.out _ _ _ hJ, by rw [heap_setCell_other _ _ _ _ (show Bp ≠ Bt from HN.out.1)]; exact b3, by rw [heap_setCell_other _ _ _ _ (show Bv ≠ Bt from HN.out.2)]; exact b4, by rw [heap_setCell_same _ _ _ _ _ _ b5, HRH.out]; rfl, HRL.out, by rw [HQ7.out, List.map_append, List.map_cons, HHA.out]; simp⟩
      have HM : Hid (restOf (B.setCell ⟨Bt, 0, none⟩ (.string R)) Bt < restOf wr Bt) := Lib.hid (by
        unfold restOf
        rw [cell_of_heap q5 0, cell_of_heap (heap_setCell_same _ _ _ _ _ _ b5) 0]
        show R.size < sl.size
        rw [← HRH.out, str_size, hla]
        omega)
      clear hJ hbl b5 b3 b4 q5 q3 q4 cs cp cv
      gi_wp2
      go_roundw
      case rel => exact ⟨pre ++ [⟨A, hAz⟩], r, HN2⟩
      case measure => exact HM.out
theorem split_all (n : Nat) (hn : 2 ≤ n) (s : ByteArray) (hs : s.size ≤ 1000000) (b : Nat) (wa w : World) (hb : w.heap[b]? = some (.cells #[.string s] 9 (0, 0))) (hp : w.heap[b + 1]? = some (.cells #[.string ⟨#[10]⟩] 9 (0, 0))) (hv : w.heap[b + 1 + 1]? = some (.cells #[.int .i64 0] 3 (0, 0))) :
    SeqAll Fence.wide n Tryz.prog 106 #[.pointer (some ⟨b + 1, 0, none⟩), .pointer (some ⟨b, 0, none⟩), .pointer (some ⟨b + 1 + 1, 0, none⟩)] txtV b (fun k => k = b ∨ k = b + 1 ∨ k = b + 1 + 1) (fun xs => xs.map (·.1) = (splitV 10 s.data.toList).map str) (s.size + 1) wa w := by
  intro l J W hW hJs hJb hY h0
  exact split1_in n hn l (b + 1) b (b + 1 + 1) wa.heap.size (by omega) (by omega) s hs J W (hW.stays hp) (hW.stays hv) (hW.stays hb) hJs hJb hY h0
end Go.Proofs.YtbfmlbcjggplgaaGreatDoor
