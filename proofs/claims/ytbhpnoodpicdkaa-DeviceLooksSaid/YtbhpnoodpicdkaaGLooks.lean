/- DeviceLooks: reads, but a uart's first register's, change nothing. -/
import Derived.Test.YtbhpnoodpicdkaaGOpen
import Derived.Test.YtbhpnoodpicdkaaGPlain2
import Derived.Deep.LoopGhost
namespace Go.Proofs.Ytbhpnoodpicdkaa
open Go.RowKit Dv
set_option linter.unusedVariables false
set_option linter.unusedSimpArgs false
set_option maxRecDepth 100000 in
set_option maxHeartbeats 8000000 in
theorem looks_any (w : World) {kind : Int} {P P2 : Option Addr} {N C N2 C2 : Nat} {raw : List (Int × Int × Int)} {regs : List Int} (hk : inInt kind) (hn : raw.length = N) (hQ : TrisQ w P raw) (hN : N ≤ 9223372036854775807) (hn2 : regs.length = N2) (hL : IntsQ w P2 regs) :
    Calls Try.prog 5 #[.int .i64 kind, .slice P N C, .slice P2 N2 C2] w fun e w' => e = .returned (.bool true) ∧ Bel w w' := by
  obtain ⟨d, hd⟩ : ∃ d, madeV kind raw = d := ⟨_, rfl⟩
  have od : Ok d := by rw [← hd]; exact (made_ok kind raw).1
  have s1 : sameV d d = true := sameV_refl d
  have HD := Lib.hid hd
  have OD := Lib.hid od
  have HK := Lib.hid hk
  have S1 := Lib.hid s1
  have HT := Lib.hid hQ
  have HN := Lib.hid hn
  have HNL := Lib.hid hN
  have HN2 := Lib.hid hn2
  have HL := Lib.hid hL
  have HBW := Lib.hid (Bel.refl w)
  clear hd od hk s1 hQ hn hN hn2 hL
  go_enter Try.func5, Try.ntmps5
  go_wp2_with fail
  refine (awake_any _).mono ?_
  rintro e W1 ⟨rfl, hb⟩
  have HBW := Lib.hid (HBW.out.trans hb)
  clear hb
  go_wp2_with fail
  refine (made_lit HK.out HN.out (HT.out.bel HBW.out) HNL.out HD.out).mono ?_
  rintro e W2 ⟨p2, n2, c2, rfl, hb, hq⟩
  have HBW := Lib.hid (HBW.out.trans hb)
  have HQv := Lib.hid hq
  clear hb hq
  go_upto_region 3 with (fail)
  have hnew : BoxAt (W2.alloc (.cells #[.int .i64 (d.kind : Int), .int .i64 d.r0, .int .i64 d.r1, .int .i64 d.r2, .int .i64 d.r3, .slice p2 n2 c2, .int .i64 d.sent, .bool d.up] 27)) W2.heap.size 27 d (.slice p2 n2 c2) := heap_alloc_new W2 _
  have hb : Bel W2 (W2.alloc (.cells #[.int .i64 (d.kind : Int), .int .i64 d.r0, .int .i64 d.r1, .int .i64 d.r2, .int .i64 d.r3, .slice p2 n2 c2, .int .i64 d.sent, .bool d.up] 27)) := (Bel.refl W2).alloc _ _
  have hge : w.heap.size ≤ W2.heap.size := HBW.out.size
  generalize hWW : (W2.alloc (.cells #[.int .i64 (d.kind : Int), .int .i64 d.r0, .int .i64 d.r1, .int .i64 d.r2, .int .i64 d.r3, .slice p2 n2 c2, .int .i64 d.sent, .bool d.up] 27)) = W3 at hnew hb ⊢
  clear hWW
  have HBW := Lib.hid (HBW.out.trans hb)
  have HQv := Lib.hid (HQv.out.bel hb)
  generalize W2.heap.size = gs at hnew hge  ⊢
  have HXs := Lib.hid hnew
  have HGEs := Lib.hid hge
  clear hnew hb hge
  have HQs := HQv
  obtain ⟨ks0, ks1, ks2, ks3, ks4, ks5, ks6, ks7⟩ := HXs.out.cells
  have HQv := HQs
  go_upto_region 4 with (fail)
  clear ks0 ks1 ks2 ks3 ks4 ks5 ks6 ks7
  have hnew : BoxAt (W3.alloc (.cells #[.int .i64 (d.kind : Int), .int .i64 d.r0, .int .i64 d.r1, .int .i64 d.r2, .int .i64 d.r3, .slice p2 n2 c2, .int .i64 d.sent, .bool d.up] 27)) W3.heap.size 27 d (.slice p2 n2 c2) := heap_alloc_new W3 _
  have hb : Bel W3 (W3.alloc (.cells #[.int .i64 (d.kind : Int), .int .i64 d.r0, .int .i64 d.r1, .int .i64 d.r2, .int .i64 d.r3, .slice p2 n2 c2, .int .i64 d.sent, .bool d.up] 27)) := (Bel.refl W3).alloc _ _
  have hge : w.heap.size ≤ W3.heap.size := HBW.out.size
  have HNst : Hid (gs ≠ W3.heap.size) := Lib.hid (by have := lt_of_heap HXs.out; omega)
  generalize hWW : (W3.alloc (.cells #[.int .i64 (d.kind : Int), .int .i64 d.r0, .int .i64 d.r1, .int .i64 d.r2, .int .i64 d.r3, .slice p2 n2 c2, .int .i64 d.sent, .bool d.up] 27)) = W4 at hnew hb ⊢
  clear hWW
  have HBW := Lib.hid (HBW.out.trans hb)
  have HXs := Lib.hid (HXs.out.bel hb)
  have HQs := Lib.hid (HQs.out.bel hb)
  have HQv := Lib.hid (HQv.out.bel hb)
  generalize W3.heap.size = gt at hnew hge HNst ⊢
  have HXt := Lib.hid hnew
  have HGEt := Lib.hid hge
  clear hnew hb hge
  have HQt := HQv
  go_wp2
  go_loopw [10] (fun i wr => ∃ (k : Nat) (p : Option Addr) (n c : Nat), k ≤ N2 ∧ k ≤ 20 ∧ i = .int .i64 k ∧ Hid (BoxAt wr gs 27 d (.slice p2 n2 c2)) ∧ Hid (QAt wr (.slice p2 n2 c2) d.q) ∧ Hid (BoxAt wr gt 27 d (.slice p n c)) ∧ Hid (QAt wr (.slice p n c) d.q) ∧ Hid (Bel w wr)) (fun i _ => 20 - (intOf i).toNat)
  case atStart => exact ⟨0, p2, n2, c2, Nat.zero_le _, by omega, rfl, HXs, HQs, HXt, HQt, HBW⟩
  case round =>
    obtain ⟨k, p, n, c, hk1, hk2, rfl, HXs, HQs, HXt, HQt, HBW⟩ := hrel
    by_cases hlt : k < N2 ∧ k < 20
    · obtain ⟨l1, l2⟩ := hlt
      have hlk : k < regs.length := by have := HN2.out; omega
      obtain ⟨x0, hx⟩ : ∃ x, regs[k]? = some x := ⟨_, List.getElem?_eq_getElem hlk⟩
      obtain ⟨ix, B, O, rfl, hB, m0⟩ := (HL.out.bel HBW.out) k _ hx
      obtain ⟨rn, hrn⟩ : ∃ rn : Nat, pick x0 4 = (rn : Int) := ⟨(pick x0 4).toNat, by have := pick_bd x0 (n := 4) (by omega); omega⟩
      have hrl : rn < 4 := by have := pick_bd x0 (n := 4) (by omega); omega
      have HRN := Lib.hid hrn
      have HRL := Lib.hid hrl
      have HIX := Lib.hid ix
      clear hx hrn hlk ix hB
      have l3 : (k : Int) < N2 := by omega
      have l4 : (k : Int) < 20 := by omega
      by_cases hk1' : d.kind = 1
      · have e1 : ((d.kind : Int) == 1) = true := beq_iff_eq.2 (by omega)
        by_cases hr0 : rn = 0
        · have e2 : ((rn : Int) == 0) = true := beq_iff_eq.2 (by omega)
          clear hk1' hr0
          have hrr : rdV d 3 = ((rdV d 3).1, d) := Prod.ext rfl (looks d (fun _ => by omega))
          generalize (rdV d 3).1 = y at hrr
          have hyy : (y != y) = false := by simp
          have HRR := Lib.hid hrr
          clear hrr hrl
          obtain ⟨ks0, ks1, ks2, ks3, ks4, ks5, ks6, ks7⟩ := HXs.out.cells
          obtain ⟨kt0, kt1, kt2, kt3, kt4, kt5, kt6, kt7⟩ := HXt.out.cells
          go_wp2_with (go_at_call 12; ((with_reducible refine (pick_lit HRN.out HIX.out (by decide) _).mono ?_); rintro e w' ⟨rfl, rfl⟩))
          refine (read_lit3 HQt.out OD.out HRR.out).mono ?_
          rintro e W21 ⟨p21, n21, c21, rfl, hb, hq⟩
          clear ks0 ks1 ks2 ks3 ks4 ks5 ks6 ks7 kt0 kt1 kt2 kt3 kt4 kt5 kt6 kt7
          have HBW := Lib.hid (HBW.out.trans hb)
          have HXs := Lib.hid (HXs.out.bel hb)
          have HXt := Lib.hid (HXt.out.bel hb)
          have HQs := Lib.hid (HQs.out.bel hb)
          have HQt := Lib.hid (HQt.out.bel hb)
          have HQu := Lib.hid hq
          clear hb hq
          obtain ⟨ks0, ks1, ks2, ks3, ks4, ks5, ks6, ks7⟩ := HXs.out.cells
          obtain ⟨kt0, kt1, kt2, kt3, kt4, kt5, kt6, kt7⟩ := HXt.out.cells
          go_upto_region 11 with (fail)
          clear ks0 ks1 ks2 ks3 ks4 ks5 ks6 ks7 kt0 kt1 kt2 kt3 kt4 kt5 kt6 kt7
          have hnew : BoxAt (W21.alloc (.cells #[.int .i64 (d.kind : Int), .int .i64 d.r0, .int .i64 d.r1, .int .i64 d.r2, .int .i64 d.r3, .slice p21 n21 c21, .int .i64 d.sent, .bool d.up] 27)) W21.heap.size 27 d (.slice p21 n21 c21) := heap_alloc_new W21 _
          have hb : Bel W21 (W21.alloc (.cells #[.int .i64 (d.kind : Int), .int .i64 d.r0, .int .i64 d.r1, .int .i64 d.r2, .int .i64 d.r3, .slice p21 n21 c21, .int .i64 d.sent, .bool d.up] 27)) := (Bel.refl W21).alloc _ _
          have hge : w.heap.size ≤ W21.heap.size := HBW.out.size
          have HNsu : Hid (gs ≠ W21.heap.size) := Lib.hid (by have := lt_of_heap HXs.out; omega)
          have HNtu : Hid (gt ≠ W21.heap.size) := Lib.hid (by have := lt_of_heap HXt.out; omega)
          generalize hWW : (W21.alloc (.cells #[.int .i64 (d.kind : Int), .int .i64 d.r0, .int .i64 d.r1, .int .i64 d.r2, .int .i64 d.r3, .slice p21 n21 c21, .int .i64 d.sent, .bool d.up] 27)) = W22 at hnew hb ⊢
          clear hWW
          have HBW := Lib.hid (HBW.out.trans hb)
          have HXs := Lib.hid (HXs.out.bel hb)
          have HXt := Lib.hid (HXt.out.bel hb)
          have HQs := Lib.hid (HQs.out.bel hb)
          have HQt := Lib.hid (HQt.out.bel hb)
          have HQu := Lib.hid (HQu.out.bel hb)
          generalize W21.heap.size = gu at hnew hge HNsu HNtu ⊢
          have HXu := Lib.hid hnew
          have HGEu := Lib.hid hge
          clear hnew hb hge
          have HQu := HQu
          obtain ⟨ks0, ks1, ks2, ks3, ks4, ks5, ks6, ks7⟩ := HXs.out.cells
          obtain ⟨kt0, kt1, kt2, kt3, kt4, kt5, kt6, kt7⟩ := HXt.out.cells
          obtain ⟨ku0, ku1, ku2, ku3, ku4, ku5, ku6, ku7⟩ := HXu.out.cells
          go_wp2_with fail
          refine (read_lit3 HQs.out OD.out HRR.out).mono ?_
          rintro e W23 ⟨p23, n23, c23, rfl, hb, hq⟩
          clear ks0 ks1 ks2 ks3 ks4 ks5 ks6 ks7 kt0 kt1 kt2 kt3 kt4 kt5 kt6 kt7 ku0 ku1 ku2 ku3 ku4 ku5 ku6 ku7
          have HBW := Lib.hid (HBW.out.trans hb)
          have HXs := Lib.hid (HXs.out.bel hb)
          have HXt := Lib.hid (HXt.out.bel hb)
          have HXu := Lib.hid (HXu.out.bel hb)
          have HQs := Lib.hid (HQs.out.bel hb)
          have HQt := Lib.hid (HQt.out.bel hb)
          have HQu := Lib.hid (HQu.out.bel hb)
          have HQb := Lib.hid hq
          clear hb hq
          obtain ⟨ks0, ks1, ks2, ks3, ks4, ks5, ks6, ks7⟩ := HXs.out.cells
          obtain ⟨kt0, kt1, kt2, kt3, kt4, kt5, kt6, kt7⟩ := HXt.out.cells
          obtain ⟨ku0, ku1, ku2, ku3, ku4, ku5, ku6, ku7⟩ := HXu.out.cells
          go_upto_region 12 with (fail)
          clear ks0 ks1 ks2 ks3 ks4 ks5 ks6 ks7 kt0 kt1 kt2 kt3 kt4 kt5 kt6 kt7 ku0 ku1 ku2 ku3 ku4 ku5 ku6 ku7
          have hnew : BoxAt (W23.alloc (.cells #[.int .i64 (d.kind : Int), .int .i64 d.r0, .int .i64 d.r1, .int .i64 d.r2, .int .i64 d.r3, .slice p23 n23 c23, .int .i64 d.sent, .bool d.up] 27)) W23.heap.size 27 d (.slice p23 n23 c23) := heap_alloc_new W23 _
          have hb : Bel W23 (W23.alloc (.cells #[.int .i64 (d.kind : Int), .int .i64 d.r0, .int .i64 d.r1, .int .i64 d.r2, .int .i64 d.r3, .slice p23 n23 c23, .int .i64 d.sent, .bool d.up] 27)) := (Bel.refl W23).alloc _ _
          have hge : w.heap.size ≤ W23.heap.size := HBW.out.size
          have HNsb : Hid (gs ≠ W23.heap.size) := Lib.hid (by have := lt_of_heap HXs.out; omega)
          have HNtb : Hid (gt ≠ W23.heap.size) := Lib.hid (by have := lt_of_heap HXt.out; omega)
          have HNub : Hid (gu ≠ W23.heap.size) := Lib.hid (by have := lt_of_heap HXu.out; omega)
          generalize hWW : (W23.alloc (.cells #[.int .i64 (d.kind : Int), .int .i64 d.r0, .int .i64 d.r1, .int .i64 d.r2, .int .i64 d.r3, .slice p23 n23 c23, .int .i64 d.sent, .bool d.up] 27)) = W24 at hnew hb ⊢
          clear hWW
          have HBW := Lib.hid (HBW.out.trans hb)
          have HXs := Lib.hid (HXs.out.bel hb)
          have HXt := Lib.hid (HXt.out.bel hb)
          have HXu := Lib.hid (HXu.out.bel hb)
          have HQs := Lib.hid (HQs.out.bel hb)
          have HQt := Lib.hid (HQt.out.bel hb)
          have HQu := Lib.hid (HQu.out.bel hb)
          have HQb := Lib.hid (HQb.out.bel hb)
          generalize W23.heap.size = gb at hnew hge HNsb HNtb HNub ⊢
          have HXb := Lib.hid hnew
          have HGEb := Lib.hid hge
          clear hnew hb hge
          have HQb := HQb
          obtain ⟨ks0, ks1, ks2, ks3, ks4, ks5, ks6, ks7⟩ := HXs.out.cells
          obtain ⟨kt0, kt1, kt2, kt3, kt4, kt5, kt6, kt7⟩ := HXt.out.cells
          obtain ⟨ku0, ku1, ku2, ku3, ku4, ku5, ku6, ku7⟩ := HXu.out.cells
          obtain ⟨kb0, kb1, kb2, kb3, kb4, kb5, kb6, kb7⟩ := HXb.out.cells
          go_wp2_with fail
          refine (samel S1.out HQu.out HQs.out OD.out).mono ?_
          rintro e W25 ⟨rfl, hb⟩
          clear ks0 ks1 ks2 ks3 ks4 ks5 ks6 ks7 kt0 kt1 kt2 kt3 kt4 kt5 kt6 kt7 ku0 ku1 ku2 ku3 ku4 ku5 ku6 ku7 kb0 kb1 kb2 kb3 kb4 kb5 kb6 kb7
          have HBW := Lib.hid (HBW.out.trans hb)
          have HXs := Lib.hid (HXs.out.bel hb)
          have HXt := Lib.hid (HXt.out.bel hb)
          have HXu := Lib.hid (HXu.out.bel hb)
          have HXb := Lib.hid (HXb.out.bel hb)
          have HQs := Lib.hid (HQs.out.bel hb)
          have HQt := Lib.hid (HQt.out.bel hb)
          have HQu := Lib.hid (HQu.out.bel hb)
          have HQb := Lib.hid (HQb.out.bel hb)
          clear hb
          obtain ⟨ks0, ks1, ks2, ks3, ks4, ks5, ks6, ks7⟩ := HXs.out.cells
          obtain ⟨kt0, kt1, kt2, kt3, kt4, kt5, kt6, kt7⟩ := HXt.out.cells
          have yt0 := HXt.out.frozen 0
          have yt1 := HXt.out.frozen 1
          have yt2 := HXt.out.frozen 2
          have yt3 := HXt.out.frozen 3
          have yt4 := HXt.out.frozen 4
          have yt5 := HXt.out.frozen 5
          have yt6 := HXt.out.frozen 6
          have yt7 := HXt.out.frozen 7
          obtain ⟨ku0, ku1, ku2, ku3, ku4, ku5, ku6, ku7⟩ := HXu.out.cells
          obtain ⟨kb0, kb1, kb2, kb3, kb4, kb5, kb6, kb7⟩ := HXb.out.cells
          have HQz := HQu
          go_upto_region 6 with (fail)
          clear ks0 ks1 ks2 ks3 ks4 ks5 ks6 ks7 kt0 kt1 kt2 kt3 kt4 kt5 kt6 kt7 yt0 yt1 yt2 yt3 yt4 yt5 yt6 yt7 ku0 ku1 ku2 ku3 ku4 ku5 ku6 ku7 kb0 kb1 kb2 kb3 kb4 kb5 kb6 kb7
          have hs8 : Svg gt W25 ((((((((W25.setCell ⟨gt, 0, none⟩ (.int .i64 (d.kind : Int))).setCell ⟨gt, 1, none⟩ (.int .i64 d.r0)).setCell ⟨gt, 2, none⟩ (.int .i64 d.r1)).setCell ⟨gt, 3, none⟩ (.int .i64 d.r2)).setCell ⟨gt, 4, none⟩ (.int .i64 d.r3)).setCell ⟨gt, 5, none⟩ (.slice p21 n21 c21)).setCell ⟨gt, 6, none⟩ (.int .i64 d.sent)).setCell ⟨gt, 7, none⟩ (.bool d.up)) := set8_svg W25 gt (.int .i64 (d.kind : Int)) (.int .i64 d.r0) (.int .i64 d.r1) (.int .i64 d.r2) (.int .i64 d.r3) (.slice p21 n21 c21) (.int .i64 d.sent) (.bool d.up)
          have hh : BoxAt ((((((((W25.setCell ⟨gt, 0, none⟩ (.int .i64 (d.kind : Int))).setCell ⟨gt, 1, none⟩ (.int .i64 d.r0)).setCell ⟨gt, 2, none⟩ (.int .i64 d.r1)).setCell ⟨gt, 3, none⟩ (.int .i64 d.r2)).setCell ⟨gt, 4, none⟩ (.int .i64 d.r3)).setCell ⟨gt, 5, none⟩ (.slice p21 n21 c21)).setCell ⟨gt, 6, none⟩ (.int .i64 d.sent)).setCell ⟨gt, 7, none⟩ (.bool d.up)) gt 27 d (.slice p21 n21 c21) := set8_heap (show W25.heap[gt]? = some (.cells #[.int .i64 (d.kind : Int), .int .i64 d.r0, .int .i64 d.r1, .int .i64 d.r2, .int .i64 d.r3, .slice p n c, .int .i64 d.sent, .bool d.up] 27 (0, 0)) from HXt.out) (.int .i64 (d.kind : Int)) (.int .i64 d.r0) (.int .i64 d.r1) (.int .i64 d.r2) (.int .i64 d.r3) (.slice p21 n21 c21) (.int .i64 d.sent) (.bool d.up)
          generalize hWW : ((((((((W25.setCell ⟨gt, 0, none⟩ (.int .i64 (d.kind : Int))).setCell ⟨gt, 1, none⟩ (.int .i64 d.r0)).setCell ⟨gt, 2, none⟩ (.int .i64 d.r1)).setCell ⟨gt, 3, none⟩ (.int .i64 d.r2)).setCell ⟨gt, 4, none⟩ (.int .i64 d.r3)).setCell ⟨gt, 5, none⟩ (.slice p21 n21 c21)).setCell ⟨gt, 6, none⟩ (.int .i64 d.sent)).setCell ⟨gt, 7, none⟩ (.bool d.up)) = W26 at hs8 hh ⊢
          clear hWW
          have HBW := Lib.hid (hs8.bel HBW.out HGEt.out)
          have HXs := Lib.hid ((hs8.block _ (lt_of_heap HXs.out) HNst.out).trans HXs.out)
          have HXu := Lib.hid ((hs8.block _ (lt_of_heap HXu.out) HNtu.out.symm).trans HXu.out)
          have HXb := Lib.hid ((hs8.block _ (lt_of_heap HXb.out) HNtb.out.symm).trans HXb.out)
          have HQs := Lib.hid (HQs.out.keep hs8 HXt.out (by decide))
          have HQt := Lib.hid (HQt.out.keep hs8 HXt.out (by decide))
          have HQu := Lib.hid (HQu.out.keep hs8 HXt.out (by decide))
          have HQb := Lib.hid (HQb.out.keep hs8 HXt.out (by decide))
          have HQz := Lib.hid (HQz.out.keep hs8 HXt.out (by decide))
          have HXt := Lib.hid hh
          clear hs8 hh
          have HQt := HQz
          go_wp2
          exact ⟨⟨k + 1, p21, n21, c21, by omega, by omega, by go_num, HXs, HQs, HXt, HQt, HBW⟩, by simp [intOf]; omega⟩
        · have e2 : ((rn : Int) == 0) = false := beq_eq_false_iff_ne.2 (by omega)
          clear hk1'
          have hrr : rdV d rn = ((rdV d rn).1, d) := Prod.ext rfl (looks d (fun _ => hr0))
          generalize (rdV d rn).1 = y at hrr
          have hyy : (y != y) = false := by simp
          have HRR := Lib.hid hrr
          clear hrr hrl hr0
          obtain ⟨ks0, ks1, ks2, ks3, ks4, ks5, ks6, ks7⟩ := HXs.out.cells
          obtain ⟨kt0, kt1, kt2, kt3, kt4, kt5, kt6, kt7⟩ := HXt.out.cells
          go_wp2_with (go_at_call 12; ((with_reducible refine (pick_lit HRN.out HIX.out (by decide) _).mono ?_); rintro e w' ⟨rfl, rfl⟩))
          refine (read_lit HQt.out OD.out HRL.out HRR.out).mono ?_
          rintro e W21 ⟨p21, n21, c21, rfl, hb, hq⟩
          clear ks0 ks1 ks2 ks3 ks4 ks5 ks6 ks7 kt0 kt1 kt2 kt3 kt4 kt5 kt6 kt7
          have HBW := Lib.hid (HBW.out.trans hb)
          have HXs := Lib.hid (HXs.out.bel hb)
          have HXt := Lib.hid (HXt.out.bel hb)
          have HQs := Lib.hid (HQs.out.bel hb)
          have HQt := Lib.hid (HQt.out.bel hb)
          have HQu := Lib.hid hq
          clear hb hq
          obtain ⟨ks0, ks1, ks2, ks3, ks4, ks5, ks6, ks7⟩ := HXs.out.cells
          obtain ⟨kt0, kt1, kt2, kt3, kt4, kt5, kt6, kt7⟩ := HXt.out.cells
          go_upto_region 11 with (fail)
          clear ks0 ks1 ks2 ks3 ks4 ks5 ks6 ks7 kt0 kt1 kt2 kt3 kt4 kt5 kt6 kt7
          have hnew : BoxAt (W21.alloc (.cells #[.int .i64 (d.kind : Int), .int .i64 d.r0, .int .i64 d.r1, .int .i64 d.r2, .int .i64 d.r3, .slice p21 n21 c21, .int .i64 d.sent, .bool d.up] 27)) W21.heap.size 27 d (.slice p21 n21 c21) := heap_alloc_new W21 _
          have hb : Bel W21 (W21.alloc (.cells #[.int .i64 (d.kind : Int), .int .i64 d.r0, .int .i64 d.r1, .int .i64 d.r2, .int .i64 d.r3, .slice p21 n21 c21, .int .i64 d.sent, .bool d.up] 27)) := (Bel.refl W21).alloc _ _
          have hge : w.heap.size ≤ W21.heap.size := HBW.out.size
          have HNsu : Hid (gs ≠ W21.heap.size) := Lib.hid (by have := lt_of_heap HXs.out; omega)
          have HNtu : Hid (gt ≠ W21.heap.size) := Lib.hid (by have := lt_of_heap HXt.out; omega)
          generalize hWW : (W21.alloc (.cells #[.int .i64 (d.kind : Int), .int .i64 d.r0, .int .i64 d.r1, .int .i64 d.r2, .int .i64 d.r3, .slice p21 n21 c21, .int .i64 d.sent, .bool d.up] 27)) = W22 at hnew hb ⊢
          clear hWW
          have HBW := Lib.hid (HBW.out.trans hb)
          have HXs := Lib.hid (HXs.out.bel hb)
          have HXt := Lib.hid (HXt.out.bel hb)
          have HQs := Lib.hid (HQs.out.bel hb)
          have HQt := Lib.hid (HQt.out.bel hb)
          have HQu := Lib.hid (HQu.out.bel hb)
          generalize W21.heap.size = gu at hnew hge HNsu HNtu ⊢
          have HXu := Lib.hid hnew
          have HGEu := Lib.hid hge
          clear hnew hb hge
          have HQu := HQu
          obtain ⟨ks0, ks1, ks2, ks3, ks4, ks5, ks6, ks7⟩ := HXs.out.cells
          obtain ⟨kt0, kt1, kt2, kt3, kt4, kt5, kt6, kt7⟩ := HXt.out.cells
          obtain ⟨ku0, ku1, ku2, ku3, ku4, ku5, ku6, ku7⟩ := HXu.out.cells
          go_wp2_with fail
          refine (read_lit HQs.out OD.out HRL.out HRR.out).mono ?_
          rintro e W23 ⟨p23, n23, c23, rfl, hb, hq⟩
          clear ks0 ks1 ks2 ks3 ks4 ks5 ks6 ks7 kt0 kt1 kt2 kt3 kt4 kt5 kt6 kt7 ku0 ku1 ku2 ku3 ku4 ku5 ku6 ku7
          have HBW := Lib.hid (HBW.out.trans hb)
          have HXs := Lib.hid (HXs.out.bel hb)
          have HXt := Lib.hid (HXt.out.bel hb)
          have HXu := Lib.hid (HXu.out.bel hb)
          have HQs := Lib.hid (HQs.out.bel hb)
          have HQt := Lib.hid (HQt.out.bel hb)
          have HQu := Lib.hid (HQu.out.bel hb)
          have HQb := Lib.hid hq
          clear hb hq
          obtain ⟨ks0, ks1, ks2, ks3, ks4, ks5, ks6, ks7⟩ := HXs.out.cells
          obtain ⟨kt0, kt1, kt2, kt3, kt4, kt5, kt6, kt7⟩ := HXt.out.cells
          obtain ⟨ku0, ku1, ku2, ku3, ku4, ku5, ku6, ku7⟩ := HXu.out.cells
          go_upto_region 12 with (fail)
          clear ks0 ks1 ks2 ks3 ks4 ks5 ks6 ks7 kt0 kt1 kt2 kt3 kt4 kt5 kt6 kt7 ku0 ku1 ku2 ku3 ku4 ku5 ku6 ku7
          have hnew : BoxAt (W23.alloc (.cells #[.int .i64 (d.kind : Int), .int .i64 d.r0, .int .i64 d.r1, .int .i64 d.r2, .int .i64 d.r3, .slice p23 n23 c23, .int .i64 d.sent, .bool d.up] 27)) W23.heap.size 27 d (.slice p23 n23 c23) := heap_alloc_new W23 _
          have hb : Bel W23 (W23.alloc (.cells #[.int .i64 (d.kind : Int), .int .i64 d.r0, .int .i64 d.r1, .int .i64 d.r2, .int .i64 d.r3, .slice p23 n23 c23, .int .i64 d.sent, .bool d.up] 27)) := (Bel.refl W23).alloc _ _
          have hge : w.heap.size ≤ W23.heap.size := HBW.out.size
          have HNsb : Hid (gs ≠ W23.heap.size) := Lib.hid (by have := lt_of_heap HXs.out; omega)
          have HNtb : Hid (gt ≠ W23.heap.size) := Lib.hid (by have := lt_of_heap HXt.out; omega)
          have HNub : Hid (gu ≠ W23.heap.size) := Lib.hid (by have := lt_of_heap HXu.out; omega)
          generalize hWW : (W23.alloc (.cells #[.int .i64 (d.kind : Int), .int .i64 d.r0, .int .i64 d.r1, .int .i64 d.r2, .int .i64 d.r3, .slice p23 n23 c23, .int .i64 d.sent, .bool d.up] 27)) = W24 at hnew hb ⊢
          clear hWW
          have HBW := Lib.hid (HBW.out.trans hb)
          have HXs := Lib.hid (HXs.out.bel hb)
          have HXt := Lib.hid (HXt.out.bel hb)
          have HXu := Lib.hid (HXu.out.bel hb)
          have HQs := Lib.hid (HQs.out.bel hb)
          have HQt := Lib.hid (HQt.out.bel hb)
          have HQu := Lib.hid (HQu.out.bel hb)
          have HQb := Lib.hid (HQb.out.bel hb)
          generalize W23.heap.size = gb at hnew hge HNsb HNtb HNub ⊢
          have HXb := Lib.hid hnew
          have HGEb := Lib.hid hge
          clear hnew hb hge
          have HQb := HQb
          obtain ⟨ks0, ks1, ks2, ks3, ks4, ks5, ks6, ks7⟩ := HXs.out.cells
          obtain ⟨kt0, kt1, kt2, kt3, kt4, kt5, kt6, kt7⟩ := HXt.out.cells
          obtain ⟨ku0, ku1, ku2, ku3, ku4, ku5, ku6, ku7⟩ := HXu.out.cells
          obtain ⟨kb0, kb1, kb2, kb3, kb4, kb5, kb6, kb7⟩ := HXb.out.cells
          go_wp2_with fail
          refine (samel S1.out HQu.out HQs.out OD.out).mono ?_
          rintro e W25 ⟨rfl, hb⟩
          clear ks0 ks1 ks2 ks3 ks4 ks5 ks6 ks7 kt0 kt1 kt2 kt3 kt4 kt5 kt6 kt7 ku0 ku1 ku2 ku3 ku4 ku5 ku6 ku7 kb0 kb1 kb2 kb3 kb4 kb5 kb6 kb7
          have HBW := Lib.hid (HBW.out.trans hb)
          have HXs := Lib.hid (HXs.out.bel hb)
          have HXt := Lib.hid (HXt.out.bel hb)
          have HXu := Lib.hid (HXu.out.bel hb)
          have HXb := Lib.hid (HXb.out.bel hb)
          have HQs := Lib.hid (HQs.out.bel hb)
          have HQt := Lib.hid (HQt.out.bel hb)
          have HQu := Lib.hid (HQu.out.bel hb)
          have HQb := Lib.hid (HQb.out.bel hb)
          clear hb
          obtain ⟨ks0, ks1, ks2, ks3, ks4, ks5, ks6, ks7⟩ := HXs.out.cells
          obtain ⟨kt0, kt1, kt2, kt3, kt4, kt5, kt6, kt7⟩ := HXt.out.cells
          have yt0 := HXt.out.frozen 0
          have yt1 := HXt.out.frozen 1
          have yt2 := HXt.out.frozen 2
          have yt3 := HXt.out.frozen 3
          have yt4 := HXt.out.frozen 4
          have yt5 := HXt.out.frozen 5
          have yt6 := HXt.out.frozen 6
          have yt7 := HXt.out.frozen 7
          obtain ⟨ku0, ku1, ku2, ku3, ku4, ku5, ku6, ku7⟩ := HXu.out.cells
          obtain ⟨kb0, kb1, kb2, kb3, kb4, kb5, kb6, kb7⟩ := HXb.out.cells
          have HQz := HQu
          go_upto_region 6 with (fail)
          clear ks0 ks1 ks2 ks3 ks4 ks5 ks6 ks7 kt0 kt1 kt2 kt3 kt4 kt5 kt6 kt7 yt0 yt1 yt2 yt3 yt4 yt5 yt6 yt7 ku0 ku1 ku2 ku3 ku4 ku5 ku6 ku7 kb0 kb1 kb2 kb3 kb4 kb5 kb6 kb7
          have hs8 : Svg gt W25 ((((((((W25.setCell ⟨gt, 0, none⟩ (.int .i64 (d.kind : Int))).setCell ⟨gt, 1, none⟩ (.int .i64 d.r0)).setCell ⟨gt, 2, none⟩ (.int .i64 d.r1)).setCell ⟨gt, 3, none⟩ (.int .i64 d.r2)).setCell ⟨gt, 4, none⟩ (.int .i64 d.r3)).setCell ⟨gt, 5, none⟩ (.slice p21 n21 c21)).setCell ⟨gt, 6, none⟩ (.int .i64 d.sent)).setCell ⟨gt, 7, none⟩ (.bool d.up)) := set8_svg W25 gt (.int .i64 (d.kind : Int)) (.int .i64 d.r0) (.int .i64 d.r1) (.int .i64 d.r2) (.int .i64 d.r3) (.slice p21 n21 c21) (.int .i64 d.sent) (.bool d.up)
          have hh : BoxAt ((((((((W25.setCell ⟨gt, 0, none⟩ (.int .i64 (d.kind : Int))).setCell ⟨gt, 1, none⟩ (.int .i64 d.r0)).setCell ⟨gt, 2, none⟩ (.int .i64 d.r1)).setCell ⟨gt, 3, none⟩ (.int .i64 d.r2)).setCell ⟨gt, 4, none⟩ (.int .i64 d.r3)).setCell ⟨gt, 5, none⟩ (.slice p21 n21 c21)).setCell ⟨gt, 6, none⟩ (.int .i64 d.sent)).setCell ⟨gt, 7, none⟩ (.bool d.up)) gt 27 d (.slice p21 n21 c21) := set8_heap (show W25.heap[gt]? = some (.cells #[.int .i64 (d.kind : Int), .int .i64 d.r0, .int .i64 d.r1, .int .i64 d.r2, .int .i64 d.r3, .slice p n c, .int .i64 d.sent, .bool d.up] 27 (0, 0)) from HXt.out) (.int .i64 (d.kind : Int)) (.int .i64 d.r0) (.int .i64 d.r1) (.int .i64 d.r2) (.int .i64 d.r3) (.slice p21 n21 c21) (.int .i64 d.sent) (.bool d.up)
          generalize hWW : ((((((((W25.setCell ⟨gt, 0, none⟩ (.int .i64 (d.kind : Int))).setCell ⟨gt, 1, none⟩ (.int .i64 d.r0)).setCell ⟨gt, 2, none⟩ (.int .i64 d.r1)).setCell ⟨gt, 3, none⟩ (.int .i64 d.r2)).setCell ⟨gt, 4, none⟩ (.int .i64 d.r3)).setCell ⟨gt, 5, none⟩ (.slice p21 n21 c21)).setCell ⟨gt, 6, none⟩ (.int .i64 d.sent)).setCell ⟨gt, 7, none⟩ (.bool d.up)) = W26 at hs8 hh ⊢
          clear hWW
          have HBW := Lib.hid (hs8.bel HBW.out HGEt.out)
          have HXs := Lib.hid ((hs8.block _ (lt_of_heap HXs.out) HNst.out).trans HXs.out)
          have HXu := Lib.hid ((hs8.block _ (lt_of_heap HXu.out) HNtu.out.symm).trans HXu.out)
          have HXb := Lib.hid ((hs8.block _ (lt_of_heap HXb.out) HNtb.out.symm).trans HXb.out)
          have HQs := Lib.hid (HQs.out.keep hs8 HXt.out (by decide))
          have HQt := Lib.hid (HQt.out.keep hs8 HXt.out (by decide))
          have HQu := Lib.hid (HQu.out.keep hs8 HXt.out (by decide))
          have HQb := Lib.hid (HQb.out.keep hs8 HXt.out (by decide))
          have HQz := Lib.hid (HQz.out.keep hs8 HXt.out (by decide))
          have HXt := Lib.hid hh
          clear hs8 hh
          have HQt := HQz
          go_wp2
          exact ⟨⟨k + 1, p21, n21, c21, by omega, by omega, by go_num, HXs, HQs, HXt, HQt, HBW⟩, by simp [intOf]; omega⟩
      · have e1 : ((d.kind : Int) == 1) = false := beq_eq_false_iff_ne.2 (by omega)
        have hrr : rdV d rn = ((rdV d rn).1, d) := Prod.ext rfl (looks d (fun h => absurd h hk1'))
        generalize (rdV d rn).1 = y at hrr
        have hyy : (y != y) = false := by simp
        have HRR := Lib.hid hrr
        clear hrr hrl hk1'
        obtain ⟨ks0, ks1, ks2, ks3, ks4, ks5, ks6, ks7⟩ := HXs.out.cells
        obtain ⟨kt0, kt1, kt2, kt3, kt4, kt5, kt6, kt7⟩ := HXt.out.cells
        go_wp2_with (go_at_call 12; ((with_reducible refine (pick_lit HRN.out HIX.out (by decide) _).mono ?_); rintro e w' ⟨rfl, rfl⟩))
        refine (read_lit HQt.out OD.out HRL.out HRR.out).mono ?_
        rintro e W21 ⟨p21, n21, c21, rfl, hb, hq⟩
        clear ks0 ks1 ks2 ks3 ks4 ks5 ks6 ks7 kt0 kt1 kt2 kt3 kt4 kt5 kt6 kt7
        have HBW := Lib.hid (HBW.out.trans hb)
        have HXs := Lib.hid (HXs.out.bel hb)
        have HXt := Lib.hid (HXt.out.bel hb)
        have HQs := Lib.hid (HQs.out.bel hb)
        have HQt := Lib.hid (HQt.out.bel hb)
        have HQu := Lib.hid hq
        clear hb hq
        obtain ⟨ks0, ks1, ks2, ks3, ks4, ks5, ks6, ks7⟩ := HXs.out.cells
        obtain ⟨kt0, kt1, kt2, kt3, kt4, kt5, kt6, kt7⟩ := HXt.out.cells
        go_upto_region 11 with (fail)
        clear ks0 ks1 ks2 ks3 ks4 ks5 ks6 ks7 kt0 kt1 kt2 kt3 kt4 kt5 kt6 kt7
        have hnew : BoxAt (W21.alloc (.cells #[.int .i64 (d.kind : Int), .int .i64 d.r0, .int .i64 d.r1, .int .i64 d.r2, .int .i64 d.r3, .slice p21 n21 c21, .int .i64 d.sent, .bool d.up] 27)) W21.heap.size 27 d (.slice p21 n21 c21) := heap_alloc_new W21 _
        have hb : Bel W21 (W21.alloc (.cells #[.int .i64 (d.kind : Int), .int .i64 d.r0, .int .i64 d.r1, .int .i64 d.r2, .int .i64 d.r3, .slice p21 n21 c21, .int .i64 d.sent, .bool d.up] 27)) := (Bel.refl W21).alloc _ _
        have hge : w.heap.size ≤ W21.heap.size := HBW.out.size
        have HNsu : Hid (gs ≠ W21.heap.size) := Lib.hid (by have := lt_of_heap HXs.out; omega)
        have HNtu : Hid (gt ≠ W21.heap.size) := Lib.hid (by have := lt_of_heap HXt.out; omega)
        generalize hWW : (W21.alloc (.cells #[.int .i64 (d.kind : Int), .int .i64 d.r0, .int .i64 d.r1, .int .i64 d.r2, .int .i64 d.r3, .slice p21 n21 c21, .int .i64 d.sent, .bool d.up] 27)) = W22 at hnew hb ⊢
        clear hWW
        have HBW := Lib.hid (HBW.out.trans hb)
        have HXs := Lib.hid (HXs.out.bel hb)
        have HXt := Lib.hid (HXt.out.bel hb)
        have HQs := Lib.hid (HQs.out.bel hb)
        have HQt := Lib.hid (HQt.out.bel hb)
        have HQu := Lib.hid (HQu.out.bel hb)
        generalize W21.heap.size = gu at hnew hge HNsu HNtu ⊢
        have HXu := Lib.hid hnew
        have HGEu := Lib.hid hge
        clear hnew hb hge
        have HQu := HQu
        obtain ⟨ks0, ks1, ks2, ks3, ks4, ks5, ks6, ks7⟩ := HXs.out.cells
        obtain ⟨kt0, kt1, kt2, kt3, kt4, kt5, kt6, kt7⟩ := HXt.out.cells
        obtain ⟨ku0, ku1, ku2, ku3, ku4, ku5, ku6, ku7⟩ := HXu.out.cells
        go_wp2_with fail
        refine (read_lit HQs.out OD.out HRL.out HRR.out).mono ?_
        rintro e W23 ⟨p23, n23, c23, rfl, hb, hq⟩
        clear ks0 ks1 ks2 ks3 ks4 ks5 ks6 ks7 kt0 kt1 kt2 kt3 kt4 kt5 kt6 kt7 ku0 ku1 ku2 ku3 ku4 ku5 ku6 ku7
        have HBW := Lib.hid (HBW.out.trans hb)
        have HXs := Lib.hid (HXs.out.bel hb)
        have HXt := Lib.hid (HXt.out.bel hb)
        have HXu := Lib.hid (HXu.out.bel hb)
        have HQs := Lib.hid (HQs.out.bel hb)
        have HQt := Lib.hid (HQt.out.bel hb)
        have HQu := Lib.hid (HQu.out.bel hb)
        have HQb := Lib.hid hq
        clear hb hq
        obtain ⟨ks0, ks1, ks2, ks3, ks4, ks5, ks6, ks7⟩ := HXs.out.cells
        obtain ⟨kt0, kt1, kt2, kt3, kt4, kt5, kt6, kt7⟩ := HXt.out.cells
        obtain ⟨ku0, ku1, ku2, ku3, ku4, ku5, ku6, ku7⟩ := HXu.out.cells
        go_upto_region 12 with (fail)
        clear ks0 ks1 ks2 ks3 ks4 ks5 ks6 ks7 kt0 kt1 kt2 kt3 kt4 kt5 kt6 kt7 ku0 ku1 ku2 ku3 ku4 ku5 ku6 ku7
        have hnew : BoxAt (W23.alloc (.cells #[.int .i64 (d.kind : Int), .int .i64 d.r0, .int .i64 d.r1, .int .i64 d.r2, .int .i64 d.r3, .slice p23 n23 c23, .int .i64 d.sent, .bool d.up] 27)) W23.heap.size 27 d (.slice p23 n23 c23) := heap_alloc_new W23 _
        have hb : Bel W23 (W23.alloc (.cells #[.int .i64 (d.kind : Int), .int .i64 d.r0, .int .i64 d.r1, .int .i64 d.r2, .int .i64 d.r3, .slice p23 n23 c23, .int .i64 d.sent, .bool d.up] 27)) := (Bel.refl W23).alloc _ _
        have hge : w.heap.size ≤ W23.heap.size := HBW.out.size
        have HNsb : Hid (gs ≠ W23.heap.size) := Lib.hid (by have := lt_of_heap HXs.out; omega)
        have HNtb : Hid (gt ≠ W23.heap.size) := Lib.hid (by have := lt_of_heap HXt.out; omega)
        have HNub : Hid (gu ≠ W23.heap.size) := Lib.hid (by have := lt_of_heap HXu.out; omega)
        generalize hWW : (W23.alloc (.cells #[.int .i64 (d.kind : Int), .int .i64 d.r0, .int .i64 d.r1, .int .i64 d.r2, .int .i64 d.r3, .slice p23 n23 c23, .int .i64 d.sent, .bool d.up] 27)) = W24 at hnew hb ⊢
        clear hWW
        have HBW := Lib.hid (HBW.out.trans hb)
        have HXs := Lib.hid (HXs.out.bel hb)
        have HXt := Lib.hid (HXt.out.bel hb)
        have HXu := Lib.hid (HXu.out.bel hb)
        have HQs := Lib.hid (HQs.out.bel hb)
        have HQt := Lib.hid (HQt.out.bel hb)
        have HQu := Lib.hid (HQu.out.bel hb)
        have HQb := Lib.hid (HQb.out.bel hb)
        generalize W23.heap.size = gb at hnew hge HNsb HNtb HNub ⊢
        have HXb := Lib.hid hnew
        have HGEb := Lib.hid hge
        clear hnew hb hge
        have HQb := HQb
        obtain ⟨ks0, ks1, ks2, ks3, ks4, ks5, ks6, ks7⟩ := HXs.out.cells
        obtain ⟨kt0, kt1, kt2, kt3, kt4, kt5, kt6, kt7⟩ := HXt.out.cells
        obtain ⟨ku0, ku1, ku2, ku3, ku4, ku5, ku6, ku7⟩ := HXu.out.cells
        obtain ⟨kb0, kb1, kb2, kb3, kb4, kb5, kb6, kb7⟩ := HXb.out.cells
        go_wp2_with fail
        refine (samel S1.out HQu.out HQs.out OD.out).mono ?_
        rintro e W25 ⟨rfl, hb⟩
        clear ks0 ks1 ks2 ks3 ks4 ks5 ks6 ks7 kt0 kt1 kt2 kt3 kt4 kt5 kt6 kt7 ku0 ku1 ku2 ku3 ku4 ku5 ku6 ku7 kb0 kb1 kb2 kb3 kb4 kb5 kb6 kb7
        have HBW := Lib.hid (HBW.out.trans hb)
        have HXs := Lib.hid (HXs.out.bel hb)
        have HXt := Lib.hid (HXt.out.bel hb)
        have HXu := Lib.hid (HXu.out.bel hb)
        have HXb := Lib.hid (HXb.out.bel hb)
        have HQs := Lib.hid (HQs.out.bel hb)
        have HQt := Lib.hid (HQt.out.bel hb)
        have HQu := Lib.hid (HQu.out.bel hb)
        have HQb := Lib.hid (HQb.out.bel hb)
        clear hb
        obtain ⟨ks0, ks1, ks2, ks3, ks4, ks5, ks6, ks7⟩ := HXs.out.cells
        obtain ⟨kt0, kt1, kt2, kt3, kt4, kt5, kt6, kt7⟩ := HXt.out.cells
        have yt0 := HXt.out.frozen 0
        have yt1 := HXt.out.frozen 1
        have yt2 := HXt.out.frozen 2
        have yt3 := HXt.out.frozen 3
        have yt4 := HXt.out.frozen 4
        have yt5 := HXt.out.frozen 5
        have yt6 := HXt.out.frozen 6
        have yt7 := HXt.out.frozen 7
        obtain ⟨ku0, ku1, ku2, ku3, ku4, ku5, ku6, ku7⟩ := HXu.out.cells
        obtain ⟨kb0, kb1, kb2, kb3, kb4, kb5, kb6, kb7⟩ := HXb.out.cells
        have HQz := HQu
        go_upto_region 6 with (fail)
        clear ks0 ks1 ks2 ks3 ks4 ks5 ks6 ks7 kt0 kt1 kt2 kt3 kt4 kt5 kt6 kt7 yt0 yt1 yt2 yt3 yt4 yt5 yt6 yt7 ku0 ku1 ku2 ku3 ku4 ku5 ku6 ku7 kb0 kb1 kb2 kb3 kb4 kb5 kb6 kb7
        have hs8 : Svg gt W25 ((((((((W25.setCell ⟨gt, 0, none⟩ (.int .i64 (d.kind : Int))).setCell ⟨gt, 1, none⟩ (.int .i64 d.r0)).setCell ⟨gt, 2, none⟩ (.int .i64 d.r1)).setCell ⟨gt, 3, none⟩ (.int .i64 d.r2)).setCell ⟨gt, 4, none⟩ (.int .i64 d.r3)).setCell ⟨gt, 5, none⟩ (.slice p21 n21 c21)).setCell ⟨gt, 6, none⟩ (.int .i64 d.sent)).setCell ⟨gt, 7, none⟩ (.bool d.up)) := set8_svg W25 gt (.int .i64 (d.kind : Int)) (.int .i64 d.r0) (.int .i64 d.r1) (.int .i64 d.r2) (.int .i64 d.r3) (.slice p21 n21 c21) (.int .i64 d.sent) (.bool d.up)
        have hh : BoxAt ((((((((W25.setCell ⟨gt, 0, none⟩ (.int .i64 (d.kind : Int))).setCell ⟨gt, 1, none⟩ (.int .i64 d.r0)).setCell ⟨gt, 2, none⟩ (.int .i64 d.r1)).setCell ⟨gt, 3, none⟩ (.int .i64 d.r2)).setCell ⟨gt, 4, none⟩ (.int .i64 d.r3)).setCell ⟨gt, 5, none⟩ (.slice p21 n21 c21)).setCell ⟨gt, 6, none⟩ (.int .i64 d.sent)).setCell ⟨gt, 7, none⟩ (.bool d.up)) gt 27 d (.slice p21 n21 c21) := set8_heap (show W25.heap[gt]? = some (.cells #[.int .i64 (d.kind : Int), .int .i64 d.r0, .int .i64 d.r1, .int .i64 d.r2, .int .i64 d.r3, .slice p n c, .int .i64 d.sent, .bool d.up] 27 (0, 0)) from HXt.out) (.int .i64 (d.kind : Int)) (.int .i64 d.r0) (.int .i64 d.r1) (.int .i64 d.r2) (.int .i64 d.r3) (.slice p21 n21 c21) (.int .i64 d.sent) (.bool d.up)
        generalize hWW : ((((((((W25.setCell ⟨gt, 0, none⟩ (.int .i64 (d.kind : Int))).setCell ⟨gt, 1, none⟩ (.int .i64 d.r0)).setCell ⟨gt, 2, none⟩ (.int .i64 d.r1)).setCell ⟨gt, 3, none⟩ (.int .i64 d.r2)).setCell ⟨gt, 4, none⟩ (.int .i64 d.r3)).setCell ⟨gt, 5, none⟩ (.slice p21 n21 c21)).setCell ⟨gt, 6, none⟩ (.int .i64 d.sent)).setCell ⟨gt, 7, none⟩ (.bool d.up)) = W26 at hs8 hh ⊢
        clear hWW
        have HBW := Lib.hid (hs8.bel HBW.out HGEt.out)
        have HXs := Lib.hid ((hs8.block _ (lt_of_heap HXs.out) HNst.out).trans HXs.out)
        have HXu := Lib.hid ((hs8.block _ (lt_of_heap HXu.out) HNtu.out.symm).trans HXu.out)
        have HXb := Lib.hid ((hs8.block _ (lt_of_heap HXb.out) HNtb.out.symm).trans HXb.out)
        have HQs := Lib.hid (HQs.out.keep hs8 HXt.out (by decide))
        have HQt := Lib.hid (HQt.out.keep hs8 HXt.out (by decide))
        have HQu := Lib.hid (HQu.out.keep hs8 HXt.out (by decide))
        have HQb := Lib.hid (HQb.out.keep hs8 HXt.out (by decide))
        have HQz := Lib.hid (HQz.out.keep hs8 HXt.out (by decide))
        have HXt := Lib.hid hh
        clear hs8 hh
        have HQt := HQz
        go_wp2
        exact ⟨⟨k + 1, p21, n21, c21, by omega, by omega, by go_num, HXs, HQs, HXt, HQt, HBW⟩, by simp [intOf]; omega⟩
    · by_cases l3 : k < N2
      · have l5 : ¬ (k : Int) < 20 := by omega
        clear hlt hk1 hk2
        go_wp2
        go_ret
        exact ⟨rfl, HBW.out⟩
      · clear hlt hk1 hk2
        go_wp2
        go_ret
        exact ⟨rfl, HBW.out⟩
end Go.Proofs.Ytbhpnoodpicdkaa
