/- DeviceTimes: a timer raises its interrupt when so much was handed in as its second register says, no sooner, and until that is let go. -/
import Derived.Test.YtbhpnoodpicdkaaGOpen
import Derived.Test.YtbhpnoodpicdkaaGPlain2
import Derived.Deep.LoopGhost
namespace Go.Proofs.Ytbhpnoodpicdkaa
open Go.RowKit Dv
set_option linter.unusedVariables false
set_option linter.unusedSimpArgs false
theorem ok_tq {k j : Int} (u : Bool) (hk : in32 k) (hj : in32 j) : Ok (tq k j u) :=
  ⟨by show 1 ≤ 2 ∧ 2 ≤ 3; omega, hj, hk, by show in32 1; unfold in32; omega, in0, by show 0 ≤ 16; omega, (fun x hx => by cases hx), by show (0 : Int) ≤ 0 ∧ (0 : Int) ≤ 2147483647; omega, (fun h => by cases h)⟩
theorem beq_nat (k K : Nat) : ((k : Int) + 1 == (K : Int)) = decide (k + 1 = K) := by
  rw [Bool.eq_iff_iff, beq_iff_eq, decide_eq_true_eq]
  omega
theorem tq_up (k j : Int) (u : Bool) : (tq k j u).up = u := rfl
theorem sm (k : Nat) (h : k ≤ 1000) : in32 (k : Int) := by unfold in32; omega
set_option maxRecDepth 100000 in
set_option maxHeartbeats 8000000 in
theorem times_any (w : World) {nn more : Int} {P : Option Addr} {N C : Nat} {l : List Int} (hi : inInt nn) (hmo : inInt more) (hn : l.length = N) (hL : IntsQ w P l) :
    Calls Try.prog 6 #[.int .i64 nn, .int .i64 more, .slice P N C] w fun e w' => e = .returned (.bool true) ∧ Bel w w' := by
  obtain ⟨kn, hkn⟩ : ∃ kn : Nat, pick nn 40 = (kn : Int) := ⟨(pick nn 40).toNat, by have := pick_bd nn (n := 40) (by omega); omega⟩
  have hkl : kn < 40 := by have := pick_bd nn (n := 40) (by omega); omega
  obtain ⟨M, hM⟩ : ∃ M : Nat, pick more 10 = (M : Int) := ⟨(pick more 10).toNat, by have := pick_bd more (n := 10) (by omega); omega⟩
  have hMl : M < 10 := by have := pick_bd more (n := 10) (by omega); omega
  obtain ⟨K, hK⟩ : ∃ K : Nat, K = 1 + kn := ⟨_, rfl⟩
  have hKi : (1 : Int) + (kn : Int) = (K : Int) := by omega
  have hK1 : 1 ≤ K ∧ K ≤ 40 := by omega
  have hK32 : in32 (K : Int) := sm K (by omega)
  obtain ⟨t0, ht0⟩ : ∃ d, newD 2 = d := ⟨_, rfl⟩
  have ot0 : Ok t0 := by rw [← ht0]; exact ok_new (by omega)
  obtain ⟨t1, ht1⟩ : ∃ d, wrV t0 1 (K : Int) = d := ⟨_, rfl⟩
  have ot1 : Ok t1 := by rw [← ht1]; exact ok_wr ot0 _ _
  obtain ⟨t2, ht2⟩ : ∃ d, wrV t1 2 1 = d := ⟨_, rfl⟩
  have et2 : t2 = tq K ((0 : Nat) : Int) false := by rw [← ht2, ← ht1, ← ht0, tq_1 hK32, tq_2]; rfl
  have HKN := Lib.hid hkn
  have HPM := Lib.hid hM
  have HML := Lib.hid hMl
  have HKI := Lib.hid hKi
  have HK1 := Lib.hid hK1
  have HK32 := Lib.hid hK32
  have HT0 := Lib.hid ht0
  have OT0 := Lib.hid ot0
  have HT1 := Lib.hid ht1
  have OT1 := Lib.hid ot1
  have HT2 := Lib.hid ht2
  have ET2 := Lib.hid et2
  have HI := Lib.hid hi
  have HMO := Lib.hid hmo
  have HL := Lib.hid hL
  have HN := Lib.hid hn
  have HBW := Lib.hid (Bel.refl w)
  clear hkn hM hMl hK hK1 hK32 ht0 ot0 ht1 ot1 ht2 et2 hi hmo hL hn
  go_enter Try.func6, Try.ntmps6
  go_wp2_with fail
  refine (awake_any _).mono ?_
  rintro e W1 ⟨rfl, hb⟩
  have HBW := Lib.hid (HBW.out.trans hb)
  clear hb
  go_wp2_with (go_at_call 12; ((with_reducible refine (pick_lit HKN.out HI.out (by decide) _).mono ?_); rintro e w' ⟨rfl, rfl⟩))
  refine (new_lit2 _ HT0.out).mono ?_
  rintro e W2 ⟨p2, n2, c2, rfl, hb, hq⟩
  have HBW := Lib.hid (HBW.out.trans hb)
  have HQv := Lib.hid hq
  clear hb hq
  clear hKi
  go_wp2_with fail
  refine (write_lit1 HQv.out OT0.out HT1.out).mono ?_
  rintro e W3 ⟨p3, n3, c3, rfl, hb, hq⟩
  have HBW := Lib.hid (HBW.out.trans hb)
  have HQv := Lib.hid (HQv.out.bel hb)
  have HQu := Lib.hid hq
  clear hb hq
  go_wp2_with fail
  refine (write_lit2 HQu.out OT1.out HT2.out).mono ?_
  rintro e W4 ⟨p4, n4, c4, rfl, hb, hq⟩
  have HBW := Lib.hid (HBW.out.trans hb)
  have HQu := Lib.hid (HQu.out.bel hb)
  have HQu := Lib.hid hq
  clear hb hq
  go_upto_region 4 with (fail)
  have hnew : BoxAt (W4.alloc (.cells #[.int .i64 (t2.kind : Int), .int .i64 t2.r0, .int .i64 t2.r1, .int .i64 t2.r2, .int .i64 t2.r3, .slice p4 n4 c4, .int .i64 t2.sent, .bool t2.up] 27)) W4.heap.size 27 t2 (.slice p4 n4 c4) := heap_alloc_new W4 _
  have hb : Bel W4 (W4.alloc (.cells #[.int .i64 (t2.kind : Int), .int .i64 t2.r0, .int .i64 t2.r1, .int .i64 t2.r2, .int .i64 t2.r3, .slice p4 n4 c4, .int .i64 t2.sent, .bool t2.up] 27)) := (Bel.refl W4).alloc _ _
  have hge : w.heap.size ≤ W4.heap.size := HBW.out.size
  generalize hWW : (W4.alloc (.cells #[.int .i64 (t2.kind : Int), .int .i64 t2.r0, .int .i64 t2.r1, .int .i64 t2.r2, .int .i64 t2.r3, .slice p4 n4 c4, .int .i64 t2.sent, .bool t2.up] 27)) = W5 at hnew hb ⊢
  clear hWW
  have HBW := Lib.hid (HBW.out.trans hb)
  have HQu := Lib.hid (HQu.out.bel hb)
  generalize W4.heap.size = gs at hnew hge  ⊢
  have HXs := Lib.hid hnew
  have HGEs := Lib.hid hge
  clear hnew hb hge
  have HQs := HQu
  have hKb := HK1.out
  go_wp2
  go_loopw [10] (fun i wr => ∃ (k : Nat) (p : Option Addr) (n c : Nat), k ≤ K ∧ i = .int .i64 k ∧ Hid (BoxAt wr gs 27 (tq K (k : Int) (decide (k = K))) (.slice p n c)) ∧ Hid (QAt wr (.slice p n c) (tq K (k : Int) (decide (k = K))).q) ∧ Hid (Bel w wr)) (fun i _ => K - (intOf i).toNat)
  case atStart => exact ⟨0, p4, n4, c4, Nat.zero_le _, rfl, Lib.hid (by rw [show decide (0 = K) = false from decide_eq_false (by omega), ← ET2.out]; exact HXs.out), Lib.hid (by rw [show decide (0 = K) = false from decide_eq_false (by omega), ← ET2.out]; exact HQs.out), HBW⟩
  case round =>
    obtain ⟨k, p, n, c, hk1, rfl, HX, HQQ, HBW⟩ := hrel
    by_cases hlt : k < K
    · obtain ⟨d0, hd0⟩ : ∃ d, tq K (k : Int) (decide (k = K)) = d := ⟨_, rfl⟩
      obtain ⟨d1, hd1⟩ : ∃ d, tq K ((k + 1 : Nat) : Int) (decide (k + 1 = K)) = d := ⟨_, rfl⟩
      have hin : ∀ x, inV d0 x = d1 := fun x => by
        rw [← hd0, tq_in _ _ _ _ (by omega), ← hd1, show decide (k = K) = false from decide_eq_false (by omega), Bool.false_or, beq_nat]
        rfl
      have od0 : Ok d0 := by rw [← hd0]; exact ok_tq _ HK32.out (sm k (by omega))
      have hup : d0.up = false := by rw [← hd0, tq_up]; exact decide_eq_false (by omega)
      rw [hd0] at HX HQQ
      have HXs := HX
      have HQs := HQQ
      have HIN := Lib.hid hin
      have OD0 := Lib.hid od0
      have HUP := Lib.hid hup
      have HD1 := Lib.hid hd1
      clear hd0 hd1 hin od0 hup HX HQQ
      have l3 : (k : Int) < K := by omega
      by_cases hkn : k < N
      · have hlk : k < l.length := by have := HN.out; omega
        obtain ⟨x, hx⟩ : ∃ x, l[k]? = some x := ⟨_, List.getElem?_eq_getElem hlk⟩
        have HQX := HL.out.bel HBW.out
        obtain ⟨ix, B, O, rfl, hB, m0⟩ := HQX k _ hx
        have HM0 := Lib.hid m0
        have HBB := Lib.hid hB
        clear hx hlk ix hB HQX m0
        obtain ⟨ks0, ks1, ks2, ks3, ks4, ks5, ks6, ks7⟩ := HXs.out.cells
        go_wp2_with fail
        refine (raises_lit HQs.out HUP.out).mono ?_
        rintro e W21 ⟨rfl, hb⟩
        have hbr := Lib.hid hb
        clear ks0 ks1 ks2 ks3 ks4 ks5 ks6 ks7
        have HBW := Lib.hid (HBW.out.trans hb)
        have HXs := Lib.hid (HXs.out.bel hb)
        have HQs := Lib.hid (HQs.out.bel hb)
        clear hb
        obtain ⟨ks0, ks1, ks2, ks3, ks4, ks5, ks6, ks7⟩ := HXs.out.cells
        have m0 := (Bel.cell hbr.out (p := ⟨B, O + k, none⟩) HBB.out).trans HM0.out
        go_wp2_with fail
        refine (input_lit HQs.out OD0.out (HIN.out x)).mono ?_
        rintro e W22 ⟨p22, n22, c22, rfl, hb, hq⟩
        clear ks0 ks1 ks2 ks3 ks4 ks5 ks6 ks7
        have HBW := Lib.hid (HBW.out.trans hb)
        have HXs := Lib.hid (HXs.out.bel hb)
        have HQs := Lib.hid (HQs.out.bel hb)
        have HQz := Lib.hid hq
        clear hb hq
        obtain ⟨ks0, ks1, ks2, ks3, ks4, ks5, ks6, ks7⟩ := HXs.out.cells
        have ys0 := HXs.out.frozen 0
        have ys1 := HXs.out.frozen 1
        have ys2 := HXs.out.frozen 2
        have ys3 := HXs.out.frozen 3
        have ys4 := HXs.out.frozen 4
        have ys5 := HXs.out.frozen 5
        have ys6 := HXs.out.frozen 6
        have ys7 := HXs.out.frozen 7
        go_upto_region 6 with (fail)
        clear ks0 ks1 ks2 ks3 ks4 ks5 ks6 ks7 ys0 ys1 ys2 ys3 ys4 ys5 ys6 ys7
        have hs8 : Svg gs W22 ((((((((W22.setCell ⟨gs, 0, none⟩ (.int .i64 (d1.kind : Int))).setCell ⟨gs, 1, none⟩ (.int .i64 d1.r0)).setCell ⟨gs, 2, none⟩ (.int .i64 d1.r1)).setCell ⟨gs, 3, none⟩ (.int .i64 d1.r2)).setCell ⟨gs, 4, none⟩ (.int .i64 d1.r3)).setCell ⟨gs, 5, none⟩ (.slice p22 n22 c22)).setCell ⟨gs, 6, none⟩ (.int .i64 d1.sent)).setCell ⟨gs, 7, none⟩ (.bool d1.up)) := set8_svg W22 gs (.int .i64 (d1.kind : Int)) (.int .i64 d1.r0) (.int .i64 d1.r1) (.int .i64 d1.r2) (.int .i64 d1.r3) (.slice p22 n22 c22) (.int .i64 d1.sent) (.bool d1.up)
        have hh : BoxAt ((((((((W22.setCell ⟨gs, 0, none⟩ (.int .i64 (d1.kind : Int))).setCell ⟨gs, 1, none⟩ (.int .i64 d1.r0)).setCell ⟨gs, 2, none⟩ (.int .i64 d1.r1)).setCell ⟨gs, 3, none⟩ (.int .i64 d1.r2)).setCell ⟨gs, 4, none⟩ (.int .i64 d1.r3)).setCell ⟨gs, 5, none⟩ (.slice p22 n22 c22)).setCell ⟨gs, 6, none⟩ (.int .i64 d1.sent)).setCell ⟨gs, 7, none⟩ (.bool d1.up)) gs 27 d1 (.slice p22 n22 c22) := set8_heap (show W22.heap[gs]? = some (.cells #[.int .i64 (d0.kind : Int), .int .i64 d0.r0, .int .i64 d0.r1, .int .i64 d0.r2, .int .i64 d0.r3, .slice p n c, .int .i64 d0.sent, .bool d0.up] 27 (0, 0)) from HXs.out) (.int .i64 (d1.kind : Int)) (.int .i64 d1.r0) (.int .i64 d1.r1) (.int .i64 d1.r2) (.int .i64 d1.r3) (.slice p22 n22 c22) (.int .i64 d1.sent) (.bool d1.up)
        generalize hWW : ((((((((W22.setCell ⟨gs, 0, none⟩ (.int .i64 (d1.kind : Int))).setCell ⟨gs, 1, none⟩ (.int .i64 d1.r0)).setCell ⟨gs, 2, none⟩ (.int .i64 d1.r1)).setCell ⟨gs, 3, none⟩ (.int .i64 d1.r2)).setCell ⟨gs, 4, none⟩ (.int .i64 d1.r3)).setCell ⟨gs, 5, none⟩ (.slice p22 n22 c22)).setCell ⟨gs, 6, none⟩ (.int .i64 d1.sent)).setCell ⟨gs, 7, none⟩ (.bool d1.up)) = W23 at hs8 hh ⊢
        clear hWW
        have HBW := Lib.hid (hs8.bel HBW.out HGEs.out)
        have HQs := Lib.hid (HQs.out.keep hs8 HXs.out (by decide))
        have HQz := Lib.hid (HQz.out.keep hs8 HXs.out (by decide))
        have HXs := Lib.hid hh
        clear hs8 hh
        have HQs := HQz
        go_wp2
        exact ⟨⟨k + 1, p22, n22, c22, by omega, by go_num, Lib.hid (by rw [HD1.out]; exact HXs.out), Lib.hid (by rw [HD1.out]; exact HQs.out), HBW⟩, by simp [intOf]; omega⟩
      · have l6 := hkn
        obtain ⟨ks0, ks1, ks2, ks3, ks4, ks5, ks6, ks7⟩ := HXs.out.cells
        go_wp2_with fail
        refine (raises_lit HQs.out HUP.out).mono ?_
        rintro e W21 ⟨rfl, hb⟩
        clear ks0 ks1 ks2 ks3 ks4 ks5 ks6 ks7
        have HBW := Lib.hid (HBW.out.trans hb)
        have HXs := Lib.hid (HXs.out.bel hb)
        have HQs := Lib.hid (HQs.out.bel hb)
        clear hb
        obtain ⟨ks0, ks1, ks2, ks3, ks4, ks5, ks6, ks7⟩ := HXs.out.cells
        go_wp2_with fail
        refine (input_lit HQs.out OD0.out (HIN.out 0)).mono ?_
        rintro e W22 ⟨p22, n22, c22, rfl, hb, hq⟩
        clear ks0 ks1 ks2 ks3 ks4 ks5 ks6 ks7
        have HBW := Lib.hid (HBW.out.trans hb)
        have HXs := Lib.hid (HXs.out.bel hb)
        have HQs := Lib.hid (HQs.out.bel hb)
        have HQz := Lib.hid hq
        clear hb hq
        obtain ⟨ks0, ks1, ks2, ks3, ks4, ks5, ks6, ks7⟩ := HXs.out.cells
        have ys0 := HXs.out.frozen 0
        have ys1 := HXs.out.frozen 1
        have ys2 := HXs.out.frozen 2
        have ys3 := HXs.out.frozen 3
        have ys4 := HXs.out.frozen 4
        have ys5 := HXs.out.frozen 5
        have ys6 := HXs.out.frozen 6
        have ys7 := HXs.out.frozen 7
        go_upto_region 6 with (fail)
        clear ks0 ks1 ks2 ks3 ks4 ks5 ks6 ks7 ys0 ys1 ys2 ys3 ys4 ys5 ys6 ys7
        have hs8 : Svg gs W22 ((((((((W22.setCell ⟨gs, 0, none⟩ (.int .i64 (d1.kind : Int))).setCell ⟨gs, 1, none⟩ (.int .i64 d1.r0)).setCell ⟨gs, 2, none⟩ (.int .i64 d1.r1)).setCell ⟨gs, 3, none⟩ (.int .i64 d1.r2)).setCell ⟨gs, 4, none⟩ (.int .i64 d1.r3)).setCell ⟨gs, 5, none⟩ (.slice p22 n22 c22)).setCell ⟨gs, 6, none⟩ (.int .i64 d1.sent)).setCell ⟨gs, 7, none⟩ (.bool d1.up)) := set8_svg W22 gs (.int .i64 (d1.kind : Int)) (.int .i64 d1.r0) (.int .i64 d1.r1) (.int .i64 d1.r2) (.int .i64 d1.r3) (.slice p22 n22 c22) (.int .i64 d1.sent) (.bool d1.up)
        have hh : BoxAt ((((((((W22.setCell ⟨gs, 0, none⟩ (.int .i64 (d1.kind : Int))).setCell ⟨gs, 1, none⟩ (.int .i64 d1.r0)).setCell ⟨gs, 2, none⟩ (.int .i64 d1.r1)).setCell ⟨gs, 3, none⟩ (.int .i64 d1.r2)).setCell ⟨gs, 4, none⟩ (.int .i64 d1.r3)).setCell ⟨gs, 5, none⟩ (.slice p22 n22 c22)).setCell ⟨gs, 6, none⟩ (.int .i64 d1.sent)).setCell ⟨gs, 7, none⟩ (.bool d1.up)) gs 27 d1 (.slice p22 n22 c22) := set8_heap (show W22.heap[gs]? = some (.cells #[.int .i64 (d0.kind : Int), .int .i64 d0.r0, .int .i64 d0.r1, .int .i64 d0.r2, .int .i64 d0.r3, .slice p n c, .int .i64 d0.sent, .bool d0.up] 27 (0, 0)) from HXs.out) (.int .i64 (d1.kind : Int)) (.int .i64 d1.r0) (.int .i64 d1.r1) (.int .i64 d1.r2) (.int .i64 d1.r3) (.slice p22 n22 c22) (.int .i64 d1.sent) (.bool d1.up)
        generalize hWW : ((((((((W22.setCell ⟨gs, 0, none⟩ (.int .i64 (d1.kind : Int))).setCell ⟨gs, 1, none⟩ (.int .i64 d1.r0)).setCell ⟨gs, 2, none⟩ (.int .i64 d1.r1)).setCell ⟨gs, 3, none⟩ (.int .i64 d1.r2)).setCell ⟨gs, 4, none⟩ (.int .i64 d1.r3)).setCell ⟨gs, 5, none⟩ (.slice p22 n22 c22)).setCell ⟨gs, 6, none⟩ (.int .i64 d1.sent)).setCell ⟨gs, 7, none⟩ (.bool d1.up)) = W23 at hs8 hh ⊢
        clear hWW
        have HBW := Lib.hid (hs8.bel HBW.out HGEs.out)
        have HQs := Lib.hid (HQs.out.keep hs8 HXs.out (by decide))
        have HQz := Lib.hid (HQz.out.keep hs8 HXs.out (by decide))
        have HXs := Lib.hid hh
        clear hs8 hh
        have HQs := HQz
        go_wp2
        exact ⟨⟨k + 1, p22, n22, c22, by omega, by go_num, Lib.hid (by rw [HD1.out]; exact HXs.out), Lib.hid (by rw [HD1.out]; exact HQs.out), HBW⟩, by simp [intOf]; omega⟩
    · have hkk : k = K := by omega
      subst k
      obtain ⟨d0, hd0⟩ : ∃ d, tq (K : Int) (K : Int) true = d := ⟨_, rfl⟩
      rw [show decide (K = K) = true from decide_eq_true rfl, hd0] at HX HQQ
      have hup : d0.up = true := by rw [← hd0]; rfl
      have HXs := HX
      have HQs := HQQ
      have HD0 := Lib.hid hd0
      have HUP := Lib.hid hup
      clear hd0 hup HX HQQ hlt
      obtain ⟨ks0, ks1, ks2, ks3, ks4, ks5, ks6, ks7⟩ := HXs.out.cells
      go_wp2_with fail
      refine (raises_lit HQs.out HUP.out).mono ?_
      rintro e W31 ⟨rfl, hb⟩
      clear ks0 ks1 ks2 ks3 ks4 ks5 ks6 ks7
      have HBW := Lib.hid (HBW.out.trans hb)
      have HXs := Lib.hid (HXs.out.bel hb)
      have HQs := Lib.hid (HQs.out.bel hb)
      clear hb
      go_wp2_with (go_at_call 12; ((with_reducible refine (pick_lit HPM.out HMO.out (by decide) _).mono ?_); rintro e w' ⟨rfl, rfl⟩))
      go_loopw [13] (fun i wr => ∃ (k : Nat) (p : Option Addr) (n c : Nat), k ≤ M ∧ i = .int .i64 k ∧ Hid (BoxAt wr gs 27 (tq K ((K + (M - k) : Nat) : Int) true) (.slice p n c)) ∧ Hid (QAt wr (.slice p n c) (tq K ((K + (M - k) : Nat) : Int) true).q) ∧ Hid (Bel w wr)) (fun i _ => (intOf i).toNat)
      case atStart => exact ⟨M, p, n, c, Nat.le_refl _, rfl, Lib.hid (by rw [Nat.sub_self, Nat.add_zero, HD0.out]; exact HXs.out), Lib.hid (by rw [Nat.sub_self, Nat.add_zero, HD0.out]; exact HQs.out), HBW⟩
      case round =>
        obtain ⟨k, p, n, c, hk1, rfl, HX, HQQ, HBW⟩ := hrel
        have hml := HML.out
        by_cases hlt : 0 < k
        · obtain ⟨e0, he0⟩ : ∃ d, tq K ((K + (M - k) : Nat) : Int) true = d := ⟨_, rfl⟩
          obtain ⟨e1, he1⟩ : ∃ d, tq K ((K + (M - (k - 1)) : Nat) : Int) true = d := ⟨_, rfl⟩
          have hin : inV e0 0 = e1 := by
            rw [← he0, tq_in _ _ _ _ (by omega), ← he1, Bool.true_or]
            congr 1
            omega
          have oe0 : Ok e0 := by rw [← he0]; exact ok_tq _ HK32.out (sm _ (by omega))
          rw [he0] at HX HQQ
          have HXs := HX
          have HQs := HQQ
          have HIN2 := Lib.hid hin
          have OE0 := Lib.hid oe0
          have HE1 := Lib.hid he1
          have l7 : (k : Int) ≤ 10 := by omega
          have l8 : 0 < (k : Int) := by omega
          clear he0 he1 hin oe0 HX HQQ hml
          obtain ⟨ks0, ks1, ks2, ks3, ks4, ks5, ks6, ks7⟩ := HXs.out.cells
          go_wp2_with fail
          refine (input_lit HQs.out OE0.out HIN2.out).mono ?_
          rintro e W41 ⟨p41, n41, c41, rfl, hb, hq⟩
          clear ks0 ks1 ks2 ks3 ks4 ks5 ks6 ks7
          have HBW := Lib.hid (HBW.out.trans hb)
          have HXs := Lib.hid (HXs.out.bel hb)
          have HQs := Lib.hid (HQs.out.bel hb)
          have HQz := Lib.hid hq
          clear hb hq
          obtain ⟨ks0, ks1, ks2, ks3, ks4, ks5, ks6, ks7⟩ := HXs.out.cells
          have ys0 := HXs.out.frozen 0
          have ys1 := HXs.out.frozen 1
          have ys2 := HXs.out.frozen 2
          have ys3 := HXs.out.frozen 3
          have ys4 := HXs.out.frozen 4
          have ys5 := HXs.out.frozen 5
          have ys6 := HXs.out.frozen 6
          have ys7 := HXs.out.frozen 7
          go_upto_region 16 with (fail)
          clear ks0 ks1 ks2 ks3 ks4 ks5 ks6 ks7 ys0 ys1 ys2 ys3 ys4 ys5 ys6 ys7
          have hs8 : Svg gs W41 ((((((((W41.setCell ⟨gs, 0, none⟩ (.int .i64 (e1.kind : Int))).setCell ⟨gs, 1, none⟩ (.int .i64 e1.r0)).setCell ⟨gs, 2, none⟩ (.int .i64 e1.r1)).setCell ⟨gs, 3, none⟩ (.int .i64 e1.r2)).setCell ⟨gs, 4, none⟩ (.int .i64 e1.r3)).setCell ⟨gs, 5, none⟩ (.slice p41 n41 c41)).setCell ⟨gs, 6, none⟩ (.int .i64 e1.sent)).setCell ⟨gs, 7, none⟩ (.bool e1.up)) := set8_svg W41 gs (.int .i64 (e1.kind : Int)) (.int .i64 e1.r0) (.int .i64 e1.r1) (.int .i64 e1.r2) (.int .i64 e1.r3) (.slice p41 n41 c41) (.int .i64 e1.sent) (.bool e1.up)
          have hh : BoxAt ((((((((W41.setCell ⟨gs, 0, none⟩ (.int .i64 (e1.kind : Int))).setCell ⟨gs, 1, none⟩ (.int .i64 e1.r0)).setCell ⟨gs, 2, none⟩ (.int .i64 e1.r1)).setCell ⟨gs, 3, none⟩ (.int .i64 e1.r2)).setCell ⟨gs, 4, none⟩ (.int .i64 e1.r3)).setCell ⟨gs, 5, none⟩ (.slice p41 n41 c41)).setCell ⟨gs, 6, none⟩ (.int .i64 e1.sent)).setCell ⟨gs, 7, none⟩ (.bool e1.up)) gs 27 e1 (.slice p41 n41 c41) := set8_heap (show W41.heap[gs]? = some (.cells #[.int .i64 (e0.kind : Int), .int .i64 e0.r0, .int .i64 e0.r1, .int .i64 e0.r2, .int .i64 e0.r3, .slice p n c, .int .i64 e0.sent, .bool e0.up] 27 (0, 0)) from HXs.out) (.int .i64 (e1.kind : Int)) (.int .i64 e1.r0) (.int .i64 e1.r1) (.int .i64 e1.r2) (.int .i64 e1.r3) (.slice p41 n41 c41) (.int .i64 e1.sent) (.bool e1.up)
          generalize hWW : ((((((((W41.setCell ⟨gs, 0, none⟩ (.int .i64 (e1.kind : Int))).setCell ⟨gs, 1, none⟩ (.int .i64 e1.r0)).setCell ⟨gs, 2, none⟩ (.int .i64 e1.r1)).setCell ⟨gs, 3, none⟩ (.int .i64 e1.r2)).setCell ⟨gs, 4, none⟩ (.int .i64 e1.r3)).setCell ⟨gs, 5, none⟩ (.slice p41 n41 c41)).setCell ⟨gs, 6, none⟩ (.int .i64 e1.sent)).setCell ⟨gs, 7, none⟩ (.bool e1.up)) = W42 at hs8 hh ⊢
          clear hWW
          have HBW := Lib.hid (hs8.bel HBW.out HGEs.out)
          have HQs := Lib.hid (HQs.out.keep hs8 HXs.out (by decide))
          have HQz := Lib.hid (HQz.out.keep hs8 HXs.out (by decide))
          have HXs := Lib.hid hh
          clear hs8 hh
          have HQs := HQz
          go_wp2
          exact ⟨⟨k - 1, p41, n41, c41, by omega, by go_num, Lib.hid (by rw [HE1.out]; exact HXs.out), Lib.hid (by rw [HE1.out]; exact HQs.out), HBW⟩, by simp [intOf]; omega⟩
        · obtain rfl : k = 0 := by omega
          obtain ⟨e0, he0⟩ : ∃ d, tq K ((K + M : Nat) : Int) true = d := ⟨_, rfl⟩
          obtain ⟨e1, he1⟩ : ∃ d, tq K ((K + M : Nat) : Int) false = d := ⟨_, rfl⟩
          rw [Nat.sub_zero, he0] at HX HQQ
          have oe0 : Ok e0 := by rw [← he0]; exact ok_tq _ HK32.out (sm _ (by omega))
          have oe1 : Ok e1 := by rw [← he1]; exact ok_tq _ HK32.out (sm _ (by omega))
          have r3 : rdV e0 3 = (1, e0) := by rw [← he0, tq_rd3]; rfl
          have r0 : rdV e0 0 = (((K + M : Nat) : Int), e0) := by rw [← he0, tq_rd0]
          have w3 : wrV e0 3 0 = e1 := by rw [← he0, ← he1]; exact tq_wr3 _ _ _
          have r3b : rdV e1 3 = (0, e1) := by rw [← he1, tq_rd3]; rfl
          have u0 : e0.up = true := by rw [← he0]; rfl
          have u1 : e1.up = false := by rw [← he1]; rfl
          have hs : ((K + M : Nat) : Int) = (K : Int) + (M : Int) := by omega
          rw [hs] at r0
          have HXs := HX
          have HQs := HQQ
          have OE0 := Lib.hid oe0
          have OE1 := Lib.hid oe1
          have R3 := Lib.hid r3
          have R0 := Lib.hid r0
          have W3 := Lib.hid w3
          have R3B := Lib.hid r3b
          have U0 := Lib.hid u0
          have U1 := Lib.hid u1
          have ekm : (((K : Int) + (M : Int)) == ((K : Int) + (M : Int))) = true := beq_self_eq_true _
          clear he0 he1 oe0 oe1 r3 r0 w3 r3b u0 u1 hs HX HQQ hlt
          obtain ⟨ks0, ks1, ks2, ks3, ks4, ks5, ks6, ks7⟩ := HXs.out.cells
          go_wp2_with fail
          refine (read_lit3 HQs.out OE0.out R3.out).mono ?_
          rintro e W51 ⟨p51, n51, c51, rfl, hb, hq⟩
          clear ks0 ks1 ks2 ks3 ks4 ks5 ks6 ks7
          have HBW := Lib.hid (HBW.out.trans hb)
          have HXs := Lib.hid (HXs.out.bel hb)
          have HQs := Lib.hid (HQs.out.bel hb)
          have HQz := Lib.hid hq
          clear hb hq
          obtain ⟨ks0, ks1, ks2, ks3, ks4, ks5, ks6, ks7⟩ := HXs.out.cells
          have ys0 := HXs.out.frozen 0
          have ys1 := HXs.out.frozen 1
          have ys2 := HXs.out.frozen 2
          have ys3 := HXs.out.frozen 3
          have ys4 := HXs.out.frozen 4
          have ys5 := HXs.out.frozen 5
          have ys6 := HXs.out.frozen 6
          have ys7 := HXs.out.frozen 7
          go_upto_region 19 with (fail)
          clear ks0 ks1 ks2 ks3 ks4 ks5 ks6 ks7 ys0 ys1 ys2 ys3 ys4 ys5 ys6 ys7
          have hs8 : Svg gs W51 ((((((((W51.setCell ⟨gs, 0, none⟩ (.int .i64 (e0.kind : Int))).setCell ⟨gs, 1, none⟩ (.int .i64 e0.r0)).setCell ⟨gs, 2, none⟩ (.int .i64 e0.r1)).setCell ⟨gs, 3, none⟩ (.int .i64 e0.r2)).setCell ⟨gs, 4, none⟩ (.int .i64 e0.r3)).setCell ⟨gs, 5, none⟩ (.slice p51 n51 c51)).setCell ⟨gs, 6, none⟩ (.int .i64 e0.sent)).setCell ⟨gs, 7, none⟩ (.bool e0.up)) := set8_svg W51 gs (.int .i64 (e0.kind : Int)) (.int .i64 e0.r0) (.int .i64 e0.r1) (.int .i64 e0.r2) (.int .i64 e0.r3) (.slice p51 n51 c51) (.int .i64 e0.sent) (.bool e0.up)
          have hh : BoxAt ((((((((W51.setCell ⟨gs, 0, none⟩ (.int .i64 (e0.kind : Int))).setCell ⟨gs, 1, none⟩ (.int .i64 e0.r0)).setCell ⟨gs, 2, none⟩ (.int .i64 e0.r1)).setCell ⟨gs, 3, none⟩ (.int .i64 e0.r2)).setCell ⟨gs, 4, none⟩ (.int .i64 e0.r3)).setCell ⟨gs, 5, none⟩ (.slice p51 n51 c51)).setCell ⟨gs, 6, none⟩ (.int .i64 e0.sent)).setCell ⟨gs, 7, none⟩ (.bool e0.up)) gs 27 e0 (.slice p51 n51 c51) := set8_heap (show W51.heap[gs]? = some (.cells #[.int .i64 (e0.kind : Int), .int .i64 e0.r0, .int .i64 e0.r1, .int .i64 e0.r2, .int .i64 e0.r3, .slice p n c, .int .i64 e0.sent, .bool e0.up] 27 (0, 0)) from HXs.out) (.int .i64 (e0.kind : Int)) (.int .i64 e0.r0) (.int .i64 e0.r1) (.int .i64 e0.r2) (.int .i64 e0.r3) (.slice p51 n51 c51) (.int .i64 e0.sent) (.bool e0.up)
          generalize hWW : ((((((((W51.setCell ⟨gs, 0, none⟩ (.int .i64 (e0.kind : Int))).setCell ⟨gs, 1, none⟩ (.int .i64 e0.r0)).setCell ⟨gs, 2, none⟩ (.int .i64 e0.r1)).setCell ⟨gs, 3, none⟩ (.int .i64 e0.r2)).setCell ⟨gs, 4, none⟩ (.int .i64 e0.r3)).setCell ⟨gs, 5, none⟩ (.slice p51 n51 c51)).setCell ⟨gs, 6, none⟩ (.int .i64 e0.sent)).setCell ⟨gs, 7, none⟩ (.bool e0.up)) = W52 at hs8 hh ⊢
          clear hWW
          have HBW := Lib.hid (hs8.bel HBW.out HGEs.out)
          have HQs := Lib.hid (HQs.out.keep hs8 HXs.out (by decide))
          have HQz := Lib.hid (HQz.out.keep hs8 HXs.out (by decide))
          have HXs := Lib.hid hh
          clear hs8 hh
          have HQs := HQz
          obtain ⟨ks0, ks1, ks2, ks3, ks4, ks5, ks6, ks7⟩ := HXs.out.cells
          go_wp2_with fail
          refine (read_lit0 HQs.out OE0.out R0.out).mono ?_
          rintro e W53 ⟨p53, n53, c53, rfl, hb, hq⟩
          clear ks0 ks1 ks2 ks3 ks4 ks5 ks6 ks7
          have HBW := Lib.hid (HBW.out.trans hb)
          have HXs := Lib.hid (HXs.out.bel hb)
          have HQs := Lib.hid (HQs.out.bel hb)
          have HQz := Lib.hid hq
          clear hb hq
          obtain ⟨ks0, ks1, ks2, ks3, ks4, ks5, ks6, ks7⟩ := HXs.out.cells
          have ys0 := HXs.out.frozen 0
          have ys1 := HXs.out.frozen 1
          have ys2 := HXs.out.frozen 2
          have ys3 := HXs.out.frozen 3
          have ys4 := HXs.out.frozen 4
          have ys5 := HXs.out.frozen 5
          have ys6 := HXs.out.frozen 6
          have ys7 := HXs.out.frozen 7
          go_upto_region 20 with (fail)
          clear ks0 ks1 ks2 ks3 ks4 ks5 ks6 ks7 ys0 ys1 ys2 ys3 ys4 ys5 ys6 ys7
          have hs8 : Svg gs W53 ((((((((W53.setCell ⟨gs, 0, none⟩ (.int .i64 (e0.kind : Int))).setCell ⟨gs, 1, none⟩ (.int .i64 e0.r0)).setCell ⟨gs, 2, none⟩ (.int .i64 e0.r1)).setCell ⟨gs, 3, none⟩ (.int .i64 e0.r2)).setCell ⟨gs, 4, none⟩ (.int .i64 e0.r3)).setCell ⟨gs, 5, none⟩ (.slice p53 n53 c53)).setCell ⟨gs, 6, none⟩ (.int .i64 e0.sent)).setCell ⟨gs, 7, none⟩ (.bool e0.up)) := set8_svg W53 gs (.int .i64 (e0.kind : Int)) (.int .i64 e0.r0) (.int .i64 e0.r1) (.int .i64 e0.r2) (.int .i64 e0.r3) (.slice p53 n53 c53) (.int .i64 e0.sent) (.bool e0.up)
          have hh : BoxAt ((((((((W53.setCell ⟨gs, 0, none⟩ (.int .i64 (e0.kind : Int))).setCell ⟨gs, 1, none⟩ (.int .i64 e0.r0)).setCell ⟨gs, 2, none⟩ (.int .i64 e0.r1)).setCell ⟨gs, 3, none⟩ (.int .i64 e0.r2)).setCell ⟨gs, 4, none⟩ (.int .i64 e0.r3)).setCell ⟨gs, 5, none⟩ (.slice p53 n53 c53)).setCell ⟨gs, 6, none⟩ (.int .i64 e0.sent)).setCell ⟨gs, 7, none⟩ (.bool e0.up)) gs 27 e0 (.slice p53 n53 c53) := set8_heap (show W53.heap[gs]? = some (.cells #[.int .i64 (e0.kind : Int), .int .i64 e0.r0, .int .i64 e0.r1, .int .i64 e0.r2, .int .i64 e0.r3, .slice p51 n51 c51, .int .i64 e0.sent, .bool e0.up] 27 (0, 0)) from HXs.out) (.int .i64 (e0.kind : Int)) (.int .i64 e0.r0) (.int .i64 e0.r1) (.int .i64 e0.r2) (.int .i64 e0.r3) (.slice p53 n53 c53) (.int .i64 e0.sent) (.bool e0.up)
          generalize hWW : ((((((((W53.setCell ⟨gs, 0, none⟩ (.int .i64 (e0.kind : Int))).setCell ⟨gs, 1, none⟩ (.int .i64 e0.r0)).setCell ⟨gs, 2, none⟩ (.int .i64 e0.r1)).setCell ⟨gs, 3, none⟩ (.int .i64 e0.r2)).setCell ⟨gs, 4, none⟩ (.int .i64 e0.r3)).setCell ⟨gs, 5, none⟩ (.slice p53 n53 c53)).setCell ⟨gs, 6, none⟩ (.int .i64 e0.sent)).setCell ⟨gs, 7, none⟩ (.bool e0.up)) = W54 at hs8 hh ⊢
          clear hWW
          have HBW := Lib.hid (hs8.bel HBW.out HGEs.out)
          have HQs := Lib.hid (HQs.out.keep hs8 HXs.out (by decide))
          have HQz := Lib.hid (HQz.out.keep hs8 HXs.out (by decide))
          have HXs := Lib.hid hh
          clear hs8 hh
          have HQs := HQz
          obtain ⟨ks0, ks1, ks2, ks3, ks4, ks5, ks6, ks7⟩ := HXs.out.cells
          go_wp2_with fail
          refine (write_lit3 HQs.out OE0.out W3.out).mono ?_
          rintro e W55 ⟨p55, n55, c55, rfl, hb, hq⟩
          clear ks0 ks1 ks2 ks3 ks4 ks5 ks6 ks7
          have HBW := Lib.hid (HBW.out.trans hb)
          have HXs := Lib.hid (HXs.out.bel hb)
          have HQs := Lib.hid (HQs.out.bel hb)
          have HQz := Lib.hid hq
          clear hb hq
          obtain ⟨ks0, ks1, ks2, ks3, ks4, ks5, ks6, ks7⟩ := HXs.out.cells
          go_upto_region 21 with (fail)
          clear ks0 ks1 ks2 ks3 ks4 ks5 ks6 ks7
          have hnew : BoxAt (W55.alloc (.cells #[.int .i64 (e1.kind : Int), .int .i64 e1.r0, .int .i64 e1.r1, .int .i64 e1.r2, .int .i64 e1.r3, .slice p55 n55 c55, .int .i64 e1.sent, .bool e1.up] 27)) W55.heap.size 27 e1 (.slice p55 n55 c55) := heap_alloc_new W55 _
          have hb : Bel W55 (W55.alloc (.cells #[.int .i64 (e1.kind : Int), .int .i64 e1.r0, .int .i64 e1.r1, .int .i64 e1.r2, .int .i64 e1.r3, .slice p55 n55 c55, .int .i64 e1.sent, .bool e1.up] 27)) := (Bel.refl W55).alloc _ _
          have hge : w.heap.size ≤ W55.heap.size := HBW.out.size
          have HNst : Hid (gs ≠ W55.heap.size) := Lib.hid (by have := lt_of_heap HXs.out; omega)
          generalize hWW : (W55.alloc (.cells #[.int .i64 (e1.kind : Int), .int .i64 e1.r0, .int .i64 e1.r1, .int .i64 e1.r2, .int .i64 e1.r3, .slice p55 n55 c55, .int .i64 e1.sent, .bool e1.up] 27)) = W56 at hnew hb ⊢
          clear hWW
          have HBW := Lib.hid (HBW.out.trans hb)
          have HXs := Lib.hid (HXs.out.bel hb)
          have HQs := Lib.hid (HQs.out.bel hb)
          have HQz := Lib.hid (HQz.out.bel hb)
          generalize W55.heap.size = gt at hnew hge HNst ⊢
          have HXt := Lib.hid hnew
          have HGEt := Lib.hid hge
          clear hnew hb hge
          have HQt := HQz
          obtain ⟨ks0, ks1, ks2, ks3, ks4, ks5, ks6, ks7⟩ := HXs.out.cells
          obtain ⟨kt0, kt1, kt2, kt3, kt4, kt5, kt6, kt7⟩ := HXt.out.cells
          go_wp2_with fail
          refine (read_lit3 HQt.out OE1.out R3B.out).mono ?_
          rintro e W57 ⟨p57, n57, c57, rfl, hb, hq⟩
          clear ks0 ks1 ks2 ks3 ks4 ks5 ks6 ks7 kt0 kt1 kt2 kt3 kt4 kt5 kt6 kt7
          have HBW := Lib.hid (HBW.out.trans hb)
          have HXs := Lib.hid (HXs.out.bel hb)
          have HXt := Lib.hid (HXt.out.bel hb)
          have HQs := Lib.hid (HQs.out.bel hb)
          have HQt := Lib.hid (HQt.out.bel hb)
          have HQz := Lib.hid hq
          clear hb hq
          go_upto_region 22 with (fail)
          have hnew : BoxAt (W57.alloc (.cells #[.int .i64 (e1.kind : Int), .int .i64 e1.r0, .int .i64 e1.r1, .int .i64 e1.r2, .int .i64 e1.r3, .slice p57 n57 c57, .int .i64 e1.sent, .bool e1.up] 27)) W57.heap.size 27 e1 (.slice p57 n57 c57) := heap_alloc_new W57 _
          have hb : Bel W57 (W57.alloc (.cells #[.int .i64 (e1.kind : Int), .int .i64 e1.r0, .int .i64 e1.r1, .int .i64 e1.r2, .int .i64 e1.r3, .slice p57 n57 c57, .int .i64 e1.sent, .bool e1.up] 27)) := (Bel.refl W57).alloc _ _
          have hge : w.heap.size ≤ W57.heap.size := HBW.out.size
          have HNsr : Hid (gs ≠ W57.heap.size) := Lib.hid (by have := lt_of_heap HXs.out; omega)
          have HNtr : Hid (gt ≠ W57.heap.size) := Lib.hid (by have := lt_of_heap HXt.out; omega)
          generalize hWW : (W57.alloc (.cells #[.int .i64 (e1.kind : Int), .int .i64 e1.r0, .int .i64 e1.r1, .int .i64 e1.r2, .int .i64 e1.r3, .slice p57 n57 c57, .int .i64 e1.sent, .bool e1.up] 27)) = W58 at hnew hb ⊢
          clear hWW
          have HBW := Lib.hid (HBW.out.trans hb)
          have HXs := Lib.hid (HXs.out.bel hb)
          have HXt := Lib.hid (HXt.out.bel hb)
          have HQs := Lib.hid (HQs.out.bel hb)
          have HQt := Lib.hid (HQt.out.bel hb)
          have HQz := Lib.hid (HQz.out.bel hb)
          generalize W57.heap.size = gr at hnew hge HNsr HNtr ⊢
          have HXr := Lib.hid hnew
          have HGEr := Lib.hid hge
          clear hnew hb hge
          have HQr := HQz
          obtain ⟨ks0, ks1, ks2, ks3, ks4, ks5, ks6, ks7⟩ := HXs.out.cells
          obtain ⟨kt0, kt1, kt2, kt3, kt4, kt5, kt6, kt7⟩ := HXt.out.cells
          obtain ⟨kr0, kr1, kr2, kr3, kr4, kr5, kr6, kr7⟩ := HXr.out.cells
          go_wp2_with fail
          refine (raises_lit HQs.out U0.out).mono ?_
          rintro e W59 ⟨rfl, hb⟩
          clear ks0 ks1 ks2 ks3 ks4 ks5 ks6 ks7 kt0 kt1 kt2 kt3 kt4 kt5 kt6 kt7 kr0 kr1 kr2 kr3 kr4 kr5 kr6 kr7
          have HBW := Lib.hid (HBW.out.trans hb)
          have HXs := Lib.hid (HXs.out.bel hb)
          have HXt := Lib.hid (HXt.out.bel hb)
          have HXr := Lib.hid (HXr.out.bel hb)
          have HQs := Lib.hid (HQs.out.bel hb)
          have HQt := Lib.hid (HQt.out.bel hb)
          have HQr := Lib.hid (HQr.out.bel hb)
          clear hb
          obtain ⟨ks0, ks1, ks2, ks3, ks4, ks5, ks6, ks7⟩ := HXs.out.cells
          obtain ⟨kt0, kt1, kt2, kt3, kt4, kt5, kt6, kt7⟩ := HXt.out.cells
          obtain ⟨kr0, kr1, kr2, kr3, kr4, kr5, kr6, kr7⟩ := HXr.out.cells
          go_wp2_with (go_at_call 12; ((with_reducible refine (pick_lit HPM.out HMO.out (by decide) _).mono ?_); rintro e w' ⟨rfl, rfl⟩))
          refine (raises_lit HQt.out U1.out).mono ?_
          rintro e W60 ⟨rfl, hb⟩
          clear ks0 ks1 ks2 ks3 ks4 ks5 ks6 ks7 kt0 kt1 kt2 kt3 kt4 kt5 kt6 kt7 kr0 kr1 kr2 kr3 kr4 kr5 kr6 kr7
          have HBW := Lib.hid (HBW.out.trans hb)
          have HXs := Lib.hid (HXs.out.bel hb)
          have HXt := Lib.hid (HXt.out.bel hb)
          have HXr := Lib.hid (HXr.out.bel hb)
          have HQs := Lib.hid (HQs.out.bel hb)
          have HQt := Lib.hid (HQt.out.bel hb)
          have HQr := Lib.hid (HQr.out.bel hb)
          clear hb
          go_wp2
          go_ret
          exact ⟨rfl, HBW.out⟩
end Go.Proofs.Ytbhpnoodpicdkaa
