/- DeviceChanges: a gpio tells the bits that have changed since they were let go, of those that it is to mind. -/
import Derived.Test.YtbhpnoodpicdkaaGOpen
import Derived.Test.YtbhpnoodpicdkaaGPlain2
import Derived.Deep.LoopGhost
namespace Go.Proofs.Ytbhpnoodpicdkaa
open Go.RowKit Dv
set_option linter.unusedVariables false
set_option linter.unusedSimpArgs false
theorem ok_gq {m a c : Int} (hm : in32 m) (ha : in32 a) (hc : in32 c) : Ok (gq m a c) :=
  ⟨by show 1 ≤ 3 ∧ 3 ≤ 3; omega, in0, ha, hm, hc, by show 0 ≤ 16; omega, (fun x hx => by cases hx), by show (0 : Int) ≤ 0 ∧ (0 : Int) ≤ 2147483647; omega, (fun h => by cases h)⟩
theorem gq_up (m a c : Int) : (gq m a c).up = (c != 0) := rfl
set_option maxRecDepth 100000 in
set_option maxHeartbeats 8000000 in
theorem changes_any (w : World) {mask : Int} {P : Option Addr} {N C : Nat} {l : List Int} (hn : l.length = N) (hL : IntsQ w P l) :
    Calls Try.prog 7 #[.slice P N C, .int .i64 mask] w fun e w' => e = .returned (.bool true) ∧ Bel w w' := by
  obtain ⟨m, hm⟩ : ∃ m, wrap32 mask = m := ⟨_, rfl⟩
  have hm32 : in32 m := by rw [← hm]; exact in32_wrap _
  obtain ⟨g0, hg0⟩ : ∃ d, newD 3 = d := ⟨_, rfl⟩
  have og0 : Ok g0 := by rw [← hg0]; exact ok_new (by omega)
  obtain ⟨g1, hg1⟩ : ∃ d, wrV g0 2 mask = d := ⟨_, rfl⟩
  have eg1 : g1 = gq m 0 0 := by rw [← hg1, ← hg0, gq_new, hm]
  have HG0 := Lib.hid hg0
  have OG0 := Lib.hid og0
  have HG1 := Lib.hid hg1
  have EG1 := Lib.hid eg1
  have HM := Lib.hid hm
  have HM32 := Lib.hid hm32
  have HL := Lib.hid hL
  have HN := Lib.hid hn
  have HBW := Lib.hid (Bel.refl w)
  clear hm hm32 hg0 og0 hg1 eg1 hL hn
  go_enter Try.func7, Try.ntmps7
  go_wp2_with fail
  refine (awake_any _).mono ?_
  rintro e W1 ⟨rfl, hb⟩
  have HBW := Lib.hid (HBW.out.trans hb)
  clear hb
  go_wp2_with fail
  refine (new_lit3 _ HG0.out).mono ?_
  rintro e W2 ⟨p2, n2, c2, rfl, hb, hq⟩
  have HBW := Lib.hid (HBW.out.trans hb)
  have HQv := Lib.hid hq
  clear hb hq
  go_wp2_with fail
  refine (write_lit2 HQv.out OG0.out HG1.out).mono ?_
  rintro e W3 ⟨p3, n3, c3, rfl, hb, hq⟩
  have HBW := Lib.hid (HBW.out.trans hb)
  have HQv := Lib.hid (HQv.out.bel hb)
  have HQu := Lib.hid hq
  clear hb hq
  go_upto_region 3 with (fail)
  have hnew : BoxAt (W3.alloc (.cells #[.int .i64 (g1.kind : Int), .int .i64 g1.r0, .int .i64 g1.r1, .int .i64 g1.r2, .int .i64 g1.r3, .slice p3 n3 c3, .int .i64 g1.sent, .bool g1.up] 27)) W3.heap.size 27 g1 (.slice p3 n3 c3) := heap_alloc_new W3 _
  have hb : Bel W3 (W3.alloc (.cells #[.int .i64 (g1.kind : Int), .int .i64 g1.r0, .int .i64 g1.r1, .int .i64 g1.r2, .int .i64 g1.r3, .slice p3 n3 c3, .int .i64 g1.sent, .bool g1.up] 27)) := (Bel.refl W3).alloc _ _
  have hge : w.heap.size ≤ W3.heap.size := HBW.out.size
  generalize hWW : (W3.alloc (.cells #[.int .i64 (g1.kind : Int), .int .i64 g1.r0, .int .i64 g1.r1, .int .i64 g1.r2, .int .i64 g1.r3, .slice p3 n3 c3, .int .i64 g1.sent, .bool g1.up] 27)) = W4 at hnew hb ⊢
  clear hWW
  have HBW := Lib.hid (HBW.out.trans hb)
  have HQu := Lib.hid (HQu.out.bel hb)
  generalize W3.heap.size = gs at hnew hge  ⊢
  have HXs := Lib.hid hnew
  have HGEs := Lib.hid hge
  clear hnew hb hge
  have HQs := HQu
  go_wp2
  go_loopw [7, 8, 9] (fun at' ch i wr => ∃ (k : Nat) (a c : Int) (p : Option Addr) (n cc : Nat), k ≤ N ∧ k ≤ 20 ∧ i = .int .i64 k ∧ at' = .int .i64 a ∧ ch = .int .i64 c ∧ Hid (in32 a) ∧ Hid (in32 c) ∧ Hid (BoxAt wr gs 27 (gq m a c) (.slice p n cc)) ∧ Hid (QAt wr (.slice p n cc) (gq m a c).q) ∧ Hid (Bel w wr)) (fun _ _ i _ => 20 - (intOf i).toNat)
  case atStart => exact ⟨0, 0, 0, p3, n3, c3, Nat.zero_le _, by omega, rfl, rfl, rfl, Lib.hid in0, Lib.hid in0, Lib.hid (by rw [← EG1.out]; exact HXs.out), Lib.hid (by rw [← EG1.out]; exact HQs.out), HBW⟩
  case round =>
    obtain ⟨k, a, c, p, n, cc, hk1, hk2, rfl, rfl, rfl, HA, HC, HX, HQQ, HBW⟩ := hrel
    by_cases hlt : k < N ∧ k < 20
    · obtain ⟨l1, l2⟩ := hlt
      have hlk : k < l.length := by have := HN.out; omega
      obtain ⟨x, hx⟩ : ∃ x, l[k]? = some x := ⟨_, List.getElem?_eq_getElem hlk⟩
      obtain ⟨ix, B, O, rfl, hB, m0⟩ := (HL.out.bel HBW.out) k _ hx
      obtain ⟨n1, hn1⟩ : ∃ n, wrap32 x = n := ⟨_, rfl⟩
      obtain ⟨y1, hy1⟩ : ∃ y, bits .xor .i64 a n1 = y := ⟨_, rfl⟩
      obtain ⟨y2, hy2⟩ : ∃ y, bits .and .i64 y1 m = y := ⟨_, rfl⟩
      obtain ⟨y3, hy3⟩ : ∃ y, bits .or .i64 c y2 = y := ⟨_, rfl⟩
      have hn32 : in32 n1 := by rw [← hn1]; exact in32_wrap _
      have hy32 : in32 y3 := by rw [← hy3, ← hy2, ← hy1]; exact or_in HC.out (and_in (xor_in HA.out hn32) HM32.out)
      obtain ⟨d0, hd0⟩ : ∃ d, gq m a c = d := ⟨_, rfl⟩
      obtain ⟨d1, hd1⟩ : ∃ d, gq m n1 y3 = d := ⟨_, rfl⟩
      have hin : inV d0 x = d1 := by rw [← hd0, gq_in, hn1, hy1, hy2, hy3, hd1]
      have od0 : Ok d0 := by rw [← hd0]; exact ok_gq HM32.out HA.out HC.out
      have od1 : Ok d1 := by rw [← hd1]; exact ok_gq HM32.out hn32 hy32
      have hr3 : rdV d1 3 = (y3, d1) := by rw [← hd1]; exact gq_rd3 _ _ _
      have hr1 : rdV d1 1 = (n1, d1) := by rw [← hd1]; exact gq_rd1 _ _ _
      obtain ⟨b, hb⟩ : ∃ b, (y3 != 0) = b := ⟨_, rfl⟩
      have hup : d1.up = b := by rw [← hd1, gq_up, hb]
      rw [hd0] at HX HQQ
      have HIN := Lib.hid hin
      have OD0 := Lib.hid od0
      have OD1 := Lib.hid od1
      have HR3 := Lib.hid hr3
      have HR1 := Lib.hid hr1
      have HUP := Lib.hid hup
      have HN32 := Lib.hid hn32
      have HY32 := Lib.hid hy32
      have HD1 := Lib.hid hd1
      have hmk := HM.out
      have ⟨b1, b2⟩ := hn32
      have ⟨b3, b4⟩ := HM32.out
      have ey : (y3 != y3) = false := by simp
      have en : (n1 != n1) = false := by simp
      clear hx hlk ix hB hd0 hd1 hin od0 od1 hr3 hr1 hup hn32 hy32
      have l3 : (k : Int) < N := by omega
      have l4 : (k : Int) < 20 := by omega
      have HXD : Hid (BoxAt wr.drew gs 27 d0 (.slice p n cc)) := Lib.hid HX.out
      have HQD : Hid (QAt wr.drew (.slice p n cc) d0.q) := Lib.hid (HQQ.out.bel (Bel.refl wr).drew)
      go_upto_region 11 with (fail)
      clear hy1 hy2 hy3 hn1 hmk b1 b2 b3 b4
      obtain ⟨k0, k1, k2, k3, k4, k5, k6, k7⟩ := HX.out.cells
      go_region_with ((go_at_call 18; ((refine (input_lit HQD.out OD0.out HIN.out).mono ?_); rintro e W4 ⟨p4, n4, c4, rfl, hb4, hq4⟩; have hx4 := hb4.stays HXD.out; have HX4 := Lib.hid hx4; obtain ⟨z0, z1, z2, z3, z4, z5, z6, z7⟩ := BoxAt.cells hx4; have y0' := BoxAt.frozen hx4 0; have y1' := BoxAt.frozen hx4 1; have y2' := BoxAt.frozen hx4 2; have y3' := BoxAt.frozen hx4 3; have y4' := BoxAt.frozen hx4 4; have y5' := BoxAt.frozen hx4 5; have y6' := BoxAt.frozen hx4 6; have y7' := BoxAt.frozen hx4 7; have HB4 := Lib.hid hb4; have HQ4 := Lib.hid hq4; clear hb4 hq4 hx4 k0 k1 k2 k3 k4 k5 k6 k7 m0)))
      all_goals
        have HBW := Lib.hid (HBW.out.drew.trans HB4.out)
        have HXs := Lib.hid (show BoxAt W4 gs 27 d0 (.slice p n cc) from HX4.out)
        have HQz := HQ4
        go_upto_region 12 with (fail)
        clear z0 z1 z2 z3 z4 z5 z6 z7 y0' y1' y2' y3' y4' y5' y6' y7'
        have hs8 : Svg gs W4 ((((((((W4.setCell ⟨gs, 0, none⟩ (.int .i64 (d1.kind : Int))).setCell ⟨gs, 1, none⟩ (.int .i64 d1.r0)).setCell ⟨gs, 2, none⟩ (.int .i64 d1.r1)).setCell ⟨gs, 3, none⟩ (.int .i64 d1.r2)).setCell ⟨gs, 4, none⟩ (.int .i64 d1.r3)).setCell ⟨gs, 5, none⟩ (.slice p4 n4 c4)).setCell ⟨gs, 6, none⟩ (.int .i64 d1.sent)).setCell ⟨gs, 7, none⟩ (.bool d1.up)) := set8_svg W4 gs (.int .i64 (d1.kind : Int)) (.int .i64 d1.r0) (.int .i64 d1.r1) (.int .i64 d1.r2) (.int .i64 d1.r3) (.slice p4 n4 c4) (.int .i64 d1.sent) (.bool d1.up)
        have hh : BoxAt ((((((((W4.setCell ⟨gs, 0, none⟩ (.int .i64 (d1.kind : Int))).setCell ⟨gs, 1, none⟩ (.int .i64 d1.r0)).setCell ⟨gs, 2, none⟩ (.int .i64 d1.r1)).setCell ⟨gs, 3, none⟩ (.int .i64 d1.r2)).setCell ⟨gs, 4, none⟩ (.int .i64 d1.r3)).setCell ⟨gs, 5, none⟩ (.slice p4 n4 c4)).setCell ⟨gs, 6, none⟩ (.int .i64 d1.sent)).setCell ⟨gs, 7, none⟩ (.bool d1.up)) gs 27 d1 (.slice p4 n4 c4) := set8_heap (show W4.heap[gs]? = some (.cells #[.int .i64 (d0.kind : Int), .int .i64 d0.r0, .int .i64 d0.r1, .int .i64 d0.r2, .int .i64 d0.r3, .slice p n cc, .int .i64 d0.sent, .bool d0.up] 27 (0, 0)) from HXs.out) (.int .i64 (d1.kind : Int)) (.int .i64 d1.r0) (.int .i64 d1.r1) (.int .i64 d1.r2) (.int .i64 d1.r3) (.slice p4 n4 c4) (.int .i64 d1.sent) (.bool d1.up)
        generalize hWW : ((((((((W4.setCell ⟨gs, 0, none⟩ (.int .i64 (d1.kind : Int))).setCell ⟨gs, 1, none⟩ (.int .i64 d1.r0)).setCell ⟨gs, 2, none⟩ (.int .i64 d1.r1)).setCell ⟨gs, 3, none⟩ (.int .i64 d1.r2)).setCell ⟨gs, 4, none⟩ (.int .i64 d1.r3)).setCell ⟨gs, 5, none⟩ (.slice p4 n4 c4)).setCell ⟨gs, 6, none⟩ (.int .i64 d1.sent)).setCell ⟨gs, 7, none⟩ (.bool d1.up)) = W41 at hs8 hh ⊢
        clear hWW
        have HBW := Lib.hid (hs8.bel HBW.out HGEs.out)
        have HQz := Lib.hid (HQz.out.keep hs8 HXs.out (by decide))
        have HXs := Lib.hid hh
        clear hs8 hh
        have HQs := HQz
        obtain ⟨ks0, ks1, ks2, ks3, ks4, ks5, ks6, ks7⟩ := HXs.out.cells
        go_wp2_with fail
        refine (read_lit3 HQs.out OD1.out HR3.out).mono ?_
        rintro e W42 ⟨p42, n42, c42, rfl, hb, hq⟩
        clear ks0 ks1 ks2 ks3 ks4 ks5 ks6 ks7
        have HBW := Lib.hid (HBW.out.trans hb)
        have HXs := Lib.hid (HXs.out.bel hb)
        have HQs := Lib.hid (HQs.out.bel hb)
        have HQu := Lib.hid hq
        clear hb hq
        obtain ⟨ks0, ks1, ks2, ks3, ks4, ks5, ks6, ks7⟩ := HXs.out.cells
        go_upto_region 13 with (fail)
        clear ks0 ks1 ks2 ks3 ks4 ks5 ks6 ks7
        have hnew : BoxAt (W42.alloc (.cells #[.int .i64 (d1.kind : Int), .int .i64 d1.r0, .int .i64 d1.r1, .int .i64 d1.r2, .int .i64 d1.r3, .slice p42 n42 c42, .int .i64 d1.sent, .bool d1.up] 27)) W42.heap.size 27 d1 (.slice p42 n42 c42) := heap_alloc_new W42 _
        have hb : Bel W42 (W42.alloc (.cells #[.int .i64 (d1.kind : Int), .int .i64 d1.r0, .int .i64 d1.r1, .int .i64 d1.r2, .int .i64 d1.r3, .slice p42 n42 c42, .int .i64 d1.sent, .bool d1.up] 27)) := (Bel.refl W42).alloc _ _
        have hge : w.heap.size ≤ W42.heap.size := HBW.out.size
        have HNsu : Hid (gs ≠ W42.heap.size) := Lib.hid (by have := lt_of_heap HXs.out; omega)
        generalize hWW : (W42.alloc (.cells #[.int .i64 (d1.kind : Int), .int .i64 d1.r0, .int .i64 d1.r1, .int .i64 d1.r2, .int .i64 d1.r3, .slice p42 n42 c42, .int .i64 d1.sent, .bool d1.up] 27)) = W43 at hnew hb ⊢
        clear hWW
        have HBW := Lib.hid (HBW.out.trans hb)
        have HXs := Lib.hid (HXs.out.bel hb)
        have HQs := Lib.hid (HQs.out.bel hb)
        have HQu := Lib.hid (HQu.out.bel hb)
        generalize W42.heap.size = gu at hnew hge HNsu ⊢
        have HXu := Lib.hid hnew
        have HGEu := Lib.hid hge
        clear hnew hb hge
        have HQu := HQu
        obtain ⟨ks0, ks1, ks2, ks3, ks4, ks5, ks6, ks7⟩ := HXs.out.cells
        go_wp2_with fail
        refine (read_lit1 HQs.out OD1.out HR1.out).mono ?_
        rintro e W44 ⟨p44, n44, c44, rfl, hb, hq⟩
        clear ks0 ks1 ks2 ks3 ks4 ks5 ks6 ks7
        have HBW := Lib.hid (HBW.out.trans hb)
        have HXs := Lib.hid (HXs.out.bel hb)
        have HXu := Lib.hid (HXu.out.bel hb)
        have HQs := Lib.hid (HQs.out.bel hb)
        have HQu := Lib.hid (HQu.out.bel hb)
        have HQv := Lib.hid hq
        clear hb hq
        obtain ⟨ks0, ks1, ks2, ks3, ks4, ks5, ks6, ks7⟩ := HXs.out.cells
        go_upto_region 14 with (fail)
        clear ks0 ks1 ks2 ks3 ks4 ks5 ks6 ks7
        have hnew : BoxAt (W44.alloc (.cells #[.int .i64 (d1.kind : Int), .int .i64 d1.r0, .int .i64 d1.r1, .int .i64 d1.r2, .int .i64 d1.r3, .slice p44 n44 c44, .int .i64 d1.sent, .bool d1.up] 27)) W44.heap.size 27 d1 (.slice p44 n44 c44) := heap_alloc_new W44 _
        have hb : Bel W44 (W44.alloc (.cells #[.int .i64 (d1.kind : Int), .int .i64 d1.r0, .int .i64 d1.r1, .int .i64 d1.r2, .int .i64 d1.r3, .slice p44 n44 c44, .int .i64 d1.sent, .bool d1.up] 27)) := (Bel.refl W44).alloc _ _
        have hge : w.heap.size ≤ W44.heap.size := HBW.out.size
        have HNsv : Hid (gs ≠ W44.heap.size) := Lib.hid (by have := lt_of_heap HXs.out; omega)
        have HNuv : Hid (gu ≠ W44.heap.size) := Lib.hid (by have := lt_of_heap HXu.out; omega)
        generalize hWW : (W44.alloc (.cells #[.int .i64 (d1.kind : Int), .int .i64 d1.r0, .int .i64 d1.r1, .int .i64 d1.r2, .int .i64 d1.r3, .slice p44 n44 c44, .int .i64 d1.sent, .bool d1.up] 27)) = W45 at hnew hb ⊢
        clear hWW
        have HBW := Lib.hid (HBW.out.trans hb)
        have HXs := Lib.hid (HXs.out.bel hb)
        have HXu := Lib.hid (HXu.out.bel hb)
        have HQs := Lib.hid (HQs.out.bel hb)
        have HQu := Lib.hid (HQu.out.bel hb)
        have HQv := Lib.hid (HQv.out.bel hb)
        generalize W44.heap.size = gv at hnew hge HNsv HNuv ⊢
        have HXv := Lib.hid hnew
        have HGEv := Lib.hid hge
        clear hnew hb hge
        have HQv := HQv
        obtain ⟨ks0, ks1, ks2, ks3, ks4, ks5, ks6, ks7⟩ := HXs.out.cells
        cases b
        · go_wp2_with fail
          refine (raises_lit HQs.out HUP.out).mono ?_
          rintro e W61 ⟨rfl, hb⟩
          clear ks0 ks1 ks2 ks3 ks4 ks5 ks6 ks7
          have HBW := Lib.hid (HBW.out.trans hb)
          have HXs := Lib.hid (HXs.out.bel hb)
          have HXu := Lib.hid (HXu.out.bel hb)
          have HXv := Lib.hid (HXv.out.bel hb)
          have HQs := Lib.hid (HQs.out.bel hb)
          have HQu := Lib.hid (HQu.out.bel hb)
          have HQv := Lib.hid (HQv.out.bel hb)
          clear hb
          go_wp2
          exact ⟨⟨k + 1, n1, y3, p4, n4, c4, by omega, by omega, by go_num, rfl, rfl, HN32, HY32, Lib.hid (by rw [HD1.out]; exact HXs.out), Lib.hid (by rw [HD1.out]; exact HQs.out), HBW⟩, by simp [intOf]; omega⟩
        · go_wp2_with fail
          refine (raises_lit HQs.out HUP.out).mono ?_
          rintro e W61 ⟨rfl, hb⟩
          clear ks0 ks1 ks2 ks3 ks4 ks5 ks6 ks7
          have HBW := Lib.hid (HBW.out.trans hb)
          have HXs := Lib.hid (HXs.out.bel hb)
          have HXu := Lib.hid (HXu.out.bel hb)
          have HXv := Lib.hid (HXv.out.bel hb)
          have HQs := Lib.hid (HQs.out.bel hb)
          have HQu := Lib.hid (HQu.out.bel hb)
          have HQv := Lib.hid (HQv.out.bel hb)
          clear hb
          go_wp2
          exact ⟨⟨k + 1, n1, y3, p4, n4, c4, by omega, by omega, by go_num, rfl, rfl, HN32, HY32, Lib.hid (by rw [HD1.out]; exact HXs.out), Lib.hid (by rw [HD1.out]; exact HQs.out), HBW⟩, by simp [intOf]; omega⟩
    · obtain ⟨df, hdf⟩ : ∃ df, gq m a c = df := ⟨_, rfl⟩
      obtain ⟨dt, hdt⟩ : ∃ dt, gq m a 0 = dt := ⟨_, rfl⟩
      have odf : Ok df := by rw [← hdf]; exact ok_gq HM32.out HA.out HC.out
      have odt : Ok dt := by rw [← hdt]; exact ok_gq HM32.out HA.out in0
      have hwr : wrV df 3 c = dt := by rw [← hdf, ← hdt]; exact gq_wr3 HC.out
      have hrr : rdV dt 3 = (0, dt) := by rw [← hdt]; exact gq_rd3 _ _ _
      have hup : dt.up = false := by rw [← hdt]; rfl
      rw [hdf] at HX HQQ
      have HXs := HX
      have HQs := HQQ
      have ODF := Lib.hid odf
      have ODT := Lib.hid odt
      have HWR := Lib.hid hwr
      have HRR := Lib.hid hrr
      have HUP := Lib.hid hup
      clear hdf hdt odf odt hwr hrr hup HX HQQ
      by_cases l3 : k < N
      · have l5 : ¬ (k : Int) < 20 := by omega
        clear hlt hk1 hk2
        obtain ⟨ks0, ks1, ks2, ks3, ks4, ks5, ks6, ks7⟩ := HXs.out.cells
        go_wp2_with fail
        refine (write_lit3 HQs.out ODF.out HWR.out).mono ?_
        rintro e W71 ⟨p71, n71, c71, rfl, hb, hq⟩
        clear ks0 ks1 ks2 ks3 ks4 ks5 ks6 ks7
        have HBW := Lib.hid (HBW.out.trans hb)
        have HXs := Lib.hid (HXs.out.bel hb)
        have HQs := Lib.hid (HQs.out.bel hb)
        have HQt := Lib.hid hq
        clear hb hq
        go_upto_region 17 with (fail)
        have hnew : BoxAt (W71.alloc (.cells #[.int .i64 (dt.kind : Int), .int .i64 dt.r0, .int .i64 dt.r1, .int .i64 dt.r2, .int .i64 dt.r3, .slice p71 n71 c71, .int .i64 dt.sent, .bool dt.up] 27)) W71.heap.size 27 dt (.slice p71 n71 c71) := heap_alloc_new W71 _
        have hb : Bel W71 (W71.alloc (.cells #[.int .i64 (dt.kind : Int), .int .i64 dt.r0, .int .i64 dt.r1, .int .i64 dt.r2, .int .i64 dt.r3, .slice p71 n71 c71, .int .i64 dt.sent, .bool dt.up] 27)) := (Bel.refl W71).alloc _ _
        have hge : w.heap.size ≤ W71.heap.size := HBW.out.size
        have HNst : Hid (gs ≠ W71.heap.size) := Lib.hid (by have := lt_of_heap HXs.out; omega)
        generalize hWW : (W71.alloc (.cells #[.int .i64 (dt.kind : Int), .int .i64 dt.r0, .int .i64 dt.r1, .int .i64 dt.r2, .int .i64 dt.r3, .slice p71 n71 c71, .int .i64 dt.sent, .bool dt.up] 27)) = W72 at hnew hb ⊢
        clear hWW
        have HBW := Lib.hid (HBW.out.trans hb)
        have HXs := Lib.hid (HXs.out.bel hb)
        have HQs := Lib.hid (HQs.out.bel hb)
        have HQt := Lib.hid (HQt.out.bel hb)
        generalize W71.heap.size = gt at hnew hge HNst ⊢
        have HXt := Lib.hid hnew
        have HGEt := Lib.hid hge
        clear hnew hb hge
        have HQt := HQt
        obtain ⟨ks0, ks1, ks2, ks3, ks4, ks5, ks6, ks7⟩ := HXs.out.cells
        obtain ⟨kt0, kt1, kt2, kt3, kt4, kt5, kt6, kt7⟩ := HXt.out.cells
        go_wp2_with fail
        refine (read_lit3 HQt.out ODT.out HRR.out).mono ?_
        rintro e W73 ⟨p73, n73, c73, rfl, hb, hq⟩
        clear ks0 ks1 ks2 ks3 ks4 ks5 ks6 ks7 kt0 kt1 kt2 kt3 kt4 kt5 kt6 kt7
        have HBW := Lib.hid (HBW.out.trans hb)
        have HXs := Lib.hid (HXs.out.bel hb)
        have HXt := Lib.hid (HXt.out.bel hb)
        have HQs := Lib.hid (HQs.out.bel hb)
        have HQt := Lib.hid (HQt.out.bel hb)
        have HQr := Lib.hid hq
        clear hb hq
        obtain ⟨ks0, ks1, ks2, ks3, ks4, ks5, ks6, ks7⟩ := HXs.out.cells
        obtain ⟨kt0, kt1, kt2, kt3, kt4, kt5, kt6, kt7⟩ := HXt.out.cells
        go_upto_region 18 with (fail)
        clear ks0 ks1 ks2 ks3 ks4 ks5 ks6 ks7 kt0 kt1 kt2 kt3 kt4 kt5 kt6 kt7
        have hnew : BoxAt (W73.alloc (.cells #[.int .i64 (dt.kind : Int), .int .i64 dt.r0, .int .i64 dt.r1, .int .i64 dt.r2, .int .i64 dt.r3, .slice p73 n73 c73, .int .i64 dt.sent, .bool dt.up] 27)) W73.heap.size 27 dt (.slice p73 n73 c73) := heap_alloc_new W73 _
        have hb : Bel W73 (W73.alloc (.cells #[.int .i64 (dt.kind : Int), .int .i64 dt.r0, .int .i64 dt.r1, .int .i64 dt.r2, .int .i64 dt.r3, .slice p73 n73 c73, .int .i64 dt.sent, .bool dt.up] 27)) := (Bel.refl W73).alloc _ _
        have hge : w.heap.size ≤ W73.heap.size := HBW.out.size
        have HNsr : Hid (gs ≠ W73.heap.size) := Lib.hid (by have := lt_of_heap HXs.out; omega)
        have HNtr : Hid (gt ≠ W73.heap.size) := Lib.hid (by have := lt_of_heap HXt.out; omega)
        generalize hWW : (W73.alloc (.cells #[.int .i64 (dt.kind : Int), .int .i64 dt.r0, .int .i64 dt.r1, .int .i64 dt.r2, .int .i64 dt.r3, .slice p73 n73 c73, .int .i64 dt.sent, .bool dt.up] 27)) = W74 at hnew hb ⊢
        clear hWW
        have HBW := Lib.hid (HBW.out.trans hb)
        have HXs := Lib.hid (HXs.out.bel hb)
        have HXt := Lib.hid (HXt.out.bel hb)
        have HQs := Lib.hid (HQs.out.bel hb)
        have HQt := Lib.hid (HQt.out.bel hb)
        have HQr := Lib.hid (HQr.out.bel hb)
        generalize W73.heap.size = gr at hnew hge HNsr HNtr ⊢
        have HXr := Lib.hid hnew
        have HGEr := Lib.hid hge
        clear hnew hb hge
        have HQr := HQr
        obtain ⟨kt0, kt1, kt2, kt3, kt4, kt5, kt6, kt7⟩ := HXt.out.cells
        go_wp2_with fail
        refine (raises_lit HQt.out HUP.out).mono ?_
        rintro e W75 ⟨rfl, hb⟩
        clear kt0 kt1 kt2 kt3 kt4 kt5 kt6 kt7
        have HBW := Lib.hid (HBW.out.trans hb)
        have HXs := Lib.hid (HXs.out.bel hb)
        have HXt := Lib.hid (HXt.out.bel hb)
        have HXr := Lib.hid (HXr.out.bel hb)
        have HQs := Lib.hid (HQs.out.bel hb)
        have HQt := Lib.hid (HQt.out.bel hb)
        have HQr := Lib.hid (HQr.out.bel hb)
        clear hb
        go_wp2
        go_ret
        exact ⟨rfl, HBW.out⟩
      · clear hlt hk1 hk2
        obtain ⟨ks0, ks1, ks2, ks3, ks4, ks5, ks6, ks7⟩ := HXs.out.cells
        go_wp2_with fail
        refine (write_lit3 HQs.out ODF.out HWR.out).mono ?_
        rintro e W71 ⟨p71, n71, c71, rfl, hb, hq⟩
        clear ks0 ks1 ks2 ks3 ks4 ks5 ks6 ks7
        have HBW := Lib.hid (HBW.out.trans hb)
        have HXs := Lib.hid (HXs.out.bel hb)
        have HQs := Lib.hid (HQs.out.bel hb)
        have HQt := Lib.hid hq
        clear hb hq
        go_upto_region 17 with (fail)
        have hnew : BoxAt (W71.alloc (.cells #[.int .i64 (dt.kind : Int), .int .i64 dt.r0, .int .i64 dt.r1, .int .i64 dt.r2, .int .i64 dt.r3, .slice p71 n71 c71, .int .i64 dt.sent, .bool dt.up] 27)) W71.heap.size 27 dt (.slice p71 n71 c71) := heap_alloc_new W71 _
        have hb : Bel W71 (W71.alloc (.cells #[.int .i64 (dt.kind : Int), .int .i64 dt.r0, .int .i64 dt.r1, .int .i64 dt.r2, .int .i64 dt.r3, .slice p71 n71 c71, .int .i64 dt.sent, .bool dt.up] 27)) := (Bel.refl W71).alloc _ _
        have hge : w.heap.size ≤ W71.heap.size := HBW.out.size
        have HNst : Hid (gs ≠ W71.heap.size) := Lib.hid (by have := lt_of_heap HXs.out; omega)
        generalize hWW : (W71.alloc (.cells #[.int .i64 (dt.kind : Int), .int .i64 dt.r0, .int .i64 dt.r1, .int .i64 dt.r2, .int .i64 dt.r3, .slice p71 n71 c71, .int .i64 dt.sent, .bool dt.up] 27)) = W72 at hnew hb ⊢
        clear hWW
        have HBW := Lib.hid (HBW.out.trans hb)
        have HXs := Lib.hid (HXs.out.bel hb)
        have HQs := Lib.hid (HQs.out.bel hb)
        have HQt := Lib.hid (HQt.out.bel hb)
        generalize W71.heap.size = gt at hnew hge HNst ⊢
        have HXt := Lib.hid hnew
        have HGEt := Lib.hid hge
        clear hnew hb hge
        have HQt := HQt
        obtain ⟨ks0, ks1, ks2, ks3, ks4, ks5, ks6, ks7⟩ := HXs.out.cells
        obtain ⟨kt0, kt1, kt2, kt3, kt4, kt5, kt6, kt7⟩ := HXt.out.cells
        go_wp2_with fail
        refine (read_lit3 HQt.out ODT.out HRR.out).mono ?_
        rintro e W73 ⟨p73, n73, c73, rfl, hb, hq⟩
        clear ks0 ks1 ks2 ks3 ks4 ks5 ks6 ks7 kt0 kt1 kt2 kt3 kt4 kt5 kt6 kt7
        have HBW := Lib.hid (HBW.out.trans hb)
        have HXs := Lib.hid (HXs.out.bel hb)
        have HXt := Lib.hid (HXt.out.bel hb)
        have HQs := Lib.hid (HQs.out.bel hb)
        have HQt := Lib.hid (HQt.out.bel hb)
        have HQr := Lib.hid hq
        clear hb hq
        obtain ⟨ks0, ks1, ks2, ks3, ks4, ks5, ks6, ks7⟩ := HXs.out.cells
        obtain ⟨kt0, kt1, kt2, kt3, kt4, kt5, kt6, kt7⟩ := HXt.out.cells
        go_upto_region 18 with (fail)
        clear ks0 ks1 ks2 ks3 ks4 ks5 ks6 ks7 kt0 kt1 kt2 kt3 kt4 kt5 kt6 kt7
        have hnew : BoxAt (W73.alloc (.cells #[.int .i64 (dt.kind : Int), .int .i64 dt.r0, .int .i64 dt.r1, .int .i64 dt.r2, .int .i64 dt.r3, .slice p73 n73 c73, .int .i64 dt.sent, .bool dt.up] 27)) W73.heap.size 27 dt (.slice p73 n73 c73) := heap_alloc_new W73 _
        have hb : Bel W73 (W73.alloc (.cells #[.int .i64 (dt.kind : Int), .int .i64 dt.r0, .int .i64 dt.r1, .int .i64 dt.r2, .int .i64 dt.r3, .slice p73 n73 c73, .int .i64 dt.sent, .bool dt.up] 27)) := (Bel.refl W73).alloc _ _
        have hge : w.heap.size ≤ W73.heap.size := HBW.out.size
        have HNsr : Hid (gs ≠ W73.heap.size) := Lib.hid (by have := lt_of_heap HXs.out; omega)
        have HNtr : Hid (gt ≠ W73.heap.size) := Lib.hid (by have := lt_of_heap HXt.out; omega)
        generalize hWW : (W73.alloc (.cells #[.int .i64 (dt.kind : Int), .int .i64 dt.r0, .int .i64 dt.r1, .int .i64 dt.r2, .int .i64 dt.r3, .slice p73 n73 c73, .int .i64 dt.sent, .bool dt.up] 27)) = W74 at hnew hb ⊢
        clear hWW
        have HBW := Lib.hid (HBW.out.trans hb)
        have HXs := Lib.hid (HXs.out.bel hb)
        have HXt := Lib.hid (HXt.out.bel hb)
        have HQs := Lib.hid (HQs.out.bel hb)
        have HQt := Lib.hid (HQt.out.bel hb)
        have HQr := Lib.hid (HQr.out.bel hb)
        generalize W73.heap.size = gr at hnew hge HNsr HNtr ⊢
        have HXr := Lib.hid hnew
        have HGEr := Lib.hid hge
        clear hnew hb hge
        have HQr := HQr
        obtain ⟨kt0, kt1, kt2, kt3, kt4, kt5, kt6, kt7⟩ := HXt.out.cells
        go_wp2_with fail
        refine (raises_lit HQt.out HUP.out).mono ?_
        rintro e W75 ⟨rfl, hb⟩
        clear kt0 kt1 kt2 kt3 kt4 kt5 kt6 kt7
        have HBW := Lib.hid (HBW.out.trans hb)
        have HXs := Lib.hid (HXs.out.bel hb)
        have HXt := Lib.hid (HXt.out.bel hb)
        have HXr := Lib.hid (HXr.out.bel hb)
        have HQs := Lib.hid (HQs.out.bel hb)
        have HQt := Lib.hid (HQt.out.bel hb)
        have HQr := Lib.hid (HQr.out.bel hb)
        clear hb
        go_wp2
        go_ret
        exact ⟨rfl, HBW.out⟩
end Go.Proofs.Ytbhpnoodpicdkaa
