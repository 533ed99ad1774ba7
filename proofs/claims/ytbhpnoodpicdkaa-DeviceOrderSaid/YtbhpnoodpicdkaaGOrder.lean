/- DeviceOrder: a uart tells all that it was handed, in order, up to sixteen at once; what was more is gone. -/
import Derived.Test.YtbhpnoodpicdkaaGOpen
import Derived.Test.YtbhpnoodpicdkaaGPlain2
import Derived.Deep.LoopGhost
namespace Go.Proofs.Ytbhpnoodpicdkaa
open Go.RowKit Dv
set_option linter.unusedVariables false
set_option linter.unusedSimpArgs false
theorem uq_ok {c : Int} {q : List Int} (hc : in32 c) (hl : q.length ≤ 16) (hq : ∀ x ∈ q, 0 ≤ x ∧ x ≤ 255) : Ok (uq c q) :=
  ⟨by show 1 ≤ 1 ∧ 1 ≤ 3; omega, in0, in0, hc, in0, hl, hq, by show (0 : Int) ≤ 0 ∧ (0 : Int) ≤ 2147483647; omega, fun _ => rfl⟩
theorem fq_len (l : List Int) : (fq l).length ≤ 16 := by unfold fq; rw [List.length_map, List.length_take]; omega
theorem fq_mem (l : List Int) : ∀ x ∈ fq l, 0 ≤ x ∧ x ≤ 255 := fun x hx => by
  unfold fq at hx
  obtain ⟨y, _, rfl⟩ := List.mem_map.1 hx
  omega
theorem fq_ok {c : Int} (hc : in32 c) (l : List Int) (k : Nat) : Ok (uq c ((fq l).drop k)) :=
  uq_ok hc (by rw [List.length_drop]; have := fq_len l; omega) (fun x hx => fq_mem l x (List.mem_of_mem_drop hx))
theorem IntsQ.take {w : World} {p : Option Addr} {l : List Int} (h : IntsQ w p l) (n : Nat) : IntsQ w p (l.take n) := fun j x hj => h j x (by
  rw [List.getElem?_take] at hj
  split at hj
  · exact hj
  · cases hj)
set_option maxRecDepth 100000 in
set_option maxHeartbeats 8000000 in
theorem order_any (w : World) {control : Int} {P : Option Addr} {N C : Nat} {l : List Int} (hn : l.length = N) (hL : IntsQ w P l) (hNC : N ≤ C) :
    Calls Try.prog 4 #[.slice P N C, .int .i64 control] w fun e w' => e = .returned (.bool true) ∧ Bel w w' := by
  obtain ⟨m, hm⟩ : ∃ m, wrap32 control = m := ⟨_, rfl⟩
  have hm32 : in32 m := by rw [← hm]; exact in32_wrap _
  obtain ⟨ob, hob⟩ : ∃ ob, decide (control % 2 = 1) = ob := ⟨_, rfl⟩
  have hmo : decide (m % 2 = 1) = ob := by rw [← hob, ← hm, odd_wrap]
  obtain ⟨ce, hce⟩ : ∃ ce, bits .and .i64 control 1 = ce := ⟨_, rfl⟩
  have hob2 : (ce == 1) = ob := by rw [← hob, ← hce, and1]; by_cases h : control % 2 = 1 <;> simp [h]
  obtain ⟨g0, hg0⟩ : ∃ d, newD 1 = d := ⟨_, rfl⟩
  have og0 : Ok g0 := by rw [← hg0]; exact ok_new (by omega)
  obtain ⟨g1, hg1⟩ : ∃ d, wrV g0 2 control = d := ⟨_, rfl⟩
  have eg1 : g1 = uq m [] := by rw [← hg1, ← hg0, uq_new, hm]
  have HG0 := Lib.hid hg0
  have OG0 := Lib.hid og0
  have HG1 := Lib.hid hg1
  have EG1 := Lib.hid eg1
  have HM32 := Lib.hid hm32
  have HMO := Lib.hid hmo
  have HCE := Lib.hid hce
  have HOB := Lib.hid hob2
  have HBW := Lib.hid (Bel.refl w)
  clear hm hm32 hob hmo hce hob2 hg0 og0 hg1 eg1
  by_cases h30 : 30 < N
  · have hl2 : (l.take 30).length = 30 := by rw [List.length_take, hn]; omega
    obtain ⟨x00, hx00⟩ : ∃ x, l[0]? = some x := ⟨_, List.getElem?_eq_getElem (by omega)⟩
    obtain ⟨_, B0, O0, rfl, _, _⟩ := hL 0 x00 hx00
    have hc30 : 30 ≤ C := by omega
    have H30 : Hid (30 ≤ 30) := Lib.hid (Nat.le_refl _)
    have hL3 := hL.take 30
    obtain ⟨L, hLL⟩ : ∃ L, l.take 30 = L := ⟨_, rfl⟩
    rw [hLL] at hl2 hL3
    have HN := Lib.hid hl2
    have HL := Lib.hid hL3
    have h30' : (30 : Int) < N := by omega
    clear hl2 hx00 hn hL hNC hL3 hLL
    go_enter Try.func4, Try.ntmps4
    go_wp2_with fail
    refine (awake_any _).mono ?_
    rintro e W1 ⟨rfl, hb⟩
    have HBW := Lib.hid (HBW.out.trans hb)
    clear hb
    go_wp2_with fail
    refine (new_lit1 _ HG0.out).mono ?_
    rintro e W2 ⟨p2, n2, c2, rfl, hb, hq⟩
    have HBW := Lib.hid (HBW.out.trans hb)
    have HQv := Lib.hid hq
    clear hb hq
    go_wp2_with fail
    refine (write_lit2 HQv.out OG0.out HG1.out).mono ?_
    rintro e W3 ⟨p3, n3, c3, rfl, hb, hq⟩
    have HBW := Lib.hid (HBW.out.trans hb)
    have HQv := Lib.hid (HQv.out.bel hb)
    have HQu := Lib.hid hq
    clear hb hq
    go_upto_region 3 with (fail)
    have hnew : BoxAt (W3.alloc (.cells #[.int .i64 (g1.kind : Int), .int .i64 g1.r0, .int .i64 g1.r1, .int .i64 g1.r2, .int .i64 g1.r3, .slice p3 n3 c3, .int .i64 g1.sent, .bool g1.up] 27)) W3.heap.size 27 g1 (.slice p3 n3 c3) := heap_alloc_new W3 _
    have hb : Bel W3 (W3.alloc (.cells #[.int .i64 (g1.kind : Int), .int .i64 g1.r0, .int .i64 g1.r1, .int .i64 g1.r2, .int .i64 g1.r3, .slice p3 n3 c3, .int .i64 g1.sent, .bool g1.up] 27)) := (Bel.refl W3).alloc _ _
    have hge : w.heap.size ≤ W3.heap.size := HBW.out.size
    generalize hWW : (W3.alloc (.cells #[.int .i64 (g1.kind : Int), .int .i64 g1.r0, .int .i64 g1.r1, .int .i64 g1.r2, .int .i64 g1.r3, .slice p3 n3 c3, .int .i64 g1.sent, .bool g1.up] 27)) = W4 at hnew hb ⊢
    clear hWW
    have HBW := Lib.hid (HBW.out.trans hb)
    have HQu := Lib.hid (HQu.out.bel hb)
    generalize W3.heap.size = gs at hnew hge  ⊢
    have HXs := Lib.hid hnew
    have HGEs := Lib.hid hge
    clear hnew hb hge
    have HQs := HQu
    go_wp2
    go_loopw [7] (fun i wr => ∃ (k : Nat) (p : Option Addr) (n c : Nat), k ≤ 30 ∧ i = .int .i64 k ∧ Hid (BoxAt wr gs 27 (uq m (fq (L.take k))) (.slice p n c)) ∧ Hid (QAt wr (.slice p n c) (uq m (fq (L.take k))).q) ∧ Hid (Bel w wr)) (fun i _ => 30 - (intOf i).toNat)
    case atStart => exact ⟨0, p3, n3, c3, Nat.zero_le _, rfl, Lib.hid (by rw [List.take_zero]; show BoxAt _ _ _ (uq m []) _; rw [← EG1.out]; exact HXs.out), Lib.hid (by rw [List.take_zero]; show QAt _ _ (uq m []).q; rw [← EG1.out]; exact HQs.out), HBW⟩
    case round =>
      obtain ⟨k, p, n, c, hk1, rfl, HX, HQQ, HBW⟩ := hrel
      have hb30 := H30.out
      by_cases hlt : k < 30
      · have hlk : k < (L).length := by have := HN.out; omega
        obtain ⟨x, hx⟩ : ∃ x, (L)[k]? = some x := ⟨_, List.getElem?_eq_getElem hlk⟩
        obtain ⟨ix, B, O, hPP, hB, m0⟩ := (HL.out.bel HBW.out) k _ hx
        injection hPP with hPP
        injection hPP with hB' hO'
        subst hB' hO'
        obtain ⟨d0, hd0⟩ : ∃ d, uq m (fq ((L).take k)) = d := ⟨_, rfl⟩
        obtain ⟨d1, hd1⟩ : ∃ d, uq m (fq ((L).take (k + 1))) = d := ⟨_, rfl⟩
        have hin : inV d0 x = d1 := by rw [← hd0, fq_in m hx, hd1]
        have od0 : Ok d0 := by rw [← hd0]; exact uq_ok HM32.out (fq_len _) (fq_mem _)
        have hup : d1.up = ob := by rw [← hd1, uq_up, fq_pos hlk, HMO.out]; simp
        rw [hd0] at HX HQQ
        have HIN := Lib.hid hin
        have OD0 := Lib.hid od0
        have HUP := Lib.hid hup
        have HD1 := Lib.hid hd1
        clear hx hlk ix hB hd0 hd1 hin od0 hup
        have l3 : (k : Int) < 30 := by omega
        have HXD : Hid (BoxAt wr.drew gs 27 d0 (.slice p n c)) := Lib.hid HX.out
        have HQD : Hid (QAt wr.drew (.slice p n c) d0.q) := Lib.hid (HQQ.out.bel (Bel.refl wr).drew)
        go_upto_region 8 with (fail)
        obtain ⟨k0, k1, k2, k3, k4, k5, k6, k7⟩ := HX.out.cells
        go_region_with ((go_at_call 18; ((refine (input_lit HQD.out OD0.out HIN.out).mono ?_); rintro e W4 ⟨p4, n4, c4, rfl, hb4, hq4⟩; have hx4 := hb4.stays HXD.out; have HX4 := Lib.hid hx4; obtain ⟨z0, z1, z2, z3, z4, z5, z6, z7⟩ := BoxAt.cells hx4; have y0' := BoxAt.frozen hx4 0; have y1' := BoxAt.frozen hx4 1; have y2' := BoxAt.frozen hx4 2; have y3' := BoxAt.frozen hx4 3; have y4' := BoxAt.frozen hx4 4; have y5' := BoxAt.frozen hx4 5; have y6' := BoxAt.frozen hx4 6; have y7' := BoxAt.frozen hx4 7; have HB4 := Lib.hid hb4; have HQ4 := Lib.hid hq4; clear hb4 hq4 hx4 k0 k1 k2 k3 k4 k5 k6 k7 m0)))
        all_goals
          have HBW := Lib.hid (HBW.out.drew.trans HB4.out)
          have HXs := Lib.hid (show BoxAt W4 gs 27 d0 (.slice p n c) from HX4.out)
          have HQz := HQ4
          go_upto_region 9 with (fail)
          clear z0 z1 z2 z3 z4 z5 z6 z7 y0' y1' y2' y3' y4' y5' y6' y7'
          have hs8 : Svg gs W4 ((((((((W4.setCell ⟨gs, 0, none⟩ (.int .i64 (d1.kind : Int))).setCell ⟨gs, 1, none⟩ (.int .i64 d1.r0)).setCell ⟨gs, 2, none⟩ (.int .i64 d1.r1)).setCell ⟨gs, 3, none⟩ (.int .i64 d1.r2)).setCell ⟨gs, 4, none⟩ (.int .i64 d1.r3)).setCell ⟨gs, 5, none⟩ (.slice p4 n4 c4)).setCell ⟨gs, 6, none⟩ (.int .i64 d1.sent)).setCell ⟨gs, 7, none⟩ (.bool d1.up)) := set8_svg W4 gs (.int .i64 (d1.kind : Int)) (.int .i64 d1.r0) (.int .i64 d1.r1) (.int .i64 d1.r2) (.int .i64 d1.r3) (.slice p4 n4 c4) (.int .i64 d1.sent) (.bool d1.up)
          have hh : BoxAt ((((((((W4.setCell ⟨gs, 0, none⟩ (.int .i64 (d1.kind : Int))).setCell ⟨gs, 1, none⟩ (.int .i64 d1.r0)).setCell ⟨gs, 2, none⟩ (.int .i64 d1.r1)).setCell ⟨gs, 3, none⟩ (.int .i64 d1.r2)).setCell ⟨gs, 4, none⟩ (.int .i64 d1.r3)).setCell ⟨gs, 5, none⟩ (.slice p4 n4 c4)).setCell ⟨gs, 6, none⟩ (.int .i64 d1.sent)).setCell ⟨gs, 7, none⟩ (.bool d1.up)) gs 27 d1 (.slice p4 n4 c4) := set8_heap (show W4.heap[gs]? = some (.cells #[.int .i64 (d0.kind : Int), .int .i64 d0.r0, .int .i64 d0.r1, .int .i64 d0.r2, .int .i64 d0.r3, .slice p n c, .int .i64 d0.sent, .bool d0.up] 27 (0, 0)) from HXs.out) (.int .i64 (d1.kind : Int)) (.int .i64 d1.r0) (.int .i64 d1.r1) (.int .i64 d1.r2) (.int .i64 d1.r3) (.slice p4 n4 c4) (.int .i64 d1.sent) (.bool d1.up)
          generalize hWW : ((((((((W4.setCell ⟨gs, 0, none⟩ (.int .i64 (d1.kind : Int))).setCell ⟨gs, 1, none⟩ (.int .i64 d1.r0)).setCell ⟨gs, 2, none⟩ (.int .i64 d1.r1)).setCell ⟨gs, 3, none⟩ (.int .i64 d1.r2)).setCell ⟨gs, 4, none⟩ (.int .i64 d1.r3)).setCell ⟨gs, 5, none⟩ (.slice p4 n4 c4)).setCell ⟨gs, 6, none⟩ (.int .i64 d1.sent)).setCell ⟨gs, 7, none⟩ (.bool d1.up)) = W41 at hs8 hh ⊢
          clear hWW
          have HBW := Lib.hid (hs8.bel HBW.out HGEs.out)
          have HQz := Lib.hid (HQz.out.keep hs8 HXs.out (by decide))
          have HXs := Lib.hid hh
          clear hs8 hh
          have HQs := HQz
          obtain ⟨ks0, ks1, ks2, ks3, ks4, ks5, ks6, ks7⟩ := HXs.out.cells
          go_wp2_with fail
          refine (raises_lit HQs.out HUP.out).mono ?_
          rintro e W42 ⟨rfl, hb⟩
          clear ks0 ks1 ks2 ks3 ks4 ks5 ks6 ks7
          have HBW := Lib.hid (HBW.out.trans hb)
          have HXs := Lib.hid (HXs.out.bel hb)
          have HQs := Lib.hid (HQs.out.bel hb)
          clear hb
          have hce := HCE.out
          have hob := HOB.out
          cases ob
          · go_wp2
            exact ⟨⟨k + 1, p4, n4, c4, by omega, by go_num, Lib.hid (by rw [HD1.out]; exact HXs.out), Lib.hid (by rw [HD1.out]; exact HQs.out), HBW⟩, by simp [intOf]; omega⟩
          · go_wp2
            exact ⟨⟨k + 1, p4, n4, c4, by omega, by go_num, Lib.hid (by rw [HD1.out]; exact HXs.out), Lib.hid (by rw [HD1.out]; exact HQs.out), HBW⟩, by simp [intOf]; omega⟩
      · have hkk : k = 30 := by omega
        have hfd : uq m (fq ((L).take k)) = uq m ((fq (L)).drop 0) := by rw [List.take_of_length_le (by have := HN.out; omega), List.drop_zero]
        rw [hfd] at HX HQQ
        have HX0 := HX
        have HQ0 := HQQ
        have HBW0 := HBW
        have hlt' : ¬ k < 30 := hlt
        clear hkk hfd HX HQQ HBW hk1 hlt
        go_wp2
        go_loopw [8] (fun i wr2 => ∃ (k : Nat) (p : Option Addr) (n c : Nat), k ≤ 30 ∧ k ≤ 16 ∧ i = .int .i64 k ∧ Hid (BoxAt wr2 gs 27 (uq m ((fq (L)).drop k)) (.slice p n c)) ∧ Hid (QAt wr2 (.slice p n c) (uq m ((fq (L)).drop k)).q) ∧ Hid (Bel w wr2)) (fun i _ => 16 - (intOf i).toNat)
        case atStart => exact ⟨0, p, n, c, Nat.zero_le _, by omega, rfl, HX0, HQ0, HBW0⟩
        case round =>
          obtain ⟨k, p, n, c, hk1, hk2, rfl, HX, HQQ, HBW⟩ := hrel
          clear HX0 HQ0 HBW0
          by_cases hlt : k < 30 ∧ k < 16
          · obtain ⟨l1, l2⟩ := hlt
            have hlk : k < (L).length := by have := HN.out; omega
            obtain ⟨x, hx⟩ : ∃ x, (L)[k]? = some x := ⟨_, List.getElem?_eq_getElem hlk⟩
            have HQX := HL.out.bel HBW.out
            obtain ⟨ix, B, O, hPP, hB, m0⟩ := HQX k _ hx
            injection hPP with hPP
            injection hPP with hB' hO'
            subst hB' hO'
            obtain ⟨xb, hxb⟩ : ∃ y, x % 256 = y := ⟨_, rfl⟩
            obtain ⟨d0, hd0⟩ : ∃ d, uq m ((fq (L)).drop k) = d := ⟨_, rfl⟩
            obtain ⟨d1, hd1⟩ : ∃ d, uq m ((fq (L)).drop (k + 1)) = d := ⟨_, rfl⟩
            have hrd : rdV d0 0 = (xb, d1) := by rw [← hd0, fq_drop hx l2, uq_rd, hxb, hd1]
            have od0 : Ok d0 := by rw [← hd0]; exact fq_ok HM32.out _ _
            have hand : bits .and .i64 x 255 = xb := (and255 x).trans hxb
            have exb : (xb != xb) = false := by simp
            rw [hd0] at HX HQQ
            have HXs := HX
            have HQs := HQQ
            have HRD := Lib.hid hrd
            have OD0 := Lib.hid od0
            have HD1 := Lib.hid hd1
            have HAN := Lib.hid hand
            have HM0 := Lib.hid m0
            have HBB := Lib.hid hB
            have HXK := Lib.hid hx
            clear hx hlk ix hB HQX m0 hxb hd0 hd1 hrd od0 hand HX HQQ
            have l3 : (k : Int) < 30 := by omega
            have l4 : (k : Int) < 16 := by omega
            obtain ⟨ks0, ks1, ks2, ks3, ks4, ks5, ks6, ks7⟩ := HXs.out.cells
            go_wp2_with fail
            refine (read_lit0 HQs.out OD0.out HRD.out).mono ?_
            rintro e W61 ⟨p61, n61, c61, rfl, hb, hq⟩
            clear ks0 ks1 ks2 ks3 ks4 ks5 ks6 ks7
            have HBW := Lib.hid (HBW.out.trans hb)
            have HXs := Lib.hid (HXs.out.bel hb)
            have HQs := Lib.hid (HQs.out.bel hb)
            have HQz := Lib.hid hq
            clear hb hq
            obtain ⟨ks0, ks1, ks2, ks3, ks4, ks5, ks6, ks7⟩ := HXs.out.cells
            have ys0 := HXs.out.frozen 0
            have ys1 := HXs.out.frozen 1
            have ys2 := HXs.out.frozen 2
            have ys3 := HXs.out.frozen 3
            have ys4 := HXs.out.frozen 4
            have ys5 := HXs.out.frozen 5
            have ys6 := HXs.out.frozen 6
            have ys7 := HXs.out.frozen 7
            go_upto_region 16 with (fail)
            clear ks0 ks1 ks2 ks3 ks4 ks5 ks6 ks7 ys0 ys1 ys2 ys3 ys4 ys5 ys6 ys7
            have hs8 : Svg gs W61 ((((((((W61.setCell ⟨gs, 0, none⟩ (.int .i64 (d1.kind : Int))).setCell ⟨gs, 1, none⟩ (.int .i64 d1.r0)).setCell ⟨gs, 2, none⟩ (.int .i64 d1.r1)).setCell ⟨gs, 3, none⟩ (.int .i64 d1.r2)).setCell ⟨gs, 4, none⟩ (.int .i64 d1.r3)).setCell ⟨gs, 5, none⟩ (.slice p61 n61 c61)).setCell ⟨gs, 6, none⟩ (.int .i64 d1.sent)).setCell ⟨gs, 7, none⟩ (.bool d1.up)) := set8_svg W61 gs (.int .i64 (d1.kind : Int)) (.int .i64 d1.r0) (.int .i64 d1.r1) (.int .i64 d1.r2) (.int .i64 d1.r3) (.slice p61 n61 c61) (.int .i64 d1.sent) (.bool d1.up)
            have hh : BoxAt ((((((((W61.setCell ⟨gs, 0, none⟩ (.int .i64 (d1.kind : Int))).setCell ⟨gs, 1, none⟩ (.int .i64 d1.r0)).setCell ⟨gs, 2, none⟩ (.int .i64 d1.r1)).setCell ⟨gs, 3, none⟩ (.int .i64 d1.r2)).setCell ⟨gs, 4, none⟩ (.int .i64 d1.r3)).setCell ⟨gs, 5, none⟩ (.slice p61 n61 c61)).setCell ⟨gs, 6, none⟩ (.int .i64 d1.sent)).setCell ⟨gs, 7, none⟩ (.bool d1.up)) gs 27 d1 (.slice p61 n61 c61) := set8_heap (show W61.heap[gs]? = some (.cells #[.int .i64 (d0.kind : Int), .int .i64 d0.r0, .int .i64 d0.r1, .int .i64 d0.r2, .int .i64 d0.r3, .slice p n c, .int .i64 d0.sent, .bool d0.up] 27 (0, 0)) from HXs.out) (.int .i64 (d1.kind : Int)) (.int .i64 d1.r0) (.int .i64 d1.r1) (.int .i64 d1.r2) (.int .i64 d1.r3) (.slice p61 n61 c61) (.int .i64 d1.sent) (.bool d1.up)
            generalize hWW : ((((((((W61.setCell ⟨gs, 0, none⟩ (.int .i64 (d1.kind : Int))).setCell ⟨gs, 1, none⟩ (.int .i64 d1.r0)).setCell ⟨gs, 2, none⟩ (.int .i64 d1.r1)).setCell ⟨gs, 3, none⟩ (.int .i64 d1.r2)).setCell ⟨gs, 4, none⟩ (.int .i64 d1.r3)).setCell ⟨gs, 5, none⟩ (.slice p61 n61 c61)).setCell ⟨gs, 6, none⟩ (.int .i64 d1.sent)).setCell ⟨gs, 7, none⟩ (.bool d1.up)) = W62 at hs8 hh ⊢
            clear hWW
            have HBW := Lib.hid (hs8.bel HBW.out HGEs.out)
            have HQs := Lib.hid (HQs.out.keep hs8 HXs.out (by decide))
            have HQz := Lib.hid (HQz.out.keep hs8 HXs.out (by decide))
            have HXs := Lib.hid hh
            clear hs8 hh
            have HQs := HQz
            have hand := HAN.out
            obtain ⟨_, B9, O9, hP9, _, m0⟩ := (HL.out.bel HBW.out) k x HXK.out
            injection hP9 with hP9
            injection hP9 with hB9 hO9
            subst hB9 hO9
            go_wp2
            exact ⟨⟨k + 1, p61, n61, c61, by omega, by omega, by go_num, Lib.hid (by rw [HD1.out]; exact HXs.out), Lib.hid (by rw [HD1.out]; exact HQs.out), HBW⟩, by simp [intOf]; omega⟩
          · obtain ⟨df, hdf⟩ : ∃ df, uq m [] = df := ⟨_, rfl⟩
            have hfe : uq m ((fq (L)).drop k) = df := by rw [fq_end (by have := HN.out; omega), hdf]
            have odf : Ok df := by rw [← hdf]; exact uq_ok HM32.out (by show 0 ≤ 16; omega) (fun x hx => by cases hx)
            have hr0 : rdV df 0 = (-1, df) := by rw [← hdf]; exact uq_nil0 _
            have hr1 : rdV df 1 = (2, df) := by rw [← hdf]; exact uq_nil1 _
            have hup : df.up = false := by rw [← hdf, uq_up]; simp
            rw [hfe] at HX HQQ
            have HXs := HX
            have HQs := HQQ
            have ODF := Lib.hid odf
            have R0 := Lib.hid hr0
            have R1 := Lib.hid hr1
            have HUP := Lib.hid hup
            clear hdf hfe odf hr0 hr1 hup HX HQQ
            by_cases l3 : k < 30
            · have l5 : ¬ (k : Int) < 16 := by omega
              clear hlt hk1 hk2 hlt'
              obtain ⟨ks0, ks1, ks2, ks3, ks4, ks5, ks6, ks7⟩ := HXs.out.cells
              go_wp2_with fail
              refine (read_lit0 HQs.out ODF.out R0.out).mono ?_
              rintro e W81 ⟨p81, n81, c81, rfl, hb, hq⟩
              clear ks0 ks1 ks2 ks3 ks4 ks5 ks6 ks7
              have HBW := Lib.hid (HBW.out.trans hb)
              have HXs := Lib.hid (HXs.out.bel hb)
              have HQs := Lib.hid (HQs.out.bel hb)
              have HQz := Lib.hid hq
              clear hb hq
              obtain ⟨ks0, ks1, ks2, ks3, ks4, ks5, ks6, ks7⟩ := HXs.out.cells
              have ys0 := HXs.out.frozen 0
              have ys1 := HXs.out.frozen 1
              have ys2 := HXs.out.frozen 2
              have ys3 := HXs.out.frozen 3
              have ys4 := HXs.out.frozen 4
              have ys5 := HXs.out.frozen 5
              have ys6 := HXs.out.frozen 6
              have ys7 := HXs.out.frozen 7
              go_upto_region 19 with (fail)
              clear ks0 ks1 ks2 ks3 ks4 ks5 ks6 ks7 ys0 ys1 ys2 ys3 ys4 ys5 ys6 ys7
              have hs8 : Svg gs W81 ((((((((W81.setCell ⟨gs, 0, none⟩ (.int .i64 (df.kind : Int))).setCell ⟨gs, 1, none⟩ (.int .i64 df.r0)).setCell ⟨gs, 2, none⟩ (.int .i64 df.r1)).setCell ⟨gs, 3, none⟩ (.int .i64 df.r2)).setCell ⟨gs, 4, none⟩ (.int .i64 df.r3)).setCell ⟨gs, 5, none⟩ (.slice p81 n81 c81)).setCell ⟨gs, 6, none⟩ (.int .i64 df.sent)).setCell ⟨gs, 7, none⟩ (.bool df.up)) := set8_svg W81 gs (.int .i64 (df.kind : Int)) (.int .i64 df.r0) (.int .i64 df.r1) (.int .i64 df.r2) (.int .i64 df.r3) (.slice p81 n81 c81) (.int .i64 df.sent) (.bool df.up)
              have hh : BoxAt ((((((((W81.setCell ⟨gs, 0, none⟩ (.int .i64 (df.kind : Int))).setCell ⟨gs, 1, none⟩ (.int .i64 df.r0)).setCell ⟨gs, 2, none⟩ (.int .i64 df.r1)).setCell ⟨gs, 3, none⟩ (.int .i64 df.r2)).setCell ⟨gs, 4, none⟩ (.int .i64 df.r3)).setCell ⟨gs, 5, none⟩ (.slice p81 n81 c81)).setCell ⟨gs, 6, none⟩ (.int .i64 df.sent)).setCell ⟨gs, 7, none⟩ (.bool df.up)) gs 27 df (.slice p81 n81 c81) := set8_heap (show W81.heap[gs]? = some (.cells #[.int .i64 (df.kind : Int), .int .i64 df.r0, .int .i64 df.r1, .int .i64 df.r2, .int .i64 df.r3, .slice p n c, .int .i64 df.sent, .bool df.up] 27 (0, 0)) from HXs.out) (.int .i64 (df.kind : Int)) (.int .i64 df.r0) (.int .i64 df.r1) (.int .i64 df.r2) (.int .i64 df.r3) (.slice p81 n81 c81) (.int .i64 df.sent) (.bool df.up)
              generalize hWW : ((((((((W81.setCell ⟨gs, 0, none⟩ (.int .i64 (df.kind : Int))).setCell ⟨gs, 1, none⟩ (.int .i64 df.r0)).setCell ⟨gs, 2, none⟩ (.int .i64 df.r1)).setCell ⟨gs, 3, none⟩ (.int .i64 df.r2)).setCell ⟨gs, 4, none⟩ (.int .i64 df.r3)).setCell ⟨gs, 5, none⟩ (.slice p81 n81 c81)).setCell ⟨gs, 6, none⟩ (.int .i64 df.sent)).setCell ⟨gs, 7, none⟩ (.bool df.up)) = W82 at hs8 hh ⊢
              clear hWW
              have HBW := Lib.hid (hs8.bel HBW.out HGEs.out)
              have HQs := Lib.hid (HQs.out.keep hs8 HXs.out (by decide))
              have HQz := Lib.hid (HQz.out.keep hs8 HXs.out (by decide))
              have HXs := Lib.hid hh
              clear hs8 hh
              have HQs := HQz
              obtain ⟨ks0, ks1, ks2, ks3, ks4, ks5, ks6, ks7⟩ := HXs.out.cells
              go_wp2_with fail
              refine (read_lit1 HQs.out ODF.out R1.out).mono ?_
              rintro e W83 ⟨p83, n83, c83, rfl, hb, hq⟩
              clear ks0 ks1 ks2 ks3 ks4 ks5 ks6 ks7
              have HBW := Lib.hid (HBW.out.trans hb)
              have HXs := Lib.hid (HXs.out.bel hb)
              have HQs := Lib.hid (HQs.out.bel hb)
              have HQz := Lib.hid hq
              clear hb hq
              obtain ⟨ks0, ks1, ks2, ks3, ks4, ks5, ks6, ks7⟩ := HXs.out.cells
              have ys0 := HXs.out.frozen 0
              have ys1 := HXs.out.frozen 1
              have ys2 := HXs.out.frozen 2
              have ys3 := HXs.out.frozen 3
              have ys4 := HXs.out.frozen 4
              have ys5 := HXs.out.frozen 5
              have ys6 := HXs.out.frozen 6
              have ys7 := HXs.out.frozen 7
              go_upto_region 20 with (fail)
              clear ks0 ks1 ks2 ks3 ks4 ks5 ks6 ks7 ys0 ys1 ys2 ys3 ys4 ys5 ys6 ys7
              have hs8 : Svg gs W83 ((((((((W83.setCell ⟨gs, 0, none⟩ (.int .i64 (df.kind : Int))).setCell ⟨gs, 1, none⟩ (.int .i64 df.r0)).setCell ⟨gs, 2, none⟩ (.int .i64 df.r1)).setCell ⟨gs, 3, none⟩ (.int .i64 df.r2)).setCell ⟨gs, 4, none⟩ (.int .i64 df.r3)).setCell ⟨gs, 5, none⟩ (.slice p83 n83 c83)).setCell ⟨gs, 6, none⟩ (.int .i64 df.sent)).setCell ⟨gs, 7, none⟩ (.bool df.up)) := set8_svg W83 gs (.int .i64 (df.kind : Int)) (.int .i64 df.r0) (.int .i64 df.r1) (.int .i64 df.r2) (.int .i64 df.r3) (.slice p83 n83 c83) (.int .i64 df.sent) (.bool df.up)
              have hh : BoxAt ((((((((W83.setCell ⟨gs, 0, none⟩ (.int .i64 (df.kind : Int))).setCell ⟨gs, 1, none⟩ (.int .i64 df.r0)).setCell ⟨gs, 2, none⟩ (.int .i64 df.r1)).setCell ⟨gs, 3, none⟩ (.int .i64 df.r2)).setCell ⟨gs, 4, none⟩ (.int .i64 df.r3)).setCell ⟨gs, 5, none⟩ (.slice p83 n83 c83)).setCell ⟨gs, 6, none⟩ (.int .i64 df.sent)).setCell ⟨gs, 7, none⟩ (.bool df.up)) gs 27 df (.slice p83 n83 c83) := set8_heap (show W83.heap[gs]? = some (.cells #[.int .i64 (df.kind : Int), .int .i64 df.r0, .int .i64 df.r1, .int .i64 df.r2, .int .i64 df.r3, .slice p81 n81 c81, .int .i64 df.sent, .bool df.up] 27 (0, 0)) from HXs.out) (.int .i64 (df.kind : Int)) (.int .i64 df.r0) (.int .i64 df.r1) (.int .i64 df.r2) (.int .i64 df.r3) (.slice p83 n83 c83) (.int .i64 df.sent) (.bool df.up)
              generalize hWW : ((((((((W83.setCell ⟨gs, 0, none⟩ (.int .i64 (df.kind : Int))).setCell ⟨gs, 1, none⟩ (.int .i64 df.r0)).setCell ⟨gs, 2, none⟩ (.int .i64 df.r1)).setCell ⟨gs, 3, none⟩ (.int .i64 df.r2)).setCell ⟨gs, 4, none⟩ (.int .i64 df.r3)).setCell ⟨gs, 5, none⟩ (.slice p83 n83 c83)).setCell ⟨gs, 6, none⟩ (.int .i64 df.sent)).setCell ⟨gs, 7, none⟩ (.bool df.up)) = W84 at hs8 hh ⊢
              clear hWW
              have HBW := Lib.hid (hs8.bel HBW.out HGEs.out)
              have HQs := Lib.hid (HQs.out.keep hs8 HXs.out (by decide))
              have HQz := Lib.hid (HQz.out.keep hs8 HXs.out (by decide))
              have HXs := Lib.hid hh
              clear hs8 hh
              have HQs := HQz
              obtain ⟨ks0, ks1, ks2, ks3, ks4, ks5, ks6, ks7⟩ := HXs.out.cells
              go_wp2_with fail
              refine (raises_lit HQs.out HUP.out).mono ?_
              rintro e W85 ⟨rfl, hb⟩
              clear ks0 ks1 ks2 ks3 ks4 ks5 ks6 ks7
              have HBW := Lib.hid (HBW.out.trans hb)
              have HXs := Lib.hid (HXs.out.bel hb)
              have HQs := Lib.hid (HQs.out.bel hb)
              clear hb
              go_wp2
              go_ret
              exact ⟨rfl, HBW.out⟩
            · clear hlt hk1 hk2 hlt'
              obtain ⟨ks0, ks1, ks2, ks3, ks4, ks5, ks6, ks7⟩ := HXs.out.cells
              go_wp2_with fail
              refine (read_lit0 HQs.out ODF.out R0.out).mono ?_
              rintro e W81 ⟨p81, n81, c81, rfl, hb, hq⟩
              clear ks0 ks1 ks2 ks3 ks4 ks5 ks6 ks7
              have HBW := Lib.hid (HBW.out.trans hb)
              have HXs := Lib.hid (HXs.out.bel hb)
              have HQs := Lib.hid (HQs.out.bel hb)
              have HQz := Lib.hid hq
              clear hb hq
              obtain ⟨ks0, ks1, ks2, ks3, ks4, ks5, ks6, ks7⟩ := HXs.out.cells
              have ys0 := HXs.out.frozen 0
              have ys1 := HXs.out.frozen 1
              have ys2 := HXs.out.frozen 2
              have ys3 := HXs.out.frozen 3
              have ys4 := HXs.out.frozen 4
              have ys5 := HXs.out.frozen 5
              have ys6 := HXs.out.frozen 6
              have ys7 := HXs.out.frozen 7
              go_upto_region 19 with (fail)
              clear ks0 ks1 ks2 ks3 ks4 ks5 ks6 ks7 ys0 ys1 ys2 ys3 ys4 ys5 ys6 ys7
              have hs8 : Svg gs W81 ((((((((W81.setCell ⟨gs, 0, none⟩ (.int .i64 (df.kind : Int))).setCell ⟨gs, 1, none⟩ (.int .i64 df.r0)).setCell ⟨gs, 2, none⟩ (.int .i64 df.r1)).setCell ⟨gs, 3, none⟩ (.int .i64 df.r2)).setCell ⟨gs, 4, none⟩ (.int .i64 df.r3)).setCell ⟨gs, 5, none⟩ (.slice p81 n81 c81)).setCell ⟨gs, 6, none⟩ (.int .i64 df.sent)).setCell ⟨gs, 7, none⟩ (.bool df.up)) := set8_svg W81 gs (.int .i64 (df.kind : Int)) (.int .i64 df.r0) (.int .i64 df.r1) (.int .i64 df.r2) (.int .i64 df.r3) (.slice p81 n81 c81) (.int .i64 df.sent) (.bool df.up)
              have hh : BoxAt ((((((((W81.setCell ⟨gs, 0, none⟩ (.int .i64 (df.kind : Int))).setCell ⟨gs, 1, none⟩ (.int .i64 df.r0)).setCell ⟨gs, 2, none⟩ (.int .i64 df.r1)).setCell ⟨gs, 3, none⟩ (.int .i64 df.r2)).setCell ⟨gs, 4, none⟩ (.int .i64 df.r3)).setCell ⟨gs, 5, none⟩ (.slice p81 n81 c81)).setCell ⟨gs, 6, none⟩ (.int .i64 df.sent)).setCell ⟨gs, 7, none⟩ (.bool df.up)) gs 27 df (.slice p81 n81 c81) := set8_heap (show W81.heap[gs]? = some (.cells #[.int .i64 (df.kind : Int), .int .i64 df.r0, .int .i64 df.r1, .int .i64 df.r2, .int .i64 df.r3, .slice p n c, .int .i64 df.sent, .bool df.up] 27 (0, 0)) from HXs.out) (.int .i64 (df.kind : Int)) (.int .i64 df.r0) (.int .i64 df.r1) (.int .i64 df.r2) (.int .i64 df.r3) (.slice p81 n81 c81) (.int .i64 df.sent) (.bool df.up)
              generalize hWW : ((((((((W81.setCell ⟨gs, 0, none⟩ (.int .i64 (df.kind : Int))).setCell ⟨gs, 1, none⟩ (.int .i64 df.r0)).setCell ⟨gs, 2, none⟩ (.int .i64 df.r1)).setCell ⟨gs, 3, none⟩ (.int .i64 df.r2)).setCell ⟨gs, 4, none⟩ (.int .i64 df.r3)).setCell ⟨gs, 5, none⟩ (.slice p81 n81 c81)).setCell ⟨gs, 6, none⟩ (.int .i64 df.sent)).setCell ⟨gs, 7, none⟩ (.bool df.up)) = W82 at hs8 hh ⊢
              clear hWW
              have HBW := Lib.hid (hs8.bel HBW.out HGEs.out)
              have HQs := Lib.hid (HQs.out.keep hs8 HXs.out (by decide))
              have HQz := Lib.hid (HQz.out.keep hs8 HXs.out (by decide))
              have HXs := Lib.hid hh
              clear hs8 hh
              have HQs := HQz
              obtain ⟨ks0, ks1, ks2, ks3, ks4, ks5, ks6, ks7⟩ := HXs.out.cells
              go_wp2_with fail
              refine (read_lit1 HQs.out ODF.out R1.out).mono ?_
              rintro e W83 ⟨p83, n83, c83, rfl, hb, hq⟩
              clear ks0 ks1 ks2 ks3 ks4 ks5 ks6 ks7
              have HBW := Lib.hid (HBW.out.trans hb)
              have HXs := Lib.hid (HXs.out.bel hb)
              have HQs := Lib.hid (HQs.out.bel hb)
              have HQz := Lib.hid hq
              clear hb hq
              obtain ⟨ks0, ks1, ks2, ks3, ks4, ks5, ks6, ks7⟩ := HXs.out.cells
              have ys0 := HXs.out.frozen 0
              have ys1 := HXs.out.frozen 1
              have ys2 := HXs.out.frozen 2
              have ys3 := HXs.out.frozen 3
              have ys4 := HXs.out.frozen 4
              have ys5 := HXs.out.frozen 5
              have ys6 := HXs.out.frozen 6
              have ys7 := HXs.out.frozen 7
              go_upto_region 20 with (fail)
              clear ks0 ks1 ks2 ks3 ks4 ks5 ks6 ks7 ys0 ys1 ys2 ys3 ys4 ys5 ys6 ys7
              have hs8 : Svg gs W83 ((((((((W83.setCell ⟨gs, 0, none⟩ (.int .i64 (df.kind : Int))).setCell ⟨gs, 1, none⟩ (.int .i64 df.r0)).setCell ⟨gs, 2, none⟩ (.int .i64 df.r1)).setCell ⟨gs, 3, none⟩ (.int .i64 df.r2)).setCell ⟨gs, 4, none⟩ (.int .i64 df.r3)).setCell ⟨gs, 5, none⟩ (.slice p83 n83 c83)).setCell ⟨gs, 6, none⟩ (.int .i64 df.sent)).setCell ⟨gs, 7, none⟩ (.bool df.up)) := set8_svg W83 gs (.int .i64 (df.kind : Int)) (.int .i64 df.r0) (.int .i64 df.r1) (.int .i64 df.r2) (.int .i64 df.r3) (.slice p83 n83 c83) (.int .i64 df.sent) (.bool df.up)
              have hh : BoxAt ((((((((W83.setCell ⟨gs, 0, none⟩ (.int .i64 (df.kind : Int))).setCell ⟨gs, 1, none⟩ (.int .i64 df.r0)).setCell ⟨gs, 2, none⟩ (.int .i64 df.r1)).setCell ⟨gs, 3, none⟩ (.int .i64 df.r2)).setCell ⟨gs, 4, none⟩ (.int .i64 df.r3)).setCell ⟨gs, 5, none⟩ (.slice p83 n83 c83)).setCell ⟨gs, 6, none⟩ (.int .i64 df.sent)).setCell ⟨gs, 7, none⟩ (.bool df.up)) gs 27 df (.slice p83 n83 c83) := set8_heap (show W83.heap[gs]? = some (.cells #[.int .i64 (df.kind : Int), .int .i64 df.r0, .int .i64 df.r1, .int .i64 df.r2, .int .i64 df.r3, .slice p81 n81 c81, .int .i64 df.sent, .bool df.up] 27 (0, 0)) from HXs.out) (.int .i64 (df.kind : Int)) (.int .i64 df.r0) (.int .i64 df.r1) (.int .i64 df.r2) (.int .i64 df.r3) (.slice p83 n83 c83) (.int .i64 df.sent) (.bool df.up)
              generalize hWW : ((((((((W83.setCell ⟨gs, 0, none⟩ (.int .i64 (df.kind : Int))).setCell ⟨gs, 1, none⟩ (.int .i64 df.r0)).setCell ⟨gs, 2, none⟩ (.int .i64 df.r1)).setCell ⟨gs, 3, none⟩ (.int .i64 df.r2)).setCell ⟨gs, 4, none⟩ (.int .i64 df.r3)).setCell ⟨gs, 5, none⟩ (.slice p83 n83 c83)).setCell ⟨gs, 6, none⟩ (.int .i64 df.sent)).setCell ⟨gs, 7, none⟩ (.bool df.up)) = W84 at hs8 hh ⊢
              clear hWW
              have HBW := Lib.hid (hs8.bel HBW.out HGEs.out)
              have HQs := Lib.hid (HQs.out.keep hs8 HXs.out (by decide))
              have HQz := Lib.hid (HQz.out.keep hs8 HXs.out (by decide))
              have HXs := Lib.hid hh
              clear hs8 hh
              have HQs := HQz
              obtain ⟨ks0, ks1, ks2, ks3, ks4, ks5, ks6, ks7⟩ := HXs.out.cells
              go_wp2_with fail
              refine (raises_lit HQs.out HUP.out).mono ?_
              rintro e W85 ⟨rfl, hb⟩
              clear ks0 ks1 ks2 ks3 ks4 ks5 ks6 ks7
              have HBW := Lib.hid (HBW.out.trans hb)
              have HXs := Lib.hid (HXs.out.bel hb)
              have HQs := Lib.hid (HQs.out.bel hb)
              clear hb
              go_wp2
              go_ret
              exact ⟨rfl, HBW.out⟩
  · have H30 : Hid (N ≤ 30) := Lib.hid (by omega)
    have HN := Lib.hid hn
    have HL := Lib.hid hL
    have h30' : ¬ (30 : Int) < N := by omega
    clear hn hL hNC h30
    go_enter Try.func4, Try.ntmps4
    go_wp2_with fail
    refine (awake_any _).mono ?_
    rintro e W1 ⟨rfl, hb⟩
    have HBW := Lib.hid (HBW.out.trans hb)
    clear hb
    go_wp2_with fail
    refine (new_lit1 _ HG0.out).mono ?_
    rintro e W2 ⟨p2, n2, c2, rfl, hb, hq⟩
    have HBW := Lib.hid (HBW.out.trans hb)
    have HQv := Lib.hid hq
    clear hb hq
    go_wp2_with fail
    refine (write_lit2 HQv.out OG0.out HG1.out).mono ?_
    rintro e W3 ⟨p3, n3, c3, rfl, hb, hq⟩
    have HBW := Lib.hid (HBW.out.trans hb)
    have HQv := Lib.hid (HQv.out.bel hb)
    have HQu := Lib.hid hq
    clear hb hq
    go_upto_region 3 with (fail)
    have hnew : BoxAt (W3.alloc (.cells #[.int .i64 (g1.kind : Int), .int .i64 g1.r0, .int .i64 g1.r1, .int .i64 g1.r2, .int .i64 g1.r3, .slice p3 n3 c3, .int .i64 g1.sent, .bool g1.up] 27)) W3.heap.size 27 g1 (.slice p3 n3 c3) := heap_alloc_new W3 _
    have hb : Bel W3 (W3.alloc (.cells #[.int .i64 (g1.kind : Int), .int .i64 g1.r0, .int .i64 g1.r1, .int .i64 g1.r2, .int .i64 g1.r3, .slice p3 n3 c3, .int .i64 g1.sent, .bool g1.up] 27)) := (Bel.refl W3).alloc _ _
    have hge : w.heap.size ≤ W3.heap.size := HBW.out.size
    generalize hWW : (W3.alloc (.cells #[.int .i64 (g1.kind : Int), .int .i64 g1.r0, .int .i64 g1.r1, .int .i64 g1.r2, .int .i64 g1.r3, .slice p3 n3 c3, .int .i64 g1.sent, .bool g1.up] 27)) = W4 at hnew hb ⊢
    clear hWW
    have HBW := Lib.hid (HBW.out.trans hb)
    have HQu := Lib.hid (HQu.out.bel hb)
    generalize W3.heap.size = gs at hnew hge  ⊢
    have HXs := Lib.hid hnew
    have HGEs := Lib.hid hge
    clear hnew hb hge
    have HQs := HQu
    go_wp2
    go_loopw [7] (fun i wr => ∃ (k : Nat) (p : Option Addr) (n c : Nat), k ≤ N ∧ i = .int .i64 k ∧ Hid (BoxAt wr gs 27 (uq m (fq (l.take k))) (.slice p n c)) ∧ Hid (QAt wr (.slice p n c) (uq m (fq (l.take k))).q) ∧ Hid (Bel w wr)) (fun i _ => N - (intOf i).toNat)
    case atStart => exact ⟨0, p3, n3, c3, Nat.zero_le _, rfl, Lib.hid (by rw [List.take_zero]; show BoxAt _ _ _ (uq m []) _; rw [← EG1.out]; exact HXs.out), Lib.hid (by rw [List.take_zero]; show QAt _ _ (uq m []).q; rw [← EG1.out]; exact HQs.out), HBW⟩
    case round =>
      obtain ⟨k, p, n, c, hk1, rfl, HX, HQQ, HBW⟩ := hrel
      have hb30 := H30.out
      by_cases hlt : k < N
      · have hlk : k < (l).length := by have := HN.out; omega
        obtain ⟨x, hx⟩ : ∃ x, (l)[k]? = some x := ⟨_, List.getElem?_eq_getElem hlk⟩
        obtain ⟨ix, B, O, hPP, hB, m0⟩ := (HL.out.bel HBW.out) k _ hx
        subst hPP
        obtain ⟨d0, hd0⟩ : ∃ d, uq m (fq ((l).take k)) = d := ⟨_, rfl⟩
        obtain ⟨d1, hd1⟩ : ∃ d, uq m (fq ((l).take (k + 1))) = d := ⟨_, rfl⟩
        have hin : inV d0 x = d1 := by rw [← hd0, fq_in m hx, hd1]
        have od0 : Ok d0 := by rw [← hd0]; exact uq_ok HM32.out (fq_len _) (fq_mem _)
        have hup : d1.up = ob := by rw [← hd1, uq_up, fq_pos hlk, HMO.out]; simp
        rw [hd0] at HX HQQ
        have HIN := Lib.hid hin
        have OD0 := Lib.hid od0
        have HUP := Lib.hid hup
        have HD1 := Lib.hid hd1
        clear hx hlk ix hB hd0 hd1 hin od0 hup
        have l3 : (k : Int) < N := by omega
        have HXD : Hid (BoxAt wr.drew gs 27 d0 (.slice p n c)) := Lib.hid HX.out
        have HQD : Hid (QAt wr.drew (.slice p n c) d0.q) := Lib.hid (HQQ.out.bel (Bel.refl wr).drew)
        go_upto_region 8 with (fail)
        obtain ⟨k0, k1, k2, k3, k4, k5, k6, k7⟩ := HX.out.cells
        go_region_with ((go_at_call 18; ((refine (input_lit HQD.out OD0.out HIN.out).mono ?_); rintro e W4 ⟨p4, n4, c4, rfl, hb4, hq4⟩; have hx4 := hb4.stays HXD.out; have HX4 := Lib.hid hx4; obtain ⟨z0, z1, z2, z3, z4, z5, z6, z7⟩ := BoxAt.cells hx4; have y0' := BoxAt.frozen hx4 0; have y1' := BoxAt.frozen hx4 1; have y2' := BoxAt.frozen hx4 2; have y3' := BoxAt.frozen hx4 3; have y4' := BoxAt.frozen hx4 4; have y5' := BoxAt.frozen hx4 5; have y6' := BoxAt.frozen hx4 6; have y7' := BoxAt.frozen hx4 7; have HB4 := Lib.hid hb4; have HQ4 := Lib.hid hq4; clear hb4 hq4 hx4 k0 k1 k2 k3 k4 k5 k6 k7 m0)))
        all_goals
          have HBW := Lib.hid (HBW.out.drew.trans HB4.out)
          have HXs := Lib.hid (show BoxAt W4 gs 27 d0 (.slice p n c) from HX4.out)
          have HQz := HQ4
          go_upto_region 9 with (fail)
          clear z0 z1 z2 z3 z4 z5 z6 z7 y0' y1' y2' y3' y4' y5' y6' y7'
          have hs8 : Svg gs W4 ((((((((W4.setCell ⟨gs, 0, none⟩ (.int .i64 (d1.kind : Int))).setCell ⟨gs, 1, none⟩ (.int .i64 d1.r0)).setCell ⟨gs, 2, none⟩ (.int .i64 d1.r1)).setCell ⟨gs, 3, none⟩ (.int .i64 d1.r2)).setCell ⟨gs, 4, none⟩ (.int .i64 d1.r3)).setCell ⟨gs, 5, none⟩ (.slice p4 n4 c4)).setCell ⟨gs, 6, none⟩ (.int .i64 d1.sent)).setCell ⟨gs, 7, none⟩ (.bool d1.up)) := set8_svg W4 gs (.int .i64 (d1.kind : Int)) (.int .i64 d1.r0) (.int .i64 d1.r1) (.int .i64 d1.r2) (.int .i64 d1.r3) (.slice p4 n4 c4) (.int .i64 d1.sent) (.bool d1.up)
          have hh : BoxAt ((((((((W4.setCell ⟨gs, 0, none⟩ (.int .i64 (d1.kind : Int))).setCell ⟨gs, 1, none⟩ (.int .i64 d1.r0)).setCell ⟨gs, 2, none⟩ (.int .i64 d1.r1)).setCell ⟨gs, 3, none⟩ (.int .i64 d1.r2)).setCell ⟨gs, 4, none⟩ (.int .i64 d1.r3)).setCell ⟨gs, 5, none⟩ (.slice p4 n4 c4)).setCell ⟨gs, 6, none⟩ (.int .i64 d1.sent)).setCell ⟨gs, 7, none⟩ (.bool d1.up)) gs 27 d1 (.slice p4 n4 c4) := set8_heap (show W4.heap[gs]? = some (.cells #[.int .i64 (d0.kind : Int), .int .i64 d0.r0, .int .i64 d0.r1, .int .i64 d0.r2, .int .i64 d0.r3, .slice p n c, .int .i64 d0.sent, .bool d0.up] 27 (0, 0)) from HXs.out) (.int .i64 (d1.kind : Int)) (.int .i64 d1.r0) (.int .i64 d1.r1) (.int .i64 d1.r2) (.int .i64 d1.r3) (.slice p4 n4 c4) (.int .i64 d1.sent) (.bool d1.up)
          generalize hWW : ((((((((W4.setCell ⟨gs, 0, none⟩ (.int .i64 (d1.kind : Int))).setCell ⟨gs, 1, none⟩ (.int .i64 d1.r0)).setCell ⟨gs, 2, none⟩ (.int .i64 d1.r1)).setCell ⟨gs, 3, none⟩ (.int .i64 d1.r2)).setCell ⟨gs, 4, none⟩ (.int .i64 d1.r3)).setCell ⟨gs, 5, none⟩ (.slice p4 n4 c4)).setCell ⟨gs, 6, none⟩ (.int .i64 d1.sent)).setCell ⟨gs, 7, none⟩ (.bool d1.up)) = W41 at hs8 hh ⊢
          clear hWW
          have HBW := Lib.hid (hs8.bel HBW.out HGEs.out)
          have HQz := Lib.hid (HQz.out.keep hs8 HXs.out (by decide))
          have HXs := Lib.hid hh
          clear hs8 hh
          have HQs := HQz
          obtain ⟨ks0, ks1, ks2, ks3, ks4, ks5, ks6, ks7⟩ := HXs.out.cells
          go_wp2_with fail
          refine (raises_lit HQs.out HUP.out).mono ?_
          rintro e W42 ⟨rfl, hb⟩
          clear ks0 ks1 ks2 ks3 ks4 ks5 ks6 ks7
          have HBW := Lib.hid (HBW.out.trans hb)
          have HXs := Lib.hid (HXs.out.bel hb)
          have HQs := Lib.hid (HQs.out.bel hb)
          clear hb
          have hce := HCE.out
          have hob := HOB.out
          cases ob
          · go_wp2
            exact ⟨⟨k + 1, p4, n4, c4, by omega, by go_num, Lib.hid (by rw [HD1.out]; exact HXs.out), Lib.hid (by rw [HD1.out]; exact HQs.out), HBW⟩, by simp [intOf]; omega⟩
          · go_wp2
            exact ⟨⟨k + 1, p4, n4, c4, by omega, by go_num, Lib.hid (by rw [HD1.out]; exact HXs.out), Lib.hid (by rw [HD1.out]; exact HQs.out), HBW⟩, by simp [intOf]; omega⟩
      · have hkk : k = N := by omega
        have hfd : uq m (fq ((l).take k)) = uq m ((fq (l)).drop 0) := by rw [List.take_of_length_le (by have := HN.out; omega), List.drop_zero]
        rw [hfd] at HX HQQ
        have HX0 := HX
        have HQ0 := HQQ
        have HBW0 := HBW
        have hlt' : ¬ k < N := hlt
        clear hkk hfd HX HQQ HBW hk1 hlt
        go_wp2
        go_loopw [8] (fun i wr2 => ∃ (k : Nat) (p : Option Addr) (n c : Nat), k ≤ N ∧ k ≤ 16 ∧ i = .int .i64 k ∧ Hid (BoxAt wr2 gs 27 (uq m ((fq (l)).drop k)) (.slice p n c)) ∧ Hid (QAt wr2 (.slice p n c) (uq m ((fq (l)).drop k)).q) ∧ Hid (Bel w wr2)) (fun i _ => 16 - (intOf i).toNat)
        case atStart => exact ⟨0, p, n, c, Nat.zero_le _, by omega, rfl, HX0, HQ0, HBW0⟩
        case round =>
          obtain ⟨k, p, n, c, hk1, hk2, rfl, HX, HQQ, HBW⟩ := hrel
          clear HX0 HQ0 HBW0
          by_cases hlt : k < N ∧ k < 16
          · obtain ⟨l1, l2⟩ := hlt
            have hlk : k < (l).length := by have := HN.out; omega
            obtain ⟨x, hx⟩ : ∃ x, (l)[k]? = some x := ⟨_, List.getElem?_eq_getElem hlk⟩
            have HQX := HL.out.bel HBW.out
            obtain ⟨ix, B, O, hPP, hB, m0⟩ := HQX k _ hx
            subst hPP
            obtain ⟨xb, hxb⟩ : ∃ y, x % 256 = y := ⟨_, rfl⟩
            obtain ⟨d0, hd0⟩ : ∃ d, uq m ((fq (l)).drop k) = d := ⟨_, rfl⟩
            obtain ⟨d1, hd1⟩ : ∃ d, uq m ((fq (l)).drop (k + 1)) = d := ⟨_, rfl⟩
            have hrd : rdV d0 0 = (xb, d1) := by rw [← hd0, fq_drop hx l2, uq_rd, hxb, hd1]
            have od0 : Ok d0 := by rw [← hd0]; exact fq_ok HM32.out _ _
            have hand : bits .and .i64 x 255 = xb := (and255 x).trans hxb
            have exb : (xb != xb) = false := by simp
            rw [hd0] at HX HQQ
            have HXs := HX
            have HQs := HQQ
            have HRD := Lib.hid hrd
            have OD0 := Lib.hid od0
            have HD1 := Lib.hid hd1
            have HAN := Lib.hid hand
            have HM0 := Lib.hid m0
            have HBB := Lib.hid hB
            have HXK := Lib.hid hx
            clear hx hlk ix hB HQX m0 hxb hd0 hd1 hrd od0 hand HX HQQ
            have l3 : (k : Int) < N := by omega
            have l4 : (k : Int) < 16 := by omega
            obtain ⟨ks0, ks1, ks2, ks3, ks4, ks5, ks6, ks7⟩ := HXs.out.cells
            go_wp2_with fail
            refine (read_lit0 HQs.out OD0.out HRD.out).mono ?_
            rintro e W61 ⟨p61, n61, c61, rfl, hb, hq⟩
            clear ks0 ks1 ks2 ks3 ks4 ks5 ks6 ks7
            have HBW := Lib.hid (HBW.out.trans hb)
            have HXs := Lib.hid (HXs.out.bel hb)
            have HQs := Lib.hid (HQs.out.bel hb)
            have HQz := Lib.hid hq
            clear hb hq
            obtain ⟨ks0, ks1, ks2, ks3, ks4, ks5, ks6, ks7⟩ := HXs.out.cells
            have ys0 := HXs.out.frozen 0
            have ys1 := HXs.out.frozen 1
            have ys2 := HXs.out.frozen 2
            have ys3 := HXs.out.frozen 3
            have ys4 := HXs.out.frozen 4
            have ys5 := HXs.out.frozen 5
            have ys6 := HXs.out.frozen 6
            have ys7 := HXs.out.frozen 7
            go_upto_region 16 with (fail)
            clear ks0 ks1 ks2 ks3 ks4 ks5 ks6 ks7 ys0 ys1 ys2 ys3 ys4 ys5 ys6 ys7
            have hs8 : Svg gs W61 ((((((((W61.setCell ⟨gs, 0, none⟩ (.int .i64 (d1.kind : Int))).setCell ⟨gs, 1, none⟩ (.int .i64 d1.r0)).setCell ⟨gs, 2, none⟩ (.int .i64 d1.r1)).setCell ⟨gs, 3, none⟩ (.int .i64 d1.r2)).setCell ⟨gs, 4, none⟩ (.int .i64 d1.r3)).setCell ⟨gs, 5, none⟩ (.slice p61 n61 c61)).setCell ⟨gs, 6, none⟩ (.int .i64 d1.sent)).setCell ⟨gs, 7, none⟩ (.bool d1.up)) := set8_svg W61 gs (.int .i64 (d1.kind : Int)) (.int .i64 d1.r0) (.int .i64 d1.r1) (.int .i64 d1.r2) (.int .i64 d1.r3) (.slice p61 n61 c61) (.int .i64 d1.sent) (.bool d1.up)
            have hh : BoxAt ((((((((W61.setCell ⟨gs, 0, none⟩ (.int .i64 (d1.kind : Int))).setCell ⟨gs, 1, none⟩ (.int .i64 d1.r0)).setCell ⟨gs, 2, none⟩ (.int .i64 d1.r1)).setCell ⟨gs, 3, none⟩ (.int .i64 d1.r2)).setCell ⟨gs, 4, none⟩ (.int .i64 d1.r3)).setCell ⟨gs, 5, none⟩ (.slice p61 n61 c61)).setCell ⟨gs, 6, none⟩ (.int .i64 d1.sent)).setCell ⟨gs, 7, none⟩ (.bool d1.up)) gs 27 d1 (.slice p61 n61 c61) := set8_heap (show W61.heap[gs]? = some (.cells #[.int .i64 (d0.kind : Int), .int .i64 d0.r0, .int .i64 d0.r1, .int .i64 d0.r2, .int .i64 d0.r3, .slice p n c, .int .i64 d0.sent, .bool d0.up] 27 (0, 0)) from HXs.out) (.int .i64 (d1.kind : Int)) (.int .i64 d1.r0) (.int .i64 d1.r1) (.int .i64 d1.r2) (.int .i64 d1.r3) (.slice p61 n61 c61) (.int .i64 d1.sent) (.bool d1.up)
            generalize hWW : ((((((((W61.setCell ⟨gs, 0, none⟩ (.int .i64 (d1.kind : Int))).setCell ⟨gs, 1, none⟩ (.int .i64 d1.r0)).setCell ⟨gs, 2, none⟩ (.int .i64 d1.r1)).setCell ⟨gs, 3, none⟩ (.int .i64 d1.r2)).setCell ⟨gs, 4, none⟩ (.int .i64 d1.r3)).setCell ⟨gs, 5, none⟩ (.slice p61 n61 c61)).setCell ⟨gs, 6, none⟩ (.int .i64 d1.sent)).setCell ⟨gs, 7, none⟩ (.bool d1.up)) = W62 at hs8 hh ⊢
            clear hWW
            have HBW := Lib.hid (hs8.bel HBW.out HGEs.out)
            have HQs := Lib.hid (HQs.out.keep hs8 HXs.out (by decide))
            have HQz := Lib.hid (HQz.out.keep hs8 HXs.out (by decide))
            have HXs := Lib.hid hh
            clear hs8 hh
            have HQs := HQz
            have hand := HAN.out
            obtain ⟨_, B9, O9, hP9, _, m0⟩ := (HL.out.bel HBW.out) k x HXK.out
            injection hP9 with hP9
            injection hP9 with hB9 hO9
            subst hB9 hO9
            go_wp2
            exact ⟨⟨k + 1, p61, n61, c61, by omega, by omega, by go_num, Lib.hid (by rw [HD1.out]; exact HXs.out), Lib.hid (by rw [HD1.out]; exact HQs.out), HBW⟩, by simp [intOf]; omega⟩
          · obtain ⟨df, hdf⟩ : ∃ df, uq m [] = df := ⟨_, rfl⟩
            have hfe : uq m ((fq (l)).drop k) = df := by rw [fq_end (by have := HN.out; omega), hdf]
            have odf : Ok df := by rw [← hdf]; exact uq_ok HM32.out (by show 0 ≤ 16; omega) (fun x hx => by cases hx)
            have hr0 : rdV df 0 = (-1, df) := by rw [← hdf]; exact uq_nil0 _
            have hr1 : rdV df 1 = (2, df) := by rw [← hdf]; exact uq_nil1 _
            have hup : df.up = false := by rw [← hdf, uq_up]; simp
            rw [hfe] at HX HQQ
            have HXs := HX
            have HQs := HQQ
            have ODF := Lib.hid odf
            have R0 := Lib.hid hr0
            have R1 := Lib.hid hr1
            have HUP := Lib.hid hup
            clear hdf hfe odf hr0 hr1 hup HX HQQ
            by_cases l3 : k < N
            · have l5 : ¬ (k : Int) < 16 := by omega
              clear hlt hk1 hk2 hlt'
              obtain ⟨ks0, ks1, ks2, ks3, ks4, ks5, ks6, ks7⟩ := HXs.out.cells
              go_wp2_with fail
              refine (read_lit0 HQs.out ODF.out R0.out).mono ?_
              rintro e W81 ⟨p81, n81, c81, rfl, hb, hq⟩
              clear ks0 ks1 ks2 ks3 ks4 ks5 ks6 ks7
              have HBW := Lib.hid (HBW.out.trans hb)
              have HXs := Lib.hid (HXs.out.bel hb)
              have HQs := Lib.hid (HQs.out.bel hb)
              have HQz := Lib.hid hq
              clear hb hq
              obtain ⟨ks0, ks1, ks2, ks3, ks4, ks5, ks6, ks7⟩ := HXs.out.cells
              have ys0 := HXs.out.frozen 0
              have ys1 := HXs.out.frozen 1
              have ys2 := HXs.out.frozen 2
              have ys3 := HXs.out.frozen 3
              have ys4 := HXs.out.frozen 4
              have ys5 := HXs.out.frozen 5
              have ys6 := HXs.out.frozen 6
              have ys7 := HXs.out.frozen 7
              go_upto_region 19 with (fail)
              clear ks0 ks1 ks2 ks3 ks4 ks5 ks6 ks7 ys0 ys1 ys2 ys3 ys4 ys5 ys6 ys7
              have hs8 : Svg gs W81 ((((((((W81.setCell ⟨gs, 0, none⟩ (.int .i64 (df.kind : Int))).setCell ⟨gs, 1, none⟩ (.int .i64 df.r0)).setCell ⟨gs, 2, none⟩ (.int .i64 df.r1)).setCell ⟨gs, 3, none⟩ (.int .i64 df.r2)).setCell ⟨gs, 4, none⟩ (.int .i64 df.r3)).setCell ⟨gs, 5, none⟩ (.slice p81 n81 c81)).setCell ⟨gs, 6, none⟩ (.int .i64 df.sent)).setCell ⟨gs, 7, none⟩ (.bool df.up)) := set8_svg W81 gs (.int .i64 (df.kind : Int)) (.int .i64 df.r0) (.int .i64 df.r1) (.int .i64 df.r2) (.int .i64 df.r3) (.slice p81 n81 c81) (.int .i64 df.sent) (.bool df.up)
              have hh : BoxAt ((((((((W81.setCell ⟨gs, 0, none⟩ (.int .i64 (df.kind : Int))).setCell ⟨gs, 1, none⟩ (.int .i64 df.r0)).setCell ⟨gs, 2, none⟩ (.int .i64 df.r1)).setCell ⟨gs, 3, none⟩ (.int .i64 df.r2)).setCell ⟨gs, 4, none⟩ (.int .i64 df.r3)).setCell ⟨gs, 5, none⟩ (.slice p81 n81 c81)).setCell ⟨gs, 6, none⟩ (.int .i64 df.sent)).setCell ⟨gs, 7, none⟩ (.bool df.up)) gs 27 df (.slice p81 n81 c81) := set8_heap (show W81.heap[gs]? = some (.cells #[.int .i64 (df.kind : Int), .int .i64 df.r0, .int .i64 df.r1, .int .i64 df.r2, .int .i64 df.r3, .slice p n c, .int .i64 df.sent, .bool df.up] 27 (0, 0)) from HXs.out) (.int .i64 (df.kind : Int)) (.int .i64 df.r0) (.int .i64 df.r1) (.int .i64 df.r2) (.int .i64 df.r3) (.slice p81 n81 c81) (.int .i64 df.sent) (.bool df.up)
              generalize hWW : ((((((((W81.setCell ⟨gs, 0, none⟩ (.int .i64 (df.kind : Int))).setCell ⟨gs, 1, none⟩ (.int .i64 df.r0)).setCell ⟨gs, 2, none⟩ (.int .i64 df.r1)).setCell ⟨gs, 3, none⟩ (.int .i64 df.r2)).setCell ⟨gs, 4, none⟩ (.int .i64 df.r3)).setCell ⟨gs, 5, none⟩ (.slice p81 n81 c81)).setCell ⟨gs, 6, none⟩ (.int .i64 df.sent)).setCell ⟨gs, 7, none⟩ (.bool df.up)) = W82 at hs8 hh ⊢
              clear hWW
              have HBW := Lib.hid (hs8.bel HBW.out HGEs.out)
              have HQs := Lib.hid (HQs.out.keep hs8 HXs.out (by decide))
              have HQz := Lib.hid (HQz.out.keep hs8 HXs.out (by decide))
              have HXs := Lib.hid hh
              clear hs8 hh
              have HQs := HQz
              obtain ⟨ks0, ks1, ks2, ks3, ks4, ks5, ks6, ks7⟩ := HXs.out.cells
              go_wp2_with fail
              refine (read_lit1 HQs.out ODF.out R1.out).mono ?_
              rintro e W83 ⟨p83, n83, c83, rfl, hb, hq⟩
              clear ks0 ks1 ks2 ks3 ks4 ks5 ks6 ks7
              have HBW := Lib.hid (HBW.out.trans hb)
              have HXs := Lib.hid (HXs.out.bel hb)
              have HQs := Lib.hid (HQs.out.bel hb)
              have HQz := Lib.hid hq
              clear hb hq
              obtain ⟨ks0, ks1, ks2, ks3, ks4, ks5, ks6, ks7⟩ := HXs.out.cells
              have ys0 := HXs.out.frozen 0
              have ys1 := HXs.out.frozen 1
              have ys2 := HXs.out.frozen 2
              have ys3 := HXs.out.frozen 3
              have ys4 := HXs.out.frozen 4
              have ys5 := HXs.out.frozen 5
              have ys6 := HXs.out.frozen 6
              have ys7 := HXs.out.frozen 7
              go_upto_region 20 with (fail)
              clear ks0 ks1 ks2 ks3 ks4 ks5 ks6 ks7 ys0 ys1 ys2 ys3 ys4 ys5 ys6 ys7
              have hs8 : Svg gs W83 ((((((((W83.setCell ⟨gs, 0, none⟩ (.int .i64 (df.kind : Int))).setCell ⟨gs, 1, none⟩ (.int .i64 df.r0)).setCell ⟨gs, 2, none⟩ (.int .i64 df.r1)).setCell ⟨gs, 3, none⟩ (.int .i64 df.r2)).setCell ⟨gs, 4, none⟩ (.int .i64 df.r3)).setCell ⟨gs, 5, none⟩ (.slice p83 n83 c83)).setCell ⟨gs, 6, none⟩ (.int .i64 df.sent)).setCell ⟨gs, 7, none⟩ (.bool df.up)) := set8_svg W83 gs (.int .i64 (df.kind : Int)) (.int .i64 df.r0) (.int .i64 df.r1) (.int .i64 df.r2) (.int .i64 df.r3) (.slice p83 n83 c83) (.int .i64 df.sent) (.bool df.up)
              have hh : BoxAt ((((((((W83.setCell ⟨gs, 0, none⟩ (.int .i64 (df.kind : Int))).setCell ⟨gs, 1, none⟩ (.int .i64 df.r0)).setCell ⟨gs, 2, none⟩ (.int .i64 df.r1)).setCell ⟨gs, 3, none⟩ (.int .i64 df.r2)).setCell ⟨gs, 4, none⟩ (.int .i64 df.r3)).setCell ⟨gs, 5, none⟩ (.slice p83 n83 c83)).setCell ⟨gs, 6, none⟩ (.int .i64 df.sent)).setCell ⟨gs, 7, none⟩ (.bool df.up)) gs 27 df (.slice p83 n83 c83) := set8_heap (show W83.heap[gs]? = some (.cells #[.int .i64 (df.kind : Int), .int .i64 df.r0, .int .i64 df.r1, .int .i64 df.r2, .int .i64 df.r3, .slice p81 n81 c81, .int .i64 df.sent, .bool df.up] 27 (0, 0)) from HXs.out) (.int .i64 (df.kind : Int)) (.int .i64 df.r0) (.int .i64 df.r1) (.int .i64 df.r2) (.int .i64 df.r3) (.slice p83 n83 c83) (.int .i64 df.sent) (.bool df.up)
              generalize hWW : ((((((((W83.setCell ⟨gs, 0, none⟩ (.int .i64 (df.kind : Int))).setCell ⟨gs, 1, none⟩ (.int .i64 df.r0)).setCell ⟨gs, 2, none⟩ (.int .i64 df.r1)).setCell ⟨gs, 3, none⟩ (.int .i64 df.r2)).setCell ⟨gs, 4, none⟩ (.int .i64 df.r3)).setCell ⟨gs, 5, none⟩ (.slice p83 n83 c83)).setCell ⟨gs, 6, none⟩ (.int .i64 df.sent)).setCell ⟨gs, 7, none⟩ (.bool df.up)) = W84 at hs8 hh ⊢
              clear hWW
              have HBW := Lib.hid (hs8.bel HBW.out HGEs.out)
              have HQs := Lib.hid (HQs.out.keep hs8 HXs.out (by decide))
              have HQz := Lib.hid (HQz.out.keep hs8 HXs.out (by decide))
              have HXs := Lib.hid hh
              clear hs8 hh
              have HQs := HQz
              obtain ⟨ks0, ks1, ks2, ks3, ks4, ks5, ks6, ks7⟩ := HXs.out.cells
              go_wp2_with fail
              refine (raises_lit HQs.out HUP.out).mono ?_
              rintro e W85 ⟨rfl, hb⟩
              clear ks0 ks1 ks2 ks3 ks4 ks5 ks6 ks7
              have HBW := Lib.hid (HBW.out.trans hb)
              have HXs := Lib.hid (HXs.out.bel hb)
              have HQs := Lib.hid (HQs.out.bel hb)
              clear hb
              go_wp2
              go_ret
              exact ⟨rfl, HBW.out⟩
            · clear hlt hk1 hk2 hlt'
              obtain ⟨ks0, ks1, ks2, ks3, ks4, ks5, ks6, ks7⟩ := HXs.out.cells
              go_wp2_with fail
              refine (read_lit0 HQs.out ODF.out R0.out).mono ?_
              rintro e W81 ⟨p81, n81, c81, rfl, hb, hq⟩
              clear ks0 ks1 ks2 ks3 ks4 ks5 ks6 ks7
              have HBW := Lib.hid (HBW.out.trans hb)
              have HXs := Lib.hid (HXs.out.bel hb)
              have HQs := Lib.hid (HQs.out.bel hb)
              have HQz := Lib.hid hq
              clear hb hq
              obtain ⟨ks0, ks1, ks2, ks3, ks4, ks5, ks6, ks7⟩ := HXs.out.cells
              have ys0 := HXs.out.frozen 0
              have ys1 := HXs.out.frozen 1
              have ys2 := HXs.out.frozen 2
              have ys3 := HXs.out.frozen 3
              have ys4 := HXs.out.frozen 4
              have ys5 := HXs.out.frozen 5
              have ys6 := HXs.out.frozen 6
              have ys7 := HXs.out.frozen 7
              go_upto_region 19 with (fail)
              clear ks0 ks1 ks2 ks3 ks4 ks5 ks6 ks7 ys0 ys1 ys2 ys3 ys4 ys5 ys6 ys7
              have hs8 : Svg gs W81 ((((((((W81.setCell ⟨gs, 0, none⟩ (.int .i64 (df.kind : Int))).setCell ⟨gs, 1, none⟩ (.int .i64 df.r0)).setCell ⟨gs, 2, none⟩ (.int .i64 df.r1)).setCell ⟨gs, 3, none⟩ (.int .i64 df.r2)).setCell ⟨gs, 4, none⟩ (.int .i64 df.r3)).setCell ⟨gs, 5, none⟩ (.slice p81 n81 c81)).setCell ⟨gs, 6, none⟩ (.int .i64 df.sent)).setCell ⟨gs, 7, none⟩ (.bool df.up)) := set8_svg W81 gs (.int .i64 (df.kind : Int)) (.int .i64 df.r0) (.int .i64 df.r1) (.int .i64 df.r2) (.int .i64 df.r3) (.slice p81 n81 c81) (.int .i64 df.sent) (.bool df.up)
              have hh : BoxAt ((((((((W81.setCell ⟨gs, 0, none⟩ (.int .i64 (df.kind : Int))).setCell ⟨gs, 1, none⟩ (.int .i64 df.r0)).setCell ⟨gs, 2, none⟩ (.int .i64 df.r1)).setCell ⟨gs, 3, none⟩ (.int .i64 df.r2)).setCell ⟨gs, 4, none⟩ (.int .i64 df.r3)).setCell ⟨gs, 5, none⟩ (.slice p81 n81 c81)).setCell ⟨gs, 6, none⟩ (.int .i64 df.sent)).setCell ⟨gs, 7, none⟩ (.bool df.up)) gs 27 df (.slice p81 n81 c81) := set8_heap (show W81.heap[gs]? = some (.cells #[.int .i64 (df.kind : Int), .int .i64 df.r0, .int .i64 df.r1, .int .i64 df.r2, .int .i64 df.r3, .slice p n c, .int .i64 df.sent, .bool df.up] 27 (0, 0)) from HXs.out) (.int .i64 (df.kind : Int)) (.int .i64 df.r0) (.int .i64 df.r1) (.int .i64 df.r2) (.int .i64 df.r3) (.slice p81 n81 c81) (.int .i64 df.sent) (.bool df.up)
              generalize hWW : ((((((((W81.setCell ⟨gs, 0, none⟩ (.int .i64 (df.kind : Int))).setCell ⟨gs, 1, none⟩ (.int .i64 df.r0)).setCell ⟨gs, 2, none⟩ (.int .i64 df.r1)).setCell ⟨gs, 3, none⟩ (.int .i64 df.r2)).setCell ⟨gs, 4, none⟩ (.int .i64 df.r3)).setCell ⟨gs, 5, none⟩ (.slice p81 n81 c81)).setCell ⟨gs, 6, none⟩ (.int .i64 df.sent)).setCell ⟨gs, 7, none⟩ (.bool df.up)) = W82 at hs8 hh ⊢
              clear hWW
              have HBW := Lib.hid (hs8.bel HBW.out HGEs.out)
              have HQs := Lib.hid (HQs.out.keep hs8 HXs.out (by decide))
              have HQz := Lib.hid (HQz.out.keep hs8 HXs.out (by decide))
              have HXs := Lib.hid hh
              clear hs8 hh
              have HQs := HQz
              obtain ⟨ks0, ks1, ks2, ks3, ks4, ks5, ks6, ks7⟩ := HXs.out.cells
              go_wp2_with fail
              refine (read_lit1 HQs.out ODF.out R1.out).mono ?_
              rintro e W83 ⟨p83, n83, c83, rfl, hb, hq⟩
              clear ks0 ks1 ks2 ks3 ks4 ks5 ks6 ks7
              have HBW := Lib.hid (HBW.out.trans hb)
              have HXs := Lib.hid (HXs.out.bel hb)
              have HQs := Lib.hid (HQs.out.bel hb)
              have HQz := Lib.hid hq
              clear hb hq
              obtain ⟨ks0, ks1, ks2, ks3, ks4, ks5, ks6, ks7⟩ := HXs.out.cells
              have ys0 := HXs.out.frozen 0
              have ys1 := HXs.out.frozen 1
              have ys2 := HXs.out.frozen 2
              have ys3 := HXs.out.frozen 3
              have ys4 := HXs.out.frozen 4
              have ys5 := HXs.out.frozen 5
              have ys6 := HXs.out.frozen 6
              have ys7 := HXs.out.frozen 7
              go_upto_region 20 with (fail)
              clear ks0 ks1 ks2 ks3 ks4 ks5 ks6 ks7 ys0 ys1 ys2 ys3 ys4 ys5 ys6 ys7
              have hs8 : Svg gs W83 ((((((((W83.setCell ⟨gs, 0, none⟩ (.int .i64 (df.kind : Int))).setCell ⟨gs, 1, none⟩ (.int .i64 df.r0)).setCell ⟨gs, 2, none⟩ (.int .i64 df.r1)).setCell ⟨gs, 3, none⟩ (.int .i64 df.r2)).setCell ⟨gs, 4, none⟩ (.int .i64 df.r3)).setCell ⟨gs, 5, none⟩ (.slice p83 n83 c83)).setCell ⟨gs, 6, none⟩ (.int .i64 df.sent)).setCell ⟨gs, 7, none⟩ (.bool df.up)) := set8_svg W83 gs (.int .i64 (df.kind : Int)) (.int .i64 df.r0) (.int .i64 df.r1) (.int .i64 df.r2) (.int .i64 df.r3) (.slice p83 n83 c83) (.int .i64 df.sent) (.bool df.up)
              have hh : BoxAt ((((((((W83.setCell ⟨gs, 0, none⟩ (.int .i64 (df.kind : Int))).setCell ⟨gs, 1, none⟩ (.int .i64 df.r0)).setCell ⟨gs, 2, none⟩ (.int .i64 df.r1)).setCell ⟨gs, 3, none⟩ (.int .i64 df.r2)).setCell ⟨gs, 4, none⟩ (.int .i64 df.r3)).setCell ⟨gs, 5, none⟩ (.slice p83 n83 c83)).setCell ⟨gs, 6, none⟩ (.int .i64 df.sent)).setCell ⟨gs, 7, none⟩ (.bool df.up)) gs 27 df (.slice p83 n83 c83) := set8_heap (show W83.heap[gs]? = some (.cells #[.int .i64 (df.kind : Int), .int .i64 df.r0, .int .i64 df.r1, .int .i64 df.r2, .int .i64 df.r3, .slice p81 n81 c81, .int .i64 df.sent, .bool df.up] 27 (0, 0)) from HXs.out) (.int .i64 (df.kind : Int)) (.int .i64 df.r0) (.int .i64 df.r1) (.int .i64 df.r2) (.int .i64 df.r3) (.slice p83 n83 c83) (.int .i64 df.sent) (.bool df.up)
              generalize hWW : ((((((((W83.setCell ⟨gs, 0, none⟩ (.int .i64 (df.kind : Int))).setCell ⟨gs, 1, none⟩ (.int .i64 df.r0)).setCell ⟨gs, 2, none⟩ (.int .i64 df.r1)).setCell ⟨gs, 3, none⟩ (.int .i64 df.r2)).setCell ⟨gs, 4, none⟩ (.int .i64 df.r3)).setCell ⟨gs, 5, none⟩ (.slice p83 n83 c83)).setCell ⟨gs, 6, none⟩ (.int .i64 df.sent)).setCell ⟨gs, 7, none⟩ (.bool df.up)) = W84 at hs8 hh ⊢
              clear hWW
              have HBW := Lib.hid (hs8.bel HBW.out HGEs.out)
              have HQs := Lib.hid (HQs.out.keep hs8 HXs.out (by decide))
              have HQz := Lib.hid (HQz.out.keep hs8 HXs.out (by decide))
              have HXs := Lib.hid hh
              clear hs8 hh
              have HQs := HQz
              obtain ⟨ks0, ks1, ks2, ks3, ks4, ks5, ks6, ks7⟩ := HXs.out.cells
              go_wp2_with fail
              refine (raises_lit HQs.out HUP.out).mono ?_
              rintro e W85 ⟨rfl, hb⟩
              clear ks0 ks1 ks2 ks3 ks4 ks5 ks6 ks7
              have HBW := Lib.hid (HBW.out.trans hb)
              have HXs := Lib.hid (HXs.out.bel hb)
              have HQs := Lib.hid (HQs.out.bel hb)
              clear hb
              go_wp2
              go_ret
              exact ⟨rfl, HBW.out⟩
end Go.Proofs.Ytbhpnoodpicdkaa
