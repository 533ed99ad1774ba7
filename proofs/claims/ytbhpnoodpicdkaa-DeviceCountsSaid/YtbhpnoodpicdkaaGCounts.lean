/- DeviceCounts: a uart tells how often it was sent to; nothing else counts. -/
import Derived.Test.YtbhpnoodpicdkaaGOpen
import Derived.Test.YtbhpnoodpicdkaaGPlain2
import Derived.Deep.LoopGhost
namespace Go.Proofs.Ytbhpnoodpicdkaa
open Go.RowKit Dv
set_option linter.unusedVariables false
set_option linter.unusedSimpArgs false
set_option maxRecDepth 100000 in
set_option maxHeartbeats 8000000 in
theorem counts_any (w : World) {P : Option Addr} {N C : Nat} {raw : List (Int × Int × Int)} (hn : raw.length = N) (hQ : TrisQ w P raw) :
    Calls Try.prog 8 #[.slice P N C] w fun e w' => e = .returned (.bool true) ∧ Bel w w' := by
  obtain ⟨s0, hs0⟩ : ∃ d, newD 1 = d := ⟨_, rfl⟩
  have os0 : Ok s0 := by rw [← hs0]; exact ok_new (by omega)
  have k0 : s0.kind = 1 := by rw [← hs0]; rfl
  have n0 : s0.sent = 0 := by rw [← hs0]; rfl
  have HS0 := Lib.hid hs0
  have OS0 := Lib.hid os0
  have K0 := Lib.hid k0
  have N0 := Lib.hid n0
  have HT := Lib.hid hQ
  have HN := Lib.hid hn
  have HBW := Lib.hid (Bel.refl w)
  clear hs0 os0 k0 n0 hQ hn
  go_enter Try.func8, Try.ntmps8
  go_wp2_with fail
  refine (awake_any _).mono ?_
  rintro e W1 ⟨rfl, hb⟩
  have HBW := Lib.hid (HBW.out.trans hb)
  clear hb
  go_wp2_with fail
  refine (new_lit1 _ HS0.out).mono ?_
  rintro e W2 ⟨p2, n2, c2, rfl, hb, hq⟩
  have HBW := Lib.hid (HBW.out.trans hb)
  have HQv := Lib.hid hq
  clear hb hq
  go_upto_region 3 with (fail)
  have hnew : BoxAt (W2.alloc (.cells #[.int .i64 (s0.kind : Int), .int .i64 s0.r0, .int .i64 s0.r1, .int .i64 s0.r2, .int .i64 s0.r3, .slice p2 n2 c2, .int .i64 s0.sent, .bool s0.up] 27)) W2.heap.size 27 s0 (.slice p2 n2 c2) := heap_alloc_new W2 _
  have hb : Bel W2 (W2.alloc (.cells #[.int .i64 (s0.kind : Int), .int .i64 s0.r0, .int .i64 s0.r1, .int .i64 s0.r2, .int .i64 s0.r3, .slice p2 n2 c2, .int .i64 s0.sent, .bool s0.up] 27)) := (Bel.refl W2).alloc _ _
  have hge : w.heap.size ≤ W2.heap.size := HBW.out.size
  generalize hWW : (W2.alloc (.cells #[.int .i64 (s0.kind : Int), .int .i64 s0.r0, .int .i64 s0.r1, .int .i64 s0.r2, .int .i64 s0.r3, .slice p2 n2 c2, .int .i64 s0.sent, .bool s0.up] 27)) = W3 at hnew hb ⊢
  clear hWW
  have HBW := Lib.hid (HBW.out.trans hb)
  have HQv := Lib.hid (HQv.out.bel hb)
  generalize W2.heap.size = gs at hnew hge  ⊢
  have HXs := Lib.hid hnew
  have HGEs := Lib.hid hge
  clear hnew hb hge
  have HQs := HQv
  go_wp2
  go_loopw [5, 6] (fun nn i wr => ∃ (k t : Nat) (p : Option Addr) (n c : Nat), k ≤ N ∧ k ≤ 50 ∧ t ≤ k ∧ i = .int .i64 k ∧ nn = .int .i64 t ∧ Hid (t = cnt raw k) ∧ Hid (BoxAt wr gs 27 (fd s0 raw k) (.slice p n c)) ∧ Hid (QAt wr (.slice p n c) (fd s0 raw k).q) ∧ Hid (Bel w wr)) (fun _ i _ => 50 - (intOf i).toNat)
  case atStart => exact ⟨0, 0, p2, n2, c2, Nat.zero_le _, by omega, by omega, rfl, rfl, Lib.hid rfl, Lib.hid (by rw [fd_zero]; exact HXs.out), Lib.hid (by rw [fd_zero]; exact HQs.out), HBW⟩
  case round =>
    obtain ⟨k, t, p, n, c, hk1, hk2, htk, rfl, rfl, HC, HX, HQQ, HBW⟩ := hrel
    by_cases hlt : k < N ∧ k < 50
    · obtain ⟨l1, l2⟩ := hlt
      have hlk : k < raw.length := by have := HN.out; omega
      obtain ⟨⟨a, b, x⟩, hx⟩ : ∃ x, raw[k]? = some x := ⟨_, List.getElem?_eq_getElem hlk⟩
      obtain ⟨ia, ib, ix, B, O, rfl, hB, m0, m1, m2⟩ := (HT.out.bel HBW.out) k _ hx
      obtain ⟨r1, d1, hst⟩ : ∃ r1 d1, stepV (fd s0 raw k) (a, b, x) = (r1, d1) := ⟨_, _, rfl⟩
      have hd1 : d1 = fd s0 raw (k + 1) := by rw [← fd_succ hx, hst]
      have hcs := cnt_succ hx
      obtain ⟨pa, hpa⟩ : ∃ r, pick a 3 = r := ⟨_, rfl⟩
      obtain ⟨pb, hpb⟩ : ∃ r, pick b 4 = r := ⟨_, rfl⟩
      have hsn : sends (a, b, x) = (decide (pa = 1) && decide (pb = 0)) := by rw [← hpa, ← hpb]; rfl
      rw [hsn] at hcs
      have HPA := Lib.hid hpa
      have HPB := Lib.hid hpb
      have HST := Lib.hid hst
      have HD1 := Lib.hid hd1
      have HCS := Lib.hid hcs
      have HOK2 := Lib.hid (fd_ok OS0.out raw k)
      have HIA := Lib.hid ia
      have HIB := Lib.hid ib
      generalize hfd : fd s0 raw k = d0 at HX HQQ HST HOK2
      clear hx hst hd1 ia ib ix hlk hfd hpa hpb hsn hcs
      have l3 : (k : Int) < N := by omega
      have l4 : (k : Int) < 50 := by omega
      have HXD : Hid (BoxAt wr.drew gs 27 d0 (.slice p n c)) := Lib.hid HX.out
      have HQD : Hid (QAt wr.drew (.slice p n c) d0.q) := Lib.hid (HQQ.out.bel (Bel.refl wr).drew)
      by_cases h1 : pa = 1
      · by_cases h2 : pb = 0
        · have e1 : (pa == 1) = true := beq_iff_eq.2 h1
          have e2 : (pb == 0) = true := beq_iff_eq.2 h2
          have HC2 : Hid (t + 1 = cnt raw (k + 1)) := Lib.hid (by rw [HCS.out, ← HC.out]; simp [h1, h2])
          clear h1 h2
          go_upto_region 9 with (first | (go_at_call 12; ((with_reducible refine (pick_lit HPA.out HIA.out (by decide) _).mono ?_); rintro e w' ⟨rfl, rfl⟩)) | (go_at_call 12; ((with_reducible refine (pick_lit HPB.out HIB.out (by decide) _).mono ?_); rintro e w' ⟨rfl, rfl⟩)))
          obtain ⟨k0, k1, k2, k3, k4, k5, k6, k7⟩ := HX.out.cells
          go_region_with ((go_at_call 20; ((refine (step_lit HQD.out HOK2.out HIA.out HIB.out HST.out).mono ?_); rintro e W4 ⟨p4, n4, c4, rfl, hb4, hq4⟩; have hx4 := hb4.stays HXD.out; have HX4 := Lib.hid hx4; obtain ⟨z0, z1, z2, z3, z4, z5, z6, z7⟩ := BoxAt.cells hx4; have y0 := BoxAt.frozen hx4 0; have y1 := BoxAt.frozen hx4 1; have y2 := BoxAt.frozen hx4 2; have y3 := BoxAt.frozen hx4 3; have y4 := BoxAt.frozen hx4 4; have y5 := BoxAt.frozen hx4 5; have y6 := BoxAt.frozen hx4 6; have y7 := BoxAt.frozen hx4 7; have HB4 := Lib.hid hb4; have HQ4 := Lib.hid hq4; clear hb4 hq4 hx4 k0 k1 k2 k3 k4 k5 k6 k7 m0 m1 m2)))
          all_goals
            have HS8 := Lib.hid (set8_svg W4 gs (.int .i64 (d1.kind : Int)) (.int .i64 d1.r0) (.int .i64 d1.r1) (.int .i64 d1.r2) (.int .i64 d1.r3) (.slice p4 n4 c4) (.int .i64 d1.sent) (.bool d1.up))
            have HH := Lib.hid (set8_heap (show W4.heap[gs]? = some (.cells #[.int .i64 (d0.kind : Int), .int .i64 d0.r0, .int .i64 d0.r1, .int .i64 d0.r2, .int .i64 d0.r3, .slice p n c, .int .i64 d0.sent, .bool d0.up] 27 (0, 0)) from HX4.out) (.int .i64 (d1.kind : Int)) (.int .i64 d1.r0) (.int .i64 d1.r1) (.int .i64 d1.r2) (.int .i64 d1.r3) (.slice p4 n4 c4) (.int .i64 d1.sent) (.bool d1.up))
            go_wp2
            exact ⟨⟨k + 1, t + 1, p4, n4, c4, by omega, by omega, by omega, by go_num, by go_num, HC2, Lib.hid (by rw [← HD1.out]; exact HH.out), Lib.hid (by rw [← HD1.out]; exact HQ4.out.keep HS8.out HX4.out (by decide)), Lib.hid (HS8.out.bel (HBW.out.drew.trans HB4.out) HGEs.out)⟩, by simp [intOf]; omega⟩
        · have e1 : (pa == 1) = true := beq_iff_eq.2 h1
          have e2 : (pb == 0) = false := beq_eq_false_iff_ne.2 h2
          have HC2 : Hid (t = cnt raw (k + 1)) := Lib.hid (by rw [HCS.out, ← HC.out]; simp [h2])
          clear h1 h2
          go_upto_region 9 with (first | (go_at_call 12; ((with_reducible refine (pick_lit HPA.out HIA.out (by decide) _).mono ?_); rintro e w' ⟨rfl, rfl⟩)) | (go_at_call 12; ((with_reducible refine (pick_lit HPB.out HIB.out (by decide) _).mono ?_); rintro e w' ⟨rfl, rfl⟩)))
          obtain ⟨k0, k1, k2, k3, k4, k5, k6, k7⟩ := HX.out.cells
          go_region_with ((go_at_call 20; ((refine (step_lit HQD.out HOK2.out HIA.out HIB.out HST.out).mono ?_); rintro e W4 ⟨p4, n4, c4, rfl, hb4, hq4⟩; have hx4 := hb4.stays HXD.out; have HX4 := Lib.hid hx4; obtain ⟨z0, z1, z2, z3, z4, z5, z6, z7⟩ := BoxAt.cells hx4; have y0 := BoxAt.frozen hx4 0; have y1 := BoxAt.frozen hx4 1; have y2 := BoxAt.frozen hx4 2; have y3 := BoxAt.frozen hx4 3; have y4 := BoxAt.frozen hx4 4; have y5 := BoxAt.frozen hx4 5; have y6 := BoxAt.frozen hx4 6; have y7 := BoxAt.frozen hx4 7; have HB4 := Lib.hid hb4; have HQ4 := Lib.hid hq4; clear hb4 hq4 hx4 k0 k1 k2 k3 k4 k5 k6 k7 m0 m1 m2)))
          all_goals
            have HS8 := Lib.hid (set8_svg W4 gs (.int .i64 (d1.kind : Int)) (.int .i64 d1.r0) (.int .i64 d1.r1) (.int .i64 d1.r2) (.int .i64 d1.r3) (.slice p4 n4 c4) (.int .i64 d1.sent) (.bool d1.up))
            have HH := Lib.hid (set8_heap (show W4.heap[gs]? = some (.cells #[.int .i64 (d0.kind : Int), .int .i64 d0.r0, .int .i64 d0.r1, .int .i64 d0.r2, .int .i64 d0.r3, .slice p n c, .int .i64 d0.sent, .bool d0.up] 27 (0, 0)) from HX4.out) (.int .i64 (d1.kind : Int)) (.int .i64 d1.r0) (.int .i64 d1.r1) (.int .i64 d1.r2) (.int .i64 d1.r3) (.slice p4 n4 c4) (.int .i64 d1.sent) (.bool d1.up))
            go_wp2
            exact ⟨⟨k + 1, t, p4, n4, c4, by omega, by omega, by omega, by go_num, rfl, HC2, Lib.hid (by rw [← HD1.out]; exact HH.out), Lib.hid (by rw [← HD1.out]; exact HQ4.out.keep HS8.out HX4.out (by decide)), Lib.hid (HS8.out.bel (HBW.out.drew.trans HB4.out) HGEs.out)⟩, by simp [intOf]; omega⟩
      · have e1 : (pa == 1) = false := beq_eq_false_iff_ne.2 h1
        have HC2 : Hid (t = cnt raw (k + 1)) := Lib.hid (by rw [HCS.out, ← HC.out]; simp [h1])
        clear h1
        go_upto_region 9 with (first | (go_at_call 12; ((with_reducible refine (pick_lit HPA.out HIA.out (by decide) _).mono ?_); rintro e w' ⟨rfl, rfl⟩)) | (go_at_call 12; ((with_reducible refine (pick_lit HPB.out HIB.out (by decide) _).mono ?_); rintro e w' ⟨rfl, rfl⟩)))
        obtain ⟨k0, k1, k2, k3, k4, k5, k6, k7⟩ := HX.out.cells
        go_region_with ((go_at_call 20; ((refine (step_lit HQD.out HOK2.out HIA.out HIB.out HST.out).mono ?_); rintro e W4 ⟨p4, n4, c4, rfl, hb4, hq4⟩; have hx4 := hb4.stays HXD.out; have HX4 := Lib.hid hx4; obtain ⟨z0, z1, z2, z3, z4, z5, z6, z7⟩ := BoxAt.cells hx4; have y0 := BoxAt.frozen hx4 0; have y1 := BoxAt.frozen hx4 1; have y2 := BoxAt.frozen hx4 2; have y3 := BoxAt.frozen hx4 3; have y4 := BoxAt.frozen hx4 4; have y5 := BoxAt.frozen hx4 5; have y6 := BoxAt.frozen hx4 6; have y7 := BoxAt.frozen hx4 7; have HB4 := Lib.hid hb4; have HQ4 := Lib.hid hq4; clear hb4 hq4 hx4 k0 k1 k2 k3 k4 k5 k6 k7 m0 m1 m2)))
        all_goals
          have HS8 := Lib.hid (set8_svg W4 gs (.int .i64 (d1.kind : Int)) (.int .i64 d1.r0) (.int .i64 d1.r1) (.int .i64 d1.r2) (.int .i64 d1.r3) (.slice p4 n4 c4) (.int .i64 d1.sent) (.bool d1.up))
          have HH := Lib.hid (set8_heap (show W4.heap[gs]? = some (.cells #[.int .i64 (d0.kind : Int), .int .i64 d0.r0, .int .i64 d0.r1, .int .i64 d0.r2, .int .i64 d0.r3, .slice p n c, .int .i64 d0.sent, .bool d0.up] 27 (0, 0)) from HX4.out) (.int .i64 (d1.kind : Int)) (.int .i64 d1.r0) (.int .i64 d1.r1) (.int .i64 d1.r2) (.int .i64 d1.r3) (.slice p4 n4 c4) (.int .i64 d1.sent) (.bool d1.up))
          go_wp2
          exact ⟨⟨k + 1, t, p4, n4, c4, by omega, by omega, by omega, by go_num, rfl, HC2, Lib.hid (by rw [← HD1.out]; exact HH.out), Lib.hid (by rw [← HD1.out]; exact HQ4.out.keep HS8.out HX4.out (by decide)), Lib.hid (HS8.out.bel (HBW.out.drew.trans HB4.out) HGEs.out)⟩, by simp [intOf]; omega⟩
    · obtain ⟨df, hdf⟩ : ∃ df, fd s0 raw k = df := ⟨_, rfl⟩
      obtain ⟨hsent, hkind⟩ := sent_fold (raw := raw) K0.out N0.out k hk2
      have hs2 : df.sent = (t : Int) := by rw [← hdf, HC.out]; exact hsent
      have hk3 : df.kind = 1 := by rw [← hdf]; exact hkind
      have odf : Ok df := by rw [← hdf]; exact fd_ok OS0.out raw k
      have hrr : rdV df 3 = ((t : Int), df) := by rw [← hs2]; exact rd3_uart hk3
      rw [hdf] at HX HQQ
      have HRR := Lib.hid hrr
      have ODF := Lib.hid odf
      have HXs := HX
      have HQs := HQQ
      have e1 : ((t : Int) == (t : Int)) = true := beq_self_eq_true _
      have e2 : (df.sent == (t : Int)) = true := beq_iff_eq.2 hs2
      clear hdf hsent hkind hs2 hk3 odf hrr HX HQQ
      by_cases l3 : k < N
      · have l5 : ¬ (k : Int) < 50 := by omega
        clear hlt hk1 hk2 htk
        obtain ⟨ks0, ks1, ks2, ks3, ks4, ks5, ks6, ks7⟩ := HXs.out.cells
        go_wp2_with fail
        refine (read_lit3 HQs.out ODF.out HRR.out).mono ?_
        rintro e W31 ⟨p31, n31, c31, rfl, hb, hq⟩
        clear ks0 ks1 ks2 ks3 ks4 ks5 ks6 ks7
        have HBW := Lib.hid (HBW.out.trans hb)
        have HXs := Lib.hid (HXs.out.bel hb)
        have HQs := Lib.hid (HQs.out.bel hb)
        have HQr := Lib.hid hq
        clear hb hq
        obtain ⟨ks0, ks1, ks2, ks3, ks4, ks5, ks6, ks7⟩ := HXs.out.cells
        go_upto_region 11 with (fail)
        clear ks0 ks1 ks2 ks3 ks4 ks5 ks6 ks7
        have hnew : BoxAt (W31.alloc (.cells #[.int .i64 (df.kind : Int), .int .i64 df.r0, .int .i64 df.r1, .int .i64 df.r2, .int .i64 df.r3, .slice p31 n31 c31, .int .i64 df.sent, .bool df.up] 27)) W31.heap.size 27 df (.slice p31 n31 c31) := heap_alloc_new W31 _
        have hb : Bel W31 (W31.alloc (.cells #[.int .i64 (df.kind : Int), .int .i64 df.r0, .int .i64 df.r1, .int .i64 df.r2, .int .i64 df.r3, .slice p31 n31 c31, .int .i64 df.sent, .bool df.up] 27)) := (Bel.refl W31).alloc _ _
        have hge : w.heap.size ≤ W31.heap.size := HBW.out.size
        have HNsr : Hid (gs ≠ W31.heap.size) := Lib.hid (by have := lt_of_heap HXs.out; omega)
        generalize hWW : (W31.alloc (.cells #[.int .i64 (df.kind : Int), .int .i64 df.r0, .int .i64 df.r1, .int .i64 df.r2, .int .i64 df.r3, .slice p31 n31 c31, .int .i64 df.sent, .bool df.up] 27)) = W32 at hnew hb ⊢
        clear hWW
        have HBW := Lib.hid (HBW.out.trans hb)
        have HXs := Lib.hid (HXs.out.bel hb)
        have HQs := Lib.hid (HQs.out.bel hb)
        have HQr := Lib.hid (HQr.out.bel hb)
        generalize W31.heap.size = gr at hnew hge HNsr ⊢
        have HXr := Lib.hid hnew
        have HGEr := Lib.hid hge
        clear hnew hb hge
        have HQr := HQr
        obtain ⟨ks0, ks1, ks2, ks3, ks4, ks5, ks6, ks7⟩ := HXs.out.cells
        go_wp2
        go_ret
        exact ⟨rfl, HBW.out⟩
      · clear hlt hk1 hk2 htk
        obtain ⟨ks0, ks1, ks2, ks3, ks4, ks5, ks6, ks7⟩ := HXs.out.cells
        go_wp2_with fail
        refine (read_lit3 HQs.out ODF.out HRR.out).mono ?_
        rintro e W31 ⟨p31, n31, c31, rfl, hb, hq⟩
        clear ks0 ks1 ks2 ks3 ks4 ks5 ks6 ks7
        have HBW := Lib.hid (HBW.out.trans hb)
        have HXs := Lib.hid (HXs.out.bel hb)
        have HQs := Lib.hid (HQs.out.bel hb)
        have HQr := Lib.hid hq
        clear hb hq
        obtain ⟨ks0, ks1, ks2, ks3, ks4, ks5, ks6, ks7⟩ := HXs.out.cells
        go_upto_region 11 with (fail)
        clear ks0 ks1 ks2 ks3 ks4 ks5 ks6 ks7
        have hnew : BoxAt (W31.alloc (.cells #[.int .i64 (df.kind : Int), .int .i64 df.r0, .int .i64 df.r1, .int .i64 df.r2, .int .i64 df.r3, .slice p31 n31 c31, .int .i64 df.sent, .bool df.up] 27)) W31.heap.size 27 df (.slice p31 n31 c31) := heap_alloc_new W31 _
        have hb : Bel W31 (W31.alloc (.cells #[.int .i64 (df.kind : Int), .int .i64 df.r0, .int .i64 df.r1, .int .i64 df.r2, .int .i64 df.r3, .slice p31 n31 c31, .int .i64 df.sent, .bool df.up] 27)) := (Bel.refl W31).alloc _ _
        have hge : w.heap.size ≤ W31.heap.size := HBW.out.size
        have HNsr : Hid (gs ≠ W31.heap.size) := Lib.hid (by have := lt_of_heap HXs.out; omega)
        generalize hWW : (W31.alloc (.cells #[.int .i64 (df.kind : Int), .int .i64 df.r0, .int .i64 df.r1, .int .i64 df.r2, .int .i64 df.r3, .slice p31 n31 c31, .int .i64 df.sent, .bool df.up] 27)) = W32 at hnew hb ⊢
        clear hWW
        have HBW := Lib.hid (HBW.out.trans hb)
        have HXs := Lib.hid (HXs.out.bel hb)
        have HQs := Lib.hid (HQs.out.bel hb)
        have HQr := Lib.hid (HQr.out.bel hb)
        generalize W31.heap.size = gr at hnew hge HNsr ⊢
        have HXr := Lib.hid hnew
        have HGEr := Lib.hid hge
        clear hnew hb hge
        have HQr := HQr
        obtain ⟨ks0, ks1, ks2, ks3, ks4, ks5, ks6, ks7⟩ := HXs.out.cells
        go_wp2
        go_ret
        exact ⟨rfl, HBW.out⟩
end Go.Proofs.Ytbhpnoodpicdkaa
