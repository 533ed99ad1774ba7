/- The walk of CodeMoves. -/
import Derived.Test.YtphnagkicboglaaMovP
namespace Go.Proofs.Ytphnagkicboglaa
open Go.RowKit Rv
set_option linter.unusedVariables false
set_option linter.unusedSimpArgs false
theorem reads_row {i_o i_d i_a i_b i_n : Int} {l : List Int} (hw : Ins.wf ⟨i_o, i_d, i_a, i_b, i_n⟩) (h : readsL ⟨i_o, i_d, i_a, i_b, i_n⟩ = l) (w : World) :
    Calls Try.prog 20 #[.agg #[.int .i64 i_o, .int .i64 i_d, .int .i64 i_a, .int .i64 i_b, .int .i64 i_n]] w (IntRow l w) := by
  subst h
  exact reads_is ⟨i_o, i_d, i_a, i_b, i_n⟩ w hw
set_option maxRecDepth 100000 in
set_option maxHeartbeats 8000000 in
theorem moves_x (i_o i_d i_a i_b i_n x_o x_d x_a x_b x_n p q s t sd sa sb : Int) (l : List Int) (h1 : Ins.wf ⟨i_o, i_d, i_a, i_b, i_n⟩) (p1 : -9223372036854775808 ≤ p) (p2 : p ≤ 9223372036854775807) (q1 : -9223372036854775808 ≤ q) (q2 : q ≤ 9223372036854775807)
    (HX : Hid (fit ⟨i_o, i_d, i_a, i_b, i_n⟩ = ⟨x_o, x_d, x_a, x_b, x_n⟩)) (wx : Ins.wf ⟨x_o, x_d, x_a, x_b, x_n⟩) (wy : Ins.wf ⟨x_o, sd, sa, sb, x_n⟩)
    (HS : Hid (pick p 31 = s)) (s0 : 0 ≤ s) (s1 : s < 31) (HT : Hid (pick q 31 = t)) (t0 : 0 ≤ t) (t1 : t < 31)
    (Hd : Hid (sw (1 + s) (1 + t) x_d = sd)) (Ha : Hid (sw (1 + s) (1 + t) x_a = sa)) (Hb : Hid (sw (1 + s) (1 + t) x_b = sb))
    (HY : Hid (right ⟨x_o, sd, sa, sb, x_n⟩ = true)) (HL : Hid (readsL ⟨x_o, x_d, x_a, x_b, x_n⟩ = l)) (HM : Hid (readsL ⟨x_o, sd, sa, sb, x_n⟩ = l.map (sw (1 + s) (1 + t)))) (l2 : l.length ≤ 2)
    (hA : AwakeIs) (w : World) :
    Calls Try.prog 10 #[.agg #[.int .i64 i_o, .int .i64 i_d, .int .i64 i_a, .int .i64 i_b, .int .i64 i_n], .int .i64 p, .int .i64 q] w fun e w' => e = .returned (.bool true) ∧ Both w w' := by
  have WX := Lib.hid wx
  have WY := Lib.hid wy
  clear wx wy
  go_enter Try.func10, Try.ntmps10
  go_wp2_with fail
  refine (hA _).mono ?_
  rintro e W1 ⟨rfl, hb⟩
  have sI := (Has5.new w 23 _ _ _ _ _).both hb
  have B1 := Lib.hid (Both.trans ((Both.refl w).alloc _ _) hb)
  clear hb
  obtain ⟨l0, c0, c1, c2, c3, c4⟩ := sI
  go_wp2_with fail
  refine (fit_lit h1 HX.out _).mono ?_
  rintro e W2 ⟨rfl, hb⟩
  clear l0 c0 c1 c2 c3 c4
  have B2 := Lib.hid (B1.out.trans hb)
  clear hb B1
  go_wp2_with fail
  refine (pick_lit p1 p2 (by omega) HS.out _).mono ?_
  rintro e w' ⟨rfl, rfl⟩
  go_wp2_with fail
  refine (pick_lit q1 q2 (by omega) HT.out _).mono ?_
  rintro e w' ⟨rfl, rfl⟩
  obtain ⟨a, ha⟩ : ∃ a, 1 + s = a := ⟨_, rfl⟩
  obtain ⟨b, hb⟩ : ∃ b, 1 + t = b := ⟨_, rfl⟩
  go_upto_region 6 with (fail)
  have HD' : Hid (sw a b x_d = sd) := by rw [← ha, ← hb]; exact Hd
  have HA' : Hid (sw a b x_a = sa) := by rw [← ha, ← hb]; exact Ha
  have HB' : Hid (sw a b x_b = sb) := by rw [← ha, ← hb]; exact Hb
  have HM' : Hid (readsL ⟨x_o, sd, sa, sb, x_n⟩ = l.map (sw a b)) := by rw [← ha, ← hb]; exact HM
  have a0 : 1 ≤ a ∧ a ≤ 31 := by omega
  have b0 : 1 ≤ b ∧ b ≤ 31 := by omega
  clear ha hb Hd Ha Hb HM
  obtain ⟨a0, a1⟩ := a0
  obtain ⟨b0, b1⟩ := b0
  have hT : TurnW w ((W2.alloc (.cells #[.int .i64 x_o, .int .i64 x_d, .int .i64 x_a, .int .i64 x_b, .int .i64 x_n] 23)).alloc (.cells #[.int .i64 x_d, .int .i64 x_a, .int .i64 x_b] 3)) W2.heap.size (W2.heap.size + 1) #[.int .i64 x_o, .int .i64 x_d, .int .i64 x_a, .int .i64 x_b, .int .i64 x_n] x_d x_a x_b := by
    have z1 : (W2.alloc (.cells #[.int .i64 x_o, .int .i64 x_d, .int .i64 x_a, .int .i64 x_b, .int .i64 x_n] 23)).heap.size = W2.heap.size + 1 := by simp
    have z2 := B2.out.1.size
    refine ⟨(B2.out.alloc _ _).alloc _ _, ?_, ?_, by omega, by omega⟩
    · exact (heap_alloc_old _ _ (by rw [z1]; omega)).trans (heap_alloc_new _ _)
    · rw [← z1]
      exact heap_alloc_new _ _
  generalize (W2.alloc (.cells #[.int .i64 x_o, .int .i64 x_d, .int .i64 x_a, .int .i64 x_b, .int .i64 x_n] 23)).alloc (.cells #[.int .i64 x_d, .int .i64 x_a, .int .i64 x_b] 3) = W3 at hT ⊢
  generalize W2.heap.size = xb at hT ⊢
  generalize xb + 1 = tb at hT ⊢
  have HTW := Lib.hid hT
  clear hT B2
  go_wp2_with fail
  go_loopw [12] (fun i wr => ∃ k : Nat, k ≤ 3 ∧ i = .int .i64 k ∧ ∃ u0 u1 u2, TurnW w wr xb tb #[.int .i64 x_o, .int .i64 x_d, .int .i64 x_a, .int .i64 x_b, .int .i64 x_n] u0 u1 u2 ∧ Hid (tup a b x_d x_a x_b k u0 u1 u2)) (fun i _ => 3 - (intOf i).toNat)
  case atStart => exact ⟨0, by omega, rfl, _, _, _, HTW.out, ⟨rfl, rfl, rfl⟩⟩
  case round =>
    obtain ⟨k, hk, rfl, u0, u1, u2, hT, HU⟩ := hrel
    have HT := Lib.hid hT
    clear hT
    by_cases hlt : k < 3
    · obtain ⟨v, hv, hput, hkeep⟩ := HT.out.turn hlt HU.out
      have hfz := frozen_of_heap HT.out.ht k
      have HPUT := Lib.hid hput
      have HKEEP := Lib.hid hkeep
      clear hput hkeep
      have hlt' : (k : Int) < 3 := by omega
      by_cases e1 : v = a
      · obtain ⟨n0, n1, n2, hN, hU⟩ := HPUT.out b (by unfold sw; rw [if_pos e1])
        have HN := Lib.hid hN
        have HU' := Lib.hid hU
        clear hN hU
        subst e1
        go_wp2
        go_roundw
        case rel => exact ⟨k + 1, by omega, by go_num, _, _, _, HN.out, HU'⟩
        case measure => simp [intOf]; omega
      · by_cases e2 : v = b
        · obtain ⟨n0, n1, n2, hN, hU⟩ := HPUT.out a (by unfold sw; rw [if_neg e1, if_pos e2])
          have HN := Lib.hid hN
          have HU' := Lib.hid hU
          clear hN hU
          subst e2
          have e1' : (v == a) = false := by simpa using e1
          clear e1
          go_wp2
          go_roundw
          case rel => exact ⟨k + 1, by omega, by go_num, _, _, _, HN.out, HU'⟩
          case measure => simp [intOf]; omega
        · have HU' := Lib.hid (HKEEP.out (by unfold sw; rw [if_neg e1, if_neg e2]))
          have e1' : (v == a) = false := by simpa using e1
          have e2' : (v == b) = false := by simpa using e2
          clear e1 e2
          go_wp2
          go_roundw
          case rel => exact ⟨k + 1, by omega, by go_num, _, _, _, HT.out, HU'⟩
          case measure => simp [intOf]; omega
    · obtain rfl : k = 3 := by omega
      obtain ⟨v0, v1, v2⟩ := HU.out
      rw [if_pos (by omega), HD'.out] at v0
      rw [if_pos (by omega), HA'.out] at v1
      rw [if_pos (by omega), HB'.out] at v2
      subst v0 v1 v2
      clear HU HTW
      have BW := Lib.hid HT.out.both
      have hxl : xb < wr.heap.size := by
        refine Nat.lt_of_not_le fun hge => ?_
        have := HT.out.hx
        rw [Array.getElem?_eq_none hge] at this
        cases this
      have htl : tb < wr.heap.size := by
        refine Nat.lt_of_not_le fun hge => ?_
        have := HT.out.ht
        rw [Array.getElem?_eq_none hge] at this
        cases this
      have hkeep : ∀ w', Both wr w' → w'.cell? ⟨xb, 0, none⟩ = some (.int .i64 x_o) ∧ w'.cell? ⟨xb, 1, none⟩ = some (.int .i64 x_d) ∧ w'.cell? ⟨xb, 2, none⟩ = some (.int .i64 x_a) ∧ w'.cell? ⟨xb, 3, none⟩ = some (.int .i64 x_b) ∧ w'.cell? ⟨xb, 4, none⟩ = some (.int .i64 x_n) ∧
          w'.cell? ⟨tb, 0, none⟩ = some (.int .i64 u0) ∧ w'.cell? ⟨tb, 1, none⟩ = some (.int .i64 u1) ∧ w'.cell? ⟨tb, 2, none⟩ = some (.int .i64 u2) := fun w' h =>
        have hX := (h.1.block xb hxl).trans HT.out.hx
        have hQ := (h.1.block tb htl).trans HT.out.ht
        ⟨cell_of_heap hX 0, cell_of_heap hX 1, cell_of_heap hX 2, cell_of_heap hX 3, cell_of_heap hX 4, cell_of_heap hQ 0, cell_of_heap hQ 1, cell_of_heap hQ 2⟩
      have HKEEP := Lib.hid hkeep
      clear hkeep hxl htl HT
      go_wp2_with fail
      go_region_held3 (fun w' => w'.cell? ⟨xb, 0, none⟩ = some (.int .i64 x_o) ∧ w'.cell? ⟨xb, 1, none⟩ = some (.int .i64 x_d) ∧ w'.cell? ⟨xb, 2, none⟩ = some (.int .i64 x_a) ∧ w'.cell? ⟨xb, 3, none⟩ = some (.int .i64 x_b) ∧ w'.cell? ⟨xb, 4, none⟩ = some (.int .i64 x_n) ∧
          w'.cell? ⟨tb, 0, none⟩ = some (.int .i64 u0) ∧ w'.cell? ⟨tb, 1, none⟩ = some (.int .i64 u1) ∧ w'.cell? ⟨tb, 2, none⟩ = some (.int .i64 u2))
        (first | exact HKEEP.out _ ((Both.refl _).drew) | exact HKEEP.out _ ((Both.refl _).drew.alloc _ _) | exact HKEEP.out _ (((Both.refl _).alloc _ _).drew))
        (first | fail)
      rename_i hh
      clear hh
      have hry : ((wr.alloc (.cells #[.int .i64 x_o, .int .i64 u0, .int .i64 u1, .int .i64 u2, .int .i64 x_n] 23)).drew).heap[wr.heap.size]? = some (.cells #[.int .i64 x_o, .int .i64 u0, .int .i64 u1, .int .i64 u2, .int .i64 x_n] 23 (0, 0)) := heap_alloc_new _ _
      have hB4 : Both wr ((wr.alloc (.cells #[.int .i64 x_o, .int .i64 u0, .int .i64 u1, .int .i64 u2, .int .i64 x_n] 23)).drew) := ((Both.refl _).alloc _ _).drew
      have hsy : wr.heap.size < ((wr.alloc (.cells #[.int .i64 x_o, .int .i64 u0, .int .i64 u1, .int .i64 u2, .int .i64 x_n] 23)).drew).heap.size := by
        show wr.heap.size < (wr.heap.push _).size
        simp
      generalize (wr.alloc (.cells #[.int .i64 x_o, .int .i64 u0, .int .i64 u1, .int .i64 u2, .int .i64 x_n] 23)).drew = W4 at hry hB4 hsy ⊢
      obtain ⟨c0, c1, c2, c3, c4, _, _, _⟩ := HKEEP.out _ hB4
      have B4 := Lib.hid (BW.out.trans hB4)
      have HRY := Lib.hid hry
      clear hry hB4 HKEEP BW
      generalize wr.heap.size = yb at HRY hsy ⊢
      go_wp2_with fail
      refine (reads_row WX.out HL.out _).mono ?_
      intro e W5 hr5
      obtain ⟨pl, cl, he5, hl5, hb5⟩ := hr5
      subst he5
      clear c0 c1 c2 c3 c4
      have HL5 := Lib.hid hl5
      have hry5 := (hb5.1.block yb hsy).trans HRY.out
      have hsy5 : yb < W5.heap.size := Nat.lt_of_lt_of_le hsy hb5.1.size
      have B5 := Lib.hid (B4.out.trans hb5)
      clear hl5 hb5 B4 HRY hsy
      have d0 := cell_of_heap hry5 0
      have d1 := cell_of_heap hry5 1
      have d2 := cell_of_heap hry5 2
      have d3 := cell_of_heap hry5 3
      have d4 := cell_of_heap hry5 4
      simp only [List.getElem?_toArray, List.getElem?_cons_zero, List.getElem?_cons_succ] at d0 d1 d2 d3 d4
      have HRY5 := Lib.hid hry5
      clear hry5
      go_wp2_with fail
      refine (reads_row WY.out HM'.out _).mono ?_
      intro e W6 hr6
      obtain ⟨pm, cm, he6, hm6, hb6⟩ := hr6
      rw [List.length_map] at he6
      subst he6
      clear d0 d1 d2 d3 d4
      have HM6 := Lib.hid hm6
      have HLL : Hid (∀ (j : Nat) x, l[j]? = some x → ∃ b o, pl = some ⟨b, o, none⟩ ∧ b < W6.heap.size ∧ W6.cell? ⟨b, o + j, none⟩ = some (.int .i64 x)) := fun j x hj => by
        obtain ⟨b, o, h1, h2⟩ := HL5.out j x hj
        have hlt : b < W5.heap.size := by
          refine Nat.lt_of_not_le fun hge => ?_
          unfold World.cell? at h2
          simp [Array.getElem?_eq_none hge] at h2
        exact ⟨b, o, h1, Nat.lt_of_lt_of_le hlt hb6.1.size, (hb6.cell (p := ⟨b, o + j, none⟩) hlt).trans h2⟩
      have hry6 := (hb6.1.block yb hsy5).trans HRY5.out
      have hsy6 : yb < W6.heap.size := Nat.lt_of_lt_of_le hsy5 hb6.1.size
      have B6 := Lib.hid (B5.out.trans hb6)
      clear hm6 hb6 B5 HRY5 hsy5 HL5
      have HRY6 := Lib.hid hry6
      clear hry6
      have hkeep : ∀ w', Both W6 w' → w'.cell? ⟨yb, 0, none⟩ = some (.int .i64 x_o) ∧ w'.cell? ⟨yb, 1, none⟩ = some (.int .i64 u0) ∧ w'.cell? ⟨yb, 2, none⟩ = some (.int .i64 u1) ∧ w'.cell? ⟨yb, 3, none⟩ = some (.int .i64 u2) ∧ w'.cell? ⟨yb, 4, none⟩ = some (.int .i64 x_n) := fun w' h =>
        have hX := (h.1.block yb hsy6).trans HRY6.out
        ⟨cell_of_heap hX 0, cell_of_heap hX 1, cell_of_heap hX 2, cell_of_heap hX 3, cell_of_heap hX 4⟩
      have HKEEP := Lib.hid hkeep
      clear hkeep hsy6
      have HWR : Hid ((if right ⟨x_o, u0, u1, u2, x_n⟩ then u0 else 0) = u0) := by rw [HY.out]; rfl
      generalize hn : l.length = n at l2 ⊢
      have HNL := Lib.hid hn
      clear hn
      go_wp2_with fail
      go_region_held3 (fun w' => w'.cell? ⟨yb, 0, none⟩ = some (.int .i64 x_o) ∧ w'.cell? ⟨yb, 1, none⟩ = some (.int .i64 u0) ∧ w'.cell? ⟨yb, 2, none⟩ = some (.int .i64 u1) ∧ w'.cell? ⟨yb, 3, none⟩ = some (.int .i64 u2) ∧ w'.cell? ⟨yb, 4, none⟩ = some (.int .i64 x_n))
        (first | exact HKEEP.out _ (((Both.refl _).drew.trans hb7).trans hb8) | exact HKEEP.out _ ((Both.refl _).drew.trans hb7) | exact HKEEP.out _ ((Both.refl _).drew))
        (first
          | (go_at_call 15; refine (right_val WY.out HY.out _).mono ?_; rintro e w' ⟨rfl, hb7⟩)
          | (go_at_call 22; refine (writes_lit writes_is WY.out HWR.out _).mono ?_; rintro e w' ⟨rfl, hb8⟩))
      rename_i hh
      clear hh
      have H67 : Both W6 w' := ((Both.refl _).drew.trans hb7).trans hb8
      have HLL7 : Hid (∀ (j : Nat) x, l[j]? = some x → ∃ b o, pl = some ⟨b, o, none⟩ ∧ b < w'.heap.size ∧ w'.cell? ⟨b, o + j, none⟩ = some (.int .i64 x)) := fun j x hj => by
        obtain ⟨b, o, h1, hlt, h2⟩ := HLL.out j x hj
        exact ⟨b, o, h1, Nat.lt_of_lt_of_le hlt H67.1.size, (H67.cell (p := ⟨b, o + j, none⟩) hlt).trans h2⟩
      have HMM7 : Hid (∀ (j : Nat) x, (l.map (sw a b))[j]? = some x → ∃ b o, pm = some ⟨b, o, none⟩ ∧ b < w'.heap.size ∧ w'.cell? ⟨b, o + j, none⟩ = some (.int .i64 x)) := fun j x hj => by
        obtain ⟨b, o, h1, h2⟩ := HM6.out j x hj
        have hlt : b < W6.heap.size := by
          refine Nat.lt_of_not_le fun hge => ?_
          unfold World.cell? at h2
          simp [Array.getElem?_eq_none hge] at h2
        exact ⟨b, o, h1, Nat.lt_of_lt_of_le hlt H67.1.size, (H67.cell (p := ⟨b, o + j, none⟩) hlt).trans h2⟩
      have B7 := Lib.hid (B6.out.trans H67)
      clear H67 hb7 hb8 HLL HM6 B6 HKEEP HRY6
      go_wp2_with fail
      go_loopw [16] (fun i wr2 => ∃ k : Nat, k ≤ n ∧ i = .int .i64 k ∧ Both w' wr2) (fun i _ => n - (intOf i).toNat)
      case atStart => exact ⟨0, by omega, rfl, Both.refl _⟩
      case round =>
        obtain ⟨k, hk, rfl, hb9⟩ := hrel
        have B9 := Lib.hid hb9
        clear hb9
        by_cases hlt : k < n
        · have hkl : k < l.length := by rw [HNL.out]; exact hlt
          obtain ⟨v, hv⟩ : ∃ v, l[k]? = some v := ⟨l[k], List.getElem?_eq_getElem hkl⟩
          have hu : (l.map (sw a b))[k]? = some (sw a b v) := by rw [List.getElem?_map, hv]; rfl
          obtain ⟨bl, ol, rfl, ll, cl7⟩ := HLL7.out k v hv
          obtain ⟨bm, om, rfl, lm, cm7⟩ := HMM7.out k _ hu
          have gl := (B9.out.cell (p := ⟨bl, ol + k, none⟩) ll).trans cl7
          have gm := (B9.out.cell (p := ⟨bm, om + k, none⟩) lm).trans cm7
          clear hkl hv hu ll lm cl7 cm7
          have hlt' : (k : Int) < (n : Int) := by omega
          by_cases e1 : v = a
          · have eu : sw a b v = b := by unfold sw; rw [if_pos e1]
            rw [eu] at gm
            clear eu
            subst e1
            by_cases e2 : v = b
            · subst e2
              go_wp2_with fail
              go_quiet (fail)
              go_wp2
              go_roundw
              case rel => exact ⟨k + 1, by omega, by go_num, B9.out.drewN _⟩
              case measure => simp [intOf]; omega
            · have t1 : (v == b) = false := by simpa using e2
              have t2 : (v != b) = true := by simpa using e2
              have t3 : (b == v) = false := by simpa using fun h : b = v => e2 h.symm
              clear e2
              go_wp2_with fail
              go_quiet (fail)
              go_wp2
              go_roundw
              case rel => exact ⟨k + 1, by omega, by go_num, B9.out.drewN _⟩
              case measure => simp [intOf]; omega
          · by_cases e2 : v = b
            · have eu : sw a b v = a := by unfold sw; rw [if_neg e1, if_pos e2]
              rw [eu] at gm
              clear eu
              subst e2
              have t1 : (v == a) = false := by simpa using e1
              have t2 : (v != a) = true := by simpa using e1
              clear e1
              go_wp2_with fail
              go_quiet (fail)
              go_wp2
              go_roundw
              case rel => exact ⟨k + 1, by omega, by go_num, B9.out.drewN _⟩
              case measure => simp [intOf]; omega
            · have eu : sw a b v = v := by unfold sw; rw [if_neg e1, if_neg e2]
              rw [eu] at gm
              have t1 : (v == a) = false := by simpa using e1
              have t2 : (v != a) = true := by simpa using e1
              have t3 : (v == b) = false := by simpa using e2
              have t4 : (v != b) = true := by simpa using e2
              clear e1 e2 eu
              go_wp2_with fail
              go_quiet (fail)
              go_wp2
              go_roundw
              case rel => exact ⟨k + 1, by omega, by go_num, B9.out.drewN _⟩
              case measure => simp [intOf]; omega
        · have hk' : k = n := by omega
          have hge : ¬ (k : Int) < (n : Int) := by omega
          clear hk'
          go_wp2
          go_ret
          exact ⟨rfl, B7.out.trans B9.out⟩
theorem moves_law (i : Ins) (p q : Int) (h1 : Ins.wf i) (hp : inInt p) (hq : inInt q) (hA : AwakeIs) (w : World) :
    Calls Try.prog 10 #[ival i, .int .i64 p, .int .i64 q] w fun e w' => e = .returned (.bool true) ∧ Both w w' := by
  have rx := right_fit i
  obtain ⟨s0, s1⟩ := pick_bd p 31 (by omega)
  obtain ⟨t0, t1⟩ := pick_bd q 31 (by omega)
  have ry := right_turned (a := 1 + pick p 31) (b := 1 + pick q 31) (i := fit i) (by omega) (by omega) (by omega) (by omega) rx
  have rr := reads_turned (a := 1 + pick p 31) (b := 1 + pick q 31) (i := fit i) (by omega) (by omega) (by omega) (by omega) rx
  obtain ⟨i_o, i_d, i_a, i_b, i_n⟩ := i
  exact moves_x i_o i_d i_a i_b i_n (fit ⟨i_o, i_d, i_a, i_b, i_n⟩).op (fit ⟨i_o, i_d, i_a, i_b, i_n⟩).d (fit ⟨i_o, i_d, i_a, i_b, i_n⟩).a (fit ⟨i_o, i_d, i_a, i_b, i_n⟩).b (fit ⟨i_o, i_d, i_a, i_b, i_n⟩).n p q (pick p 31) (pick q 31) _ _ _ (readsL (fit ⟨i_o, i_d, i_a, i_b, i_n⟩)) h1 hp.1 hp.2 hq.1 hq.2 rfl (wf_right rx) (wf_right ry) rfl s0 s1 rfl t0 t1 rfl rfl rfl ry rfl rr (reads_len2 _) hA w
end Go.Proofs.Ytphnagkicboglaa
