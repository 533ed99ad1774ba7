/- mayBeNext. -/
import Derived.Test.YtigefdoejcggpaaNFna
namespace Go.Proofs.Ytigefdoejcggpaa
open Go.RowKit Ax
set_option linter.unusedVariables false
set_option linter.unusedSimpArgs false
set_option maxRecDepth 100000 in
set_option maxHeartbeats 2000000 in
theorem may_lit {w : World} {p : Option Addr} {l : List Ev} {n c gm : Nat} (hl : LAt w p l) (hn : l.length = n) (hnc : n ≤ c) (hmax : n ≤ 8) {h : Nat} {a0 a1 a2 a3 : Int} (hh : h < 256) {i : Nat} (hi : i < n) (hat : 0 ≤ (ev l i).2.2.1 ∧ (ev l i).2.2.1 < 4) {r : Bool} (hr : nextB l ⟨h, a0, a1, a2, a3⟩ i = r) :
    Calls Try.prog 50 #[.agg #[.slice p n c, .map (some gm)], .agg #[.int .i64 (h : Int), .int .i64 a0, .int .i64 a1, .int .i64 a2, .int .i64 a3], .int .i64 (i : Int)] w (OneB r w) := by
  obtain ⟨hb, hx3, hx4⟩ := box2 w #[.slice p n c, .map (some gm)] 55 #[.int .i64 (h : Int), .int .i64 a0, .int .i64 a1, .int .i64 a2, .int .i64 a3] 58
  have HL := Lib.hid (LAt.bel hl hb)
  obtain ⟨b, ol, rfl, hbl, hcl⟩ := LAt.get HL.out (i0 := i) (by omega)
  obtain ⟨-, d1, -, d3⟩ := hcl i (by omega)
  obtain ⟨y1, hy1⟩ : ∃ y, (ev l i).2.1 = y := ⟨_, rfl⟩
  obtain ⟨y3, hy3⟩ : ∃ y, (ev l i).2.2.2 = y := ⟨_, rfl⟩
  rw [hy1] at d1
  rw [hy3] at d3
  have HY1 := Lib.hid hy1
  have HY3 := Lib.hid hy3
  have HAT := Lib.hid hat
  have HR := Lib.hid hr
  have HN := Lib.hid hn
  have HNC := Lib.hid hnc
  have HMX := Lib.hid hmax
  have HM5 : Hid (n ≤ 5000) := Lib.hid (by omega)
  have HI := Lib.hid hi
  have HHH := Lib.hid hh
  have HX3 := Lib.hid hx3
  have HX4 := Lib.hid hx4
  have HB := Lib.hid hb
  have HD1 := Lib.hid d1
  have HD3 := Lib.hid d3
  have HLT := Lib.hid hbl
  have hi2 : (i : Int) < n := by omega
  have HLT0 := HLT
  clear hl hn hnc hi hh hx3 hx4 hb d1 d3 hbl hcl hat hr hy1 hy3
  go_enter Try.func50, Try.ntmps50
  go_upto_region 1 with (fail)
  generalize hWW : ((w.alloc (.cells #[.slice (some ⟨b, ol, none⟩) n c, .map (some gm)] 55)).alloc (.cells #[.int .i64 (h : Int), .int .i64 a0, .int .i64 a1, .int .i64 a2, .int .i64 a3] 58)) = W1 at *
  clear hWW
  generalize w.heap.size + 1 = g4 at HX4 ⊢
  generalize w.heap.size = g3 at HX3 ⊢
  go_wp2
  go_loopw [9] (fun j wr => ∃ k : Nat, k ≤ i ∧ j = .int .i64 k ∧ Hid (Bel W1 wr) ∧ Hid (∀ t : Nat, t < k → isAcc (ev l t) = true → bit ⟨h, a0, a1, a2, a3⟩ t = false → kp l t i = false)) (fun j _ => i - (intOf j).toNat)
  case atStart => exact ⟨0, Nat.zero_le _, rfl, Lib.hid (Bel.refl _), Lib.hid (fun t ht => by omega)⟩
  case round =>
    obtain ⟨k, hk, rfl, HBR, HNO⟩ := hrel
    by_cases hlt : k < i
    · have HLR := Lib.hid (LAt.bel HL.out HBR.out)
      obtain ⟨b', ol', e, -, hcl⟩ := LAt.get HLR.out (i0 := k) (by have := HN.out; have := HI.out; omega)
      injection e with e
      injection e with e1 e2
      subst e1
      subst e2
      obtain ⟨c0, c1, c2, c3⟩ := hcl k (by have := HN.out; have := HI.out; omega)
      have HKN : Hid (k < n) := Lib.hid (by have := HI.out; omega)
      have HK8 : Hid (k < 8) := Lib.hid (by have := HI.out; have := HMX.out; omega)
      have hk2 : (k : Int) < n := by have := HI.out; omega
      have hki : (k : Int) < i := by omega
      obtain ⟨u, hu⟩ : ∃ u, isAcc (ev l k) = u := ⟨_, rfl⟩
      obtain ⟨z, hz⟩ : ∃ z, h.testBit k = z := ⟨_, rfl⟩
      obtain ⟨s, hs⟩ : ∃ s, kp l k i = s := ⟨_, rfl⟩
      have HU2 := Lib.hid hu
      have HZ := Lib.hid hz
      have HS := Lib.hid hs
      have HU : Hid (isAcc ((ev l k).1, (ev l k).2.1, (ev l k).2.2.1, (ev l k).2.2.2) = u) := Lib.hid hu
      generalize (ev l k).1 = x0 at c0 HU
      generalize (ev l k).2.1 = x1 at c1 HU
      generalize (ev l k).2.2.1 = x2 at c2 HU
      generalize (ev l k).2.2.2 = x3 at c3 HU
      have HX3 := Lib.hid (HBR.out.stays HX3.out)
      have HX4 := Lib.hid (HBR.out.stays HX4.out)
      have k30 := cell_of_heap HX3.out 0
      simp only [List.getElem?_toArray, List.getElem?_cons_zero] at k30
      clear hcl hu hs hz
      go_wp2_with fail
      refine (isAcc_lit HU.out _).mono ?_
      rintro e w2 ⟨rfl, hb⟩
      have HB2 := Lib.hid (HBR.out.trans hb)
      have HX3 := Lib.hid (hb.stays HX3.out)
      have HX4 := Lib.hid (hb.stays HX4.out)
      clear k30 c0 c1 c2 c3 hb
      have k40 := cell_of_heap HX4.out 0
      have k41 := cell_of_heap HX4.out 1
      have k42 := cell_of_heap HX4.out 2
      have k43 := cell_of_heap HX4.out 3
      have k44 := cell_of_heap HX4.out 4
      simp only [List.getElem?_toArray, List.getElem?_cons_zero, List.getElem?_cons_succ] at k40 k41 k42 k43 k44
      cases u
      · go_wp2
        exact ⟨⟨k + 1, by omega, by go_num, HB2, Lib.hid (fun t ht ha hb => by
          by_cases e : t = k
          · subst e; rw [HU2.out] at ha; cases ha
          · exact HNO.out t (by omega) ha hb)⟩, by simp [intOf]; omega⟩
      go_wp2_with fail
      refine (is_lit HHH.out HK8.out HZ.out _).mono ?_
      rintro e w3 ⟨rfl, hb⟩
      have HB2 := Lib.hid (HB2.out.trans hb)
      have HX3 := Lib.hid (hb.stays HX3.out)
      clear hb k40 k41 k42 k43 k44
      have k30 := cell_of_heap HX3.out 0
      simp only [List.getElem?_toArray, List.getElem?_cons_zero] at k30
      cases z
      · go_wp2_with fail
        refine (keeps_lit (LAt.bel HL.out HB2.out) HN.out HNC.out HM5.out HKN.out HI.out HS.out).mono ?_
        rintro e w4 ⟨rfl, hb⟩
        have HB2 := Lib.hid (HB2.out.trans hb)
        clear hb k30
        cases s
        · go_wp2
          exact ⟨⟨k + 1, by omega, by go_num, HB2, Lib.hid (fun t ht ha hb => by
            by_cases e : t = k
            · subst e; exact HS.out
            · exact HNO.out t (by omega) ha hb)⟩, by simp [intOf]; omega⟩
        · obtain rfl : r = false := by
            rw [← HR.out]
            refine Bool.eq_false_iff.2 fun c => ?_
            have := (next_iff.1 c).1 k (by omega) HU2.out HZ.out
            rw [HS.out] at this
            cases this
          go_wp2
          go_ret
          exact ⟨rfl, HB.out.trans HB2.out⟩
      · go_wp2
        exact ⟨⟨k + 1, by omega, by go_num, HB2, Lib.hid (fun t ht ha hb => by
          by_cases e : t = k
          · subst e; rw [show bit ⟨h, a0, a1, a2, a3⟩ t = true from HZ.out] at hb; cases hb
          · exact HNO.out t (by omega) ha hb)⟩, by simp [intOf]; omega⟩
    · obtain rfl : k = i := by omega
      obtain ⟨v, hv⟩ : ∃ v, loadV l ⟨h, a0, a1, a2, a3⟩ k = v := ⟨_, rfl⟩
      have HV := Lib.hid hv
      have hrr : r = (!(decide (y1 = 1)) || decide (y3 = v)) := by
        rw [← HR.out, ← HV.out, ← HY1.out, ← HY3.out]
        rw [Bool.eq_iff_iff, next_iff]
        simp only [Bool.or_eq_true, Bool.not_eq_true', decide_eq_true_eq, decide_eq_false_iff_not]
        refine ⟨fun hh => ?_, fun hh => ⟨HNO.out, fun hl => hh.resolve_left fun c => c hl⟩⟩
        by_cases hl : (ev l k).2.1 = 1
        · exact .inr (hh.2 hl)
        · exact .inl hl
      have HRR := Lib.hid hrr
      have HLT := Lib.hid (Nat.lt_of_lt_of_le HLT.out HBR.out.size)
      have HD1 := Lib.hid ((HBR.out.cell (p := ⟨b, _, none⟩) HLT0.out).trans HD1.out)
      have HD3 := Lib.hid ((HBR.out.cell (p := ⟨b, _, none⟩) HLT0.out).trans HD3.out)
      have HX3 := Lib.hid (HBR.out.stays HX3.out)
      have HX4 := Lib.hid (HBR.out.stays HX4.out)
      have HLR := Lib.hid (LAt.bel HL.out HBR.out)
      clear hrr hv hlt hk
      by_cases hy : y1 = 1
      · have ey : (y1 != 1) = false := by simp [hy]
        have hrr := HRR.out
        rw [decide_eq_true hy] at hrr
        have HRR : Hid ((y3 == v) = r) := Lib.hid (by rw [hrr]; by_cases h : y3 = v <;> simp [h])
        clear hrr hy
        have HKEEP : Hid (∀ w', Bel wr w' → w'.cell? ⟨g3, 0, none⟩ = some (.slice (some ⟨b, ol, none⟩) n c) ∧ w'.cell? ⟨g3, 1, none⟩ = some (.map (some gm)) ∧ w'.cell? ⟨g4, 0, none⟩ = some (.int .i64 (h : Int)) ∧ w'.cell? ⟨g4, 1, none⟩ = some (.int .i64 a0) ∧ w'.cell? ⟨g4, 2, none⟩ = some (.int .i64 a1) ∧ w'.cell? ⟨g4, 3, none⟩ = some (.int .i64 a2) ∧ w'.cell? ⟨g4, 4, none⟩ = some (.int .i64 a3) ∧ w'.cell? ⟨b, ol + k * 4 + 1, none⟩ = some (.int .i64 y1) ∧ w'.cell? ⟨b, ol + k * 4 + 3, none⟩ = some (.int .i64 y3)) := Lib.hid (fun w' hk => ⟨cell_of_heap (hk.stays HX3.out) 0, cell_of_heap (hk.stays HX3.out) 1, cell_of_heap (hk.stays HX4.out) 0, cell_of_heap (hk.stays HX4.out) 1, cell_of_heap (hk.stays HX4.out) 2, cell_of_heap (hk.stays HX4.out) 3, cell_of_heap (hk.stays HX4.out) 4, (hk.cell (p := ⟨b, _, none⟩) HLT.out).trans HD1.out, (hk.cell (p := ⟨b, _, none⟩) HLT.out).trans HD3.out⟩)
        have HBC : Hid (Bel wr wr.drew) := Lib.hid (Bel.refl wr).drew
        go_upto_region 7 with (fail)
        refine wp_region_held_drew (S := (fun w' => w'.cell? ⟨g3, 0, none⟩ = some (.slice (some ⟨b, ol, none⟩) n c) ∧ w'.cell? ⟨g3, 1, none⟩ = some (.map (some gm)) ∧ w'.cell? ⟨g4, 0, none⟩ = some (.int .i64 (h : Int)) ∧ w'.cell? ⟨g4, 1, none⟩ = some (.int .i64 a0) ∧ w'.cell? ⟨g4, 2, none⟩ = some (.int .i64 a1) ∧ w'.cell? ⟨g4, 3, none⟩ = some (.int .i64 a2) ∧ w'.cell? ⟨g4, 4, none⟩ = some (.int .i64 a3) ∧ w'.cell? ⟨b, ol + k * 4 + 1, none⟩ = some (.int .i64 y1) ∧ w'.cell? ⟨b, ol + k * 4 + 3, none⟩ = some (.int .i64 y3))) (by kernel_rfl) (HKEEP.out _ ((Bel.refl wr).drew)) (fun hS0 => ?_)
        refine takeD 32 (i := 0) (v := ?v1) rfl rfl (by kernel_rfl) (by kernel_rfl) (by kernel_rfl) (fun _ _ _ h => h) (by kernel_rfl) ?hy1 hS0 ?rest1
        case hy1 => (intro w0 hSw; obtain ⟨s0, s1, s2, s3, s4, s5, s6, s7, s8⟩ := hSw; first | (go_simp; done) | (go_simp; with_reducible rfl))
        simp only [List.setIfInBounds_toArray, List.set_cons_zero, List.set_cons_succ]
        refine takeD 33 (i := 1) (v := ?v2) rfl rfl (by kernel_rfl) (by kernel_rfl) (by kernel_rfl) (fun _ _ _ h => h) (by kernel_rfl) ?hy2 hS0 ?rest2
        case hy2 => (intro w0 hSw; obtain ⟨s0, s1, s2, s3, s4, s5, s6, s7, s8⟩ := hSw; first | (go_simp; done) | (go_simp; with_reducible rfl))
        simp only [List.setIfInBounds_toArray, List.set_cons_zero, List.set_cons_succ]
        refine takeD 34 (i := 2) (v := ?v3) rfl rfl (by kernel_rfl) (by kernel_rfl) (by kernel_rfl) (fun _ _ _ h => h) (by kernel_rfl) ?hy3 hS0 ?rest3
        case hy3 => (intro w0 hSw; obtain ⟨s0, s1, s2, s3, s4, s5, s6, s7, s8⟩ := hSw; first | (go_simp; done) | (go_simp; with_reducible rfl))
        simp only [List.setIfInBounds_toArray, List.set_cons_zero, List.set_cons_succ]
        refine takeD 35 (i := 3) (v := ?v4) rfl rfl (by kernel_rfl) (by kernel_rfl) (by kernel_rfl) (fun _ _ _ h => h) (by kernel_rfl) ?hy4 hS0 ?rest4
        case hy4 => (intro w0 hSw; obtain ⟨s0, s1, s2, s3, s4, s5, s6, s7, s8⟩ := hSw; first | (go_simp; done) | (go_simp; with_reducible rfl))
        simp only [List.setIfInBounds_toArray, List.set_cons_zero, List.set_cons_succ]
        refine takeD 36 (i := 4) (v := ?v5) rfl rfl (by kernel_rfl) (by kernel_rfl) (by kernel_rfl) (fun _ _ _ h => h) (by kernel_rfl) ?hy5 hS0 ?rest5
        case hy5 => (intro w0 hSw; obtain ⟨s0, s1, s2, s3, s4, s5, s6, s7, s8⟩ := hSw; first | (go_simp; done) | (go_simp; with_reducible rfl))
        simp only [List.setIfInBounds_toArray, List.set_cons_zero, List.set_cons_succ]
        refine takeD 37 (i := 5) (v := ?v6) rfl rfl (by kernel_rfl) (by kernel_rfl) (by kernel_rfl) (fun _ _ _ h => h) (by kernel_rfl) ?hy6 hS0 ?rest6
        case hy6 => (intro w0 hSw; obtain ⟨s0, s1, s2, s3, s4, s5, s6, s7, s8⟩ := hSw; first | (go_simp; done) | (go_simp; with_reducible rfl))
        simp only [List.setIfInBounds_toArray, List.set_cons_zero, List.set_cons_succ]
        refine takeD 38 (i := 6) (v := ?v7) rfl rfl (by kernel_rfl) (by kernel_rfl) (by kernel_rfl) (fun _ _ _ h => h) (by kernel_rfl) ?hy7 hS0 ?rest7
        case hy7 => (intro w0 hSw; obtain ⟨s0, s1, s2, s3, s4, s5, s6, s7, s8⟩ := hSw; first | (go_simp; done) | (go_simp; with_reducible rfl))
        simp only [List.setIfInBounds_toArray, List.set_cons_zero, List.set_cons_succ]
        refine takeD 39 (i := 7) (v := ?v8) rfl rfl (by kernel_rfl) (by kernel_rfl) (by kernel_rfl) (fun _ _ _ h => h) (by kernel_rfl) ?hy8 hS0 ?rest8
        case hy8 => (intro w0 hSw; obtain ⟨s0, s1, s2, s3, s4, s5, s6, s7, s8⟩ := hSw; first | (go_simp; done) | (go_simp; with_reducible rfl))
        simp only [List.setIfInBounds_toArray, List.set_cons_zero, List.set_cons_succ]
        refine takeD 40 (i := 8) (v := ?v9) rfl rfl (by kernel_rfl) (by kernel_rfl) (by kernel_rfl) (fun _ _ _ h => h) (by kernel_rfl) ?hy9 hS0 ?rest9
        case hy9 => (intro w0 hSw; obtain ⟨s0, s1, s2, s3, s4, s5, s6, s7, s8⟩ := hSw; first | (go_simp; done) | (go_simp; with_reducible rfl))
        simp only [List.setIfInBounds_toArray, List.set_cons_zero, List.set_cons_succ]
        refine takeD 41 (i := 9) (v := ?v10) rfl rfl (by kernel_rfl) (by kernel_rfl) (by kernel_rfl) (fun _ _ _ h => h) (by kernel_rfl) ?hy10 hS0 ?rest10
        case hy10 => (intro w0 hSw; obtain ⟨s0, s1, s2, s3, s4, s5, s6, s7, s8⟩ := hSw; first | (go_simp; done) | (go_simp; with_reducible rfl))
        simp only [List.setIfInBounds_toArray, List.set_cons_zero, List.set_cons_succ]
        refine takeD 42 (i := 10) (v := ?v11) rfl rfl (by kernel_rfl) (by kernel_rfl) (by kernel_rfl) (fun _ _ _ h => h) (by kernel_rfl) ?hy11 hS0 ?rest11
        case hy11 => (intro w0 hSw; obtain ⟨s0, s1, s2, s3, s4, s5, s6, s7, s8⟩ := hSw; first | (go_simp; done) | (go_simp; with_reducible rfl))
        simp only [List.setIfInBounds_toArray, List.set_cons_zero, List.set_cons_succ]
        refine takeD 43 (i := 11) (v := ?v12) rfl rfl (by kernel_rfl) (by kernel_rfl) (by kernel_rfl) (fun _ _ _ h => h) (by kernel_rfl) ?hy12 hS0 ?rest12
        case hy12 => (intro w0 hSw; obtain ⟨s0, s1, s2, s3, s4, s5, s6, s7, s8⟩ := hSw; first | (go_simp; done) | (go_simp; with_reducible rfl))
        simp only [List.setIfInBounds_toArray, List.set_cons_zero, List.set_cons_succ]
        refine takeD 44 (i := 12) (v := ?v13) rfl rfl (by kernel_rfl) (by kernel_rfl) (by kernel_rfl) (fun _ _ _ h => h) (by kernel_rfl) ?hy13 hS0 ?rest13
        case hy13 => (intro w0 hSw; obtain ⟨s0, s1, s2, s3, s4, s5, s6, s7, s8⟩ := hSw; first | (go_simp; done) | (go_simp; with_reducible rfl))
        simp only [List.setIfInBounds_toArray, List.set_cons_zero, List.set_cons_succ]
        refine takeD 45 (i := 13) (v := ?v14) rfl rfl (by kernel_rfl) (by kernel_rfl) (by kernel_rfl) (fun _ _ _ h => h) (by kernel_rfl) ?hy14 hS0 ?rest14
        case hy14 => (intro w0 hSw; obtain ⟨s0, s1, s2, s3, s4, s5, s6, s7, s8⟩ := hSw; first | (go_simp; done) | (go_simp; with_reducible rfl))
        simp only [List.setIfInBounds_toArray, List.set_cons_zero, List.set_cons_succ]
        refine takeD 46 (i := 14) (v := ?v15) rfl rfl (by kernel_rfl) (by kernel_rfl) (by kernel_rfl) (fun _ _ _ h => h) (by kernel_rfl) ?hy15 hS0 ?rest15
        case hy15 => (intro w0 hSw; obtain ⟨s0, s1, s2, s3, s4, s5, s6, s7, s8⟩ := hSw; first | (go_simp; done) | (go_simp; with_reducible rfl))
        simp only [List.setIfInBounds_toArray, List.set_cons_zero, List.set_cons_succ]
        refine takeD 47 (i := 15) (v := ?v16) rfl rfl (by kernel_rfl) (by kernel_rfl) (by kernel_rfl) (fun _ _ _ h => h) (by kernel_rfl) ?hy16 hS0 ?rest16
        case hy16 => (intro w0 hSw; obtain ⟨s0, s1, s2, s3, s4, s5, s6, s7, s8⟩ := hSw; first | (go_simp; done) | (go_simp; with_reducible rfl))
        simp only [List.setIfInBounds_toArray, List.set_cons_zero, List.set_cons_succ]
        refine takeD 48 (i := 16) (v := ?v17) rfl rfl (by kernel_rfl) (by kernel_rfl) (by kernel_rfl) (fun _ _ _ h => h) (by kernel_rfl) ?hy17 hS0 ?rest17
        case hy17 => (intro w0 hSw; obtain ⟨s0, s1, s2, s3, s4, s5, s6, s7, s8⟩ := hSw; first | (go_simp; done) | (go_simp; with_reducible rfl))
        simp only [List.setIfInBounds_toArray, List.set_cons_zero, List.set_cons_succ]
        refine onlyD 49 (i := 17) rfl rfl (by kernel_rfl) (by kernel_rfl) (fun K hK => ?_)
        go_simp
        go_at_call 53
        refine (loaded_lit (c := c) (gm := gm) (LAt.bel HLR.out ((Bel.refl wr).drew)) HN.out HMX.out HHH.out HI.out HAT.out HV.out).mono ?_
        rintro e whb11 ⟨rfl, hb11⟩
        have hS1 := HKEEP.out _ (((Bel.refl wr).drew).trans hb11)
        refine hK.out _ _ hS1 (fun _ => ?_)
        clear hK K
        simp only [List.setIfInBounds_toArray, List.set_cons_zero, List.set_cons_succ]
        refine takeD 50 (i := 18) (v := ?v18) rfl rfl (by kernel_rfl) (by kernel_rfl) (by kernel_rfl) (fun _ _ _ h => h) (by kernel_rfl) ?hy18 hS1 ?rest18
        case hy18 => (intro w0 hSw; obtain ⟨s0, s1, s2, s3, s4, s5, s6, s7, s8⟩ := hSw; first | (go_simp; done) | (go_simp; with_reducible rfl))
        simp only [List.setIfInBounds_toArray, List.set_cons_zero, List.set_cons_succ]
        refine takeD 51 (i := 19) (v := ?v19) rfl rfl (by kernel_rfl) (by kernel_rfl) (by kernel_rfl) (fun _ _ _ h => h) (by kernel_rfl) ?hy19 hS1 ?rest19
        case hy19 => (intro w0 hSw; obtain ⟨s0, s1, s2, s3, s4, s5, s6, s7, s8⟩ := hSw; first | (go_simp; done) | (go_simp; with_reducible rfl))
        simp only [List.setIfInBounds_toArray, List.set_cons_zero, List.set_cons_succ]
        refine takeD 6 (i := 20) (v := ?v20) rfl rfl (by kernel_rfl) (by kernel_rfl) (by kernel_rfl) (fun _ _ _ h => h) (by kernel_rfl) ?hy20 hS1 ?rest20
        case hy20 => (intro w0 hSw; obtain ⟨s0, s1, s2, s3, s4, s5, s6, s7, s8⟩ := hSw; first | (go_simp; done) | (go_simp; with_reducible rfl))
        simp only [List.setIfInBounds_toArray, List.set_cons_zero, List.set_cons_succ]
        refine wpAnyH_done (by kernel_rfl) ?_ _
        have HBC := Lib.hid (((Bel.refl wr).drew).trans hb11)
        clear hb11 hS0 hS1
        go_wp2
        go_ret
        exact ⟨rb HRR.out, HB.out.trans (HBR.out.trans HBC.out)⟩
      · have ey : (y1 != 1) = true := by simp [hy]
        obtain rfl : r = true := by rw [HRR.out, decide_eq_false hy]; rfl
        clear hy
        have HKEEP : Hid (∀ w', Bel wr w' → w'.cell? ⟨g3, 0, none⟩ = some (.slice (some ⟨b, ol, none⟩) n c) ∧ w'.cell? ⟨g3, 1, none⟩ = some (.map (some gm)) ∧ w'.cell? ⟨g4, 0, none⟩ = some (.int .i64 (h : Int)) ∧ w'.cell? ⟨g4, 1, none⟩ = some (.int .i64 a0) ∧ w'.cell? ⟨g4, 2, none⟩ = some (.int .i64 a1) ∧ w'.cell? ⟨g4, 3, none⟩ = some (.int .i64 a2) ∧ w'.cell? ⟨g4, 4, none⟩ = some (.int .i64 a3) ∧ w'.cell? ⟨b, ol + k * 4 + 1, none⟩ = some (.int .i64 y1) ∧ w'.cell? ⟨b, ol + k * 4 + 3, none⟩ = some (.int .i64 y3)) := Lib.hid (fun w' hk => ⟨cell_of_heap (hk.stays HX3.out) 0, cell_of_heap (hk.stays HX3.out) 1, cell_of_heap (hk.stays HX4.out) 0, cell_of_heap (hk.stays HX4.out) 1, cell_of_heap (hk.stays HX4.out) 2, cell_of_heap (hk.stays HX4.out) 3, cell_of_heap (hk.stays HX4.out) 4, (hk.cell (p := ⟨b, _, none⟩) HLT.out).trans HD1.out, (hk.cell (p := ⟨b, _, none⟩) HLT.out).trans HD3.out⟩)
        have HBC : Hid (Bel wr wr.drew) := Lib.hid (Bel.refl wr).drew
        go_upto_region 7 with (fail)
        refine wp_region_held_drew (S := (fun w' => w'.cell? ⟨g3, 0, none⟩ = some (.slice (some ⟨b, ol, none⟩) n c) ∧ w'.cell? ⟨g3, 1, none⟩ = some (.map (some gm)) ∧ w'.cell? ⟨g4, 0, none⟩ = some (.int .i64 (h : Int)) ∧ w'.cell? ⟨g4, 1, none⟩ = some (.int .i64 a0) ∧ w'.cell? ⟨g4, 2, none⟩ = some (.int .i64 a1) ∧ w'.cell? ⟨g4, 3, none⟩ = some (.int .i64 a2) ∧ w'.cell? ⟨g4, 4, none⟩ = some (.int .i64 a3) ∧ w'.cell? ⟨b, ol + k * 4 + 1, none⟩ = some (.int .i64 y1) ∧ w'.cell? ⟨b, ol + k * 4 + 3, none⟩ = some (.int .i64 y3))) (by kernel_rfl) (HKEEP.out _ ((Bel.refl wr).drew)) (fun hS0 => ?_)
        refine takeD 32 (i := 0) (v := ?v21) rfl rfl (by kernel_rfl) (by kernel_rfl) (by kernel_rfl) (fun _ _ _ h => h) (by kernel_rfl) ?hy21 hS0 ?rest21
        case hy21 => (intro w0 hSw; obtain ⟨s0, s1, s2, s3, s4, s5, s6, s7, s8⟩ := hSw; first | (go_simp; done) | (go_simp; with_reducible rfl))
        simp only [List.setIfInBounds_toArray, List.set_cons_zero, List.set_cons_succ]
        refine takeD 33 (i := 1) (v := ?v22) rfl rfl (by kernel_rfl) (by kernel_rfl) (by kernel_rfl) (fun _ _ _ h => h) (by kernel_rfl) ?hy22 hS0 ?rest22
        case hy22 => (intro w0 hSw; obtain ⟨s0, s1, s2, s3, s4, s5, s6, s7, s8⟩ := hSw; first | (go_simp; done) | (go_simp; with_reducible rfl))
        simp only [List.setIfInBounds_toArray, List.set_cons_zero, List.set_cons_succ]
        refine takeD 34 (i := 2) (v := ?v23) rfl rfl (by kernel_rfl) (by kernel_rfl) (by kernel_rfl) (fun _ _ _ h => h) (by kernel_rfl) ?hy23 hS0 ?rest23
        case hy23 => (intro w0 hSw; obtain ⟨s0, s1, s2, s3, s4, s5, s6, s7, s8⟩ := hSw; first | (go_simp; done) | (go_simp; with_reducible rfl))
        simp only [List.setIfInBounds_toArray, List.set_cons_zero, List.set_cons_succ]
        refine takeD 35 (i := 3) (v := ?v24) rfl rfl (by kernel_rfl) (by kernel_rfl) (by kernel_rfl) (fun _ _ _ h => h) (by kernel_rfl) ?hy24 hS0 ?rest24
        case hy24 => (intro w0 hSw; obtain ⟨s0, s1, s2, s3, s4, s5, s6, s7, s8⟩ := hSw; first | (go_simp; done) | (go_simp; with_reducible rfl))
        simp only [List.setIfInBounds_toArray, List.set_cons_zero, List.set_cons_succ]
        refine takeD 36 (i := 4) (v := ?v25) rfl rfl (by kernel_rfl) (by kernel_rfl) (by kernel_rfl) (fun _ _ _ h => h) (by kernel_rfl) ?hy25 hS0 ?rest25
        case hy25 => (intro w0 hSw; obtain ⟨s0, s1, s2, s3, s4, s5, s6, s7, s8⟩ := hSw; first | (go_simp; done) | (go_simp; with_reducible rfl))
        simp only [List.setIfInBounds_toArray, List.set_cons_zero, List.set_cons_succ]
        refine takeD 37 (i := 5) (v := ?v26) rfl rfl (by kernel_rfl) (by kernel_rfl) (by kernel_rfl) (fun _ _ _ h => h) (by kernel_rfl) ?hy26 hS0 ?rest26
        case hy26 => (intro w0 hSw; obtain ⟨s0, s1, s2, s3, s4, s5, s6, s7, s8⟩ := hSw; first | (go_simp; done) | (go_simp; with_reducible rfl))
        simp only [List.setIfInBounds_toArray, List.set_cons_zero, List.set_cons_succ]
        refine takeD 38 (i := 6) (v := ?v27) rfl rfl (by kernel_rfl) (by kernel_rfl) (by kernel_rfl) (fun _ _ _ h => h) (by kernel_rfl) ?hy27 hS0 ?rest27
        case hy27 => (intro w0 hSw; obtain ⟨s0, s1, s2, s3, s4, s5, s6, s7, s8⟩ := hSw; first | (go_simp; done) | (go_simp; with_reducible rfl))
        simp only [List.setIfInBounds_toArray, List.set_cons_zero, List.set_cons_succ]
        refine takeD 39 (i := 7) (v := ?v28) rfl rfl (by kernel_rfl) (by kernel_rfl) (by kernel_rfl) (fun _ _ _ h => h) (by kernel_rfl) ?hy28 hS0 ?rest28
        case hy28 => (intro w0 hSw; obtain ⟨s0, s1, s2, s3, s4, s5, s6, s7, s8⟩ := hSw; first | (go_simp; done) | (go_simp; with_reducible rfl))
        simp only [List.setIfInBounds_toArray, List.set_cons_zero, List.set_cons_succ]
        refine skipD 40 (i := 8) rfl rfl (by kernel_rfl) (by kernel_rfl) (by kernel_rfl) (fun _ _ _ h => h) (by kernel_rfl) hS0 ?_
        simp only [List.setIfInBounds_toArray, List.set_cons_zero, List.set_cons_succ]
        refine skipD 41 (i := 9) rfl rfl (by kernel_rfl) (by kernel_rfl) (by kernel_rfl) (fun _ _ _ h => h) (by kernel_rfl) hS0 ?_
        simp only [List.setIfInBounds_toArray, List.set_cons_zero, List.set_cons_succ]
        refine skipD 42 (i := 10) rfl rfl (by kernel_rfl) (by kernel_rfl) (by kernel_rfl) (fun _ _ _ h => h) (by kernel_rfl) hS0 ?_
        simp only [List.setIfInBounds_toArray, List.set_cons_zero, List.set_cons_succ]
        refine skipD 43 (i := 11) rfl rfl (by kernel_rfl) (by kernel_rfl) (by kernel_rfl) (fun _ _ _ h => h) (by kernel_rfl) hS0 ?_
        simp only [List.setIfInBounds_toArray, List.set_cons_zero, List.set_cons_succ]
        refine skipD 44 (i := 12) rfl rfl (by kernel_rfl) (by kernel_rfl) (by kernel_rfl) (fun _ _ _ h => h) (by kernel_rfl) hS0 ?_
        simp only [List.setIfInBounds_toArray, List.set_cons_zero, List.set_cons_succ]
        refine skipD 45 (i := 13) rfl rfl (by kernel_rfl) (by kernel_rfl) (by kernel_rfl) (fun _ _ _ h => h) (by kernel_rfl) hS0 ?_
        simp only [List.setIfInBounds_toArray, List.set_cons_zero, List.set_cons_succ]
        refine skipD 46 (i := 14) rfl rfl (by kernel_rfl) (by kernel_rfl) (by kernel_rfl) (fun _ _ _ h => h) (by kernel_rfl) hS0 ?_
        simp only [List.setIfInBounds_toArray, List.set_cons_zero, List.set_cons_succ]
        refine skipD 47 (i := 15) rfl rfl (by kernel_rfl) (by kernel_rfl) (by kernel_rfl) (fun _ _ _ h => h) (by kernel_rfl) hS0 ?_
        simp only [List.setIfInBounds_toArray, List.set_cons_zero, List.set_cons_succ]
        refine skipD 48 (i := 16) rfl rfl (by kernel_rfl) (by kernel_rfl) (by kernel_rfl) (fun _ _ _ h => h) (by kernel_rfl) hS0 ?_
        simp only [List.setIfInBounds_toArray, List.set_cons_zero, List.set_cons_succ]
        refine skipD 49 (i := 17) rfl rfl (by kernel_rfl) (by kernel_rfl) (by kernel_rfl) (fun _ _ _ h => h) (by kernel_rfl) hS0 ?_
        simp only [List.setIfInBounds_toArray, List.set_cons_zero, List.set_cons_succ]
        refine skipD 50 (i := 18) rfl rfl (by kernel_rfl) (by kernel_rfl) (by kernel_rfl) (fun _ _ _ h => h) (by kernel_rfl) hS0 ?_
        simp only [List.setIfInBounds_toArray, List.set_cons_zero, List.set_cons_succ]
        refine takeD 51 (i := 19) (v := ?v29) rfl rfl (by kernel_rfl) (by kernel_rfl) (by kernel_rfl) (fun _ _ _ h => h) (by kernel_rfl) ?hy29 hS0 ?rest29
        case hy29 => (intro w0 hSw; obtain ⟨s0, s1, s2, s3, s4, s5, s6, s7, s8⟩ := hSw; first | (go_simp; done) | (go_simp; with_reducible rfl))
        simp only [List.setIfInBounds_toArray, List.set_cons_zero, List.set_cons_succ]
        refine takeD 6 (i := 20) (v := ?v30) rfl rfl (by kernel_rfl) (by kernel_rfl) (by kernel_rfl) (fun _ _ _ h => h) (by kernel_rfl) ?hy30 hS0 ?rest30
        case hy30 => (intro w0 hSw; obtain ⟨s0, s1, s2, s3, s4, s5, s6, s7, s8⟩ := hSw; first | (go_simp; done) | (go_simp; with_reducible rfl))
        simp only [List.setIfInBounds_toArray, List.set_cons_zero, List.set_cons_succ]
        refine wpAnyH_done (by kernel_rfl) ?_ _
        have HBC := Lib.hid ((Bel.refl wr).drew)
        clear hS0
        go_wp2
        go_ret
        exact ⟨rfl, HB.out.trans (HBR.out.trans HBC.out)⟩
end Go.Proofs.Ytigefdoejcggpaa
