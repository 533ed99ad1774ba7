/- Conditional tells true just if the hart has reserved that word, and since then no store of another one went there. -/
import Derived.Test.YtgbcamegidloaaaMOpen
import Derived.Test.YtgbcamegidloaaaMResvP
namespace Go.Proofs.Ytgbcamegidloaaa
open Go.RowKit Mm
set_option linter.unusedVariables false
set_option linter.unusedSimpArgs false
set_option maxRecDepth 100000 in
set_option maxHeartbeats 16000000 in
theorem resv_walk {w : World} {at' other n : Int} {P : Option Addr} {N C : Nat} {raw : List Q4} (hn : raw.length = N) (hQ : TrisQ w P raw) (hN : N ≤ 9223372036854775807) (hia : inInt at') (hio : inInt other) :
    Calls Try.prog 7 #[.slice P N C, .int .i64 at', .int .i64 other, .int .i64 n] w fun e w' => e = .returned (.bool true) ∧ Bel w w' := by
  have HQ0 := Lib.hid hQ
  have HRN := Lib.hid hn
  have h63 := hN
  have HIA := Lib.hid hia
  have HIO := Lib.hid hio
  clear hQ hn hia hio
  obtain ⟨wn, hwn⟩ : ∃ wn : Nat, pick at' 4 = (wn : Int) := ⟨(pick at' 4).toNat, by have := pick_bd at' (n := 4) (by omega); omega⟩
  have HLW : Hid (wn < 4) := Lib.hid (by have := pick_bd at' (n := 4) (by omega); omega)
  have HPW := Lib.hid hwn
  clear hwn
  obtain ⟨on, hon⟩ : ∃ on : Nat, pick other 4 = (on : Int) := ⟨(pick other 4).toNat, by have := pick_bd other (n := 4) (by omega); omega⟩
  have HLO : Hid (on < 4) := Lib.hid (by have := pick_bd other (n := 4) (by omega); omega)
  have HPO := Lib.hid hon
  clear hon
  obtain ⟨m0, m1, x0, hnew, ok0, hres, hrv⟩ := rv_new HLW.out
  have HNEW := Lib.hid hnew
  have HOK0 := Lib.hid ok0
  have HRES := Lib.hid hres
  have HRV0 := Lib.hid hrv
  clear hnew ok0 hres hrv
  have HBW : Hid (Bel w w) := Lib.hid (Bel.refl w)
  go_enter Try.func7, Try.ntmps7
  go_wp2_with fail
  refine (awake_any _).mono ?_
  rintro e W1 ⟨rfl, hb⟩
  have HBW := Lib.hid (HBW.out.trans hb)
  clear hb
  go_wp2_with fail
  refine (new_lit HNEW.out _).mono ?_
  rintro e W2 ⟨u0, rfl, hb, hq⟩
  have HBW := Lib.hid (HBW.out.trans hb)
  have HQu0 : Hid (MemAt 0 W2 u0 m0) := Lib.hid (hq.mono (Nat.zero_le _))
  clear hb hq
  go_upto_region 3 with (fail)
  have hnew : (W2.alloc (.cells #[.slice u0.w.p u0.w.n u0.w.c, .slice u0.p.p u0.p.n u0.p.c, .slice u0.r.p u0.r.n u0.r.c] 27)).heap[W2.heap.size]? = some (.cells #[.slice u0.w.p u0.w.n u0.w.c, .slice u0.p.p u0.p.n u0.p.c, .slice u0.r.p u0.r.n u0.r.c] 27 (0, 0)) := heap_alloc_new W2 _
  have hb : Bel W2 (W2.alloc (.cells #[.slice u0.w.p u0.w.n u0.w.c, .slice u0.p.p u0.p.n u0.p.c, .slice u0.r.p u0.r.n u0.r.c] 27)) := (Bel.refl W2).alloc _ _
  have hge : w.heap.size ≤ W2.heap.size := HBW.out.size
  generalize hWW : (W2.alloc (.cells #[.slice u0.w.p u0.w.n u0.w.c, .slice u0.p.p u0.p.n u0.p.c, .slice u0.r.p u0.r.n u0.r.c] 27)) = W3 at hnew hb ⊢
  clear hWW
  have HBW := Lib.hid (HBW.out.trans hb)
  have HQu0 := Lib.hid (HQu0.out.bel hb)
  generalize W2.heap.size = g10 at hnew hge  ⊢
  have HX10 := Lib.hid hnew
  have HGE10 := Lib.hid hge
  clear hnew hb hge
  have k100 := cell_of_heap HX10.out 0
  have y100 := frozen_of_heap HX10.out 0
  have k101 := cell_of_heap HX10.out 1
  have y101 := frozen_of_heap HX10.out 1
  have k102 := cell_of_heap HX10.out 2
  have y102 := frozen_of_heap HX10.out 2
  simp only [List.getElem?_toArray, List.getElem?_cons_zero, List.getElem?_cons_succ] at k100 k101 k102
  go_upto_region 4 with (go_at_call 15; ((with_reducible refine (pick_lit HPW.out HIA.out (by decide) _).mono ?_); rintro e wq ⟨rfl, rfl⟩))
  go_wp2_with fail
  refine (reserve_lit HQu0.out HOK0.out HRES.out).mono ?_
  rintro e W4 ⟨u, rfl, hb, hq⟩
  clear y100 y101 y102 k100 k101 k102
  have HBW := Lib.hid (HBW.out.trans hb)
  have HX10 := Lib.hid (Bel.stays hb HX10.out)
  have HQu0 := Lib.hid (HQu0.out.bel hb)
  have HQu : Hid (MemAt 0 W4 u m1) := Lib.hid (hq.mono (Nat.zero_le _))
  clear hb hq
  have k100 := cell_of_heap HX10.out 0
  have y100 := frozen_of_heap HX10.out 0
  have k101 := cell_of_heap HX10.out 1
  have y101 := frozen_of_heap HX10.out 1
  have k102 := cell_of_heap HX10.out 2
  have y102 := frozen_of_heap HX10.out 2
  simp only [List.getElem?_toArray, List.getElem?_cons_zero, List.getElem?_cons_succ] at k100 k101 k102
  go_upto_region 5 with (fail)
  clear y100 y101 y102 k100 k101 k102
  have hs3 : Svg g10 W4 (((W4.setCell ⟨g10, 0, none⟩ (.slice u.w.p u.w.n u.w.c)).setCell ⟨g10, 1, none⟩ (.slice u.p.p u.p.n u.p.c)).setCell ⟨g10, 2, none⟩ (.slice u.r.p u.r.n u.r.c)) := set3_svg W4 g10 (.slice u.w.p u.w.n u.w.c) (.slice u.p.p u.p.n u.p.c) (.slice u.r.p u.r.n u.r.c)
  have hh := set3_heap HX10.out (.slice u.w.p u.w.n u.w.c) (.slice u.p.p u.p.n u.p.c) (.slice u.r.p u.r.n u.r.c)
  generalize hWW : (((W4.setCell ⟨g10, 0, none⟩ (.slice u.w.p u.w.n u.w.c)).setCell ⟨g10, 1, none⟩ (.slice u.p.p u.p.n u.p.c)).setCell ⟨g10, 2, none⟩ (.slice u.r.p u.r.n u.r.c)) = W5 at hs3 hh ⊢
  clear hWW
  have HBW := Lib.hid (hs3.bel HBW.out HGE10.out)
  have HQu0 := Lib.hid (HQu0.out.keep hs3 HX10.out (by decide) (by decide) (by decide))
  have HQu := Lib.hid (HQu.out.keep hs3 HX10.out (by decide) (by decide) (by decide))
  have HX10 := Lib.hid hh
  clear hs3 hh
  go_wp2_with fail
  go_loopw [15, 16] (fun tv i wr => ∃ (k : Nat) (m : Mem) (t : Bool) (u : Mv), k ≤ N ∧ k ≤ 20 ∧ tv = .bool t ∧ i = .int .i64 k ∧ Hid (Bel w wr) ∧ Hid (wr.heap[g10]? = some (.cells #[.slice u.w.p u.w.n u.w.c, .slice u.p.p u.p.n u.p.c, .slice u.r.p u.r.n u.r.c] 27 (0, 0))) ∧ Hid (MemAt 0 wr u m) ∧ Hid (Rv m wn t)) (fun _ i _ => 20 - (intOf i).toNat)
  case atStart => exact ⟨0, m1, false, u, Nat.zero_le _, Nat.zero_le _, rfl, rfl, HBW, HX10, HQu, HRV0⟩
  case round =>
    clear HX10 HQu HRV0 HBW
    obtain ⟨k, m, t, u, hkN, hk20, rfl, rfl, HBW, HX10, HQu, HRV⟩ := hrel
    by_cases hlt : k < N
    · by_cases hl4 : k < 20
      · obtain ⟨⟨x1, x2, x3, x4⟩, hx⟩ : ∃ x, raw[k]? = some x := ⟨_, List.getElem?_eq_getElem (by rw [HRN.out]; exact hlt)⟩
        obtain ⟨i1, i2, i3, i4, b, o, rfl, hbl, d0, d1, d2, d3⟩ := HQ0.out k _ hx
        have HI1 := Lib.hid i1
        have HI3 := Lib.hid i3
        have HBL := Lib.hid hbl
        have HC0 := Lib.hid d0
        have HC2 := Lib.hid d2
        have HC3 := Lib.hid d3
        have hlt2 : (k : Int) < N := by omega
        have hl42 : (k : Int) < 20 := by omega
        clear i1 i2 i3 i4 hx hbl d0 d1 d2 d3
        obtain ⟨an, han⟩ : ∃ an : Nat, pick x3 4 = (an : Int) := ⟨(pick x3 4).toNat, by have := pick_bd x3 (n := 4) (by omega); omega⟩
        have HLA : Hid (an < 4) := Lib.hid (by have := pick_bd x3 (n := 4) (by omega); omega)
        have HPA := Lib.hid han
        obtain ⟨kn, hkn⟩ : ∃ kn : Nat, pick x3 8 = (kn : Int) := ⟨(pick x3 8).toNat, by have := pick_bd x3 (n := 8) (by omega); omega⟩
        have HPK := Lib.hid hkn
        clear han hkn
        have c0 := (HBW.out.cell (p := ⟨b, _, none⟩) HBL.out).trans HC0.out
        have c2 := (HBW.out.cell (p := ⟨b, _, none⟩) HBL.out).trans HC2.out
        go_upto_region 10 with (go_at_call 15; ((with_reducible refine (pick_lit HPA.out HI3.out (by decide) _).mono ?_); rintro e wq ⟨rfl, rfl⟩))
        have hkb := pick_bd x1 (n := 4) (by omega)
        have hkc : pick x1 4 = 0 ∨ pick x1 4 = 1 ∨ pick x1 4 = 2 ∨ pick x1 4 = 3 := by omega
        clear hkb
        rcases hkc with hk0 | hk0 | hk0 | hk0
        · have HPI := Lib.hid hk0
          clear hk0
          obtain ⟨m2, r, hr⟩ : ∃ m2 r, storeV m 1 an x4 = (m2, r) := ⟨_, _, rfl⟩
          have HR := Lib.hid hr
          have HS2 := Lib.hid (fun hz => rv_store HRV.out HLA.out hr hz)
          clear hr
          go_upto_region 15 with (go_at_call 15; ((with_reducible refine (pick_lit HPI.out HI1.out (by decide) _).mono ?_); rintro e wq ⟨rfl, rfl⟩))
          clear c0 c2
          go_cut [18, 19] (fun v18 v19 wx => ∃ (g9 : Nat) (v : Mv), v18 = .pointer (some ⟨g9, 0, none⟩) ∧ v19 = .int .i64 r ∧ Hid (Bel wr wx) ∧ Hid (wx.heap[g9]? = some (.cells #[.slice v.w.p v.w.n v.w.c, .slice v.p.p v.p.n v.p.c, .slice v.r.p v.r.n v.r.c] 27 (0, 0))) ∧ Hid (MemAt 0 wx v m2) ∧ Hid (wr.heap.size ≤ g9))
          case first =>
            have HKEEP : Hid (∀ w', Bel wr w' → w'.cell? ⟨g10, 0, none⟩ = some (.slice u.w.p u.w.n u.w.c) ∧ w'.cell? ⟨g10, 1, none⟩ = some (.slice u.p.p u.p.n u.p.c) ∧ w'.cell? ⟨g10, 2, none⟩ = some (.slice u.r.p u.r.n u.r.c) ∧ w'.cell? ⟨b, o + k * 4 + 3, none⟩ = some (.int .i64 x4)) := Lib.hid (fun w' h => by
              have h1 := h.stays HX10.out
              exact ⟨cell_of_heap h1 0, cell_of_heap h1 1, cell_of_heap h1 2, ((HBW.out.trans h).cell (p := ⟨b, _, none⟩) HBL.out).trans HC3.out⟩)
            have HBC : Hid (Bel wr wr.drew) := Lib.hid (Bel.refl wr).drew
            have HSZ : Hid (wr.heap.size ≤ wr.drew.heap.size) := Lib.hid (Nat.le_refl _)
            go_region_held3 (fun w' => w'.cell? ⟨g10, 0, none⟩ = some (.slice u.w.p u.w.n u.w.c) ∧ w'.cell? ⟨g10, 1, none⟩ = some (.slice u.p.p u.p.n u.p.c) ∧ w'.cell? ⟨g10, 2, none⟩ = some (.slice u.r.p u.r.n u.r.c) ∧ w'.cell? ⟨b, o + k * 4 + 3, none⟩ = some (.int .i64 x4))
              (first | exact HKEEP.out _ HBC.out | exact HKEEP.out _ (Bel.refl _) | exact HKEEP.out _ (HBC.out.alloc _ _) | exact HKEEP.out _ ((Bel.refl wr).alloc _ _) | exact HKEEP.out _ ((Bel.refl wr).alloc _ _).drew | exact HKEEP.out _ (Sv.bel (((Svg.set _ _ _ _).trans (Svg.set _ _ _ _)).trans (Svg.set _ _ _ _)) HBC.out (fun k hk => by subst hk; exact HSZ.out)))
              (first | (go_at_call 18; ((with_reducible refine (store_lit (HQu.out.bel HBC.out) HRV.out.big.ok HR.out).mono ?_); rintro e wz ⟨v, rfl, hbz, hmz⟩; have HMZ := Lib.hid (hmz.mono (Nat.zero_le _)); have HBC := Lib.hid (HBC.out.trans hbz); clear hbz hmz)) | (go_at_call 18; ((with_reducible refine (store_lit (HQu.out.bel ((Bel.refl wr).alloc _ _).drew) HRV.out.big.ok HR.out).mono ?_); rintro e wz ⟨v, rfl, hbz, hmz⟩; have HMZ := Lib.hid (hmz.mono (Nat.zero_le _)); have hza := hbz.stays (heap_alloc_new wr (.cells #[.slice none 0 0, .slice none 0 0, .slice none 0 0] 27)); have HZA := Lib.hid hza; have y90 := frozen_of_heap hza 0; have k90 := cell_of_heap hza 0; have y91 := frozen_of_heap hza 1; have k91 := cell_of_heap hza 1; have y92 := frozen_of_heap hza 2; have k92 := cell_of_heap hza 2; simp only [List.getElem?_toArray, List.getElem?_cons_zero, List.getElem?_cons_succ] at k90 k91 k92; have HBC := Lib.hid (((Bel.refl wr).alloc _ _).drew.trans hbz); clear hbz hmz hza)))
            all_goals
              go_wp2_with fail
              go_meet
              first
              | exact ⟨_, v, rfl, rfl, Lib.hid ((set3_svg _ _ _ _ _).bel HBC.out HSZ.out), Lib.hid (set3_heap HZA.out _ _ _), Lib.hid (HMZ.out.keep (set3_svg _ _ _ _ _) HZA.out (by decide) (by decide) (by decide)), HSZ⟩
              | exact ⟨_, v, rfl, rfl, Lib.hid (HBC.out.alloc _ _), Lib.hid (heap_alloc_new wz _), Lib.hid (HMZ.out.bel ((Bel.refl wz).alloc _ _)), Lib.hid HBC.out.size⟩
          case rest =>
            obtain ⟨g9, v, rfl, rfl, hb, HX9, HQv, hg9⟩ := hcut
            have HN109 : Hid (g10 ≠ g9) := Lib.hid (by have := lt_of_heap HX10.out; have := hg9.out; omega)
            have HGE9 : Hid (w.heap.size ≤ g9) := Lib.hid (Nat.le_trans HBW.out.size hg9.out)
            have HX10 := Lib.hid (hb.out.stays HX10.out)
            have HQu := Lib.hid (HQu.out.bel hb.out)
            have HBW := Lib.hid (HBW.out.trans hb.out)
            clear hb hg9
            by_cases hz : r = 0
            · have hrz : (r == 0) = true := by rw [hz]; rfl
              have HZ := Lib.hid hz
              clear hz
              have k90 := cell_of_heap HX9.out 0
              have k91 := cell_of_heap HX9.out 1
              have k92 := cell_of_heap HX9.out 2
              have k100 := cell_of_heap HX10.out 0
              have y100 := frozen_of_heap HX10.out 0
              have k101 := cell_of_heap HX10.out 1
              have y101 := frozen_of_heap HX10.out 1
              have k102 := cell_of_heap HX10.out 2
              have y102 := frozen_of_heap HX10.out 2
              simp only [List.getElem?_toArray, List.getElem?_cons_zero, List.getElem?_cons_succ] at k90 k91 k92 k100 k101 k102
              go_upto_region 8 with (fail)
              clear y100 y101 y102 k90 k91 k92 k100 k101 k102
              have hs3 : Svg g10 wc (((wc.setCell ⟨g10, 0, none⟩ (.slice v.w.p v.w.n v.w.c)).setCell ⟨g10, 1, none⟩ (.slice v.p.p v.p.n v.p.c)).setCell ⟨g10, 2, none⟩ (.slice v.r.p v.r.n v.r.c)) := set3_svg wc g10 (.slice v.w.p v.w.n v.w.c) (.slice v.p.p v.p.n v.p.c) (.slice v.r.p v.r.n v.r.c)
              have hh := set3_heap HX10.out (.slice v.w.p v.w.n v.w.c) (.slice v.p.p v.p.n v.p.c) (.slice v.r.p v.r.n v.r.c)
              generalize hWW : (((wc.setCell ⟨g10, 0, none⟩ (.slice v.w.p v.w.n v.w.c)).setCell ⟨g10, 1, none⟩ (.slice v.p.p v.p.n v.p.c)).setCell ⟨g10, 2, none⟩ (.slice v.r.p v.r.n v.r.c)) = V1 at hs3 hh ⊢
              clear hWW
              have HBW := Lib.hid (hs3.bel HBW.out HGE10.out)
              have HX9 := Lib.hid ((hs3.block _ (lt_of_heap HX9.out) HN109.out.symm).trans HX9.out)
              have HQu := Lib.hid (HQu.out.keep hs3 HX10.out (by decide) (by decide) (by decide))
              have HQv := Lib.hid (HQv.out.keep hs3 HX10.out (by decide) (by decide) (by decide))
              have HX10 := Lib.hid hh
              clear hs3 hh
              have HRVZ := Lib.hid (HS2.out HZ.out)
              go_wp2
              exact ⟨⟨k + 1, m2, _, v, by omega, by omega, rfl, by go_num, HBW, HX10, HQv, HRVZ⟩, by simp [intOf]; omega⟩
            · have hrz : (r == 0) = false := beq_eq_false_iff_ne.2 hz
              clear hz
              go_wp2
              exact ⟨⟨k + 1, m, _, u, by omega, by omega, rfl, by go_num, HBW, HX10, HQu, HRV⟩, by simp [intOf]; omega⟩
        · have HPI := Lib.hid hk0
          clear hk0
          obtain ⟨m2, r, hr⟩ : ∃ m2 r, drainV m 1 kn = (m2, r) := ⟨_, _, rfl⟩
          have HR := Lib.hid hr
          have HS2 := Lib.hid (fun hz => rv_drain HRV.out hr hz)
          clear hr
          have k100 := cell_of_heap HX10.out 0
          have k101 := cell_of_heap HX10.out 1
          have k102 := cell_of_heap HX10.out 2
          simp only [List.getElem?_toArray, List.getElem?_cons_zero, List.getElem?_cons_succ] at k100 k101 k102
          go_upto_region 20 with (first | (go_at_call 15; ((with_reducible refine (pick_lit HPI.out HI1.out (by decide) _).mono ?_); rintro e wq ⟨rfl, rfl⟩)) | (go_at_call 15; ((with_reducible refine (pick_lit HPK.out HI3.out (by decide) _).mono ?_); rintro e wq ⟨rfl, rfl⟩)))
          go_wp2_with fail
          refine (drain_lit HQu.out HRV.out.big.ok HR.out).mono ?_
          rintro e W1 ⟨v, rfl, hb, hq⟩
          clear c0 c2 k100 k101 k102
          have HBW := Lib.hid (HBW.out.trans hb)
          have HX10 := Lib.hid (Bel.stays hb HX10.out)
          have HQu := Lib.hid (HQu.out.bel hb)
          have HQv : Hid (MemAt 0 W1 v m2) := Lib.hid (hq.mono (Nat.zero_le _))
          clear hb hq
          go_upto_region 21 with (fail)
          have hnew : (W1.alloc (.cells #[.slice v.w.p v.w.n v.w.c, .slice v.p.p v.p.n v.p.c, .slice v.r.p v.r.n v.r.c] 27)).heap[W1.heap.size]? = some (.cells #[.slice v.w.p v.w.n v.w.c, .slice v.p.p v.p.n v.p.c, .slice v.r.p v.r.n v.r.c] 27 (0, 0)) := heap_alloc_new W1 _
          have hb : Bel W1 (W1.alloc (.cells #[.slice v.w.p v.w.n v.w.c, .slice v.p.p v.p.n v.p.c, .slice v.r.p v.r.n v.r.c] 27)) := (Bel.refl W1).alloc _ _
          have hge : w.heap.size ≤ W1.heap.size := HBW.out.size
          have HN1021 : Hid (g10 ≠ W1.heap.size) := Lib.hid (by have := lt_of_heap HX10.out; omega)
          generalize hWW : (W1.alloc (.cells #[.slice v.w.p v.w.n v.w.c, .slice v.p.p v.p.n v.p.c, .slice v.r.p v.r.n v.r.c] 27)) = W2 at hnew hb ⊢
          clear hWW
          have HBW := Lib.hid (HBW.out.trans hb)
          have HX10 := Lib.hid (Bel.stays hb HX10.out)
          have HQu := Lib.hid (HQu.out.bel hb)
          have HQv := Lib.hid (HQv.out.bel hb)
          generalize W1.heap.size = g21 at hnew hge HN1021 ⊢
          have HX21 := Lib.hid hnew
          have HGE21 := Lib.hid hge
          clear hnew hb hge
          by_cases hz : r = 0
          · have hrz : (r == 0) = true := by rw [hz]; rfl
            have HZ := Lib.hid hz
            clear hz
            obtain ⟨x, hxk, hrv2⟩ := HS2.out HZ.out
            have HTT := Lib.hid hrv2
            clear hrv2
            obtain ⟨bp, csp, s, ep, _, hgp, hlep, hltp, cp, _, _, hrw⟩ := HQu.out.hart (isH_of HRV.out.big (h := 1) (by decide))
            obtain ⟨be, cse, ee, _, _, hnn, hnc, hkn, _, hce⟩ := ERow.at (enc := encE) (k := 2) (s := s) encE_len hrw hxk
            have e0 := hce 0 _ rfl
            rw [Nat.add_zero] at e0
            have hp2 : (1 : Int) < (u.p.n : Int) := by rw [HQu.out.pn, HRV.out.big.p]; decide
            have hks : (kn : Int) < (s.n : Int) := by omega
            clear hce hrw hgp hlep hnn
            have k210 := cell_of_heap HX21.out 0
            have k211 := cell_of_heap HX21.out 1
            have k212 := cell_of_heap HX21.out 2
            have k100 := cell_of_heap HX10.out 0
            have y100 := frozen_of_heap HX10.out 0
            have k101 := cell_of_heap HX10.out 1
            have y101 := frozen_of_heap HX10.out 1
            have k102 := cell_of_heap HX10.out 2
            have y102 := frozen_of_heap HX10.out 2
            simp only [List.getElem?_toArray, List.getElem?_cons_zero, List.getElem?_cons_succ] at k210 k211 k212 k100 k101 k102
            rw [ep] at k101
            rw [ee] at cp
            have hdd : (x.1 == (wn : Int)) = decide (x.1 = wn) := by by_cases h : x.1 = wn <;> simp [h]
            cases t
            · go_upto_region 8 with (fail)
              clear y100 y101 y102 k210 k211 k212 k100 k101 k102 cp e0
              have hs3 : Svg g10 W2 (((W2.setCell ⟨g10, 0, none⟩ (.slice v.w.p v.w.n v.w.c)).setCell ⟨g10, 1, none⟩ (.slice v.p.p v.p.n v.p.c)).setCell ⟨g10, 2, none⟩ (.slice v.r.p v.r.n v.r.c)) := set3_svg W2 g10 (.slice v.w.p v.w.n v.w.c) (.slice v.p.p v.p.n v.p.c) (.slice v.r.p v.r.n v.r.c)
              have hh := set3_heap HX10.out (.slice v.w.p v.w.n v.w.c) (.slice v.p.p v.p.n v.p.c) (.slice v.r.p v.r.n v.r.c)
              generalize hWW : (((W2.setCell ⟨g10, 0, none⟩ (.slice v.w.p v.w.n v.w.c)).setCell ⟨g10, 1, none⟩ (.slice v.p.p v.p.n v.p.c)).setCell ⟨g10, 2, none⟩ (.slice v.r.p v.r.n v.r.c)) = V3 at hs3 hh ⊢
              clear hWW
              have HBW := Lib.hid (hs3.bel HBW.out HGE10.out)
              have HX21 := Lib.hid ((hs3.block _ (lt_of_heap HX21.out) HN1021.out.symm).trans HX21.out)
              have HQu := Lib.hid (HQu.out.keep hs3 HX10.out (by decide) (by decide) (by decide))
              have HQv := Lib.hid (HQv.out.keep hs3 HX10.out (by decide) (by decide) (by decide))
              have HX10 := Lib.hid hh
              clear hs3 hh
              have HRVZ := Lib.hid (HTT.out)
              go_wp2
              exact ⟨⟨k + 1, m2, _, v, by omega, by omega, rfl, by go_num, HBW, HX10, HQv, HRVZ⟩, by simp [intOf]; omega⟩
            · go_upto_region 8 with (fail)
              clear y100 y101 y102 k210 k211 k212 k100 k101 k102 cp e0
              have hs3 : Svg g10 W2 (((W2.setCell ⟨g10, 0, none⟩ (.slice v.w.p v.w.n v.w.c)).setCell ⟨g10, 1, none⟩ (.slice v.p.p v.p.n v.p.c)).setCell ⟨g10, 2, none⟩ (.slice v.r.p v.r.n v.r.c)) := set3_svg W2 g10 (.slice v.w.p v.w.n v.w.c) (.slice v.p.p v.p.n v.p.c) (.slice v.r.p v.r.n v.r.c)
              have hh := set3_heap HX10.out (.slice v.w.p v.w.n v.w.c) (.slice v.p.p v.p.n v.p.c) (.slice v.r.p v.r.n v.r.c)
              generalize hWW : (((W2.setCell ⟨g10, 0, none⟩ (.slice v.w.p v.w.n v.w.c)).setCell ⟨g10, 1, none⟩ (.slice v.p.p v.p.n v.p.c)).setCell ⟨g10, 2, none⟩ (.slice v.r.p v.r.n v.r.c)) = V3 at hs3 hh ⊢
              clear hWW
              have HBW := Lib.hid (hs3.bel HBW.out HGE10.out)
              have HX21 := Lib.hid ((hs3.block _ (lt_of_heap HX21.out) HN1021.out.symm).trans HX21.out)
              have HQu := Lib.hid (HQu.out.keep hs3 HX10.out (by decide) (by decide) (by decide))
              have HQv := Lib.hid (HQv.out.keep hs3 HX10.out (by decide) (by decide) (by decide))
              have HX10 := Lib.hid hh
              clear hs3 hh
              have HRVZ := Lib.hid (HTT.out)
              go_wp2
              exact ⟨⟨k + 1, m2, _, v, by omega, by omega, rfl, by go_num, HBW, HX10, HQv, HRVZ⟩, by simp [intOf]; omega⟩
          · have hrz : (r == 0) = false := beq_eq_false_iff_ne.2 hz
            clear hz
            go_wp2
            exact ⟨⟨k + 1, m, _, u, by omega, by omega, rfl, by go_num, HBW, HX10, HQu, HRV⟩, by simp [intOf]; omega⟩
        · have HPI := Lib.hid hk0
          clear hk0
          obtain ⟨q, m2, r, hr⟩ : ∃ q m2 r, changeV m 1 an 0 x4 = (q, m2, r) := ⟨_, _, _, rfl⟩
          have HR := Lib.hid hr
          have HS2 := Lib.hid (fun hz => rv_change HRV.out HLA.out hr hz)
          clear hr
          go_upto_region 25 with (go_at_call 15; ((with_reducible refine (pick_lit HPI.out HI1.out (by decide) _).mono ?_); rintro e wq ⟨rfl, rfl⟩))
          clear c0 c2
          go_cut [23, 24, 25] (fun v23 v24 v25 wx => ∃ (g9 : Nat) (v : Mv), v23 = .int .i64 q ∧ v24 = .pointer (some ⟨g9, 0, none⟩) ∧ v25 = .int .i64 r ∧ Hid (Bel wr wx) ∧ Hid (wx.heap[g9]? = some (.cells #[.slice v.w.p v.w.n v.w.c, .slice v.p.p v.p.n v.p.c, .slice v.r.p v.r.n v.r.c] 27 (0, 0))) ∧ Hid (MemAt 0 wx v m2) ∧ Hid (wr.heap.size ≤ g9))
          case first =>
            have HKEEP : Hid (∀ w', Bel wr w' → w'.cell? ⟨g10, 0, none⟩ = some (.slice u.w.p u.w.n u.w.c) ∧ w'.cell? ⟨g10, 1, none⟩ = some (.slice u.p.p u.p.n u.p.c) ∧ w'.cell? ⟨g10, 2, none⟩ = some (.slice u.r.p u.r.n u.r.c) ∧ w'.cell? ⟨b, o + k * 4 + 3, none⟩ = some (.int .i64 x4)) := Lib.hid (fun w' h => by
              have h1 := h.stays HX10.out
              exact ⟨cell_of_heap h1 0, cell_of_heap h1 1, cell_of_heap h1 2, ((HBW.out.trans h).cell (p := ⟨b, _, none⟩) HBL.out).trans HC3.out⟩)
            have HBC : Hid (Bel wr wr.drew) := Lib.hid (Bel.refl wr).drew
            have HSZ : Hid (wr.heap.size ≤ wr.drew.heap.size) := Lib.hid (Nat.le_refl _)
            go_region_held3 (fun w' => w'.cell? ⟨g10, 0, none⟩ = some (.slice u.w.p u.w.n u.w.c) ∧ w'.cell? ⟨g10, 1, none⟩ = some (.slice u.p.p u.p.n u.p.c) ∧ w'.cell? ⟨g10, 2, none⟩ = some (.slice u.r.p u.r.n u.r.c) ∧ w'.cell? ⟨b, o + k * 4 + 3, none⟩ = some (.int .i64 x4))
              (first | exact HKEEP.out _ HBC.out | exact HKEEP.out _ (Bel.refl _) | exact HKEEP.out _ (HBC.out.alloc _ _) | exact HKEEP.out _ ((Bel.refl wr).alloc _ _) | exact HKEEP.out _ ((Bel.refl wr).alloc _ _).drew | exact HKEEP.out _ (Sv.bel (((Svg.set _ _ _ _).trans (Svg.set _ _ _ _)).trans (Svg.set _ _ _ _)) HBC.out (fun k hk => by subst hk; exact HSZ.out)))
              (first | (go_at_call 28; ((with_reducible refine (change_lit (HQu.out.bel HBC.out) HRV.out.big.ok HR.out).mono ?_); rintro e wz ⟨v, rfl, hbz, hmz⟩; have HMZ := Lib.hid (hmz.mono (Nat.zero_le _)); have HBC := Lib.hid (HBC.out.trans hbz); clear hbz hmz)) | (go_at_call 28; ((with_reducible refine (change_lit (HQu.out.bel ((Bel.refl wr).alloc _ _).drew) HRV.out.big.ok HR.out).mono ?_); rintro e wz ⟨v, rfl, hbz, hmz⟩; have HMZ := Lib.hid (hmz.mono (Nat.zero_le _)); have hza := hbz.stays (heap_alloc_new wr (.cells #[.slice none 0 0, .slice none 0 0, .slice none 0 0] 27)); have HZA := Lib.hid hza; have y90 := frozen_of_heap hza 0; have k90 := cell_of_heap hza 0; have y91 := frozen_of_heap hza 1; have k91 := cell_of_heap hza 1; have y92 := frozen_of_heap hza 2; have k92 := cell_of_heap hza 2; simp only [List.getElem?_toArray, List.getElem?_cons_zero, List.getElem?_cons_succ] at k90 k91 k92; have HBC := Lib.hid (((Bel.refl wr).alloc _ _).drew.trans hbz); clear hbz hmz hza)))
            all_goals
              go_wp2_with fail
              go_meet
              first
              | exact ⟨_, v, rfl, rfl, rfl, Lib.hid ((set3_svg _ _ _ _ _).bel HBC.out HSZ.out), Lib.hid (set3_heap HZA.out _ _ _), Lib.hid (HMZ.out.keep (set3_svg _ _ _ _ _) HZA.out (by decide) (by decide) (by decide)), HSZ⟩
              | exact ⟨_, v, rfl, rfl, rfl, Lib.hid (HBC.out.alloc _ _), Lib.hid (heap_alloc_new wz _), Lib.hid (HMZ.out.bel ((Bel.refl wz).alloc _ _)), Lib.hid HBC.out.size⟩
          case rest =>
            obtain ⟨g9, v, rfl, rfl, rfl, hb, HX9, HQv, hg9⟩ := hcut
            have HN109 : Hid (g10 ≠ g9) := Lib.hid (by have := lt_of_heap HX10.out; have := hg9.out; omega)
            have HGE9 : Hid (w.heap.size ≤ g9) := Lib.hid (Nat.le_trans HBW.out.size hg9.out)
            have HX10 := Lib.hid (hb.out.stays HX10.out)
            have HQu := Lib.hid (HQu.out.bel hb.out)
            have HBW := Lib.hid (HBW.out.trans hb.out)
            clear hb hg9
            by_cases hz : r = 0
            · have hrz : (r == 0) = true := by rw [hz]; rfl
              have HZ := Lib.hid hz
              clear hz
              have HTT := Lib.hid (HS2.out HZ.out)
              have k90 := cell_of_heap HX9.out 0
              have k91 := cell_of_heap HX9.out 1
              have k92 := cell_of_heap HX9.out 2
              have k100 := cell_of_heap HX10.out 0
              have y100 := frozen_of_heap HX10.out 0
              have k101 := cell_of_heap HX10.out 1
              have y101 := frozen_of_heap HX10.out 1
              have k102 := cell_of_heap HX10.out 2
              have y102 := frozen_of_heap HX10.out 2
              simp only [List.getElem?_toArray, List.getElem?_cons_zero, List.getElem?_cons_succ] at k90 k91 k92 k100 k101 k102
              have hdd : ((an : Int) == (wn : Int)) = decide ((an : Int) = wn) := by by_cases h : (an : Int) = wn <;> simp [h]
              cases t
              · go_upto_region 8 with (fail)
                clear y100 y101 y102 k90 k91 k92 k100 k101 k102
                have hs3 : Svg g10 wc (((wc.setCell ⟨g10, 0, none⟩ (.slice v.w.p v.w.n v.w.c)).setCell ⟨g10, 1, none⟩ (.slice v.p.p v.p.n v.p.c)).setCell ⟨g10, 2, none⟩ (.slice v.r.p v.r.n v.r.c)) := set3_svg wc g10 (.slice v.w.p v.w.n v.w.c) (.slice v.p.p v.p.n v.p.c) (.slice v.r.p v.r.n v.r.c)
                have hh := set3_heap HX10.out (.slice v.w.p v.w.n v.w.c) (.slice v.p.p v.p.n v.p.c) (.slice v.r.p v.r.n v.r.c)
                generalize hWW : (((wc.setCell ⟨g10, 0, none⟩ (.slice v.w.p v.w.n v.w.c)).setCell ⟨g10, 1, none⟩ (.slice v.p.p v.p.n v.p.c)).setCell ⟨g10, 2, none⟩ (.slice v.r.p v.r.n v.r.c)) = V1 at hs3 hh ⊢
                clear hWW
                have HBW := Lib.hid (hs3.bel HBW.out HGE10.out)
                have HX9 := Lib.hid ((hs3.block _ (lt_of_heap HX9.out) HN109.out.symm).trans HX9.out)
                have HQu := Lib.hid (HQu.out.keep hs3 HX10.out (by decide) (by decide) (by decide))
                have HQv := Lib.hid (HQv.out.keep hs3 HX10.out (by decide) (by decide) (by decide))
                have HX10 := Lib.hid hh
                clear hs3 hh
                have HRVZ := Lib.hid (HTT.out)
                go_wp2
                exact ⟨⟨k + 1, m2, _, v, by omega, by omega, rfl, by go_num, HBW, HX10, HQv, HRVZ⟩, by simp [intOf]; omega⟩
              · go_upto_region 8 with (fail)
                clear y100 y101 y102 k90 k91 k92 k100 k101 k102
                have hs3 : Svg g10 wc (((wc.setCell ⟨g10, 0, none⟩ (.slice v.w.p v.w.n v.w.c)).setCell ⟨g10, 1, none⟩ (.slice v.p.p v.p.n v.p.c)).setCell ⟨g10, 2, none⟩ (.slice v.r.p v.r.n v.r.c)) := set3_svg wc g10 (.slice v.w.p v.w.n v.w.c) (.slice v.p.p v.p.n v.p.c) (.slice v.r.p v.r.n v.r.c)
                have hh := set3_heap HX10.out (.slice v.w.p v.w.n v.w.c) (.slice v.p.p v.p.n v.p.c) (.slice v.r.p v.r.n v.r.c)
                generalize hWW : (((wc.setCell ⟨g10, 0, none⟩ (.slice v.w.p v.w.n v.w.c)).setCell ⟨g10, 1, none⟩ (.slice v.p.p v.p.n v.p.c)).setCell ⟨g10, 2, none⟩ (.slice v.r.p v.r.n v.r.c)) = V1 at hs3 hh ⊢
                clear hWW
                have HBW := Lib.hid (hs3.bel HBW.out HGE10.out)
                have HX9 := Lib.hid ((hs3.block _ (lt_of_heap HX9.out) HN109.out.symm).trans HX9.out)
                have HQu := Lib.hid (HQu.out.keep hs3 HX10.out (by decide) (by decide) (by decide))
                have HQv := Lib.hid (HQv.out.keep hs3 HX10.out (by decide) (by decide) (by decide))
                have HX10 := Lib.hid hh
                clear hs3 hh
                have HRVZ := Lib.hid (HTT.out)
                go_wp2
                exact ⟨⟨k + 1, m2, _, v, by omega, by omega, rfl, by go_num, HBW, HX10, HQv, HRVZ⟩, by simp [intOf]; omega⟩
            · have hrz : (r == 0) = false := beq_eq_false_iff_ne.2 hz
              clear hz
              go_wp2
              exact ⟨⟨k + 1, m, _, u, by omega, by omega, rfl, by go_num, HBW, HX10, HQu, HRV⟩, by simp [intOf]; omega⟩
        · have HPI := Lib.hid hk0
          clear hk0
          obtain ⟨q, m2, r, hr⟩ : ∃ q m2 r, reserveV m 1 an = (q, m2, r) := ⟨_, _, _, rfl⟩
          have HR := Lib.hid hr
          have HS2 := Lib.hid (fun hz => rv_reserve HRV.out HLA.out hr hz)
          clear hr
          have k100 := cell_of_heap HX10.out 0
          have k101 := cell_of_heap HX10.out 1
          have k102 := cell_of_heap HX10.out 2
          simp only [List.getElem?_toArray, List.getElem?_cons_zero, List.getElem?_cons_succ] at k100 k101 k102
          go_wp2_with (go_at_call 15; ((with_reducible refine (pick_lit HPI.out HI1.out (by decide) _).mono ?_); rintro e wq ⟨rfl, rfl⟩))
          refine (reserve_lit HQu.out HRV.out.big.ok HR.out).mono ?_
          rintro e W1 ⟨v, rfl, hb, hq⟩
          clear c0 c2 k100 k101 k102
          have HBW := Lib.hid (HBW.out.trans hb)
          have HX10 := Lib.hid (Bel.stays hb HX10.out)
          have HQu := Lib.hid (HQu.out.bel hb)
          have HQv : Hid (MemAt 0 W1 v m2) := Lib.hid (hq.mono (Nat.zero_le _))
          clear hb hq
          go_upto_region 12 with (fail)
          have hnew : (W1.alloc (.cells #[.slice v.w.p v.w.n v.w.c, .slice v.p.p v.p.n v.p.c, .slice v.r.p v.r.n v.r.c] 27)).heap[W1.heap.size]? = some (.cells #[.slice v.w.p v.w.n v.w.c, .slice v.p.p v.p.n v.p.c, .slice v.r.p v.r.n v.r.c] 27 (0, 0)) := heap_alloc_new W1 _
          have hb : Bel W1 (W1.alloc (.cells #[.slice v.w.p v.w.n v.w.c, .slice v.p.p v.p.n v.p.c, .slice v.r.p v.r.n v.r.c] 27)) := (Bel.refl W1).alloc _ _
          have hge : w.heap.size ≤ W1.heap.size := HBW.out.size
          have HN1027 : Hid (g10 ≠ W1.heap.size) := Lib.hid (by have := lt_of_heap HX10.out; omega)
          generalize hWW : (W1.alloc (.cells #[.slice v.w.p v.w.n v.w.c, .slice v.p.p v.p.n v.p.c, .slice v.r.p v.r.n v.r.c] 27)) = W2 at hnew hb ⊢
          clear hWW
          have HBW := Lib.hid (HBW.out.trans hb)
          have HX10 := Lib.hid (Bel.stays hb HX10.out)
          have HQu := Lib.hid (HQu.out.bel hb)
          have HQv := Lib.hid (HQv.out.bel hb)
          generalize W1.heap.size = g27 at hnew hge HN1027 ⊢
          have HX27 := Lib.hid hnew
          have HGE27 := Lib.hid hge
          clear hnew hb hge
          by_cases hz : r = 0
          · have hrz : (r == 0) = true := by rw [hz]; rfl
            have HZ := Lib.hid hz
            clear hz
            have k270 := cell_of_heap HX27.out 0
            have k271 := cell_of_heap HX27.out 1
            have k272 := cell_of_heap HX27.out 2
            have k100 := cell_of_heap HX10.out 0
            have y100 := frozen_of_heap HX10.out 0
            have k101 := cell_of_heap HX10.out 1
            have y101 := frozen_of_heap HX10.out 1
            have k102 := cell_of_heap HX10.out 2
            have y102 := frozen_of_heap HX10.out 2
            simp only [List.getElem?_toArray, List.getElem?_cons_zero, List.getElem?_cons_succ] at k270 k271 k272 k100 k101 k102
            go_upto_region 8 with (fail)
            clear y100 y101 y102 k270 k271 k272 k100 k101 k102
            have hs3 : Svg g10 W2 (((W2.setCell ⟨g10, 0, none⟩ (.slice v.w.p v.w.n v.w.c)).setCell ⟨g10, 1, none⟩ (.slice v.p.p v.p.n v.p.c)).setCell ⟨g10, 2, none⟩ (.slice v.r.p v.r.n v.r.c)) := set3_svg W2 g10 (.slice v.w.p v.w.n v.w.c) (.slice v.p.p v.p.n v.p.c) (.slice v.r.p v.r.n v.r.c)
            have hh := set3_heap HX10.out (.slice v.w.p v.w.n v.w.c) (.slice v.p.p v.p.n v.p.c) (.slice v.r.p v.r.n v.r.c)
            generalize hWW : (((W2.setCell ⟨g10, 0, none⟩ (.slice v.w.p v.w.n v.w.c)).setCell ⟨g10, 1, none⟩ (.slice v.p.p v.p.n v.p.c)).setCell ⟨g10, 2, none⟩ (.slice v.r.p v.r.n v.r.c)) = V3 at hs3 hh ⊢
            clear hWW
            have HBW := Lib.hid (hs3.bel HBW.out HGE10.out)
            have HX27 := Lib.hid ((hs3.block _ (lt_of_heap HX27.out) HN1027.out.symm).trans HX27.out)
            have HQu := Lib.hid (HQu.out.keep hs3 HX10.out (by decide) (by decide) (by decide))
            have HQv := Lib.hid (HQv.out.keep hs3 HX10.out (by decide) (by decide) (by decide))
            have HX10 := Lib.hid hh
            clear hs3 hh
            have HRVZ := Lib.hid (HS2.out HZ.out)
            go_wp2
            exact ⟨⟨k + 1, m2, _, v, by omega, by omega, rfl, by go_num, HBW, HX10, HQv, HRVZ⟩, by simp [intOf]; omega⟩
          · have hrz : (r == 0) = false := beq_eq_false_iff_ne.2 hz
            clear hz
            go_wp2
            exact ⟨⟨k + 1, m, _, u, by omega, by omega, rfl, by go_num, HBW, HX10, HQu, HRV⟩, by simp [intOf]; omega⟩
      · have hl42 : ¬ (k : Int) < 20 := by omega
        have hlt2 : (k : Int) < N := by omega
        obtain ⟨is, wrong, again, n1, n2, n3, xx, was, e1, e2, ok2, e3, e4, e5, p1, p2, p3, p4, p5⟩ := rv_end HRV.out HLW.out HLO.out n
        have E1 := Lib.hid e1
        have E2 := Lib.hid e2
        have E3 := Lib.hid e3
        have E4 := Lib.hid e4
        have E5 := Lib.hid e5
        have OK2 := Lib.hid ok2
        have P1 := Lib.hid p1
        have P2 := Lib.hid p2
        have P4 := Lib.hid p4
        have P5 := Lib.hid p5
        subst p3
        clear e1 e2 e3 e4 e5 ok2 p1 p2 p4 p5
        have k100 := cell_of_heap HX10.out 0
        have k101 := cell_of_heap HX10.out 1
        have k102 := cell_of_heap HX10.out 2
        simp only [List.getElem?_toArray, List.getElem?_cons_zero, List.getElem?_cons_succ] at k100 k101 k102
        go_wp2_with (go_at_call 15; ((with_reducible refine (pick_lit HPO.out HIO.out (by decide) _).mono ?_); rintro e wq ⟨rfl, rfl⟩))
        refine (cond_lit HQu.out HRV.out.big.ok E1.out).mono ?_
        rintro e W1 ⟨v1, rfl, hb, hq⟩
        clear k100 k101 k102
        have HBW := Lib.hid (HBW.out.trans hb)
        have HX10 := Lib.hid (Bel.stays hb HX10.out)
        have HQu := Lib.hid (HQu.out.bel hb)
        have HQv1 : Hid (MemAt 0 W1 v1 n1) := Lib.hid (hq.mono (Nat.zero_le _))
        clear hb hq
        have k100 := cell_of_heap HX10.out 0
        have k101 := cell_of_heap HX10.out 1
        have k102 := cell_of_heap HX10.out 2
        simp only [List.getElem?_toArray, List.getElem?_cons_zero, List.getElem?_cons_succ] at k100 k101 k102
        go_upto_region 31 with (fail)
        clear k100 k101 k102
        have hnew : (W1.alloc (.cells #[.slice v1.w.p v1.w.n v1.w.c, .slice v1.p.p v1.p.n v1.p.c, .slice v1.r.p v1.r.n v1.r.c] 27)).heap[W1.heap.size]? = some (.cells #[.slice v1.w.p v1.w.n v1.w.c, .slice v1.p.p v1.p.n v1.p.c, .slice v1.r.p v1.r.n v1.r.c] 27 (0, 0)) := heap_alloc_new W1 _
        have hb : Bel W1 (W1.alloc (.cells #[.slice v1.w.p v1.w.n v1.w.c, .slice v1.p.p v1.p.n v1.p.c, .slice v1.r.p v1.r.n v1.r.c] 27)) := (Bel.refl W1).alloc _ _
        have hge : w.heap.size ≤ W1.heap.size := HBW.out.size
        have HN1031 : Hid (g10 ≠ W1.heap.size) := Lib.hid (by have := lt_of_heap HX10.out; omega)
        generalize hWW : (W1.alloc (.cells #[.slice v1.w.p v1.w.n v1.w.c, .slice v1.p.p v1.p.n v1.p.c, .slice v1.r.p v1.r.n v1.r.c] 27)) = W2 at hnew hb ⊢
        clear hWW
        have HBW := Lib.hid (HBW.out.trans hb)
        have HX10 := Lib.hid (Bel.stays hb HX10.out)
        have HQu := Lib.hid (HQu.out.bel hb)
        have HQv1 := Lib.hid (HQv1.out.bel hb)
        generalize W1.heap.size = g31 at hnew hge HN1031 ⊢
        have HX31 := Lib.hid hnew
        have HGE31 := Lib.hid hge
        clear hnew hb hge
        have k100 := cell_of_heap HX10.out 0
        have k101 := cell_of_heap HX10.out 1
        have k102 := cell_of_heap HX10.out 2
        simp only [List.getElem?_toArray, List.getElem?_cons_zero, List.getElem?_cons_succ] at k100 k101 k102
        go_wp2_with fail
        refine (cond_lit HQu.out HRV.out.big.ok E2.out).mono ?_
        rintro e W3 ⟨v2, rfl, hb, hq⟩
        clear k100 k101 k102
        have HBW := Lib.hid (HBW.out.trans hb)
        have HX10 := Lib.hid (Bel.stays hb HX10.out)
        have HX31 := Lib.hid (Bel.stays hb HX31.out)
        have HQu := Lib.hid (HQu.out.bel hb)
        have HQv1 := Lib.hid (HQv1.out.bel hb)
        have HQv2 : Hid (MemAt 0 W3 v2 n2) := Lib.hid (hq.mono (Nat.zero_le _))
        clear hb hq
        go_upto_region 32 with (fail)
        have hnew : (W3.alloc (.cells #[.slice v2.w.p v2.w.n v2.w.c, .slice v2.p.p v2.p.n v2.p.c, .slice v2.r.p v2.r.n v2.r.c] 27)).heap[W3.heap.size]? = some (.cells #[.slice v2.w.p v2.w.n v2.w.c, .slice v2.p.p v2.p.n v2.p.c, .slice v2.r.p v2.r.n v2.r.c] 27 (0, 0)) := heap_alloc_new W3 _
        have hb : Bel W3 (W3.alloc (.cells #[.slice v2.w.p v2.w.n v2.w.c, .slice v2.p.p v2.p.n v2.p.c, .slice v2.r.p v2.r.n v2.r.c] 27)) := (Bel.refl W3).alloc _ _
        have hge : w.heap.size ≤ W3.heap.size := HBW.out.size
        have HN1034 : Hid (g10 ≠ W3.heap.size) := Lib.hid (by have := lt_of_heap HX10.out; omega)
        have HN3134 : Hid (g31 ≠ W3.heap.size) := Lib.hid (by have := lt_of_heap HX31.out; omega)
        generalize hWW : (W3.alloc (.cells #[.slice v2.w.p v2.w.n v2.w.c, .slice v2.p.p v2.p.n v2.p.c, .slice v2.r.p v2.r.n v2.r.c] 27)) = W4 at hnew hb ⊢
        clear hWW
        have HBW := Lib.hid (HBW.out.trans hb)
        have HX10 := Lib.hid (Bel.stays hb HX10.out)
        have HX31 := Lib.hid (Bel.stays hb HX31.out)
        have HQu := Lib.hid (HQu.out.bel hb)
        have HQv1 := Lib.hid (HQv1.out.bel hb)
        have HQv2 := Lib.hid (HQv2.out.bel hb)
        generalize W3.heap.size = g34 at hnew hge HN1034 HN3134 ⊢
        have HX34 := Lib.hid hnew
        have HGE34 := Lib.hid hge
        clear hnew hb hge
        have k100 := cell_of_heap HX10.out 0
        have k101 := cell_of_heap HX10.out 1
        have k102 := cell_of_heap HX10.out 2
        have k310 := cell_of_heap HX31.out 0
        have k311 := cell_of_heap HX31.out 1
        have k312 := cell_of_heap HX31.out 2
        have k340 := cell_of_heap HX34.out 0
        have k341 := cell_of_heap HX34.out 1
        have k342 := cell_of_heap HX34.out 2
        simp only [List.getElem?_toArray, List.getElem?_cons_zero, List.getElem?_cons_succ] at k100 k101 k102 k310 k311 k312 k340 k341 k342
        go_wp2_with fail
        refine (cond_lit HQv2.out OK2.out E3.out).mono ?_
        rintro e W5 ⟨v3, rfl, hb, hq⟩
        clear k100 k101 k102 k310 k311 k312 k340 k341 k342
        have HBW := Lib.hid (HBW.out.trans hb)
        have HX10 := Lib.hid (Bel.stays hb HX10.out)
        have HX31 := Lib.hid (Bel.stays hb HX31.out)
        have HX34 := Lib.hid (Bel.stays hb HX34.out)
        have HQu := Lib.hid (HQu.out.bel hb)
        have HQv1 := Lib.hid (HQv1.out.bel hb)
        have HQv2 := Lib.hid (HQv2.out.bel hb)
        have HQv3 : Hid (MemAt 0 W5 v3 n3) := Lib.hid (hq.mono (Nat.zero_le _))
        clear hb hq
        have k100 := cell_of_heap HX10.out 0
        have k101 := cell_of_heap HX10.out 1
        have k102 := cell_of_heap HX10.out 2
        have k310 := cell_of_heap HX31.out 0
        have k311 := cell_of_heap HX31.out 1
        have k312 := cell_of_heap HX31.out 2
        have k340 := cell_of_heap HX34.out 0
        have k341 := cell_of_heap HX34.out 1
        have k342 := cell_of_heap HX34.out 2
        simp only [List.getElem?_toArray, List.getElem?_cons_zero, List.getElem?_cons_succ] at k100 k101 k102 k310 k311 k312 k340 k341 k342
        go_upto_region 33 with (fail)
        clear k100 k101 k102 k310 k311 k312 k340 k341 k342
        have hnew : (W5.alloc (.cells #[.slice v3.w.p v3.w.n v3.w.c, .slice v3.p.p v3.p.n v3.p.c, .slice v3.r.p v3.r.n v3.r.c] 27)).heap[W5.heap.size]? = some (.cells #[.slice v3.w.p v3.w.n v3.w.c, .slice v3.p.p v3.p.n v3.p.c, .slice v3.r.p v3.r.n v3.r.c] 27 (0, 0)) := heap_alloc_new W5 _
        have hb : Bel W5 (W5.alloc (.cells #[.slice v3.w.p v3.w.n v3.w.c, .slice v3.p.p v3.p.n v3.p.c, .slice v3.r.p v3.r.n v3.r.c] 27)) := (Bel.refl W5).alloc _ _
        have hge : w.heap.size ≤ W5.heap.size := HBW.out.size
        have HN1037 : Hid (g10 ≠ W5.heap.size) := Lib.hid (by have := lt_of_heap HX10.out; omega)
        have HN3137 : Hid (g31 ≠ W5.heap.size) := Lib.hid (by have := lt_of_heap HX31.out; omega)
        have HN3437 : Hid (g34 ≠ W5.heap.size) := Lib.hid (by have := lt_of_heap HX34.out; omega)
        generalize hWW : (W5.alloc (.cells #[.slice v3.w.p v3.w.n v3.w.c, .slice v3.p.p v3.p.n v3.p.c, .slice v3.r.p v3.r.n v3.r.c] 27)) = W6 at hnew hb ⊢
        clear hWW
        have HBW := Lib.hid (HBW.out.trans hb)
        have HX10 := Lib.hid (Bel.stays hb HX10.out)
        have HX31 := Lib.hid (Bel.stays hb HX31.out)
        have HX34 := Lib.hid (Bel.stays hb HX34.out)
        have HQu := Lib.hid (HQu.out.bel hb)
        have HQv1 := Lib.hid (HQv1.out.bel hb)
        have HQv2 := Lib.hid (HQv2.out.bel hb)
        have HQv3 := Lib.hid (HQv3.out.bel hb)
        generalize W5.heap.size = g37 at hnew hge HN1037 HN3137 HN3437 ⊢
        have HX37 := Lib.hid hnew
        have HGE37 := Lib.hid hge
        clear hnew hb hge
        have k340 := cell_of_heap HX34.out 0
        have k341 := cell_of_heap HX34.out 1
        have k342 := cell_of_heap HX34.out 2
        simp only [List.getElem?_toArray, List.getElem?_cons_zero, List.getElem?_cons_succ] at k340 k341 k342
        go_wp2_with fail
        refine (load_lit HQv2.out OK2.out E4.out).mono ?_
        rintro e W7 ⟨rfl, hb⟩
        clear k340 k341 k342
        have HBW := Lib.hid (HBW.out.trans hb)
        have HX10 := Lib.hid (Bel.stays hb HX10.out)
        have HX31 := Lib.hid (Bel.stays hb HX31.out)
        have HX34 := Lib.hid (Bel.stays hb HX34.out)
        have HX37 := Lib.hid (Bel.stays hb HX37.out)
        have HQu := Lib.hid (HQu.out.bel hb)
        have HQv1 := Lib.hid (HQv1.out.bel hb)
        have HQv2 := Lib.hid (HQv2.out.bel hb)
        have HQv3 := Lib.hid (HQv3.out.bel hb)
        clear hb
        have k100 := cell_of_heap HX10.out 0
        have k101 := cell_of_heap HX10.out 1
        have k102 := cell_of_heap HX10.out 2
        simp only [List.getElem?_toArray, List.getElem?_cons_zero, List.getElem?_cons_succ] at k100 k101 k102
        go_wp2_with fail
        refine (load_lit HQu.out HRV.out.big.ok E5.out).mono ?_
        rintro e W8 ⟨rfl, hb⟩
        clear k100 k101 k102
        have HBW := Lib.hid (HBW.out.trans hb)
        have HX10 := Lib.hid (Bel.stays hb HX10.out)
        have HX31 := Lib.hid (Bel.stays hb HX31.out)
        have HX34 := Lib.hid (Bel.stays hb HX34.out)
        have HX37 := Lib.hid (Bel.stays hb HX37.out)
        have HQu := Lib.hid (HQu.out.bel hb)
        have HQv1 := Lib.hid (HQv1.out.bel hb)
        have HQv2 := Lib.hid (HQv2.out.bel hb)
        have HQv3 := Lib.hid (HQv3.out.bel hb)
        clear hb
        have hoo : ((on : Int) == (wn : Int)) = decide ((on : Int) = wn) := by by_cases h : (on : Int) = wn <;> simp [h]
        cases is
        · have ht : t = true := by have h := P1.out; revert h; cases t <;> decide
          subst ht
          have hxw := P5.out rfl
          subst hxw
          have hwr : wrong = false := P2.out
          subst hwr
          have hxx : (xx != xx) = false := by simp
          clear hoo
          go_wp2_with (go_at_call 30; ((with_reducible refine (wrap_any _ _).mono ?_); rintro e wq ⟨rfl, rfl⟩))
          go_ret
          exact ⟨by simp, HBW.out⟩
        · have ht : t = false := by have h := P1.out; revert h; cases t <;> decide
          subst ht
          have hxw := P4.out rfl
          subst hxw
          have hxx : (wrap32 n != wrap32 n) = false := by simp
          have hwr : wrong = decide ((on : Int) = wn) := P2.out.trans (Bool.true_and _)
          have hww : (wrong == decide ((on : Int) = wn)) = true := by rw [hwr]; simp
          have hwo : (wrong == ((on : Int) == (wn : Int))) = true := by rw [hoo]; exact hww
          clear hwr hww hoo
          go_wp2_with (go_at_call 30; ((with_reducible refine (wrap_any _ _).mono ?_); rintro e wq ⟨rfl, rfl⟩))
          go_ret
          exact ⟨by simp, HBW.out⟩
    · have hlt2 : ¬ (k : Int) < N := by omega
      obtain ⟨is, wrong, again, n1, n2, n3, xx, was, e1, e2, ok2, e3, e4, e5, p1, p2, p3, p4, p5⟩ := rv_end HRV.out HLW.out HLO.out n
      have E1 := Lib.hid e1
      have E2 := Lib.hid e2
      have E3 := Lib.hid e3
      have E4 := Lib.hid e4
      have E5 := Lib.hid e5
      have OK2 := Lib.hid ok2
      have P1 := Lib.hid p1
      have P2 := Lib.hid p2
      have P4 := Lib.hid p4
      have P5 := Lib.hid p5
      subst p3
      clear e1 e2 e3 e4 e5 ok2 p1 p2 p4 p5
      have k100 := cell_of_heap HX10.out 0
      have k101 := cell_of_heap HX10.out 1
      have k102 := cell_of_heap HX10.out 2
      simp only [List.getElem?_toArray, List.getElem?_cons_zero, List.getElem?_cons_succ] at k100 k101 k102
      go_wp2_with (go_at_call 15; ((with_reducible refine (pick_lit HPO.out HIO.out (by decide) _).mono ?_); rintro e wq ⟨rfl, rfl⟩))
      refine (cond_lit HQu.out HRV.out.big.ok E1.out).mono ?_
      rintro e W1 ⟨v1, rfl, hb, hq⟩
      clear k100 k101 k102
      have HBW := Lib.hid (HBW.out.trans hb)
      have HX10 := Lib.hid (Bel.stays hb HX10.out)
      have HQu := Lib.hid (HQu.out.bel hb)
      have HQv1 : Hid (MemAt 0 W1 v1 n1) := Lib.hid (hq.mono (Nat.zero_le _))
      clear hb hq
      have k100 := cell_of_heap HX10.out 0
      have k101 := cell_of_heap HX10.out 1
      have k102 := cell_of_heap HX10.out 2
      simp only [List.getElem?_toArray, List.getElem?_cons_zero, List.getElem?_cons_succ] at k100 k101 k102
      go_upto_region 31 with (fail)
      clear k100 k101 k102
      have hnew : (W1.alloc (.cells #[.slice v1.w.p v1.w.n v1.w.c, .slice v1.p.p v1.p.n v1.p.c, .slice v1.r.p v1.r.n v1.r.c] 27)).heap[W1.heap.size]? = some (.cells #[.slice v1.w.p v1.w.n v1.w.c, .slice v1.p.p v1.p.n v1.p.c, .slice v1.r.p v1.r.n v1.r.c] 27 (0, 0)) := heap_alloc_new W1 _
      have hb : Bel W1 (W1.alloc (.cells #[.slice v1.w.p v1.w.n v1.w.c, .slice v1.p.p v1.p.n v1.p.c, .slice v1.r.p v1.r.n v1.r.c] 27)) := (Bel.refl W1).alloc _ _
      have hge : w.heap.size ≤ W1.heap.size := HBW.out.size
      have HN1031 : Hid (g10 ≠ W1.heap.size) := Lib.hid (by have := lt_of_heap HX10.out; omega)
      generalize hWW : (W1.alloc (.cells #[.slice v1.w.p v1.w.n v1.w.c, .slice v1.p.p v1.p.n v1.p.c, .slice v1.r.p v1.r.n v1.r.c] 27)) = W2 at hnew hb ⊢
      clear hWW
      have HBW := Lib.hid (HBW.out.trans hb)
      have HX10 := Lib.hid (Bel.stays hb HX10.out)
      have HQu := Lib.hid (HQu.out.bel hb)
      have HQv1 := Lib.hid (HQv1.out.bel hb)
      generalize W1.heap.size = g31 at hnew hge HN1031 ⊢
      have HX31 := Lib.hid hnew
      have HGE31 := Lib.hid hge
      clear hnew hb hge
      have k100 := cell_of_heap HX10.out 0
      have k101 := cell_of_heap HX10.out 1
      have k102 := cell_of_heap HX10.out 2
      simp only [List.getElem?_toArray, List.getElem?_cons_zero, List.getElem?_cons_succ] at k100 k101 k102
      go_wp2_with fail
      refine (cond_lit HQu.out HRV.out.big.ok E2.out).mono ?_
      rintro e W3 ⟨v2, rfl, hb, hq⟩
      clear k100 k101 k102
      have HBW := Lib.hid (HBW.out.trans hb)
      have HX10 := Lib.hid (Bel.stays hb HX10.out)
      have HX31 := Lib.hid (Bel.stays hb HX31.out)
      have HQu := Lib.hid (HQu.out.bel hb)
      have HQv1 := Lib.hid (HQv1.out.bel hb)
      have HQv2 : Hid (MemAt 0 W3 v2 n2) := Lib.hid (hq.mono (Nat.zero_le _))
      clear hb hq
      go_upto_region 32 with (fail)
      have hnew : (W3.alloc (.cells #[.slice v2.w.p v2.w.n v2.w.c, .slice v2.p.p v2.p.n v2.p.c, .slice v2.r.p v2.r.n v2.r.c] 27)).heap[W3.heap.size]? = some (.cells #[.slice v2.w.p v2.w.n v2.w.c, .slice v2.p.p v2.p.n v2.p.c, .slice v2.r.p v2.r.n v2.r.c] 27 (0, 0)) := heap_alloc_new W3 _
      have hb : Bel W3 (W3.alloc (.cells #[.slice v2.w.p v2.w.n v2.w.c, .slice v2.p.p v2.p.n v2.p.c, .slice v2.r.p v2.r.n v2.r.c] 27)) := (Bel.refl W3).alloc _ _
      have hge : w.heap.size ≤ W3.heap.size := HBW.out.size
      have HN1034 : Hid (g10 ≠ W3.heap.size) := Lib.hid (by have := lt_of_heap HX10.out; omega)
      have HN3134 : Hid (g31 ≠ W3.heap.size) := Lib.hid (by have := lt_of_heap HX31.out; omega)
      generalize hWW : (W3.alloc (.cells #[.slice v2.w.p v2.w.n v2.w.c, .slice v2.p.p v2.p.n v2.p.c, .slice v2.r.p v2.r.n v2.r.c] 27)) = W4 at hnew hb ⊢
      clear hWW
      have HBW := Lib.hid (HBW.out.trans hb)
      have HX10 := Lib.hid (Bel.stays hb HX10.out)
      have HX31 := Lib.hid (Bel.stays hb HX31.out)
      have HQu := Lib.hid (HQu.out.bel hb)
      have HQv1 := Lib.hid (HQv1.out.bel hb)
      have HQv2 := Lib.hid (HQv2.out.bel hb)
      generalize W3.heap.size = g34 at hnew hge HN1034 HN3134 ⊢
      have HX34 := Lib.hid hnew
      have HGE34 := Lib.hid hge
      clear hnew hb hge
      have k100 := cell_of_heap HX10.out 0
      have k101 := cell_of_heap HX10.out 1
      have k102 := cell_of_heap HX10.out 2
      have k310 := cell_of_heap HX31.out 0
      have k311 := cell_of_heap HX31.out 1
      have k312 := cell_of_heap HX31.out 2
      have k340 := cell_of_heap HX34.out 0
      have k341 := cell_of_heap HX34.out 1
      have k342 := cell_of_heap HX34.out 2
      simp only [List.getElem?_toArray, List.getElem?_cons_zero, List.getElem?_cons_succ] at k100 k101 k102 k310 k311 k312 k340 k341 k342
      go_wp2_with fail
      refine (cond_lit HQv2.out OK2.out E3.out).mono ?_
      rintro e W5 ⟨v3, rfl, hb, hq⟩
      clear k100 k101 k102 k310 k311 k312 k340 k341 k342
      have HBW := Lib.hid (HBW.out.trans hb)
      have HX10 := Lib.hid (Bel.stays hb HX10.out)
      have HX31 := Lib.hid (Bel.stays hb HX31.out)
      have HX34 := Lib.hid (Bel.stays hb HX34.out)
      have HQu := Lib.hid (HQu.out.bel hb)
      have HQv1 := Lib.hid (HQv1.out.bel hb)
      have HQv2 := Lib.hid (HQv2.out.bel hb)
      have HQv3 : Hid (MemAt 0 W5 v3 n3) := Lib.hid (hq.mono (Nat.zero_le _))
      clear hb hq
      have k100 := cell_of_heap HX10.out 0
      have k101 := cell_of_heap HX10.out 1
      have k102 := cell_of_heap HX10.out 2
      have k310 := cell_of_heap HX31.out 0
      have k311 := cell_of_heap HX31.out 1
      have k312 := cell_of_heap HX31.out 2
      have k340 := cell_of_heap HX34.out 0
      have k341 := cell_of_heap HX34.out 1
      have k342 := cell_of_heap HX34.out 2
      simp only [List.getElem?_toArray, List.getElem?_cons_zero, List.getElem?_cons_succ] at k100 k101 k102 k310 k311 k312 k340 k341 k342
      go_upto_region 33 with (fail)
      clear k100 k101 k102 k310 k311 k312 k340 k341 k342
      have hnew : (W5.alloc (.cells #[.slice v3.w.p v3.w.n v3.w.c, .slice v3.p.p v3.p.n v3.p.c, .slice v3.r.p v3.r.n v3.r.c] 27)).heap[W5.heap.size]? = some (.cells #[.slice v3.w.p v3.w.n v3.w.c, .slice v3.p.p v3.p.n v3.p.c, .slice v3.r.p v3.r.n v3.r.c] 27 (0, 0)) := heap_alloc_new W5 _
      have hb : Bel W5 (W5.alloc (.cells #[.slice v3.w.p v3.w.n v3.w.c, .slice v3.p.p v3.p.n v3.p.c, .slice v3.r.p v3.r.n v3.r.c] 27)) := (Bel.refl W5).alloc _ _
      have hge : w.heap.size ≤ W5.heap.size := HBW.out.size
      have HN1037 : Hid (g10 ≠ W5.heap.size) := Lib.hid (by have := lt_of_heap HX10.out; omega)
      have HN3137 : Hid (g31 ≠ W5.heap.size) := Lib.hid (by have := lt_of_heap HX31.out; omega)
      have HN3437 : Hid (g34 ≠ W5.heap.size) := Lib.hid (by have := lt_of_heap HX34.out; omega)
      generalize hWW : (W5.alloc (.cells #[.slice v3.w.p v3.w.n v3.w.c, .slice v3.p.p v3.p.n v3.p.c, .slice v3.r.p v3.r.n v3.r.c] 27)) = W6 at hnew hb ⊢
      clear hWW
      have HBW := Lib.hid (HBW.out.trans hb)
      have HX10 := Lib.hid (Bel.stays hb HX10.out)
      have HX31 := Lib.hid (Bel.stays hb HX31.out)
      have HX34 := Lib.hid (Bel.stays hb HX34.out)
      have HQu := Lib.hid (HQu.out.bel hb)
      have HQv1 := Lib.hid (HQv1.out.bel hb)
      have HQv2 := Lib.hid (HQv2.out.bel hb)
      have HQv3 := Lib.hid (HQv3.out.bel hb)
      generalize W5.heap.size = g37 at hnew hge HN1037 HN3137 HN3437 ⊢
      have HX37 := Lib.hid hnew
      have HGE37 := Lib.hid hge
      clear hnew hb hge
      have k340 := cell_of_heap HX34.out 0
      have k341 := cell_of_heap HX34.out 1
      have k342 := cell_of_heap HX34.out 2
      simp only [List.getElem?_toArray, List.getElem?_cons_zero, List.getElem?_cons_succ] at k340 k341 k342
      go_wp2_with fail
      refine (load_lit HQv2.out OK2.out E4.out).mono ?_
      rintro e W7 ⟨rfl, hb⟩
      clear k340 k341 k342
      have HBW := Lib.hid (HBW.out.trans hb)
      have HX10 := Lib.hid (Bel.stays hb HX10.out)
      have HX31 := Lib.hid (Bel.stays hb HX31.out)
      have HX34 := Lib.hid (Bel.stays hb HX34.out)
      have HX37 := Lib.hid (Bel.stays hb HX37.out)
      have HQu := Lib.hid (HQu.out.bel hb)
      have HQv1 := Lib.hid (HQv1.out.bel hb)
      have HQv2 := Lib.hid (HQv2.out.bel hb)
      have HQv3 := Lib.hid (HQv3.out.bel hb)
      clear hb
      have k100 := cell_of_heap HX10.out 0
      have k101 := cell_of_heap HX10.out 1
      have k102 := cell_of_heap HX10.out 2
      simp only [List.getElem?_toArray, List.getElem?_cons_zero, List.getElem?_cons_succ] at k100 k101 k102
      go_wp2_with fail
      refine (load_lit HQu.out HRV.out.big.ok E5.out).mono ?_
      rintro e W8 ⟨rfl, hb⟩
      clear k100 k101 k102
      have HBW := Lib.hid (HBW.out.trans hb)
      have HX10 := Lib.hid (Bel.stays hb HX10.out)
      have HX31 := Lib.hid (Bel.stays hb HX31.out)
      have HX34 := Lib.hid (Bel.stays hb HX34.out)
      have HX37 := Lib.hid (Bel.stays hb HX37.out)
      have HQu := Lib.hid (HQu.out.bel hb)
      have HQv1 := Lib.hid (HQv1.out.bel hb)
      have HQv2 := Lib.hid (HQv2.out.bel hb)
      have HQv3 := Lib.hid (HQv3.out.bel hb)
      clear hb
      have hoo : ((on : Int) == (wn : Int)) = decide ((on : Int) = wn) := by by_cases h : (on : Int) = wn <;> simp [h]
      cases is
      · have ht : t = true := by have h := P1.out; revert h; cases t <;> decide
        subst ht
        have hxw := P5.out rfl
        subst hxw
        have hwr : wrong = false := P2.out
        subst hwr
        have hxx : (xx != xx) = false := by simp
        clear hoo
        go_wp2_with (go_at_call 30; ((with_reducible refine (wrap_any _ _).mono ?_); rintro e wq ⟨rfl, rfl⟩))
        go_ret
        exact ⟨by simp, HBW.out⟩
      · have ht : t = false := by have h := P1.out; revert h; cases t <;> decide
        subst ht
        have hxw := P4.out rfl
        subst hxw
        have hxx : (wrap32 n != wrap32 n) = false := by simp
        have hwr : wrong = decide ((on : Int) = wn) := P2.out.trans (Bool.true_and _)
        have hww : (wrong == decide ((on : Int) = wn)) = true := by rw [hwr]; simp
        have hwo : (wrong == ((on : Int) == (wn : Int))) = true := by rw [hoo]; exact hww
        clear hwr hww hoo
        go_wp2_with (go_at_call 30; ((with_reducible refine (wrap_any _ _).mono ?_); rintro e wq ⟨rfl, rfl⟩))
        go_ret
        exact ⟨by simp, HBW.out⟩
end Go.Proofs.Ytgbcamegidloaaa
