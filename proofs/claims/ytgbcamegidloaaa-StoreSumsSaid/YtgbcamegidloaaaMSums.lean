/- Whatever harts add, one by one, to one word, the word is the sum. -/
import Derived.Test.YtgbcamegidloaaaMOpen
import Derived.Test.YtgbcamegidloaaaMSumsP
namespace Go.Proofs.Ytgbcamegidloaaa
open Go.RowKit Mm
set_option linter.unusedVariables false
set_option linter.unusedSimpArgs false
set_option maxRecDepth 100000 in
set_option maxHeartbeats 8000000 in
theorem sums_walk {w : World} {P : Option Addr} {N C : Nat} {raw : List Q4} (hn : raw.length = N) (hQ : TrisQ w P raw) (hN : N ≤ 9223372036854775807) :
    Calls Try.prog 9 #[.slice P N C] w fun e w' => e = .returned (.bool true) ∧ Bel w w' := by
  have HQ0 := Lib.hid hQ
  have HRN := Lib.hid hn
  have h63 := hN
  clear hQ hn
  obtain ⟨m0, hnew, hsm⟩ := sm_new
  have HNEW := Lib.hid hnew
  have HSM0 := Lib.hid hsm
  clear hnew hsm
  have HBW : Hid (Bel w w) := Lib.hid (Bel.refl w)
  go_enter Try.func9, Try.ntmps9
  go_wp2_with fail
  refine (awake_any _).mono ?_
  rintro e W1 ⟨rfl, hb⟩
  have HBW := Lib.hid (HBW.out.trans hb)
  clear hb
  go_wp2_with fail
  refine (new_lit HNEW.out _).mono ?_
  rintro e W2 ⟨u, rfl, hb, hq⟩
  have HBW := Lib.hid (HBW.out.trans hb)
  have HQu : Hid (MemAt 0 W2 u m0) := Lib.hid (hq.mono (Nat.zero_le _))
  clear hb hq
  go_upto_region 3 with (fail)
  have hnew : (W2.alloc (.cells #[.slice u.w.p u.w.n u.w.c, .slice u.p.p u.p.n u.p.c, .slice u.r.p u.r.n u.r.c] 27)).heap[W2.heap.size]? = some (.cells #[.slice u.w.p u.w.n u.w.c, .slice u.p.p u.p.n u.p.c, .slice u.r.p u.r.n u.r.c] 27 (0, 0)) := heap_alloc_new W2 _
  have hb : Bel W2 (W2.alloc (.cells #[.slice u.w.p u.w.n u.w.c, .slice u.p.p u.p.n u.p.c, .slice u.r.p u.r.n u.r.c] 27)) := (Bel.refl W2).alloc _ _
  have hge : w.heap.size ≤ W2.heap.size := HBW.out.size
  generalize hWW : (W2.alloc (.cells #[.slice u.w.p u.w.n u.w.c, .slice u.p.p u.p.n u.p.c, .slice u.r.p u.r.n u.r.c] 27)) = W3 at hnew hb ⊢
  clear hWW
  have HBW := Lib.hid (HBW.out.trans hb)
  have HQu := Lib.hid (HQu.out.bel hb)
  generalize W2.heap.size = g4 at hnew hge  ⊢
  have HX4 := Lib.hid hnew
  have HGE4 := Lib.hid hge
  clear hnew hb hge
  go_wp2_with fail
  go_loopw [6, 7] (fun sv i wr => ∃ (k : Nat) (m : Mem) (sum : Int) (u : Mv), k ≤ N ∧ k ≤ 40 ∧ sv = .int .i64 sum ∧ i = .int .i64 k ∧ Hid (Bel w wr) ∧ Hid (wr.heap[g4]? = some (.cells #[.slice u.w.p u.w.n u.w.c, .slice u.p.p u.p.n u.p.c, .slice u.r.p u.r.n u.r.c] 27 (0, 0))) ∧ Hid (MemAt 0 wr u m) ∧ Hid (Sm m sum)) (fun _ i _ => 40 - (intOf i).toNat)
  case atStart => exact ⟨0, m0, 0, u, Nat.zero_le _, Nat.zero_le _, rfl, rfl, HBW, HX4, HQu, HSM0⟩
  case round =>
    clear HX4 HQu HSM0 HBW
    obtain ⟨k, m, sum, u, hkN, hk40, rfl, rfl, HBW, HX4, HQu, HSM⟩ := hrel
    by_cases hlt : k < N
    · by_cases hl4 : k < 40
      · obtain ⟨⟨x1, x2, x3, x4⟩, hx⟩ : ∃ x, raw[k]? = some x := ⟨_, List.getElem?_eq_getElem (by rw [HRN.out]; exact hlt)⟩
        obtain ⟨i1, i2, i3, i4, b, o, rfl, hbl, d0, d1, d2, d3⟩ := HQ0.out k _ hx
        have HI1 := Lib.hid i1
        have HI2 := Lib.hid i2
        have HI3 := Lib.hid i3
        have HI4 := Lib.hid i4
        have HBL := Lib.hid hbl
        have HC0 := Lib.hid d0
        have HC1 := Lib.hid d1
        have HC2 := Lib.hid d2
        have HC3 := Lib.hid d3
        have hlt2 : (k : Int) < N := by omega
        have hl42 : (k : Int) < 40 := by omega
        clear i1 i2 i3 i4 hx hbl d0 d1 d2 d3
        obtain ⟨hn, hhn⟩ : ∃ hn : Nat, pick x2 3 = (hn : Int) := ⟨(pick x2 3).toNat, by have := pick_bd x2 (n := 3) (by omega); omega⟩
        have HLh : Hid (hn < 3) := Lib.hid (by have := pick_bd x2 (n := 3) (by omega); omega)
        have HPH := Lib.hid hhn
        clear hhn
        have c0 := (HBW.out.cell (p := ⟨b, _, none⟩) HBL.out).trans HC0.out
        have c1 := (HBW.out.cell (p := ⟨b, _, none⟩) HBL.out).trans HC1.out
        have k40 := cell_of_heap HX4.out 0
        have k41 := cell_of_heap HX4.out 1
        have k42 := cell_of_heap HX4.out 2
        simp only [List.getElem?_toArray, List.getElem?_cons_zero, List.getElem?_cons_succ] at k40 k41 k42
        go_upto_region 8 with (go_at_call 15; ((with_reducible refine (pick_lit HPH.out HI2.out (by decide) _).mono ?_); rintro e wq ⟨rfl, rfl⟩))
        clear c0 c1
        go_upto_region 9 with (fail)
        clear k40 k41 k42
        have hnew : (wr.alloc (.cells #[.slice u.w.p u.w.n u.w.c, .slice u.p.p u.p.n u.p.c, .slice u.r.p u.r.n u.r.c] 27)).heap[wr.heap.size]? = some (.cells #[.slice u.w.p u.w.n u.w.c, .slice u.p.p u.p.n u.p.c, .slice u.r.p u.r.n u.r.c] 27 (0, 0)) := heap_alloc_new wr _
        have hb : Bel wr (wr.alloc (.cells #[.slice u.w.p u.w.n u.w.c, .slice u.p.p u.p.n u.p.c, .slice u.r.p u.r.n u.r.c] 27)) := (Bel.refl wr).alloc _ _
        have hge : w.heap.size ≤ wr.heap.size := HBW.out.size
        have HN49 : Hid (g4 ≠ wr.heap.size) := Lib.hid (by have := lt_of_heap HX4.out; omega)
        generalize hWW : (wr.alloc (.cells #[.slice u.w.p u.w.n u.w.c, .slice u.p.p u.p.n u.p.c, .slice u.r.p u.r.n u.r.c] 27)) = W1 at hnew hb ⊢
        clear hWW
        have HBW := Lib.hid (HBW.out.trans hb)
        have HX4 := Lib.hid (Bel.stays hb HX4.out)
        have HQu := Lib.hid (HQu.out.bel hb)
        generalize wr.heap.size = g9 at hnew hge HN49 ⊢
        have HX9 := Lib.hid hnew
        have HGE9 := Lib.hid hge
        clear hnew hb hge
        have k40 := cell_of_heap HX4.out 0
        have k41 := cell_of_heap HX4.out 1
        have k42 := cell_of_heap HX4.out 2
        have k90 := cell_of_heap HX9.out 0
        have y90 := frozen_of_heap HX9.out 0
        have k91 := cell_of_heap HX9.out 1
        have y91 := frozen_of_heap HX9.out 1
        have k92 := cell_of_heap HX9.out 2
        have y92 := frozen_of_heap HX9.out 2
        simp only [List.getElem?_toArray, List.getElem?_cons_zero, List.getElem?_cons_succ] at k40 k41 k42 k90 k91 k92
        have c0 := (HBW.out.cell (p := ⟨b, _, none⟩) HBL.out).trans HC0.out
        have c1 := (HBW.out.cell (p := ⟨b, _, none⟩) HBL.out).trans HC1.out
        have c2 := (HBW.out.cell (p := ⟨b, _, none⟩) HBL.out).trans HC2.out
        have c3 := (HBW.out.cell (p := ⟨b, _, none⟩) HBL.out).trans HC3.out
        have hkind := pick_bd x1 (n := 3) (by omega)
        have hkc : pick x1 3 = 0 ∨ pick x1 3 = 1 ∨ pick x1 3 = 2 := by omega
        clear hkind
        rcases hkc with hk0 | hk0 | hk0
        · have HPK := Lib.hid hk0
          clear hk0
          obtain ⟨q, m2, r, hr⟩ : ∃ q m2 r, changeV m hn 0 1 x4 = (q, m2, r) := ⟨_, _, _, rfl⟩
          have HR := Lib.hid hr
          have HS2 := Lib.hid (sm_change HSM.out HLh.out hr)
          clear hr
          go_upto_region 14 with (go_at_call 15; ((with_reducible refine (pick_lit HPK.out HI1.out (by decide) _).mono ?_); rintro e wq ⟨rfl, rfl⟩))
          clear y90 y91 y92 k40 k41 k42 k90 k91 k92 c0 c1 c2 c3
          have HKEEP : Hid (∀ w', Bel W1 w' → w'.cell? ⟨g4, 0, none⟩ = some (.slice u.w.p u.w.n u.w.c) ∧ w'.cell? ⟨g4, 1, none⟩ = some (.slice u.p.p u.p.n u.p.c) ∧ w'.cell? ⟨g4, 2, none⟩ = some (.slice u.r.p u.r.n u.r.c) ∧ w'.cell? ⟨b, o + k * 4 + 3, none⟩ = some (.int .i64 x4)) := Lib.hid (fun w' h => by
            have h1 := h.stays HX4.out
            exact ⟨cell_of_heap h1 0, cell_of_heap h1 1, cell_of_heap h1 2, ((HBW.out.trans h).cell (p := ⟨b, _, none⟩) HBL.out).trans HC3.out⟩)
          have HKEEP2 : Hid (∀ w' w'', Bel W1 w' → Svg g9 w' w'' → w''.cell? ⟨g4, 0, none⟩ = some (.slice u.w.p u.w.n u.w.c) ∧ w''.cell? ⟨g4, 1, none⟩ = some (.slice u.p.p u.p.n u.p.c) ∧ w''.cell? ⟨g4, 2, none⟩ = some (.slice u.r.p u.r.n u.r.c) ∧ w''.cell? ⟨b, o + k * 4 + 3, none⟩ = some (.int .i64 x4)) := Lib.hid (fun w' w'' h hs => by
            have h1 := (hs.block _ (lt_of_heap (h.stays HX4.out)) HN49.out).trans (h.stays HX4.out)
            have h2 := hs.bel (HBW.out.trans h) HGE9.out
            exact ⟨cell_of_heap h1 0, cell_of_heap h1 1, cell_of_heap h1 2, (h2.cell (p := ⟨b, _, none⟩) HBL.out).trans HC3.out⟩)
          have HBC : Hid (Bel W1 W1.drew) := Lib.hid (Bel.refl W1).drew
          go_region_held3 (fun w' => w'.cell? ⟨g4, 0, none⟩ = some (.slice u.w.p u.w.n u.w.c) ∧ w'.cell? ⟨g4, 1, none⟩ = some (.slice u.p.p u.p.n u.p.c) ∧ w'.cell? ⟨g4, 2, none⟩ = some (.slice u.r.p u.r.n u.r.c) ∧ w'.cell? ⟨b, o + k * 4 + 3, none⟩ = some (.int .i64 x4))
            (first | exact HKEEP.out _ HBC.out | exact HKEEP.out _ (Bel.refl _) | exact HKEEP2.out _ _ HBC.out (((Svg.set _ _ _ _).trans (Svg.set _ _ _ _)).trans (Svg.set _ _ _ _)))
            (first | (go_at_call 28; ((with_reducible refine (change_lit (HQu.out.bel HBC.out) HSM.out.big.ok HR.out).mono ?_); rintro e wz ⟨v, rfl, hbz, hmz⟩; have HMZ := Lib.hid (hmz.mono (Nat.zero_le _)); have y90 := frozen_of_heap (hbz.stays (HBC.out.stays HX9.out)) 0; have k90 := cell_of_heap (hbz.stays (HBC.out.stays HX9.out)) 0; have y91 := frozen_of_heap (hbz.stays (HBC.out.stays HX9.out)) 1; have k91 := cell_of_heap (hbz.stays (HBC.out.stays HX9.out)) 1; have y92 := frozen_of_heap (hbz.stays (HBC.out.stays HX9.out)) 2; have k92 := cell_of_heap (hbz.stays (HBC.out.stays HX9.out)) 2; simp only [List.getElem?_toArray, List.getElem?_cons_zero, List.getElem?_cons_succ] at k90 k91 k92; have HBC := Lib.hid (HBC.out.trans hbz); clear hbz hmz)))
          go_upto_region 15 with (fail)
          clear y90 y91 y92 k90 k91 k92 HKEEP HKEEP2
          have hb := HBC.out
          have HBW := Lib.hid (HBW.out.trans hb)
          have HX4 := Lib.hid (Bel.stays hb HX4.out)
          have HX9 := Lib.hid (Bel.stays hb HX9.out)
          have HQu := Lib.hid (HQu.out.bel hb)
          have HQv := HMZ
          clear hb
          have hs3 : Svg g9 wz (((wz.setCell ⟨g9, 0, none⟩ (.slice v.w.p v.w.n v.w.c)).setCell ⟨g9, 1, none⟩ (.slice v.p.p v.p.n v.p.c)).setCell ⟨g9, 2, none⟩ (.slice v.r.p v.r.n v.r.c)) := set3_svg wz g9 (.slice v.w.p v.w.n v.w.c) (.slice v.p.p v.p.n v.p.c) (.slice v.r.p v.r.n v.r.c)
          have hh := set3_heap HX9.out (.slice v.w.p v.w.n v.w.c) (.slice v.p.p v.p.n v.p.c) (.slice v.r.p v.r.n v.r.c)
          generalize hWW : (((wz.setCell ⟨g9, 0, none⟩ (.slice v.w.p v.w.n v.w.c)).setCell ⟨g9, 1, none⟩ (.slice v.p.p v.p.n v.p.c)).setCell ⟨g9, 2, none⟩ (.slice v.r.p v.r.n v.r.c)) = W2 at hs3 hh ⊢
          clear hWW
          have HBW := Lib.hid (hs3.bel HBW.out HGE9.out)
          have HX4 := Lib.hid ((hs3.block _ (lt_of_heap HX4.out) HN49.out).trans HX4.out)
          have HQu := Lib.hid (HQu.out.keep hs3 HX9.out (by decide) (by decide) (by decide))
          have HQv := Lib.hid (HQv.out.keep hs3 HX9.out (by decide) (by decide) (by decide))
          have HX9 := Lib.hid hh
          clear hs3 hh
          by_cases hz : r = 0
          · have hrz : (r == 0) = true := by rw [hz]; rfl
            obtain ⟨hqs, hs2⟩ := HS2.out hz
            have HS3 := Lib.hid hs2
            subst hqs
            clear hs2 HS2 hz
            have hqq : (q != q) = false := by simp
            have c3 := (HBW.out.cell (p := ⟨b, _, none⟩) HBL.out).trans HC3.out
            have k90 := cell_of_heap HX9.out 0
            have k91 := cell_of_heap HX9.out 1
            have k92 := cell_of_heap HX9.out 2
            have k40 := cell_of_heap HX4.out 0
            have y40 := frozen_of_heap HX4.out 0
            have k41 := cell_of_heap HX4.out 1
            have y41 := frozen_of_heap HX4.out 1
            have k42 := cell_of_heap HX4.out 2
            have y42 := frozen_of_heap HX4.out 2
            simp only [List.getElem?_toArray, List.getElem?_cons_zero, List.getElem?_cons_succ] at k90 k91 k92 k40 k41 k42
            go_upto_region 22 with (go_at_call 32; ((with_reducible refine (two_val rfl rfl _).mono ?_); rintro e wq ⟨rfl, rfl⟩))
            go_upto_region 6 with (fail)
            clear c3 y40 y41 y42 k90 k91 k92 k40 k41 k42
            have hs3 : Svg g4 W2 (((W2.setCell ⟨g4, 0, none⟩ (.slice v.w.p v.w.n v.w.c)).setCell ⟨g4, 1, none⟩ (.slice v.p.p v.p.n v.p.c)).setCell ⟨g4, 2, none⟩ (.slice v.r.p v.r.n v.r.c)) := set3_svg W2 g4 (.slice v.w.p v.w.n v.w.c) (.slice v.p.p v.p.n v.p.c) (.slice v.r.p v.r.n v.r.c)
            have hh := set3_heap HX4.out (.slice v.w.p v.w.n v.w.c) (.slice v.p.p v.p.n v.p.c) (.slice v.r.p v.r.n v.r.c)
            generalize hWW : (((W2.setCell ⟨g4, 0, none⟩ (.slice v.w.p v.w.n v.w.c)).setCell ⟨g4, 1, none⟩ (.slice v.p.p v.p.n v.p.c)).setCell ⟨g4, 2, none⟩ (.slice v.r.p v.r.n v.r.c)) = W3 at hs3 hh ⊢
            clear hWW
            have HBW := Lib.hid (hs3.bel HBW.out HGE4.out)
            have HX9 := Lib.hid ((hs3.block _ (lt_of_heap HX9.out) HN49.out.symm).trans HX9.out)
            have HQu := Lib.hid (HQu.out.keep hs3 HX4.out (by decide) (by decide) (by decide))
            have HQv := Lib.hid (HQv.out.keep hs3 HX4.out (by decide) (by decide) (by decide))
            have HX4 := Lib.hid hh
            clear hs3 hh
            go_wp2
            exact ⟨⟨k + 1, m2, _, v, by omega, by omega, rfl, by go_num, HBW, HX4, HQv, HS3⟩, by simp [intOf]; try omega⟩
          · have hrz : (r == 0) = false := beq_eq_false_iff_ne.2 hz
            clear hz HS2
            go_wp2
            exact ⟨⟨k + 1, m, _, u, by omega, by omega, rfl, by go_num, HBW, HX4, HQu, HSM⟩, by simp [intOf]; try omega⟩
        · have HPK := Lib.hid hk0
          clear hk0
          obtain ⟨an, han⟩ : ∃ an : Nat, pick x3 3 = (an : Int) := ⟨(pick x3 3).toNat, by have := pick_bd x3 (n := 3) (by omega); omega⟩
          have hal : an < 3 := by have := pick_bd x3 (n := 3) (by omega); omega
          have HPA := Lib.hid han
          have han1 : (1 : Int) + (an : Int) = ((1 + an : Nat) : Int) := by omega
          have HAN1 := Lib.hid han1
          obtain ⟨m2, r, hr⟩ : ∃ m2 r, storeV m hn (1 + (an : Int)) x4 = (m2, r) := ⟨_, _, rfl⟩
          have hww : IntKind.i64.wrap (1 + (an : Int)) = 1 + (an : Int) := IntWalk.i64_in _ (by constructor <;> omega)
          have HR : Hid (storeV m hn (IntKind.i64.wrap (1 + (an : Int))) x4 = (m2, r)) := Lib.hid (by rw [hww]; exact hr)
          clear hww
          have HS2 := Lib.hid (sm_store HSM.out HLh.out (a := 1 + an) (by omega) (by omega) (show storeV m hn ((1 + an : Nat) : Int) x4 = (m2, r) by rw [← han1]; exact hr))
          clear hr han han1 hal
          go_upto_region 20 with (go_at_call 15; ((with_reducible refine (pick_lit HPK.out HI1.out (by decide) _).mono ?_); rintro e wq ⟨rfl, rfl⟩))
          clear y90 y91 y92 k40 k41 k42 k90 k91 k92 c0 c1 c2 c3
          have HKEEP : Hid (∀ w', Bel W1 w' → w'.cell? ⟨g4, 0, none⟩ = some (.slice u.w.p u.w.n u.w.c) ∧ w'.cell? ⟨g4, 1, none⟩ = some (.slice u.p.p u.p.n u.p.c) ∧ w'.cell? ⟨g4, 2, none⟩ = some (.slice u.r.p u.r.n u.r.c) ∧ w'.cell? ⟨b, o + k * 4 + 2, none⟩ = some (.int .i64 x3) ∧ w'.cell? ⟨b, o + k * 4 + 3, none⟩ = some (.int .i64 x4)) := Lib.hid (fun w' h => by
            have h1 := h.stays HX4.out
            exact ⟨cell_of_heap h1 0, cell_of_heap h1 1, cell_of_heap h1 2, ((HBW.out.trans h).cell (p := ⟨b, _, none⟩) HBL.out).trans HC2.out, ((HBW.out.trans h).cell (p := ⟨b, _, none⟩) HBL.out).trans HC3.out⟩)
          have HKEEP2 : Hid (∀ w' w'', Bel W1 w' → Svg g9 w' w'' → w''.cell? ⟨g4, 0, none⟩ = some (.slice u.w.p u.w.n u.w.c) ∧ w''.cell? ⟨g4, 1, none⟩ = some (.slice u.p.p u.p.n u.p.c) ∧ w''.cell? ⟨g4, 2, none⟩ = some (.slice u.r.p u.r.n u.r.c) ∧ w''.cell? ⟨b, o + k * 4 + 2, none⟩ = some (.int .i64 x3) ∧ w''.cell? ⟨b, o + k * 4 + 3, none⟩ = some (.int .i64 x4)) := Lib.hid (fun w' w'' h hs => by
            have h1 := (hs.block _ (lt_of_heap (h.stays HX4.out)) HN49.out).trans (h.stays HX4.out)
            have h2 := hs.bel (HBW.out.trans h) HGE9.out
            exact ⟨cell_of_heap h1 0, cell_of_heap h1 1, cell_of_heap h1 2, (h2.cell (p := ⟨b, _, none⟩) HBL.out).trans HC2.out, (h2.cell (p := ⟨b, _, none⟩) HBL.out).trans HC3.out⟩)
          have HBC : Hid (Bel W1 W1.drew) := Lib.hid (Bel.refl W1).drew
          go_region_held3 (fun w' => w'.cell? ⟨g4, 0, none⟩ = some (.slice u.w.p u.w.n u.w.c) ∧ w'.cell? ⟨g4, 1, none⟩ = some (.slice u.p.p u.p.n u.p.c) ∧ w'.cell? ⟨g4, 2, none⟩ = some (.slice u.r.p u.r.n u.r.c) ∧ w'.cell? ⟨b, o + k * 4 + 2, none⟩ = some (.int .i64 x3) ∧ w'.cell? ⟨b, o + k * 4 + 3, none⟩ = some (.int .i64 x4))
            (first | exact HKEEP.out _ HBC.out | exact HKEEP.out _ (Bel.refl _) | exact HKEEP2.out _ _ HBC.out (((Svg.set _ _ _ _).trans (Svg.set _ _ _ _)).trans (Svg.set _ _ _ _)))
            (first | (go_at_call 15; ((with_reducible refine (pick_lit HPA.out HI3.out (by decide) _).mono ?_); rintro e wq ⟨rfl, rfl⟩)) | (go_at_call 18; ((with_reducible refine (store_lit (HQu.out.bel HBC.out) HSM.out.big.ok HR.out).mono ?_); rintro e wz ⟨v, rfl, hbz, hmz⟩; have HMZ := Lib.hid (hmz.mono (Nat.zero_le _)); have y90 := frozen_of_heap (hbz.stays (HBC.out.stays HX9.out)) 0; have k90 := cell_of_heap (hbz.stays (HBC.out.stays HX9.out)) 0; have y91 := frozen_of_heap (hbz.stays (HBC.out.stays HX9.out)) 1; have k91 := cell_of_heap (hbz.stays (HBC.out.stays HX9.out)) 1; have y92 := frozen_of_heap (hbz.stays (HBC.out.stays HX9.out)) 2; have k92 := cell_of_heap (hbz.stays (HBC.out.stays HX9.out)) 2; simp only [List.getElem?_toArray, List.getElem?_cons_zero, List.getElem?_cons_succ] at k90 k91 k92; have HBC := Lib.hid (HBC.out.trans hbz); clear hbz hmz)))
          go_upto_region 21 with (fail)
          clear y90 y91 y92 k90 k91 k92 HKEEP HKEEP2
          have hb := HBC.out
          have HBW := Lib.hid (HBW.out.trans hb)
          have HX4 := Lib.hid (Bel.stays hb HX4.out)
          have HX9 := Lib.hid (Bel.stays hb HX9.out)
          have HQu := Lib.hid (HQu.out.bel hb)
          have HQv := HMZ
          clear hb
          have hs3 : Svg g9 wz (((wz.setCell ⟨g9, 0, none⟩ (.slice v.w.p v.w.n v.w.c)).setCell ⟨g9, 1, none⟩ (.slice v.p.p v.p.n v.p.c)).setCell ⟨g9, 2, none⟩ (.slice v.r.p v.r.n v.r.c)) := set3_svg wz g9 (.slice v.w.p v.w.n v.w.c) (.slice v.p.p v.p.n v.p.c) (.slice v.r.p v.r.n v.r.c)
          have hh := set3_heap HX9.out (.slice v.w.p v.w.n v.w.c) (.slice v.p.p v.p.n v.p.c) (.slice v.r.p v.r.n v.r.c)
          generalize hWW : (((wz.setCell ⟨g9, 0, none⟩ (.slice v.w.p v.w.n v.w.c)).setCell ⟨g9, 1, none⟩ (.slice v.p.p v.p.n v.p.c)).setCell ⟨g9, 2, none⟩ (.slice v.r.p v.r.n v.r.c)) = W2 at hs3 hh ⊢
          clear hWW
          have HBW := Lib.hid (hs3.bel HBW.out HGE9.out)
          have HX4 := Lib.hid ((hs3.block _ (lt_of_heap HX4.out) HN49.out).trans HX4.out)
          have HQu := Lib.hid (HQu.out.keep hs3 HX9.out (by decide) (by decide) (by decide))
          have HQv := Lib.hid (HQv.out.keep hs3 HX9.out (by decide) (by decide) (by decide))
          have HX9 := Lib.hid hh
          clear hs3 hh
          by_cases hz : r = 0
          · have hrz : (r == 0) = true := by rw [hz]; rfl
            have HS3 := Lib.hid (HS2.out hz)
            clear HS2 hz
            have k90 := cell_of_heap HX9.out 0
            have k91 := cell_of_heap HX9.out 1
            have k92 := cell_of_heap HX9.out 2
            have k40 := cell_of_heap HX4.out 0
            have y40 := frozen_of_heap HX4.out 0
            have k41 := cell_of_heap HX4.out 1
            have y41 := frozen_of_heap HX4.out 1
            have k42 := cell_of_heap HX4.out 2
            have y42 := frozen_of_heap HX4.out 2
            simp only [List.getElem?_toArray, List.getElem?_cons_zero, List.getElem?_cons_succ] at k90 k91 k92 k40 k41 k42
            go_upto_region 22 with (fail)
            go_upto_region 6 with (fail)
            clear y40 y41 y42 k90 k91 k92 k40 k41 k42
            have hs3 : Svg g4 W2 (((W2.setCell ⟨g4, 0, none⟩ (.slice v.w.p v.w.n v.w.c)).setCell ⟨g4, 1, none⟩ (.slice v.p.p v.p.n v.p.c)).setCell ⟨g4, 2, none⟩ (.slice v.r.p v.r.n v.r.c)) := set3_svg W2 g4 (.slice v.w.p v.w.n v.w.c) (.slice v.p.p v.p.n v.p.c) (.slice v.r.p v.r.n v.r.c)
            have hh := set3_heap HX4.out (.slice v.w.p v.w.n v.w.c) (.slice v.p.p v.p.n v.p.c) (.slice v.r.p v.r.n v.r.c)
            generalize hWW : (((W2.setCell ⟨g4, 0, none⟩ (.slice v.w.p v.w.n v.w.c)).setCell ⟨g4, 1, none⟩ (.slice v.p.p v.p.n v.p.c)).setCell ⟨g4, 2, none⟩ (.slice v.r.p v.r.n v.r.c)) = W3 at hs3 hh ⊢
            clear hWW
            have HBW := Lib.hid (hs3.bel HBW.out HGE4.out)
            have HX9 := Lib.hid ((hs3.block _ (lt_of_heap HX9.out) HN49.out.symm).trans HX9.out)
            have HQu := Lib.hid (HQu.out.keep hs3 HX4.out (by decide) (by decide) (by decide))
            have HQv := Lib.hid (HQv.out.keep hs3 HX4.out (by decide) (by decide) (by decide))
            have HX4 := Lib.hid hh
            clear hs3 hh
            go_wp2
            exact ⟨⟨k + 1, m2, _, v, by omega, by omega, rfl, by go_num, HBW, HX4, HQv, HS3⟩, by simp [intOf]; try omega⟩
          · have hrz : (r == 0) = false := beq_eq_false_iff_ne.2 hz
            clear hz HS2
            go_wp2
            exact ⟨⟨k + 1, m, _, u, by omega, by omega, rfl, by go_num, HBW, HX4, HQu, HSM⟩, by simp [intOf]; try omega⟩
        · have HPK := Lib.hid hk0
          clear hk0
          obtain ⟨kn, hkn⟩ : ∃ kn : Nat, pick x3 8 = (kn : Int) := ⟨(pick x3 8).toNat, by have := pick_bd x3 (n := 8) (by omega); omega⟩
          have HPA := Lib.hid hkn
          obtain ⟨m2, r, hr⟩ : ∃ m2 r, drainV m hn kn = (m2, r) := ⟨_, _, rfl⟩
          have HR := Lib.hid hr
          have HS2 := Lib.hid (sm_drain HSM.out hr)
          clear hr hkn
          go_upto_region 11 with (go_at_call 15; ((with_reducible refine (pick_lit HPK.out HI1.out (by decide) _).mono ?_); rintro e wq ⟨rfl, rfl⟩))
          clear y90 y91 y92 k40 k41 k42 k90 k91 k92 c0 c1 c2 c3
          have HKEEP : Hid (∀ w', Bel W1 w' → w'.cell? ⟨g4, 0, none⟩ = some (.slice u.w.p u.w.n u.w.c) ∧ w'.cell? ⟨g4, 1, none⟩ = some (.slice u.p.p u.p.n u.p.c) ∧ w'.cell? ⟨g4, 2, none⟩ = some (.slice u.r.p u.r.n u.r.c) ∧ w'.cell? ⟨b, o + k * 4 + 2, none⟩ = some (.int .i64 x3)) := Lib.hid (fun w' h => by
            have h1 := h.stays HX4.out
            exact ⟨cell_of_heap h1 0, cell_of_heap h1 1, cell_of_heap h1 2, ((HBW.out.trans h).cell (p := ⟨b, _, none⟩) HBL.out).trans HC2.out⟩)
          have HKEEP2 : Hid (∀ w' w'', Bel W1 w' → Svg g9 w' w'' → w''.cell? ⟨g4, 0, none⟩ = some (.slice u.w.p u.w.n u.w.c) ∧ w''.cell? ⟨g4, 1, none⟩ = some (.slice u.p.p u.p.n u.p.c) ∧ w''.cell? ⟨g4, 2, none⟩ = some (.slice u.r.p u.r.n u.r.c) ∧ w''.cell? ⟨b, o + k * 4 + 2, none⟩ = some (.int .i64 x3)) := Lib.hid (fun w' w'' h hs => by
            have h1 := (hs.block _ (lt_of_heap (h.stays HX4.out)) HN49.out).trans (h.stays HX4.out)
            have h2 := hs.bel (HBW.out.trans h) HGE9.out
            exact ⟨cell_of_heap h1 0, cell_of_heap h1 1, cell_of_heap h1 2, (h2.cell (p := ⟨b, _, none⟩) HBL.out).trans HC2.out⟩)
          have HBC : Hid (Bel W1 W1.drew) := Lib.hid (Bel.refl W1).drew
          go_region_held3 (fun w' => w'.cell? ⟨g4, 0, none⟩ = some (.slice u.w.p u.w.n u.w.c) ∧ w'.cell? ⟨g4, 1, none⟩ = some (.slice u.p.p u.p.n u.p.c) ∧ w'.cell? ⟨g4, 2, none⟩ = some (.slice u.r.p u.r.n u.r.c) ∧ w'.cell? ⟨b, o + k * 4 + 2, none⟩ = some (.int .i64 x3))
            (first | exact HKEEP.out _ HBC.out | exact HKEEP.out _ (Bel.refl _) | exact HKEEP2.out _ _ HBC.out (((Svg.set _ _ _ _).trans (Svg.set _ _ _ _)).trans (Svg.set _ _ _ _)))
            (first | (go_at_call 15; ((with_reducible refine (pick_lit HPA.out HI3.out (by decide) _).mono ?_); rintro e wq ⟨rfl, rfl⟩)) | (go_at_call 20; ((with_reducible refine (drain_lit (HQu.out.bel HBC.out) HSM.out.big.ok HR.out).mono ?_); rintro e wz ⟨v, rfl, hbz, hmz⟩; have HMZ := Lib.hid (hmz.mono (Nat.zero_le _)); have y90 := frozen_of_heap (hbz.stays (HBC.out.stays HX9.out)) 0; have k90 := cell_of_heap (hbz.stays (HBC.out.stays HX9.out)) 0; have y91 := frozen_of_heap (hbz.stays (HBC.out.stays HX9.out)) 1; have k91 := cell_of_heap (hbz.stays (HBC.out.stays HX9.out)) 1; have y92 := frozen_of_heap (hbz.stays (HBC.out.stays HX9.out)) 2; have k92 := cell_of_heap (hbz.stays (HBC.out.stays HX9.out)) 2; simp only [List.getElem?_toArray, List.getElem?_cons_zero, List.getElem?_cons_succ] at k90 k91 k92; have HBC := Lib.hid (HBC.out.trans hbz); clear hbz hmz)))
          go_upto_region 21 with (fail)
          clear y90 y91 y92 k90 k91 k92 HKEEP HKEEP2
          have hb := HBC.out
          have HBW := Lib.hid (HBW.out.trans hb)
          have HX4 := Lib.hid (Bel.stays hb HX4.out)
          have HX9 := Lib.hid (Bel.stays hb HX9.out)
          have HQu := Lib.hid (HQu.out.bel hb)
          have HQv := HMZ
          clear hb
          have hs3 : Svg g9 wz (((wz.setCell ⟨g9, 0, none⟩ (.slice v.w.p v.w.n v.w.c)).setCell ⟨g9, 1, none⟩ (.slice v.p.p v.p.n v.p.c)).setCell ⟨g9, 2, none⟩ (.slice v.r.p v.r.n v.r.c)) := set3_svg wz g9 (.slice v.w.p v.w.n v.w.c) (.slice v.p.p v.p.n v.p.c) (.slice v.r.p v.r.n v.r.c)
          have hh := set3_heap HX9.out (.slice v.w.p v.w.n v.w.c) (.slice v.p.p v.p.n v.p.c) (.slice v.r.p v.r.n v.r.c)
          generalize hWW : (((wz.setCell ⟨g9, 0, none⟩ (.slice v.w.p v.w.n v.w.c)).setCell ⟨g9, 1, none⟩ (.slice v.p.p v.p.n v.p.c)).setCell ⟨g9, 2, none⟩ (.slice v.r.p v.r.n v.r.c)) = W2 at hs3 hh ⊢
          clear hWW
          have HBW := Lib.hid (hs3.bel HBW.out HGE9.out)
          have HX4 := Lib.hid ((hs3.block _ (lt_of_heap HX4.out) HN49.out).trans HX4.out)
          have HQu := Lib.hid (HQu.out.keep hs3 HX9.out (by decide) (by decide) (by decide))
          have HQv := Lib.hid (HQv.out.keep hs3 HX9.out (by decide) (by decide) (by decide))
          have HX9 := Lib.hid hh
          clear hs3 hh
          by_cases hz : r = 0
          · have hrz : (r == 0) = true := by rw [hz]; rfl
            have HS3 := Lib.hid (HS2.out hz)
            clear HS2 hz
            have k90 := cell_of_heap HX9.out 0
            have k91 := cell_of_heap HX9.out 1
            have k92 := cell_of_heap HX9.out 2
            have k40 := cell_of_heap HX4.out 0
            have y40 := frozen_of_heap HX4.out 0
            have k41 := cell_of_heap HX4.out 1
            have y41 := frozen_of_heap HX4.out 1
            have k42 := cell_of_heap HX4.out 2
            have y42 := frozen_of_heap HX4.out 2
            simp only [List.getElem?_toArray, List.getElem?_cons_zero, List.getElem?_cons_succ] at k90 k91 k92 k40 k41 k42
            go_upto_region 22 with (fail)
            go_upto_region 6 with (fail)
            clear y40 y41 y42 k90 k91 k92 k40 k41 k42
            have hs3 : Svg g4 W2 (((W2.setCell ⟨g4, 0, none⟩ (.slice v.w.p v.w.n v.w.c)).setCell ⟨g4, 1, none⟩ (.slice v.p.p v.p.n v.p.c)).setCell ⟨g4, 2, none⟩ (.slice v.r.p v.r.n v.r.c)) := set3_svg W2 g4 (.slice v.w.p v.w.n v.w.c) (.slice v.p.p v.p.n v.p.c) (.slice v.r.p v.r.n v.r.c)
            have hh := set3_heap HX4.out (.slice v.w.p v.w.n v.w.c) (.slice v.p.p v.p.n v.p.c) (.slice v.r.p v.r.n v.r.c)
            generalize hWW : (((W2.setCell ⟨g4, 0, none⟩ (.slice v.w.p v.w.n v.w.c)).setCell ⟨g4, 1, none⟩ (.slice v.p.p v.p.n v.p.c)).setCell ⟨g4, 2, none⟩ (.slice v.r.p v.r.n v.r.c)) = W3 at hs3 hh ⊢
            clear hWW
            have HBW := Lib.hid (hs3.bel HBW.out HGE4.out)
            have HX9 := Lib.hid ((hs3.block _ (lt_of_heap HX9.out) HN49.out.symm).trans HX9.out)
            have HQu := Lib.hid (HQu.out.keep hs3 HX4.out (by decide) (by decide) (by decide))
            have HQv := Lib.hid (HQv.out.keep hs3 HX4.out (by decide) (by decide) (by decide))
            have HX4 := Lib.hid hh
            clear hs3 hh
            go_wp2
            exact ⟨⟨k + 1, m2, _, v, by omega, by omega, rfl, by go_num, HBW, HX4, HQv, HS3⟩, by simp [intOf]; try omega⟩
          · have hrz : (r == 0) = false := beq_eq_false_iff_ne.2 hz
            clear hz HS2
            go_wp2
            exact ⟨⟨k + 1, m, _, u, by omega, by omega, rfl, by go_num, HBW, HX4, HQu, HSM⟩, by simp [intOf]; try omega⟩
      · have hl42 : ¬ (k : Int) < 40 := by omega
        have hlt2 : (k : Int) < N := by omega
        have HLD := Lib.hid (sm_load HSM.out)
        have k40 := cell_of_heap HX4.out 0
        have k41 := cell_of_heap HX4.out 1
        have k42 := cell_of_heap HX4.out 2
        simp only [List.getElem?_toArray, List.getElem?_cons_zero, List.getElem?_cons_succ] at k40 k41 k42
        go_wp2_with fail
        refine (load_lit HQu.out HSM.out.big.ok HLD.out).mono ?_
        rintro e W9 ⟨rfl, hb9⟩
        have HB9 := Lib.hid hb9
        clear hb9 k40 k41 k42
        go_wp2
        go_ret
        exact ⟨by simp, HBW.out.trans HB9.out⟩
    · have hlt2 : ¬ (k : Int) < N := by omega
      have HLD := Lib.hid (sm_load HSM.out)
      have k40 := cell_of_heap HX4.out 0
      have k41 := cell_of_heap HX4.out 1
      have k42 := cell_of_heap HX4.out 2
      simp only [List.getElem?_toArray, List.getElem?_cons_zero, List.getElem?_cons_succ] at k40 k41 k42
      go_wp2_with fail
      refine (load_lit HQu.out HSM.out.big.ok HLD.out).mono ?_
      rintro e W9 ⟨rfl, hb9⟩
      have HB9 := Lib.hid hb9
      clear hb9 k40 k41 k42
      go_wp2
      go_ret
      exact ⟨by simp, HBW.out.trans HB9.out⟩
end Go.Proofs.Ytgbcamegidloaaa
