/- A hart loads what it stored last, if no other one stores there, whatever was drained, and in which order. -/
import Derived.Test.YtgbcamegidloaaaMOpen
import Derived.Test.YtgbcamegidloaaaMOwnP
namespace Go.Proofs.Ytgbcamegidloaaa
open Go.RowKit Mm
set_option linter.unusedVariables false
set_option linter.unusedSimpArgs false
def cells4 (f : Nat → Int) : Array Value := #[.int .i64 (f 0), .int .i64 (f 1), .int .i64 (f 2), .int .i64 (f 3)]
theorem cells4_get (f : Nat → Int) {k : Nat} (hk : k < 4) : (cells4 f)[k]? = some (.int .i64 (f k)) := by
  rcases k with _ | _ | _ | _ | k
  · rfl
  · rfl
  · rfl
  · rfl
  · omega
theorem cells4_put (f : Nat → Int) {a : Nat} (ha : a < 4) (x : Int) : (cells4 f).setIfInBounds a (.int .i64 x) = cells4 (put4 f a x) := by
  rcases a with _ | _ | _ | _ | a
  · rfl
  · rfl
  · rfl
  · rfl
  · omega
set_option maxRecDepth 100000 in
set_option maxHeartbeats 16000000 in
theorem own_walk {w : World} {P : Option Addr} {N C : Nat} {raw : List Q4} (hn : raw.length = N) (hQ : TrisQ w P raw) (hN : N ≤ 9223372036854775807) :
    Calls Try.prog 4 #[.slice P N C] w fun e w' => e = .returned (.bool true) ∧ Bel w w' := by
  have HQ0 := Lib.hid hQ
  have HRN := Lib.hid hn
  have h63 := hN
  clear hQ hn
  obtain ⟨m0, hnew, hsm⟩ := ow_new
  have HNEW := Lib.hid hnew
  have HOW0 := Lib.hid hsm
  clear hnew hsm
  have HBW : Hid (Bel w w) := Lib.hid (Bel.refl w)
  go_enter Try.func4, Try.ntmps4
  go_wp2_with fail
  refine (awake_any _).mono ?_
  rintro e W1 ⟨rfl, hb⟩
  have HBW := Lib.hid (HBW.out.trans hb)
  clear hb
  go_wp2_with fail
  refine (new_lit HNEW.out _).mono ?_
  rintro e W2 ⟨u, rfl, hb, hq⟩
  have HBW := Lib.hid (HBW.out.trans hb)
  have HQu : Hid (MemAt 0 W2 u m0) := Lib.hid (hq.mono (Nat.zero_le _))
  clear hb hq
  go_upto_region 3 with (fail)
  have hnew : (W2.alloc (.cells #[.slice u.w.p u.w.n u.w.c, .slice u.p.p u.p.n u.p.c, .slice u.r.p u.r.n u.r.c] 27)).heap[W2.heap.size]? = some (.cells #[.slice u.w.p u.w.n u.w.c, .slice u.p.p u.p.n u.p.c, .slice u.r.p u.r.n u.r.c] 27 (0, 0)) := heap_alloc_new W2 _
  have hb : Bel W2 (W2.alloc (.cells #[.slice u.w.p u.w.n u.w.c, .slice u.p.p u.p.n u.p.c, .slice u.r.p u.r.n u.r.c] 27)) := (Bel.refl W2).alloc _ _
  have hge : w.heap.size ≤ W2.heap.size := HBW.out.size
  generalize hWW : (W2.alloc (.cells #[.slice u.w.p u.w.n u.w.c, .slice u.p.p u.p.n u.p.c, .slice u.r.p u.r.n u.r.c] 27)) = W3 at hnew hb ⊢
  clear hWW
  have HBW := Lib.hid (HBW.out.trans hb)
  have HQu := Lib.hid (HQu.out.bel hb)
  generalize W2.heap.size = g4 at hnew hge  ⊢
  have HX4 := Lib.hid hnew
  have HGE4 := Lib.hid hge
  clear hnew hb hge
  go_upto_region 4 with (fail)
  have hnew : (W3.alloc (.cells #[.int .i64 0, .int .i64 0, .int .i64 0, .int .i64 0] 33)).heap[W3.heap.size]? = some (.cells #[.int .i64 0, .int .i64 0, .int .i64 0, .int .i64 0] 33 (0, 0)) := heap_alloc_new W3 _
  have hb : Bel W3 (W3.alloc (.cells #[.int .i64 0, .int .i64 0, .int .i64 0, .int .i64 0] 33)) := (Bel.refl W3).alloc _ _
  have hge : w.heap.size ≤ W3.heap.size := HBW.out.size
  have HN46 : Hid (g4 ≠ W3.heap.size) := Lib.hid (by have := lt_of_heap HX4.out; omega)
  generalize hWW : (W3.alloc (.cells #[.int .i64 0, .int .i64 0, .int .i64 0, .int .i64 0] 33)) = W4 at hnew hb ⊢
  clear hWW
  have HBW := Lib.hid (HBW.out.trans hb)
  have HX4 := Lib.hid (Bel.stays hb HX4.out)
  have HQu := Lib.hid (HQu.out.bel hb)
  generalize W3.heap.size = g6 at hnew hge HN46 ⊢
  have HA6 := Lib.hid hnew
  have HGE6 := Lib.hid hge
  clear hnew hb hge
  have HA6 : Hid (W4.heap[g6]? = some (.cells (cells4 (fun _ => 0)) 33 (0, 0))) := HA6
  go_wp2_with fail
  go_loopw [7] (fun i wr => ∃ (k : Nat) (m : Mem) (lf : Nat → Int) (u : Mv), k ≤ N ∧ k ≤ 40 ∧ i = .int .i64 k ∧ Hid (Bel w wr) ∧ Hid (wr.heap[g4]? = some (.cells #[.slice u.w.p u.w.n u.w.c, .slice u.p.p u.p.n u.p.c, .slice u.r.p u.r.n u.r.c] 27 (0, 0))) ∧ Hid (wr.heap[g6]? = some (.cells (cells4 (lf)) 33 (0, 0))) ∧ Hid (MemAt 0 wr u m) ∧ Hid (Ow m lf)) (fun i _ => 40 - (intOf i).toNat)
  case atStart => exact ⟨0, m0, _, u, Nat.zero_le _, Nat.zero_le _, rfl, HBW, HX4, HA6, HQu, HOW0⟩
  case round =>
    clear HX4 HA6 HQu HOW0 HBW
    obtain ⟨k, m, lf, u, hkN, hk40, rfl, HBW, HX4, HA6, HQu, HOW⟩ := hrel
    by_cases hlt : k < N
    · by_cases hl4 : k < 40
      · obtain ⟨⟨x1, x2, x3, x4⟩, hx⟩ : ∃ x, raw[k]? = some x := ⟨_, List.getElem?_eq_getElem (by rw [HRN.out]; exact hlt)⟩
        obtain ⟨i1, i2, i3, i4, b, o, rfl, hbl, d0, d1, d2, d3⟩ := HQ0.out k _ hx
        have HI1 := Lib.hid i1
        have HI3 := Lib.hid i3
        have HBL := Lib.hid hbl
        have HC0 := Lib.hid d0
        have HC2 := Lib.hid d2
        have HC3 := Lib.hid d3
        have hlt2 : (k : Int) < N := by omega
        have hl42 : (k : Int) < 40 := by omega
        clear i1 i2 i3 i4 hx hbl d0 d1 d2 d3
        obtain ⟨an, han⟩ : ∃ an : Nat, pick x3 4 = (an : Int) := ⟨(pick x3 4).toNat, by have := pick_bd x3 (n := 4) (by omega); omega⟩
        have HLA : Hid (an < 4) := Lib.hid (by have := pick_bd x3 (n := 4) (by omega); omega)
        have HPA := Lib.hid han
        obtain ⟨kn, hkn⟩ : ∃ kn : Nat, pick x3 8 = (kn : Int) := ⟨(pick x3 8).toNat, by have := pick_bd x3 (n := 8) (by omega); omega⟩
        have HPK := Lib.hid hkn
        obtain ⟨m2, r, hr⟩ : ∃ m2 r, drainV m 1 kn = (m2, r) := ⟨_, _, rfl⟩
        have HR := Lib.hid hr
        have HS2 := Lib.hid (fun hz => ow_drain HOW.out hr hz)
        obtain ⟨m3, r3, hr3⟩ : ∃ m3 r3, storeV m 1 an x4 = (m3, r3) := ⟨_, _, rfl⟩
        have HR3 := Lib.hid hr3
        have HS3 := Lib.hid (fun hz => ow_store HOW.out HLA.out hr3 hz)
        clear hr hr3 han hkn
        have c2 := (HBW.out.cell (p := ⟨b, _, none⟩) HBL.out).trans HC2.out
        go_upto_region 8 with (go_at_call 15; ((with_reducible refine (pick_lit HPA.out HI3.out (by decide) _).mono ?_); rintro e wq ⟨rfl, rfl⟩))
        clear c2
        go_cut [9, 10] (fun v9 v10 wx => ∃ (g9 : Nat) (v : Mv), v9 = .pointer (some ⟨g9, 0, none⟩) ∧ v10 = .int .i64 r ∧ Hid (Bel wr wx) ∧ Hid (wx.heap[g9]? = some (.cells #[.slice v.w.p v.w.n v.w.c, .slice v.p.p v.p.n v.p.c, .slice v.r.p v.r.n v.r.c] 27 (0, 0))) ∧ Hid (MemAt 0 wx v m2) ∧ Hid (wr.heap.size ≤ g9))
        case first =>
          have HKEEP : Hid (∀ w', Bel wr w' → w'.cell? ⟨g4, 0, none⟩ = some (.slice u.w.p u.w.n u.w.c) ∧ w'.cell? ⟨g4, 1, none⟩ = some (.slice u.p.p u.p.n u.p.c) ∧ w'.cell? ⟨g4, 2, none⟩ = some (.slice u.r.p u.r.n u.r.c) ∧ w'.cell? ⟨b, o + k * 4 + 2, none⟩ = some (.int .i64 x3)) := Lib.hid (fun w' h => by
            have h1 := h.stays HX4.out
            exact ⟨cell_of_heap h1 0, cell_of_heap h1 1, cell_of_heap h1 2, ((HBW.out.trans h).cell (p := ⟨b, _, none⟩) HBL.out).trans HC2.out⟩)
          have HBC : Hid (Bel wr wr.drew) := Lib.hid (Bel.refl wr).drew
          have HSZ : Hid (wr.heap.size ≤ wr.drew.heap.size) := Lib.hid (Nat.le_refl _)
          go_region_held3 (fun w' => w'.cell? ⟨g4, 0, none⟩ = some (.slice u.w.p u.w.n u.w.c) ∧ w'.cell? ⟨g4, 1, none⟩ = some (.slice u.p.p u.p.n u.p.c) ∧ w'.cell? ⟨g4, 2, none⟩ = some (.slice u.r.p u.r.n u.r.c) ∧ w'.cell? ⟨b, o + k * 4 + 2, none⟩ = some (.int .i64 x3))
            (first | exact HKEEP.out _ HBC.out | exact HKEEP.out _ (Bel.refl _) | exact HKEEP.out _ (HBC.out.alloc _ _) | exact HKEEP.out _ ((Bel.refl wr).alloc _ _) | exact HKEEP.out _ ((Bel.refl wr).alloc _ _).drew | exact HKEEP.out _ (Sv.bel (((Svg.set _ _ _ _).trans (Svg.set _ _ _ _)).trans (Svg.set _ _ _ _)) HBC.out (fun k hk => by subst hk; exact HSZ.out)))
            (first | (go_at_call 15; ((with_reducible refine (pick_lit HPK.out HI3.out (by decide) _).mono ?_); rintro e wq ⟨rfl, rfl⟩)) | (go_at_call 20; ((with_reducible refine (drain_lit (HQu.out.bel HBC.out) HOW.out.big.ok HR.out).mono ?_); rintro e wz ⟨v, rfl, hbz, hmz⟩; have HMZ := Lib.hid (hmz.mono (Nat.zero_le _)); have HBC := Lib.hid (HBC.out.trans hbz); clear hbz hmz)) | (go_at_call 20; ((with_reducible refine (drain_lit (HQu.out.bel ((Bel.refl wr).alloc _ _).drew) HOW.out.big.ok HR.out).mono ?_); rintro e wz ⟨v, rfl, hbz, hmz⟩; have HMZ := Lib.hid (hmz.mono (Nat.zero_le _)); have hza := hbz.stays (heap_alloc_new wr (.cells #[.slice none 0 0, .slice none 0 0, .slice none 0 0] 27)); have HZA := Lib.hid hza; have y90 := frozen_of_heap hza 0; have k90 := cell_of_heap hza 0; have y91 := frozen_of_heap hza 1; have k91 := cell_of_heap hza 1; have y92 := frozen_of_heap hza 2; have k92 := cell_of_heap hza 2; simp only [List.getElem?_toArray, List.getElem?_cons_zero, List.getElem?_cons_succ] at k90 k91 k92; have HBC := Lib.hid (((Bel.refl wr).alloc _ _).drew.trans hbz); clear hbz hmz hza)))
          all_goals
            go_wp2_with fail
            go_meet
            first
            | exact ⟨_, v, rfl, rfl, Lib.hid ((set3_svg _ _ _ _ _).bel HBC.out HSZ.out), Lib.hid (set3_heap HZA.out _ _ _), Lib.hid (HMZ.out.keep (set3_svg _ _ _ _ _) HZA.out (by decide) (by decide) (by decide)), HSZ⟩
            | exact ⟨_, v, rfl, rfl, Lib.hid (HBC.out.alloc _ _), Lib.hid (heap_alloc_new wz _), Lib.hid (HMZ.out.bel ((Bel.refl wz).alloc _ _)), Lib.hid HBC.out.size⟩
        case rest =>
          obtain ⟨g9, v, rfl, rfl, hb, HX9, HQv, hg9⟩ := hcut
          have HGE9 : Hid (w.heap.size ≤ g9) := Lib.hid (Nat.le_trans HBW.out.size hg9.out)
          have HN49 : Hid (g4 ≠ g9) := Lib.hid (by have := lt_of_heap HX4.out; have := hg9.out; omega)
          have HN69 : Hid (g6 ≠ g9) := Lib.hid (by have := lt_of_heap HA6.out; have := hg9.out; omega)
          have HX4 := Lib.hid (hb.out.stays HX4.out)
          have HA6 := Lib.hid (hb.out.stays HA6.out)
          have HQu := Lib.hid (HQu.out.bel hb.out)
          have HBW := Lib.hid (HBW.out.trans hb.out)
          clear hb hg9
          have hk01 := pick_bd x1 (n := 2) (by omega)
          have hkc : pick x1 2 = 0 ∨ pick x1 2 = 1 := by omega
          clear hk01
          rcases hkc with hk0 | hk0
          · have HPI := Lib.hid hk0
            clear hk0
            have c0 := (HBW.out.cell (p := ⟨b, _, none⟩) HBL.out).trans HC0.out
            go_upto_region 10 with (go_at_call 15; ((with_reducible refine (pick_lit HPI.out HI1.out (by decide) _).mono ?_); rintro e wq ⟨rfl, rfl⟩))
            clear c0
            have HKEEP : Hid (∀ w', Bel wc w' → w'.cell? ⟨g4, 0, none⟩ = some (.slice u.w.p u.w.n u.w.c) ∧ w'.cell? ⟨g4, 1, none⟩ = some (.slice u.p.p u.p.n u.p.c) ∧ w'.cell? ⟨g4, 2, none⟩ = some (.slice u.r.p u.r.n u.r.c) ∧ w'.cell? ⟨b, o + k * 4 + 3, none⟩ = some (.int .i64 x4)) := Lib.hid (fun w' h => by
              have h1 := h.stays HX4.out
              exact ⟨cell_of_heap h1 0, cell_of_heap h1 1, cell_of_heap h1 2, ((HBW.out.trans h).cell (p := ⟨b, _, none⟩) HBL.out).trans HC3.out⟩)
            have HKEEP2 : Hid (∀ w' w'', Bel wc w' → Svg g9 w' w'' → w''.cell? ⟨g4, 0, none⟩ = some (.slice u.w.p u.w.n u.w.c) ∧ w''.cell? ⟨g4, 1, none⟩ = some (.slice u.p.p u.p.n u.p.c) ∧ w''.cell? ⟨g4, 2, none⟩ = some (.slice u.r.p u.r.n u.r.c) ∧ w''.cell? ⟨b, o + k * 4 + 3, none⟩ = some (.int .i64 x4)) := Lib.hid (fun w' w'' h hs => by
              have h1 := (hs.block _ (lt_of_heap (h.stays HX4.out)) HN49.out).trans (h.stays HX4.out)
              exact ⟨cell_of_heap h1 0, cell_of_heap h1 1, cell_of_heap h1 2, ((hs.bel (HBW.out.trans h) HGE9.out).cell (p := ⟨b, _, none⟩) HBL.out).trans HC3.out⟩)
            have HBC : Hid (Bel wc wc.drew) := Lib.hid (Bel.refl wc).drew
            go_region_held3 (fun w' => w'.cell? ⟨g4, 0, none⟩ = some (.slice u.w.p u.w.n u.w.c) ∧ w'.cell? ⟨g4, 1, none⟩ = some (.slice u.p.p u.p.n u.p.c) ∧ w'.cell? ⟨g4, 2, none⟩ = some (.slice u.r.p u.r.n u.r.c) ∧ w'.cell? ⟨b, o + k * 4 + 3, none⟩ = some (.int .i64 x4))
              (first | exact HKEEP.out _ HBC.out | exact HKEEP.out _ (Bel.refl _) | exact HKEEP2.out _ _ HBC.out (((Svg.set _ _ _ _).trans (Svg.set _ _ _ _)).trans (Svg.set _ _ _ _)))
              (first | (go_at_call 18; ((with_reducible refine (store_lit (HQu.out.bel HBC.out) HOW.out.big.ok HR3.out).mono ?_); rintro e wz ⟨t, rfl, hbz, hmz⟩; have HMZ := Lib.hid (hmz.mono (Nat.zero_le _)); have y90 := frozen_of_heap (hbz.stays (HBC.out.stays HX9.out)) 0; have k90 := cell_of_heap (hbz.stays (HBC.out.stays HX9.out)) 0; have y91 := frozen_of_heap (hbz.stays (HBC.out.stays HX9.out)) 1; have k91 := cell_of_heap (hbz.stays (HBC.out.stays HX9.out)) 1; have y92 := frozen_of_heap (hbz.stays (HBC.out.stays HX9.out)) 2; have k92 := cell_of_heap (hbz.stays (HBC.out.stays HX9.out)) 2; simp only [List.getElem?_toArray, List.getElem?_cons_zero, List.getElem?_cons_succ] at k90 k91 k92; have HBC := Lib.hid (HBC.out.trans hbz); clear hbz hmz)))
            go_upto_region 11 with (fail)
            clear y90 y91 y92 k90 k91 k92 HKEEP HKEEP2
            have hb := HBC.out
            have HBW := Lib.hid (HBW.out.trans hb)
            have HX4 := Lib.hid (Bel.stays hb HX4.out)
            have HX9 := Lib.hid (Bel.stays hb HX9.out)
            have HA6 := Lib.hid (Bel.stays hb HA6.out)
            have HQu := Lib.hid (HQu.out.bel hb)
            have HQv := Lib.hid (HQv.out.bel hb)
            have HQt := HMZ
            clear hb
            have hs3 : Svg g9 wz (((wz.setCell ⟨g9, 0, none⟩ (.slice t.w.p t.w.n t.w.c)).setCell ⟨g9, 1, none⟩ (.slice t.p.p t.p.n t.p.c)).setCell ⟨g9, 2, none⟩ (.slice t.r.p t.r.n t.r.c)) := set3_svg wz g9 (.slice t.w.p t.w.n t.w.c) (.slice t.p.p t.p.n t.p.c) (.slice t.r.p t.r.n t.r.c)
            have hh := set3_heap HX9.out (.slice t.w.p t.w.n t.w.c) (.slice t.p.p t.p.n t.p.c) (.slice t.r.p t.r.n t.r.c)
            generalize hWW : (((wz.setCell ⟨g9, 0, none⟩ (.slice t.w.p t.w.n t.w.c)).setCell ⟨g9, 1, none⟩ (.slice t.p.p t.p.n t.p.c)).setCell ⟨g9, 2, none⟩ (.slice t.r.p t.r.n t.r.c)) = V1 at hs3 hh ⊢
            clear hWW
            have HBW := Lib.hid (hs3.bel HBW.out HGE9.out)
            have HX4 := Lib.hid ((hs3.block _ (lt_of_heap HX4.out) HN49.out).trans HX4.out)
            have HA6 := Lib.hid ((hs3.block _ (lt_of_heap HA6.out) HN69.out).trans HA6.out)
            have HQu := Lib.hid (HQu.out.keep hs3 HX9.out (by decide) (by decide) (by decide))
            have HQv := Lib.hid (HQv.out.keep hs3 HX9.out (by decide) (by decide) (by decide))
            have HQt := Lib.hid (HQt.out.keep hs3 HX9.out (by decide) (by decide) (by decide))
            have HX9 := Lib.hid hh
            clear hs3 hh
            by_cases hz : r3 = 0
            · have hrz : (r3 == 0) = true := by rw [hz]; rfl
              have HZ := Lib.hid hz
              clear hz
              have c3 := (HBW.out.cell (p := ⟨b, _, none⟩) HBL.out).trans HC3.out
              have a6 := cell_of_heap HA6.out an
              have f6 := frozen_of_heap HA6.out an
              rw [cells4_get _ HLA.out] at a6
              have hal : (an : Int) < 4 := by have := HLA.out; omega
              go_upto_region 13 with (go_at_call 30; ((with_reducible refine (wrap_any _ _).mono ?_); rintro e wq ⟨rfl, rfl⟩))
              clear c3 a6 f6 hal
              have hs1 : Svg g6 V1 (V1.setCell ⟨g6, an, none⟩ (.int .i64 (wrap32 x4))) := Svg.set _ _ _ _
              have hh6 := heap_set HA6.out an (.int .i64 (wrap32 x4))
              rw [cells4_put _ HLA.out] at hh6
              generalize hWW : V1.setCell ⟨g6, an, none⟩ (.int .i64 (wrap32 x4)) = V2 at hs1 hh6 ⊢
              clear hWW
              have HBW := Lib.hid (hs1.bel HBW.out HGE6.out)
              have HX4 := Lib.hid ((hs1.block _ (lt_of_heap HX4.out) HN46.out).trans HX4.out)
              have HX9 := Lib.hid ((hs1.block _ (lt_of_heap HX9.out) HN69.out.symm).trans HX9.out)
              have HQt := Lib.hid (HQt.out.keep hs1 HA6.out (by decide) (by decide) (by decide))
              have HA6 := Lib.hid hh6
              clear hs1 hh6 HQu HQv
              have k90 := cell_of_heap HX9.out 0
              have k91 := cell_of_heap HX9.out 1
              have k92 := cell_of_heap HX9.out 2
              have k40 := cell_of_heap HX4.out 0
              have y40 := frozen_of_heap HX4.out 0
              have k41 := cell_of_heap HX4.out 1
              have y41 := frozen_of_heap HX4.out 1
              have k42 := cell_of_heap HX4.out 2
              have y42 := frozen_of_heap HX4.out 2
              simp only [List.getElem?_toArray, List.getElem?_cons_zero, List.getElem?_cons_succ] at k90 k91 k92 k40 k41 k42
              go_upto_region 15 with (fail)
              clear y40 y41 y42 k90 k91 k92 k40 k41 k42
              have hs3 : Svg g4 V2 (((V2.setCell ⟨g4, 0, none⟩ (.slice t.w.p t.w.n t.w.c)).setCell ⟨g4, 1, none⟩ (.slice t.p.p t.p.n t.p.c)).setCell ⟨g4, 2, none⟩ (.slice t.r.p t.r.n t.r.c)) := set3_svg V2 g4 (.slice t.w.p t.w.n t.w.c) (.slice t.p.p t.p.n t.p.c) (.slice t.r.p t.r.n t.r.c)
              have hh := set3_heap HX4.out (.slice t.w.p t.w.n t.w.c) (.slice t.p.p t.p.n t.p.c) (.slice t.r.p t.r.n t.r.c)
              generalize hWW : (((V2.setCell ⟨g4, 0, none⟩ (.slice t.w.p t.w.n t.w.c)).setCell ⟨g4, 1, none⟩ (.slice t.p.p t.p.n t.p.c)).setCell ⟨g4, 2, none⟩ (.slice t.r.p t.r.n t.r.c)) = V6 at hs3 hh ⊢
              clear hWW
              have HGE4 := HGE4
              have HBW := Lib.hid (hs3.bel HBW.out HGE4.out)
              have HX9 := Lib.hid ((hs3.block _ (lt_of_heap HX9.out) HN49.out.symm).trans HX9.out)
              have HA6 := Lib.hid ((hs3.block _ (lt_of_heap HA6.out) HN46.out.symm).trans HA6.out)
              have HQt := Lib.hid (HQt.out.keep hs3 HX4.out (by decide) (by decide) (by decide))
              have HX4 := Lib.hid hh
              clear hs3 hh
              have HOWZ := Lib.hid (HS3.out HZ.out)
              go_wp2_with fail
              go_loopw [11] (fun jv ws => ∃ j : Nat, j ≤ 4 ∧ jv = .int .i64 j ∧ Hid (Bel w ws) ∧ Hid (ws.heap[g4]? = some (.cells #[.slice t.w.p t.w.n t.w.c, .slice t.p.p t.p.n t.p.c, .slice t.r.p t.r.n t.r.c] 27 (0, 0))) ∧ Hid (ws.heap[g6]? = some (.cells (cells4 (put4 lf an (wrap32 x4))) 33 (0, 0))) ∧ Hid (MemAt 0 ws t m3)) (fun jv _ => 4 - (intOf jv).toNat)
              case atStart => exact ⟨0, Nat.zero_le _, rfl, HBW, HX4, HA6, HQt⟩
              case round =>
                clear HBW HX4 HA6 HQt
                obtain ⟨j, hj, rfl, HBW, HX4, HA6, HQt⟩ := hrel
                by_cases hlj : j < 4
                · have hlj2 : (j : Int) < 4 := by omega
                  have hld := ow_load HOWZ.out hlj
                  obtain ⟨z, hz⟩ : ∃ z, (put4 lf an (wrap32 x4)) j = z := ⟨_, rfl⟩
                  have a6 : wr.cell? ⟨g6, j, none⟩ = some (.int .i64 z) := (cell_of_heap HA6.out j).trans (by rw [cells4_get _ hlj, hz])
                  rw [hz] at hld
                  have HLD := Lib.hid hld
                  clear hld hz
                  have k40 := cell_of_heap HX4.out 0
                  have k41 := cell_of_heap HX4.out 1
                  have k42 := cell_of_heap HX4.out 2
                  simp only [List.getElem?_toArray, List.getElem?_cons_zero, List.getElem?_cons_succ] at k40 k41 k42
                  have HA6Z := Lib.hid a6
                  have HL6 := Lib.hid (lt_of_heap HA6.out)
                  go_wp2_with fail
                  refine (load_lit HQt.out HOWZ.out.big.ok HLD.out).mono ?_
                  rintro e W1 ⟨rfl, hb⟩
                  clear k40 k41 k42 a6
                  have HBW := Lib.hid (HBW.out.trans hb)
                  have HX4 := Lib.hid (Bel.stays hb HX4.out)
                  have HA6 := Lib.hid (Bel.stays hb HA6.out)
                  have HQt := Lib.hid (HQt.out.bel hb)
                  have a6 := (hb.cell (p := ⟨g6, j, none⟩) HL6.out).trans HA6Z.out
                  clear hb
                  have hzz : (z != z) = false := by simp
                  go_wp2
                  exact ⟨⟨j + 1, by omega, by go_num, HBW, HX4, HA6, HQt⟩, by simp [intOf]; omega⟩
                · have hlj2 : ¬ (j : Int) < 4 := by omega
                  go_wp2
                  exact ⟨⟨k + 1, m3, _, t, by omega, by omega, by go_num, HBW, HX4, HA6, HQt, HOWZ⟩, by simp [intOf]; omega⟩
            · have hrz : (r3 == 0) = false := beq_eq_false_iff_ne.2 hz
              clear hz
              go_upto_region 15 with (fail)
              have HOWZ := Lib.hid (HOW.out)
              go_wp2_with fail
              go_loopw [11] (fun jv ws => ∃ j : Nat, j ≤ 4 ∧ jv = .int .i64 j ∧ Hid (Bel w ws) ∧ Hid (ws.heap[g4]? = some (.cells #[.slice u.w.p u.w.n u.w.c, .slice u.p.p u.p.n u.p.c, .slice u.r.p u.r.n u.r.c] 27 (0, 0))) ∧ Hid (ws.heap[g6]? = some (.cells (cells4 (lf)) 33 (0, 0))) ∧ Hid (MemAt 0 ws u m)) (fun jv _ => 4 - (intOf jv).toNat)
              case atStart => exact ⟨0, Nat.zero_le _, rfl, HBW, HX4, HA6, HQu⟩
              case round =>
                clear HBW HX4 HA6 HQu
                obtain ⟨j, hj, rfl, HBW, HX4, HA6, HQu⟩ := hrel
                by_cases hlj : j < 4
                · have hlj2 : (j : Int) < 4 := by omega
                  have hld := ow_load HOWZ.out hlj
                  obtain ⟨z, hz⟩ : ∃ z, (lf) j = z := ⟨_, rfl⟩
                  have a6 : wr.cell? ⟨g6, j, none⟩ = some (.int .i64 z) := (cell_of_heap HA6.out j).trans (by rw [cells4_get _ hlj, hz])
                  rw [hz] at hld
                  have HLD := Lib.hid hld
                  clear hld hz
                  have k40 := cell_of_heap HX4.out 0
                  have k41 := cell_of_heap HX4.out 1
                  have k42 := cell_of_heap HX4.out 2
                  simp only [List.getElem?_toArray, List.getElem?_cons_zero, List.getElem?_cons_succ] at k40 k41 k42
                  have HA6Z := Lib.hid a6
                  have HL6 := Lib.hid (lt_of_heap HA6.out)
                  go_wp2_with fail
                  refine (load_lit HQu.out HOWZ.out.big.ok HLD.out).mono ?_
                  rintro e W1 ⟨rfl, hb⟩
                  clear k40 k41 k42 a6
                  have HBW := Lib.hid (HBW.out.trans hb)
                  have HX4 := Lib.hid (Bel.stays hb HX4.out)
                  have HA6 := Lib.hid (Bel.stays hb HA6.out)
                  have HQu := Lib.hid (HQu.out.bel hb)
                  have a6 := (hb.cell (p := ⟨g6, j, none⟩) HL6.out).trans HA6Z.out
                  clear hb
                  have hzz : (z != z) = false := by simp
                  go_wp2
                  exact ⟨⟨j + 1, by omega, by go_num, HBW, HX4, HA6, HQu⟩, by simp [intOf]; omega⟩
                · have hlj2 : ¬ (j : Int) < 4 := by omega
                  go_wp2
                  exact ⟨⟨k + 1, m, _, u, by omega, by omega, by go_num, HBW, HX4, HA6, HQu, HOWZ⟩, by simp [intOf]; omega⟩
          · have HPI := Lib.hid hk0
            clear hk0
            have c0 := (HBW.out.cell (p := ⟨b, _, none⟩) HBL.out).trans HC0.out
            by_cases hz : r = 0
            · have hrz : (r == 0) = true := by rw [hz]; rfl
              have HZ := Lib.hid hz
              clear hz
              have k90 := cell_of_heap HX9.out 0
              have k91 := cell_of_heap HX9.out 1
              have k92 := cell_of_heap HX9.out 2
              have k40 := cell_of_heap HX4.out 0
              have y40 := frozen_of_heap HX4.out 0
              have k41 := cell_of_heap HX4.out 1
              have y41 := frozen_of_heap HX4.out 1
              have k42 := cell_of_heap HX4.out 2
              have y42 := frozen_of_heap HX4.out 2
              simp only [List.getElem?_toArray, List.getElem?_cons_zero, List.getElem?_cons_succ] at k90 k91 k92 k40 k41 k42
              go_upto_region 15 with (go_at_call 15; ((with_reducible refine (pick_lit HPI.out HI1.out (by decide) _).mono ?_); rintro e wq ⟨rfl, rfl⟩))
              clear c0 y40 y41 y42 k90 k91 k92 k40 k41 k42
              have hs3 : Svg g4 wc (((wc.setCell ⟨g4, 0, none⟩ (.slice v.w.p v.w.n v.w.c)).setCell ⟨g4, 1, none⟩ (.slice v.p.p v.p.n v.p.c)).setCell ⟨g4, 2, none⟩ (.slice v.r.p v.r.n v.r.c)) := set3_svg wc g4 (.slice v.w.p v.w.n v.w.c) (.slice v.p.p v.p.n v.p.c) (.slice v.r.p v.r.n v.r.c)
              have hh := set3_heap HX4.out (.slice v.w.p v.w.n v.w.c) (.slice v.p.p v.p.n v.p.c) (.slice v.r.p v.r.n v.r.c)
              generalize hWW : (((wc.setCell ⟨g4, 0, none⟩ (.slice v.w.p v.w.n v.w.c)).setCell ⟨g4, 1, none⟩ (.slice v.p.p v.p.n v.p.c)).setCell ⟨g4, 2, none⟩ (.slice v.r.p v.r.n v.r.c)) = V1 at hs3 hh ⊢
              clear hWW
              have HGE4 := HGE4
              have HBW := Lib.hid (hs3.bel HBW.out HGE4.out)
              have HX9 := Lib.hid ((hs3.block _ (lt_of_heap HX9.out) HN49.out.symm).trans HX9.out)
              have HA6 := Lib.hid ((hs3.block _ (lt_of_heap HA6.out) HN46.out.symm).trans HA6.out)
              have HQu := Lib.hid (HQu.out.keep hs3 HX4.out (by decide) (by decide) (by decide))
              have HQv := Lib.hid (HQv.out.keep hs3 HX4.out (by decide) (by decide) (by decide))
              have HX4 := Lib.hid hh
              clear hs3 hh
              have HOWZ := Lib.hid (HS2.out HZ.out)
              go_wp2_with fail
              go_loopw [11] (fun jv ws => ∃ j : Nat, j ≤ 4 ∧ jv = .int .i64 j ∧ Hid (Bel w ws) ∧ Hid (ws.heap[g4]? = some (.cells #[.slice v.w.p v.w.n v.w.c, .slice v.p.p v.p.n v.p.c, .slice v.r.p v.r.n v.r.c] 27 (0, 0))) ∧ Hid (ws.heap[g6]? = some (.cells (cells4 (lf)) 33 (0, 0))) ∧ Hid (MemAt 0 ws v m2)) (fun jv _ => 4 - (intOf jv).toNat)
              case atStart => exact ⟨0, Nat.zero_le _, rfl, HBW, HX4, HA6, HQv⟩
              case round =>
                clear HBW HX4 HA6 HQv
                obtain ⟨j, hj, rfl, HBW, HX4, HA6, HQv⟩ := hrel
                by_cases hlj : j < 4
                · have hlj2 : (j : Int) < 4 := by omega
                  have hld := ow_load HOWZ.out hlj
                  obtain ⟨z, hz⟩ : ∃ z, (lf) j = z := ⟨_, rfl⟩
                  have a6 : wr.cell? ⟨g6, j, none⟩ = some (.int .i64 z) := (cell_of_heap HA6.out j).trans (by rw [cells4_get _ hlj, hz])
                  rw [hz] at hld
                  have HLD := Lib.hid hld
                  clear hld hz
                  have k40 := cell_of_heap HX4.out 0
                  have k41 := cell_of_heap HX4.out 1
                  have k42 := cell_of_heap HX4.out 2
                  simp only [List.getElem?_toArray, List.getElem?_cons_zero, List.getElem?_cons_succ] at k40 k41 k42
                  have HA6Z := Lib.hid a6
                  have HL6 := Lib.hid (lt_of_heap HA6.out)
                  go_wp2_with fail
                  refine (load_lit HQv.out HOWZ.out.big.ok HLD.out).mono ?_
                  rintro e W1 ⟨rfl, hb⟩
                  clear k40 k41 k42 a6
                  have HBW := Lib.hid (HBW.out.trans hb)
                  have HX4 := Lib.hid (Bel.stays hb HX4.out)
                  have HA6 := Lib.hid (Bel.stays hb HA6.out)
                  have HQv := Lib.hid (HQv.out.bel hb)
                  have a6 := (hb.cell (p := ⟨g6, j, none⟩) HL6.out).trans HA6Z.out
                  clear hb
                  have hzz : (z != z) = false := by simp
                  go_wp2
                  exact ⟨⟨j + 1, by omega, by go_num, HBW, HX4, HA6, HQv⟩, by simp [intOf]; omega⟩
                · have hlj2 : ¬ (j : Int) < 4 := by omega
                  go_wp2
                  exact ⟨⟨k + 1, m2, _, v, by omega, by omega, by go_num, HBW, HX4, HA6, HQv, HOWZ⟩, by simp [intOf]; omega⟩
            · have hrz : (r == 0) = false := beq_eq_false_iff_ne.2 hz
              clear hz
              go_upto_region 15 with (go_at_call 15; ((with_reducible refine (pick_lit HPI.out HI1.out (by decide) _).mono ?_); rintro e wq ⟨rfl, rfl⟩))
              clear c0
              have HOWZ := Lib.hid (HOW.out)
              go_wp2_with fail
              go_loopw [11] (fun jv ws => ∃ j : Nat, j ≤ 4 ∧ jv = .int .i64 j ∧ Hid (Bel w ws) ∧ Hid (ws.heap[g4]? = some (.cells #[.slice u.w.p u.w.n u.w.c, .slice u.p.p u.p.n u.p.c, .slice u.r.p u.r.n u.r.c] 27 (0, 0))) ∧ Hid (ws.heap[g6]? = some (.cells (cells4 (lf)) 33 (0, 0))) ∧ Hid (MemAt 0 ws u m)) (fun jv _ => 4 - (intOf jv).toNat)
              case atStart => exact ⟨0, Nat.zero_le _, rfl, HBW, HX4, HA6, HQu⟩
              case round =>
                clear HBW HX4 HA6 HQu
                obtain ⟨j, hj, rfl, HBW, HX4, HA6, HQu⟩ := hrel
                by_cases hlj : j < 4
                · have hlj2 : (j : Int) < 4 := by omega
                  have hld := ow_load HOWZ.out hlj
                  obtain ⟨z, hz⟩ : ∃ z, (lf) j = z := ⟨_, rfl⟩
                  have a6 : wr.cell? ⟨g6, j, none⟩ = some (.int .i64 z) := (cell_of_heap HA6.out j).trans (by rw [cells4_get _ hlj, hz])
                  rw [hz] at hld
                  have HLD := Lib.hid hld
                  clear hld hz
                  have k40 := cell_of_heap HX4.out 0
                  have k41 := cell_of_heap HX4.out 1
                  have k42 := cell_of_heap HX4.out 2
                  simp only [List.getElem?_toArray, List.getElem?_cons_zero, List.getElem?_cons_succ] at k40 k41 k42
                  have HA6Z := Lib.hid a6
                  have HL6 := Lib.hid (lt_of_heap HA6.out)
                  go_wp2_with fail
                  refine (load_lit HQu.out HOWZ.out.big.ok HLD.out).mono ?_
                  rintro e W1 ⟨rfl, hb⟩
                  clear k40 k41 k42 a6
                  have HBW := Lib.hid (HBW.out.trans hb)
                  have HX4 := Lib.hid (Bel.stays hb HX4.out)
                  have HA6 := Lib.hid (Bel.stays hb HA6.out)
                  have HQu := Lib.hid (HQu.out.bel hb)
                  have a6 := (hb.cell (p := ⟨g6, j, none⟩) HL6.out).trans HA6Z.out
                  clear hb
                  have hzz : (z != z) = false := by simp
                  go_wp2
                  exact ⟨⟨j + 1, by omega, by go_num, HBW, HX4, HA6, HQu⟩, by simp [intOf]; omega⟩
                · have hlj2 : ¬ (j : Int) < 4 := by omega
                  go_wp2
                  exact ⟨⟨k + 1, m, _, u, by omega, by omega, by go_num, HBW, HX4, HA6, HQu, HOWZ⟩, by simp [intOf]; omega⟩
      · have hl42 : ¬ (k : Int) < 40 := by omega
        have hlt2 : (k : Int) < N := by omega
        obtain ⟨mf, hfl, hfo, hld⟩ := ow_flush HOW.out
        have HFL := Lib.hid hfl
        have HFO := Lib.hid hfo
        have HLD := Lib.hid hld
        clear hfl hfo hld
        have k40 := cell_of_heap HX4.out 0
        have y40 := frozen_of_heap HX4.out 0
        have k41 := cell_of_heap HX4.out 1
        have y41 := frozen_of_heap HX4.out 1
        have k42 := cell_of_heap HX4.out 2
        have y42 := frozen_of_heap HX4.out 2
        simp only [List.getElem?_toArray, List.getElem?_cons_zero, List.getElem?_cons_succ] at k40 k41 k42
        go_wp2_with fail
        refine (flush_lit HQu.out HOW.out.big.ok HFL.out).mono ?_
        rintro e W1 ⟨t, rfl, hb, hq⟩
        clear y40 y41 y42 k40 k41 k42
        have HBW := Lib.hid (HBW.out.trans hb)
        have HX4 := Lib.hid (Bel.stays hb HX4.out)
        have HA6 := Lib.hid (Bel.stays hb HA6.out)
        have HQu := Lib.hid (HQu.out.bel hb)
        have HQt : Hid (MemAt 0 W1 t mf) := Lib.hid (hq.mono (Nat.zero_le _))
        clear hb hq
        have k40 := cell_of_heap HX4.out 0
        have y40 := frozen_of_heap HX4.out 0
        have k41 := cell_of_heap HX4.out 1
        have y41 := frozen_of_heap HX4.out 1
        have k42 := cell_of_heap HX4.out 2
        have y42 := frozen_of_heap HX4.out 2
        simp only [List.getElem?_toArray, List.getElem?_cons_zero, List.getElem?_cons_succ] at k40 k41 k42
        go_upto_region 22 with (fail)
        clear y40 y41 y42 k40 k41 k42
        have hs3 : Svg g4 W1 (((W1.setCell ⟨g4, 0, none⟩ (.slice t.w.p t.w.n t.w.c)).setCell ⟨g4, 1, none⟩ (.slice t.p.p t.p.n t.p.c)).setCell ⟨g4, 2, none⟩ (.slice t.r.p t.r.n t.r.c)) := set3_svg W1 g4 (.slice t.w.p t.w.n t.w.c) (.slice t.p.p t.p.n t.p.c) (.slice t.r.p t.r.n t.r.c)
        have hh := set3_heap HX4.out (.slice t.w.p t.w.n t.w.c) (.slice t.p.p t.p.n t.p.c) (.slice t.r.p t.r.n t.r.c)
        generalize hWW : (((W1.setCell ⟨g4, 0, none⟩ (.slice t.w.p t.w.n t.w.c)).setCell ⟨g4, 1, none⟩ (.slice t.p.p t.p.n t.p.c)).setCell ⟨g4, 2, none⟩ (.slice t.r.p t.r.n t.r.c)) = W21 at hs3 hh ⊢
        clear hWW
        have HBW := Lib.hid (hs3.bel HBW.out HGE4.out)
        have HA6 := Lib.hid ((hs3.block _ (lt_of_heap HA6.out) HN46.out.symm).trans HA6.out)
        have HQu := Lib.hid (HQu.out.keep hs3 HX4.out (by decide) (by decide) (by decide))
        have HQt := Lib.hid (HQt.out.keep hs3 HX4.out (by decide) (by decide) (by decide))
        have HX4 := Lib.hid hh
        clear hs3 hh
        go_wp2_with fail
        go_loopw [15] (fun jv ws => ∃ j : Nat, j ≤ 4 ∧ jv = .int .i64 j ∧ Hid (Bel w ws) ∧ Hid (ws.heap[g4]? = some (.cells #[.slice t.w.p t.w.n t.w.c, .slice t.p.p t.p.n t.p.c, .slice t.r.p t.r.n t.r.c] 27 (0, 0))) ∧ Hid (ws.heap[g6]? = some (.cells (cells4 (lf)) 33 (0, 0))) ∧ Hid (MemAt 0 ws t mf)) (fun jv _ => 4 - (intOf jv).toNat)
        case atStart => exact ⟨0, Nat.zero_le _, rfl, HBW, HX4, HA6, HQt⟩
        case round =>
          clear HBW HX4 HA6 HQt
          obtain ⟨j, hj, rfl, HBW, HX4, HA6, HQt⟩ := hrel
          by_cases hlj : j < 4
          · have hlj2 : (j : Int) < 4 := by omega
            obtain ⟨z, hz⟩ : ∃ z, lf j = z := ⟨_, rfl⟩
            have hl := HLD.out j hlj
            rw [hz] at hl
            have HL1 := Lib.hid hl
            have a6 : wr.cell? ⟨g6, j, none⟩ = some (.int .i64 z) := (cell_of_heap HA6.out j).trans (by rw [cells4_get _ hlj, hz])
            clear hl hz
            have k40 := cell_of_heap HX4.out 0
            have k41 := cell_of_heap HX4.out 1
            have k42 := cell_of_heap HX4.out 2
            simp only [List.getElem?_toArray, List.getElem?_cons_zero, List.getElem?_cons_succ] at k40 k41 k42
            have HA6Z := Lib.hid a6
            have HL6 := Lib.hid (lt_of_heap HA6.out)
            go_wp2_with fail
            refine (load_lit HQt.out HFO.out HL1.out).mono ?_
            rintro e W31 ⟨rfl, hb⟩
            clear k40 k41 k42 a6
            have HBW := Lib.hid (HBW.out.trans hb)
            have HX4 := Lib.hid (Bel.stays hb HX4.out)
            have HA6 := Lib.hid (Bel.stays hb HA6.out)
            have HQt := Lib.hid (HQt.out.bel hb)
            have a6 := (hb.cell (p := ⟨g6, j, none⟩) HL6.out).trans HA6Z.out
            clear hb
            have hzz : (z != z) = false := by simp
            go_wp2
            exact ⟨⟨j + 1, by omega, by go_num, HBW, HX4, HA6, HQt⟩, by simp [intOf]; omega⟩
          · have hlj2 : ¬ (j : Int) < 4 := by omega
            go_wp2
            go_ret
            exact ⟨rfl, HBW.out⟩
    · have hlt2 : ¬ (k : Int) < N := by omega
      obtain ⟨mf, hfl, hfo, hld⟩ := ow_flush HOW.out
      have HFL := Lib.hid hfl
      have HFO := Lib.hid hfo
      have HLD := Lib.hid hld
      clear hfl hfo hld
      have k40 := cell_of_heap HX4.out 0
      have y40 := frozen_of_heap HX4.out 0
      have k41 := cell_of_heap HX4.out 1
      have y41 := frozen_of_heap HX4.out 1
      have k42 := cell_of_heap HX4.out 2
      have y42 := frozen_of_heap HX4.out 2
      simp only [List.getElem?_toArray, List.getElem?_cons_zero, List.getElem?_cons_succ] at k40 k41 k42
      go_wp2_with fail
      refine (flush_lit HQu.out HOW.out.big.ok HFL.out).mono ?_
      rintro e W1 ⟨t, rfl, hb, hq⟩
      clear y40 y41 y42 k40 k41 k42
      have HBW := Lib.hid (HBW.out.trans hb)
      have HX4 := Lib.hid (Bel.stays hb HX4.out)
      have HA6 := Lib.hid (Bel.stays hb HA6.out)
      have HQu := Lib.hid (HQu.out.bel hb)
      have HQt : Hid (MemAt 0 W1 t mf) := Lib.hid (hq.mono (Nat.zero_le _))
      clear hb hq
      have k40 := cell_of_heap HX4.out 0
      have y40 := frozen_of_heap HX4.out 0
      have k41 := cell_of_heap HX4.out 1
      have y41 := frozen_of_heap HX4.out 1
      have k42 := cell_of_heap HX4.out 2
      have y42 := frozen_of_heap HX4.out 2
      simp only [List.getElem?_toArray, List.getElem?_cons_zero, List.getElem?_cons_succ] at k40 k41 k42
      go_upto_region 22 with (fail)
      clear y40 y41 y42 k40 k41 k42
      have hs3 : Svg g4 W1 (((W1.setCell ⟨g4, 0, none⟩ (.slice t.w.p t.w.n t.w.c)).setCell ⟨g4, 1, none⟩ (.slice t.p.p t.p.n t.p.c)).setCell ⟨g4, 2, none⟩ (.slice t.r.p t.r.n t.r.c)) := set3_svg W1 g4 (.slice t.w.p t.w.n t.w.c) (.slice t.p.p t.p.n t.p.c) (.slice t.r.p t.r.n t.r.c)
      have hh := set3_heap HX4.out (.slice t.w.p t.w.n t.w.c) (.slice t.p.p t.p.n t.p.c) (.slice t.r.p t.r.n t.r.c)
      generalize hWW : (((W1.setCell ⟨g4, 0, none⟩ (.slice t.w.p t.w.n t.w.c)).setCell ⟨g4, 1, none⟩ (.slice t.p.p t.p.n t.p.c)).setCell ⟨g4, 2, none⟩ (.slice t.r.p t.r.n t.r.c)) = W21 at hs3 hh ⊢
      clear hWW
      have HBW := Lib.hid (hs3.bel HBW.out HGE4.out)
      have HA6 := Lib.hid ((hs3.block _ (lt_of_heap HA6.out) HN46.out.symm).trans HA6.out)
      have HQu := Lib.hid (HQu.out.keep hs3 HX4.out (by decide) (by decide) (by decide))
      have HQt := Lib.hid (HQt.out.keep hs3 HX4.out (by decide) (by decide) (by decide))
      have HX4 := Lib.hid hh
      clear hs3 hh
      go_wp2_with fail
      go_loopw [15] (fun jv ws => ∃ j : Nat, j ≤ 4 ∧ jv = .int .i64 j ∧ Hid (Bel w ws) ∧ Hid (ws.heap[g4]? = some (.cells #[.slice t.w.p t.w.n t.w.c, .slice t.p.p t.p.n t.p.c, .slice t.r.p t.r.n t.r.c] 27 (0, 0))) ∧ Hid (ws.heap[g6]? = some (.cells (cells4 (lf)) 33 (0, 0))) ∧ Hid (MemAt 0 ws t mf)) (fun jv _ => 4 - (intOf jv).toNat)
      case atStart => exact ⟨0, Nat.zero_le _, rfl, HBW, HX4, HA6, HQt⟩
      case round =>
        clear HBW HX4 HA6 HQt
        obtain ⟨j, hj, rfl, HBW, HX4, HA6, HQt⟩ := hrel
        by_cases hlj : j < 4
        · have hlj2 : (j : Int) < 4 := by omega
          obtain ⟨z, hz⟩ : ∃ z, lf j = z := ⟨_, rfl⟩
          have hl := HLD.out j hlj
          rw [hz] at hl
          have HL1 := Lib.hid hl
          have a6 : wr.cell? ⟨g6, j, none⟩ = some (.int .i64 z) := (cell_of_heap HA6.out j).trans (by rw [cells4_get _ hlj, hz])
          clear hl hz
          have k40 := cell_of_heap HX4.out 0
          have k41 := cell_of_heap HX4.out 1
          have k42 := cell_of_heap HX4.out 2
          simp only [List.getElem?_toArray, List.getElem?_cons_zero, List.getElem?_cons_succ] at k40 k41 k42
          have HA6Z := Lib.hid a6
          have HL6 := Lib.hid (lt_of_heap HA6.out)
          go_wp2_with fail
          refine (load_lit HQt.out HFO.out HL1.out).mono ?_
          rintro e W31 ⟨rfl, hb⟩
          clear k40 k41 k42 a6
          have HBW := Lib.hid (HBW.out.trans hb)
          have HX4 := Lib.hid (Bel.stays hb HX4.out)
          have HA6 := Lib.hid (Bel.stays hb HA6.out)
          have HQt := Lib.hid (HQt.out.bel hb)
          have a6 := (hb.cell (p := ⟨g6, j, none⟩) HL6.out).trans HA6Z.out
          clear hb
          have hzz : (z != z) = false := by simp
          go_wp2
          exact ⟨⟨j + 1, by omega, by go_num, HBW, HX4, HA6, HQt⟩, by simp [intOf]; omega⟩
        · have hlj2 : ¬ (j : Int) < 4 := by omega
          go_wp2
          go_ret
          exact ⟨rfl, HBW.out⟩
end Go.Proofs.Ytgbcamegidloaaa
