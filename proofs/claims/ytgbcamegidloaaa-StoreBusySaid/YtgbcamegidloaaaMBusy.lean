/- What goes to memory at once may not, while stores are pending. -/
import Derived.Test.YtgbcamegidloaaaMMade
import Derived.Test.YtgbcamegidloaaaMLawP
namespace Go.Proofs.Ytgbcamegidloaaa
open Go.RowKit Mm
set_option linter.unusedVariables false
set_option linter.unusedSimpArgs false
set_option maxRecDepth 100000 in
set_option maxHeartbeats 4000000 in
theorem busy_walk {w : World} {harts words which at' n : Int} {P : Option Addr} {N C : Nat} {raw : List Q4} (hih : inInt harts) (hiw : inInt words) (hn : raw.length = N) (hQ : TrisQ w P raw) (hN : N ≤ 9223372036854775807) (hi3 : inInt which) (hi4 : inInt at') :
    Calls Try.prog 8 #[.int .i64 harts, .int .i64 words, .slice P N C, .int .i64 which, .int .i64 at', .int .i64 n] w fun e w' => e = .returned (.bool true) ∧ Bel w w' := by
  obtain ⟨m, hmd⟩ : ∃ m, madeM harts words raw = m := ⟨_, rfl⟩
  have hbig := big_made harts words raw
  rw [hmd] at hbig
  obtain ⟨H, hH⟩ : ∃ H, (2 + pick harts 3).toNat = H := ⟨_, rfl⟩
  obtain ⟨NW, hNW⟩ : ∃ NW, (1 + pick words 4).toNat = NW := ⟨_, rfl⟩
  rw [hH, hNW] at hbig
  have h2H : 2 ≤ H := by have := pick_bd harts (n := 3) (by omega); omega
  have h4H : H ≤ 4 := by have := pick_bd harts (n := 3) (by omega); omega
  have h1N : 1 ≤ NW := by have := pick_bd words (n := 4) (by omega); omega
  have h4N : NW ≤ 4 := by have := pick_bd words (n := 4) (by omega); omega
  have HMD := Lib.hid hmd
  have HBIG := Lib.hid hbig
  have H2H := Lib.hid h2H
  have H4H := Lib.hid h4H
  have H1N := Lib.hid h1N
  have H4N := Lib.hid h4N
  have HIH := Lib.hid hih
  have HIW := Lib.hid hiw
  have HQR := Lib.hid hQ
  have HRN := Lib.hid hn
  have HNL := Lib.hid hN
  clear hmd hbig hH hNW h2H h4H h1N h4N hih hiw hQ hn hN
  have HI3 := Lib.hid hi3
  clear hi3
  have HI4 := Lib.hid hi4
  clear hi4
  have HBW : Hid (Bel w w) := Lib.hid (Bel.refl w)
  have HQ0 := HQR
  go_enter Try.func8, Try.ntmps8
  go_wp2_with fail
  refine (awake_any _).mono ?_
  rintro e W1 ⟨rfl, hb⟩
  have HBW := Lib.hid (HBW.out.trans hb)
  clear hb
  go_wp2_with fail
  refine (made_lit HIH.out HIW.out HRN.out (HQ0.out.bel HBW.out) HNL.out HMD.out).mono ?_
  rintro e W2 ⟨u0, rfl, hb, hq⟩
  have HBW := Lib.hid (HBW.out.trans hb)
  have HQu0 : Hid (MemAt 0 W2 u0 m) := Lib.hid (hq.mono (Nat.zero_le _))
  clear hb hq
  go_upto_region 3 with (fail)
  have hnew : (W2.alloc (.cells #[.slice u0.w.p u0.w.n u0.w.c, .slice u0.p.p u0.p.n u0.p.c, .slice u0.r.p u0.r.n u0.r.c] 27)).heap[W2.heap.size]? = some (.cells #[.slice u0.w.p u0.w.n u0.w.c, .slice u0.p.p u0.p.n u0.p.c, .slice u0.r.p u0.r.n u0.r.c] 27 (0, 0)) := heap_alloc_new W2 _
  have hb : Bel W2 (W2.alloc (.cells #[.slice u0.w.p u0.w.n u0.w.c, .slice u0.p.p u0.p.n u0.p.c, .slice u0.r.p u0.r.n u0.r.c] 27)) := (Bel.refl W2).alloc _ _
  have hge : w.heap.size ≤ W2.heap.size := HBW.out.size
  generalize hWW : (W2.alloc (.cells #[.slice u0.w.p u0.w.n u0.w.c, .slice u0.p.p u0.p.n u0.p.c, .slice u0.r.p u0.r.n u0.r.c] 27)) = W3 at hnew hb ⊢
  clear hWW
  have HBW := Lib.hid (HBW.out.trans hb)
  have HQu0 := Lib.hid (HQu0.out.bel hb)
  generalize W2.heap.size = g14 at hnew hge  ⊢
  have HX14 := Lib.hid hnew
  have HGE14 := Lib.hid hge
  clear hnew hb hge
  have k140 := cell_of_heap HX14.out 0
  have k141 := cell_of_heap HX14.out 1
  have k142 := cell_of_heap HX14.out 2
  simp only [List.getElem?_toArray, List.getElem?_cons_zero, List.getElem?_cons_succ] at k140 k141 k142
  have HPNu0 : Hid (u0.p.n = H) := Lib.hid (HQu0.out.pn.trans HBIG.out.p)
  have HWNu0 : Hid (u0.w.n = NW) := Lib.hid (HQu0.out.wn.trans HBIG.out.w)
  have h1pu0 : (1 : Int) ≤ (u0.p.n : Int) := by have := HPNu0.out; have := H2H.out; omega
  have h1wu0 : (1 : Int) ≤ (u0.w.n : Int) := by have := HWNu0.out; have := H1N.out; omega
  have h2pu0 : ¬ (u0.p.n : Int) < 2 := by have := HPNu0.out; have := H2H.out; omega
  obtain ⟨hn, hhn⟩ : ∃ hn : Nat, pick which u0.p.n = (hn : Int) := ⟨(pick which u0.p.n).toNat, by have := pick_bd which (n := (u0.p.n : Int)) (by omega); omega⟩
  have HLhn : Hid (hn < H) := Lib.hid (by have := pick_bd which (n := (u0.p.n : Int)) (by omega); have := HPNu0.out; have := HWNu0.out; omega)
  have HPhn := Lib.hid hhn
  have H1hn := Lib.hid h1pu0
  clear hhn
  obtain ⟨an, han⟩ : ∃ an : Nat, pick at' u0.w.n = (an : Int) := ⟨(pick at' u0.w.n).toNat, by have := pick_bd at' (n := (u0.w.n : Int)) (by omega); omega⟩
  have HLan : Hid (an < NW) := Lib.hid (by have := pick_bd at' (n := (u0.w.n : Int)) (by omega); have := HPNu0.out; have := HWNu0.out; omega)
  have HPan := Lib.hid han
  have H1an := Lib.hid h1wu0
  clear han
  obtain ⟨was, m1, m2, m3, m4, m5, b1, b2, b3, b4, e1, e2, e3, e4, e5, e6, e7, e8, e9⟩ := busy_all HBIG.out HLhn.out HLan.out n
  have B1 := Lib.hid b1
  have B2 := Lib.hid b2
  have B3 := Lib.hid b3
  have B4 := Lib.hid b4
  have E1 := Lib.hid e1
  have E2 := Lib.hid e2
  have E3 := Lib.hid e3
  have E4 := Lib.hid e4
  have E5 := Lib.hid e5
  have E6 := Lib.hid e6
  have E7 := Lib.hid e7
  have E8 := Lib.hid e8
  have E9 := Lib.hid e9
  clear b1 b2 b3 b4 e1 e2 e3 e4 e5 e6 e7 e8 e9
  have hlw : ¬ (u0.w.n : Int) < 1 := by omega
  go_upto_region 7 with (first | (go_at_call 15; ((with_reducible refine (pick_lit HPhn.out HI3.out H1hn.out _).mono ?_); rintro e wq ⟨rfl, rfl⟩)) | (go_at_call 15; ((with_reducible refine (pick_lit HPan.out HI4.out H1an.out _).mono ?_); rintro e wq ⟨rfl, rfl⟩)))
  go_wp2_with fail
  refine (flush_lit HQu0.out HBIG.out.ok E1.out).mono ?_
  rintro e W4 ⟨u1, rfl, hb, hq⟩
  clear k140 k141 k142
  have HBW := Lib.hid (HBW.out.trans hb)
  have HX14 := Lib.hid (Bel.stays hb HX14.out)
  have HQu0 := Lib.hid (HQu0.out.bel hb)
  have HQu1 : Hid (MemAt 0 W4 u1 m1) := Lib.hid (hq.mono (Nat.zero_le _))
  clear hb hq
  have k140 := cell_of_heap HX14.out 0
  have y140 := frozen_of_heap HX14.out 0
  have k141 := cell_of_heap HX14.out 1
  have y141 := frozen_of_heap HX14.out 1
  have k142 := cell_of_heap HX14.out 2
  have y142 := frozen_of_heap HX14.out 2
  simp only [List.getElem?_toArray, List.getElem?_cons_zero, List.getElem?_cons_succ] at k140 k141 k142
  go_upto_region 8 with (fail)
  clear y140 y141 y142 k140 k141 k142
  have hs3 : Svg g14 W4 (((W4.setCell ⟨g14, 0, none⟩ (.slice u1.w.p u1.w.n u1.w.c)).setCell ⟨g14, 1, none⟩ (.slice u1.p.p u1.p.n u1.p.c)).setCell ⟨g14, 2, none⟩ (.slice u1.r.p u1.r.n u1.r.c)) := set3_svg W4 g14 (.slice u1.w.p u1.w.n u1.w.c) (.slice u1.p.p u1.p.n u1.p.c) (.slice u1.r.p u1.r.n u1.r.c)
  have hh := set3_heap HX14.out (.slice u1.w.p u1.w.n u1.w.c) (.slice u1.p.p u1.p.n u1.p.c) (.slice u1.r.p u1.r.n u1.r.c)
  generalize hWW : (((W4.setCell ⟨g14, 0, none⟩ (.slice u1.w.p u1.w.n u1.w.c)).setCell ⟨g14, 1, none⟩ (.slice u1.p.p u1.p.n u1.p.c)).setCell ⟨g14, 2, none⟩ (.slice u1.r.p u1.r.n u1.r.c)) = W5 at hs3 hh ⊢
  clear hWW
  have HBW := Lib.hid (hs3.bel HBW.out HGE14.out)
  have HQu0 := Lib.hid (HQu0.out.keep hs3 HX14.out (by decide) (by decide) (by decide))
  have HQu1 := Lib.hid (HQu1.out.keep hs3 HX14.out (by decide) (by decide) (by decide))
  have HX14 := Lib.hid hh
  clear hs3 hh
  have k140 := cell_of_heap HX14.out 0
  have k141 := cell_of_heap HX14.out 1
  have k142 := cell_of_heap HX14.out 2
  simp only [List.getElem?_toArray, List.getElem?_cons_zero, List.getElem?_cons_succ] at k140 k141 k142
  go_wp2_with fail
  refine (load_lit HQu1.out B1.out.ok E2.out).mono ?_
  rintro e W6 ⟨rfl, hb⟩
  clear k140 k141 k142
  have HBW := Lib.hid (HBW.out.trans hb)
  have HX14 := Lib.hid (Bel.stays hb HX14.out)
  have HQu0 := Lib.hid (HQu0.out.bel hb)
  have HQu1 := Lib.hid (HQu1.out.bel hb)
  clear hb
  have k140 := cell_of_heap HX14.out 0
  have k141 := cell_of_heap HX14.out 1
  have k142 := cell_of_heap HX14.out 2
  simp only [List.getElem?_toArray, List.getElem?_cons_zero, List.getElem?_cons_succ] at k140 k141 k142
  go_wp2_with fail
  refine (change_lit HQu1.out B1.out.ok E3.out).mono ?_
  rintro e W7 ⟨u2, rfl, hb, hq⟩
  clear k140 k141 k142
  have HBW := Lib.hid (HBW.out.trans hb)
  have HX14 := Lib.hid (Bel.stays hb HX14.out)
  have HQu0 := Lib.hid (HQu0.out.bel hb)
  have HQu1 := Lib.hid (HQu1.out.bel hb)
  have HQu2 : Hid (MemAt 0 W7 u2 m2) := Lib.hid (hq.mono (Nat.zero_le _))
  clear hb hq
  have k140 := cell_of_heap HX14.out 0
  have k141 := cell_of_heap HX14.out 1
  have k142 := cell_of_heap HX14.out 2
  simp only [List.getElem?_toArray, List.getElem?_cons_zero, List.getElem?_cons_succ] at k140 k141 k142
  go_upto_region 10 with (fail)
  clear k140 k141 k142
  have hnew : (W7.alloc (.cells #[.slice u2.w.p u2.w.n u2.w.c, .slice u2.p.p u2.p.n u2.p.c, .slice u2.r.p u2.r.n u2.r.c] 27)).heap[W7.heap.size]? = some (.cells #[.slice u2.w.p u2.w.n u2.w.c, .slice u2.p.p u2.p.n u2.p.c, .slice u2.r.p u2.r.n u2.r.c] 27 (0, 0)) := heap_alloc_new W7 _
  have hb : Bel W7 (W7.alloc (.cells #[.slice u2.w.p u2.w.n u2.w.c, .slice u2.p.p u2.p.n u2.p.c, .slice u2.r.p u2.r.n u2.r.c] 27)) := (Bel.refl W7).alloc _ _
  have hge : w.heap.size ≤ W7.heap.size := HBW.out.size
  have HN1421 : Hid (g14 ≠ W7.heap.size) := Lib.hid (by have := lt_of_heap HX14.out; omega)
  generalize hWW : (W7.alloc (.cells #[.slice u2.w.p u2.w.n u2.w.c, .slice u2.p.p u2.p.n u2.p.c, .slice u2.r.p u2.r.n u2.r.c] 27)) = W8 at hnew hb ⊢
  clear hWW
  have HBW := Lib.hid (HBW.out.trans hb)
  have HX14 := Lib.hid (Bel.stays hb HX14.out)
  have HQu0 := Lib.hid (HQu0.out.bel hb)
  have HQu1 := Lib.hid (HQu1.out.bel hb)
  have HQu2 := Lib.hid (HQu2.out.bel hb)
  generalize W7.heap.size = g21 at hnew hge HN1421 ⊢
  have HX21 := Lib.hid hnew
  have HGE21 := Lib.hid hge
  clear hnew hb hge
  have k140 := cell_of_heap HX14.out 0
  have k141 := cell_of_heap HX14.out 1
  have k142 := cell_of_heap HX14.out 2
  have k210 := cell_of_heap HX21.out 0
  have k211 := cell_of_heap HX21.out 1
  have k212 := cell_of_heap HX21.out 2
  simp only [List.getElem?_toArray, List.getElem?_cons_zero, List.getElem?_cons_succ] at k140 k141 k142 k210 k211 k212
  go_wp2_with fail
  refine (store_lit HQu2.out B2.out.ok E4.out).mono ?_
  rintro e W9 ⟨u3, rfl, hb, hq⟩
  clear k140 k141 k142 k210 k211 k212
  have HBW := Lib.hid (HBW.out.trans hb)
  have HX14 := Lib.hid (Bel.stays hb HX14.out)
  have HX21 := Lib.hid (Bel.stays hb HX21.out)
  have HQu0 := Lib.hid (HQu0.out.bel hb)
  have HQu1 := Lib.hid (HQu1.out.bel hb)
  have HQu2 := Lib.hid (HQu2.out.bel hb)
  have HQu3 : Hid (MemAt 0 W9 u3 m3) := Lib.hid (hq.mono (Nat.zero_le _))
  clear hb hq
  have k140 := cell_of_heap HX14.out 0
  have k141 := cell_of_heap HX14.out 1
  have k142 := cell_of_heap HX14.out 2
  have k210 := cell_of_heap HX21.out 0
  have k211 := cell_of_heap HX21.out 1
  have k212 := cell_of_heap HX21.out 2
  simp only [List.getElem?_toArray, List.getElem?_cons_zero, List.getElem?_cons_succ] at k140 k141 k142 k210 k211 k212
  go_upto_region 11 with (fail)
  clear k140 k141 k142 k210 k211 k212
  have hnew : (W9.alloc (.cells #[.slice u3.w.p u3.w.n u3.w.c, .slice u3.p.p u3.p.n u3.p.c, .slice u3.r.p u3.r.n u3.r.c] 27)).heap[W9.heap.size]? = some (.cells #[.slice u3.w.p u3.w.n u3.w.c, .slice u3.p.p u3.p.n u3.p.c, .slice u3.r.p u3.r.n u3.r.c] 27 (0, 0)) := heap_alloc_new W9 _
  have hb : Bel W9 (W9.alloc (.cells #[.slice u3.w.p u3.w.n u3.w.c, .slice u3.p.p u3.p.n u3.p.c, .slice u3.r.p u3.r.n u3.r.c] 27)) := (Bel.refl W9).alloc _ _
  have hge : w.heap.size ≤ W9.heap.size := HBW.out.size
  have HN1423 : Hid (g14 ≠ W9.heap.size) := Lib.hid (by have := lt_of_heap HX14.out; omega)
  have HN2123 : Hid (g21 ≠ W9.heap.size) := Lib.hid (by have := lt_of_heap HX21.out; omega)
  generalize hWW : (W9.alloc (.cells #[.slice u3.w.p u3.w.n u3.w.c, .slice u3.p.p u3.p.n u3.p.c, .slice u3.r.p u3.r.n u3.r.c] 27)) = W10 at hnew hb ⊢
  clear hWW
  have HBW := Lib.hid (HBW.out.trans hb)
  have HX14 := Lib.hid (Bel.stays hb HX14.out)
  have HX21 := Lib.hid (Bel.stays hb HX21.out)
  have HQu0 := Lib.hid (HQu0.out.bel hb)
  have HQu1 := Lib.hid (HQu1.out.bel hb)
  have HQu2 := Lib.hid (HQu2.out.bel hb)
  have HQu3 := Lib.hid (HQu3.out.bel hb)
  generalize W9.heap.size = g23 at hnew hge HN1423 HN2123 ⊢
  have HX23 := Lib.hid hnew
  have HGE23 := Lib.hid hge
  clear hnew hb hge
  have k140 := cell_of_heap HX14.out 0
  have k141 := cell_of_heap HX14.out 1
  have k142 := cell_of_heap HX14.out 2
  have k210 := cell_of_heap HX21.out 0
  have k211 := cell_of_heap HX21.out 1
  have k212 := cell_of_heap HX21.out 2
  have k230 := cell_of_heap HX23.out 0
  have k231 := cell_of_heap HX23.out 1
  have k232 := cell_of_heap HX23.out 2
  simp only [List.getElem?_toArray, List.getElem?_cons_zero, List.getElem?_cons_succ] at k140 k141 k142 k210 k211 k212 k230 k231 k232
  go_wp2_with fail
  refine (change_lit HQu3.out B3.out.ok E5.out).mono ?_
  rintro e W11 ⟨u4, rfl, hb, hq⟩
  clear k140 k141 k142 k210 k211 k212 k230 k231 k232
  have HBW := Lib.hid (HBW.out.trans hb)
  have HX14 := Lib.hid (Bel.stays hb HX14.out)
  have HX21 := Lib.hid (Bel.stays hb HX21.out)
  have HX23 := Lib.hid (Bel.stays hb HX23.out)
  have HQu0 := Lib.hid (HQu0.out.bel hb)
  have HQu1 := Lib.hid (HQu1.out.bel hb)
  have HQu2 := Lib.hid (HQu2.out.bel hb)
  have HQu3 := Lib.hid (HQu3.out.bel hb)
  have HQu4 : Hid (MemAt 0 W11 u4 zero) := Lib.hid (hq.mono (Nat.zero_le _))
  clear hb hq
  have k140 := cell_of_heap HX14.out 0
  have k141 := cell_of_heap HX14.out 1
  have k142 := cell_of_heap HX14.out 2
  have k210 := cell_of_heap HX21.out 0
  have k211 := cell_of_heap HX21.out 1
  have k212 := cell_of_heap HX21.out 2
  have k230 := cell_of_heap HX23.out 0
  have k231 := cell_of_heap HX23.out 1
  have k232 := cell_of_heap HX23.out 2
  simp only [List.getElem?_toArray, List.getElem?_cons_zero, List.getElem?_cons_succ] at k140 k141 k142 k210 k211 k212 k230 k231 k232
  go_upto_region 12 with (fail)
  clear k140 k141 k142 k210 k211 k212 k230 k231 k232
  have hnew : (W11.alloc (.cells #[.slice u4.w.p u4.w.n u4.w.c, .slice u4.p.p u4.p.n u4.p.c, .slice u4.r.p u4.r.n u4.r.c] 27)).heap[W11.heap.size]? = some (.cells #[.slice u4.w.p u4.w.n u4.w.c, .slice u4.p.p u4.p.n u4.p.c, .slice u4.r.p u4.r.n u4.r.c] 27 (0, 0)) := heap_alloc_new W11 _
  have hb : Bel W11 (W11.alloc (.cells #[.slice u4.w.p u4.w.n u4.w.c, .slice u4.p.p u4.p.n u4.p.c, .slice u4.r.p u4.r.n u4.r.c] 27)) := (Bel.refl W11).alloc _ _
  have hge : w.heap.size ≤ W11.heap.size := HBW.out.size
  have HN1426 : Hid (g14 ≠ W11.heap.size) := Lib.hid (by have := lt_of_heap HX14.out; omega)
  have HN2126 : Hid (g21 ≠ W11.heap.size) := Lib.hid (by have := lt_of_heap HX21.out; omega)
  have HN2326 : Hid (g23 ≠ W11.heap.size) := Lib.hid (by have := lt_of_heap HX23.out; omega)
  generalize hWW : (W11.alloc (.cells #[.slice u4.w.p u4.w.n u4.w.c, .slice u4.p.p u4.p.n u4.p.c, .slice u4.r.p u4.r.n u4.r.c] 27)) = W12 at hnew hb ⊢
  clear hWW
  have HBW := Lib.hid (HBW.out.trans hb)
  have HX14 := Lib.hid (Bel.stays hb HX14.out)
  have HX21 := Lib.hid (Bel.stays hb HX21.out)
  have HX23 := Lib.hid (Bel.stays hb HX23.out)
  have HQu0 := Lib.hid (HQu0.out.bel hb)
  have HQu1 := Lib.hid (HQu1.out.bel hb)
  have HQu2 := Lib.hid (HQu2.out.bel hb)
  have HQu3 := Lib.hid (HQu3.out.bel hb)
  have HQu4 := Lib.hid (HQu4.out.bel hb)
  generalize W11.heap.size = g26 at hnew hge HN1426 HN2126 HN2326 ⊢
  have HX26 := Lib.hid hnew
  have HGE26 := Lib.hid hge
  clear hnew hb hge
  have k140 := cell_of_heap HX14.out 0
  have k141 := cell_of_heap HX14.out 1
  have k142 := cell_of_heap HX14.out 2
  have k210 := cell_of_heap HX21.out 0
  have k211 := cell_of_heap HX21.out 1
  have k212 := cell_of_heap HX21.out 2
  have k230 := cell_of_heap HX23.out 0
  have k231 := cell_of_heap HX23.out 1
  have k232 := cell_of_heap HX23.out 2
  have k260 := cell_of_heap HX26.out 0
  have k261 := cell_of_heap HX26.out 1
  have k262 := cell_of_heap HX26.out 2
  simp only [List.getElem?_toArray, List.getElem?_cons_zero, List.getElem?_cons_succ] at k140 k141 k142 k210 k211 k212 k230 k231 k232 k260 k261 k262
  go_wp2_with fail
  refine (reserve_lit HQu3.out B3.out.ok E6.out).mono ?_
  rintro e W13 ⟨u5, rfl, hb, hq⟩
  clear k140 k141 k142 k210 k211 k212 k230 k231 k232 k260 k261 k262
  have HBW := Lib.hid (HBW.out.trans hb)
  have HX14 := Lib.hid (Bel.stays hb HX14.out)
  have HX21 := Lib.hid (Bel.stays hb HX21.out)
  have HX23 := Lib.hid (Bel.stays hb HX23.out)
  have HX26 := Lib.hid (Bel.stays hb HX26.out)
  have HQu0 := Lib.hid (HQu0.out.bel hb)
  have HQu1 := Lib.hid (HQu1.out.bel hb)
  have HQu2 := Lib.hid (HQu2.out.bel hb)
  have HQu3 := Lib.hid (HQu3.out.bel hb)
  have HQu4 := Lib.hid (HQu4.out.bel hb)
  have HQu5 : Hid (MemAt 0 W13 u5 zero) := Lib.hid (hq.mono (Nat.zero_le _))
  clear hb hq
  have k140 := cell_of_heap HX14.out 0
  have k141 := cell_of_heap HX14.out 1
  have k142 := cell_of_heap HX14.out 2
  have k210 := cell_of_heap HX21.out 0
  have k211 := cell_of_heap HX21.out 1
  have k212 := cell_of_heap HX21.out 2
  have k230 := cell_of_heap HX23.out 0
  have k231 := cell_of_heap HX23.out 1
  have k232 := cell_of_heap HX23.out 2
  have k260 := cell_of_heap HX26.out 0
  have k261 := cell_of_heap HX26.out 1
  have k262 := cell_of_heap HX26.out 2
  simp only [List.getElem?_toArray, List.getElem?_cons_zero, List.getElem?_cons_succ] at k140 k141 k142 k210 k211 k212 k230 k231 k232 k260 k261 k262
  go_upto_region 13 with (fail)
  clear k140 k141 k142 k210 k211 k212 k230 k231 k232 k260 k261 k262
  have hnew : (W13.alloc (.cells #[.slice u5.w.p u5.w.n u5.w.c, .slice u5.p.p u5.p.n u5.p.c, .slice u5.r.p u5.r.n u5.r.c] 27)).heap[W13.heap.size]? = some (.cells #[.slice u5.w.p u5.w.n u5.w.c, .slice u5.p.p u5.p.n u5.p.c, .slice u5.r.p u5.r.n u5.r.c] 27 (0, 0)) := heap_alloc_new W13 _
  have hb : Bel W13 (W13.alloc (.cells #[.slice u5.w.p u5.w.n u5.w.c, .slice u5.p.p u5.p.n u5.p.c, .slice u5.r.p u5.r.n u5.r.c] 27)) := (Bel.refl W13).alloc _ _
  have hge : w.heap.size ≤ W13.heap.size := HBW.out.size
  have HN1429 : Hid (g14 ≠ W13.heap.size) := Lib.hid (by have := lt_of_heap HX14.out; omega)
  have HN2129 : Hid (g21 ≠ W13.heap.size) := Lib.hid (by have := lt_of_heap HX21.out; omega)
  have HN2329 : Hid (g23 ≠ W13.heap.size) := Lib.hid (by have := lt_of_heap HX23.out; omega)
  have HN2629 : Hid (g26 ≠ W13.heap.size) := Lib.hid (by have := lt_of_heap HX26.out; omega)
  generalize hWW : (W13.alloc (.cells #[.slice u5.w.p u5.w.n u5.w.c, .slice u5.p.p u5.p.n u5.p.c, .slice u5.r.p u5.r.n u5.r.c] 27)) = W14 at hnew hb ⊢
  clear hWW
  have HBW := Lib.hid (HBW.out.trans hb)
  have HX14 := Lib.hid (Bel.stays hb HX14.out)
  have HX21 := Lib.hid (Bel.stays hb HX21.out)
  have HX23 := Lib.hid (Bel.stays hb HX23.out)
  have HX26 := Lib.hid (Bel.stays hb HX26.out)
  have HQu0 := Lib.hid (HQu0.out.bel hb)
  have HQu1 := Lib.hid (HQu1.out.bel hb)
  have HQu2 := Lib.hid (HQu2.out.bel hb)
  have HQu3 := Lib.hid (HQu3.out.bel hb)
  have HQu4 := Lib.hid (HQu4.out.bel hb)
  have HQu5 := Lib.hid (HQu5.out.bel hb)
  generalize W13.heap.size = g29 at hnew hge HN1429 HN2129 HN2329 HN2629 ⊢
  have HX29 := Lib.hid hnew
  have HGE29 := Lib.hid hge
  clear hnew hb hge
  have k140 := cell_of_heap HX14.out 0
  have k141 := cell_of_heap HX14.out 1
  have k142 := cell_of_heap HX14.out 2
  have k210 := cell_of_heap HX21.out 0
  have k211 := cell_of_heap HX21.out 1
  have k212 := cell_of_heap HX21.out 2
  have k230 := cell_of_heap HX23.out 0
  have k231 := cell_of_heap HX23.out 1
  have k232 := cell_of_heap HX23.out 2
  have k260 := cell_of_heap HX26.out 0
  have k261 := cell_of_heap HX26.out 1
  have k262 := cell_of_heap HX26.out 2
  have k290 := cell_of_heap HX29.out 0
  have k291 := cell_of_heap HX29.out 1
  have k292 := cell_of_heap HX29.out 2
  simp only [List.getElem?_toArray, List.getElem?_cons_zero, List.getElem?_cons_succ] at k140 k141 k142 k210 k211 k212 k230 k231 k232 k260 k261 k262 k290 k291 k292
  go_wp2_with fail
  refine (cond_lit HQu3.out B3.out.ok E7.out).mono ?_
  rintro e W15 ⟨u6, rfl, hb, hq⟩
  clear k140 k141 k142 k210 k211 k212 k230 k231 k232 k260 k261 k262 k290 k291 k292
  have HBW := Lib.hid (HBW.out.trans hb)
  have HX14 := Lib.hid (Bel.stays hb HX14.out)
  have HX21 := Lib.hid (Bel.stays hb HX21.out)
  have HX23 := Lib.hid (Bel.stays hb HX23.out)
  have HX26 := Lib.hid (Bel.stays hb HX26.out)
  have HX29 := Lib.hid (Bel.stays hb HX29.out)
  have HQu0 := Lib.hid (HQu0.out.bel hb)
  have HQu1 := Lib.hid (HQu1.out.bel hb)
  have HQu2 := Lib.hid (HQu2.out.bel hb)
  have HQu3 := Lib.hid (HQu3.out.bel hb)
  have HQu4 := Lib.hid (HQu4.out.bel hb)
  have HQu5 := Lib.hid (HQu5.out.bel hb)
  have HQu6 : Hid (MemAt 0 W15 u6 zero) := Lib.hid (hq.mono (Nat.zero_le _))
  clear hb hq
  have k140 := cell_of_heap HX14.out 0
  have k141 := cell_of_heap HX14.out 1
  have k142 := cell_of_heap HX14.out 2
  have k210 := cell_of_heap HX21.out 0
  have k211 := cell_of_heap HX21.out 1
  have k212 := cell_of_heap HX21.out 2
  have k230 := cell_of_heap HX23.out 0
  have k231 := cell_of_heap HX23.out 1
  have k232 := cell_of_heap HX23.out 2
  have k260 := cell_of_heap HX26.out 0
  have k261 := cell_of_heap HX26.out 1
  have k262 := cell_of_heap HX26.out 2
  have k290 := cell_of_heap HX29.out 0
  have k291 := cell_of_heap HX29.out 1
  have k292 := cell_of_heap HX29.out 2
  simp only [List.getElem?_toArray, List.getElem?_cons_zero, List.getElem?_cons_succ] at k140 k141 k142 k210 k211 k212 k230 k231 k232 k260 k261 k262 k290 k291 k292
  go_upto_region 14 with (fail)
  clear k140 k141 k142 k210 k211 k212 k230 k231 k232 k260 k261 k262 k290 k291 k292
  have hnew : (W15.alloc (.cells #[.slice u6.w.p u6.w.n u6.w.c, .slice u6.p.p u6.p.n u6.p.c, .slice u6.r.p u6.r.n u6.r.c] 27)).heap[W15.heap.size]? = some (.cells #[.slice u6.w.p u6.w.n u6.w.c, .slice u6.p.p u6.p.n u6.p.c, .slice u6.r.p u6.r.n u6.r.c] 27 (0, 0)) := heap_alloc_new W15 _
  have hb : Bel W15 (W15.alloc (.cells #[.slice u6.w.p u6.w.n u6.w.c, .slice u6.p.p u6.p.n u6.p.c, .slice u6.r.p u6.r.n u6.r.c] 27)) := (Bel.refl W15).alloc _ _
  have hge : w.heap.size ≤ W15.heap.size := HBW.out.size
  have HN1432 : Hid (g14 ≠ W15.heap.size) := Lib.hid (by have := lt_of_heap HX14.out; omega)
  have HN2132 : Hid (g21 ≠ W15.heap.size) := Lib.hid (by have := lt_of_heap HX21.out; omega)
  have HN2332 : Hid (g23 ≠ W15.heap.size) := Lib.hid (by have := lt_of_heap HX23.out; omega)
  have HN2632 : Hid (g26 ≠ W15.heap.size) := Lib.hid (by have := lt_of_heap HX26.out; omega)
  have HN2932 : Hid (g29 ≠ W15.heap.size) := Lib.hid (by have := lt_of_heap HX29.out; omega)
  generalize hWW : (W15.alloc (.cells #[.slice u6.w.p u6.w.n u6.w.c, .slice u6.p.p u6.p.n u6.p.c, .slice u6.r.p u6.r.n u6.r.c] 27)) = W16 at hnew hb ⊢
  clear hWW
  have HBW := Lib.hid (HBW.out.trans hb)
  have HX14 := Lib.hid (Bel.stays hb HX14.out)
  have HX21 := Lib.hid (Bel.stays hb HX21.out)
  have HX23 := Lib.hid (Bel.stays hb HX23.out)
  have HX26 := Lib.hid (Bel.stays hb HX26.out)
  have HX29 := Lib.hid (Bel.stays hb HX29.out)
  have HQu0 := Lib.hid (HQu0.out.bel hb)
  have HQu1 := Lib.hid (HQu1.out.bel hb)
  have HQu2 := Lib.hid (HQu2.out.bel hb)
  have HQu3 := Lib.hid (HQu3.out.bel hb)
  have HQu4 := Lib.hid (HQu4.out.bel hb)
  have HQu5 := Lib.hid (HQu5.out.bel hb)
  have HQu6 := Lib.hid (HQu6.out.bel hb)
  generalize W15.heap.size = g32 at hnew hge HN1432 HN2132 HN2332 HN2632 HN2932 ⊢
  have HX32 := Lib.hid hnew
  have HGE32 := Lib.hid hge
  clear hnew hb hge
  have k140 := cell_of_heap HX14.out 0
  have k141 := cell_of_heap HX14.out 1
  have k142 := cell_of_heap HX14.out 2
  have k210 := cell_of_heap HX21.out 0
  have k211 := cell_of_heap HX21.out 1
  have k212 := cell_of_heap HX21.out 2
  have k230 := cell_of_heap HX23.out 0
  have k231 := cell_of_heap HX23.out 1
  have k232 := cell_of_heap HX23.out 2
  have k260 := cell_of_heap HX26.out 0
  have k261 := cell_of_heap HX26.out 1
  have k262 := cell_of_heap HX26.out 2
  have k290 := cell_of_heap HX29.out 0
  have k291 := cell_of_heap HX29.out 1
  have k292 := cell_of_heap HX29.out 2
  have k320 := cell_of_heap HX32.out 0
  have k321 := cell_of_heap HX32.out 1
  have k322 := cell_of_heap HX32.out 2
  simp only [List.getElem?_toArray, List.getElem?_cons_zero, List.getElem?_cons_succ] at k140 k141 k142 k210 k211 k212 k230 k231 k232 k260 k261 k262 k290 k291 k292 k320 k321 k322
  go_wp2_with fail
  refine (flush_lit HQu3.out B3.out.ok E8.out).mono ?_
  rintro e W17 ⟨u7, rfl, hb, hq⟩
  clear k140 k141 k142 k210 k211 k212 k230 k231 k232 k260 k261 k262 k290 k291 k292 k320 k321 k322
  have HBW := Lib.hid (HBW.out.trans hb)
  have HX14 := Lib.hid (Bel.stays hb HX14.out)
  have HX21 := Lib.hid (Bel.stays hb HX21.out)
  have HX23 := Lib.hid (Bel.stays hb HX23.out)
  have HX26 := Lib.hid (Bel.stays hb HX26.out)
  have HX29 := Lib.hid (Bel.stays hb HX29.out)
  have HX32 := Lib.hid (Bel.stays hb HX32.out)
  have HQu0 := Lib.hid (HQu0.out.bel hb)
  have HQu1 := Lib.hid (HQu1.out.bel hb)
  have HQu2 := Lib.hid (HQu2.out.bel hb)
  have HQu3 := Lib.hid (HQu3.out.bel hb)
  have HQu4 := Lib.hid (HQu4.out.bel hb)
  have HQu5 := Lib.hid (HQu5.out.bel hb)
  have HQu6 := Lib.hid (HQu6.out.bel hb)
  have HQu7 : Hid (MemAt 0 W17 u7 m4) := Lib.hid (hq.mono (Nat.zero_le _))
  clear hb hq
  have k140 := cell_of_heap HX14.out 0
  have k141 := cell_of_heap HX14.out 1
  have k142 := cell_of_heap HX14.out 2
  have k210 := cell_of_heap HX21.out 0
  have k211 := cell_of_heap HX21.out 1
  have k212 := cell_of_heap HX21.out 2
  have k230 := cell_of_heap HX23.out 0
  have k231 := cell_of_heap HX23.out 1
  have k232 := cell_of_heap HX23.out 2
  have k260 := cell_of_heap HX26.out 0
  have k261 := cell_of_heap HX26.out 1
  have k262 := cell_of_heap HX26.out 2
  have k290 := cell_of_heap HX29.out 0
  have k291 := cell_of_heap HX29.out 1
  have k292 := cell_of_heap HX29.out 2
  have k320 := cell_of_heap HX32.out 0
  have k321 := cell_of_heap HX32.out 1
  have k322 := cell_of_heap HX32.out 2
  simp only [List.getElem?_toArray, List.getElem?_cons_zero, List.getElem?_cons_succ] at k140 k141 k142 k210 k211 k212 k230 k231 k232 k260 k261 k262 k290 k291 k292 k320 k321 k322
  go_upto_region 15 with (fail)
  clear k140 k141 k142 k210 k211 k212 k230 k231 k232 k260 k261 k262 k290 k291 k292 k320 k321 k322
  have hnew : (W17.alloc (.cells #[.slice u7.w.p u7.w.n u7.w.c, .slice u7.p.p u7.p.n u7.p.c, .slice u7.r.p u7.r.n u7.r.c] 27)).heap[W17.heap.size]? = some (.cells #[.slice u7.w.p u7.w.n u7.w.c, .slice u7.p.p u7.p.n u7.p.c, .slice u7.r.p u7.r.n u7.r.c] 27 (0, 0)) := heap_alloc_new W17 _
  have hb : Bel W17 (W17.alloc (.cells #[.slice u7.w.p u7.w.n u7.w.c, .slice u7.p.p u7.p.n u7.p.c, .slice u7.r.p u7.r.n u7.r.c] 27)) := (Bel.refl W17).alloc _ _
  have hge : w.heap.size ≤ W17.heap.size := HBW.out.size
  have HN1434 : Hid (g14 ≠ W17.heap.size) := Lib.hid (by have := lt_of_heap HX14.out; omega)
  have HN2134 : Hid (g21 ≠ W17.heap.size) := Lib.hid (by have := lt_of_heap HX21.out; omega)
  have HN2334 : Hid (g23 ≠ W17.heap.size) := Lib.hid (by have := lt_of_heap HX23.out; omega)
  have HN2634 : Hid (g26 ≠ W17.heap.size) := Lib.hid (by have := lt_of_heap HX26.out; omega)
  have HN2934 : Hid (g29 ≠ W17.heap.size) := Lib.hid (by have := lt_of_heap HX29.out; omega)
  have HN3234 : Hid (g32 ≠ W17.heap.size) := Lib.hid (by have := lt_of_heap HX32.out; omega)
  generalize hWW : (W17.alloc (.cells #[.slice u7.w.p u7.w.n u7.w.c, .slice u7.p.p u7.p.n u7.p.c, .slice u7.r.p u7.r.n u7.r.c] 27)) = W18 at hnew hb ⊢
  clear hWW
  have HBW := Lib.hid (HBW.out.trans hb)
  have HX14 := Lib.hid (Bel.stays hb HX14.out)
  have HX21 := Lib.hid (Bel.stays hb HX21.out)
  have HX23 := Lib.hid (Bel.stays hb HX23.out)
  have HX26 := Lib.hid (Bel.stays hb HX26.out)
  have HX29 := Lib.hid (Bel.stays hb HX29.out)
  have HX32 := Lib.hid (Bel.stays hb HX32.out)
  have HQu0 := Lib.hid (HQu0.out.bel hb)
  have HQu1 := Lib.hid (HQu1.out.bel hb)
  have HQu2 := Lib.hid (HQu2.out.bel hb)
  have HQu3 := Lib.hid (HQu3.out.bel hb)
  have HQu4 := Lib.hid (HQu4.out.bel hb)
  have HQu5 := Lib.hid (HQu5.out.bel hb)
  have HQu6 := Lib.hid (HQu6.out.bel hb)
  have HQu7 := Lib.hid (HQu7.out.bel hb)
  generalize W17.heap.size = g34 at hnew hge HN1434 HN2134 HN2334 HN2634 HN2934 HN3234 ⊢
  have HX34 := Lib.hid hnew
  have HGE34 := Lib.hid hge
  clear hnew hb hge
  have k140 := cell_of_heap HX14.out 0
  have k141 := cell_of_heap HX14.out 1
  have k142 := cell_of_heap HX14.out 2
  have k210 := cell_of_heap HX21.out 0
  have k211 := cell_of_heap HX21.out 1
  have k212 := cell_of_heap HX21.out 2
  have k230 := cell_of_heap HX23.out 0
  have k231 := cell_of_heap HX23.out 1
  have k232 := cell_of_heap HX23.out 2
  have k260 := cell_of_heap HX26.out 0
  have k261 := cell_of_heap HX26.out 1
  have k262 := cell_of_heap HX26.out 2
  have k290 := cell_of_heap HX29.out 0
  have k291 := cell_of_heap HX29.out 1
  have k292 := cell_of_heap HX29.out 2
  have k320 := cell_of_heap HX32.out 0
  have k321 := cell_of_heap HX32.out 1
  have k322 := cell_of_heap HX32.out 2
  have k340 := cell_of_heap HX34.out 0
  have k341 := cell_of_heap HX34.out 1
  have k342 := cell_of_heap HX34.out 2
  simp only [List.getElem?_toArray, List.getElem?_cons_zero, List.getElem?_cons_succ] at k140 k141 k142 k210 k211 k212 k230 k231 k232 k260 k261 k262 k290 k291 k292 k320 k321 k322 k340 k341 k342
  go_wp2_with fail
  refine (reserve_lit HQu7.out B4.out.ok E9.out).mono ?_
  rintro e W19 ⟨u8, rfl, hb, hq⟩
  clear k140 k141 k142 k210 k211 k212 k230 k231 k232 k260 k261 k262 k290 k291 k292 k320 k321 k322 k340 k341 k342
  have HBW := Lib.hid (HBW.out.trans hb)
  have HX14 := Lib.hid (Bel.stays hb HX14.out)
  have HX21 := Lib.hid (Bel.stays hb HX21.out)
  have HX23 := Lib.hid (Bel.stays hb HX23.out)
  have HX26 := Lib.hid (Bel.stays hb HX26.out)
  have HX29 := Lib.hid (Bel.stays hb HX29.out)
  have HX32 := Lib.hid (Bel.stays hb HX32.out)
  have HX34 := Lib.hid (Bel.stays hb HX34.out)
  have HQu0 := Lib.hid (HQu0.out.bel hb)
  have HQu1 := Lib.hid (HQu1.out.bel hb)
  have HQu2 := Lib.hid (HQu2.out.bel hb)
  have HQu3 := Lib.hid (HQu3.out.bel hb)
  have HQu4 := Lib.hid (HQu4.out.bel hb)
  have HQu5 := Lib.hid (HQu5.out.bel hb)
  have HQu6 := Lib.hid (HQu6.out.bel hb)
  have HQu7 := Lib.hid (HQu7.out.bel hb)
  have HQu8 : Hid (MemAt 0 W19 u8 m5) := Lib.hid (hq.mono (Nat.zero_le _))
  clear hb hq
  go_upto_region 16 with (fail)
  have hnew : (W19.alloc (.cells #[.slice u8.w.p u8.w.n u8.w.c, .slice u8.p.p u8.p.n u8.p.c, .slice u8.r.p u8.r.n u8.r.c] 27)).heap[W19.heap.size]? = some (.cells #[.slice u8.w.p u8.w.n u8.w.c, .slice u8.p.p u8.p.n u8.p.c, .slice u8.r.p u8.r.n u8.r.c] 27 (0, 0)) := heap_alloc_new W19 _
  have hb : Bel W19 (W19.alloc (.cells #[.slice u8.w.p u8.w.n u8.w.c, .slice u8.p.p u8.p.n u8.p.c, .slice u8.r.p u8.r.n u8.r.c] 27)) := (Bel.refl W19).alloc _ _
  have hge : w.heap.size ≤ W19.heap.size := HBW.out.size
  have HN1437 : Hid (g14 ≠ W19.heap.size) := Lib.hid (by have := lt_of_heap HX14.out; omega)
  have HN2137 : Hid (g21 ≠ W19.heap.size) := Lib.hid (by have := lt_of_heap HX21.out; omega)
  have HN2337 : Hid (g23 ≠ W19.heap.size) := Lib.hid (by have := lt_of_heap HX23.out; omega)
  have HN2637 : Hid (g26 ≠ W19.heap.size) := Lib.hid (by have := lt_of_heap HX26.out; omega)
  have HN2937 : Hid (g29 ≠ W19.heap.size) := Lib.hid (by have := lt_of_heap HX29.out; omega)
  have HN3237 : Hid (g32 ≠ W19.heap.size) := Lib.hid (by have := lt_of_heap HX32.out; omega)
  have HN3437 : Hid (g34 ≠ W19.heap.size) := Lib.hid (by have := lt_of_heap HX34.out; omega)
  generalize hWW : (W19.alloc (.cells #[.slice u8.w.p u8.w.n u8.w.c, .slice u8.p.p u8.p.n u8.p.c, .slice u8.r.p u8.r.n u8.r.c] 27)) = W20 at hnew hb ⊢
  clear hWW
  have HBW := Lib.hid (HBW.out.trans hb)
  have HX14 := Lib.hid (Bel.stays hb HX14.out)
  have HX21 := Lib.hid (Bel.stays hb HX21.out)
  have HX23 := Lib.hid (Bel.stays hb HX23.out)
  have HX26 := Lib.hid (Bel.stays hb HX26.out)
  have HX29 := Lib.hid (Bel.stays hb HX29.out)
  have HX32 := Lib.hid (Bel.stays hb HX32.out)
  have HX34 := Lib.hid (Bel.stays hb HX34.out)
  have HQu0 := Lib.hid (HQu0.out.bel hb)
  have HQu1 := Lib.hid (HQu1.out.bel hb)
  have HQu2 := Lib.hid (HQu2.out.bel hb)
  have HQu3 := Lib.hid (HQu3.out.bel hb)
  have HQu4 := Lib.hid (HQu4.out.bel hb)
  have HQu5 := Lib.hid (HQu5.out.bel hb)
  have HQu6 := Lib.hid (HQu6.out.bel hb)
  have HQu7 := Lib.hid (HQu7.out.bel hb)
  have HQu8 := Lib.hid (HQu8.out.bel hb)
  generalize W19.heap.size = g37 at hnew hge HN1437 HN2137 HN2337 HN2637 HN2937 HN3237 HN3437 ⊢
  have HX37 := Lib.hid hnew
  have HGE37 := Lib.hid hge
  clear hnew hb hge
  go_wp2_with (go_at_call 30; ((with_reducible refine (wrap_any _ _).mono ?_); rintro e wq ⟨rfl, rfl⟩))
  go_ret
  exact ⟨by simp, HBW.out⟩
end Go.Proofs.Ytgbcamegidloaaa
