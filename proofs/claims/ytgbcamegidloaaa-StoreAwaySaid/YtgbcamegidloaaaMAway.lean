/- What one hart has pending no other one loads; what is flushed the hart itself loads as before. -/
import Derived.Test.YtgbcamegidloaaaMMade
import Derived.Test.YtgbcamegidloaaaMAwayP
namespace Go.Proofs.Ytgbcamegidloaaa
open Go.RowKit Mm
set_option linter.unusedVariables false
set_option linter.unusedSimpArgs false
set_option maxRecDepth 100000 in
set_option maxHeartbeats 8000000 in
theorem away_walk {w : World} {harts words which at' n : Int} {P : Option Addr} {N C : Nat} {raw : List Q4} (hih : inInt harts) (hiw : inInt words) (hn : raw.length = N) (hQ : TrisQ w P raw) (hN : N ≤ 9223372036854775807) (hi3 : inInt which) (hi4 : inInt at') :
    Calls Try.prog 5 #[.int .i64 harts, .int .i64 words, .slice P N C, .int .i64 which, .int .i64 at', .int .i64 n] w fun e w' => e = .returned (.bool true) ∧ Bel w w' := by
  obtain ⟨m, hmd⟩ : ∃ m, madeM harts words raw = m := ⟨_, rfl⟩
  have hbig := big_made harts words raw
  rw [hmd] at hbig
  obtain ⟨H, hH⟩ : ∃ H, (2 + pick harts 3).toNat = H := ⟨_, rfl⟩
  obtain ⟨NW, hNW⟩ : ∃ NW, (1 + pick words 4).toNat = NW := ⟨_, rfl⟩
  rw [hH, hNW] at hbig
  have h2H : 2 ≤ H := by have := pick_bd harts (n := 3) (by omega); omega
  have h4H : H ≤ 4 := by have := pick_bd harts (n := 3) (by omega); omega
  have h1N : 1 ≤ NW := by have := pick_bd words (n := 4) (by omega); omega
  have h4N : NW ≤ 4 := by have := pick_bd words (n := 4) (by omega); omega
  have HMD := Lib.hid hmd
  have HBIG := Lib.hid hbig
  have H2H := Lib.hid h2H
  have H4H := Lib.hid h4H
  have H1N := Lib.hid h1N
  have H4N := Lib.hid h4N
  have HIH := Lib.hid hih
  have HIW := Lib.hid hiw
  have HQR := Lib.hid hQ
  have HRN := Lib.hid hn
  have HNL := Lib.hid hN
  clear hmd hbig hH hNW h2H h4H h1N h4N hih hiw hQ hn hN
  have HI3 := Lib.hid hi3
  clear hi3
  have HI4 := Lib.hid hi4
  clear hi4
  have HBW : Hid (Bel w w) := Lib.hid (Bel.refl w)
  have HQ0 := HQR
  go_enter Try.func5, Try.ntmps5
  go_wp2_with fail
  refine (awake_any _).mono ?_
  rintro e W1 ⟨rfl, hb⟩
  have HBW := Lib.hid (HBW.out.trans hb)
  clear hb
  go_wp2_with fail
  refine (made_lit HIH.out HIW.out HRN.out (HQ0.out.bel HBW.out) HNL.out HMD.out).mono ?_
  rintro e W2 ⟨u0, rfl, hb, hq⟩
  have HBW := Lib.hid (HBW.out.trans hb)
  have HQu0 : Hid (MemAt 0 W2 u0 m) := Lib.hid (hq.mono (Nat.zero_le _))
  clear hb hq
  go_upto_region 3 with (fail)
  have hnew : (W2.alloc (.cells #[.slice u0.w.p u0.w.n u0.w.c, .slice u0.p.p u0.p.n u0.p.c, .slice u0.r.p u0.r.n u0.r.c] 27)).heap[W2.heap.size]? = some (.cells #[.slice u0.w.p u0.w.n u0.w.c, .slice u0.p.p u0.p.n u0.p.c, .slice u0.r.p u0.r.n u0.r.c] 27 (0, 0)) := heap_alloc_new W2 _
  have hb : Bel W2 (W2.alloc (.cells #[.slice u0.w.p u0.w.n u0.w.c, .slice u0.p.p u0.p.n u0.p.c, .slice u0.r.p u0.r.n u0.r.c] 27)) := (Bel.refl W2).alloc _ _
  have hge : w.heap.size ≤ W2.heap.size := HBW.out.size
  generalize hWW : (W2.alloc (.cells #[.slice u0.w.p u0.w.n u0.w.c, .slice u0.p.p u0.p.n u0.p.c, .slice u0.r.p u0.r.n u0.r.c] 27)) = W3 at hnew hb ⊢
  clear hWW
  have HBW := Lib.hid (HBW.out.trans hb)
  have HQu0 := Lib.hid (HQu0.out.bel hb)
  generalize W2.heap.size = g14 at hnew hge  ⊢
  have HX14 := Lib.hid hnew
  have HGE14 := Lib.hid hge
  clear hnew hb hge
  have k140 := cell_of_heap HX14.out 0
  have k141 := cell_of_heap HX14.out 1
  have k142 := cell_of_heap HX14.out 2
  simp only [List.getElem?_toArray, List.getElem?_cons_zero, List.getElem?_cons_succ] at k140 k141 k142
  have HPNu0 : Hid (u0.p.n = H) := Lib.hid (HQu0.out.pn.trans HBIG.out.p)
  have HWNu0 : Hid (u0.w.n = NW) := Lib.hid (HQu0.out.wn.trans HBIG.out.w)
  have h1pu0 : (1 : Int) ≤ (u0.p.n : Int) := by have := HPNu0.out; have := H2H.out; omega
  have h1wu0 : (1 : Int) ≤ (u0.w.n : Int) := by have := HWNu0.out; have := H1N.out; omega
  have h2pu0 : ¬ (u0.p.n : Int) < 2 := by have := HPNu0.out; have := H2H.out; omega
  obtain ⟨hn, hhn⟩ : ∃ hn : Nat, pick which u0.p.n = (hn : Int) := ⟨(pick which u0.p.n).toNat, by have := pick_bd which (n := (u0.p.n : Int)) (by omega); omega⟩
  have HLhn : Hid (hn < H) := Lib.hid (by have := pick_bd which (n := (u0.p.n : Int)) (by omega); have := HPNu0.out; have := HWNu0.out; omega)
  have HPhn := Lib.hid hhn
  have H1hn := Lib.hid h1pu0
  clear hhn
  obtain ⟨an, han⟩ : ∃ an : Nat, pick at' u0.w.n = (an : Int) := ⟨(pick at' u0.w.n).toNat, by have := pick_bd at' (n := (u0.w.n : Int)) (by omega); omega⟩
  have HLan : Hid (an < NW) := Lib.hid (by have := pick_bd at' (n := (u0.w.n : Int)) (by omega); have := HPNu0.out; have := HWNu0.out; omega)
  have HPan := Lib.hid han
  have H1an := Lib.hid h1wu0
  clear han
  obtain ⟨nx, dn, hst, bn, hfl, bd, hrd, hall⟩ := away_all HBIG.out HLhn.out HLan.out n
  have BN := Lib.hid bn
  have BD := Lib.hid bd
  have HFL := Lib.hid hfl
  have HRD := Lib.hid hrd
  have HALL := Lib.hid hall
  clear bn bd hfl hrd hall
  go_upto_region 5 with (first | (go_at_call 15; ((with_reducible refine (pick_lit HPhn.out HI3.out H1hn.out _).mono ?_); rintro e wq ⟨rfl, rfl⟩)) | (go_at_call 15; ((with_reducible refine (pick_lit HPan.out HI4.out H1an.out _).mono ?_); rintro e wq ⟨rfl, rfl⟩)))
  rcases hst with hst | ⟨hst, hnx⟩
  · have HST := Lib.hid hst
    clear hst
    go_wp2_with fail
    refine (store_lit HQu0.out HBIG.out.ok HST.out).mono ?_
    rintro e W4 ⟨u1, rfl, hb, hq⟩
    clear k140 k141 k142
    have HBW := Lib.hid (HBW.out.trans hb)
    have HX14 := Lib.hid (Bel.stays hb HX14.out)
    have HQu0 := Lib.hid (HQu0.out.bel hb)
    have HQu1 : Hid (MemAt 0 W4 u1 nx) := Lib.hid (hq.mono (Nat.zero_le _))
    clear hb hq
    have k140 := cell_of_heap HX14.out 0
    have k141 := cell_of_heap HX14.out 1
    have k142 := cell_of_heap HX14.out 2
    simp only [List.getElem?_toArray, List.getElem?_cons_zero, List.getElem?_cons_succ] at k140 k141 k142
    go_upto_region 6 with (fail)
    clear k140 k141 k142
    have hnew : (W4.alloc (.cells #[.slice u1.w.p u1.w.n u1.w.c, .slice u1.p.p u1.p.n u1.p.c, .slice u1.r.p u1.r.n u1.r.c] 27)).heap[W4.heap.size]? = some (.cells #[.slice u1.w.p u1.w.n u1.w.c, .slice u1.p.p u1.p.n u1.p.c, .slice u1.r.p u1.r.n u1.r.c] 27 (0, 0)) := heap_alloc_new W4 _
    have hb : Bel W4 (W4.alloc (.cells #[.slice u1.w.p u1.w.n u1.w.c, .slice u1.p.p u1.p.n u1.p.c, .slice u1.r.p u1.r.n u1.r.c] 27)) := (Bel.refl W4).alloc _ _
    have hge : w.heap.size ≤ W4.heap.size := HBW.out.size
    have HN1417 : Hid (g14 ≠ W4.heap.size) := Lib.hid (by have := lt_of_heap HX14.out; omega)
    generalize hWW : (W4.alloc (.cells #[.slice u1.w.p u1.w.n u1.w.c, .slice u1.p.p u1.p.n u1.p.c, .slice u1.r.p u1.r.n u1.r.c] 27)) = W5 at hnew hb ⊢
    clear hWW
    have HBW := Lib.hid (HBW.out.trans hb)
    have HX14 := Lib.hid (Bel.stays hb HX14.out)
    have HQu0 := Lib.hid (HQu0.out.bel hb)
    have HQu1 := Lib.hid (HQu1.out.bel hb)
    generalize W4.heap.size = g17 at hnew hge HN1417 ⊢
    have HX17 := Lib.hid hnew
    have HGE17 := Lib.hid hge
    clear hnew hb hge
    have k140 := cell_of_heap HX14.out 0
    have k141 := cell_of_heap HX14.out 1
    have k142 := cell_of_heap HX14.out 2
    have k170 := cell_of_heap HX17.out 0
    have k171 := cell_of_heap HX17.out 1
    have k172 := cell_of_heap HX17.out 2
    simp only [List.getElem?_toArray, List.getElem?_cons_zero, List.getElem?_cons_succ] at k140 k141 k142 k170 k171 k172
    go_wp2_with fail
    refine (flush_lit HQu1.out BN.out.ok HFL.out).mono ?_
    rintro e W6 ⟨u2, rfl, hb, hq⟩
    clear k140 k141 k142 k170 k171 k172
    have HBW := Lib.hid (HBW.out.trans hb)
    have HX14 := Lib.hid (Bel.stays hb HX14.out)
    have HX17 := Lib.hid (Bel.stays hb HX17.out)
    have HQu0 := Lib.hid (HQu0.out.bel hb)
    have HQu1 := Lib.hid (HQu1.out.bel hb)
    have HQu2 : Hid (MemAt 0 W6 u2 dn) := Lib.hid (hq.mono (Nat.zero_le _))
    clear hb hq
    have k140 := cell_of_heap HX14.out 0
    have k141 := cell_of_heap HX14.out 1
    have k142 := cell_of_heap HX14.out 2
    have k170 := cell_of_heap HX17.out 0
    have k171 := cell_of_heap HX17.out 1
    have k172 := cell_of_heap HX17.out 2
    simp only [List.getElem?_toArray, List.getElem?_cons_zero, List.getElem?_cons_succ] at k140 k141 k142 k170 k171 k172
    go_upto_region 11 with (fail)
    clear k140 k141 k142 k170 k171 k172
    have hnew : (W6.alloc (.cells #[.slice u2.w.p u2.w.n u2.w.c, .slice u2.p.p u2.p.n u2.p.c, .slice u2.r.p u2.r.n u2.r.c] 27)).heap[W6.heap.size]? = some (.cells #[.slice u2.w.p u2.w.n u2.w.c, .slice u2.p.p u2.p.n u2.p.c, .slice u2.r.p u2.r.n u2.r.c] 27 (0, 0)) := heap_alloc_new W6 _
    have hb : Bel W6 (W6.alloc (.cells #[.slice u2.w.p u2.w.n u2.w.c, .slice u2.p.p u2.p.n u2.p.c, .slice u2.r.p u2.r.n u2.r.c] 27)) := (Bel.refl W6).alloc _ _
    have hge : w.heap.size ≤ W6.heap.size := HBW.out.size
    have HN1419 : Hid (g14 ≠ W6.heap.size) := Lib.hid (by have := lt_of_heap HX14.out; omega)
    have HN1719 : Hid (g17 ≠ W6.heap.size) := Lib.hid (by have := lt_of_heap HX17.out; omega)
    generalize hWW : (W6.alloc (.cells #[.slice u2.w.p u2.w.n u2.w.c, .slice u2.p.p u2.p.n u2.p.c, .slice u2.r.p u2.r.n u2.r.c] 27)) = W7 at hnew hb ⊢
    clear hWW
    have HBW := Lib.hid (HBW.out.trans hb)
    have HX14 := Lib.hid (Bel.stays hb HX14.out)
    have HX17 := Lib.hid (Bel.stays hb HX17.out)
    have HQu0 := Lib.hid (HQu0.out.bel hb)
    have HQu1 := Lib.hid (HQu1.out.bel hb)
    have HQu2 := Lib.hid (HQu2.out.bel hb)
    generalize W6.heap.size = g19 at hnew hge HN1419 HN1719 ⊢
    have HX19 := Lib.hid hnew
    have HGE19 := Lib.hid hge
    clear hnew hb hge
    have HPN2 : Hid (u2.p.n = H) := Lib.hid (HQu2.out.pn.trans BD.out.p)
    go_wp2_with fail
    go_loopw [21] (fun iv wr => ∃ i : Nat, i ≤ H ∧ iv = .int .i64 i ∧ Hid (Bel w wr) ∧ Hid (wr.heap[g14]? = some (.cells #[.slice u0.w.p u0.w.n u0.w.c, .slice u0.p.p u0.p.n u0.p.c, .slice u0.r.p u0.r.n u0.r.c] 27 (0, 0))) ∧ Hid (wr.heap[g17]? = some (.cells #[.slice u1.w.p u1.w.n u1.w.c, .slice u1.p.p u1.p.n u1.p.c, .slice u1.r.p u1.r.n u1.r.c] 27 (0, 0))) ∧ Hid (wr.heap[g19]? = some (.cells #[.slice u2.w.p u2.w.n u2.w.c, .slice u2.p.p u2.p.n u2.p.c, .slice u2.r.p u2.r.n u2.r.c] 27 (0, 0))) ∧ Hid (MemAt 0 wr u0 m) ∧ Hid (MemAt 0 wr u1 nx) ∧ Hid (MemAt 0 wr u2 dn)) (fun iv _ => H - (intOf iv).toNat)
    case atStart => exact ⟨0, Nat.zero_le _, rfl, HBW, HX14, HX17, HX19, HQu0, HQu1, HQu2⟩
    case round =>
      clear HBW HX14 HX17 HX19 HQu0 HQu1 HQu2
      obtain ⟨i, hi, rfl, HBW, HX14, HX17, HX19, HQu0, HQu1, HQu2⟩ := hrel
      by_cases hlt : i < H
      · have hlt2 : (i : Int) < (u0.p.n : Int) := by have := HPNu0.out; omega
        have HLI := Lib.hid hlt
        have k140 := cell_of_heap HX14.out 0
        have k141 := cell_of_heap HX14.out 1
        have k142 := cell_of_heap HX14.out 2
        simp only [List.getElem?_toArray, List.getElem?_cons_zero, List.getElem?_cons_succ] at k140 k141 k142
        go_wp2_with fail
        clear k140 k141 k142
        go_loopw [22] (fun jv ws => ∃ j : Nat, j ≤ NW ∧ jv = .int .i64 j ∧ Hid (Bel w ws) ∧ Hid (ws.heap[g14]? = some (.cells #[.slice u0.w.p u0.w.n u0.w.c, .slice u0.p.p u0.p.n u0.p.c, .slice u0.r.p u0.r.n u0.r.c] 27 (0, 0))) ∧ Hid (ws.heap[g17]? = some (.cells #[.slice u1.w.p u1.w.n u1.w.c, .slice u1.p.p u1.p.n u1.p.c, .slice u1.r.p u1.r.n u1.r.c] 27 (0, 0))) ∧ Hid (ws.heap[g19]? = some (.cells #[.slice u2.w.p u2.w.n u2.w.c, .slice u2.p.p u2.p.n u2.p.c, .slice u2.r.p u2.r.n u2.r.c] 27 (0, 0))) ∧ Hid (MemAt 0 ws u0 m) ∧ Hid (MemAt 0 ws u1 nx) ∧ Hid (MemAt 0 ws u2 dn)) (fun jv _ => NW - (intOf jv).toNat)
        case atStart => exact ⟨0, Nat.zero_le _, rfl, HBW, HX14, HX17, HX19, HQu0, HQu1, HQu2⟩
        case round =>
          clear HBW HX14 HX17 HX19 HQu0 HQu1 HQu2
          obtain ⟨j, hj, rfl, HBW, HX14, HX17, HX19, HQu0, HQu1, HQu2⟩ := hrel
          by_cases hlj : j < NW
          · have hlj2 : (j : Int) < (u0.w.n : Int) := by have := HWNu0.out; omega
            have hj4 : j < 4 := by have := H4N.out; omega
            have HLJ := Lib.hid hlj
            obtain ⟨y1, y2, y3⟩ := HALL.out i j HLI.out HLJ.out
            obtain ⟨la, hla⟩ : ∃ la, loadN m i j = la := ⟨_, rfl⟩
            obtain ⟨lb, hlb⟩ : ∃ lb, loadN nx i j = lb := ⟨_, rfl⟩
            obtain ⟨lc, hlc⟩ : ∃ lc, loadN dn i j = lc := ⟨_, rfl⟩
            rw [hla, hlb] at y1 y3
            rw [hlb, hlc] at y2
            have E1 : Hid (loadV m i j = (la, 0)) := Lib.hid (by rw [load_eq HBIG.out HLI.out HLJ.out, hla])
            have E2 : Hid (loadV nx i j = (lb, 0)) := Lib.hid (by rw [load_eq BN.out HLI.out HLJ.out, hlb])
            have E3 : Hid (loadV dn i j = (lc, 0)) := Lib.hid (by rw [load_eq BD.out HLI.out HLJ.out, hlc])
            have HY1 := Lib.hid y1
            have HY2 := Lib.hid y2
            have HY3 := Lib.hid y3
            clear y1 y2 y3 hla hlb hlc hlt hlj
            have k140 := cell_of_heap HX14.out 0
            have k141 := cell_of_heap HX14.out 1
            have k142 := cell_of_heap HX14.out 2
            simp only [List.getElem?_toArray, List.getElem?_cons_zero, List.getElem?_cons_succ] at k140 k141 k142
            go_wp2_with fail
            refine (load_lit HQu0.out HBIG.out.ok E1.out).mono ?_
            rintro e W1 ⟨rfl, hb⟩
            clear k140 k141 k142
            have HBW := Lib.hid (HBW.out.trans hb)
            have HX14 := Lib.hid (Bel.stays hb HX14.out)
            have HX17 := Lib.hid (Bel.stays hb HX17.out)
            have HX19 := Lib.hid (Bel.stays hb HX19.out)
            have HQu0 := Lib.hid (HQu0.out.bel hb)
            have HQu1 := Lib.hid (HQu1.out.bel hb)
            have HQu2 := Lib.hid (HQu2.out.bel hb)
            clear hb
            have k170 := cell_of_heap HX17.out 0
            have k171 := cell_of_heap HX17.out 1
            have k172 := cell_of_heap HX17.out 2
            simp only [List.getElem?_toArray, List.getElem?_cons_zero, List.getElem?_cons_succ] at k170 k171 k172
            go_wp2_with fail
            refine (load_lit HQu1.out BN.out.ok E2.out).mono ?_
            rintro e W2 ⟨rfl, hb⟩
            clear k170 k171 k172
            have HBW := Lib.hid (HBW.out.trans hb)
            have HX14 := Lib.hid (Bel.stays hb HX14.out)
            have HX17 := Lib.hid (Bel.stays hb HX17.out)
            have HX19 := Lib.hid (Bel.stays hb HX19.out)
            have HQu0 := Lib.hid (HQu0.out.bel hb)
            have HQu1 := Lib.hid (HQu1.out.bel hb)
            have HQu2 := Lib.hid (HQu2.out.bel hb)
            clear hb
            have k190 := cell_of_heap HX19.out 0
            have k191 := cell_of_heap HX19.out 1
            have k192 := cell_of_heap HX19.out 2
            simp only [List.getElem?_toArray, List.getElem?_cons_zero, List.getElem?_cons_succ] at k190 k191 k192
            go_wp2_with fail
            refine (load_lit HQu2.out BD.out.ok E3.out).mono ?_
            rintro e W3 ⟨rfl, hb⟩
            clear k190 k191 k192
            have HBW := Lib.hid (HBW.out.trans hb)
            have HX14 := Lib.hid (Bel.stays hb HX14.out)
            have HX17 := Lib.hid (Bel.stays hb HX17.out)
            have HX19 := Lib.hid (Bel.stays hb HX19.out)
            have HQu0 := Lib.hid (HQu0.out.bel hb)
            have HQu1 := Lib.hid (HQu1.out.bel hb)
            have HQu2 := Lib.hid (HQu2.out.bel hb)
            clear hb
            by_cases hih : i = hn
            · have q1 : ((i : Int) != (hn : Int)) = false := by simp [hih]
              have q2 : ((i : Int) == (hn : Int)) = true := by simp [hih]
              have e2 : (lb != lc) = false := by rw [HY2.out hih]; simp
              by_cases hja : j = an
              · have q3 : ((j : Int) != (an : Int)) = false := by simp [hja]
                clear hih hja
                go_wp2
                exact ⟨⟨j + 1, by have := HLJ.out; omega, by go_num, HBW, HX14, HX17, HX19, HQu0, HQu1, HQu2⟩, by have := HLJ.out; simp [intOf]; omega⟩
              · have q3 : ((j : Int) != (an : Int)) = true := by simp; omega
                have e1 : (la != lb) = false := by rw [HY3.out hja]; simp
                clear hih hja
                go_wp2
                exact ⟨⟨j + 1, by have := HLJ.out; omega, by go_num, HBW, HX14, HX17, HX19, HQu0, HQu1, HQu2⟩, by have := HLJ.out; simp [intOf]; omega⟩
            · have q1 : ((i : Int) != (hn : Int)) = true := by simp; omega
              have q2 : ((i : Int) == (hn : Int)) = false := beq_eq_false_iff_ne.2 (by omega)
              have e1 : (la != lb) = false := by rw [HY1.out hih]; simp
              by_cases hja : j = an
              · have q3 : ((j : Int) != (an : Int)) = false := by simp [hja]
                clear hih hja
                go_wp2
                exact ⟨⟨j + 1, by have := HLJ.out; omega, by go_num, HBW, HX14, HX17, HX19, HQu0, HQu1, HQu2⟩, by have := HLJ.out; simp [intOf]; omega⟩
              · have q3 : ((j : Int) != (an : Int)) = true := by simp; omega
                clear hih hja
                go_wp2
                exact ⟨⟨j + 1, by have := HLJ.out; omega, by go_num, HBW, HX14, HX17, HX19, HQu0, HQu1, HQu2⟩, by have := HLJ.out; simp [intOf]; omega⟩
          · have hlj2 : ¬ (j : Int) < (u0.w.n : Int) := by have := HWNu0.out; omega
            have hi4 : i < 4 := by have := H4H.out; omega
            have k140 := cell_of_heap HX14.out 0
            have k141 := cell_of_heap HX14.out 1
            have k142 := cell_of_heap HX14.out 2
            simp only [List.getElem?_toArray, List.getElem?_cons_zero, List.getElem?_cons_succ] at k140 k141 k142
            go_wp2
            exact ⟨⟨i + 1, by omega, by go_num, HBW, HX14, HX17, HX19, HQu0, HQu1, HQu2⟩, by simp [intOf]; omega⟩
      · have hlt2 : ¬ (i : Int) < (u0.p.n : Int) := by have := HPNu0.out; omega
        obtain ⟨bp, csp, s, ep, _, _, hlep, hltp, cp, _, _, hrw⟩ := HQu2.out.hart (isH_of BD.out HLhn.out)
        rw [HRD.out] at hrw
        have hsn : (s.n : Int) = 0 := by have := hrw.n (s := s); rw [this]; rfl
        have k140 := cell_of_heap HX14.out 0
        have k141 := cell_of_heap HX14.out 1
        have k142 := cell_of_heap HX14.out 2
        have k190 := cell_of_heap HX19.out 0
        have k191 := cell_of_heap HX19.out 1
        have k192 := cell_of_heap HX19.out 2
        simp only [List.getElem?_toArray, List.getElem?_cons_zero, List.getElem?_cons_succ] at k140 k141 k142 k190 k191 k192
        rw [ep] at k191
        have hz : ((u2.p.n : Int) == (u0.p.n : Int)) = true := by rw [HPN2.out, HPNu0.out]; simp
        have hsz : ((s.n : Int) == 0) = true := by rw [hsn]; rfl
        clear hsn hrw
        go_wp2
        go_ret
        exact ⟨rfl, HBW.out⟩
  · have HST := Lib.hid hst
    clear hst
    have HNX := Lib.hid hnx
    clear hnx
    go_wp2_with fail
    refine (store_lit HQu0.out HBIG.out.ok HST.out).mono ?_
    rintro e W4 ⟨uz, rfl, hb, hq⟩
    clear k140 k141 k142
    have HBW := Lib.hid (HBW.out.trans hb)
    have HX14 := Lib.hid (Bel.stays hb HX14.out)
    have HQu0 := Lib.hid (HQu0.out.bel hb)
    have HQuz : Hid (MemAt 0 W4 uz zero) := Lib.hid (hq.mono (Nat.zero_le _))
    clear hb hq
    have k140 := cell_of_heap HX14.out 0
    have k141 := cell_of_heap HX14.out 1
    have k142 := cell_of_heap HX14.out 2
    simp only [List.getElem?_toArray, List.getElem?_cons_zero, List.getElem?_cons_succ] at k140 k141 k142
    go_upto_region 6 with (fail)
    clear k140 k141 k142
    have hnew : (W4.alloc (.cells #[.slice uz.w.p uz.w.n uz.w.c, .slice uz.p.p uz.p.n uz.p.c, .slice uz.r.p uz.r.n uz.r.c] 27)).heap[W4.heap.size]? = some (.cells #[.slice uz.w.p uz.w.n uz.w.c, .slice uz.p.p uz.p.n uz.p.c, .slice uz.r.p uz.r.n uz.r.c] 27 (0, 0)) := heap_alloc_new W4 _
    have hb : Bel W4 (W4.alloc (.cells #[.slice uz.w.p uz.w.n uz.w.c, .slice uz.p.p uz.p.n uz.p.c, .slice uz.r.p uz.r.n uz.r.c] 27)) := (Bel.refl W4).alloc _ _
    have hge : w.heap.size ≤ W4.heap.size := HBW.out.size
    have HN1417 : Hid (g14 ≠ W4.heap.size) := Lib.hid (by have := lt_of_heap HX14.out; omega)
    generalize hWW : (W4.alloc (.cells #[.slice uz.w.p uz.w.n uz.w.c, .slice uz.p.p uz.p.n uz.p.c, .slice uz.r.p uz.r.n uz.r.c] 27)) = W5 at hnew hb ⊢
    clear hWW
    have HBW := Lib.hid (HBW.out.trans hb)
    have HX14 := Lib.hid (Bel.stays hb HX14.out)
    have HQu0 := Lib.hid (HQu0.out.bel hb)
    have HQuz := Lib.hid (HQuz.out.bel hb)
    generalize W4.heap.size = g17 at hnew hge HN1417 ⊢
    have HX17 := Lib.hid hnew
    have HGE17 := Lib.hid hge
    clear hnew hb hge
    have k140 := cell_of_heap HX14.out 0
    have k141 := cell_of_heap HX14.out 1
    have k142 := cell_of_heap HX14.out 2
    have k170 := cell_of_heap HX17.out 0
    have y170 := frozen_of_heap HX17.out 0
    have k171 := cell_of_heap HX17.out 1
    have y171 := frozen_of_heap HX17.out 1
    have k172 := cell_of_heap HX17.out 2
    have y172 := frozen_of_heap HX17.out 2
    simp only [List.getElem?_toArray, List.getElem?_cons_zero, List.getElem?_cons_succ] at k140 k141 k142 k170 k171 k172
    go_upto_region 8 with (fail)
    clear y170 y171 y172 k140 k141 k142 k170 k171 k172
    have hs3 : Svg g17 W5 (((W5.setCell ⟨g17, 0, none⟩ (.slice u0.w.p u0.w.n u0.w.c)).setCell ⟨g17, 1, none⟩ (.slice u0.p.p u0.p.n u0.p.c)).setCell ⟨g17, 2, none⟩ (.slice u0.r.p u0.r.n u0.r.c)) := set3_svg W5 g17 (.slice u0.w.p u0.w.n u0.w.c) (.slice u0.p.p u0.p.n u0.p.c) (.slice u0.r.p u0.r.n u0.r.c)
    have hh := set3_heap HX17.out (.slice u0.w.p u0.w.n u0.w.c) (.slice u0.p.p u0.p.n u0.p.c) (.slice u0.r.p u0.r.n u0.r.c)
    generalize hWW : (((W5.setCell ⟨g17, 0, none⟩ (.slice u0.w.p u0.w.n u0.w.c)).setCell ⟨g17, 1, none⟩ (.slice u0.p.p u0.p.n u0.p.c)).setCell ⟨g17, 2, none⟩ (.slice u0.r.p u0.r.n u0.r.c)) = W6 at hs3 hh ⊢
    clear hWW
    have HBW := Lib.hid (hs3.bel HBW.out HGE17.out)
    have HX14 := Lib.hid ((hs3.block _ (lt_of_heap HX14.out) HN1417.out).trans HX14.out)
    have HQu0 := Lib.hid (HQu0.out.keep hs3 HX17.out (by decide) (by decide) (by decide))
    have HQuz := Lib.hid (HQuz.out.keep hs3 HX17.out (by decide) (by decide) (by decide))
    have HX17 := Lib.hid hh
    clear hs3 hh
    obtain ⟨u1, h17, hq1⟩ : ∃ u1 : Mv, W6.heap[g17]? = some (.cells #[.slice u1.w.p u1.w.n u1.w.c, .slice u1.p.p u1.p.n u1.p.c, .slice u1.r.p u1.r.n u1.r.c] 27 (0, 0)) ∧ MemAt 0 W6 u1 nx := ⟨u0, HX17.out, by rw [HNX.out]; exact HQu0.out⟩
    have HX17 := Lib.hid h17
    have HQu1 := Lib.hid hq1
    clear h17 hq1
    have k170 := cell_of_heap HX17.out 0
    have k171 := cell_of_heap HX17.out 1
    have k172 := cell_of_heap HX17.out 2
    simp only [List.getElem?_toArray, List.getElem?_cons_zero, List.getElem?_cons_succ] at k170 k171 k172
    go_wp2_with fail
    refine (flush_lit HQu1.out BN.out.ok HFL.out).mono ?_
    rintro e W7 ⟨u2, rfl, hb, hq⟩
    clear k170 k171 k172
    have HBW := Lib.hid (HBW.out.trans hb)
    have HX14 := Lib.hid (Bel.stays hb HX14.out)
    have HX17 := Lib.hid (Bel.stays hb HX17.out)
    have HQu0 := Lib.hid (HQu0.out.bel hb)
    have HQu1 := Lib.hid (HQu1.out.bel hb)
    have HQu2 : Hid (MemAt 0 W7 u2 dn) := Lib.hid (hq.mono (Nat.zero_le _))
    clear hb hq
    have k140 := cell_of_heap HX14.out 0
    have k141 := cell_of_heap HX14.out 1
    have k142 := cell_of_heap HX14.out 2
    have k170 := cell_of_heap HX17.out 0
    have k171 := cell_of_heap HX17.out 1
    have k172 := cell_of_heap HX17.out 2
    simp only [List.getElem?_toArray, List.getElem?_cons_zero, List.getElem?_cons_succ] at k140 k141 k142 k170 k171 k172
    go_upto_region 11 with (fail)
    clear k140 k141 k142 k170 k171 k172
    have hnew : (W7.alloc (.cells #[.slice u2.w.p u2.w.n u2.w.c, .slice u2.p.p u2.p.n u2.p.c, .slice u2.r.p u2.r.n u2.r.c] 27)).heap[W7.heap.size]? = some (.cells #[.slice u2.w.p u2.w.n u2.w.c, .slice u2.p.p u2.p.n u2.p.c, .slice u2.r.p u2.r.n u2.r.c] 27 (0, 0)) := heap_alloc_new W7 _
    have hb : Bel W7 (W7.alloc (.cells #[.slice u2.w.p u2.w.n u2.w.c, .slice u2.p.p u2.p.n u2.p.c, .slice u2.r.p u2.r.n u2.r.c] 27)) := (Bel.refl W7).alloc _ _
    have hge : w.heap.size ≤ W7.heap.size := HBW.out.size
    have HN1419 : Hid (g14 ≠ W7.heap.size) := Lib.hid (by have := lt_of_heap HX14.out; omega)
    have HN1719 : Hid (g17 ≠ W7.heap.size) := Lib.hid (by have := lt_of_heap HX17.out; omega)
    generalize hWW : (W7.alloc (.cells #[.slice u2.w.p u2.w.n u2.w.c, .slice u2.p.p u2.p.n u2.p.c, .slice u2.r.p u2.r.n u2.r.c] 27)) = W8 at hnew hb ⊢
    clear hWW
    have HBW := Lib.hid (HBW.out.trans hb)
    have HX14 := Lib.hid (Bel.stays hb HX14.out)
    have HX17 := Lib.hid (Bel.stays hb HX17.out)
    have HQu0 := Lib.hid (HQu0.out.bel hb)
    have HQu1 := Lib.hid (HQu1.out.bel hb)
    have HQu2 := Lib.hid (HQu2.out.bel hb)
    generalize W7.heap.size = g19 at hnew hge HN1419 HN1719 ⊢
    have HX19 := Lib.hid hnew
    have HGE19 := Lib.hid hge
    clear hnew hb hge
    have HPN2 : Hid (u2.p.n = H) := Lib.hid (HQu2.out.pn.trans BD.out.p)
    go_wp2_with fail
    go_loopw [21] (fun iv wr => ∃ i : Nat, i ≤ H ∧ iv = .int .i64 i ∧ Hid (Bel w wr) ∧ Hid (wr.heap[g14]? = some (.cells #[.slice u0.w.p u0.w.n u0.w.c, .slice u0.p.p u0.p.n u0.p.c, .slice u0.r.p u0.r.n u0.r.c] 27 (0, 0))) ∧ Hid (wr.heap[g17]? = some (.cells #[.slice u1.w.p u1.w.n u1.w.c, .slice u1.p.p u1.p.n u1.p.c, .slice u1.r.p u1.r.n u1.r.c] 27 (0, 0))) ∧ Hid (wr.heap[g19]? = some (.cells #[.slice u2.w.p u2.w.n u2.w.c, .slice u2.p.p u2.p.n u2.p.c, .slice u2.r.p u2.r.n u2.r.c] 27 (0, 0))) ∧ Hid (MemAt 0 wr u0 m) ∧ Hid (MemAt 0 wr u1 nx) ∧ Hid (MemAt 0 wr u2 dn)) (fun iv _ => H - (intOf iv).toNat)
    case atStart => exact ⟨0, Nat.zero_le _, rfl, HBW, HX14, HX17, HX19, HQu0, HQu1, HQu2⟩
    case round =>
      clear HBW HX14 HX17 HX19 HQu0 HQu1 HQu2
      obtain ⟨i, hi, rfl, HBW, HX14, HX17, HX19, HQu0, HQu1, HQu2⟩ := hrel
      by_cases hlt : i < H
      · have hlt2 : (i : Int) < (u0.p.n : Int) := by have := HPNu0.out; omega
        have HLI := Lib.hid hlt
        have k140 := cell_of_heap HX14.out 0
        have k141 := cell_of_heap HX14.out 1
        have k142 := cell_of_heap HX14.out 2
        simp only [List.getElem?_toArray, List.getElem?_cons_zero, List.getElem?_cons_succ] at k140 k141 k142
        go_wp2_with fail
        clear k140 k141 k142
        go_loopw [22] (fun jv ws => ∃ j : Nat, j ≤ NW ∧ jv = .int .i64 j ∧ Hid (Bel w ws) ∧ Hid (ws.heap[g14]? = some (.cells #[.slice u0.w.p u0.w.n u0.w.c, .slice u0.p.p u0.p.n u0.p.c, .slice u0.r.p u0.r.n u0.r.c] 27 (0, 0))) ∧ Hid (ws.heap[g17]? = some (.cells #[.slice u1.w.p u1.w.n u1.w.c, .slice u1.p.p u1.p.n u1.p.c, .slice u1.r.p u1.r.n u1.r.c] 27 (0, 0))) ∧ Hid (ws.heap[g19]? = some (.cells #[.slice u2.w.p u2.w.n u2.w.c, .slice u2.p.p u2.p.n u2.p.c, .slice u2.r.p u2.r.n u2.r.c] 27 (0, 0))) ∧ Hid (MemAt 0 ws u0 m) ∧ Hid (MemAt 0 ws u1 nx) ∧ Hid (MemAt 0 ws u2 dn)) (fun jv _ => NW - (intOf jv).toNat)
        case atStart => exact ⟨0, Nat.zero_le _, rfl, HBW, HX14, HX17, HX19, HQu0, HQu1, HQu2⟩
        case round =>
          clear HBW HX14 HX17 HX19 HQu0 HQu1 HQu2
          obtain ⟨j, hj, rfl, HBW, HX14, HX17, HX19, HQu0, HQu1, HQu2⟩ := hrel
          by_cases hlj : j < NW
          · have hlj2 : (j : Int) < (u0.w.n : Int) := by have := HWNu0.out; omega
            have hj4 : j < 4 := by have := H4N.out; omega
            have HLJ := Lib.hid hlj
            obtain ⟨y1, y2, y3⟩ := HALL.out i j HLI.out HLJ.out
            obtain ⟨la, hla⟩ : ∃ la, loadN m i j = la := ⟨_, rfl⟩
            obtain ⟨lb, hlb⟩ : ∃ lb, loadN nx i j = lb := ⟨_, rfl⟩
            obtain ⟨lc, hlc⟩ : ∃ lc, loadN dn i j = lc := ⟨_, rfl⟩
            rw [hla, hlb] at y1 y3
            rw [hlb, hlc] at y2
            have E1 : Hid (loadV m i j = (la, 0)) := Lib.hid (by rw [load_eq HBIG.out HLI.out HLJ.out, hla])
            have E2 : Hid (loadV nx i j = (lb, 0)) := Lib.hid (by rw [load_eq BN.out HLI.out HLJ.out, hlb])
            have E3 : Hid (loadV dn i j = (lc, 0)) := Lib.hid (by rw [load_eq BD.out HLI.out HLJ.out, hlc])
            have HY1 := Lib.hid y1
            have HY2 := Lib.hid y2
            have HY3 := Lib.hid y3
            clear y1 y2 y3 hla hlb hlc hlt hlj
            have k140 := cell_of_heap HX14.out 0
            have k141 := cell_of_heap HX14.out 1
            have k142 := cell_of_heap HX14.out 2
            simp only [List.getElem?_toArray, List.getElem?_cons_zero, List.getElem?_cons_succ] at k140 k141 k142
            go_wp2_with fail
            refine (load_lit HQu0.out HBIG.out.ok E1.out).mono ?_
            rintro e W1 ⟨rfl, hb⟩
            clear k140 k141 k142
            have HBW := Lib.hid (HBW.out.trans hb)
            have HX14 := Lib.hid (Bel.stays hb HX14.out)
            have HX17 := Lib.hid (Bel.stays hb HX17.out)
            have HX19 := Lib.hid (Bel.stays hb HX19.out)
            have HQu0 := Lib.hid (HQu0.out.bel hb)
            have HQu1 := Lib.hid (HQu1.out.bel hb)
            have HQu2 := Lib.hid (HQu2.out.bel hb)
            clear hb
            have k170 := cell_of_heap HX17.out 0
            have k171 := cell_of_heap HX17.out 1
            have k172 := cell_of_heap HX17.out 2
            simp only [List.getElem?_toArray, List.getElem?_cons_zero, List.getElem?_cons_succ] at k170 k171 k172
            go_wp2_with fail
            refine (load_lit HQu1.out BN.out.ok E2.out).mono ?_
            rintro e W2 ⟨rfl, hb⟩
            clear k170 k171 k172
            have HBW := Lib.hid (HBW.out.trans hb)
            have HX14 := Lib.hid (Bel.stays hb HX14.out)
            have HX17 := Lib.hid (Bel.stays hb HX17.out)
            have HX19 := Lib.hid (Bel.stays hb HX19.out)
            have HQu0 := Lib.hid (HQu0.out.bel hb)
            have HQu1 := Lib.hid (HQu1.out.bel hb)
            have HQu2 := Lib.hid (HQu2.out.bel hb)
            clear hb
            have k190 := cell_of_heap HX19.out 0
            have k191 := cell_of_heap HX19.out 1
            have k192 := cell_of_heap HX19.out 2
            simp only [List.getElem?_toArray, List.getElem?_cons_zero, List.getElem?_cons_succ] at k190 k191 k192
            go_wp2_with fail
            refine (load_lit HQu2.out BD.out.ok E3.out).mono ?_
            rintro e W3 ⟨rfl, hb⟩
            clear k190 k191 k192
            have HBW := Lib.hid (HBW.out.trans hb)
            have HX14 := Lib.hid (Bel.stays hb HX14.out)
            have HX17 := Lib.hid (Bel.stays hb HX17.out)
            have HX19 := Lib.hid (Bel.stays hb HX19.out)
            have HQu0 := Lib.hid (HQu0.out.bel hb)
            have HQu1 := Lib.hid (HQu1.out.bel hb)
            have HQu2 := Lib.hid (HQu2.out.bel hb)
            clear hb
            by_cases hih : i = hn
            · have q1 : ((i : Int) != (hn : Int)) = false := by simp [hih]
              have q2 : ((i : Int) == (hn : Int)) = true := by simp [hih]
              have e2 : (lb != lc) = false := by rw [HY2.out hih]; simp
              by_cases hja : j = an
              · have q3 : ((j : Int) != (an : Int)) = false := by simp [hja]
                clear hih hja
                go_wp2
                exact ⟨⟨j + 1, by have := HLJ.out; omega, by go_num, HBW, HX14, HX17, HX19, HQu0, HQu1, HQu2⟩, by have := HLJ.out; simp [intOf]; omega⟩
              · have q3 : ((j : Int) != (an : Int)) = true := by simp; omega
                have e1 : (la != lb) = false := by rw [HY3.out hja]; simp
                clear hih hja
                go_wp2
                exact ⟨⟨j + 1, by have := HLJ.out; omega, by go_num, HBW, HX14, HX17, HX19, HQu0, HQu1, HQu2⟩, by have := HLJ.out; simp [intOf]; omega⟩
            · have q1 : ((i : Int) != (hn : Int)) = true := by simp; omega
              have q2 : ((i : Int) == (hn : Int)) = false := beq_eq_false_iff_ne.2 (by omega)
              have e1 : (la != lb) = false := by rw [HY1.out hih]; simp
              by_cases hja : j = an
              · have q3 : ((j : Int) != (an : Int)) = false := by simp [hja]
                clear hih hja
                go_wp2
                exact ⟨⟨j + 1, by have := HLJ.out; omega, by go_num, HBW, HX14, HX17, HX19, HQu0, HQu1, HQu2⟩, by have := HLJ.out; simp [intOf]; omega⟩
              · have q3 : ((j : Int) != (an : Int)) = true := by simp; omega
                clear hih hja
                go_wp2
                exact ⟨⟨j + 1, by have := HLJ.out; omega, by go_num, HBW, HX14, HX17, HX19, HQu0, HQu1, HQu2⟩, by have := HLJ.out; simp [intOf]; omega⟩
          · have hlj2 : ¬ (j : Int) < (u0.w.n : Int) := by have := HWNu0.out; omega
            have hi4 : i < 4 := by have := H4H.out; omega
            have k140 := cell_of_heap HX14.out 0
            have k141 := cell_of_heap HX14.out 1
            have k142 := cell_of_heap HX14.out 2
            simp only [List.getElem?_toArray, List.getElem?_cons_zero, List.getElem?_cons_succ] at k140 k141 k142
            go_wp2
            exact ⟨⟨i + 1, by omega, by go_num, HBW, HX14, HX17, HX19, HQu0, HQu1, HQu2⟩, by simp [intOf]; omega⟩
      · have hlt2 : ¬ (i : Int) < (u0.p.n : Int) := by have := HPNu0.out; omega
        obtain ⟨bp, csp, s, ep, _, _, hlep, hltp, cp, _, _, hrw⟩ := HQu2.out.hart (isH_of BD.out HLhn.out)
        rw [HRD.out] at hrw
        have hsn : (s.n : Int) = 0 := by have := hrw.n (s := s); rw [this]; rfl
        have k140 := cell_of_heap HX14.out 0
        have k141 := cell_of_heap HX14.out 1
        have k142 := cell_of_heap HX14.out 2
        have k190 := cell_of_heap HX19.out 0
        have k191 := cell_of_heap HX19.out 1
        have k192 := cell_of_heap HX19.out 2
        simp only [List.getElem?_toArray, List.getElem?_cons_zero, List.getElem?_cons_succ] at k140 k141 k142 k190 k191 k192
        rw [ep] at k191
        have hz : ((u2.p.n : Int) == (u0.p.n : Int)) = true := by rw [HPN2.out, HPNu0.out]; simp
        have hsz : ((s.n : Int) == 0) = true := by rw [hsn]; rfl
        clear hsn hrw
        go_wp2
        go_ret
        exact ⟨rfl, HBW.out⟩
end Go.Proofs.Ytgbcamegidloaaa
