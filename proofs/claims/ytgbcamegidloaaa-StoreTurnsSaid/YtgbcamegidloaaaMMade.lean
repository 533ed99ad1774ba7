/- A memory behind raw steps. -/
import Derived.Test.YtgbcamegidloaaaMStep
namespace Go.Proofs.Ytgbcamegidloaaa
open Go.RowKit Mm
set_option linter.unusedVariables false
set_option linter.unusedSimpArgs false
set_option maxRecDepth 100000 in
set_option maxHeartbeats 4000000 in
theorem made_lit {w : World} {m' : Mem} {harts words : Int} {P : Option Addr} {N C : Nat} {raw : List Q4} (hih : inInt harts) (hiw : inInt words) (hn : raw.length = N) (hQ : TrisQ w P raw) (hN : N ≤ 9223372036854775807) (hr : madeM harts words raw = m') :
    Calls Try.prog 31 #[.int .i64 harts, .int .i64 words, .slice P N C] w fun e w' => ∃ u : Mv, e = .returned (.agg #[.slice u.w.p u.w.n u.w.c, .slice u.p.p u.p.n u.p.c, .slice u.r.p u.r.n u.r.c]) ∧ Bel w w' ∧ MemAt 0 w' u m' := by
  obtain ⟨hb, hx6⟩ := box1 w #[.slice none 0 0, .slice none 0 0, .slice none 0 0] 27
  obtain ⟨ph, hph⟩ : ∃ ph, pick harts 3 = ph := ⟨_, rfl⟩
  obtain ⟨pw, hpw⟩ : ∃ pw, pick words 4 = pw := ⟨_, rfl⟩
  have hbh := pick_bd harts (n := 3) (by omega)
  have hbw := pick_bd words (n := 4) (by omega)
  rw [hph] at hbh
  rw [hpw] at hbw
  have hnew := new0_eq harts words
  have hbig0 := big_new harts words
  rw [hph, hpw] at hnew hbig0
  obtain ⟨m0, hm0⟩ : ∃ m0, new0 harts words = m0 := ⟨_, rfl⟩
  rw [hm0] at hnew hbig0
  have hrr : fd m0 raw 40 = m' := by rw [← hr, ← hm0]; rfl
  have HRR := Lib.hid hrr
  have HNEW := Lib.hid hnew
  have HBIG := Lib.hid hbig0
  have HPH := Lib.hid hph
  have HPW := Lib.hid hpw
  have HIH := Lib.hid hih
  have HIW := Lib.hid hiw
  have HQ := Lib.hid hQ
  have HN := Lib.hid hn
  have hN := hN
  have HSH : Hid (2 ≤ (2 + ph).toNat ∧ 1 ≤ (1 + pw).toNat) := Lib.hid (by omega)
  clear hnew hbig0 hrr hph hpw hih hiw hQ hn hm0 hr
  go_enter Try.func31, Try.ntmps31
  go_upto_region 1 with (fail)
  generalize hWW : (w.alloc (.cells #[.slice none 0 0, .slice none 0 0, .slice none 0 0] 27)) = W1 at hb hx6 ⊢
  clear hWW
  have HGE6 : Hid (w.heap.size ≤ w.heap.size) := Lib.hid (Nat.le_refl _)
  obtain ⟨g6, hG⟩ : ∃ G, w.heap.size = G := ⟨_, rfl⟩
  have HGE6 : Hid (w.heap.size ≤ g6) := Lib.hid (by omega)
  rw [hG] at hx6 ⊢
  have HBW := Lib.hid hb
  have HX6 := Lib.hid hx6
  clear hb hx6 hG
  have HTQ := Lib.hid (HQ.out.bel HBW.out)
  go_wp2_with (first | (go_at_call 15; ((with_reducible refine (pick_lit HPH.out HIH.out (by decide) _).mono ?_); rintro e w' ⟨rfl, rfl⟩)) | (go_at_call 15; ((with_reducible refine (pick_lit HPW.out HIW.out (by decide) _).mono ?_); rintro e w' ⟨rfl, rfl⟩)))
  refine (new_lit HNEW.out _).mono ?_
  rintro e W2 ⟨u, rfl, hb, hq⟩
  have HBW := Lib.hid (HBW.out.trans hb)
  have HX6 := Lib.hid (Bel.stays hb HX6.out)
  have HTQ := Lib.hid (HTQ.out.bel hb)
  have HQu : Hid (MemAt 0 W2 u m0) := Lib.hid (hq.mono (Nat.zero_le _))
  clear hb hq
  go_upto_region 2 with (fail)
  have hnew : (W2.alloc (.cells #[.slice u.w.p u.w.n u.w.c, .slice u.p.p u.p.n u.p.c, .slice u.r.p u.r.n u.r.c] 27)).heap[W2.heap.size]? = some (.cells #[.slice u.w.p u.w.n u.w.c, .slice u.p.p u.p.n u.p.c, .slice u.r.p u.r.n u.r.c] 27 (0, 0)) := heap_alloc_new W2 _
  have hb : Bel W2 (W2.alloc (.cells #[.slice u.w.p u.w.n u.w.c, .slice u.p.p u.p.n u.p.c, .slice u.r.p u.r.n u.r.c] 27)) := (Bel.refl W2).alloc _ _
  have hge : w.heap.size ≤ W2.heap.size := HBW.out.size
  have HN67 : Hid (g6 ≠ W2.heap.size) := Lib.hid (by have := lt_of_heap HX6.out; omega)
  generalize hWW : (W2.alloc (.cells #[.slice u.w.p u.w.n u.w.c, .slice u.p.p u.p.n u.p.c, .slice u.r.p u.r.n u.r.c] 27)) = W3 at hnew hb ⊢
  clear hWW
  have HBW := Lib.hid (HBW.out.trans hb)
  have HX6 := Lib.hid (Bel.stays hb HX6.out)
  have HQu := Lib.hid (HQu.out.bel hb)
  have HTQ := Lib.hid (HTQ.out.bel hb)
  generalize W2.heap.size = g7 at hnew hge HN67 ⊢
  have HX7 := Lib.hid hnew
  have HGE7 := Lib.hid hge
  clear hnew hb hge
  have h40 : N ≤ 9223372036854775807 := hN
  have HSV : Hid (fd m0 raw 0 = m0) := Lib.hid rfl
  go_wp2_with fail
  go_loopw [9] (fun i wr => ∃ (k : Nat) (u : Mv), k ≤ N ∧ k ≤ 40 ∧ i = .int .i64 k ∧ Hid (Bel w wr) ∧ Hid (wr.heap[g6]? = some (.cells #[.slice none 0 0, .slice none 0 0, .slice none 0 0] 27 (0, 0))) ∧ Hid (wr.heap[g7]? = some (.cells #[.slice u.w.p u.w.n u.w.c, .slice u.p.p u.p.n u.p.c, .slice u.r.p u.r.n u.r.c] 27 (0, 0))) ∧ Hid (MemAt 0 wr u (fd m0 raw k))) (fun i _ => 40 - (intOf i).toNat)
  case atStart => exact ⟨0, u, Nat.zero_le _, Nat.zero_le _, rfl, HBW, HX6, HX7, HQu⟩
  case round =>
    clear HX6 HX7 HQu HBW HTQ
    obtain ⟨k, u, hkN, hk40, rfl, HBW, HX6, HX7, HQu⟩ := hrel
    by_cases hlt : k < N
    · by_cases hl4 : k < 40
      · obtain ⟨x, hx⟩ : ∃ x, raw[k]? = some x := ⟨_, List.getElem?_eq_getElem (by rw [HN.out]; exact hlt)⟩
        obtain ⟨i1, i2, i3, i4, b, o, rfl, hbl, c0, c1, c2, c3⟩ := (HQ.out.bel HBW.out) k x hx
        have HI := Lib.hid (⟨i1, i2, i3, i4⟩ : inInt x.1 ∧ inInt x.2.1 ∧ inInt x.2.2.1 ∧ inInt x.2.2.2)
        have HBI := Lib.hid (fd_big HBIG.out raw k)
        have HST := Lib.hid (fd_succ (m := m0) hx)
        have HBL := Lib.hid hbl
        have HC0 := Lib.hid c0
        have HC1 := Lib.hid c1
        have HC2 := Lib.hid c2
        have HC3 := Lib.hid c3
        have hlt2 : (k : Int) < N := by omega
        have hl42 : (k : Int) < 40 := by omega
        clear i1 i2 i3 i4 hx hbl
        have HKEEP : Hid (∀ w', Bel wr w' → w'.cell? ⟨g7, 0, none⟩ = some (.slice u.w.p u.w.n u.w.c) ∧ w'.cell? ⟨g7, 1, none⟩ = some (.slice u.p.p u.p.n u.p.c) ∧ w'.cell? ⟨g7, 2, none⟩ = some (.slice u.r.p u.r.n u.r.c) ∧ w'.cell? ⟨b, o + k * 4, none⟩ = some (.int .i64 x.1) ∧ w'.cell? ⟨b, o + k * 4 + 1, none⟩ = some (.int .i64 x.2.1) ∧ w'.cell? ⟨b, o + k * 4 + 2, none⟩ = some (.int .i64 x.2.2.1) ∧ w'.cell? ⟨b, o + k * 4 + 3, none⟩ = some (.int .i64 x.2.2.2)) := Lib.hid (fun w' h => by
          have h1 := h.stays HX7.out
          exact ⟨cell_of_heap h1 0, cell_of_heap h1 1, cell_of_heap h1 2, (h.cell (p := ⟨b, _, none⟩) HBL.out).trans HC0.out, (h.cell (p := ⟨b, _, none⟩) HBL.out).trans HC1.out, (h.cell (p := ⟨b, _, none⟩) HBL.out).trans HC2.out, (h.cell (p := ⟨b, _, none⟩) HBL.out).trans HC3.out⟩)
        obtain ⟨s0, s1, s2, s3, s4, s5, s6⟩ := HKEEP.out wr (Bel.refl _)
        clear c0 c1 c2 c3
        go_upto_region 5 with (fail)
        go_region_law (go_simp; (with_reducible refine (step_lit (HQu.out.bel (Bel.refl wr).drew) HBI.out.ok (by rw [HBI.out.p]; have := HSH.out; omega) (by rw [HBI.out.w]; exact HSH.out.2) HI.out.1 HI.out.2.1 HI.out.2.2.1 HI.out.2.2.2 HST.out).mono ?_); rintro e wz ⟨nn, u', rfl, hbz, hmz⟩; have HMZ := Lib.hid hmz; have HBZ := Lib.hid ((Bel.refl wr).drew.trans hbz); clear hbz hmz; have k0 := cell_of_heap (HBZ.out.stays HX7.out) 0; have k1 := cell_of_heap (HBZ.out.stays HX7.out) 1; have k2 := cell_of_heap (HBZ.out.stays HX7.out) 2; have y0 := frozen_of_heap (HBZ.out.stays HX7.out) 0; have y1 := frozen_of_heap (HBZ.out.stays HX7.out) 1; have y2 := frozen_of_heap (HBZ.out.stays HX7.out) 2; simp only [List.getElem?_toArray, List.getElem?_cons_zero, List.getElem?_cons_succ] at k0 k1 k2)
        all_goals
          have hs3 := set3_svg wz g7 (.slice u'.w.p u'.w.n u'.w.c) (.slice u'.p.p u'.p.n u'.p.c) (.slice u'.r.p u'.r.n u'.r.c)
          have hh := set3_heap (HBZ.out.stays HX7.out) (.slice u'.w.p u'.w.n u'.w.c) (.slice u'.p.p u'.p.n u'.p.c) (.slice u'.r.p u'.r.n u'.r.c)
          have HB2 := Lib.hid (hs3.bel (HBW.out.trans HBZ.out) HGE7.out)
          have HX62 := Lib.hid ((hs3.block _ (lt_of_heap (HBZ.out.stays HX6.out)) HN67.out).trans (HBZ.out.stays HX6.out))
          have HX72 := Lib.hid hh
          have HQ2 := Lib.hid (HMZ.out.keep hs3 (HBZ.out.stays HX7.out) (by decide) (by decide) (by decide))
          go_upto_region 4 with (fail)
          clear hs3 hh k0 k1 k2 y0 y1 y2 s0 s1 s2 s3 s4 s5 s6 HKEEP
          go_wp2
          exact ⟨⟨k + 1, u', by omega, by omega, by go_num, HB2, HX62, HX72, HQ2⟩, by simp [intOf]; omega⟩
      · have hl42 : ¬ (k : Int) < 40 := by omega
        have hlt2 : (k : Int) < N := by omega
        have HE : Hid (fd m0 raw k = m') := Lib.hid (by rw [← HRR.out]; exact fd_end (.inr (by omega)) hk40)
        have k0 := cell_of_heap HX7.out 0
        have k1 := cell_of_heap HX7.out 1
        have k2 := cell_of_heap HX7.out 2
        have z0 := cell_of_heap HX6.out 0
        have z1 := cell_of_heap HX6.out 1
        have z2 := cell_of_heap HX6.out 2
        have y0 := frozen_of_heap HX6.out 0
        have y1 := frozen_of_heap HX6.out 1
        have y2 := frozen_of_heap HX6.out 2
        simp only [List.getElem?_toArray, List.getElem?_cons_zero, List.getElem?_cons_succ] at k0 k1 k2 z0 z1 z2
        go_wp2
        have hs3 := set3_svg wr g6 (.slice u.w.p u.w.n u.w.c) (.slice u.p.p u.p.n u.p.c) (.slice u.r.p u.r.n u.r.c)
        have hh := set3_heap HX6.out (.slice u.w.p u.w.n u.w.c) (.slice u.p.p u.p.n u.p.c) (.slice u.r.p u.r.n u.r.c)
        exact bodyPost_ret (results_cell1 Try.results31 _ _ g6 _ _ _ _ rfl hh Try.underlying27 rfl (by kernel_rfl)) rfl ⟨u, rfl, hs3.bel HBW.out HGE6.out, by rw [← HE.out]; exact HQu.out.keep hs3 HX6.out (by decide) (by decide) (by decide)⟩
    · have hlt2 : ¬ (k : Int) < N := by omega
      have HE : Hid (fd m0 raw k = m') := Lib.hid (by rw [← HRR.out]; exact fd_end (.inl (by rw [HN.out]; omega)) hk40)
      have k0 := cell_of_heap HX7.out 0
      have k1 := cell_of_heap HX7.out 1
      have k2 := cell_of_heap HX7.out 2
      have z0 := cell_of_heap HX6.out 0
      have z1 := cell_of_heap HX6.out 1
      have z2 := cell_of_heap HX6.out 2
      have y0 := frozen_of_heap HX6.out 0
      have y1 := frozen_of_heap HX6.out 1
      have y2 := frozen_of_heap HX6.out 2
      simp only [List.getElem?_toArray, List.getElem?_cons_zero, List.getElem?_cons_succ] at k0 k1 k2 z0 z1 z2
      go_wp2
      have hs3 := set3_svg wr g6 (.slice u.w.p u.w.n u.w.c) (.slice u.p.p u.p.n u.p.c) (.slice u.r.p u.r.n u.r.c)
      have hh := set3_heap HX6.out (.slice u.w.p u.w.n u.w.c) (.slice u.p.p u.p.n u.p.c) (.slice u.r.p u.r.n u.r.c)
      exact bodyPost_ret (results_cell1 Try.results31 _ _ g6 _ _ _ _ rfl hh Try.underlying27 rfl (by kernel_rfl)) rfl ⟨u, rfl, hs3.bel HBW.out HGE6.out, by rw [← HE.out]; exact HQu.out.keep hs3 HX6.out (by decide) (by decide) (by decide)⟩
end Go.Proofs.Ytgbcamegidloaaa
