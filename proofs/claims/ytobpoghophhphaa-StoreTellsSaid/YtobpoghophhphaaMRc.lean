/- The document's own Same. -/
import Derived.Test.YtobpoghophhphaaMRb
import Derived.BigQuiet
namespace Go.Proofs.Ytobpoghophhphaa
open Go.RowKit Mm
set_option linter.unusedVariables false
set_option linter.unusedSimpArgs false
set_option maxRecDepth 100000 in
set_option maxHeartbeats 8000000 in
theorem rsame_lit {a b : Mem} {va vb : Mv} {ba bb : Nat} {w : World} {r : Bool} (hr : sameV a b = r) (hA : MemAt ba w va a) (hB : MemAt bb w vb b) (oa : Ok a) :
    Calls Try.prog 7 #[.agg #[.slice va.w.p va.w.n va.w.c, .slice va.p.p va.p.n va.p.c, .slice va.r.p va.r.n va.r.c], .agg #[.slice vb.w.p vb.w.n vb.w.c, .slice vb.p.p vb.p.n vb.p.c, .slice vb.r.p vb.r.n vb.r.c]] w fun e w' => e = .returned (.bool r) ∧ Bel w w' := by
  obtain ⟨hb1, hx1, hx2⟩ := box2 w #[.slice va.w.p va.w.n va.w.c, .slice va.p.p va.p.n va.p.c, .slice va.r.p va.r.n va.r.c] 27 #[.slice vb.w.p vb.w.n vb.w.c, .slice vb.p.p vb.p.n vb.p.c, .slice vb.r.p vb.r.n vb.r.c] 27
  have HQva := Lib.hid (hA.bel hb1)
  have HQvb := Lib.hid (hB.bel hb1)
  have HO := Lib.hid oa
  unfold sameV at hr
  obtain ⟨r1, hr1⟩ : ∃ r1, decide (a.words = b.words) = r1 := ⟨_, rfl⟩
  obtain ⟨r3, hr3⟩ : ∃ r3, decide (a.res = b.res) = r3 := ⟨_, rfl⟩
  rw [hr1, hr3] at hr
  have R1 := Lib.hid hr1
  have R3 := Lib.hid hr3
  have HR := Lib.hid hr
  have HW : Hid (a.words.length ≤ 5000) := Lib.hid (by have := oa.w; omega)
  have HRL : Hid (a.res.length ≤ 5000) := Lib.hid (by have := oa.p4; have := oa.pr; omega)
  have HNA : Hid (va.p.n = a.pend.length) := Lib.hid hA.pn
  have HNB : Hid (vb.p.n = b.pend.length) := Lib.hid hB.pn
  have HP4 : Hid (va.p.n ≤ 4) := Lib.hid (by rw [hA.pn]; exact oa.p4)
  clear hr hr1 hr3 hA hB oa
  go_enter Try.func7, Try.ntmps7
  go_upto_region 1 with (fail)
  generalize hWW : ((w.alloc (.cells #[.slice va.w.p va.w.n va.w.c, .slice va.p.p va.p.n va.p.c, .slice va.r.p va.r.n va.r.c] 27)).alloc (.cells #[.slice vb.w.p vb.w.n vb.w.c, .slice vb.p.p vb.p.n vb.p.c, .slice vb.r.p vb.r.n vb.r.c] 27)) = W1 at hb1 hx1 hx2 HQva HQvb ⊢
  clear hWW
  generalize w.heap.size + 1 = g2 at hx2 ⊢
  generalize w.heap.size = g1 at hx1 ⊢
  have HBW := Lib.hid hb1
  have HX1 := Lib.hid hx1
  have HX2 := Lib.hid hx2
  clear hb1 hx1 hx2
  have k10 := cell_of_heap HX1.out 0
  have k11 := cell_of_heap HX1.out 1
  have k12 := cell_of_heap HX1.out 2
  have k20 := cell_of_heap HX2.out 0
  have k21 := cell_of_heap HX2.out 1
  have k22 := cell_of_heap HX2.out 2
  simp only [List.getElem?_toArray, List.getElem?_cons_zero, List.getElem?_cons_succ] at k10 k11 k12 k20 k21 k22
  go_wp2_with fail
  refine (drewN_bel (rints R1.out HQva.out.wd HQvb.out.wd HW.out)).mono ?_
  rintro e W2 ⟨rfl, hb⟩
  clear k10 k11 k12 k20 k21 k22
  have HBW := Lib.hid (HBW.out.trans hb)
  have HX1 := Lib.hid (Bel.stays hb HX1.out)
  have HX2 := Lib.hid (Bel.stays hb HX2.out)
  have HQva := Lib.hid (HQva.out.bel hb)
  have HQvb := Lib.hid (HQvb.out.bel hb)
  clear hb
  have k10 := cell_of_heap HX1.out 0
  have k11 := cell_of_heap HX1.out 1
  have k12 := cell_of_heap HX1.out 2
  have k20 := cell_of_heap HX2.out 0
  have k21 := cell_of_heap HX2.out 1
  have k22 := cell_of_heap HX2.out 2
  simp only [List.getElem?_toArray, List.getElem?_cons_zero, List.getElem?_cons_succ] at k10 k11 k12 k20 k21 k22
  go_wp2_with fail
  refine (drewN_bel (rints R3.out HQva.out.rs HQvb.out.rs HRL.out)).mono ?_
  rintro e W3 ⟨rfl, hb⟩
  clear k10 k11 k12 k20 k21 k22
  have HBW := Lib.hid (HBW.out.trans hb)
  have HX1 := Lib.hid (Bel.stays hb HX1.out)
  have HX2 := Lib.hid (Bel.stays hb HX2.out)
  have HQva := Lib.hid (HQva.out.bel hb)
  have HQvb := Lib.hid (HQvb.out.bel hb)
  clear hb
  have k10 := cell_of_heap HX1.out 0
  have k11 := cell_of_heap HX1.out 1
  have k12 := cell_of_heap HX1.out 2
  have k20 := cell_of_heap HX2.out 0
  have k21 := cell_of_heap HX2.out 1
  have k22 := cell_of_heap HX2.out 2
  simp only [List.getElem?_toArray, List.getElem?_cons_zero, List.getElem?_cons_succ] at k10 k11 k12 k20 k21 k22
  by_cases hl : va.p.n = vb.p.n
  · cases r1
    · obtain rfl : r = false := by rw [← HR.out]; rfl
      go_wp2
      go_ret
      exact ⟨rfl, HBW.out⟩
    · cases r3
      · obtain rfl : r = false := by rw [← HR.out]; simp
        go_wp2
        go_ret
        exact ⟨rfl, HBW.out⟩
      · have HRR : Hid (decide (a.pend = b.pend) = r) := Lib.hid (by rw [← HR.out]; simp)
        have HL := Lib.hid hl
        have hnn : ((va.p.n : Int) != (vb.p.n : Int)) = false := by rw [hl]; simp
        clear hl
        go_wp2
        go_loopw [7] (fun i wr => ∃ k q : Nat, k ≤ va.p.n ∧ i = .int .i64 k ∧ wr = W3.drewN q ∧ Hid (a.pend.take k = b.pend.take k)) (fun i _ => va.p.n - (intOf i).toNat)
        case atStart => exact ⟨0, 0, Nat.zero_le _, rfl, rfl, Lib.hid (by rw [List.take_zero, List.take_zero])⟩
        case round =>
          obtain ⟨k, q, hk, rfl, rfl, HT⟩ := hrel
          have hlim := HP4.out
          by_cases hlt : k < va.p.n
          · have hka : k < a.pend.length := by have := HNA.out; omega
            have hkb : k < b.pend.length := by have := HNB.out; have := HL.out; omega
            have HIA : Hid (isH a k = true) := Lib.hid (isH_iff.2 ⟨by omega, by omega⟩)
            have HIB : Hid (isH b k = true) := Lib.hid (isH_iff.2 ⟨by omega, by omega⟩)
            obtain ⟨bp, csp, s, ep, -, -, -, -, pa, -, -, hra⟩ := HQva.out.hart HIA.out
            obtain ⟨bq, csq, t, eq, -, -, -, -, pb, -, -, hrb⟩ := HQvb.out.hart HIB.out
            have HX : Hid (a.pend[k]? = some (row a k)) := Lib.hid (by have := row_get HIA.out; rwa [Int.toNat_natCast] at this)
            have HY : Hid (b.pend[k]? = some (row b k)) := Lib.hid (by have := row_get HIB.out; rwa [Int.toNat_natCast] at this)
            generalize row a k = x at hra HX
            generalize row b k = y at hrb HY
            have hns := hra.n (s := s)
            have hnt := hrb.n (s := t)
            have HNS := Lib.hid hns
            have HNT := Lib.hid hnt
            have HRA := Lib.hid hra
            have HRB := Lib.hid hrb
            have hk2 : (k : Int) < (va.p.n : Int) := by omega
            have hk3 : (k : Int) < (vb.p.n : Int) := by have := HL.out; omega
            have hs8 : s.n ≤ 9000 := by have := HO.out.p8 x (List.mem_of_getElem? HX.out); omega
            clear hka hkb hns hnt hra hrb
            rw [ep] at k11
            rw [eq] at k21
            clear ep eq
            by_cases hst : s.n = t.n
            · have HST := Lib.hid hst
              have hse : ((s.n : Int) != (t.n : Int)) = false := by rw [hst]; simp
              clear hst
              go_wp2
              go_quiet (fail)
              go_wp2
              go_loopw [8] (fun j ws => ∃ j' q' : Nat, j' ≤ s.n ∧ j = .int .i64 j' ∧ ws = W3.drewN q' ∧ Hid (x.take j' = y.take j')) (fun j _ => s.n - (intOf j).toNat)
              case atStart => exact ⟨0, q + nq, Nat.zero_le _, rfl, by rw [World.drewN_drewN], Lib.hid (by rw [List.take_zero, List.take_zero])⟩
              case round =>
                obtain ⟨j, q', hj, rfl, rfl, HT2⟩ := hrel
                by_cases hlj : j < s.n
                · obtain ⟨⟨x1, x2⟩, hx⟩ : ∃ z, x[j]? = some z := ⟨_, List.getElem?_eq_getElem (by have := HNS.out; omega)⟩
                  obtain ⟨⟨y1, y2⟩, hy⟩ : ∃ z, y[j]? = some z := ⟨_, List.getElem?_eq_getElem (by have := HNT.out; have := HST.out; omega)⟩
                  obtain ⟨b1, cs1, e1, -, -, -, -, -, -, hca⟩ := ERow.at (enc := encE) (k := 2) (s := s) encE_len HRA.out hx
                  obtain ⟨b2, cs2, e2, -, -, -, -, -, -, hcb⟩ := ERow.at (enc := encE) (k := 2) (s := t) encE_len HRB.out hy
                  have a0 := hca 0 _ rfl
                  have a1 := hca 1 _ rfl
                  have b0 := hcb 0 _ rfl
                  have b1' := hcb 1 _ rfl
                  rw [Nat.add_zero] at a0 b0
                  rw [e1] at pa
                  rw [e2] at pb
                  have hj2 : (j : Int) < (s.n : Int) := by omega
                  have hj3 : (j : Int) < (t.n : Int) := by have := HST.out; omega
                  clear hca hcb e1 e2
                  by_cases he : (x1 == y1 && x2 == y2) = true
                  · have HS := Lib.hid (take_eq HT2.out hx hy (by rw [Bool.and_eq_true, beq_iff_eq, beq_iff_eq] at he; rw [he.1, he.2]))
                    have hq : ∀ w, (binOp .neq 48 (.agg #[.int .i64 x1, .int .i64 x2]) (.agg #[.int .i64 y1, .int .i64 y2])).run Try.prog w = .ok (.bool false) w := fun w => by rw [neqE, he]; rfl
                    clear he hx hy
                    go_wp2
                    go_quiet (fail)
                    go_wp2
                    exact ⟨⟨j + 1, q' + nq, by omega, by go_num, rfl, HS⟩, by simp [intOf]; omega⟩
                  · obtain rfl : r = false := by rw [← HRR.out]; exact decide_eq_false (not_eq HX.out HY.out (not_eq hx hy (fun c => he (by injection c with c1 c2; rw [c1, c2]; simp))))
                    have hq : ∀ w, (binOp .neq 48 (.agg #[.int .i64 x1, .int .i64 x2]) (.agg #[.int .i64 y1, .int .i64 y2])).run Try.prog w = .ok (.bool true) w := fun w => by rw [neqE, Bool.eq_false_iff.2 he]; rfl
                    clear he hx hy
                    go_wp2
                    go_quiet (fail)
                    go_wp2
                    go_ret
                    exact ⟨rfl, (HBW.out.drewN _).drewN _⟩
                · have hj2 : ¬ (j : Int) < (s.n : Int) := by omega
                  have HS := Lib.hid (take_eq HT.out HX.out HY.out (by have h := HT2.out; rwa [List.take_of_length_le (by have := HNS.out; omega), List.take_of_length_le (by have := HNT.out; have := HST.out; omega)] at h))
                  go_wp2
                  exact ⟨⟨k + 1, q', by omega, by go_num, rfl, HS⟩, by simp [intOf]; omega⟩
            · obtain rfl : r = false := by rw [← HRR.out]; exact decide_eq_false (not_eq HX.out HY.out (by rintro rfl; have := HNS.out; have := HNT.out; omega))
              have hse : ((s.n : Int) != (t.n : Int)) = true := by simp; omega
              go_wp2
              go_quiet (fail)
              go_wp2
              go_ret
              exact ⟨rfl, (HBW.out.drewN _).drewN _⟩
          · have hk2 : ¬ (k : Int) < (va.p.n : Int) := by omega
            obtain rfl : r = true := by
              rw [← HRR.out]
              refine decide_eq_true ?_
              have h := HT.out
              rwa [List.take_of_length_le (by have := HNA.out; omega), List.take_of_length_le (by have := HNB.out; have := HL.out; omega)] at h
            go_wp2
            go_ret
            exact ⟨rfl, HBW.out.drewN _⟩
  · obtain rfl : r = false := by rw [← HR.out, decide_eq_false (fun c => hl (by rw [HNA.out, HNB.out, c]))]; simp
    have hnn : ((va.p.n : Int) != (vb.p.n : Int)) = true := by simp; omega
    cases r1 <;> cases r3
    all_goals
      go_wp2
      go_ret
      exact ⟨rfl, HBW.out⟩
end Go.Proofs.Ytobpoghophhphaa
