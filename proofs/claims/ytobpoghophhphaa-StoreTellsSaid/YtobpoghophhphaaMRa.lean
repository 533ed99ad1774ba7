/- The document's own hart, there, ints. -/
import Derived.Test.YtobpoghophhphaaMOpen
import Derived.BigQuiet
namespace Go.Proofs.Ytobpoghophhphaa
open Go.RowKit Mm
set_option linter.unusedVariables false
set_option linter.unusedSimpArgs false
set_option maxRecDepth 100000 in
theorem rhart_any (v : Mv) (W : World) (h : Int) (hn : v.r.n = v.p.n) : Calls Try.prog 40 #[.agg #[.slice v.w.p v.w.n v.w.c, .slice v.p.p v.p.n v.p.c, .slice v.r.p v.r.n v.r.c], .int .i64 h] W fun e w' => e = .returned (.bool (decide (0 ≤ h) && decide (h < (v.p.n : Int)))) ∧ Bel W w' := by
  obtain ⟨⟨wp, wn, wc⟩, ⟨pp, pn, pc⟩, ⟨rp, rn, rc⟩, rows⟩ := v
  obtain rfl : rn = pn := hn
  simp only
  by_cases h0 : 0 ≤ h
  · by_cases h1 : h < (rn : Int)
    · go_enter Try.func40, Try.ntmps40
      go_wp2
      go_ret
      exact ⟨by simp [h0, h1], (Bel.refl W).alloc _ _⟩
    · go_enter Try.func40, Try.ntmps40
      go_wp2
      go_ret
      exact ⟨by simp [h0, h1], (Bel.refl W).alloc _ _⟩
  · go_enter Try.func40, Try.ntmps40
    go_wp2
    go_ret
    have e0 : decide (0 ≤ h) = false := decide_eq_false (by omega)
    exact ⟨rb (by rw [e0]; rfl), (Bel.refl W).alloc _ _⟩
theorem rhart_lit {base : Nat} {W0 : World} {v : Mv} {m : Mem} (hm : MemAt base W0 v m) (ho : Ok m) {h : Int} {r : Bool} (hr : isH m h = r) (W : World) :
    Calls Try.prog 40 #[.agg #[.slice v.w.p v.w.n v.w.c, .slice v.p.p v.p.n v.p.c, .slice v.r.p v.r.n v.r.c], .int .i64 h] W fun e w' => e = .returned (.bool r) ∧ Bel W w' := by
  refine (rhart_any v W h (by rw [hm.rn ho, hm.pn])).mono ?_
  rintro e w' ⟨rfl, hb⟩
  exact ⟨rb (by rw [hm.pn, ← hr]; rfl), hb⟩
set_option maxRecDepth 100000 in
theorem rthere_lit {base : Nat} {W0 : World} {v : Mv} {m : Mem} (hm : MemAt base W0 v m) (ho : Ok m) {h a : Int} {r : Bool} (hr : (isH m h && isW m a) = r) (W : World) :
    Calls Try.prog 31 #[.agg #[.slice v.w.p v.w.n v.w.c, .slice v.p.p v.p.n v.p.c, .slice v.r.p v.r.n v.r.c], .int .i64 h, .int .i64 a] W fun e w' => e = .returned (.bool r) ∧ Bel W w' := by
  have hwn : (v.w.n : Int) = (m.words.length : Int) := by rw [hm.wn]
  have hnew := heap_alloc_new W (.cells #[.slice v.w.p v.w.n v.w.c, .slice v.p.p v.p.n v.p.c, .slice v.r.p v.r.n v.r.c] 27)
  have hb : Bel W (W.alloc (.cells #[.slice v.w.p v.w.n v.w.c, .slice v.p.p v.p.n v.p.c, .slice v.r.p v.r.n v.r.c] 27)) := (Bel.refl W).alloc _ _
  obtain ⟨r1, h1⟩ : ∃ r1, isH m h = r1 := ⟨_, rfl⟩
  have HM := Lib.hid hm
  have HO := Lib.hid ho
  have H1 := Lib.hid h1
  rw [h1] at hr
  have hw : isW m a = (decide (0 ≤ a) && decide (a < (v.w.n : Int))) := by rw [hwn]; rfl
  rw [hw] at hr
  clear hm ho h1 hw hwn
  go_enter Try.func31, Try.ntmps31
  go_upto_region 1 with (fail)
  generalize hWW : W.alloc (.cells #[.slice v.w.p v.w.n v.w.c, .slice v.p.p v.p.n v.p.c, .slice v.r.p v.r.n v.r.c] 27) = W1 at hnew hb ⊢
  clear hWW
  generalize W.heap.size = g3 at hnew ⊢
  have HB := Lib.hid hb
  have HX := Lib.hid hnew
  clear hb hnew
  have k0 := cell_of_heap HX.out 0
  have k1 := cell_of_heap HX.out 1
  have k2 := cell_of_heap HX.out 2
  simp only [List.getElem?_toArray, List.getElem?_cons_zero, List.getElem?_cons_succ] at k0 k1 k2
  go_wp2_with fail
  refine (rhart_lit HM.out HO.out H1.out _).mono ?_
  rintro e W2 ⟨rfl, hb2⟩
  clear k0 k1 k2
  have HB := Lib.hid (HB.out.trans hb2)
  have HX := Lib.hid (hb2.stays HX.out)
  clear hb2
  have k0 := cell_of_heap HX.out 0
  simp only [List.getElem?_toArray, List.getElem?_cons_zero, List.getElem?_cons_succ] at k0
  by_cases h0 : 0 ≤ a
  · by_cases h2 : a < (v.w.n : Int)
    · cases r1
      · go_wp2
        go_ret
        exact ⟨rb (by rw [← hr]; rfl), HB.out⟩
      · go_wp2
        go_ret
        exact ⟨rb (by rw [← hr]; simp [h0, h2]), HB.out⟩
    · cases r1
      · go_wp2
        go_ret
        exact ⟨rb (by rw [← hr]; rfl), HB.out⟩
      · go_wp2
        go_ret
        exact ⟨rb (by rw [← hr]; simp [h0, h2]), HB.out⟩
  · have e0 : decide (0 ≤ a) = false := decide_eq_false (by omega)
    have h00 : a < 0 := by omega
    cases r1
    · go_wp2
      go_ret
      exact ⟨rb (by rw [← hr]; rfl), HB.out⟩
    · go_wp2
      go_ret
      exact ⟨rb (by rw [← hr, e0]; simp), HB.out⟩
set_option maxRecDepth 100000 in
set_option maxHeartbeats 4000000 in
theorem rints {la lb : List Int} {sa sb : Sl} {ba bb : Nat} {w : World} {r : Bool} (hr : decide (la = lb) = r) (hA : ERow encI 3 1 w ba sa.val la) (hB : ERow encI 3 1 w bb sb.val lb) (hla : la.length ≤ 5000) :
    Calls Try.prog 24 #[.slice sa.p sa.n sa.c, .slice sb.p sb.n sb.c] w fun e w' => e = .returned (.bool r) ∧ ∃ q, w' = w.drewN q := by
  obtain ⟨pa, na, ca⟩ := sa
  obtain ⟨pb, nb, cb⟩ := sb
  have hna : na = la.length := hA.n
  have hnb : nb = lb.length := hB.n
  simp only
  have hlim : na ≤ 5000 := by omega
  by_cases hl : na = nb
  · subst hl
    have HR := Lib.hid hr
    have HA := Lib.hid hA
    have HB := Lib.hid hB
    have HN := Lib.hid hna
    have HM := Lib.hid hnb
    clear hr hA hB hna hnb hla
    go_enter Try.func24, Try.ntmps24
    go_wp2
    go_loopw [5] (fun i wr => ∃ k q : Nat, k ≤ na ∧ i = .int .i64 k ∧ wr = w.drewN q ∧ Hid (la.take k = lb.take k)) (fun i _ => na - (intOf i).toNat)
    case atStart => exact ⟨0, 0, Nat.zero_le _, rfl, rfl, Lib.hid (by rw [List.take_zero, List.take_zero])⟩
    case round =>
      obtain ⟨k, q, hk, rfl, rfl, HT⟩ := hrel
      by_cases hlt : k < na
      · have hlk : k < la.length := by have := HN.out; omega
        have hlk2 : k < lb.length := by have := HM.out; omega
        obtain ⟨x, hx⟩ : ∃ x, la[k]? = some x := ⟨_, List.getElem?_eq_getElem hlk⟩
        obtain ⟨y, hy⟩ : ∃ y, lb[k]? = some y := ⟨_, List.getElem?_eq_getElem hlk2⟩
        obtain ⟨b1, cs1, e1, _, _, hn1, _, _, _, hca⟩ := ERow.at (enc := encI) (k := 1) (fun _ => rfl) HA.out hx
        obtain ⟨b2, cs2, e2, _, _, hn2, _, _, _, hcb⟩ := ERow.at (enc := encI) (k := 1) (fun _ => rfl) HB.out hy
        simp only at e1 e2
        subst e1 e2
        have a0 := hca 0 _ rfl
        have b0 := hcb 0 _ rfl
        rw [Nat.mul_one, Nat.add_zero] at a0 b0
        have hlt2 : (k : Int) < na := by omega
        clear hca hcb hn1 hn2
        by_cases he : x = y
        · have HS := Lib.hid (take_eq HT.out hx hy he)
          subst he
          clear hx hy hlk hlk2
          go_wp2
          go_quiet (fail)
          go_wp2
          exact ⟨⟨k + 1, q + nq, by omega, by go_num, rfl, HS⟩, by simp [intOf]; omega⟩
        · obtain rfl : r = false := by rw [← HR.out]; exact decide_eq_false (not_eq hx hy he)
          have hne : (x == y) = false := beq_eq_false_iff_ne.2 he
          have hne2 : (x != y) = true := bne_iff_ne.2 he
          clear hx hy hlk hlk2 he
          go_wp2
          go_quiet (fail)
          go_wp2
          go_ret
          exact ⟨rfl, q + nq, by rw [World.drewN_drewN]⟩
      · obtain rfl : r = true := by
          rw [← HR.out]
          refine decide_eq_true ?_
          have h := HT.out
          rwa [List.take_of_length_le (by have := HN.out; omega), List.take_of_length_le (by have := HM.out; omega)] at h
        go_wp2
        go_ret
        exact ⟨rfl, _, rfl⟩
  · obtain rfl : r = false := by rw [← hr]; exact decide_eq_false (by rintro rfl; exact hl (hna.trans hnb.symm))
    have hb : ((na : Int) != (nb : Int)) = true := by simp; omega
    have hb2 : ((na : Int) == (nb : Int)) = false := by simp; omega
    clear hr hA hB hna hnb hla
    go_enter Try.func24, Try.ntmps24
    go_wp2
    go_ret
    exact ⟨rfl, 0, rfl⟩
end Go.Proofs.Ytobpoghophhphaa
