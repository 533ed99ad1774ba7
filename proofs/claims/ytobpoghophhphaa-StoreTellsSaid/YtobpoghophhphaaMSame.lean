/- store.Same. -/
import Derived.Test.YtobpoghophhphaaMNew
import Derived.Laws.StructEq
import Derived.BigQuiet
namespace Go.Proofs.Ytobpoghophhphaa
open Go.RowKit Mm
set_option linter.unusedVariables false
set_option linter.unusedSimpArgs false
theorem neqE (a b c d : Int) (w : World) : (binOp .neq 48 (.agg #[.int .i64 a, .int .i64 b]) (.agg #[.int .i64 c, .int .i64 d])).run Try.prog w = .ok (.bool (!(a == c && b == d))) w := by
  have ht : Try.prog.underlying 48 = some (.struct (Try.prog.fieldsOf 48)) := by kernel_rfl
  have hp : Try.prog.stoodInHeld 48 = false := by kernel_rfl
  rw [run_neq_struct, run_equalIn_struct w 9999 _ _ _ ht hp]
  have hi : Try.prog.info? 3 = some ((Try.prog.info? 3).get (by kernel_rfl)) := by kernel_rfl
  simp [Program.fieldsOf, Try.underlying48, Op.eqFields, go_sem]
  by_cases h1 : a = c <;> by_cases h2 : b = d <;> simp [h1, h2]
theorem take_eq {α : Type} {la lb : List α} {k : Nat} {x y : α} (h : la.take k = lb.take k) (hx : la[k]? = some x) (hy : lb[k]? = some y) (he : x = y) : la.take (k + 1) = lb.take (k + 1) := by
  rw [List.take_add_one, List.take_add_one, h, hx, hy, he]
theorem not_eq {α : Type} {la lb : List α} {k : Nat} {x y : α} (hx : la[k]? = some x) (hy : lb[k]? = some y) (he : x ≠ y) : la ≠ lb := by
  rintro rfl
  rw [hx] at hy
  exact he (Option.some.inj hy)
set_option maxRecDepth 100000 in
set_option maxHeartbeats 4000000 in
theorem equalI {la lb : List Int} {sa sb : Sl} {ba bb : Nat} {w : World} {r : Bool} (hr : decide (la = lb) = r) (hA : ERow encI 3 1 w ba sa.val la) (hB : ERow encI 3 1 w bb sb.val lb) (hla : la.length ≤ 5000) :
    Calls Try.prog 25 #[.slice sa.p sa.n sa.c, .slice sb.p sb.n sb.c] w fun e w' => e = .returned (.bool r) ∧ ∃ q, w' = w.drewN q := by
  obtain ⟨pa, na, ca⟩ := sa
  obtain ⟨pb, nb, cb⟩ := sb
  have hna : na = la.length := hA.n
  have hnb : nb = lb.length := hB.n
  simp only
  have hlim : na ≤ 5000 := by omega
  by_cases hl : na = nb
  · subst hl
    have HR := Lib.hid hr
    have HA := Lib.hid hA
    have HB := Lib.hid hB
    have HN := Lib.hid hna
    have HM := Lib.hid hnb
    clear hr hA hB hna hnb hla
    go_enter Try.func25, Try.ntmps25
    go_wp2
    go_loopw [13] (fun i wr => ∃ k q : Nat, k ≤ na ∧ i = .int .i64 k ∧ wr = w.drewN q ∧ Hid (la.take k = lb.take k)) (fun i _ => na - (intOf i).toNat)
    case atStart => exact ⟨0, 0, Nat.zero_le _, rfl, rfl, Lib.hid (by rw [List.take_zero, List.take_zero])⟩
    case round =>
      obtain ⟨k, q, hk, rfl, rfl, HT⟩ := hrel
      by_cases hlt : k < na
      · have hlk : k < la.length := by have := HN.out; omega
        have hlk2 : k < lb.length := by have := HM.out; omega
        obtain ⟨x, hx⟩ : ∃ x, la[k]? = some x := ⟨_, List.getElem?_eq_getElem hlk⟩
        obtain ⟨y, hy⟩ : ∃ y, lb[k]? = some y := ⟨_, List.getElem?_eq_getElem hlk2⟩
        obtain ⟨b1, cs1, e1, _, _, hn1, _, _, _, hca⟩ := ERow.at (enc := encI) (k := 1) (fun _ => rfl) HA.out hx
        obtain ⟨b2, cs2, e2, _, _, hn2, _, _, _, hcb⟩ := ERow.at (enc := encI) (k := 1) (fun _ => rfl) HB.out hy
        simp only at e1 e2
        subst e1 e2
        have a0 := hca 0 _ rfl
        have b0 := hcb 0 _ rfl
        rw [Nat.mul_one, Nat.add_zero] at a0 b0
        have hlt2 : (k : Int) < na := by omega
        clear hca hcb hn1 hn2
        by_cases he : x = y
        · have HS := Lib.hid (take_eq HT.out hx hy he)
          subst he
          clear hx hy hlk hlk2
          go_wp2
          go_quiet (fail)
          go_wp2
          exact ⟨⟨k + 1, q + nq, by omega, by go_num, rfl, HS⟩, by simp [intOf]; omega⟩
        · obtain rfl : r = false := by rw [← HR.out]; exact decide_eq_false (not_eq hx hy he)
          have hne : (x == y) = false := beq_eq_false_iff_ne.2 he
          have hne2 : (x != y) = true := bne_iff_ne.2 he
          clear hx hy hlk hlk2 he
          go_wp2
          go_quiet (fail)
          go_wp2
          go_ret
          exact ⟨rfl, q + nq, by rw [World.drewN_drewN]⟩
      · obtain rfl : r = true := by
          rw [← HR.out]
          refine decide_eq_true ?_
          have h := HT.out
          rwa [List.take_of_length_le (by have := HN.out; omega), List.take_of_length_le (by have := HM.out; omega)] at h
        go_wp2
        go_ret
        exact ⟨rfl, _, rfl⟩
  · obtain rfl : r = false := by rw [← hr]; exact decide_eq_false (by rintro rfl; exact hl (hna.trans hnb.symm))
    have hb : ((na : Int) != (nb : Int)) = true := by simp; omega
    have hb2 : ((na : Int) == (nb : Int)) = false := by simp; omega
    clear hr hA hB hna hnb hla
    go_enter Try.func25, Try.ntmps25
    go_wp2
    go_ret
    exact ⟨rfl, 0, rfl⟩
set_option maxRecDepth 100000 in
set_option maxHeartbeats 4000000 in
theorem equalE {la lb : List (Int × Int)} {sa sb : Sl} {ba bb : Nat} {w : World} {r : Bool} (hr : decide (la = lb) = r) (hA : ERow encE 48 2 w ba sa.val la) (hB : ERow encE 48 2 w bb sb.val lb) (hla : la.length ≤ 1000) :
    Calls Try.prog 27 #[.slice sa.p sa.n sa.c, .slice sb.p sb.n sb.c] w fun e w' => e = .returned (.bool r) ∧ ∃ q, w' = w.drewN q := by
  obtain ⟨pa, na, ca⟩ := sa
  obtain ⟨pb, nb, cb⟩ := sb
  have hna : na = la.length := hA.n
  have hnb : nb = lb.length := hB.n
  simp only
  have hlim : na ≤ 1000 := by omega
  by_cases hl : na = nb
  · subst hl
    have HR := Lib.hid hr
    have HA := Lib.hid hA
    have HB := Lib.hid hB
    have HN := Lib.hid hna
    have HM := Lib.hid hnb
    clear hr hA hB hna hnb hla
    go_enter Try.func27, Try.ntmps27
    go_wp2
    go_loopw [13] (fun i wr => ∃ k q : Nat, k ≤ na ∧ i = .int .i64 k ∧ wr = w.drewN q ∧ Hid (la.take k = lb.take k)) (fun i _ => na - (intOf i).toNat)
    case atStart => exact ⟨0, 0, Nat.zero_le _, rfl, rfl, Lib.hid (by rw [List.take_zero, List.take_zero])⟩
    case round =>
      obtain ⟨k, q, hk, rfl, rfl, HT⟩ := hrel
      by_cases hlt : k < na
      · have hlk : k < la.length := by have := HN.out; omega
        have hlk2 : k < lb.length := by have := HM.out; omega
        obtain ⟨⟨x1, x2⟩, hx⟩ : ∃ x, la[k]? = some x := ⟨_, List.getElem?_eq_getElem hlk⟩
        obtain ⟨⟨y1, y2⟩, hy⟩ : ∃ y, lb[k]? = some y := ⟨_, List.getElem?_eq_getElem hlk2⟩
        obtain ⟨b1, cs1, e1, _, _, hn1, _, _, _, hca⟩ := ERow.at (enc := encE) (k := 2) (fun _ => rfl) HA.out hx
        obtain ⟨b2, cs2, e2, _, _, hn2, _, _, _, hcb⟩ := ERow.at (enc := encE) (k := 2) (fun _ => rfl) HB.out hy
        simp only at e1 e2
        subst e1 e2
        have a0 := hca 0 _ rfl
        have b0 := hcb 0 _ rfl
        have a1 := hca 1 _ rfl
        have b1 := hcb 1 _ rfl
        rw [Nat.add_zero] at a0 b0
        have hlt2 : (k : Int) < na := by omega
        clear hca hcb hn1 hn2
        by_cases he : (x1 == y1 && x2 == y2) = true
        · have HS := Lib.hid (take_eq HT.out hx hy (by rw [Bool.and_eq_true, beq_iff_eq, beq_iff_eq] at he; rw [he.1, he.2]))
          have hq : ∀ w, (binOp .neq 48 (.agg #[.int .i64 x1, .int .i64 x2]) (.agg #[.int .i64 y1, .int .i64 y2])).run Try.prog w = .ok (.bool false) w := fun w => by rw [neqE, he]; rfl
          clear he
          clear hx hy hlk hlk2
          go_wp2
          go_quiet (fail)
          go_wp2
          exact ⟨⟨k + 1, q + nq, by omega, by go_num, rfl, HS⟩, by simp [intOf]; omega⟩
        · obtain rfl : r = false := by rw [← HR.out]; exact decide_eq_false (not_eq hx hy (fun c => he (by injection c with c1 c2; rw [c1, c2]; simp)))
          have hq : ∀ w, (binOp .neq 48 (.agg #[.int .i64 x1, .int .i64 x2]) (.agg #[.int .i64 y1, .int .i64 y2])).run Try.prog w = .ok (.bool true) w := fun w => by rw [neqE, Bool.eq_false_iff.2 he]; rfl
          clear hx hy hlk hlk2 he
          go_wp2
          go_quiet (fail)
          go_wp2
          go_ret
          exact ⟨rfl, q + nq, by rw [World.drewN_drewN]⟩
      · obtain rfl : r = true := by
          rw [← HR.out]
          refine decide_eq_true ?_
          have h := HT.out
          rwa [List.take_of_length_le (by have := HN.out; omega), List.take_of_length_le (by have := HM.out; omega)] at h
        go_wp2
        go_ret
        exact ⟨rfl, _, rfl⟩
  · obtain rfl : r = false := by rw [← hr]; exact decide_eq_false (by rintro rfl; exact hl (hna.trans hnb.symm))
    have hb : ((na : Int) != (nb : Int)) = true := by simp; omega
    have hb2 : ((na : Int) == (nb : Int)) = false := by simp; omega
    clear hr hA hB hna hnb hla
    go_enter Try.func27, Try.ntmps27
    go_wp2
    go_ret
    exact ⟨rfl, 0, rfl⟩
set_option maxRecDepth 100000 in
set_option maxHeartbeats 4000000 in
theorem equalF {A B : List (List (Int × Int))} {va vb : List Sl} {sa sb : Sl} {ba bb : Nat} {w : World} {r : Bool} (hr : decide (A = B) = r) (hA : ERow encS 46 1 w ba sa.val va) (hB : ERow encS 46 1 w bb sb.val vb) (hva : va.length = A.length) (hvb : vb.length = B.length)
    (rA : ∀ (i : Nat) (s : Sl) (l : List (Int × Int)), va[i]? = some s → A[i]? = some l → ERow encE 48 2 w ba s.val l) (rB : ∀ (i : Nat) (s : Sl) (l : List (Int × Int)), vb[i]? = some s → B[i]? = some l → ERow encE 48 2 w bb s.val l) (hla : A.length ≤ 1000) (h8 : ∀ l ∈ A, l.length ≤ 1000) :
    Calls Try.prog 26 #[.slice sa.p sa.n sa.c, .slice sb.p sb.n sb.c, .func (.func 27) #[] #[]] w fun e w' => e = .returned (.bool r) ∧ ∃ q, w' = w.drewN q := by
  obtain ⟨pa, na, ca⟩ := sa
  obtain ⟨pb, nb, cb⟩ := sb
  have hna : na = A.length := hA.n.trans hva
  have hnb : nb = B.length := hB.n.trans hvb
  simp only
  have hlim : na ≤ 1000 := by omega
  by_cases hl : na = nb
  · subst hl
    have HR := Lib.hid hr
    have HA := Lib.hid hA
    have HB := Lib.hid hB
    have HN := Lib.hid hna
    have HM := Lib.hid hnb
    have HVA := Lib.hid hva
    have HVB := Lib.hid hvb
    have HRA := Lib.hid rA
    have HRB := Lib.hid rB
    have H8 := Lib.hid h8
    clear hr hA hB hna hnb hla hva hvb rA rB h8
    go_enter Try.func26, Try.ntmps26
    go_wp2
    go_loopw [17] (fun i wr => ∃ k q : Nat, k ≤ na ∧ i = .int .i64 k ∧ wr = w.drewN q ∧ Hid (A.take k = B.take k)) (fun i _ => na - (intOf i).toNat)
    case atStart => exact ⟨0, 0, Nat.zero_le _, rfl, rfl, Lib.hid (by rw [List.take_zero, List.take_zero])⟩
    case round =>
      obtain ⟨k, q, hk, rfl, rfl, HT⟩ := hrel
      by_cases hlt : k < na
      · have hlk : k < A.length := by have := HN.out; omega
        have hlk2 : k < B.length := by have := HM.out; omega
        obtain ⟨x, hx⟩ : ∃ x, A[k]? = some x := ⟨_, List.getElem?_eq_getElem hlk⟩
        obtain ⟨y, hy⟩ : ∃ y, B[k]? = some y := ⟨_, List.getElem?_eq_getElem hlk2⟩
        obtain ⟨s, hs⟩ : ∃ s, va[k]? = some s := ⟨_, List.getElem?_eq_getElem (by rw [HVA.out]; exact hlk)⟩
        obtain ⟨t, ht⟩ : ∃ t, vb[k]? = some t := ⟨_, List.getElem?_eq_getElem (by rw [HVB.out]; exact hlk2)⟩
        obtain ⟨b1, cs1, e1, _, _, _, _, a0, _⟩ := ERow.at1 (enc := encS) (fun _ => rfl) HA.out hs rfl
        obtain ⟨b2, cs2, e2, _, _, _, _, b0, _⟩ := ERow.at1 (enc := encS) (fun _ => rfl) HB.out ht rfl
        simp only at e1 e2
        subst e1 e2
        have hlt2 : (k : Int) < na := by omega
        have HSA := Lib.hid (HRA.out k s x hs hx)
        have HSB := Lib.hid (HRB.out k t y ht hy)
        have HX8 := Lib.hid (H8.out x (List.mem_of_getElem? hx))
        have HX := Lib.hid hx
        have HY := Lib.hid hy
        clear hs ht hx hy hlk hlk2
        by_cases he : x = y
        · have HE : Hid (decide (x = y) = true) := Lib.hid (decide_eq_true he)
          have HS := Lib.hid (take_eq HT.out HX.out HY.out he)
          clear he
          go_wp2_with (go_at_call 27; ((with_reducible refine (equalE HE.out (HSA.out.bel ((Bel.refl w).drewN q)) (HSB.out.bel ((Bel.refl w).drewN q)) HX8.out).mono ?_); rintro e w2 ⟨rfl, nq, rfl⟩; rw [World.drewN_drewN]))
          exact ⟨⟨k + 1, q + nq, by omega, by go_num, rfl, HS⟩, by simp [intOf]; omega⟩
        · have HE : Hid (decide (x = y) = false) := Lib.hid (decide_eq_false he)
          obtain rfl : r = false := by rw [← HR.out]; exact decide_eq_false (not_eq HX.out HY.out he)
          clear he
          go_wp2_with (go_at_call 27; ((with_reducible refine (equalE HE.out (HSA.out.bel ((Bel.refl w).drewN q)) (HSB.out.bel ((Bel.refl w).drewN q)) HX8.out).mono ?_); rintro e w2 ⟨rfl, nq, rfl⟩; rw [World.drewN_drewN]))
          go_ret
          exact ⟨rfl, q + nq, rfl⟩
      · obtain rfl : r = true := by
          rw [← HR.out]
          refine decide_eq_true ?_
          have h := HT.out
          rwa [List.take_of_length_le (by have := HN.out; omega), List.take_of_length_le (by have := HM.out; omega)] at h
        go_wp2
        go_ret
        exact ⟨rfl, _, rfl⟩
  · obtain rfl : r = false := by rw [← hr]; exact decide_eq_false (by rintro rfl; exact hl (hna.trans hnb.symm))
    have hb : ((na : Int) != (nb : Int)) = true := by simp; omega
    have hb2 : ((na : Int) == (nb : Int)) = false := by simp; omega
    clear hr hA hB hna hnb hla hva hvb rA rB h8
    go_enter Try.func26, Try.ntmps26
    go_wp2
    go_ret
    exact ⟨rfl, 0, rfl⟩
theorem drewN_bel {P : Program} {f : FuncId} {args : Array Value} {w : World} {r : Bool} (h : Calls P f args w fun e w' => e = .returned (.bool r) ∧ ∃ q, w' = w.drewN q) : Calls P f args w fun e w' => e = .returned (.bool r) ∧ Bel w w' :=
  h.mono fun e w' ⟨h1, q, hq⟩ => ⟨h1, by rw [hq]; exact (Bel.refl w).drewN q⟩
def sameV (a b : Mem) : Bool := decide (a.words = b.words) && decide (a.pend = b.pend) && decide (a.res = b.res)
theorem sameV_refl (a : Mem) : sameV a a = true := by unfold sameV; simp
set_option maxRecDepth 100000 in
set_option maxHeartbeats 4000000 in
theorem same_lit {a b : Mem} {va vb : Mv} {ba bb : Nat} {w : World} {r : Bool} (hr : sameV a b = r) (hA : MemAt ba w va a) (hB : MemAt bb w vb b) (oa : Ok a) :
    Calls Try.prog 8 #[.agg #[.slice va.w.p va.w.n va.w.c, .slice va.p.p va.p.n va.p.c, .slice va.r.p va.r.n va.r.c], .agg #[.slice vb.w.p vb.w.n vb.w.c, .slice vb.p.p vb.p.n vb.p.c, .slice vb.r.p vb.r.n vb.r.c]] w fun e w' => e = .returned (.bool r) ∧ Bel w w' := by
  obtain ⟨hb1, hx1, hx2⟩ := box2 w #[.slice va.w.p va.w.n va.w.c, .slice va.p.p va.p.n va.p.c, .slice va.r.p va.r.n va.r.c] 27 #[.slice vb.w.p vb.w.n vb.w.c, .slice vb.p.p vb.p.n vb.p.c, .slice vb.r.p vb.r.n vb.r.c] 27
  have HA := Lib.hid (hA.bel hb1)
  have HB := Lib.hid (hB.bel hb1)
  have HO := Lib.hid oa
  unfold sameV at hr
  obtain ⟨r1, hr1⟩ : ∃ r1, decide (a.words = b.words) = r1 := ⟨_, rfl⟩
  obtain ⟨r2, hr2⟩ : ∃ r2, decide (a.pend = b.pend) = r2 := ⟨_, rfl⟩
  obtain ⟨r3, hr3⟩ : ∃ r3, decide (a.res = b.res) = r3 := ⟨_, rfl⟩
  rw [hr1, hr2, hr3] at hr
  have R1 := Lib.hid hr1
  have R2 := Lib.hid hr2
  have R3 := Lib.hid hr3
  have HW : Hid (a.words.length ≤ 5000) := Lib.hid (by have := oa.w; omega)
  have HRL : Hid (a.res.length ≤ 5000) := Lib.hid (by have := oa.p4; have := oa.pr; omega)
  have HPL : Hid (a.pend.length ≤ 1000) := Lib.hid (by have := oa.p4; omega)
  have HP8 : Hid (∀ l ∈ a.pend, l.length ≤ 1000) := Lib.hid (fun l hl => by have := oa.p8 l hl; omega)
  subst hr
  clear hr1 hr2 hr3 hA hB oa
  go_enter Try.func8, Try.ntmps8
  go_upto_region 1 with (fail)
  generalize hW1 : ((w.alloc (.cells #[.slice va.w.p va.w.n va.w.c, .slice va.p.p va.p.n va.p.c, .slice va.r.p va.r.n va.r.c] 27)).alloc (.cells #[.slice vb.w.p vb.w.n vb.w.c, .slice vb.p.p vb.p.n vb.p.c, .slice vb.r.p vb.r.n vb.r.c] 27)) = W1 at hb1 hx1 hx2 HA HB ⊢
  clear hW1
  generalize w.heap.size + 1 = g2 at hx2 ⊢
  obtain ⟨g1, hG⟩ : ∃ G, w.heap.size = G := ⟨_, rfl⟩
  rw [hG] at hx1 ⊢
  have HB1 := Lib.hid hb1
  have HX1 := Lib.hid hx1
  have HX2 := Lib.hid hx2
  have HBC : Hid (Bel W1 W1) := Lib.hid (Bel.refl _)
  clear hb1 hx1 hx2 hG
  have k0 := cell_of_heap HX1.out 0
  have k1 := cell_of_heap HX1.out 1
  have k2 := cell_of_heap HX1.out 2
  simp only [List.getElem?_toArray, List.getElem?_cons_zero, List.getElem?_cons_succ] at k0 k1 k2
  have z0 := cell_of_heap HX2.out 0
  have z1 := cell_of_heap HX2.out 1
  have z2 := cell_of_heap HX2.out 2
  simp only [List.getElem?_toArray, List.getElem?_cons_zero, List.getElem?_cons_succ] at z0 z1 z2
  cases r1 <;> cases r2
  all_goals
   go_wp2_with (first
    | (go_at_call 25; ((with_reducible refine (drewN_bel (equalI R1.out (HA.out.wd.bel HBC.out) (HB.out.wd.bel HBC.out) HW.out)).mono ?_); rintro e wz ⟨rfl, hbz⟩; have HBC := Lib.hid (HBC.out.trans hbz); have HX1 := Lib.hid (hbz.stays HX1.out); have HX2 := Lib.hid (hbz.stays HX2.out); clear hbz; have k0 := cell_of_heap HX1.out 0; have k1 := cell_of_heap HX1.out 1; have k2 := cell_of_heap HX1.out 2; simp only [List.getElem?_toArray, List.getElem?_cons_zero, List.getElem?_cons_succ] at k0 k1 k2; have z0 := cell_of_heap HX2.out 0; have z1 := cell_of_heap HX2.out 1; have z2 := cell_of_heap HX2.out 2; simp only [List.getElem?_toArray, List.getElem?_cons_zero, List.getElem?_cons_succ] at z0 z1 z2))
    | (go_at_call 26; ((with_reducible refine (drewN_bel (equalF R2.out (HA.out.pd.bel HBC.out) (HB.out.pd.bel HBC.out) HA.out.rl HB.out.rl (fun i s l h1 h2 => (HA.out.ro i s l h1 h2).bel HBC.out) (fun i s l h1 h2 => (HB.out.ro i s l h1 h2).bel HBC.out) HPL.out HP8.out)).mono ?_); rintro e wz ⟨rfl, hbz⟩; have HBC := Lib.hid (HBC.out.trans hbz); have HX1 := Lib.hid (hbz.stays HX1.out); have HX2 := Lib.hid (hbz.stays HX2.out); clear hbz; have k0 := cell_of_heap HX1.out 0; have k1 := cell_of_heap HX1.out 1; have k2 := cell_of_heap HX1.out 2; simp only [List.getElem?_toArray, List.getElem?_cons_zero, List.getElem?_cons_succ] at k0 k1 k2; have z0 := cell_of_heap HX2.out 0; have z1 := cell_of_heap HX2.out 1; have z2 := cell_of_heap HX2.out 2; simp only [List.getElem?_toArray, List.getElem?_cons_zero, List.getElem?_cons_succ] at z0 z1 z2))
    | (go_at_call 25; ((with_reducible refine (drewN_bel (equalI R3.out (HA.out.rs.bel HBC.out) (HB.out.rs.bel HBC.out) HRL.out)).mono ?_); rintro e wz ⟨rfl, hbz⟩; have HBC := Lib.hid (HBC.out.trans hbz); clear hbz)))
   go_ret
   exact ⟨rfl, HB1.out.trans HBC.out⟩
end Go.Proofs.Ytobpoghophhphaa
