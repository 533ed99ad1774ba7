/- Whether two devices are the same; a new device; whether one raises its interrupt. -/
import Derived.Test.YtbhpnoodpicdkaaGRd
import Derived.LoopN
import Derived.ChangeKeysEq
namespace Go.Proofs.Ytbhpnoodpicdkaa
open Go.RowKit Dv
set_option linter.unusedVariables false
set_option linter.unusedSimpArgs false
theorem take_eq {la lb : List Int} {k : Nat} {x y : Int} (h : la.take k = lb.take k) (hx : la[k]? = some x) (hy : lb[k]? = some y) (he : x = y) : la.take (k + 1) = lb.take (k + 1) := by
  rw [List.take_add_one, List.take_add_one, h, hx, hy, he]
theorem not_eq {la lb : List Int} {k : Nat} {x y : Int} (hx : la[k]? = some x) (hy : lb[k]? = some y) (he : x ≠ y) : la ≠ lb := by
  rintro rfl
  rw [hx] at hy
  exact he (Option.some.inj hy)
set_option maxHeartbeats 4000000 in
theorem equal_lit {la lb : List Int} {pa pb : Option Addr} {na nb ca cb : Nat} {w : World} {r : Bool} (hr : decide (la = lb) = r) (hA : QAt w (.slice pa na ca) la) (hB : QAt w (.slice pb nb cb) lb) (hla : na ≤ 1000) :
    Calls Try.prog 23 #[.slice pa na ca, .slice pb nb cb] w fun e w' => e = .returned (.bool r) ∧ ∃ q, w' = w.drewN q := by
  have hna := QAt.len hA
  have hnb := QAt.len hB
  by_cases hl : na = nb
  · subst hl
    have HR := Lib.hid hr
    have HA := Lib.hid hA
    have HB := Lib.hid hB
    have HN := Lib.hid hna
    have HM := Lib.hid hnb
    clear hr hA hB hna hnb
    go_enter Try.func23, Try.ntmps23
    go_wp2
    go_loopw [13] (fun i wr => ∃ k q : Nat, k ≤ na ∧ i = .int .i64 k ∧ wr = w.drewN q ∧ Hid (la.take k = lb.take k)) (fun i _ => na - (intOf i).toNat)
    case atStart => exact ⟨0, 0, Nat.zero_le _, rfl, rfl, Lib.hid (by rw [List.take_zero, List.take_zero])⟩
    case round =>
      obtain ⟨k, q, hk, rfl, rfl, HT⟩ := hrel
      by_cases hlt : k < na
      · have hlk : k < la.length := by have := HN.out; omega
        have hlk2 : k < lb.length := by have := HM.out; omega
        obtain ⟨x, hx⟩ : ∃ x, la[k]? = some x := ⟨_, List.getElem?_eq_getElem hlk⟩
        obtain ⟨y, hy⟩ : ∃ y, lb[k]? = some y := ⟨_, List.getElem?_eq_getElem hlk2⟩
        rcases HA.out with ⟨_, h0⟩ | ⟨b1, o1, c1, hv1, _, hb1, hx1⟩
        · rw [h0] at hlk; simp at hlk
        rcases HB.out with ⟨_, h0⟩ | ⟨b2, o2, c2, hv2, _, hb2, hx2⟩
        · rw [h0] at hlk2; simp at hlk2
        injection hv1 with e1 _ _
        injection hv2 with e2 _ _
        subst e1 e2
        have a0 := hx1 k x hx
        have b0 := hx2 k y hy
        have hlt2 : (k : Int) < na := by omega
        clear hx1 hx2
        by_cases he : x = y
        · have HS := Lib.hid (take_eq HT.out hx hy he)
          subst he
          clear hx hy hlk hlk2
          go_wp2
          go_quiet (fail)
          go_wp2
          exact ⟨⟨k + 1, q + nq, by omega, by go_num, rfl, HS⟩, by simp [intOf]; omega⟩
        · obtain rfl : r = false := by rw [← HR.out]; exact decide_eq_false (not_eq hx hy he)
          have hne : (x == y) = false := beq_eq_false_iff_ne.2 he
          have hne2 : (x != y) = true := bne_iff_ne.2 he
          clear hx hy hlk hlk2 he
          go_wp2
          go_quiet (fail)
          go_wp2
          go_ret
          exact ⟨rfl, q + nq, by rw [World.drewN_drewN]⟩
      · obtain rfl : r = true := by
          rw [← HR.out]
          refine decide_eq_true ?_
          have h := HT.out
          rwa [List.take_of_length_le (by have := HN.out; omega), List.take_of_length_le (by have := HM.out; omega)] at h
        go_wp2
        go_ret
        exact ⟨rfl, _, rfl⟩
  · obtain rfl : r = false := by rw [← hr]; exact decide_eq_false (by rintro rfl; exact hl (hna.trans hnb.symm))
    have hb : ((na : Int) != (nb : Int)) = true := by simp; omega
    have hb2 : ((na : Int) == (nb : Int)) = false := by simp; omega
    clear hr hA hB hna hnb
    go_enter Try.func23, Try.ntmps23
    go_wp2
    go_ret
    exact ⟨rfl, 0, rfl⟩
theorem eqlR (a b c d a' b' c' d' : Int) (w : World) : (binOp .eql 24 (.agg #[.int .i64 a, .int .i64 b, .int .i64 c, .int .i64 d]) (.agg #[.int .i64 a', .int .i64 b', .int .i64 c', .int .i64 d'])).run Try.prog w = .ok (.bool (a == a' && b == b' && c == c' && d == d')) w := by
  have hc : Try.prog.cellsOf 3 = 1 := by kernel_rfl
  have hr : List.range 4 = [0, 1, 2, 3] := rfl
  obtain ⟨i, hi⟩ : ∃ i, Try.prog.info? 3 = some i := ⟨(Try.prog.info? 3).get (by kernel_rfl), by kernel_rfl⟩
  have h := run_equalIn_array (P := Try.prog) w 9999 #[.int .i64 a, .int .i64 b, .int .i64 c, .int .i64 d] #[.int .i64 a', .int .i64 b', .int .i64 c', .int .i64 d'] Try.underlying24 hi
  rw [hc, hr] at h
  go_simp
  simp [Op.eqItems, go_sem]
  by_cases h1 : a = a' <;> by_cases h2 : b = b' <;> by_cases h3 : c = c' <;> by_cases h4 : d = d' <;> simp [h1, h2, h3, h4]
theorem sameV_as {a b : Dev} {R Q S U : Bool} (hk : a.kind = b.kind) (hR : (a.r0 == b.r0 && a.r1 == b.r1 && a.r2 == b.r2 && a.r3 == b.r3) = R) (hQ : decide (a.q = b.q) = Q) (hS : (a.sent == b.sent) = S) (hU : (a.up == b.up) = U) : sameV a b = (R && Q && S && U) := by
  have hQ' : (a.q == b.q) = Q := by rw [← hQ]; by_cases h : a.q = b.q <;> simp [h]
  unfold sameV
  rw [hR, hQ', hS, hU, hk, beq_self_eq_true, Bool.true_and]
set_option maxRecDepth 100000 in
theorem same_lit {w : World} {a b : Dev} {va vb : Value} {r : Bool} (hr : sameV a b = r) (hA : StAt w va a) (hB : StAt w vb b) (hla : a.q.length ≤ 16) :
    Calls Try.prog 16 #[va, vb] w fun e w' => e = .returned (.bool r) ∧ Bel w w' := by
  obtain ⟨ua, rfl, hQA⟩ := hA
  obtain ⟨pa, na, ca, rfl⟩ := qat_slice hQA
  obtain ⟨ub, rfl, hQB⟩ := hB
  obtain ⟨pb, nb, cb, rfl⟩ := qat_slice hQB
  have hna := QAt.len hQA
  have HR := Lib.hid hr
  clear hr
  have hb1 : Bel w ((w.alloc (.cells #[.int .i64 (a.kind : Int), .int .i64 a.r0, .int .i64 a.r1, .int .i64 a.r2, .int .i64 a.r3, .slice pa na ca, .int .i64 a.sent, .bool a.up] 27)).alloc (.cells #[.int .i64 (b.kind : Int), .int .i64 b.r0, .int .i64 b.r1, .int .i64 b.r2, .int .i64 b.r3, .slice pb nb cb, .int .i64 b.sent, .bool b.up] 27)) := ((Bel.refl w).alloc _ _).alloc _ _
  have hx1 : ((w.alloc (.cells #[.int .i64 (a.kind : Int), .int .i64 a.r0, .int .i64 a.r1, .int .i64 a.r2, .int .i64 a.r3, .slice pa na ca, .int .i64 a.sent, .bool a.up] 27)).alloc (.cells #[.int .i64 (b.kind : Int), .int .i64 b.r0, .int .i64 b.r1, .int .i64 b.r2, .int .i64 b.r3, .slice pb nb cb, .int .i64 b.sent, .bool b.up] 27)).heap[w.heap.size]? = some (.cells #[.int .i64 (a.kind : Int), .int .i64 a.r0, .int .i64 a.r1, .int .i64 a.r2, .int .i64 a.r3, .slice pa na ca, .int .i64 a.sent, .bool a.up] 27 (0, 0)) := ((Bel.refl _).alloc _ _).stays (heap_alloc_new w _)
  have hx2 : ((w.alloc (.cells #[.int .i64 (a.kind : Int), .int .i64 a.r0, .int .i64 a.r1, .int .i64 a.r2, .int .i64 a.r3, .slice pa na ca, .int .i64 a.sent, .bool a.up] 27)).alloc (.cells #[.int .i64 (b.kind : Int), .int .i64 b.r0, .int .i64 b.r1, .int .i64 b.r2, .int .i64 b.r3, .slice pb nb cb, .int .i64 b.sent, .bool b.up] 27)).heap[w.heap.size + 1]? = some (.cells #[.int .i64 (b.kind : Int), .int .i64 b.r0, .int .i64 b.r1, .int .i64 b.r2, .int .i64 b.r3, .slice pb nb cb, .int .i64 b.sent, .bool b.up] 27 (0, 0)) := by
    have h1 := heap_alloc_new (w.alloc (.cells #[.int .i64 (a.kind : Int), .int .i64 a.r0, .int .i64 a.r1, .int .i64 a.r2, .int .i64 a.r3, .slice pa na ca, .int .i64 a.sent, .bool a.up] 27)) (.cells #[.int .i64 (b.kind : Int), .int .i64 b.r0, .int .i64 b.r1, .int .i64 b.r2, .int .i64 b.r3, .slice pb nb cb, .int .i64 b.sent, .bool b.up] 27)
    rw [World.size_alloc] at h1
    exact h1
  have hqa := hQA.bel hb1
  have hqb := hQB.bel hb1
  clear hQA hQB
  have HLA : Hid (na ≤ 1000) := Lib.hid (by omega)
  clear hna hla
  show Calls Try.prog 16 #[.agg #[.int .i64 (a.kind : Int), .int .i64 a.r0, .int .i64 a.r1, .int .i64 a.r2, .int .i64 a.r3, .slice pa na ca, .int .i64 a.sent, .bool a.up], .agg #[.int .i64 (b.kind : Int), .int .i64 b.r0, .int .i64 b.r1, .int .i64 b.r2, .int .i64 b.r3, .slice pb nb cb, .int .i64 b.sent, .bool b.up]] w _
  go_enter Try.func16, Try.ntmps16
  go_upto_region 1 with (fail)
  generalize ((w.alloc (.cells #[.int .i64 (a.kind : Int), .int .i64 a.r0, .int .i64 a.r1, .int .i64 a.r2, .int .i64 a.r3, .slice pa na ca, .int .i64 a.sent, .bool a.up] 27)).alloc (.cells #[.int .i64 (b.kind : Int), .int .i64 b.r0, .int .i64 b.r1, .int .i64 b.r2, .int .i64 b.r3, .slice pb nb cb, .int .i64 b.sent, .bool b.up] 27)) = W1 at hb1 hx1 hx2 hqa hqb ⊢
  generalize w.heap.size + 1 = g2 at hx2 ⊢
  generalize w.heap.size = g1 at hx1 ⊢
  have hy1 : BoxAt W1 g1 27 a (.slice pa na ca) := hx1
  have hy2 : BoxAt W1 g2 27 b (.slice pb nb cb) := hx2
  obtain ⟨k0, k1, k2, k3, k4, k5, k6, k7⟩ := hy1.cells
  obtain ⟨j0, j1, j2, j3, j4, j5, j6, j7⟩ := hy2.cells
  have HB1 := Lib.hid hb1
  have HQA := Lib.hid hqa
  have HQB := Lib.hid hqb
  clear hb1 hx1 hx2 hqa hqb hy1 hy2
  by_cases hk : a.kind = b.kind
  · obtain ⟨R, hR⟩ : ∃ R, (a.r0 == b.r0 && a.r1 == b.r1 && a.r2 == b.r2 && a.r3 == b.r3) = R := ⟨_, rfl⟩
    obtain ⟨Q, hQ⟩ : ∃ Q, decide (a.q = b.q) = Q := ⟨_, rfl⟩
    obtain ⟨S, hS⟩ : ∃ S, (a.sent == b.sent) = S := ⟨_, rfl⟩
    obtain ⟨U, hU⟩ : ∃ U, (a.up == b.up) = U := ⟨_, rfl⟩
    have HR2 : Hid ((R && Q && S && U) = r) := Lib.hid ((sameV_as hk hR hQ hS hU).symm.trans HR.out)
    have he : ∀ w, (binOp .eql 24 (.agg #[.int .i64 a.r0, .int .i64 a.r1, .int .i64 a.r2, .int .i64 a.r3]) (.agg #[.int .i64 b.r0, .int .i64 b.r1, .int .i64 b.r2, .int .i64 b.r3])).run Try.prog w = .ok (.bool R) w := fun w => by rw [eqlR, hR]
    have HQ := Lib.hid hQ
    rw [hk] at k0
    clear hR hQ hk
    cases R
    · clear hS hU
      go_wp2
      go_ret
      exact ⟨rb HR2.out, HB1.out⟩
    · cases Q
      · clear hS hU
        go_wp2_with (go_at_call 23; ((with_reducible refine (equal_lit HQ.out HQA.out HQB.out HLA.out).mono ?_); rintro e w' ⟨rfl, q, rfl⟩))
        go_ret
        exact ⟨rb HR2.out, HB1.out.drewN _⟩
      · cases S
        · clear hU
          go_wp2_with (go_at_call 23; ((with_reducible refine (equal_lit HQ.out HQA.out HQB.out HLA.out).mono ?_); rintro e w' ⟨rfl, q, rfl⟩))
          go_ret
          exact ⟨rb HR2.out, HB1.out.drewN _⟩
        · go_wp2_with (go_at_call 23; ((with_reducible refine (equal_lit HQ.out HQA.out HQB.out HLA.out).mono ?_); rintro e w' ⟨rfl, q, rfl⟩))
          go_ret
          exact ⟨rb HR2.out, HB1.out.drewN _⟩
  · have hs : sameV a b = false := by simp [sameV, hk]
    have HR2 : Hid (false = r) := Lib.hid (hs.symm.trans HR.out)
    have hk2 : ((a.kind : Int) == (b.kind : Int)) = false := beq_eq_false_iff_ne.2 (by omega)
    clear hs hk
    go_wp2
    go_ret
    exact ⟨rb HR2.out, HB1.out⟩
set_option maxRecDepth 100000 in
theorem raises_any {w : World} {a : Dev} {va : Value} (hA : StAt w va a) :
    Calls Try.prog 19 #[va] w fun e w' => e = .returned (.bool a.up) ∧ Bel w w' := by
  obtain ⟨ua, rfl, hQA⟩ := hA
  obtain ⟨pa, na, ca, rfl⟩ := qat_slice hQA
  show Calls Try.prog 19 #[.agg #[.int .i64 (a.kind : Int), .int .i64 a.r0, .int .i64 a.r1, .int .i64 a.r2, .int .i64 a.r3, .slice pa na ca, .int .i64 a.sent, .bool a.up]] w _
  go_enter Try.func19, Try.ntmps19
  go_wp2
  go_ret
  exact ⟨rfl, (Bel.refl w).alloc _ _⟩
set_option maxRecDepth 100000 in
theorem new1 (w : World) : Calls Try.prog 17 #[.int .i64 1] w (OnePost (newD 1) w) := by
  go_enter Try.func17, Try.ntmps17
  go_wp2
  exact bodyPost_ret (results_cell1 Try.results17 _ _ w.heap.size _ _ _ _ rfl (heap_alloc_new w (.cells (dcells (newD 1) (.slice none 0 0)) 27)) Try.underlying27 rfl (by kernel_rfl)) rfl ⟨_, rfl, (Bel.refl w).alloc _ _, .slice none 0 0, rfl, QAt.nil _⟩
set_option maxRecDepth 100000 in
theorem new2 (w : World) : Calls Try.prog 17 #[.int .i64 2] w (OnePost (newD 2) w) := by
  go_enter Try.func17, Try.ntmps17
  go_wp2
  exact bodyPost_ret (results_cell1 Try.results17 _ _ w.heap.size _ _ _ _ rfl (heap_alloc_new w (.cells (dcells (newD 2) (.slice none 0 0)) 27)) Try.underlying27 rfl (by kernel_rfl)) rfl ⟨_, rfl, (Bel.refl w).alloc _ _, .slice none 0 0, rfl, QAt.nil _⟩
set_option maxRecDepth 100000 in
theorem new3 (w : World) : Calls Try.prog 17 #[.int .i64 3] w (OnePost (newD 3) w) := by
  go_enter Try.func17, Try.ntmps17
  go_wp2
  exact bodyPost_ret (results_cell1 Try.results17 _ _ w.heap.size _ _ _ _ rfl (heap_alloc_new w (.cells (dcells (newD 3) (.slice none 0 0)) 27)) Try.underlying27 rfl (by kernel_rfl)) rfl ⟨_, rfl, (Bel.refl w).alloc _ _, .slice none 0 0, rfl, QAt.nil _⟩
set_option maxRecDepth 100000 in
theorem new4 (w : World) : Calls Try.prog 17 #[.int .i64 4] w (OnePost (newD 0) w) := by
  go_enter Try.func17, Try.ntmps17
  go_wp2
  exact bodyPost_ret (results_cell1 Try.results17 _ _ w.heap.size _ _ _ _ rfl (heap_alloc_new w (.cells (dcells (newD 0) (.slice none 0 0)) 27)) Try.underlying27 rfl (by kernel_rfl)) rfl ⟨_, rfl, (Bel.refl w).alloc _ _, .slice none 0 0, rfl, QAt.nil _⟩
theorem new_any (w : World) {k : Nat} (h : 1 ≤ k ∧ k ≤ 3) : Calls Try.prog 17 #[.int .i64 (k : Int)] w (OnePost (newD k) w) := by
  rcases k with _ | _ | _ | _ | k
  · omega
  · exact new1 w
  · exact new2 w
  · exact new3 w
  · omega
end Go.Proofs.Ytbhpnoodpicdkaa
