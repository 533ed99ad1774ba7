/- Holds. -/
import Derived.Test.YtigefdoejcggpaaNFn7
namespace Go.Proofs.Ytigefdoejcggpaa
open Go.RowKit Ax
set_option linter.unusedVariables false
set_option linter.unusedSimpArgs false
theorem EncAt.drop1 {w : World} {b o : Nat} {l : List Int} (h : IAt w (some ⟨b, o, none⟩) l) (i : Nat) : IAt w (some ⟨b, o + i, none⟩) (l.drop i) := fun j x hj => by
  rw [List.getElem?_drop] at hj
  obtain ⟨b', o', e, h1, h2⟩ := h (i + j) x hj
  injection e with e
  injection e with e1 e2
  subst e1
  subst e2
  refine ⟨b, o + i, rfl, h1, fun q v hq => ?_⟩
  have := h2 q v hq
  rwa [Nat.add_mul, Nat.mul_one, ← Nat.add_assoc] at this
set_option maxRecDepth 100000 in
theorem holds1_lit {w : World} {p : Option Addr} {l : List Ev} {n c : Nat} {g1 g2 k : Nat} (hx1 : w.heap[g1]? = some (.cells #[.slice p n c] 22 (0, 0))) (hx2 : w.heap[g2]? = some (.cells #[.int .i64 (k : Int)] 3 (0, 0))) (hl : LAt w p l) (hn : l.length = n) (hnc : n ≤ c) (hmax : n ≤ 5000) {x : Int} (hx : 0 ≤ x ∧ x < (n : Int)) (hk : k < n) {r : Bool} (hr : kp l x k = r) :
    Calls Try.prog 34 #[.int .i64 x, .pointer (some ⟨g1, 0, none⟩), .pointer (some ⟨g2, 0, none⟩)] w (OneB r w) := by
  obtain ⟨i, rfl⟩ : ∃ i : Nat, x = i := ⟨x.toNat, by omega⟩
  have hi : i < n := by omega
  have HC := Lib.hid (keeps_lit (c := c) hl hn hnc hmax hi hk hr)
  have k1 := cell_of_heap hx1 0
  have k2 := cell_of_heap hx2 0
  simp only [List.getElem?_toArray, List.getElem?_cons_zero] at k1 k2
  clear hx1 hx2 hl hn hnc hmax hx hk hr hi
  go_enter Try.func34, Try.ntmps34
  go_wp2_with (go_at_call 32; ((with_reducible refine HC.out.mono ?_); rintro e w2 ⟨rfl, hbz⟩; have HBZ := Lib.hid hbz; clear hbz))
  go_ret
  exact ⟨rfl, HBZ.out⟩
set_option maxRecDepth 100000 in
theorem holds1_index {w : World} {p : Option Addr} {l : List Int} {n c : Nat} (hl : IAt w p l) (hn : l.length = n) (hmax : n ≤ 5000) {P : Option Addr} {L : List Ev} {N C g1 g2 k : Nat} (hx1 : w.heap[g1]? = some (.cells #[.slice P N C] 22 (0, 0))) (hx2 : w.heap[g2]? = some (.cells #[.int .i64 (k : Int)] 3 (0, 0))) (hL : LAt w P L) (hN : L.length = N) (hNC : N ≤ C) (hNM : N ≤ 5000) (hk : k < N) (hpx : ∀ x ∈ l, 0 ≤ x ∧ x < (N : Int)) :
    Calls Try.prog 47 #[.slice p n c, .func (.func 34) #[] #[.pointer (some ⟨g1, 0, none⟩), .pointer (some ⟨g2, 0, none⟩)]] w fun e w' => ∃ r : Int, e = .returned (.int .i64 r) ∧ decide (0 ≤ r) = l.any (fun x => kp L x k) ∧ Bel w w' := by
  have HL := Lib.hid hl
  have HN := Lib.hid hn
  have HX1 := Lib.hid hx1; have HX2 := Lib.hid hx2; have HLL := Lib.hid hL; have HNN := Lib.hid hN; have HNC := Lib.hid hNC; have HNM := Lib.hid hNM; have HKK := Lib.hid hk; have HPX := Lib.hid hpx; clear hx1 hx2 hL hN hNC hNM hk hpx
  clear hl hn
  go_enter Try.func47, Try.ntmps47
  go_wp2
  go_loopw [8] (fun i wr => ∃ j : Nat, j ≤ n ∧ i = .int .i64 j ∧ Hid (Bel w wr) ∧ Hid (∀ x ∈ l.take j, (kp L x k) = false)) (fun i _ => n - (intOf i).toNat)
  case atStart => exact ⟨0, Nat.zero_le _, rfl, Lib.hid (Bel.refl _), Lib.hid (fun x hx => by simp at hx)⟩
  case round =>
    obtain ⟨j, hj, rfl, HB, HNO⟩ := hrel
    by_cases hlt : j < n
    · obtain ⟨b, o, rfl, hb, hc⟩ := IAt.get (EncAt.bel HL.out HB.out) (i0 := j) (by have := HN.out; omega)
      have c0 := hc j (by have := HN.out; omega)
      have HXJ : Hid (l[j]? = some (l.getD j 0)) := Lib.hid (get_of (by have := HN.out; omega))
      generalize l.getD j 0 = x0 at c0 HXJ
      have hlt2 : (j : Int) < n := by omega
      have HTK : Hid (l.take (j + 1) = l.take j ++ [x0]) := Lib.hid (by rw [List.take_add_one, HXJ.out]; rfl)
      obtain ⟨s, hs⟩ : ∃ s, (kp L x0 k) = s := ⟨_, rfl⟩
      have HS := Lib.hid hs
      clear hc hb hs
      cases s
      · go_wp2_with (go_at_call 34; ((with_reducible refine (holds1_lit (HB.out.stays HX1.out) (HB.out.stays HX2.out) (LAt.bel HLL.out HB.out) HNN.out HNC.out HNM.out (HPX.out x0 (List.mem_of_getElem? HXJ.out)) HKK.out HS.out).mono ?_); rintro e w2 ⟨rfl, hbz⟩; have HBZ := Lib.hid hbz; clear hbz))
        exact ⟨⟨j + 1, by omega, by go_num, Lib.hid (HB.out.trans HBZ.out), Lib.hid (fun x hx => by
          rw [HTK.out] at hx
          rcases List.mem_append.1 hx with h | h
          · exact HNO.out x h
          · rw [List.mem_singleton.1 h]; exact HS.out)⟩, by simp [intOf]; omega⟩
      · go_wp2_with (go_at_call 34; ((with_reducible refine (holds1_lit (HB.out.stays HX1.out) (HB.out.stays HX2.out) (LAt.bel HLL.out HB.out) HNN.out HNC.out HNM.out (HPX.out x0 (List.mem_of_getElem? HXJ.out)) HKK.out HS.out).mono ?_); rintro e w2 ⟨rfl, hbz⟩; have HBZ := Lib.hid hbz; clear hbz))
        go_ret
        refine ⟨_, rfl, ?_, HB.out.trans HBZ.out⟩
        rw [decide_eq_true (by omega : (0 : Int) ≤ (j : Int))]
        symm
        exact List.any_eq_true.2 ⟨x0, List.mem_of_getElem? HXJ.out, HS.out⟩
    · obtain rfl : j = n := by omega
      go_wp2
      go_ret
      refine ⟨-1, rfl, ?_, HB.out⟩
      rw [decide_eq_false (by omega : ¬ (0 : Int) ≤ -1)]
      symm
      refine List.any_eq_false.2 fun x hx => ?_
      rw [HNO.out x (by rw [List.take_of_length_le (by have := HN.out; omega)]; exact hx)]
      exact Bool.false_ne_true
set_option maxRecDepth 100000 in
theorem holds1_contains {w : World} {p : Option Addr} {l : List Int} {n c : Nat} (hl : IAt w p l) (hn : l.length = n) (hmax : n ≤ 5000) {P : Option Addr} {L : List Ev} {N C g1 g2 k : Nat} (hx1 : w.heap[g1]? = some (.cells #[.slice P N C] 22 (0, 0))) (hx2 : w.heap[g2]? = some (.cells #[.int .i64 (k : Int)] 3 (0, 0))) (hL : LAt w P L) (hN : L.length = N) (hNC : N ≤ C) (hNM : N ≤ 5000) (hk : k < N) (hpx : ∀ x ∈ l, 0 ≤ x ∧ x < (N : Int)) {r : Bool} (hr : l.any (fun x => kp L x k) = r) :
    Calls Try.prog 35 #[.slice p n c, .func (.func 34) #[] #[.pointer (some ⟨g1, 0, none⟩), .pointer (some ⟨g2, 0, none⟩)]] w (OneB r w) := by
  have HC := Lib.hid (holds1_index (c := c) hl hn hmax hx1 hx2 hL hN hNC hNM hk hpx)
  have HR := Lib.hid hr
  clear hl hn hmax hr hx1 hx2 hL hN hNC hNM hk hpx
  go_enter Try.func35, Try.ntmps35
  go_wp2_with (go_at_call 47; ((with_reducible refine HC.out.mono ?_); rintro e w2 ⟨q, rfl, hq, hbz⟩; have HQ := Lib.hid hq; have HBZ := Lib.hid hbz; clear hq hbz))
  go_ret
  exact ⟨rb (by have := HQ.out; rw [HR.out] at this; exact this), HBZ.out⟩
set_option maxRecDepth 100000 in
set_option maxHeartbeats 2000000 in
theorem holds_lit {w : World} {p q : Option Addr} {l : List Ev} {o : List Int} {n c m d : Nat} (hl : LAt w p l) (hn : l.length = n) (hnc : n ≤ c) (hmax : n ≤ 5000) (ho : IAt w q o) (hm : o.length = m) (hmd : m ≤ d) (hmm : m ≤ 5000) {r : Bool} (hr : holdsB l o = r) : Calls Try.prog 19 #[.slice p n c, .slice q m d] w (OneB r w) := by
  obtain ⟨hb, hx1⟩ := box1 w #[.slice p n c] 22
  have HB := Lib.hid hb
  have HL := Lib.hid (LAt.bel hl hb)
  have HO := Lib.hid (IAt.bel ho hb)
  have HX1 := Lib.hid hx1
  have HN := Lib.hid hn
  have HNC := Lib.hid hnc
  have HMX := Lib.hid hmax
  have HM := Lib.hid hm
  have HMD := Lib.hid hmd
  have HMM := Lib.hid hmm
  have HR := Lib.hid hr
  obtain ⟨a, ha⟩ : ∃ a, right l = a := ⟨_, rfl⟩
  obtain ⟨e, he⟩ : ∃ e, ordB l o = e := ⟨_, rfl⟩
  have HA := Lib.hid ha
  have HE := Lib.hid he
  clear hl hn hnc ho hm hmd hr ha he hb hx1 hmax
  go_enter Try.func19, Try.ntmps19
  go_upto_region 1 with (fail)
  generalize hWW : w.alloc (.cells #[.slice p n c] 22) = W1 at *
  clear hWW
  generalize w.heap.size = g1 at HX1 ⊢
  have k1 := cell_of_heap HX1.out 0
  simp only [List.getElem?_toArray, List.getElem?_cons_zero] at k1
  cases a
  · obtain rfl : r = false := by rw [← HR.out]; unfold holdsB; rw [HA.out]; rfl
    go_wp2_with (go_at_call 21; ((with_reducible refine (right_lit HL.out HN.out HMX.out HA.out).mono ?_); rintro e w2 ⟨rfl, hbz⟩; have k1 := cell_of_heap (hbz.stays HX1.out) 0; simp only [List.getElem?_toArray, List.getElem?_cons_zero] at k1; have HB1 := Lib.hid hbz; clear hbz))
    go_ret
    exact ⟨rfl, HB.out.trans HB1.out⟩
  cases e
  · obtain rfl : r = false := by rw [← HR.out]; unfold holdsB; rw [HA.out, HE.out]; rfl
    go_wp2_with fail
    clear k1
    (go_at_call 21; ((with_reducible refine (right_lit HL.out HN.out HMX.out HA.out).mono ?_); rintro e w2 ⟨rfl, hbz⟩; have k1 := cell_of_heap (hbz.stays HX1.out) 0; simp only [List.getElem?_toArray, List.getElem?_cons_zero] at k1; have HB1 := Lib.hid hbz; clear hbz))
    go_wp2_with (go_at_call 26; ((with_reducible refine (ord_lit (LAt.bel HL.out HB1.out) HN.out HMX.out (IAt.bel HO.out HB1.out) HM.out HMD.out HMM.out HE.out).mono ?_); rintro e w3 ⟨rfl, hbz⟩; have HB2 := Lib.hid (HB1.out.trans hbz); clear hbz))
    go_ret
    exact ⟨rfl, HB.out.trans HB2.out⟩
  have HOR := Lib.hid (ord_iff.1 HE.out)
  have HP : Hid (∀ x ∈ o, 0 ≤ x ∧ x < (n : Int)) := Lib.hid (fun x hx => by
    have := plc_acc ((ord_ordr.1 HOR.out).plc x hx)
    have := HN.out
    omega)
  go_wp2_with fail
  clear k1
  (go_at_call 21; ((with_reducible refine (right_lit HL.out HN.out HMX.out HA.out).mono ?_); rintro e w2 ⟨rfl, hbz⟩; have k1 := cell_of_heap (hbz.stays HX1.out) 0; simp only [List.getElem?_toArray, List.getElem?_cons_zero] at k1; have HB1 := Lib.hid hbz; clear hbz))
  go_wp2_with (go_at_call 26; ((with_reducible refine (ord_lit (LAt.bel HL.out HB1.out) HN.out HMX.out (IAt.bel HO.out HB1.out) HM.out HMD.out HMM.out HE.out).mono ?_); rintro e w3 ⟨rfl, hbz⟩; have HB2 := Lib.hid (HB1.out.trans hbz); clear hbz))
  clear k1
  have HX1 := Lib.hid (HB2.out.stays HX1.out)
  have HL := Lib.hid (LAt.bel HL.out HB2.out)
  have HO := Lib.hid (IAt.bel HO.out HB2.out)
  have HB := Lib.hid (HB.out.trans HB2.out)
  go_loopw [19] (fun i wr => ∃ j : Nat, j ≤ m ∧ i = .int .i64 j ∧ Hid (Bel w3 wr) ∧ Hid (∀ (t : Nat) (k : Int), t < j → o[t]? = some k → (∀ i ∈ o.drop t, kp l i k = false) ∧ ((ev l k).2.1 = 1 → (ev l k).2.2.2 = val l o k))) (fun i _ => m - (intOf i).toNat)
  case atStart => exact ⟨0, Nat.zero_le _, rfl, Lib.hid (Bel.refl _), Lib.hid (fun k x hk => by omega)⟩
  case round =>
    obtain ⟨j, hj, rfl, HW, HH⟩ := hrel
    by_cases hlt : j < m
    · obtain ⟨bo, off, rfl, hb, hc⟩ := IAt.get (EncAt.bel HO.out HW.out) (i0 := j) (by have := HM.out; omega)
      have o0 := hc j (by have := HM.out; omega)
      have HXJ : Hid (o[j]? = some (o.getD j 0)) := Lib.hid (get_of (by have := HM.out; omega))
      generalize o.getD j 0 = x at o0 HXJ
      obtain ⟨hx0, hx1⟩ := HP.out x (List.mem_of_getElem? HXJ.out)
      obtain ⟨k, rfl⟩ : ∃ k : Nat, x = k := ⟨x.toNat, by omega⟩
      have HK : Hid (k < n) := Lib.hid (by omega)
      have hlt2 : (j : Int) < m := by omega
      have hjd : (j : Int) ≤ d := by have := HMD.out; omega
      have hjm : (j : Int) ≤ m := by omega
      have hjf : (d = j) = False := eq_false (by have := HMD.out; omega)
      obtain ⟨s, hs⟩ : ∃ s, (o.drop j).any (fun x => kp l x k) = s := ⟨_, rfl⟩
      have HS := Lib.hid hs
      have HS1 : Hid ((o.drop j).length = m - j) := Lib.hid (by rw [List.length_drop, HM.out])
      have HS2 : Hid (m - j ≤ 5000) := Lib.hid (by have := HMM.out; omega)
      have HPX : Hid (∀ x ∈ o.drop j, 0 ≤ x ∧ x < (n : Int)) := Lib.hid (fun x hx => HP.out x (List.mem_of_mem_drop hx))
      clear hc hs hx0 hx1
      obtain ⟨hbk, hx6⟩ := box1 wr #[.int .i64 (k : Int)] 3
      have HBK := Lib.hid (HW.out.trans hbk)
      have HX6 := Lib.hid hx6
      clear hbk hx6 hb
      go_upto_region 7 with (fail)
      generalize hWW : wr.alloc (.cells #[.int .i64 (k : Int)] 3) = W5 at HBK HX6 ⊢
      clear hWW o0
      generalize wr.heap.size = g6 at HX6 ⊢
      go_wp2_with fail
      refine (holds1_contains (EncAt.drop1 (IAt.bel HO.out HBK.out) j) HS1.out HS2.out (HBK.out.stays HX1.out) HX6.out (LAt.bel HL.out HBK.out) HN.out HNC.out HMX.out HK.out HPX.out HS.out).mono ?_
      rintro e w6 ⟨rfl, hbz⟩
      have HBK := Lib.hid (HBK.out.trans hbz)
      have HX6 := Lib.hid (hbz.stays HX6.out)
      clear hbz
      cases s
      · have HLL := Lib.hid (LAt.bel HL.out HBK.out)
        have HOO := Lib.hid (IAt.bel HO.out HBK.out)
        have HNO : Hid (∀ i ∈ o.drop j, kp l i k = false) := Lib.hid (fun i hi => by
          have := List.any_eq_false.1 HS.out i hi
          exact Bool.eq_false_iff.2 this)
        obtain ⟨b, ol, rfl, hbl, hcl⟩ := LAt.get HLL.out (i0 := k) (by have := HN.out; have := HK.out; omega)
        obtain ⟨-, c1, -, c3⟩ := hcl k (by have := HN.out; have := HK.out; omega)
        obtain ⟨v, hv⟩ : ∃ v, val l o k = v := ⟨_, rfl⟩
        have HV := Lib.hid hv
        have HNX : Hid (((ev l k).2.1 = 1 → (ev l k).2.2.2 = v) → ∀ (t : Nat) (x : Int), t < j + 1 → o[t]? = some x → (∀ i ∈ o.drop t, kp l i x = false) ∧ ((ev l x).2.1 = 1 → (ev l x).2.2.2 = val l o x)) := Lib.hid (fun h t x ht hx => by
          by_cases he : t = j
          · subst he
            rw [HXJ.out] at hx
            cases hx
            exact ⟨HNO.out, fun hl => by rw [h hl, HV.out]⟩
          · exact HH.out t x (by omega) hx)
        have HNF : Hid (((ev l k).2.1 = 1 ∧ (ev l k).2.2.2 ≠ v) → r = false) := Lib.hid (fun h => by
          rw [← HR.out]
          refine Bool.eq_false_iff.2 fun c => ?_
          have := ((holds_iff.1 c).2.2 j k HXJ.out).2 h.1
          rw [HV.out] at this
          exact h.2 this)
        generalize (ev l k).2.1 = x1 at c1 HNX HNF
        generalize (ev l k).2.2.2 = x3 at c3 HNX HNF
        have HC1 := Lib.hid c1
        have HC3 := Lib.hid c3
        have HLT := Lib.hid hbl
        have HX1 := Lib.hid (HBK.out.stays HX1.out)
        have hk2 : (k : Int) < n := by have := HK.out; omega
        clear c1 c3 hcl hbl hv
        have HKEEP : Hid (∀ w', Bel w6 w' → w'.cell? ⟨g1, 0, none⟩ = some (.slice (some ⟨b, ol, none⟩) n c) ∧ w'.cell? ⟨g6, 0, none⟩ = some (.int .i64 (k : Int)) ∧ w'.cell? ⟨b, ol + k * 4 + 1, none⟩ = some (.int .i64 x1) ∧ w'.cell? ⟨b, ol + k * 4 + 3, none⟩ = some (.int .i64 x3)) := Lib.hid (fun w' h => ⟨cell_of_heap (h.stays HX1.out) 0, cell_of_heap (h.stays HX6.out) 0, (h.cell (p := ⟨b, _, none⟩) HLT.out).trans HC1.out, (h.cell (p := ⟨b, _, none⟩) HLT.out).trans HC3.out⟩)
        have HBC : Hid (Bel w6 w6.drew) := Lib.hid (Bel.refl w6).drew
        by_cases hy : x1 = 1
        · have ey : (x1 == 1) = true := by simp [hy]
          by_cases hw : x3 = v
          · have ew : (x3 != v) = false := by simp [hw]
            have HG := Lib.hid (HNX.out fun _ => hw)
            clear hy hw
            go_upto_region 9 with (fail)
            refine wp_region_held_drew (S := (fun w' => w'.cell? ⟨g1, 0, none⟩ = some (.slice (some ⟨b, ol, none⟩) n c) ∧ w'.cell? ⟨g6, 0, none⟩ = some (.int .i64 (k : Int)) ∧ w'.cell? ⟨b, ol + k * 4 + 1, none⟩ = some (.int .i64 x1) ∧ w'.cell? ⟨b, ol + k * 4 + 3, none⟩ = some (.int .i64 x3))) (by kernel_rfl) (HKEEP.out _ ((Bel.refl w6).drew)) (fun hS0 => ?_)
            refine takeD 30 (i := 0) (v := ?v1) rfl rfl (by kernel_rfl) (by kernel_rfl) (by kernel_rfl) (fun _ _ _ h => h) (by kernel_rfl) ?hy1 hS0 ?rest1
            case hy1 => (intro w0 hSw; obtain ⟨s0, s1, s2, s3⟩ := hSw; first | (go_simp; done) | (go_simp; with_reducible rfl))
            simp only [List.setIfInBounds_toArray, List.set_cons_zero, List.set_cons_succ]
            refine takeD 31 (i := 1) (v := ?v2) rfl rfl (by kernel_rfl) (by kernel_rfl) (by kernel_rfl) (fun _ _ _ h => h) (by kernel_rfl) ?hy2 hS0 ?rest2
            case hy2 => (intro w0 hSw; obtain ⟨s0, s1, s2, s3⟩ := hSw; first | (go_simp; done) | (go_simp; with_reducible rfl))
            simp only [List.setIfInBounds_toArray, List.set_cons_zero, List.set_cons_succ]
            refine takeD 32 (i := 2) (v := ?v3) rfl rfl (by kernel_rfl) (by kernel_rfl) (by kernel_rfl) (fun _ _ _ h => h) (by kernel_rfl) ?hy3 hS0 ?rest3
            case hy3 => (intro w0 hSw; obtain ⟨s0, s1, s2, s3⟩ := hSw; first | (go_simp; done) | (go_simp; with_reducible rfl))
            simp only [List.setIfInBounds_toArray, List.set_cons_zero, List.set_cons_succ]
            refine takeD 33 (i := 3) (v := ?v4) rfl rfl (by kernel_rfl) (by kernel_rfl) (by kernel_rfl) (fun _ _ _ h => h) (by kernel_rfl) ?hy4 hS0 ?rest4
            case hy4 => (intro w0 hSw; obtain ⟨s0, s1, s2, s3⟩ := hSw; first | (go_simp; done) | (go_simp; with_reducible rfl))
            simp only [List.setIfInBounds_toArray, List.set_cons_zero, List.set_cons_succ]
            refine takeD 34 (i := 4) (v := ?v5) rfl rfl (by kernel_rfl) (by kernel_rfl) (by kernel_rfl) (fun _ _ _ h => h) (by kernel_rfl) ?hy5 hS0 ?rest5
            case hy5 => (intro w0 hSw; obtain ⟨s0, s1, s2, s3⟩ := hSw; first | (go_simp; done) | (go_simp; with_reducible rfl))
            simp only [List.setIfInBounds_toArray, List.set_cons_zero, List.set_cons_succ]
            refine takeD 35 (i := 5) (v := ?v6) rfl rfl (by kernel_rfl) (by kernel_rfl) (by kernel_rfl) (fun _ _ _ h => h) (by kernel_rfl) ?hy6 hS0 ?rest6
            case hy6 => (intro w0 hSw; obtain ⟨s0, s1, s2, s3⟩ := hSw; first | (go_simp; done) | (go_simp; with_reducible rfl))
            simp only [List.setIfInBounds_toArray, List.set_cons_zero, List.set_cons_succ]
            refine takeD 36 (i := 6) (v := ?v7) rfl rfl (by kernel_rfl) (by kernel_rfl) (by kernel_rfl) (fun _ _ _ h => h) (by kernel_rfl) ?hy7 hS0 ?rest7
            case hy7 => (intro w0 hSw; obtain ⟨s0, s1, s2, s3⟩ := hSw; first | (go_simp; done) | (go_simp; with_reducible rfl))
            simp only [List.setIfInBounds_toArray, List.set_cons_zero, List.set_cons_succ]
            refine takeD 37 (i := 7) (v := ?v8) rfl rfl (by kernel_rfl) (by kernel_rfl) (by kernel_rfl) (fun _ _ _ h => h) (by kernel_rfl) ?hy8 hS0 ?rest8
            case hy8 => (intro w0 hSw; obtain ⟨s0, s1, s2, s3⟩ := hSw; first | (go_simp; done) | (go_simp; with_reducible rfl))
            simp only [List.setIfInBounds_toArray, List.set_cons_zero, List.set_cons_succ]
            refine takeD 38 (i := 8) (v := ?v9) rfl rfl (by kernel_rfl) (by kernel_rfl) (by kernel_rfl) (fun _ _ _ h => h) (by kernel_rfl) ?hy9 hS0 ?rest9
            case hy9 => (intro w0 hSw; obtain ⟨s0, s1, s2, s3⟩ := hSw; first | (go_simp; done) | (go_simp; with_reducible rfl))
            simp only [List.setIfInBounds_toArray, List.set_cons_zero, List.set_cons_succ]
            refine takeD 39 (i := 9) (v := ?v10) rfl rfl (by kernel_rfl) (by kernel_rfl) (by kernel_rfl) (fun _ _ _ h => h) (by kernel_rfl) ?hy10 hS0 ?rest10
            case hy10 => (intro w0 hSw; obtain ⟨s0, s1, s2, s3⟩ := hSw; first | (go_simp; done) | (go_simp; with_reducible rfl))
            simp only [List.setIfInBounds_toArray, List.set_cons_zero, List.set_cons_succ]
            refine takeD 40 (i := 10) (v := ?v11) rfl rfl (by kernel_rfl) (by kernel_rfl) (by kernel_rfl) (fun _ _ _ h => h) (by kernel_rfl) ?hy11 hS0 ?rest11
            case hy11 => (intro w0 hSw; obtain ⟨s0, s1, s2, s3⟩ := hSw; first | (go_simp; done) | (go_simp; with_reducible rfl))
            simp only [List.setIfInBounds_toArray, List.set_cons_zero, List.set_cons_succ]
            refine takeD 41 (i := 11) (v := ?v12) rfl rfl (by kernel_rfl) (by kernel_rfl) (by kernel_rfl) (fun _ _ _ h => h) (by kernel_rfl) ?hy12 hS0 ?rest12
            case hy12 => (intro w0 hSw; obtain ⟨s0, s1, s2, s3⟩ := hSw; first | (go_simp; done) | (go_simp; with_reducible rfl))
            simp only [List.setIfInBounds_toArray, List.set_cons_zero, List.set_cons_succ]
            refine takeD 42 (i := 12) (v := ?v13) rfl rfl (by kernel_rfl) (by kernel_rfl) (by kernel_rfl) (fun _ _ _ h => h) (by kernel_rfl) ?hy13 hS0 ?rest13
            case hy13 => (intro w0 hSw; obtain ⟨s0, s1, s2, s3⟩ := hSw; first | (go_simp; done) | (go_simp; with_reducible rfl))
            simp only [List.setIfInBounds_toArray, List.set_cons_zero, List.set_cons_succ]
            refine takeD 43 (i := 13) (v := ?v14) rfl rfl (by kernel_rfl) (by kernel_rfl) (by kernel_rfl) (fun _ _ _ h => h) (by kernel_rfl) ?hy14 hS0 ?rest14
            case hy14 => (intro w0 hSw; obtain ⟨s0, s1, s2, s3⟩ := hSw; first | (go_simp; done) | (go_simp; with_reducible rfl))
            simp only [List.setIfInBounds_toArray, List.set_cons_zero, List.set_cons_succ]
            refine takeD 44 (i := 14) (v := ?v15) rfl rfl (by kernel_rfl) (by kernel_rfl) (by kernel_rfl) (fun _ _ _ h => h) (by kernel_rfl) ?hy15 hS0 ?rest15
            case hy15 => (intro w0 hSw; obtain ⟨s0, s1, s2, s3⟩ := hSw; first | (go_simp; done) | (go_simp; with_reducible rfl))
            simp only [List.setIfInBounds_toArray, List.set_cons_zero, List.set_cons_succ]
            refine onlyD 45 (i := 15) rfl rfl (by kernel_rfl) (by kernel_rfl) (fun K hK => ?_)
            go_simp
            go_at_call 28
            refine (value_lit (LAt.bel HLL.out ((Bel.refl w6).drew)) HN.out HMX.out (IAt.bel HOO.out ((Bel.refl w6).drew)) HM.out HMM.out HP.out HK.out HV.out).mono ?_
            rintro e whb11 ⟨rfl, hb11⟩
            have hS1 := HKEEP.out _ (((Bel.refl w6).drew).trans hb11)
            refine hK.out _ _ hS1 (fun _ => ?_)
            clear hK K
            simp only [List.setIfInBounds_toArray, List.set_cons_zero, List.set_cons_succ]
            refine takeD 46 (i := 16) (v := ?v16) rfl rfl (by kernel_rfl) (by kernel_rfl) (by kernel_rfl) (fun _ _ _ h => h) (by kernel_rfl) ?hy16 hS1 ?rest16
            case hy16 => (intro w0 hSw; obtain ⟨s0, s1, s2, s3⟩ := hSw; first | (go_simp; done) | (go_simp; with_reducible rfl))
            simp only [List.setIfInBounds_toArray, List.set_cons_zero, List.set_cons_succ]
            refine takeD 47 (i := 17) (v := ?v17) rfl rfl (by kernel_rfl) (by kernel_rfl) (by kernel_rfl) (fun _ _ _ h => h) (by kernel_rfl) ?hy17 hS1 ?rest17
            case hy17 => (intro w0 hSw; obtain ⟨s0, s1, s2, s3⟩ := hSw; first | (go_simp; done) | (go_simp; with_reducible rfl))
            simp only [List.setIfInBounds_toArray, List.set_cons_zero, List.set_cons_succ]
            refine wpAnyH_done (by kernel_rfl) ?_ _
            have HBC := Lib.hid (((Bel.refl w6).drew).trans hb11)
            clear hb11 hS0 hS1
            go_wp2
            exact ⟨⟨j + 1, by omega, by go_num, Lib.hid (HBK.out.trans HBC.out), HG⟩, by simp [intOf]; omega⟩
          · have ew : (x3 != v) = true := by simp [hw]
            obtain rfl := HNF.out ⟨hy, hw⟩
            clear hy hw
            go_upto_region 9 with (fail)
            refine wp_region_held_drew (S := (fun w' => w'.cell? ⟨g1, 0, none⟩ = some (.slice (some ⟨b, ol, none⟩) n c) ∧ w'.cell? ⟨g6, 0, none⟩ = some (.int .i64 (k : Int)) ∧ w'.cell? ⟨b, ol + k * 4 + 1, none⟩ = some (.int .i64 x1) ∧ w'.cell? ⟨b, ol + k * 4 + 3, none⟩ = some (.int .i64 x3))) (by kernel_rfl) (HKEEP.out _ ((Bel.refl w6).drew)) (fun hS0 => ?_)
            refine takeD 30 (i := 0) (v := ?v18) rfl rfl (by kernel_rfl) (by kernel_rfl) (by kernel_rfl) (fun _ _ _ h => h) (by kernel_rfl) ?hy18 hS0 ?rest18
            case hy18 => (intro w0 hSw; obtain ⟨s0, s1, s2, s3⟩ := hSw; first | (go_simp; done) | (go_simp; with_reducible rfl))
            simp only [List.setIfInBounds_toArray, List.set_cons_zero, List.set_cons_succ]
            refine takeD 31 (i := 1) (v := ?v19) rfl rfl (by kernel_rfl) (by kernel_rfl) (by kernel_rfl) (fun _ _ _ h => h) (by kernel_rfl) ?hy19 hS0 ?rest19
            case hy19 => (intro w0 hSw; obtain ⟨s0, s1, s2, s3⟩ := hSw; first | (go_simp; done) | (go_simp; with_reducible rfl))
            simp only [List.setIfInBounds_toArray, List.set_cons_zero, List.set_cons_succ]
            refine takeD 32 (i := 2) (v := ?v20) rfl rfl (by kernel_rfl) (by kernel_rfl) (by kernel_rfl) (fun _ _ _ h => h) (by kernel_rfl) ?hy20 hS0 ?rest20
            case hy20 => (intro w0 hSw; obtain ⟨s0, s1, s2, s3⟩ := hSw; first | (go_simp; done) | (go_simp; with_reducible rfl))
            simp only [List.setIfInBounds_toArray, List.set_cons_zero, List.set_cons_succ]
            refine takeD 33 (i := 3) (v := ?v21) rfl rfl (by kernel_rfl) (by kernel_rfl) (by kernel_rfl) (fun _ _ _ h => h) (by kernel_rfl) ?hy21 hS0 ?rest21
            case hy21 => (intro w0 hSw; obtain ⟨s0, s1, s2, s3⟩ := hSw; first | (go_simp; done) | (go_simp; with_reducible rfl))
            simp only [List.setIfInBounds_toArray, List.set_cons_zero, List.set_cons_succ]
            refine takeD 34 (i := 4) (v := ?v22) rfl rfl (by kernel_rfl) (by kernel_rfl) (by kernel_rfl) (fun _ _ _ h => h) (by kernel_rfl) ?hy22 hS0 ?rest22
            case hy22 => (intro w0 hSw; obtain ⟨s0, s1, s2, s3⟩ := hSw; first | (go_simp; done) | (go_simp; with_reducible rfl))
            simp only [List.setIfInBounds_toArray, List.set_cons_zero, List.set_cons_succ]
            refine takeD 35 (i := 5) (v := ?v23) rfl rfl (by kernel_rfl) (by kernel_rfl) (by kernel_rfl) (fun _ _ _ h => h) (by kernel_rfl) ?hy23 hS0 ?rest23
            case hy23 => (intro w0 hSw; obtain ⟨s0, s1, s2, s3⟩ := hSw; first | (go_simp; done) | (go_simp; with_reducible rfl))
            simp only [List.setIfInBounds_toArray, List.set_cons_zero, List.set_cons_succ]
            refine takeD 36 (i := 6) (v := ?v24) rfl rfl (by kernel_rfl) (by kernel_rfl) (by kernel_rfl) (fun _ _ _ h => h) (by kernel_rfl) ?hy24 hS0 ?rest24
            case hy24 => (intro w0 hSw; obtain ⟨s0, s1, s2, s3⟩ := hSw; first | (go_simp; done) | (go_simp; with_reducible rfl))
            simp only [List.setIfInBounds_toArray, List.set_cons_zero, List.set_cons_succ]
            refine takeD 37 (i := 7) (v := ?v25) rfl rfl (by kernel_rfl) (by kernel_rfl) (by kernel_rfl) (fun _ _ _ h => h) (by kernel_rfl) ?hy25 hS0 ?rest25
            case hy25 => (intro w0 hSw; obtain ⟨s0, s1, s2, s3⟩ := hSw; first | (go_simp; done) | (go_simp; with_reducible rfl))
            simp only [List.setIfInBounds_toArray, List.set_cons_zero, List.set_cons_succ]
            refine takeD 38 (i := 8) (v := ?v26) rfl rfl (by kernel_rfl) (by kernel_rfl) (by kernel_rfl) (fun _ _ _ h => h) (by kernel_rfl) ?hy26 hS0 ?rest26
            case hy26 => (intro w0 hSw; obtain ⟨s0, s1, s2, s3⟩ := hSw; first | (go_simp; done) | (go_simp; with_reducible rfl))
            simp only [List.setIfInBounds_toArray, List.set_cons_zero, List.set_cons_succ]
            refine takeD 39 (i := 9) (v := ?v27) rfl rfl (by kernel_rfl) (by kernel_rfl) (by kernel_rfl) (fun _ _ _ h => h) (by kernel_rfl) ?hy27 hS0 ?rest27
            case hy27 => (intro w0 hSw; obtain ⟨s0, s1, s2, s3⟩ := hSw; first | (go_simp; done) | (go_simp; with_reducible rfl))
            simp only [List.setIfInBounds_toArray, List.set_cons_zero, List.set_cons_succ]
            refine takeD 40 (i := 10) (v := ?v28) rfl rfl (by kernel_rfl) (by kernel_rfl) (by kernel_rfl) (fun _ _ _ h => h) (by kernel_rfl) ?hy28 hS0 ?rest28
            case hy28 => (intro w0 hSw; obtain ⟨s0, s1, s2, s3⟩ := hSw; first | (go_simp; done) | (go_simp; with_reducible rfl))
            simp only [List.setIfInBounds_toArray, List.set_cons_zero, List.set_cons_succ]
            refine takeD 41 (i := 11) (v := ?v29) rfl rfl (by kernel_rfl) (by kernel_rfl) (by kernel_rfl) (fun _ _ _ h => h) (by kernel_rfl) ?hy29 hS0 ?rest29
            case hy29 => (intro w0 hSw; obtain ⟨s0, s1, s2, s3⟩ := hSw; first | (go_simp; done) | (go_simp; with_reducible rfl))
            simp only [List.setIfInBounds_toArray, List.set_cons_zero, List.set_cons_succ]
            refine takeD 42 (i := 12) (v := ?v30) rfl rfl (by kernel_rfl) (by kernel_rfl) (by kernel_rfl) (fun _ _ _ h => h) (by kernel_rfl) ?hy30 hS0 ?rest30
            case hy30 => (intro w0 hSw; obtain ⟨s0, s1, s2, s3⟩ := hSw; first | (go_simp; done) | (go_simp; with_reducible rfl))
            simp only [List.setIfInBounds_toArray, List.set_cons_zero, List.set_cons_succ]
            refine takeD 43 (i := 13) (v := ?v31) rfl rfl (by kernel_rfl) (by kernel_rfl) (by kernel_rfl) (fun _ _ _ h => h) (by kernel_rfl) ?hy31 hS0 ?rest31
            case hy31 => (intro w0 hSw; obtain ⟨s0, s1, s2, s3⟩ := hSw; first | (go_simp; done) | (go_simp; with_reducible rfl))
            simp only [List.setIfInBounds_toArray, List.set_cons_zero, List.set_cons_succ]
            refine takeD 44 (i := 14) (v := ?v32) rfl rfl (by kernel_rfl) (by kernel_rfl) (by kernel_rfl) (fun _ _ _ h => h) (by kernel_rfl) ?hy32 hS0 ?rest32
            case hy32 => (intro w0 hSw; obtain ⟨s0, s1, s2, s3⟩ := hSw; first | (go_simp; done) | (go_simp; with_reducible rfl))
            simp only [List.setIfInBounds_toArray, List.set_cons_zero, List.set_cons_succ]
            refine onlyD 45 (i := 15) rfl rfl (by kernel_rfl) (by kernel_rfl) (fun K hK => ?_)
            go_simp
            go_at_call 28
            refine (value_lit (LAt.bel HLL.out ((Bel.refl w6).drew)) HN.out HMX.out (IAt.bel HOO.out ((Bel.refl w6).drew)) HM.out HMM.out HP.out HK.out HV.out).mono ?_
            rintro e whb11 ⟨rfl, hb11⟩
            have hS1 := HKEEP.out _ (((Bel.refl w6).drew).trans hb11)
            refine hK.out _ _ hS1 (fun _ => ?_)
            clear hK K
            simp only [List.setIfInBounds_toArray, List.set_cons_zero, List.set_cons_succ]
            refine takeD 46 (i := 16) (v := ?v33) rfl rfl (by kernel_rfl) (by kernel_rfl) (by kernel_rfl) (fun _ _ _ h => h) (by kernel_rfl) ?hy33 hS1 ?rest33
            case hy33 => (intro w0 hSw; obtain ⟨s0, s1, s2, s3⟩ := hSw; first | (go_simp; done) | (go_simp; with_reducible rfl))
            simp only [List.setIfInBounds_toArray, List.set_cons_zero, List.set_cons_succ]
            refine takeD 47 (i := 17) (v := ?v34) rfl rfl (by kernel_rfl) (by kernel_rfl) (by kernel_rfl) (fun _ _ _ h => h) (by kernel_rfl) ?hy34 hS1 ?rest34
            case hy34 => (intro w0 hSw; obtain ⟨s0, s1, s2, s3⟩ := hSw; first | (go_simp; done) | (go_simp; with_reducible rfl))
            simp only [List.setIfInBounds_toArray, List.set_cons_zero, List.set_cons_succ]
            refine wpAnyH_done (by kernel_rfl) ?_ _
            have HBC := Lib.hid (((Bel.refl w6).drew).trans hb11)
            clear hb11 hS0 hS1
            go_wp2
            go_ret
            exact ⟨rfl, HB.out.trans (HBK.out.trans HBC.out)⟩
        · have ey : (x1 == 1) = false := by simp [hy]
          have HG := Lib.hid (HNX.out fun c => absurd c hy)
          clear hy
          go_upto_region 9 with (fail)
          refine wp_region_held_drew (S := (fun w' => w'.cell? ⟨g1, 0, none⟩ = some (.slice (some ⟨b, ol, none⟩) n c) ∧ w'.cell? ⟨g6, 0, none⟩ = some (.int .i64 (k : Int)) ∧ w'.cell? ⟨b, ol + k * 4 + 1, none⟩ = some (.int .i64 x1) ∧ w'.cell? ⟨b, ol + k * 4 + 3, none⟩ = some (.int .i64 x3))) (by kernel_rfl) (HKEEP.out _ ((Bel.refl w6).drew)) (fun hS0 => ?_)
          refine takeD 30 (i := 0) (v := ?v35) rfl rfl (by kernel_rfl) (by kernel_rfl) (by kernel_rfl) (fun _ _ _ h => h) (by kernel_rfl) ?hy35 hS0 ?rest35
          case hy35 => (intro w0 hSw; obtain ⟨s0, s1, s2, s3⟩ := hSw; first | (go_simp; done) | (go_simp; with_reducible rfl))
          simp only [List.setIfInBounds_toArray, List.set_cons_zero, List.set_cons_succ]
          refine takeD 31 (i := 1) (v := ?v36) rfl rfl (by kernel_rfl) (by kernel_rfl) (by kernel_rfl) (fun _ _ _ h => h) (by kernel_rfl) ?hy36 hS0 ?rest36
          case hy36 => (intro w0 hSw; obtain ⟨s0, s1, s2, s3⟩ := hSw; first | (go_simp; done) | (go_simp; with_reducible rfl))
          simp only [List.setIfInBounds_toArray, List.set_cons_zero, List.set_cons_succ]
          refine takeD 32 (i := 2) (v := ?v37) rfl rfl (by kernel_rfl) (by kernel_rfl) (by kernel_rfl) (fun _ _ _ h => h) (by kernel_rfl) ?hy37 hS0 ?rest37
          case hy37 => (intro w0 hSw; obtain ⟨s0, s1, s2, s3⟩ := hSw; first | (go_simp; done) | (go_simp; with_reducible rfl))
          simp only [List.setIfInBounds_toArray, List.set_cons_zero, List.set_cons_succ]
          refine takeD 33 (i := 3) (v := ?v38) rfl rfl (by kernel_rfl) (by kernel_rfl) (by kernel_rfl) (fun _ _ _ h => h) (by kernel_rfl) ?hy38 hS0 ?rest38
          case hy38 => (intro w0 hSw; obtain ⟨s0, s1, s2, s3⟩ := hSw; first | (go_simp; done) | (go_simp; with_reducible rfl))
          simp only [List.setIfInBounds_toArray, List.set_cons_zero, List.set_cons_succ]
          refine takeD 34 (i := 4) (v := ?v39) rfl rfl (by kernel_rfl) (by kernel_rfl) (by kernel_rfl) (fun _ _ _ h => h) (by kernel_rfl) ?hy39 hS0 ?rest39
          case hy39 => (intro w0 hSw; obtain ⟨s0, s1, s2, s3⟩ := hSw; first | (go_simp; done) | (go_simp; with_reducible rfl))
          simp only [List.setIfInBounds_toArray, List.set_cons_zero, List.set_cons_succ]
          refine takeD 35 (i := 5) (v := ?v40) rfl rfl (by kernel_rfl) (by kernel_rfl) (by kernel_rfl) (fun _ _ _ h => h) (by kernel_rfl) ?hy40 hS0 ?rest40
          case hy40 => (intro w0 hSw; obtain ⟨s0, s1, s2, s3⟩ := hSw; first | (go_simp; done) | (go_simp; with_reducible rfl))
          simp only [List.setIfInBounds_toArray, List.set_cons_zero, List.set_cons_succ]
          refine takeD 36 (i := 6) (v := ?v41) rfl rfl (by kernel_rfl) (by kernel_rfl) (by kernel_rfl) (fun _ _ _ h => h) (by kernel_rfl) ?hy41 hS0 ?rest41
          case hy41 => (intro w0 hSw; obtain ⟨s0, s1, s2, s3⟩ := hSw; first | (go_simp; done) | (go_simp; with_reducible rfl))
          simp only [List.setIfInBounds_toArray, List.set_cons_zero, List.set_cons_succ]
          refine skipD 37 (i := 7) rfl rfl (by kernel_rfl) (by kernel_rfl) (by kernel_rfl) (fun _ _ _ h => h) (by kernel_rfl) hS0 ?_
          simp only [List.setIfInBounds_toArray, List.set_cons_zero, List.set_cons_succ]
          refine skipD 38 (i := 8) rfl rfl (by kernel_rfl) (by kernel_rfl) (by kernel_rfl) (fun _ _ _ h => h) (by kernel_rfl) hS0 ?_
          simp only [List.setIfInBounds_toArray, List.set_cons_zero, List.set_cons_succ]
          refine skipD 39 (i := 9) rfl rfl (by kernel_rfl) (by kernel_rfl) (by kernel_rfl) (fun _ _ _ h => h) (by kernel_rfl) hS0 ?_
          simp only [List.setIfInBounds_toArray, List.set_cons_zero, List.set_cons_succ]
          refine skipD 40 (i := 10) rfl rfl (by kernel_rfl) (by kernel_rfl) (by kernel_rfl) (fun _ _ _ h => h) (by kernel_rfl) hS0 ?_
          simp only [List.setIfInBounds_toArray, List.set_cons_zero, List.set_cons_succ]
          refine skipD 41 (i := 11) rfl rfl (by kernel_rfl) (by kernel_rfl) (by kernel_rfl) (fun _ _ _ h => h) (by kernel_rfl) hS0 ?_
          simp only [List.setIfInBounds_toArray, List.set_cons_zero, List.set_cons_succ]
          refine skipD 42 (i := 12) rfl rfl (by kernel_rfl) (by kernel_rfl) (by kernel_rfl) (fun _ _ _ h => h) (by kernel_rfl) hS0 ?_
          simp only [List.setIfInBounds_toArray, List.set_cons_zero, List.set_cons_succ]
          refine skipD 43 (i := 13) rfl rfl (by kernel_rfl) (by kernel_rfl) (by kernel_rfl) (fun _ _ _ h => h) (by kernel_rfl) hS0 ?_
          simp only [List.setIfInBounds_toArray, List.set_cons_zero, List.set_cons_succ]
          refine skipD 44 (i := 14) rfl rfl (by kernel_rfl) (by kernel_rfl) (by kernel_rfl) (fun _ _ _ h => h) (by kernel_rfl) hS0 ?_
          simp only [List.setIfInBounds_toArray, List.set_cons_zero, List.set_cons_succ]
          refine skipD 45 (i := 15) rfl rfl (by kernel_rfl) (by kernel_rfl) (by kernel_rfl) (fun _ _ _ h => h) (by kernel_rfl) hS0 ?_
          simp only [List.setIfInBounds_toArray, List.set_cons_zero, List.set_cons_succ]
          refine skipD 46 (i := 16) rfl rfl (by kernel_rfl) (by kernel_rfl) (by kernel_rfl) (fun _ _ _ h => h) (by kernel_rfl) hS0 ?_
          simp only [List.setIfInBounds_toArray, List.set_cons_zero, List.set_cons_succ]
          refine takeD 47 (i := 17) (v := ?v42) rfl rfl (by kernel_rfl) (by kernel_rfl) (by kernel_rfl) (fun _ _ _ h => h) (by kernel_rfl) ?hy42 hS0 ?rest42
          case hy42 => (intro w0 hSw; obtain ⟨s0, s1, s2, s3⟩ := hSw; first | (go_simp; done) | (go_simp; with_reducible rfl))
          simp only [List.setIfInBounds_toArray, List.set_cons_zero, List.set_cons_succ]
          refine wpAnyH_done (by kernel_rfl) ?_ _
          have HBC := Lib.hid ((Bel.refl w6).drew)
          clear hS0
          go_wp2
          exact ⟨⟨j + 1, by omega, by go_num, Lib.hid (HBK.out.trans HBC.out), HG⟩, by simp [intOf]; omega⟩
      · obtain rfl : r = false := by
          rw [← HR.out]
          refine Bool.eq_false_iff.2 fun c => ?_
          obtain ⟨y, hy, hky⟩ := List.any_eq_true.1 HS.out
          rw [((holds_iff.1 c).2.2 j k HXJ.out).1 y hy] at hky
          cases hky
        go_wp2
        go_ret
        exact ⟨rfl, HB.out.trans HBK.out⟩
    · obtain rfl : j = m := by omega
      obtain rfl : r = true := by
        rw [← HR.out]
        exact holds_iff.2 ⟨HA.out, HOR.out, fun t k hk => HH.out t k (by have := (List.getElem?_eq_some_iff.1 hk).1; have := HM.out; omega) hk⟩
      go_wp2
      go_ret
      exact ⟨rfl, HB.out.trans HW.out⟩
end Go.Proofs.Ytigefdoejcggpaa
