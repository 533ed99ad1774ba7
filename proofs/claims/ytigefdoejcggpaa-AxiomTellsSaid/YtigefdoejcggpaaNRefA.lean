/- The document's own Right, access, program, Keeps. -/
import Derived.Test.YtigefdoejcggpaaNAllow
import Derived.Test.YtigefdoejcggpaaNLawP
namespace Go.Proofs.Ytigefdoejcggpaa
open Go.RowKit Ax
set_option linter.unusedVariables false
set_option linter.unusedSimpArgs false
set_option maxRecDepth 100000 in
theorem rahd_litq {w : World} {p : Option Addr} {l : List Ev} {n c : Nat} (hl : LAt w p l) (hn : l.length = n) {i k : Nat} (hi : i < n) (hk : k < n) {r : Bool} (hr : ahd l i k = r) : Calls Try.prog 33 #[.slice p n c, .int .i64 (i : Int), .int .i64 (k : Int)] w fun e w' => e = .returned (.bool r) ∧ ∃ q, w' = w.drewN q := by
  unfold ahd at hr
  by_cases h0 : (i : Int) < k
  · obtain ⟨b, o, rfl, hb, hc⟩ := hl.get (i0 := i) (by omega)
    obtain ⟨c0, -, -, -⟩ := hc i (by omega)
    obtain ⟨d0, -, -, -⟩ := hc k (by omega)
    obtain ⟨s, hs⟩ : ∃ s, decide ((ev l i).1 = (ev l k).1) = s := ⟨_, rfl⟩
    obtain rfl : s = r := by rw [← hr, ← hs]; simp [h0]
    have e2 : ((ev l i).1 == (ev l k).1) = s := by rw [← hs]; by_cases h : (ev l i).1 = (ev l k).1 <;> simp [h]
    generalize (ev l i).1 = x0 at c0 e2
    generalize (ev l k).1 = y0 at d0 e2
    have hi2 : (i : Int) < n := by omega
    have hk2 : (k : Int) < n := by omega
    clear hr hc hb hl hn hs hi hk
    go_enter Try.func33, Try.ntmps33
    go_wp2
    go_quiet (fail)
    go_wp2
    go_ret
    exact ⟨rfl, _, rfl⟩
  · obtain rfl : r = false := by rw [← hr]; simp [h0]
    have h0' : ¬ i < k := by omega
    have h0d : decide ((i : Int) < (k : Int)) = false := by simp; omega
    clear hr hl hn
    go_enter Try.func33, Try.ntmps33
    go_wp2
    go_quiet (fail)
    go_wp2
    go_ret
    exact ⟨rfl, _, rfl⟩
theorem rahd_lit {w : World} {p : Option Addr} {l : List Ev} {n c : Nat} (hl : LAt w p l) (hn : l.length = n) {i k : Nat} (hi : i < n) (hk : k < n) {r : Bool} (hr : ahd l i k = r) : Calls Try.prog 33 #[.slice p n c, .int .i64 (i : Int), .int .i64 (k : Int)] w (OneB r w) := drewN_ob (rahd_litq hl hn hi hk hr)
set_option maxRecDepth 100000 in
theorem rplc_lit {w : World} {p : Option Addr} {l : List Ev} {n c : Nat} (hl : LAt w p l) (hn : l.length = n) {i : Int} {r : Bool} (hr : plc l i = r) : Calls Try.prog 30 #[.slice p n c, .int .i64 i] w (OneB r w) := by
  unfold plc at hr
  rw [hn] at hr
  by_cases h0 : 0 ≤ i
  · by_cases h1 : i < (n : Int)
    · obtain ⟨j, rfl⟩ : ∃ j : Nat, i = j := ⟨i.toNat, by omega⟩
      obtain ⟨b, o, rfl, hb, hc⟩ := hl.get (i0 := j) (by omega)
      obtain ⟨-, c1, -, -⟩ := hc j (by omega)
      have hr2 : (decide ((ev l j).2.1 = 1) || decide ((ev l j).2.1 = 2)) = r := by rw [← hr]; simp [h0, h1, isAcc]
      generalize (ev l j).2.1 = x1 at c1 hr2
      by_cases e1 : x1 = 1
      · obtain rfl : r = true := by rw [← hr2]; simp [e1]
        have e1' : (x1 == 1) = true := by simp [e1]
        clear hr hc hb hl hn hr2 e1
        go_enter Try.func30, Try.ntmps30
        go_wp2
        go_ret
        exact ⟨rfl, Bel.refl _⟩
      · have e1' : (x1 == 1) = false := by simp [e1]
        have e2 : (x1 == 2) = r := by rw [← hr2]; by_cases h : x1 = 2 <;> simp [h, e1]
        clear hr hc hb hl hn hr2 e1
        go_enter Try.func30, Try.ntmps30
        go_wp2
        go_ret
        exact ⟨rfl, Bel.refl _⟩
    · obtain rfl : r = false := by rw [← hr]; simp [h1]
      clear hr hl hn
      go_enter Try.func30, Try.ntmps30
      go_wp2
      go_ret
      exact ⟨rfl, Bel.refl _⟩
  · obtain rfl : r = false := by rw [← hr]; simp [h0]
    clear hr hl hn
    go_enter Try.func30, Try.ntmps30
    go_wp2
    go_ret
    exact ⟨rfl, Bel.refl _⟩
theorem isEv_iff {h k a n : Int} : isEv (h, k, a, n) = true ↔ 0 ≤ h ∧ h < 4 ∧ 1 ≤ k ∧ k ≤ 3 ∧ 0 ≤ a ∧ a < 4 ∧ -2147483648 ≤ n ∧ n < 2147483648 ∧ (k = 3 → a = 0 ∧ n = 0) := by
  unfold isEv isAcc
  simp only [Bool.and_eq_true, decide_eq_true_eq]
  by_cases h3 : k = 3
  · rw [if_pos h3]
    simp only [Bool.and_eq_true, decide_eq_true_eq]
    omega
  · rw [if_neg h3]
    simp only [Bool.and_eq_true, decide_eq_true_eq, Bool.or_eq_true]
    omega
set_option maxRecDepth 100000 in
set_option maxHeartbeats 4000000 in
theorem rright_lit {w : World} {p : Option Addr} {l : List Ev} {n c : Nat} (hl : LAt w p l) (hn : l.length = n) (hmax : n ≤ 5000) {r : Bool} (hr : right l = r) : Calls Try.prog 22 #[.slice p n c] w (OneB r w) := by
  by_cases h8 : n ≤ 8
  · have h8i : ¬ (8 : Int) < n := by omega
    have HL := Lib.hid hl
    have HN := Lib.hid hn
    have HBAD : Hid (∀ e ∈ l, isEv e = false → r = false) := Lib.hid (fun e he hb => by
      rw [← hr]
      refine Bool.eq_false_iff.2 fun c => ?_
      have := (List.all_eq_true.1 (by unfold right at c; rw [Bool.and_eq_true] at c; exact c.2)) e he
      rw [hb] at this
      cases this)
    have HGOOD : Hid ((∀ e ∈ l, isEv e = true) → r = true) := Lib.hid (fun h => by
      rw [← hr]
      unfold right
      rw [decide_eq_true (by omega : l.length ≤ 8), Bool.true_and]
      exact List.all_eq_true.2 h)
    clear hl hn hr
    go_enter Try.func22, Try.ntmps22
    go_wp2
    go_loopw [3] (fun i wr => ∃ j : Nat, j ≤ n ∧ i = .int .i64 j ∧ Hid (Bel w wr) ∧ Hid (∀ e ∈ l.take j, isEv e = true)) (fun i _ => n - (intOf i).toNat)
    case atStart => exact ⟨0, Nat.zero_le _, rfl, Lib.hid (Bel.refl _), Lib.hid (fun e he => by simp at he)⟩
    case round =>
      obtain ⟨j, hj, rfl, HB, HOK⟩ := hrel
      by_cases hlt : j < n
      · obtain ⟨b, o, rfl, hb, hc⟩ := LAt.get (EncAt.bel HL.out HB.out) (i0 := j) (by have := HN.out; omega)
        obtain ⟨c0, c1, c2, c3⟩ := hc j (by have := HN.out; omega)
        have HXJ : Hid (l[j]? = some ((ev l j).1, (ev l j).2.1, (ev l j).2.2.1, (ev l j).2.2.2)) := Lib.hid (get_ev (by have := HN.out; omega))
        generalize (ev l j).1 = x0 at c0 HXJ
        generalize (ev l j).2.1 = x1 at c1 HXJ
        generalize (ev l j).2.2.1 = x2 at c2 HXJ
        generalize (ev l j).2.2.2 = x3 at c3 HXJ
        have hjn : (j : Int) < n := by omega
        have HBA := Lib.hid (HB.out.alloc #[.int .i64 x0, .int .i64 x1, .int .i64 x2, .int .i64 x3] 26)
        have HBJ : Hid (isEv (x0, x1, x2, x3) = false → r = false) := Lib.hid (HBAD.out _ (List.mem_of_getElem? HXJ.out))
        have HTK : Hid (l.take (j + 1) = l.take j ++ [(x0, x1, x2, x3)]) := Lib.hid (by rw [List.take_add_one, HXJ.out]; rfl)
        clear hc hb
        by_cases t0 : x0 < 0
        · obtain rfl : r = false := HBJ.out (Bool.eq_false_iff.2 fun c => by have := isEv_iff.1 c; omega)
          go_wp2
          go_ret
          exact ⟨rfl, HBA.out⟩
        by_cases t1 : 3 < x0
        · obtain rfl : r = false := HBJ.out (Bool.eq_false_iff.2 fun c => by have := isEv_iff.1 c; omega)
          go_wp2
          go_ret
          exact ⟨rfl, HBA.out⟩
        by_cases t2 : x1 < 1
        · obtain rfl : r = false := HBJ.out (Bool.eq_false_iff.2 fun c => by have := isEv_iff.1 c; omega)
          go_wp2
          go_ret
          exact ⟨rfl, HBA.out⟩
        by_cases t3 : 3 < x1
        · obtain rfl : r = false := HBJ.out (Bool.eq_false_iff.2 fun c => by have := isEv_iff.1 c; omega)
          go_wp2
          go_ret
          exact ⟨rfl, HBA.out⟩
        by_cases t4 : x2 < 0
        · obtain rfl : r = false := HBJ.out (Bool.eq_false_iff.2 fun c => by have := isEv_iff.1 c; omega)
          go_wp2
          go_ret
          exact ⟨rfl, HBA.out⟩
        by_cases t5 : 3 < x2
        · obtain rfl : r = false := HBJ.out (Bool.eq_false_iff.2 fun c => by have := isEv_iff.1 c; omega)
          go_wp2
          go_ret
          exact ⟨rfl, HBA.out⟩
        by_cases t6 : x3 < -2147483648
        · obtain rfl : r = false := HBJ.out (Bool.eq_false_iff.2 fun c => by have := isEv_iff.1 c; omega)
          go_wp2
          go_ret
          exact ⟨rfl, HBA.out⟩
        by_cases t7 : 2147483648 ≤ x3
        · obtain rfl : r = false := HBJ.out (Bool.eq_false_iff.2 fun c => by have := isEv_iff.1 c; omega)
          go_wp2
          go_ret
          exact ⟨rfl, HBA.out⟩
        by_cases t8 : x1 = 3
        · have e3 : (x1 == 3) = true := by simp [t8]
          by_cases t9 : x2 = 0
          · have e9 : (x2 != 0) = false := by simp [t9]
            by_cases t10 : x3 = 0
            · have e10 : (x3 != 0) = false := by simp [t10]
              have HEV : Hid (isEv (x0, x1, x2, x3) = true) := Lib.hid (isEv_iff.2 (by omega))
              clear t8 t9 t10
              go_wp2
              exact ⟨⟨j + 1, by omega, by go_num, HBA, Lib.hid (fun e he => by
                rw [HTK.out] at he
                rcases List.mem_append.1 he with h | h
                · exact HOK.out e h
                · rw [List.mem_singleton.1 h]; exact HEV.out)⟩, by simp [intOf]; omega⟩
            · obtain rfl : r = false := HBJ.out (Bool.eq_false_iff.2 fun c => by have := isEv_iff.1 c; omega)
              have e10 : (x3 != 0) = true := by simp [t10]
              clear t8 t9 t10
              go_wp2
              go_ret
              exact ⟨rfl, HBA.out⟩
          · obtain rfl : r = false := HBJ.out (Bool.eq_false_iff.2 fun c => by have := isEv_iff.1 c; omega)
            have e9 : (x2 != 0) = true := by simp [t9]
            clear t8 t9
            go_wp2
            go_ret
            exact ⟨rfl, HBA.out⟩
        · have e3 : (x1 == 3) = false := by simp [t8]
          have HEV : Hid (isEv (x0, x1, x2, x3) = true) := Lib.hid (isEv_iff.2 (by omega))
          clear t8
          go_wp2
          exact ⟨⟨j + 1, by omega, by go_num, HBA, Lib.hid (fun e he => by
            rw [HTK.out] at he
            rcases List.mem_append.1 he with h | h
            · exact HOK.out e h
            · rw [List.mem_singleton.1 h]; exact HEV.out)⟩, by simp [intOf]; omega⟩
      · obtain rfl : j = n := by omega
        obtain rfl : r = true := HGOOD.out (fun e he => HOK.out e (by rw [List.take_of_length_le (by have := HN.out; omega)]; exact he))
        go_wp2
        go_ret
        exact ⟨rfl, HB.out⟩
  · obtain rfl : r = false := by rw [← hr]; unfold right; rw [hn, decide_eq_false h8]; rfl
    have h8i : (8 : Int) < n := by omega
    clear hr hl hn
    go_enter Try.func22, Try.ntmps22
    go_wp2
    go_ret
    exact ⟨rfl, Bel.refl _⟩
theorem fen_go {l : List Ev} {i k : Nat} (hi : (ev l i).2.1 ≠ 3) (hk : k ≤ l.length) : fen l i k = true ↔ ∃ q : Nat, i < q ∧ q < k ∧ isFen (ev l i).1 (ev l q) = true := by
  rw [fen_iff]
  constructor
  · rintro ⟨q, h1, h2, h3, h4⟩
    refine ⟨q, ?_, by omega, h4⟩
    have : q ≠ i := fun c => by
      subst c
      unfold isFen at h4
      simp only [Bool.and_eq_true, decide_eq_true_eq] at h4
      exact hi h4.1
    omega
  · rintro ⟨q, h1, h2, h4⟩
    exact ⟨q, by omega, by omega, by omega, h4⟩
set_option maxRecDepth 100000 in
set_option maxHeartbeats 4000000 in
theorem rkeeps_lit {w : World} {p : Option Addr} {l : List Ev} {n c : Nat} (hl : LAt w p l) (hn : l.length = n) (hmax : n ≤ 5000) {i k : Int} {r : Bool} (hr : keepsV l i k = r) : Calls Try.prog 18 #[.slice p n c, .int .i64 i, .int .i64 k] w (OneB r w) := by
  have HL := Lib.hid hl
  have HN := Lib.hid hn
  have HMX := Lib.hid hmax
  unfold keepsV at hr
  obtain ⟨a, ha⟩ : ∃ a, right l = a := ⟨_, rfl⟩
  obtain ⟨s, hs⟩ : ∃ s, plc l i = s := ⟨_, rfl⟩
  obtain ⟨t, ht⟩ : ∃ t, plc l k = t := ⟨_, rfl⟩
  rw [ha, hs, ht] at hr
  have HA := Lib.hid ha
  have HS := Lib.hid hs
  have HT := Lib.hid ht
  clear hl hn ha hs ht
  go_enter Try.func18, Try.ntmps18
  go_wp2_with fail
  refine (rright_lit HL.out HN.out HMX.out HA.out).mono ?_
  rintro e w2 ⟨rfl, hbz⟩
  have HB1 := Lib.hid hbz
  clear hbz
  go_wp2_with fail
  refine (rplc_lit (LAt.bel HL.out HB1.out) HN.out HS.out).mono ?_
  rintro e w3 ⟨rfl, hbz⟩
  have HB1 := Lib.hid (HB1.out.trans hbz)
  clear hbz
  go_wp2_with fail
  refine (rplc_lit (LAt.bel HL.out HB1.out) HN.out HT.out).mono ?_
  rintro e w4 ⟨rfl, hbz⟩
  have HB1 := Lib.hid (HB1.out.trans hbz)
  clear hbz
  cases a
  · obtain rfl : r = false := by rw [← hr]; rfl
    go_wp2
    go_ret
    exact ⟨rfl, HB1.out⟩
  cases s
  · obtain rfl : r = false := by rw [← hr]; rfl
    go_wp2
    go_ret
    exact ⟨rfl, HB1.out⟩
  cases t
  · obtain rfl : r = false := by rw [← hr]; rfl
    go_wp2
    go_ret
    exact ⟨rfl, HB1.out⟩
  have hi := plc_acc HS.out
  have hk := plc_acc HT.out
  obtain ⟨i, rfl⟩ : ∃ j : Nat, i = j := ⟨i.toNat, by omega⟩
  obtain ⟨k, rfl⟩ : ∃ j : Nat, k = j := ⟨k.toNat, by omega⟩
  have HI : Hid (i < n) := Lib.hid (by have := HN.out; omega)
  have HK : Hid (k < n) := Lib.hid (by have := HN.out; omega)
  have hrk : kp l i k = r := by rw [← hr]; rfl
  have HI3 : Hid ((ev l i).2.1 ≠ 3) := Lib.hid (acc_kind hi.2.2)
  obtain ⟨u, hu⟩ : ∃ u, ahd l i k = u := ⟨_, rfl⟩
  obtain ⟨v, hv⟩ : ∃ v, isSt (ev l k) (ev l i).2.2.1 = v := ⟨_, rfl⟩
  obtain ⟨f, hf⟩ : ∃ f, fen l i k = f := ⟨_, rfl⟩
  unfold kp at hrk
  rw [hu, hv, hf] at hrk
  have HU := Lib.hid hu
  have HV := Lib.hid hv
  have HF := Lib.hid hf
  clear hi hk hr hu hv hf
  go_wp2_with fail
  refine (rahd_lit (LAt.bel HL.out HB1.out) HN.out HI.out HK.out HU.out).mono ?_
  rintro e w5 ⟨rfl, hbz⟩
  have HB1 := Lib.hid (HB1.out.trans hbz)
  clear hbz
  cases u
  · obtain rfl : r = false := by rw [← hrk]; rfl
    go_wp2
    go_ret
    exact ⟨rfl, HB1.out⟩
  rw [Bool.true_and] at hrk
  have HIK : Hid (i < k) := Lib.hid (by have := ahd_lt HU.out; omega)
  obtain ⟨b, o, rfl, hb, hc⟩ := LAt.get (LAt.bel HL.out HB1.out) (i0 := i) (by have := HN.out; have := HI.out; omega)
  obtain ⟨c0, c1, c2, -⟩ := hc i (by have := HN.out; have := HI.out; omega)
  obtain ⟨-, d1, d2, -⟩ := hc k (by have := HN.out; have := HK.out; omega)
  have HFG := Lib.hid (fen_go (k := k) HI3.out (by have := HN.out; have := HK.out; omega))
  unfold isSt at HV
  generalize (ev l i).1 = x0 at c0 HFG
  generalize (ev l i).2.1 = x1 at c1 hrk
  generalize (ev l i).2.2.1 = x2 at c2 HV
  generalize (ev l k).2.1 = y1 at d1 HV
  generalize (ev l k).2.2.1 = y2 at d2 HV
  have hi2 : (i : Int) < n := by have := HI.out; omega
  have hk2 : (k : Int) < n := by have := HK.out; omega
  have HC0 := Lib.hid c0
  have HLT := Lib.hid hb
  clear hc hb
  by_cases h1 : x1 = 1
  · obtain rfl : r = true := by rw [← hrk]; simp [h1]
    have e1 : (x1 == 1) = true := by simp [h1]
    clear h1 hrk
    go_wp2
    go_quiet (fail)
    go_wp2
    go_ret
    exact ⟨rfl, HB1.out.drewN _⟩
  have e1 : (x1 == 1) = false := by simp [h1]
  rw [decide_eq_false h1, Bool.false_or] at hrk
  clear h1
  by_cases h2 : y1 = 2
  · have e2 : (y1 == 2) = true := by simp [h2]
    by_cases h3 : x2 = y2
    · have e3 : (x2 == y2) = true := by simp [h3]
      obtain rfl : r = true := by rw [← hrk, ← HV.out]; simp [h2, h3]
      clear h2 h3 hrk
      go_wp2
      go_quiet (fail)
      go_wp2
      go_ret
      exact ⟨rfl, HB1.out.drewN _⟩
    · have e3 : (x2 == y2) = false := by simp [h3]
      have hv2 : (decide (y1 = 2) && decide (y2 = x2)) = false := by rw [decide_eq_false (fun c : y2 = x2 => h3 c.symm), Bool.and_false]
      obtain rfl : f = r := by rw [← hrk, ← HV.out, hv2]; rfl
      clear hv2
      clear h2 h3 hrk
      have hw1 : IntKind.i64.wrap ((i : Int) + 1) = ((i + 1 : Nat) : Int) := by rw [IntWalk.i64_in _ (by have := HMX.out; omega)]; omega
      go_wp2
      go_quiet (fail)
      go_wp2
      clear hw1 c0 c1 c2 d1 d2
      go_loopw [10] (fun j wr => ∃ q : Nat, i < q ∧ q ≤ k ∧ j = .int .i64 q ∧ Hid (Bel w5 wr) ∧ Hid (∀ t : Nat, i < t → t < q → isFen x0 (ev l t) = false)) (fun j _ => k - (intOf j).toNat)
      case atStart => exact ⟨i + 1, by omega, by have := HIK.out; omega, by first | rfl | simp, Lib.hid ((Bel.refl _).drewN _), Lib.hid (fun t h1 h2 => by omega)⟩
      case round =>
        obtain ⟨q, hiq, hqk, rfl, HBR, HNO⟩ := hrel
        by_cases hlt : q < k
        · have HLR := Lib.hid (LAt.bel HL.out (HB1.out.trans HBR.out))
          obtain ⟨b', o', e, -, hc⟩ := LAt.get HLR.out (i0 := q) (by have := HN.out; have := HK.out; omega)
          injection e with e
          injection e with ea eb
          subst ea
          subst eb
          obtain ⟨q0, q1, -, -⟩ := hc q (by have := HN.out; have := HK.out; omega)
          have c0 := (HBR.out.cell (p := ⟨b, _, none⟩) HLT.out).trans HC0.out
          obtain ⟨fv, hfv⟩ : ∃ fv, isFen x0 (ev l q) = fv := ⟨_, rfl⟩
          have HFV := Lib.hid hfv
          unfold isFen at hfv
          generalize (ev l q).2.1 = z1 at q1 hfv
          generalize (ev l q).1 = z0 at q0 hfv
          have hqn : (q : Int) < n := by have := HK.out; omega
          have hqk2 : (q : Int) < k := by omega
          have hn5 : n ≤ 5000 := HMX.out
          clear hc
          by_cases h3 : z1 = 3
          · have e3' : (z1 == 3) = true := by simp [h3]
            by_cases h4 : z0 = x0
            · have e4 : (z0 == x0) = true := by simp [h4]
              obtain rfl : f = true := by rw [← HF.out]; exact HFG.out.2 ⟨q, hiq, hlt, by rw [HFV.out, ← hfv]; simp [h3, h4]⟩
              clear h3 h4 hfv
              go_wp2
              go_quiet (fail)
              go_wp2
              go_ret
              exact ⟨rfl, HB1.out.trans (HBR.out.drewN _)⟩
            · have e4 : (z0 == x0) = false := by simp [h4]
              have HNF : Hid (isFen x0 (ev l q) = false) := Lib.hid (by rw [HFV.out, ← hfv]; simp [h4])
              clear h3 h4 hfv
              go_wp2
              go_quiet (fail)
              go_wp2
              exact ⟨⟨q + 1, by omega, by omega, by go_num, Lib.hid (HBR.out.drewN _), Lib.hid (fun t h1 h2 => by
                by_cases e : t = q
                · subst e; exact HNF.out
                · exact HNO.out t h1 (by omega))⟩, by simp [intOf]; omega⟩
          · have e3' : (z1 == 3) = false := by simp [h3]
            have HNF : Hid (isFen x0 (ev l q) = false) := Lib.hid (by rw [HFV.out, ← hfv]; simp [h3])
            clear h3 hfv
            go_wp2
            go_quiet (fail)
            go_wp2
            exact ⟨⟨q + 1, by omega, by omega, by go_num, Lib.hid (HBR.out.drewN _), Lib.hid (fun t h1 h2 => by
              by_cases e : t = q
              · subst e; exact HNF.out
              · exact HNO.out t h1 (by omega))⟩, by simp [intOf]; omega⟩
        · obtain rfl : q = k := by omega
          obtain rfl : f = false := by
            rw [← HF.out]
            refine Bool.eq_false_iff.2 fun c => ?_
            obtain ⟨t, h1, h2, h3⟩ := HFG.out.1 c
            rw [HNO.out t h1 h2] at h3
            cases h3
          go_wp2
          go_ret
          exact ⟨rfl, HB1.out.trans HBR.out⟩
  · have e2 : (y1 == 2) = false := by simp [h2]
    obtain rfl : f = r := by rw [← hrk, ← HV.out, decide_eq_false h2]; simp
    clear h2 hrk
    have hw1 : IntKind.i64.wrap ((i : Int) + 1) = ((i + 1 : Nat) : Int) := by rw [IntWalk.i64_in _ (by have := HMX.out; omega)]; omega
    go_wp2
    go_quiet (fail)
    go_wp2
    clear hw1 c0 c1 c2 d1 d2
    go_loopw [10] (fun j wr => ∃ q : Nat, i < q ∧ q ≤ k ∧ j = .int .i64 q ∧ Hid (Bel w5 wr) ∧ Hid (∀ t : Nat, i < t → t < q → isFen x0 (ev l t) = false)) (fun j _ => k - (intOf j).toNat)
    case atStart => exact ⟨i + 1, by omega, by have := HIK.out; omega, by first | rfl | simp, Lib.hid ((Bel.refl _).drewN _), Lib.hid (fun t h1 h2 => by omega)⟩
    case round =>
      obtain ⟨q, hiq, hqk, rfl, HBR, HNO⟩ := hrel
      by_cases hlt : q < k
      · have HLR := Lib.hid (LAt.bel HL.out (HB1.out.trans HBR.out))
        obtain ⟨b', o', e, -, hc⟩ := LAt.get HLR.out (i0 := q) (by have := HN.out; have := HK.out; omega)
        injection e with e
        injection e with ea eb
        subst ea
        subst eb
        obtain ⟨q0, q1, -, -⟩ := hc q (by have := HN.out; have := HK.out; omega)
        have c0 := (HBR.out.cell (p := ⟨b, _, none⟩) HLT.out).trans HC0.out
        obtain ⟨fv, hfv⟩ : ∃ fv, isFen x0 (ev l q) = fv := ⟨_, rfl⟩
        have HFV := Lib.hid hfv
        unfold isFen at hfv
        generalize (ev l q).2.1 = z1 at q1 hfv
        generalize (ev l q).1 = z0 at q0 hfv
        have hqn : (q : Int) < n := by have := HK.out; omega
        have hqk2 : (q : Int) < k := by omega
        have hn5 : n ≤ 5000 := HMX.out
        clear hc
        by_cases h3 : z1 = 3
        · have e3' : (z1 == 3) = true := by simp [h3]
          by_cases h4 : z0 = x0
          · have e4 : (z0 == x0) = true := by simp [h4]
            obtain rfl : f = true := by rw [← HF.out]; exact HFG.out.2 ⟨q, hiq, hlt, by rw [HFV.out, ← hfv]; simp [h3, h4]⟩
            clear h3 h4 hfv
            go_wp2
            go_quiet (fail)
            go_wp2
            go_ret
            exact ⟨rfl, HB1.out.trans (HBR.out.drewN _)⟩
          · have e4 : (z0 == x0) = false := by simp [h4]
            have HNF : Hid (isFen x0 (ev l q) = false) := Lib.hid (by rw [HFV.out, ← hfv]; simp [h4])
            clear h3 h4 hfv
            go_wp2
            go_quiet (fail)
            go_wp2
            exact ⟨⟨q + 1, by omega, by omega, by go_num, Lib.hid (HBR.out.drewN _), Lib.hid (fun t h1 h2 => by
              by_cases e : t = q
              · subst e; exact HNF.out
              · exact HNO.out t h1 (by omega))⟩, by simp [intOf]; omega⟩
        · have e3' : (z1 == 3) = false := by simp [h3]
          have HNF : Hid (isFen x0 (ev l q) = false) := Lib.hid (by rw [HFV.out, ← hfv]; simp [h3])
          clear h3 hfv
          go_wp2
          go_quiet (fail)
          go_wp2
          exact ⟨⟨q + 1, by omega, by omega, by go_num, Lib.hid (HBR.out.drewN _), Lib.hid (fun t h1 h2 => by
            by_cases e : t = q
            · subst e; exact HNF.out
            · exact HNO.out t h1 (by omega))⟩, by simp [intOf]; omega⟩
      · obtain rfl : q = k := by omega
        obtain rfl : f = false := by
          rw [← HF.out]
          refine Bool.eq_false_iff.2 fun c => ?_
          obtain ⟨t, h1, h2, h3⟩ := HFG.out.1 c
          rw [HNO.out t h1 h2] at h3
          cases h3
        go_wp2
        go_ret
        exact ⟨rfl, HB1.out.trans HBR.out⟩
end Go.Proofs.Ytigefdoejcggpaa
