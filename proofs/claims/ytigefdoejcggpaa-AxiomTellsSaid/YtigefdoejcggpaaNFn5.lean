/- slices.Contains; isOrder. -/
import Derived.Test.YtigefdoejcggpaaNFn4
namespace Go.Proofs.Ytigefdoejcggpaa
open Go.RowKit Ax
set_option linter.unusedVariables false
set_option linter.unusedSimpArgs false
theorem EncAt.take {α : Type} {enc : α → List Value} {k : Nat} {w : World} {p : Option Addr} {l : List α} (h : EncAt enc k w p l) (m : Nat) : EncAt enc k w p (l.take m) := fun j x hj => by
  rw [List.getElem?_take] at hj
  split at hj
  · exact h j x hj
  · cases hj
set_option maxRecDepth 100000 in
theorem index_lit {w : World} {p : Option Addr} {l : List Int} {n c : Nat} (hl : IAt w p l) (hn : l.length = n) (hmax : n ≤ 5000) (v : Int) :
    Calls Try.prog 52 #[.slice p n c, .int .i64 v] w fun e w' => ∃ r : Int, e = .returned (.int .i64 r) ∧ decide (0 ≤ r) = l.contains v ∧ Bel w w' := by
  have HL := Lib.hid hl
  have HN := Lib.hid hn
  clear hl hn
  go_enter Try.func52, Try.ntmps52
  go_wp2
  go_loopw [8] (fun i wr => ∃ j : Nat, j ≤ n ∧ i = .int .i64 j ∧ w = wr ∧ Hid (v ∉ l.take j)) (fun i _ => n - (intOf i).toNat)
  case atStart => exact ⟨0, Nat.zero_le _, rfl, rfl, Lib.hid (by simp)⟩
  case round =>
    obtain ⟨j, hj, rfl, rfl, HNO⟩ := hrel
    by_cases hlt : j < n
    · obtain ⟨b, o, rfl, hb, hc⟩ := IAt.get HL.out (i0 := j) (by have := HN.out; omega)
      have c0 := hc j (by have := HN.out; omega)
      have HXJ : Hid (l[j]? = some (l.getD j 0)) := Lib.hid (get_of (by have := HN.out; omega))
      generalize l.getD j 0 = x at c0 HXJ
      have hlt2 : (j : Int) < n := by omega
      clear hc hb
      by_cases he : v = x
      · have e1 : (v == x) = true := by simp [he]
        have HE := Lib.hid he
        clear he
        go_wp2
        go_ret
        refine ⟨_, rfl, ?_, Bel.refl _⟩
        rw [decide_eq_true (by omega : (0 : Int) ≤ (j : Int))]
        symm
        exact List.contains_iff_mem.2 (by rw [HE.out]; exact List.mem_of_getElem? HXJ.out)
      · have e1 : (v == x) = false := by simp [he]
        have HE := Lib.hid he
        clear he
        go_wp2
        exact ⟨⟨j + 1, by omega, by go_num, by trivial, Lib.hid (by rw [List.take_add_one, HXJ.out]; simp only [Option.toList_some, List.mem_append, List.mem_singleton, not_or]; exact ⟨HNO.out, HE.out⟩)⟩, by simp [intOf]; omega⟩
    · obtain rfl : j = n := by omega
      go_wp2
      go_ret
      refine ⟨-1, rfl, ?_, Bel.refl _⟩
      rw [decide_eq_false (by omega : ¬ (0 : Int) ≤ -1)]
      symm
      have := HNO.out
      rw [List.take_of_length_le (by have := HN.out; omega)] at this
      exact Bool.eq_false_iff.2 fun c => this (List.contains_iff_mem.1 c)
set_option maxRecDepth 100000 in
theorem contains_lit {w : World} {p : Option Addr} {l : List Int} {n c : Nat} (hl : IAt w p l) (hn : l.length = n) (hmax : n ≤ 5000) {v : Int} {r : Bool} (hr : l.contains v = r) :
    Calls Try.prog 41 #[.slice p n c, .int .i64 v] w (OneB r w) := by
  have HC := Lib.hid (index_lit (c := c) hl hn hmax v)
  have HR := Lib.hid hr
  clear hl hn hmax hr
  go_enter Try.func41, Try.ntmps41
  go_wp2_with (go_at_call 52; ((with_reducible refine HC.out.mono ?_); rintro e w2 ⟨q, rfl, hq, hbz⟩; have HQ := Lib.hid hq; have HBZ := Lib.hid hbz; clear hq hbz))
  go_ret
  exact ⟨rb (by have := HQ.out; rw [HR.out] at this; exact this), HBZ.out⟩
set_option maxRecDepth 100000 in
set_option maxHeartbeats 1000000 in
theorem ord_lit {w : World} {p q : Option Addr} {l : List Ev} {o : List Int} {n c m d : Nat} (hl : LAt w p l) (hn : l.length = n) (hmax : n ≤ 5000) (ho : IAt w q o) (hm : o.length = m) (hmd : m ≤ d) (hmm : m ≤ 5000) {r : Bool} (hr : ordB l o = r) :
    Calls Try.prog 26 #[.slice p n c, .slice q m d] w (OneB r w) := by
  have HL := Lib.hid hl
  have HN := Lib.hid hn
  have HO := Lib.hid ho
  have HM := Lib.hid hm
  have HMD := Lib.hid hmd
  have HR := Lib.hid hr
  have HMX := Lib.hid hmm
  clear hl hn ho hm hr hmd
  go_enter Try.func26, Try.ntmps26
  go_wp2
  go_loopw [11] (fun i wr => ∃ j : Nat, j ≤ m ∧ i = .int .i64 j ∧ Hid (Bel w wr) ∧ Hid (∀ (k : Nat) (x : Int), k < j → o[k]? = some x → plc l x = true ∧ x ∉ o.take k)) (fun i _ => m - (intOf i).toNat)
  case atStart => exact ⟨0, Nat.zero_le _, rfl, Lib.hid (Bel.refl _), Lib.hid (fun k x hk => by omega)⟩
  case round =>
    obtain ⟨j, hj, rfl, HB, HA⟩ := hrel
    by_cases hlt : j < m
    · obtain ⟨b, off, rfl, hb, hc⟩ := IAt.get (EncAt.bel HO.out HB.out) (i0 := j) (by have := HM.out; omega)
      have c0 := hc j (by have := HM.out; omega)
      have HXJ : Hid (o[j]? = some (o.getD j 0)) := Lib.hid (get_of (by have := HM.out; omega))
      generalize o.getD j 0 = x at c0 HXJ
      have hlt2 : (j : Int) < m := by omega
      have hjd : (j : Int) ≤ d := by have := HMD.out; omega
      obtain ⟨s, hs⟩ : ∃ s, plc l x = s := ⟨_, rfl⟩
      obtain ⟨t, ht⟩ : ∃ t, (o.take j).contains x = t := ⟨_, rfl⟩
      have HS := Lib.hid hs
      have HT := Lib.hid ht
      have HTL : Hid ((o.take j).length = j) := Lib.hid (by rw [List.length_take, HM.out]; omega)
      have HJ5 : Hid (j ≤ 5000) := Lib.hid (by have := HMX.out; omega)
      clear hc hb hs ht
      cases s
      · obtain rfl : r = false := by
          rw [← HR.out]
          exact Bool.eq_false_iff.2 fun c => by
            have := ((ord_iff.1 c).1 j x HXJ.out).1
            rw [HS.out] at this
            cases this
        go_wp2_with (go_at_call 27; ((with_reducible refine (isPlc_lit (LAt.bel HL.out HB.out) HN.out HS.out).mono ?_); rintro e w2 ⟨rfl, hbz⟩; have HBZ := Lib.hid hbz; clear hbz))
        go_ret
        exact ⟨rfl, HB.out.trans HBZ.out⟩
      · cases t
        · go_wp2_with (first | (go_at_call 27; ((with_reducible refine (isPlc_lit (LAt.bel HL.out HB.out) HN.out HS.out).mono ?_); rintro e w2 ⟨rfl, hbz⟩; have HBZ := Lib.hid hbz; clear hbz)) | (go_at_call 41; ((with_reducible refine (contains_lit (EncAt.take (EncAt.bel HO.out (HB.out.trans HBZ.out)) j) HTL.out HJ5.out HT.out).mono ?_); rintro e w3 ⟨rfl, hby⟩; have HBY := Lib.hid hby; clear hby)))
          exact ⟨⟨j + 1, by omega, by go_num, Lib.hid ((HB.out.trans HBZ.out).trans HBY.out), Lib.hid (fun k y hk hy => by
            by_cases he : k = j
            · subst he
              rw [HXJ.out] at hy
              cases hy
              exact ⟨HS.out, fun c => by have := HT.out; rw [List.contains_iff_mem.2 c] at this; cases this⟩
            · exact HA.out k y (by omega) hy)⟩, by simp [intOf]; omega⟩
        · obtain rfl : r = false := by
            rw [← HR.out]
            exact Bool.eq_false_iff.2 fun c => ((ord_iff.1 c).1 j x HXJ.out).2 (List.contains_iff_mem.1 HT.out)
          go_wp2_with (first | (go_at_call 27; ((with_reducible refine (isPlc_lit (LAt.bel HL.out HB.out) HN.out HS.out).mono ?_); rintro e w2 ⟨rfl, hbz⟩; have HBZ := Lib.hid hbz; clear hbz)) | (go_at_call 41; ((with_reducible refine (contains_lit (EncAt.take (EncAt.bel HO.out (HB.out.trans HBZ.out)) j) HTL.out HJ5.out HT.out).mono ?_); rintro e w3 ⟨rfl, hby⟩; have HBY := Lib.hid hby; clear hby)))
          go_ret
          exact ⟨rfl, (HB.out.trans HBZ.out).trans HBY.out⟩
    · obtain rfl : j = m := by omega
      have HP : Hid (∀ (k : Nat) (x : Int), o[k]? = some x → plc l x = true ∧ x ∉ o.take k) := Lib.hid (fun k x hx => HA.out k x (by have := (List.getElem?_eq_some_iff.1 hx).1; have := HM.out; omega) hx)
      have HB1 := HB
      clear hj hlt HA
      go_wp2
      go_loopw [30] (fun i ws => ∃ j' : Nat, j' ≤ n ∧ i = .int .i64 j' ∧ Hid (Bel w ws) ∧ Hid (∀ (k : Nat) (e : Ev), k < j' → l[k]? = some e → isAcc e = true → (k : Int) ∈ o)) (fun i _ => n - (intOf i).toNat)
      case atStart => exact ⟨0, Nat.zero_le _, rfl, Lib.hid HB1.out, Lib.hid (fun k x hk => by omega)⟩
      case round =>
        obtain ⟨i, hi, rfl, HBS, HA⟩ := hrel
        by_cases hlt : i < n
        · obtain ⟨b, off, rfl, hb, hc⟩ := LAt.get (EncAt.bel HL.out HBS.out) (i0 := i) (by have := HN.out; omega)
          obtain ⟨c0, c1, c2, c3⟩ := hc i (by have := HN.out; omega)
          have HXJ : Hid (l[i]? = some ((ev l i).1, (ev l i).2.1, (ev l i).2.2.1, (ev l i).2.2.2)) := Lib.hid (get_ev (by have := HN.out; omega))
          generalize (ev l i).1 = x0 at c0 HXJ
          generalize (ev l i).2.1 = x1 at c1 HXJ
          generalize (ev l i).2.2.1 = x2 at c2 HXJ
          generalize (ev l i).2.2.2 = x3 at c3 HXJ
          have hlt2 : (i : Int) < n := by omega
          obtain ⟨s, hs⟩ : ∃ s, isAcc (x0, x1, x2, x3) = s := ⟨_, rfl⟩
          obtain ⟨t, ht⟩ : ∃ t, o.contains (i : Int) = t := ⟨_, rfl⟩
          have HS := Lib.hid hs
          have HT := Lib.hid ht
          clear hc hb hs ht
          cases s
          · go_wp2_with (go_at_call 42; ((with_reducible refine (isAcc_lit HS.out _).mono ?_); rintro e w2 ⟨rfl, hbz⟩; have HBZ := Lib.hid ((HBS.out.alloc _ _).trans hbz); clear hbz))
            exact ⟨⟨i + 1, by omega, by go_num, HBZ, Lib.hid (fun k y hk hy ha => by
              by_cases he : k = i
              · subst he
                rw [HXJ.out] at hy
                cases hy
                rw [HS.out] at ha
                cases ha
              · exact HA.out k y (by omega) hy ha)⟩, by simp [intOf]; omega⟩
          · cases t
            · obtain rfl : r = false := by
                rw [← HR.out]
                exact Bool.eq_false_iff.2 fun c => by
                  have := (ord_iff.1 c).2 i _ HXJ.out HS.out
                  have h2 := HT.out
                  rw [List.contains_iff_mem.2 this] at h2
                  cases h2
              go_wp2_with (first | (go_at_call 42; ((with_reducible refine (isAcc_lit HS.out _).mono ?_); rintro e w2 ⟨rfl, hbz⟩; have HBZ := Lib.hid ((HBS.out.alloc _ _).trans hbz); clear hbz)) | (go_at_call 41; ((with_reducible refine (contains_lit (EncAt.bel HO.out HBZ.out) HM.out HMX.out HT.out).mono ?_); rintro e w3 ⟨rfl, hby⟩; have HBY := Lib.hid hby; clear hby)))
              go_ret
              exact ⟨rfl, HBZ.out.trans HBY.out⟩
            · go_wp2_with (first | (go_at_call 42; ((with_reducible refine (isAcc_lit HS.out _).mono ?_); rintro e w2 ⟨rfl, hbz⟩; have HBZ := Lib.hid ((HBS.out.alloc _ _).trans hbz); clear hbz)) | (go_at_call 41; ((with_reducible refine (contains_lit (EncAt.bel HO.out HBZ.out) HM.out HMX.out HT.out).mono ?_); rintro e w3 ⟨rfl, hby⟩; have HBY := Lib.hid hby; clear hby)))
              exact ⟨⟨i + 1, by omega, by go_num, Lib.hid (HBZ.out.trans HBY.out), Lib.hid (fun k y hk hy ha => by
                by_cases he : k = i
                · subst he
                  exact List.contains_iff_mem.1 HT.out
                · exact HA.out k y (by omega) hy ha)⟩, by simp [intOf]; omega⟩
        · obtain rfl : r = true := by
            rw [← HR.out]
            exact ord_iff.2 ⟨HP.out, fun k e he ha => HA.out k e (by have := (List.getElem?_eq_some_iff.1 he).1; have := HN.out; omega) he ha⟩
          have hlt2 : ¬ (i : Int) < n := by omega
          go_wp2
          go_ret
          exact ⟨rfl, HBS.out⟩
end Go.Proofs.Ytigefdoejcggpaa
