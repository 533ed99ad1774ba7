/- slices.ContainsFunc, slices.IndexFunc: whether one to the same word is pending ahead. -/
import Derived.Test.YtobpoghophhphaaMDel
namespace Go.Proofs.Ytobpoghophhphaa
open Go.RowKit Mm
set_option linter.unusedVariables false
set_option linter.unusedSimpArgs false
set_option maxRecDepth 100000 in
theorem same_word {w : World} {g3 : Nat} {e1 e2 : Int} (hx : w.heap[g3]? = some (.cells #[.int .i64 e1, .int .i64 e2] 48 (0, 0))) (x1 x2 : Int) {r : Bool} (hr : decide (x1 = e1) = r) :
    Calls Try.prog 36 #[.agg #[.int .i64 x1, .int .i64 x2], .pointer (some ⟨g3, 0, none⟩)] w fun e w' => e = .returned (.bool r) ∧ Bel w w' := by
  have hb := (box1 w #[.int .i64 x1, .int .i64 x2] 48).1
  have k0 := cell_of_heap (hb.stays hx) 0
  simp only [List.getElem?_toArray, List.getElem?_cons_zero] at k0
  have hq : (x1 == e1) = r := by rw [← hr]; by_cases h : x1 = e1 <;> simp [h]
  have HB := Lib.hid hb
  clear hx hb hr
  go_enter Try.func36, Try.ntmps36
  go_wp2
  go_ret
  exact ⟨rfl, HB.out⟩
set_option maxRecDepth 100000 in
theorem index_any {w : World} {base : Nat} {s : Sl} {l : List (Int × Int)} (h : ERow encE 48 2 w base s.val l) (h8 : l.length ≤ 8) {k : Nat} (hk : k ≤ l.length) {g3 : Nat} {e1 e2 : Int} (hx : w.heap[g3]? = some (.cells #[.int .i64 e1, .int .i64 e2] 48 (0, 0))) :
    Calls Try.prog 51 #[.slice s.p k s.c, .func (.func 36) #[] #[.pointer (some ⟨g3, 0, none⟩)]] w fun e w' => ∃ r : Int, e = .returned (.int .i64 r) ∧ decide (0 ≤ r) = (l.take k).any (fun x => decide (x.1 = e1)) ∧ Bel w w' := by
  obtain ⟨p, n, c⟩ := s
  have HR := Lib.hid h
  have HX := Lib.hid hx
  have hk8 : k ≤ 8 := by omega
  have HK := Lib.hid hk
  clear h hx h8 hk
  simp only
  go_enter Try.func51, Try.ntmps51
  go_wp2
  go_loopw [8] (fun i wr => ∃ j : Nat, j ≤ k ∧ i = .int .i64 j ∧ Hid (Bel w wr) ∧ Hid (∀ x ∈ l.take j, x.1 ≠ e1)) (fun i _ => k - (intOf i).toNat)
  case atStart => exact ⟨0, Nat.zero_le _, rfl, Lib.hid (Bel.refl _), Lib.hid (fun x hx => by simp at hx)⟩
  case round =>
    obtain ⟨j, hj, rfl, HB, HN⟩ := hrel
    by_cases hlt : j < k
    · have hjl : j < l.length := by have := HK.out; omega
      obtain ⟨⟨x1, x2⟩, hxj⟩ : ∃ x, l[j]? = some x := ⟨_, List.getElem?_eq_getElem hjl⟩
      have hrow := HR.out.bel HB.out
      obtain ⟨g, cs, ep, _, hg, _, hnc, _, _, hcell⟩ := ERow.at (enc := encE) (k := 2) encE_len hrow hxj
      simp only at ep hnc
      subst ep
      have c0 := hcell 0 _ rfl
      have c1 := hcell 1 _ rfl
      rw [Nat.add_zero] at c0
      have htk : l.take (j + 1) = l.take j ++ [(x1, x2)] := by rw [List.take_add_one, hxj]; rfl
      have HTK := Lib.hid htk
      have hlt2 : (j : Int) < k := by omega
      clear hrow hcell hg hxj htk hnc
      by_cases he : x1 = e1
      · have hd : decide (x1 = e1) = true := decide_eq_true he
        have HD := Lib.hid hd
        have HE := Lib.hid he
        clear hd he
        go_wp2_with (go_at_call 36; ((with_reducible refine (same_word (HB.out.stays HX.out) _ _ HD.out).mono ?_); rintro e w2 ⟨rfl, hbz⟩; have HBZ := Lib.hid hbz; clear hbz))
        go_ret
        refine ⟨_, rfl, ?_, HB.out.trans HBZ.out⟩
        rw [decide_eq_true (by omega : (0 : Int) ≤ (j : Int))]
        symm
        refine List.any_eq_true.2 ⟨(x1, x2), ?_, decide_eq_true HE.out⟩
        have hm : (x1, x2) ∈ l.take (j + 1) := by rw [HTK.out]; simp
        exact (List.take_subset_take_left l (by omega)) hm
      · have hd : decide (x1 = e1) = false := decide_eq_false he
        have HD := Lib.hid hd
        have HE := Lib.hid he
        clear hd he
        go_wp2_with (go_at_call 36; ((with_reducible refine (same_word (HB.out.stays HX.out) _ _ HD.out).mono ?_); rintro e w2 ⟨rfl, hbz⟩; have HBZ := Lib.hid hbz; clear hbz))
        exact ⟨⟨j + 1, by omega, by go_num, Lib.hid (HB.out.trans HBZ.out), Lib.hid (fun x hx => by
          rw [HTK.out] at hx
          rcases List.mem_append.1 hx with h | h
          · exact HN.out x h
          · rw [List.mem_singleton.1 h]; exact HE.out)⟩, by simp [intOf]; omega⟩
    · obtain rfl : j = k := by omega
      go_wp2
      go_ret
      refine ⟨-1, rfl, ?_, HB.out⟩
      rw [decide_eq_false (by omega : ¬ (0 : Int) ≤ -1)]
      symm
      refine List.any_eq_false.2 fun x hx => ?_
      rw [decide_eq_true_eq]
      exact HN.out x hx
set_option maxRecDepth 100000 in
theorem contains_lit {w : World} {base : Nat} {s : Sl} {l : List (Int × Int)} (h : ERow encE 48 2 w base s.val l) (h8 : l.length ≤ 8) {k : Nat} (hk : k ≤ l.length) {g3 : Nat} {e1 e2 : Int} (hx : w.heap[g3]? = some (.cells #[.int .i64 e1, .int .i64 e2] 48 (0, 0))) {r : Bool} (hr : (l.take k).any (fun x => decide (x.1 = e1)) = r) :
    Calls Try.prog 37 #[.slice s.p k s.c, .func (.func 36) #[] #[.pointer (some ⟨g3, 0, none⟩)]] w fun e w' => e = .returned (.bool r) ∧ Bel w w' := by
  have HC := Lib.hid (index_any h h8 hk hx)
  have HR := Lib.hid hr
  clear h h8 hk hx hr
  go_enter Try.func37, Try.ntmps37
  go_wp2_with (go_at_call 51; ((with_reducible refine HC.out.mono ?_); rintro e w2 ⟨q, rfl, hq, hbz⟩; have HQ := Lib.hid hq; have HBZ := Lib.hid hbz; clear hq hbz))
  go_ret
  exact ⟨rb (by rw [HQ.out, HR.out]), HBZ.out⟩
end Go.Proofs.Ytobpoghophhphaa
