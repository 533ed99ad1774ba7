/- slices.ContainsFunc over Right's closure; Right. -/
import Derived.Test.YtigefdoejcggpaaNFn2
namespace Go.Proofs.Ytigefdoejcggpaa
open Go.RowKit Ax
set_option linter.unusedVariables false
set_option linter.unusedSimpArgs false
set_option maxRecDepth 100000 in
theorem right1_lit {x0 x1 x2 x3 : Int} {r : Bool} (hr : (!isEv (x0, x1, x2, x3)) = r) (w : World) : Calls Try.prog 36 #[.agg #[.int .i64 x0, .int .i64 x1, .int .i64 x2, .int .i64 x3]] w (OneB r w) := by
  have HB := Lib.hid (box1 w #[.int .i64 x0, .int .i64 x1, .int .i64 x2, .int .i64 x3] 26).1
  obtain ⟨s, hs⟩ : ∃ s, isEv (x0, x1, x2, x3) = s := ⟨_, rfl⟩
  rw [hs] at hr
  subst hr
  have HS := Lib.hid hs
  clear hs
  go_enter Try.func36, Try.ntmps36
  go_wp2_with (go_at_call 37; ((with_reducible refine (isEv_lit HS.out _).mono ?_); rintro e w2 ⟨rfl, hbz⟩; have HBZ := Lib.hid hbz; clear hbz))
  go_ret
  exact ⟨rfl, HB.out.trans HBZ.out⟩
set_option maxRecDepth 100000 in
theorem right1_index {w : World} {p : Option Addr} {l : List Ev} {n c : Nat} (hl : LAt w p l) (hn : l.length = n) (hmax : n ≤ 5000)  :
    Calls Try.prog 48 #[.slice p n c, .func (.func 36) #[] #[]] w fun e w' => ∃ r : Int, e = .returned (.int .i64 r) ∧ decide (0 ≤ r) = l.any (fun x => !isEv x) ∧ Bel w w' := by
  have HL := Lib.hid hl
  have HN := Lib.hid hn
  skip
  clear hl hn
  go_enter Try.func48, Try.ntmps48
  go_wp2
  go_loopw [8] (fun i wr => ∃ j : Nat, j ≤ n ∧ i = .int .i64 j ∧ Hid (Bel w wr) ∧ Hid (∀ x ∈ l.take j, (!isEv x) = false)) (fun i _ => n - (intOf i).toNat)
  case atStart => exact ⟨0, Nat.zero_le _, rfl, Lib.hid (Bel.refl _), Lib.hid (fun x hx => by simp at hx)⟩
  case round =>
    obtain ⟨j, hj, rfl, HB, HNO⟩ := hrel
    by_cases hlt : j < n
    · obtain ⟨b, o, rfl, hb, hc⟩ := LAt.get (EncAt.bel HL.out HB.out) (i0 := j) (by have := HN.out; omega)
      obtain ⟨c0, c1, c2, c3⟩ := hc j (by have := HN.out; omega)
      have HXJ : Hid (l[j]? = some ((ev l j).1, (ev l j).2.1, (ev l j).2.2.1, (ev l j).2.2.2)) := Lib.hid (get_ev (by have := HN.out; omega))
      generalize (ev l j).1 = x0 at c0 HXJ
      generalize (ev l j).2.1 = x1 at c1 HXJ
      generalize (ev l j).2.2.1 = x2 at c2 HXJ
      generalize (ev l j).2.2.2 = x3 at c3 HXJ
      have hlt2 : (j : Int) < n := by omega
      have HTK : Hid (l.take (j + 1) = l.take j ++ [(x0, x1, x2, x3)]) := Lib.hid (by rw [List.take_add_one, HXJ.out]; rfl)
      obtain ⟨s, hs⟩ : ∃ s, (!isEv (x0, x1, x2, x3)) = s := ⟨_, rfl⟩
      have HS := Lib.hid hs
      clear hc hb hs
      cases s
      · go_wp2_with (go_at_call 36; ((with_reducible refine (right1_lit HS.out _).mono ?_); rintro e w2 ⟨rfl, hbz⟩; have HBZ := Lib.hid hbz; clear hbz))
        exact ⟨⟨j + 1, by omega, by go_num, Lib.hid (HB.out.trans HBZ.out), Lib.hid (fun x hx => by
          rw [HTK.out] at hx
          rcases List.mem_append.1 hx with h | h
          · exact HNO.out x h
          · rw [List.mem_singleton.1 h]; exact HS.out)⟩, by simp [intOf]; omega⟩
      · go_wp2_with (go_at_call 36; ((with_reducible refine (right1_lit HS.out _).mono ?_); rintro e w2 ⟨rfl, hbz⟩; have HBZ := Lib.hid hbz; clear hbz))
        go_ret
        refine ⟨_, rfl, ?_, HB.out.trans HBZ.out⟩
        rw [decide_eq_true (by omega : (0 : Int) ≤ (j : Int))]
        symm
        exact List.any_eq_true.2 ⟨(x0, x1, x2, x3), List.mem_of_getElem? HXJ.out, HS.out⟩
    · obtain rfl : j = n := by omega
      go_wp2
      go_ret
      refine ⟨-1, rfl, ?_, HB.out⟩
      rw [decide_eq_false (by omega : ¬ (0 : Int) ≤ -1)]
      symm
      refine List.any_eq_false.2 fun x hx => ?_
      rw [HNO.out x (by rw [List.take_of_length_le (by have := HN.out; omega)]; exact hx)]
      exact Bool.false_ne_true
set_option maxRecDepth 100000 in
theorem right1_contains {w : World} {p : Option Addr} {l : List Ev} {n c : Nat} (hl : LAt w p l) (hn : l.length = n) (hmax : n ≤ 5000)  {r : Bool} (hr : l.any (fun x => !isEv x) = r) :
    Calls Try.prog 38 #[.slice p n c, .func (.func 36) #[] #[]] w (OneB r w) := by
  have HC := Lib.hid (right1_index (c := c) hl hn hmax)
  have HR := Lib.hid hr
  clear hl hn hmax hr 
  go_enter Try.func38, Try.ntmps38
  go_wp2_with (go_at_call 48; ((with_reducible refine HC.out.mono ?_); rintro e w2 ⟨q, rfl, hq, hbz⟩; have HQ := Lib.hid hq; have HBZ := Lib.hid hbz; clear hq hbz))
  go_ret
  exact ⟨rb (by have := HQ.out; rw [HR.out] at this; exact this), HBZ.out⟩
set_option maxRecDepth 100000 in
theorem right_lit {w : World} {p : Option Addr} {l : List Ev} {n c : Nat} (hl : LAt w p l) (hn : l.length = n) (hmax : n ≤ 5000) {r : Bool} (hr : right l = r) : Calls Try.prog 21 #[.slice p n c] w (OneB r w) := by
  unfold right at hr
  rw [hn] at hr
  by_cases h8 : n ≤ 8
  · obtain ⟨s, hs⟩ : ∃ s, l.any (fun x => !isEv x) = s := ⟨_, rfl⟩
    obtain rfl : (!s) = r := by
      rw [← hr, ← hs, decide_eq_true h8, Bool.true_and, List.all_eq_not_any_not]
    have HC := Lib.hid (right1_contains (c := c) hl hn hmax hs)
    have h8i : (n : Int) ≤ 8 := by omega
    clear hr hs hl hn
    go_enter Try.func21, Try.ntmps21
    go_wp2_with (go_at_call 38; ((with_reducible refine HC.out.mono ?_); rintro e w2 ⟨rfl, hbz⟩; have HBZ := Lib.hid hbz; clear hbz))
    go_ret
    exact ⟨rfl, HBZ.out⟩
  · obtain rfl : r = false := by rw [← hr, decide_eq_false h8]; rfl
    have h8i : ¬ (n : Int) ≤ 8 := by omega
    clear hr hl hn
    go_enter Try.func21, Try.ntmps21
    go_wp2
    go_ret
    exact ⟨rfl, Bel.refl _⟩
end Go.Proofs.Ytigefdoejcggpaa
