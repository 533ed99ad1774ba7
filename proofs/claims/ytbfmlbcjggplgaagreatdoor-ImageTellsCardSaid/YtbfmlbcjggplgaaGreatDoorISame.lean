/- Whether two images are the same. -/
import Derived.Test.YtbfmlbcjggplgaaGreatDoorIBase
import Derived.BigQuiet
import Derived.Deep.QuietTactic
namespace Go.Proofs.YtbfmlbcjggplgaaGreatDoor
open Go.RowKit Im
set_option linter.unusedVariables false
theorem all_of_ext {α : Type} {l m : List α} (hl : l.length = m.length) (h : ∀ j : Nat, j < l.length → l[j]? = m[j]?) : l = m := by
  apply List.ext_getElem?
  intro j
  by_cases hj : j < l.length
  · exact h j hj
  · rw [List.getElem?_eq_none (by omega), List.getElem?_eq_none (by omega)]
set_option maxHeartbeats 4000000 in
theorem eqInts_lit {p q : Option Addr} {c d : Nat} {xs ys : List Int} {r : Bool} (h : decide (xs = ys) = r) (hx : xs.length ≤ 9223372036854775807) (hy : ys.length ≤ 9223372036854775807) (w : World) (H1 : Hid (IntsQ w p xs)) (H2 : Hid (IntsQ w q ys)) :
    Calls Tryz.prog 31 #[.slice p xs.length c, .slice q ys.length d] w fun e w' => e = .returned (.bool r) ∧ Bel w w' := by
  by_cases hlen : xs.length = ys.length
  · have HR := Lib.hid h
    have HLEN := Lib.hid hlen
    have e1 : ((xs.length : Int) != (ys.length : Int)) = false := by simp [hlen]
    clear h hlen
    go_enter Tryz.func31, Tryz.ntmps31
    go_wp2_with fail
    clear e1
    go_loopw [13] (fun i wr => ∃ k : Nat, k ≤ xs.length ∧ i = .int .i64 k ∧ Hid (Bel w wr ∧ ∀ j : Nat, j < k → xs[j]? = ys[j]?)) (fun i _ => xs.length - (intOf i).toNat)
    case atStart => exact ⟨0, Nat.zero_le _, rfl, Bel.refl _, fun j hj => by omega⟩
    case round =>
      obtain ⟨k, hk, rfl, HA⟩ := hrel
      by_cases hlt : k < xs.length
      · obtain ⟨x, hxk⟩ : ∃ x, xs[k]? = some x := ⟨_, List.getElem?_eq_getElem hlt⟩
        obtain ⟨y, hyk⟩ : ∃ y, ys[k]? = some y := ⟨_, List.getElem?_eq_getElem (by rw [← HLEN.out]; exact hlt)⟩
        obtain ⟨b1, o1, hp, _, e1⟩ := IntsQ.get (H1.out.bel HA.out.1) hxk
        obtain ⟨b2, o2, hq, _, e2⟩ := IntsQ.get (H2.out.bel HA.out.1) hyk
        subst hp
        subst hq
        have hk' : (k : Int) < (xs.length : Int) := by omega
        have hk2 : (k : Int) < (ys.length : Int) := by have := HLEN.out; omega
        have HLT := Lib.hid hlt
        by_cases hxy : x = y
        · have HN : Hid (∀ j : Nat, j < k + 1 → xs[j]? = ys[j]?) := Lib.hid (fun j hj => by
            by_cases e : j = k
            · rw [e, hxk, hyk, hxy]
            · exact HA.out.2 j (by omega))
          subst hxy
          clear hxk hyk hlt
          go_wp2_with fail
          go_quiet (fail)
          go_wp2_with fail
          go_roundw
          case rel => exact ⟨k + 1, HLT.out, by go_num, HA.out.1.drewN _, HN.out⟩
          case measure => simp [intOf]; have := HLT.out; omega
        · have hne : ¬ xs = ys := fun e => hxy (by rw [e, hyk] at hxk; exact (Option.some.inj hxk).symm)
          have hrf : r = false := by rw [← HR.out]; exact decide_eq_false hne
          have HRF := Lib.hid hrf
          have v1 : (x != y) = true := by simp [hxy]
          clear hxk hyk hlt hne hxy hrf
          go_wp2_with fail
          go_quiet (fail)
          go_wp2_with fail
          go_ret
          exact ⟨congrArg (fun b => Ending.returned (.bool b)) HRF.out.symm, HA.out.1.drewN _⟩
      · obtain rfl : k = xs.length := by omega
        have hrt : r = true := by rw [← HR.out]; exact decide_eq_true (all_of_ext HLEN.out HA.out.2)
        have HRT := Lib.hid hrt
        clear hrt hlt
        go_wp2_with fail
        go_ret
        exact ⟨congrArg (fun b => Ending.returned (.bool b)) HRT.out.symm, HA.out.1⟩
  · have hrf : r = false := by rw [← h]; exact decide_eq_false (fun e => hlen (by rw [e]))
    subst hrf
    have e1 : ((xs.length : Int) != (ys.length : Int)) = true := by simp; omega
    clear h hlen
    go_enter Tryz.func31, Tryz.ntmps31
    go_wp2_with fail
    go_ret
    exact ⟨rfl, Bel.refl _⟩
end Go.Proofs.YtbfmlbcjggplgaaGreatDoor
