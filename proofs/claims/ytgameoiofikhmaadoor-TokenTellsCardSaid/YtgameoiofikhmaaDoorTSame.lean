/- Whether two rows of tokens are the same, as the laws ask it. -/
import Derived.Test.YtgameoiofikhmaaDoorTLaw3
namespace Go.Proofs.YtgameoiofikhmaaDoor
open Go.RowKit Tk
set_option linter.unusedVariables false
theorem take_same {la lb : List Tok} {k : Nat} {x y : Tok} (h : la.take k = lb.take k) (hx : la[k]? = some x) (hy : lb[k]? = some y) (he : x = y) : la.take (k + 1) = lb.take (k + 1) := by
  rw [List.take_add_one, List.take_add_one, h, hx, hy, he]
theorem not_same {la lb : List Tok} {k : Nat} {x y : Tok} (hx : la[k]? = some x) (hy : lb[k]? = some y) (he : x ≠ y) : la ≠ lb := by
  rintro rfl
  rw [hx] at hy
  exact he (Option.some.inj hy)
set_option maxHeartbeats 4000000 in
theorem same_any (la lb : List Tok) (pa pb : Option Addr) (ca cb : Nat) (w : World) (hA : ToksQ w pa la) (hB : ToksQ w pb lb) (hla : la.length ≤ 1000000000) (hlb : lb.length ≤ 1000000000) :
    Calls Tryd.prog 20 #[.slice pa la.length ca, .slice pb lb.length cb] w fun e w' => e = .returned (.bool (decide (la = lb))) ∧ Bel w w' := by
  by_cases hl : la.length = lb.length
  · obtain ⟨r, hr⟩ : ∃ r, decide (la = lb) = r := ⟨_, rfl⟩
    rw [hr]
    have HR := Lib.hid hr
    have HA := Lib.hid hA
    have HB := Lib.hid hB
    have HL := Lib.hid hl
    obtain ⟨n, hn⟩ : ∃ n, la.length = n := ⟨_, rfl⟩
    rw [hn] at hla hl ⊢
    rw [← hl]
    have HN := Lib.hid hn
    clear hr hA hB hn hl hlb
    go_enter Tryd.func20, Tryd.ntmps20
    go_wp2
    go_loopw [5] (fun i wr => ∃ k q : Nat, k ≤ n ∧ i = .int .i64 k ∧ wr = w.drewN q ∧ Hid (la.take k = lb.take k)) (fun i _ => n - (intOf i).toNat)
    case atStart => exact ⟨0, 0, Nat.zero_le _, rfl, rfl, Lib.hid (by rw [List.take_zero, List.take_zero])⟩
    case round =>
      obtain ⟨k, q, hk, rfl, rfl, HT⟩ := hrel
      by_cases hlt : k < n
      · have hlk : k < la.length := by have := HN.out; omega
        have hlk2 : k < lb.length := by have := HN.out; have := HL.out; omega
        obtain ⟨⟨k1, s1, n1, m1⟩, hx⟩ : ∃ x, la[k]? = some x := ⟨_, List.getElem?_eq_getElem hlk⟩
        obtain ⟨⟨k2, s2, n2, m2⟩, hy⟩ : ∃ y, lb[k]? = some y := ⟨_, List.getElem?_eq_getElem hlk2⟩
        obtain ⟨b1, o1, rfl, hb1, a0, a1, a2, a3⟩ := HA.out k _ hx
        obtain ⟨b2, o2, rfl, hb2, b0, b1', b2', b3⟩ := HB.out k _ hy
        have hlt2 : (k : Int) < n := by omega
        by_cases he : (⟨k1, s1, n1, m1⟩ : Tok) = ⟨k2, s2, n2, m2⟩
        · have HS := Lib.hid (take_same HT.out hx hy he)
          simp only [Tok.mk.injEq] at he
          obtain ⟨rfl, rfl, rfl, rfl⟩ := he
          have hne := tneq_same k1 n1 m1 (str s1)
          clear hx hy hlk hlk2
          go_wp2
          go_quiet (fail)
          go_wp2
          exact ⟨⟨k + 1, q + nq, by omega, by go_num, rfl, HS⟩, by simp [intOf]; omega⟩
        · have hne := tneq_not k1 n1 m1 k2 n2 m2 (str s1) (str s2) (fun c => he (by rw [c.1, str_inj c.2.1, c.2.2.1, c.2.2.2]))
          obtain rfl : r = false := by rw [← HR.out]; exact decide_eq_false (not_same hx hy he)
          clear hx hy hlk hlk2 he
          go_wp2
          go_quiet (fail)
          go_wp2
          go_ret
          exact ⟨rfl, ((Bel.refl _).drewN _).drewN _⟩
      · obtain rfl : r = true := by
          rw [← HR.out]
          refine decide_eq_true ?_
          have h := HT.out
          rwa [List.take_of_length_le (by have := HN.out; omega), List.take_of_length_le (by have := HN.out; have := HL.out; omega)] at h
        go_wp2
        go_ret
        exact ⟨rfl, (Bel.refl _).drewN _⟩
  · have e : decide (la = lb) = false := decide_eq_false (by rintro rfl; exact hl rfl)
    rw [e]
    have hb : ((la.length : Int) != (lb.length : Int)) = true := by simp; omega
    have hb2 : ((la.length : Int) == (lb.length : Int)) = false := by simp; omega
    generalize la.length = n1 at *
    generalize lb.length = n2 at *
    clear e
    go_enter Tryd.func20, Tryd.ntmps20
    go_wp2
    go_ret
    exact ⟨rfl, Bel.refl _⟩
theorem same_lit {la lb : List Tok} {pa pb : Option Addr} {ca cb na nb : Nat} {w : World} {r : Bool} (h : decide (la = lb) = r) (hna : la.length = na) (hnb : lb.length = nb) (hA : ToksQ w pa la) (hB : ToksQ w pb lb) (hla : na ≤ 1000000000) (hlb : nb ≤ 1000000000) :
    Calls Tryd.prog 20 #[.slice pa na ca, .slice pb nb cb] w fun e w' => e = .returned (.bool r) ∧ Bel w w' := by
  subst h
  subst hna
  subst hnb
  exact same_any la lb pa pb ca cb w hA hB hla hlb
end Go.Proofs.YtgameoiofikhmaaDoor
