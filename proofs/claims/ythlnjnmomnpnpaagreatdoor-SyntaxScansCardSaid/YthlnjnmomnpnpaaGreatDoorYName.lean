/- The law's scope: a name out of what may be named. -/
import Derived.Test.YthlnjnmomnpnpaaGreatDoorYSrc
namespace Go.Proofs.YthlnjnmomnpnpaaGreatDoor
open Go.RowKit Tk Sy
set_option linter.unusedVariables false
set_option linter.unusedSimpArgs false
abbrev scV (p1 : Option Addr) (c1 : Nat) (p2 : Option Addr) (c2 : Nat) (p3 : Option Addr) (c3 : Nat) (c : Sco) : Value := .agg #[.slice p1 c.devs.length c1, .slice p2 c.rscs.length c2, .int .i64 c.free, .slice p3 c.held.length c3, .bool c.any]
abbrev scA (p1 : Option Addr) (c1 : Nat) (p2 : Option Addr) (c2 : Nat) (p3 : Option Addr) (c3 : Nat) (c : Sco) : Array Value := #[.slice p1 c.devs.length c1, .slice p2 c.rscs.length c2, .int .i64 c.free, .slice p3 c.held.length c3, .bool c.any]
theorem Svg.of {g : Nat} {w w1 w2 : World} (h : Bel w w1) (k : Svg g w1 w2) : Svg g w w2 := (h.svg g).trans k
set_option maxRecDepth 100000 in
set_option maxHeartbeats 4000000 in
theorem scname_lit {g : Nat} {c : Sco} {l : List ByteArray} {s t : List Int} {r : ByteArray} (h : nameV c l s = (r, t)) (w : World) {p p1 p2 p3 : Option Addr} {n cl c1 c2 c3 : Nat} (hn : l.length = n) (hl : NmsAt (mask g w) p l) (hlen : n ≤ 1000) (hS : SrcAt g w s) :
    Calls Tryz.prog 55 #[scV p1 c1 p2 c2 p3 c3 c, .pointer (some ⟨g, 0, none⟩), .slice p n cl] w fun e w' => e = .returned (.string r) ∧ Svg g w w' ∧ SrcAt g w' t := by
  have hb1 := (Bel.refl w).alloc (scA p1 c1 p2 c2 p3 c3 c) 61
  have hx1 := heap_alloc_new w (.cells (scA p1 c1 p2 c2 p3 c3 c) 61)
  have HS := Lib.hid hS
  have HL := Lib.hid hl
  obtain ⟨y, hy⟩ : ∃ y, c.any = y := ⟨_, rfl⟩
  have hq : (y = true ∨ l = []) ∨ (y = false ∧ l ≠ []) := by
    cases y
    · by_cases e : l = []
      · exact .inl (.inr e)
      · exact .inr ⟨rfl, e⟩
    · exact .inl (.inl rfl)
  rcases hq with hq | ⟨hq, hne⟩
  · obtain ⟨k, s1, hk⟩ : ∃ k s1, nx s 300 = (k, s1) := ⟨_, _, rfl⟩
    have hbd := nx_bd s (n := 300) (by omega)
    rw [hk] at hbd
    have hr : nameV c l s = (varT k, s1) := by
      unfold nameV
      rw [hy, if_pos hq, hk]
    rw [hr] at h
    cases h
    have HK := Lib.hid hk
    have HI : Hid (inInt k) := Lib.hid ⟨by have := hbd.1; omega, by have := hbd.2; omega⟩
    have hq2 : y = true ∨ (y = false ∧ n = 0) := by
      rcases hq with e | e
      · exact .inl e
      · cases y
        · exact .inr ⟨rfl, by rw [← hn, e]; rfl⟩
        · exact .inl rfl
    clear hS hl hk hbd hr hq hn
    have HY := Lib.hid hy
    clear hy
    rcases hq2 with rfl | ⟨rfl, rfl⟩
    all_goals
      go_enter Tryz.func55, Tryz.ntmps55
      go_upto_region 1 with (fail)
      generalize w.alloc (.cells (scA p1 c1 p2 c2 p3 c3 c) 61) = W1 at hb1 hx1 ⊢
      generalize w.heap.size = g1 at hx1 ⊢
      have HB := Lib.hid hb1
      have d4 : W1.cell? ⟨g1, 4, none⟩ = some (.bool c.any) := cell_of_heap hx1 4
      rw [HY.out] at d4
      clear hb1 hx1
      go_upto_region 2 with (fail)
      clear d4
      go_wp2_with (first
        | (go_at_call 21; ((with_reducible refine (next_lit HK.out (by decide) _ (HS.out.bel HB.out)).mono ?_); rintro e w2 ⟨rfl, hv, hs⟩; have HV := Lib.hid hv; have HS2 := Lib.hid hs; clear hv hs))
        | (go_at_call 92; ((with_reducible refine (var_lit rfl HI.out _).mono ?_); rintro e w3 ⟨rfl, hb⟩; have HB3 := Lib.hid hb; clear hb)))
      go_ret
      exact ⟨rfl, ((HV.out.trans (HB3.out.svg g)).of HB.out), HS2.out.bel HB3.out⟩
  · subst hq
    obtain ⟨k, s1, hk⟩ : ∃ k s1, nx s (n : Int) = (k, s1) := ⟨_, _, rfl⟩
    have hn0 : 0 < n := by
      cases l with
      | nil => exact absurd rfl hne
      | cons a b => rw [← hn]; exact Nat.succ_pos _
    have hbd := nx_bd s (n := (n : Int)) (by omega)
    rw [hk] at hbd
    obtain ⟨j, rfl⟩ : ∃ j : Nat, k = (j : Int) := Int.eq_ofNat_of_zero_le hbd.1
    have hj : j < n := by have := hbd.2; omega
    have hr : nameV c l s = (l.getD j ⟨#[]⟩, s1) := by
      unfold nameV
      rw [hy, if_neg (by rintro (c | c); cases c; exact hne c), hn, hk]
      rfl
    rw [hr] at h
    obtain ⟨x, hx⟩ : ∃ x, l[j]? = some x := ⟨_, List.getElem?_eq_getElem (by rw [hn]; exact hj)⟩
    have hxd : l.getD j ⟨#[]⟩ = x := by rw [List.getD_eq_getElem?_getD, hx]; rfl
    rw [hxd] at h
    cases h
    have HK := Lib.hid hk
    obtain ⟨_, b, o, rfl, hbl, hc⟩ := hl j r hx
    have HC : Hid (∀ w', Svg g w w' → w'.cell? ⟨b, o + j, none⟩ = some (.string r)) := Lib.hid (fun w' hv => (mask_sub g w').cell _ _ (by rw [mask_size]; rw [mask_size] at hbl; exact Nat.lt_of_lt_of_le hbl hv.size) (((hv.mask HS.out.lt).cell (p := ⟨b, o + j, none⟩) hbl).trans hc))
    have HY := Lib.hid hy
    have hn1 : ((n : Int) == 0) = false := by rw [beq_eq_false_iff_ne]; omega
    have hj0 : (0 : Int) ≤ (j : Int) := by omega
    have hj1 : (j : Int) < (n : Int) := by omega
    have HN1 : Hid (1 ≤ (n : Int)) := Lib.hid (by omega)
    clear hS hl hk hbd hr hn hy hx hxd hbl hc hne hlen
    go_enter Tryz.func55, Tryz.ntmps55
    go_upto_region 1 with (fail)
    generalize w.alloc (.cells (scA p1 c1 p2 c2 p3 c3 c) 61) = W1 at hb1 hx1 ⊢
    generalize w.heap.size = g1 at hx1 ⊢
    have HB := Lib.hid hb1
    have d4 : W1.cell? ⟨g1, 4, none⟩ = some (.bool c.any) := cell_of_heap hx1 4
    rw [HY.out] at d4
    clear hb1 hx1
    go_upto_region 3 with (fail)
    clear d4
    go_wp2_with (go_at_call 21; ((with_reducible refine (next_lit HK.out HN1.out _ (HS.out.bel HB.out)).mono ?_); rintro e w2 ⟨rfl, hv, hs⟩; have HV := Lib.hid hv; have HS2 := Lib.hid hs; have hc := HC.out _ (hv.of HB.out); clear hv hs))
    go_ret
    exact ⟨rfl, HV.out.of HB.out, HS2.out⟩
end Go.Proofs.YthlnjnmomnpnpaaGreatDoor
