/- Allowed. -/
import Derived.Test.YtigefdoejcggpaaNLeads
namespace Go.Proofs.Ytigefdoejcggpaa
open Go.RowKit Ax
set_option linter.unusedVariables false
set_option linter.unusedSimpArgs false
theorem MapAt.made (w : World) (l : List Ev) : MapAt (w.alloc (.map #[] 0)) w.heap.size l := ⟨#[], 0, heap_alloc_new w (.map #[] 0), fun x hx => by simp at hx⟩
theorem Bel.allocm {w w' : World} (h : Bel w w') (es : Array MapEntry) (c : Nat) : Bel w (w'.alloc (.map es c)) := Below.alloc h h.size _
set_option maxRecDepth 100000 in
theorem allowed_lit {w : World} {p : Option Addr} {l : List Ev} {n c : Nat} (hl : LAt w p l) (hn : l.length = n) (hnc : n ≤ c) (hmax : n ≤ 5000) {r : Bool} (hr : allowed l = r) : Calls Try.prog 23 #[.slice p n c] w (OneB r w) := by
  obtain ⟨a, ha⟩ : ∃ a, right l = a := ⟨_, rfl⟩
  have HA := Lib.hid ha
  have HL := Lib.hid hl
  have HN := Lib.hid hn
  have HMX := Lib.hid hmax
  have HR := Lib.hid hr
  cases a
  · obtain rfl : r = false := by rw [← hr]; unfold allowed; rw [ha]; rfl
    clear hl hn hnc hr ha
    go_enter Try.func23, Try.ntmps23
    go_wp2_with (go_at_call 21; ((with_reducible refine (right_lit HL.out HN.out HMX.out HA.out).mono ?_); rintro e w2 ⟨rfl, hbz⟩; have HB1 := Lib.hid hbz; clear hbz))
    go_ret
    exact ⟨rfl, HB1.out⟩
  · have hlr : leadsB l 9 ⟨0, 0, 0, 0, 0⟩ = r := by rw [← hr]; unfold allowed; rw [ha]; rfl
    have HLR := Lib.hid hlr
    have hn8 : n ≤ 8 := by unfold right at ha; simp only [Bool.and_eq_true, decide_eq_true_eq] at ha; omega
    have HLE : Hid (∀ gm, LeadsAt l n c gm 9) := Lib.hid (fun gm => by
      have h : ∀ f, LeadsAt l n c gm f := fun f => by
        induction f with
        | zero => exact LeadsAt.zero _ _ _ _
        | succ f ih => exact LeadsAt.succ ha hn hnc ih
      exact h 9)
    have HUN : Hid ((und l ⟨0, 0, 0, 0, 0⟩).length < 9) := Lib.hid (by have := und_le l ⟨0, 0, 0, 0, 0⟩; omega)
    have hmm := @run_makeMap Try.prog
    clear hl hn hnc hr ha hlr hmax
    go_enter Try.func23, Try.ntmps23
    go_wp2_with fail
    refine (right_lit HL.out HN.out HMX.out HA.out).mono ?_
    rintro e w2 ⟨rfl, hbz⟩
    have HB1 := Lib.hid hbz
    have HL2 := Lib.hid (LAt.bel HL.out (((hbz.allocm #[] 0).alloc #[.slice p n c, .map (some w2.heap.size)] 55)))
    have HM2 := Lib.hid ((MapAt.made w2 l).bel ((Bel.refl _).alloc #[.slice p n c, .map (some w2.heap.size)] 55))
    clear hbz
    go_wp2_with fail
    refine (HLE.out _ _ _ 0 0 0 0 0 HL2.out HM2.out (by decide) HUN.out).mono ?_
    rintro e w3 ⟨rfl, hs, -⟩
    rw [HLR.out]
    go_wp2
    go_ret
    exact ⟨rfl, hs.bel ((HB1.out.allocm #[] 0).alloc #[.slice p n c, .map (some w2.heap.size)] 55) HB1.out.size⟩
end Go.Proofs.Ytigefdoejcggpaa
