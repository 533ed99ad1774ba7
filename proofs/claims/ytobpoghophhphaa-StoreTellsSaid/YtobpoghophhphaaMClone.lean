/- Rows cloned; rows made. -/
import Derived.Test.YtobpoghophhphaaMAt
import Derived.Lib.LazyBuf
import Derived.LoopN
namespace Go.Proofs.Ytobpoghophhphaa
open Go.RowKit Mm
set_option linter.unusedVariables false
set_option linter.unusedSimpArgs false
/-- a row is nil, or its block lies -/
theorem ERow.two {α : Type} {enc : α → List Value} {t : TypeId} {k : Nat} (hk : ∀ x, (enc x).length = k) {w : World} {base : Nat} {s : Sl} {l : List α} (h : ERow enc t k w base s.val l) :
    (s.p = none ∧ s.n = 0 ∧ s.c = 0 ∧ l = []) ∨ ∃ g, s.p = some ⟨g, 0, none⟩ ∧ base ≤ g ∧ g < w.heap.size ∧ ∀ (j : Nat) (x : α), l[j]? = some x → ∀ (i : Nat) (v : Value), (enc x)[i]? = some v → w.cell? ⟨g, j * k + i, none⟩ = some v := by
  rcases h.2 with ⟨h1, hx⟩ | ⟨g, cap, cur, h1, hb, hg, hnc, hcm, hcs, htake⟩
  · injection h1 with h1 h2 h3
    exact .inl ⟨h1, h2, h3, List.eq_nil_of_length_eq_zero hx⟩
  · injection h1 with h1 h2 h3
    refine .inr ⟨g, h1, hb, lt_of_heap hg, fun j x hj i v hv => ?_⟩
    obtain ⟨g', cs, e1, _, _, _, _, _, _, h8⟩ := h.at hk hj
    rw [h1] at e1
    injection e1 with e1
    injection e1 with e1
    subst e1
    exact h8 i v hv
set_option maxRecDepth 100000 in
theorem cloneE {w : World} {base : Nat} {s : Sl} {l : List (Int × Int)} (h : ERow encE 48 2 w base s.val l) (hl : l.length ≤ 8) :
    Calls Try.prog 48 #[.slice s.p s.n s.c] w fun e w' => ∃ t : Sl, e = .returned (.slice t.p t.n t.c) ∧ ERow encE 48 2 w' w.heap.size t.val l ∧ Bel w w' := by
  obtain ⟨p, n, c⟩ := s
  have hn := h.n
  rcases ERow.two (enc := encE) (k := 2) (fun _ => rfl) h with ⟨h1, h2, h3, h4⟩ | ⟨b, h1, hb1, hb2, hx⟩
  · simp only at h1 h2 h3
    subst h1 h2 h3 h4
    have he : ∀ w, (binOp .eql 46 (.slice none 0 0) (.slice none 0 0)).run Try.prog w = .ok (.bool true) w := fun w => Go.run_eql_slice_nil w _ _ _ _ _ Try.underlying46
    go_enter Try.func48, Try.ntmps48
    go_wp2
    go_ret
    exact ⟨⟨none, 0, 0⟩, rfl, ERow.nil _ _ _ _ _, Bel.refl _⟩
  · simp only at h1 hn
    subst h1 hn
    have HX := Lib.hid hx
    have HL := Lib.hid hl
    clear hx hl h
    have he : ∀ w, (binOp .eql 46 (.slice (some ⟨b, 0, none⟩) l.length c) (.slice none 0 0)).run Try.prog w = .ok (.bool false) w := fun w => Go.run_eql_slice_nil w _ _ _ _ _ Try.underlying46
    go_enter Try.func48, Try.ntmps48
    have hrow : ERow encE 48 2 (w.alloc (.cells #[] 48)) w.heap.size (.slice (some ⟨w.heap.size, 0, none⟩) 0 0) [] := ⟨rfl, .inr ⟨w.heap.size, 0, #[], rfl, Nat.le_refl _, heap_alloc_new w _, Nat.le_refl _, by decide, rfl, rfl⟩⟩
    obtain ⟨v', w', hrun, hown, hsv, hv⟩ := app_more (w := w.alloc (.cells #[] 48)) entTy hrow (b := b) (o := 0) (c := c) (r := l) rfl (fun j x hj i u hu => by
      rw [Nat.zero_add]
      exact (((Bel.refl w).alloc _ _).cell (p := ⟨b, j * 2 + i, none⟩) hb2).trans (HX.out j x hj i u hu)) (.inr (by intro c; cases c)) (by show 0 + l.length ≤ 100000; have := HL.out; omega) (by rw [World.size_alloc]; omega)
    obtain ⟨p', c', rfl, _⟩ := ERow.form (enc := encE) (k := 2) (fun _ => rfl) hown
    have HRUN := Lib.hid hrun
    have HOWN := Lib.hid hown
    have hbel : Bel w w' := Sv.bel hsv ((Bel.refl w).alloc _ _) (fun k hk => by cases hk; exact Nat.le_refl _)
    have HB := Lib.hid hbel
    clear hrun hown hsv hv hrow hbel
    go_wp2_with (at_builtin; refine wpList_app rfl (.tmp 5) (.tmp 6) 46 rfl _ _ _ (by rfl) (by rfl) HRUN.out ?_)
    go_ret
    exact ⟨⟨p', _, c'⟩, rfl, HOWN.out, HB.out⟩
set_option maxRecDepth 100000 in
theorem cloneI {w : World} {base : Nat} {s : Sl} {l : List Int} (h : ERow encI 3 1 w base s.val l) (hl : l.length ≤ 5000) :
    Calls Try.prog 49 #[.slice s.p s.n s.c] w fun e w' => ∃ t : Sl, e = .returned (.slice t.p t.n t.c) ∧ ERow encI 3 1 w' w.heap.size t.val l ∧ Bel w w' := by
  obtain ⟨p, n, c⟩ := s
  have hn := h.n
  rcases ERow.two (enc := encI) (k := 1) (fun _ => rfl) h with ⟨h1, h2, h3, h4⟩ | ⟨b, h1, hb1, hb2, hx⟩
  · simp only at h1 h2 h3
    subst h1 h2 h3 h4
    have he : ∀ w, (binOp .eql 24 (.slice none 0 0) (.slice none 0 0)).run Try.prog w = .ok (.bool true) w := fun w => Go.run_eql_slice_nil w _ _ _ _ _ Try.underlying24
    go_enter Try.func49, Try.ntmps49
    go_wp2
    go_ret
    exact ⟨⟨none, 0, 0⟩, rfl, ERow.nil _ _ _ _ _, Bel.refl _⟩
  · simp only at h1 hn
    subst h1 hn
    have HX := Lib.hid hx
    have HL := Lib.hid hl
    clear hx hl h
    have he : ∀ w, (binOp .eql 24 (.slice (some ⟨b, 0, none⟩) l.length c) (.slice none 0 0)).run Try.prog w = .ok (.bool false) w := fun w => Go.run_eql_slice_nil w _ _ _ _ _ Try.underlying24
    go_enter Try.func49, Try.ntmps49
    have hrow : ERow encI 3 1 (w.alloc (.cells #[] 3)) w.heap.size (.slice (some ⟨w.heap.size, 0, none⟩) 0 0) [] := ⟨rfl, .inr ⟨w.heap.size, 0, #[], rfl, Nat.le_refl _, heap_alloc_new w _, Nat.le_refl _, by decide, rfl, rfl⟩⟩
    obtain ⟨v', w', hrun, hown, hsv, hv⟩ := app_more (w := w.alloc (.cells #[] 3)) intTy hrow (b := b) (o := 0) (c := c) (r := l) rfl (fun j x hj i u hu => by
      rw [Nat.zero_add]
      exact (((Bel.refl w).alloc _ _).cell (p := ⟨b, j * 1 + i, none⟩) hb2).trans (HX.out j x hj i u hu)) (.inr (by intro c; cases c)) (by show 0 + l.length ≤ 100000; have := HL.out; omega) (by rw [World.size_alloc]; omega)
    obtain ⟨p', c', rfl, _⟩ := ERow.form (enc := encI) (k := 1) (fun _ => rfl) hown
    have HRUN := Lib.hid hrun
    have HOWN := Lib.hid hown
    have hbel : Bel w w' := Sv.bel hsv ((Bel.refl w).alloc _ _) (fun k hk => by cases hk; exact Nat.le_refl _)
    have HB := Lib.hid hbel
    clear hrun hown hsv hv hrow hbel
    go_wp2_with (at_builtin; refine wpList_app rfl (.tmp 5) (.tmp 6) 24 rfl _ _ _ (by rfl) (by rfl) HRUN.out ?_)
    go_ret
    exact ⟨⟨p', _, c'⟩, rfl, HOWN.out, HB.out⟩
end Go.Proofs.Ytobpoghophhphaa
