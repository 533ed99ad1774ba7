/- The document's own reading of a text: where it stands. -/
import Derived.Test.YtbfmlbcjggplgaaGreatDoorIRefF2
import Derived.Test.YtbfmlbcjggplgaaGreatDoorIFitS
namespace Go.Proofs.YtbfmlbcjggplgaaGreatDoor
open Go.RowKit Im
set_option linter.unusedVariables false
set_option linter.unusedSimpArgs false
abbrev box0 : Array Value := #[.slice none 0 0, .int .i64 0, .slice none 0 0]
theorem FitSt.mem' {w : World} {bx b3 : Nat} {box : Array Value} {mem : Int} {vW vS : Value} {L : List Int} {M : List Sym} {W : World} (h : FitSt w bx b3 box mem vW L vS M W) (y : Int) : FitSt w bx b3 box y vW L vS M (W.setCell ⟨b3, 1, none⟩ (.int .i64 y)) :=
  ⟨h.bel.setCell (p := ⟨b3, 1, none⟩) h.lo _, by rw [heap_setCell_other _ _ _ _ (show bx ≠ b3 from h.ne)]; exact h.hbx, heap_set_b3 h.hb3 1 _, erow_set h.ws (own_ne h.ws h.hb3 (by decide)) _, erow_set h.ss (own_ne h.ss h.hb3 (by decide)) _, h.ne, h.lo⟩
theorem rd_new (w : World) : FitSt w w.heap.size (w.heap.size + 1) box0 0 (.slice none 0 0) [] (.slice none 0 0) [] ((w.alloc (.cells box0 25)).alloc (.cells box0 25)) := by
  have h1 := heap_alloc_new w (.cells box0 25)
  have h2 := heap_alloc_new (w.alloc (.cells box0 25)) (.cells box0 25)
  rw [World.size_alloc] at h2
  exact ⟨((Bel.refl w).alloc _ _).alloc _ _, ((Bel.refl _).alloc _ _).stays h1, h2, ERow.nil .., ERow.nil .., by omega, by omega⟩
theorem rd_succ (s : ByteArray) (k : Nat) (h : k < s.size) : rdF rd0 (s.data.toList.take (k + 1)) = rdStep (rdF rd0 (s.data.toList.take k)) s[k] := by
  rw [List.take_succ_eq_append_getElem (by simpa using h), rdF_app]
  rfl
theorem chk_len : ∀ (n : Nat) (l : Bs), l.length ≤ n → (chk l).length ≤ l.length := by
  intro n
  induction n with
  | zero =>
    intro l hl
    unfold chk
    rw [if_neg (by omega)]
    simp
  | succ n ih =>
    intro l hl
    unfold chk
    split
    · have := ih (l.drop 9) (by simp; omega)
      simp at this ⊢
      omega
    · simp
theorem extract_list (s : ByteArray) (a b : Nat) : (s.extract a b).data.toList = (s.data.toList.take b).drop a := by
  rw [ByteArray.data_extract]
  simp [List.drop_take]
end Go.Proofs.YtbfmlbcjggplgaaGreatDoor
