/- A program of the law's own is a program in memory. -/
import Derived.Test.YthlnjnmomnpnpaaDoorYPh
namespace Go.Proofs.YthlnjnmomnpnpaaDoor
open Go.RowKit Tk Sy
set_option linter.unusedVariables false
theorem wfT_of {t : Tsk} (h : isTsk t = true) (hb : t.body.length ≤ 3) : WfT t := by
  unfold isTsk within at h
  simp only [Bool.and_eq_true, decide_eq_true_eq] at h
  obtain ⟨h1, ⟨h2, h3⟩, ⟨h4, h5⟩, ⟨h6, h7⟩, _⟩ := h
  have h8 : t.line ≤ 7 := by split at h7 <;> omega
  exact ⟨Nat.le_trans (name_size h1) (by unfold maxLen; decide), ⟨by omega, by omega⟩, ⟨by omega, by omega⟩, ⟨by omega, by omega⟩, Nat.le_trans hb (by decide)⟩
theorem TsksAt.of {w : World} {p : Option Addr} {l : List PT} (h : EncAt encT 6 w p l) (hl : ∀ y ∈ l, WfT y.t ∧ SAt w y.q y.t.body) : TsksAt w p (l.map PT.t) := fun j x hj => by
  rw [List.getElem?_map] at hj
  cases hy : l[j]? with
  | none => rw [hy] at hj; cases hj
  | some y =>
    rw [hy] at hj
    have hs : y.t = x := by simpa using hj
    subst hs
    obtain ⟨b, o, hp, hb, hc⟩ := h j y hy
    obtain ⟨h1, h2⟩ := hl y (List.mem_of_getElem? hy)
    exact ⟨h1, b, o, y.q, y.c, hp, hb, hc 0 _ rfl, hc 1 _ rfl, hc 2 _ rfl, hc 3 _ rfl, hc 4 _ rfl, hc 5 _ rfl, h2⟩
theorem ProgAt.prg {w W : World} {p : Prg} {q1 q2 q3 : Option Addr} {c3 : Nat} (h : ProgAt w W p q1 q2 q3 c3) (hr : right p = true) : PrgAt W q1 q2 q3 p := by
  obtain ⟨B, l, hB, ht, hrow, hok, hd, hs⟩ := h.ex
  obtain ⟨q, c, hv, he, _⟩ := hrow.form tskTy.len
  have hq : q3 = q := by injection hv
  subst hq
  unfold right within at hr
  simp only [Bool.and_eq_true, decide_eq_true_eq] at hr
  obtain ⟨⟨h1, h2⟩, h3, _, h4, _, h5, _⟩ := hr
  refine ⟨hd.sub (maskP_sub _ W), hs.sub (maskP_sub _ W), ?_, ⟨by omega, by omega⟩, by omega, by omega, by omega⟩
  rw [ht]
  exact TsksAt.of he (fun y hy => ⟨wfT_of (hok y hy).wf (hok y hy).len, (hok y hy).body.sub (maskP_sub _ W)⟩)
end Go.Proofs.YthlnjnmomnpnpaaDoor
