/- What a uart's, a timer's, a gpio's methods leave. -/
import Derived.Test.YtbhpnoodpicdkaaGMeth
import Derived.BigQuiet
namespace Go.Proofs.Ytbhpnoodpicdkaa
open Go.RowKit Dv
open Plain (w32_lo w32_hi w32_w32 w32_in)
set_option linter.unusedVariables false
set_option linter.unusedSimpArgs false
/-- nothing elder has turned -/
abbrev Ysv (B : Nat) (w w' : World) : Prop := Sv (fun k => B ≤ k) w w'
theorem Svg.ysv {B g : Nat} {w w' : World} (h : Svg g w w') (hg : B ≤ g) : Ysv B w w' := ⟨h.os, h.tape, h.output, h.size, fun k hk hs => h.block k hk (by rintro rfl; exact hs hg)⟩
theorem Bel.ysv {B : Nat} {w w' : World} (h : Bel w w') : Ysv B w w' := h.sv _
theorem Ysv.bel {B : Nat} {w w' w0 : World} (h : Ysv B w w') (h0 : Bel w0 w) (hB : w0.heap.size ≤ B) : Bel w0 w' := Sv.bel h h0 (fun k hk => Nat.le_trans hB hk)
/-- a state in a box, its queue elsewhere -/
def Held (B g : Nat) (t : TypeId) (d : Dev) (w : World) : Prop := ∃ p n c, BoxAt w g t d (.slice p n c) ∧ QAt w (.slice p n c) d.q ∧ Off B g (.slice p n c)
def Fresh (B g : Nat) (t : TypeId) (d : Dev) (w : World) : Prop := ∃ p n c, BoxAt w g t d (.slice p n c) ∧ ERow encI 3 1 w B (.slice p n c) d.q ∧ Off B g (.slice p n c) ∧ B ≤ w.heap.size
theorem Fresh.held {B g : Nat} {t : TypeId} {d : Dev} {w : World} (h : Fresh B g t d w) : Held B g t d w := by
  obtain ⟨p, n, c, h1, h2, h3, _⟩ := h
  exact ⟨p, n, c, h1, (ERow.qat h2).1, h3⟩
theorem QAt.len {w : World} {p : Option Addr} {n c : Nat} {q : List Int} (h : QAt w (.slice p n c) q) : n = q.length := by
  rcases h with ⟨h, rfl⟩ | ⟨b, o, c', h, _⟩
  · injection h
  · injection h
def Left (B g : Nat) (t : TypeId) (d : Dev) (v : Value) (w : World) (e : Ending) (w' : World) : Prop := e = .returned v ∧ Ysv B w w' ∧ Held B g t d w'
theorem left_same {B g : Nat} {t : TypeId} {d : Dev} {v : Value} {w : World} (h : Held B g t d w) : Left B g t d v w (.returned v) w := ⟨rfl, (Bel.refl w).ysv, h⟩
theorem left_set {B g : Nat} {t : TypeId} {d d' : Dev} {p : Option Addr} {n c : Nat} {v : Value} {w w' : World} (hg : B ≤ g) (hs : Svg g w w') (hB : BoxAt w' g t d' (.slice p n c)) (hq : QAt w (.slice p n c) d.q) (ho : Off B g (.slice p n c)) (he : d'.q = d.q) : Left B g t d' v w (.returned v) w' :=
  ⟨rfl, hs.ysv hg, p, n, c, hB, by rw [he]; exact hq.svg hs ho, ho⟩
theorem first_nil {B g : Nat} {t : TypeId} {d : Dev} {w : World} (h : Held B g t d w) (hq : d.q = []) :
    Calls Try.prog 45 #[.pointer (some ⟨g, 0, none⟩)] w (Left B g t d (.int .i64 (-1)) w) := by
  have HH := Lib.hid h
  obtain ⟨p, n, c, hB, hQ, ho⟩ := h
  obtain ⟨k0, k1, k2, k3, k4, k5, k6, k7⟩ := hB.cells
  have hn : n = 0 := by rw [QAt.len hQ, hq]; rfl
  subst hn
  clear hB hQ ho hq
  go_enter Try.func45, Try.ntmps45
  go_wp2
  go_ret
  exact left_same HH.out
theorem first_cons {B g : Nat} {t : TypeId} {d : Dev} {w : World} {x : Int} {r : List Int} (h : Held B g t d w) (hg : B ≤ g) (hq : d.q = x :: r) :
    Calls Try.prog 45 #[.pointer (some ⟨g, 0, none⟩)] w (Left B g t (upd { d with q := r }) (.int .i64 x) w) := by
  obtain ⟨p, n, c, hB, hQ, ho⟩ := h
  have f5 := hB.frozen 5
  obtain ⟨k0, k1, k2, k3, k4, k5, k6, k7⟩ := hB.cells
  have HB := Lib.hid hB
  rcases hQ with ⟨hv, hq2⟩ | ⟨b, o, c', hv, hc, ⟨qs, qf, hqb⟩, hx⟩
  · rw [hq2] at hq; cases hq
  · have hb := lt_of_heap hqb
    have HQB := Lib.hid hqb
    clear hqb
    injection hv with h1 h2 h3
    subst h1 h3
    have h0 : w.cell? ⟨b, o, none⟩ = some (.int .i64 x) := hx 0 x (by rw [hq]; rfl)
    have hlen : d.q.length = r.length + 1 := by rw [hq]; rfl
    obtain ⟨m, rfl⟩ : ∃ m, n = m + 1 := ⟨r.length, by omega⟩
    have HX := Lib.hid hx
    have HQ := Lib.hid hq
    have hm : m = r.length := by omega
    have HM := Lib.hid hm
    have ho' := ho b o _ _ rfl
    have HG := Lib.hid hg
    have hcm : m + 1 ≤ c := by omega
    clear hB hx hq hc hlen h2 hm ho hg
    by_cases hc1 : c = 1
    · subst hc1
      have hm0 : m = 0 := by omega
      subst hm0
      clear hcm
      go_enter Try.func45, Try.ntmps45
      go_wp2_with (go_at_call 43; ((refine (update_any (d := { d with q := r }) (HB.out.queue r _) HM.out).mono ?_); rintro e w' ⟨rfl, hs, hb'⟩; have HS := Lib.hid hs; have HB' := Lib.hid hb'; clear hs hb'))
      go_ret
      refine ⟨rfl, ((Svg.set _ _ _ _).trans HS.out).ysv HG.out, _, _, _, HB'.out, ?_, ?_⟩
      · have e : r = [] := List.length_eq_zero_iff.1 HM.out.symm
        subst e
        refine .inr ⟨b, o, 0, rfl, Nat.le_refl _, ⟨qs, qf, (((Svg.set g 5 w (.slice (some ⟨b, o, none⟩) 0 0)).trans HS.out).block b hb ho'.2).trans HQB.out⟩, fun j x hj => by cases hj⟩
      · intro b' o' n' c' hv
        injection hv with hp
        injection hp with hp
        injection hp with hp
        rw [← hp]
        exact ho'
    · have hc2 : 1 < c := by omega
      clear hc1
      go_enter Try.func45, Try.ntmps45
      go_wp2_with (go_at_call 43; ((refine (update_any (d := { d with q := r }) (HB.out.queue r _) HM.out).mono ?_); rintro e w' ⟨rfl, hs, hb'⟩; have HS := Lib.hid hs; have HB' := Lib.hid hb'; clear hs hb'))
      go_ret
      refine ⟨rfl, ((Svg.set _ _ _ _).trans HS.out).ysv HG.out, _, _, _, HB'.out, ?_, ?_⟩
      · refine .inr ⟨b, o + 1, c - 1, by rw [HM.out]; rfl, by show r.length ≤ c - 1; have := HM.out; omega, ⟨qs, qf, (((Svg.set g 5 w (.slice (some ⟨b, o + 1, none⟩) m (c - 1))).trans HS.out).block b hb ho'.2).trans HQB.out⟩, fun j y hj => ?_⟩
        have hcell := HX.out (j + 1) y (by rw [HQ.out]; exact hj)
        rw [show o + (j + 1) = o + 1 + j by omega] at hcell
        exact (Sv.cell ((Svg.set g 5 w (.slice (some ⟨b, o + 1, none⟩) m (c - 1))).trans HS.out) (p := ⟨b, o + 1 + j, none⟩) hb ho'.2).trans hcell
      · intro b' o' n' c' hv
        injection hv with hp
        injection hp with hp
        injection hp with hp
        rw [← hp]
        exact ho'
end Go.Proofs.Ytbhpnoodpicdkaa
