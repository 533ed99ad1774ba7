/- device.Read: what a register tells, and the device behind that. -/
import Derived.Test.YtbhpnoodpicdkaaGModel
namespace Go.Proofs.Ytbhpnoodpicdkaa
open Go.RowKit Dv
open Plain (w32_lo w32_hi w32_w32 w32_in)
set_option linter.unusedVariables false
set_option linter.unusedSimpArgs false
/-- a state lies where it can be read -/
def StAt (w : World) (v : Value) (d : Dev) : Prop := ∃ u, v = dval d u ∧ QAt w u d.q
theorem StAt.bel {w w' : World} {v : Value} {d : Dev} (h : StAt w v d) (hb : Bel w w') : StAt w' v d := by
  obtain ⟨u, h1, h2⟩ := h
  exact ⟨u, h1, h2.bel hb⟩
theorem Held.drew {B g : Nat} {t : TypeId} {d : Dev} {w : World} (h : Held B g t d w) : Held B g t d w.drew := by
  obtain ⟨p, n, c, h1, h2, h3⟩ := h
  exact ⟨p, n, c, h1, h2.bel (Bel.refl w).drew, h3⟩
theorem Fresh.drew {B g : Nat} {t : TypeId} {d : Dev} {w : World} (h : Fresh B g t d w) : Fresh B g t d w.drew := by
  obtain ⟨p, n, c, h1, h2, h3, h4⟩ := h
  exact ⟨p, n, c, h1, ERow.bel h2 (Bel.refl w).drew, h3, h4⟩
def ReadPost (r : Int) (d : Dev) (w : World) (e : Ending) (w' : World) : Prop := ∃ v, e = .returned (.tuple #[.int .i64 r, v]) ∧ Bel w w' ∧ StAt w' v d
def OnePost (d : Dev) (w : World) (e : Ending) (w' : World) : Prop := ∃ v, e = .returned v ∧ Bel w w' ∧ StAt w' v d
theorem reg0 (w : World) : Calls Try.prog 22 #[.int .i64 0] w fun e w1 => e = .returned (.bool true) ∧ w = w1 := reg_any 0 (by omega) w
theorem reg1 (w : World) : Calls Try.prog 22 #[.int .i64 1] w fun e w1 => e = .returned (.bool true) ∧ w = w1 := reg_any 1 (by omega) w
theorem reg2 (w : World) : Calls Try.prog 22 #[.int .i64 2] w fun e w1 => e = .returned (.bool true) ∧ w = w1 := reg_any 2 (by omega) w
theorem reg3 (w : World) : Calls Try.prog 22 #[.int .i64 3] w fun e w1 => e = .returned (.bool true) ∧ w = w1 := reg_any 3 (by omega) w
/-- eight stores into a block -/
abbrev set8 (w : World) (g : Nat) (x0 x1 x2 x3 x4 x5 x6 x7 : Value) : World := (((((((w.setCell ⟨g, 0, none⟩ x0).setCell ⟨g, 1, none⟩ x1).setCell ⟨g, 2, none⟩ x2).setCell ⟨g, 3, none⟩ x3).setCell ⟨g, 4, none⟩ x4).setCell ⟨g, 5, none⟩ x5).setCell ⟨g, 6, none⟩ x6).setCell ⟨g, 7, none⟩ x7
theorem set8_svg (w : World) (g : Nat) (x0 x1 x2 x3 x4 x5 x6 x7 : Value) : Svg g w (set8 w g x0 x1 x2 x3 x4 x5 x6 x7) :=
  (((((((Svg.set g 0 w x0).trans (Svg.set _ _ _ _)).trans (Svg.set _ _ _ _)).trans (Svg.set _ _ _ _)).trans (Svg.set _ _ _ _)).trans (Svg.set _ _ _ _)).trans (Svg.set _ _ _ _)).trans (Svg.set _ _ _ _)
theorem set8_heap {w : World} {g : Nat} {t : TypeId} {fr : Nat × Nat} {z0 z1 z2 z3 z4 z5 z6 z7 : Value} (h : w.heap[g]? = some (.cells #[z0, z1, z2, z3, z4, z5, z6, z7] t fr)) (x0 x1 x2 x3 x4 x5 x6 x7 : Value) :
    (set8 w g x0 x1 x2 x3 x4 x5 x6 x7).heap[g]? = some (.cells #[x0, x1, x2, x3, x4, x5, x6, x7] t fr) := by
  have h0 : (w.setCell ⟨g, 0, none⟩ x0).heap[g]? = some (.cells #[x0, z1, z2, z3, z4, z5, z6, z7] t fr) := (heap_set h 0 x0).trans (by simp)
  have h1 : ((w.setCell ⟨g, 0, none⟩ x0).setCell ⟨g, 1, none⟩ x1).heap[g]? = some (.cells #[x0, x1, z2, z3, z4, z5, z6, z7] t fr) := (heap_set h0 1 x1).trans (by simp)
  have h2 : (((w.setCell ⟨g, 0, none⟩ x0).setCell ⟨g, 1, none⟩ x1).setCell ⟨g, 2, none⟩ x2).heap[g]? = some (.cells #[x0, x1, x2, z3, z4, z5, z6, z7] t fr) := (heap_set h1 2 x2).trans (by simp)
  have h3 : ((((w.setCell ⟨g, 0, none⟩ x0).setCell ⟨g, 1, none⟩ x1).setCell ⟨g, 2, none⟩ x2).setCell ⟨g, 3, none⟩ x3).heap[g]? = some (.cells #[x0, x1, x2, x3, z4, z5, z6, z7] t fr) := (heap_set h2 3 x3).trans (by simp)
  have h4 : (((((w.setCell ⟨g, 0, none⟩ x0).setCell ⟨g, 1, none⟩ x1).setCell ⟨g, 2, none⟩ x2).setCell ⟨g, 3, none⟩ x3).setCell ⟨g, 4, none⟩ x4).heap[g]? = some (.cells #[x0, x1, x2, x3, x4, z5, z6, z7] t fr) := (heap_set h3 4 x4).trans (by simp)
  have h5 : ((((((w.setCell ⟨g, 0, none⟩ x0).setCell ⟨g, 1, none⟩ x1).setCell ⟨g, 2, none⟩ x2).setCell ⟨g, 3, none⟩ x3).setCell ⟨g, 4, none⟩ x4).setCell ⟨g, 5, none⟩ x5).heap[g]? = some (.cells #[x0, x1, x2, x3, x4, x5, z6, z7] t fr) := (heap_set h4 5 x5).trans (by simp)
  have h6 : (((((((w.setCell ⟨g, 0, none⟩ x0).setCell ⟨g, 1, none⟩ x1).setCell ⟨g, 2, none⟩ x2).setCell ⟨g, 3, none⟩ x3).setCell ⟨g, 4, none⟩ x4).setCell ⟨g, 5, none⟩ x5).setCell ⟨g, 6, none⟩ x6).heap[g]? = some (.cells #[x0, x1, x2, x3, x4, x5, x6, z7] t fr) := (heap_set h5 6 x6).trans (by simp)
  have h7 : ((((((((w.setCell ⟨g, 0, none⟩ x0).setCell ⟨g, 1, none⟩ x1).setCell ⟨g, 2, none⟩ x2).setCell ⟨g, 3, none⟩ x3).setCell ⟨g, 4, none⟩ x4).setCell ⟨g, 5, none⟩ x5).setCell ⟨g, 6, none⟩ x6).setCell ⟨g, 7, none⟩ x7).heap[g]? = some (.cells #[x0, x1, x2, x3, x4, x5, x6, x7] t fr) := (heap_set h6 7 x7).trans (by simp)
  exact h7
theorem told_lit {w : World} {g : Nat} {t : TypeId} {d : Dev} {p : Option Addr} {n c : Nat} (hB : BoxAt w g t d (.slice p n c)) :
    Calls Try.prog 42 #[.pointer (some ⟨g, 0, none⟩)] w fun e w' => e = .returned (.agg #[.int .i64 (d.kind : Int), .int .i64 d.r0, .int .i64 d.r1, .int .i64 d.r2, .int .i64 d.r3, .slice p n c, .int .i64 d.sent, .bool d.up]) ∧ Bel w w' := told_any hB
theorem mread1_0 {B g : Nat} {t : TypeId} {d d' : Dev} {r : Int} {w : World} (h : Held B g t d w) (hg : B ≤ g) (hk : d.kind = 1) (hr : rdV d 0 = (r, d')) :
    Calls Try.prog 41 #[.pointer (some ⟨g, 0, none⟩), .int .i64 0] w (Left B g t d' (.int .i64 r) w) := by
  have e : rdU d 0 = (r, d') := by rw [← hr]; unfold rdV; rw [if_pos hk]
  have := uread0 (B := B) h hg
  rw [e] at this
  exact this
theorem mread2_0 {B g : Nat} {t : TypeId} {d d' : Dev} {r : Int} {w : World} (h : Held B g t d w) (hg : B ≤ g) (hk : d.kind = 2) (hr : rdV d 0 = (r, d')) :
    Calls Try.prog 50 #[.pointer (some ⟨g, 0, none⟩), .int .i64 0] w (Left B g t d' (.int .i64 r) w) := by
  have e : (rdT d 0, d) = (r, d') := by rw [← hr]; unfold rdV; rw [if_neg (by omega), if_pos hk]
  injection e with e1 e2
  subst e2
  have := tread0 (B := B) h
  rw [e1] at this
  exact this
theorem mread3_0 {B g : Nat} {t : TypeId} {d d' : Dev} {r : Int} {w : World} (h : Held B g t d w) (hg : B ≤ g) (hk : d.kind = 3) (hr : rdV d 0 = (r, d')) :
    Calls Try.prog 46 #[.pointer (some ⟨g, 0, none⟩), .int .i64 0] w (Left B g t d' (.int .i64 r) w) := by
  have e : (rg d 0, d) = (r, d') := by rw [← hr]; unfold rdV; rw [if_neg (by omega), if_neg (by omega)]
  injection e with e1 e2
  subst e2
  have hh := h
  obtain ⟨p, n, c, hB, _, _⟩ := h
  refine (read0 hB).mono fun e w' hw => ?_
  obtain ⟨he, hw⟩ := hw
  subst hw
  subst he
  rw [← e1]
  exact left_same hh
theorem mread1_1 {B g : Nat} {t : TypeId} {d d' : Dev} {r : Int} {w : World} (h : Held B g t d w) (hg : B ≤ g) (hk : d.kind = 1) (hr : rdV d 1 = (r, d')) :
    Calls Try.prog 41 #[.pointer (some ⟨g, 0, none⟩), .int .i64 1] w (Left B g t d' (.int .i64 r) w) := by
  have e : rdU d 1 = (r, d') := by rw [← hr]; unfold rdV; rw [if_pos hk]
  have := uread1 (B := B) h
  rw [e] at this
  exact this
theorem mread2_1 {B g : Nat} {t : TypeId} {d d' : Dev} {r : Int} {w : World} (h : Held B g t d w) (hg : B ≤ g) (hk : d.kind = 2) (hr : rdV d 1 = (r, d')) :
    Calls Try.prog 50 #[.pointer (some ⟨g, 0, none⟩), .int .i64 1] w (Left B g t d' (.int .i64 r) w) := by
  have e : (rdT d 1, d) = (r, d') := by rw [← hr]; unfold rdV; rw [if_neg (by omega), if_pos hk]
  injection e with e1 e2
  subst e2
  have := tread1 (B := B) h
  rw [e1] at this
  exact this
theorem mread3_1 {B g : Nat} {t : TypeId} {d d' : Dev} {r : Int} {w : World} (h : Held B g t d w) (hg : B ≤ g) (hk : d.kind = 3) (hr : rdV d 1 = (r, d')) :
    Calls Try.prog 46 #[.pointer (some ⟨g, 0, none⟩), .int .i64 1] w (Left B g t d' (.int .i64 r) w) := by
  have e : (rg d 1, d) = (r, d') := by rw [← hr]; unfold rdV; rw [if_neg (by omega), if_neg (by omega)]
  injection e with e1 e2
  subst e2
  have hh := h
  obtain ⟨p, n, c, hB, _, _⟩ := h
  refine (read1 hB).mono fun e w' hw => ?_
  obtain ⟨he, hw⟩ := hw
  subst hw
  subst he
  rw [← e1]
  exact left_same hh
theorem mread1_2 {B g : Nat} {t : TypeId} {d d' : Dev} {r : Int} {w : World} (h : Held B g t d w) (hg : B ≤ g) (hk : d.kind = 1) (hr : rdV d 2 = (r, d')) :
    Calls Try.prog 41 #[.pointer (some ⟨g, 0, none⟩), .int .i64 2] w (Left B g t d' (.int .i64 r) w) := by
  have e : rdU d 2 = (r, d') := by rw [← hr]; unfold rdV; rw [if_pos hk]
  have := uread2 (B := B) h
  rw [e] at this
  exact this
theorem mread2_2 {B g : Nat} {t : TypeId} {d d' : Dev} {r : Int} {w : World} (h : Held B g t d w) (hg : B ≤ g) (hk : d.kind = 2) (hr : rdV d 2 = (r, d')) :
    Calls Try.prog 50 #[.pointer (some ⟨g, 0, none⟩), .int .i64 2] w (Left B g t d' (.int .i64 r) w) := by
  have e : (rdT d 2, d) = (r, d') := by rw [← hr]; unfold rdV; rw [if_neg (by omega), if_pos hk]
  injection e with e1 e2
  subst e2
  have := tread2 (B := B) h
  rw [e1] at this
  exact this
theorem mread3_2 {B g : Nat} {t : TypeId} {d d' : Dev} {r : Int} {w : World} (h : Held B g t d w) (hg : B ≤ g) (hk : d.kind = 3) (hr : rdV d 2 = (r, d')) :
    Calls Try.prog 46 #[.pointer (some ⟨g, 0, none⟩), .int .i64 2] w (Left B g t d' (.int .i64 r) w) := by
  have e : (rg d 2, d) = (r, d') := by rw [← hr]; unfold rdV; rw [if_neg (by omega), if_neg (by omega)]
  injection e with e1 e2
  subst e2
  have hh := h
  obtain ⟨p, n, c, hB, _, _⟩ := h
  refine (read2 hB).mono fun e w' hw => ?_
  obtain ⟨he, hw⟩ := hw
  subst hw
  subst he
  rw [← e1]
  exact left_same hh
theorem mread1_3 {B g : Nat} {t : TypeId} {d d' : Dev} {r : Int} {w : World} (h : Held B g t d w) (hg : B ≤ g) (hk : d.kind = 1) (hr : rdV d 3 = (r, d')) :
    Calls Try.prog 41 #[.pointer (some ⟨g, 0, none⟩), .int .i64 3] w (Left B g t d' (.int .i64 r) w) := by
  have e : rdU d 3 = (r, d') := by rw [← hr]; unfold rdV; rw [if_pos hk]
  have := uread3 (B := B) h
  rw [e] at this
  exact this
theorem mread2_3 {B g : Nat} {t : TypeId} {d d' : Dev} {r : Int} {w : World} (h : Held B g t d w) (hg : B ≤ g) (hk : d.kind = 2) (hr : rdV d 3 = (r, d')) :
    Calls Try.prog 50 #[.pointer (some ⟨g, 0, none⟩), .int .i64 3] w (Left B g t d' (.int .i64 r) w) := by
  have e : (rdT d 3, d) = (r, d') := by rw [← hr]; unfold rdV; rw [if_neg (by omega), if_pos hk]
  injection e with e1 e2
  subst e2
  have := tread3 (B := B) h
  rw [e1] at this
  exact this
theorem mread3_3 {B g : Nat} {t : TypeId} {d d' : Dev} {r : Int} {w : World} (h : Held B g t d w) (hg : B ≤ g) (hk : d.kind = 3) (hr : rdV d 3 = (r, d')) :
    Calls Try.prog 46 #[.pointer (some ⟨g, 0, none⟩), .int .i64 3] w (Left B g t d' (.int .i64 r) w) := by
  have e : (rg d 3, d) = (r, d') := by rw [← hr]; unfold rdV; rw [if_neg (by omega), if_neg (by omega)]
  injection e with e1 e2
  subst e2
  have hh := h
  obtain ⟨p, n, c, hB, _, _⟩ := h
  refine (read3 hB).mono fun e w' hw => ?_
  obtain ⟨he, hw⟩ := hw
  subst hw
  subst he
  rw [← e1]
  exact left_same hh
end Go.Proofs.Ytbhpnoodpicdkaa
