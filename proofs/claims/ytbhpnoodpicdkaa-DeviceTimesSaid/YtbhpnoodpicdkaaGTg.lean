/- A timer's and a gpio's read, write and input. -/
import Derived.Test.YtbhpnoodpicdkaaGUart
import Derived.StillTailTactics
namespace Go.Proofs.Ytbhpnoodpicdkaa
open Go.RowKit Dv
open Plain (w32_lo w32_hi w32_w32 w32_in)
set_option linter.unusedVariables false
set_option linter.unusedSimpArgs false
theorem tread0 {B g : Nat} {t : TypeId} {d : Dev} {w : World} (h : Held B g t d w) :
    Calls Try.prog 50 #[.pointer (some ⟨g, 0, none⟩), .int .i64 0] w (Left B g t d (.int .i64 (rdT d 0)) w) := by
  have HH := Lib.hid h
  obtain ⟨p, n, c, hB, hQ, ho⟩ := h
  have HB := Lib.hid hB
  have e : rdT d 0 = d.r0 := rfl
  rw [e]
  clear hB hQ ho e
  go_enter Try.func50, Try.ntmps50
  go_wp2_with (go_at_call 46; ((with_reducible refine (read0 HB.out).mono ?_); rintro e w' ⟨rfl, rfl⟩))
  go_ret
  exact left_same HH.out
theorem tread1 {B g : Nat} {t : TypeId} {d : Dev} {w : World} (h : Held B g t d w) :
    Calls Try.prog 50 #[.pointer (some ⟨g, 0, none⟩), .int .i64 1] w (Left B g t d (.int .i64 (rdT d 1)) w) := by
  have HH := Lib.hid h
  obtain ⟨p, n, c, hB, hQ, ho⟩ := h
  have HB := Lib.hid hB
  have e : rdT d 1 = d.r1 := rfl
  rw [e]
  clear hB hQ ho e
  go_enter Try.func50, Try.ntmps50
  go_wp2_with (go_at_call 46; ((with_reducible refine (read1 HB.out).mono ?_); rintro e w' ⟨rfl, rfl⟩))
  go_ret
  exact left_same HH.out
theorem tread2 {B g : Nat} {t : TypeId} {d : Dev} {w : World} (h : Held B g t d w) :
    Calls Try.prog 50 #[.pointer (some ⟨g, 0, none⟩), .int .i64 2] w (Left B g t d (.int .i64 (rdT d 2)) w) := by
  have HH := Lib.hid h
  obtain ⟨p, n, c, hB, hQ, ho⟩ := h
  have HB := Lib.hid hB
  have e : rdT d 2 = d.r2 := rfl
  rw [e]
  clear hB hQ ho e
  go_enter Try.func50, Try.ntmps50
  go_wp2_with (go_at_call 46; ((with_reducible refine (read2 HB.out).mono ?_); rintro e w' ⟨rfl, rfl⟩))
  go_ret
  exact left_same HH.out
theorem tread3 {B g : Nat} {t : TypeId} {d : Dev} {w : World} (h : Held B g t d w) :
    Calls Try.prog 50 #[.pointer (some ⟨g, 0, none⟩), .int .i64 3] w (Left B g t d (.int .i64 (rdT d 3)) w) := by
  have HH := Lib.hid h
  obtain ⟨p, n, c, hB, hQ, ho⟩ := h
  obtain ⟨k0, k1, k2, k3, k4, k5, k6, k7⟩ := hB.cells
  clear hB hQ ho
  cases hu : d.up with
  | true =>
    have e : rdT d 3 = 1 := by simp [rdT, hu]
    rw [e]
    rw [hu] at k7
    clear e hu
    go_enter Try.func50, Try.ntmps50
    go_wp2
    go_ret
    exact left_same HH.out
  | false =>
    have e : rdT d 3 = 0 := by simp [rdT, hu]
    rw [e]
    rw [hu] at k7
    clear e hu
    go_enter Try.func50, Try.ntmps50
    go_wp2
    go_ret
    exact left_same HH.out
theorem twrite1 {B g : Nat} {t : TypeId} {d : Dev} {w : World} (h : Held B g t d w) (hg : B ≤ g) (x : Int) :
    Calls Try.prog 51 #[.pointer (some ⟨g, 0, none⟩), .int .i64 1, .int .i64 x] w (Left B g t (wrT d 1 x) (.tuple #[]) w) := by
  have HH := Lib.hid h
  obtain ⟨p, n, c, hB, hQ, ho⟩ := h
  have HB := Lib.hid hB
  have HQ := Lib.hid hQ
  have HO := Lib.hid ho
  have HG := Lib.hid hg
  have e : wrT d 1 x = { d with r1 := x } := rfl
  rw [e]
  clear hB hQ ho hg e
  go_enter Try.func51, Try.ntmps51
  go_wp2_with (go_at_call 48; ((with_reducible refine (keep1 HB.out x).mono ?_); rintro e w1 ⟨rfl, hs1, hb1⟩; have HS1 := Lib.hid hs1; have HB1 := Lib.hid hb1; clear hs1 hb1))
  go_end0
  exact left_set HG.out HS1.out HB1.out HQ.out HO.out rfl
theorem twrite2 {B g : Nat} {t : TypeId} {d : Dev} {w : World} (h : Held B g t d w) (hg : B ≤ g) (x : Int) :
    Calls Try.prog 51 #[.pointer (some ⟨g, 0, none⟩), .int .i64 2, .int .i64 x] w (Left B g t (wrT d 2 x) (.tuple #[]) w) := by
  have HH := Lib.hid h
  obtain ⟨p, n, c, hB, hQ, ho⟩ := h
  have HB := Lib.hid hB
  have HQ := Lib.hid hQ
  have HO := Lib.hid ho
  have HG := Lib.hid hg
  have e : wrT d 2 x = { d with r2 := x } := rfl
  rw [e]
  clear hB hQ ho hg e
  go_enter Try.func51, Try.ntmps51
  go_wp2_with (go_at_call 48; ((with_reducible refine (keep2 HB.out x).mono ?_); rintro e w1 ⟨rfl, hs1, hb1⟩; have HS1 := Lib.hid hs1; have HB1 := Lib.hid hb1; clear hs1 hb1))
  go_end0
  exact left_set HG.out HS1.out HB1.out HQ.out HO.out rfl
theorem twrite0 {B g : Nat} {t : TypeId} {d : Dev} {w : World} (h : Held B g t d w) (x : Int) :
    Calls Try.prog 51 #[.pointer (some ⟨g, 0, none⟩), .int .i64 0, .int .i64 x] w (Left B g t (wrT d 0 x) (.tuple #[]) w) := by
  have HH := Lib.hid h
  have e : wrT d 0 x = d := rfl
  rw [e]
  clear h e
  go_enter Try.func51, Try.ntmps51
  go_wp2
  go_end0
  exact left_same HH.out
theorem twrite3 {B g : Nat} {t : TypeId} {d : Dev} {w : World} (h : Held B g t d w) (hg : B ≤ g) (x : Int) :
    Calls Try.prog 51 #[.pointer (some ⟨g, 0, none⟩), .int .i64 3, .int .i64 x] w (Left B g t (wrT d 3 x) (.tuple #[]) w) := by
  have HH := Lib.hid h
  obtain ⟨p, n, c, hB, hQ, ho⟩ := h
  have f7 := hB.frozen 7
  obtain ⟨k0, k1, k2, k3, k4, k5, k6, k7⟩ := hB.cells
  have HB := Lib.hid hB
  have HQ := Lib.hid hQ
  have HO := Lib.hid ho
  have HG := Lib.hid hg
  have e : wrT d 3 x = { d with up := false } := rfl
  rw [e]
  clear hB hQ ho hg e
  go_enter Try.func51, Try.ntmps51
  go_wp2
  go_end0
  exact left_set HG.out (Svg.set _ _ _ _) (HB.out.up false) HQ.out HO.out rfl
theorem tin_ne {B g : Nat} {t : TypeId} {d : Dev} {w : World} (h : Held B g t d w) (hg : B ≤ g) (h0 : in32 d.r0) (hne : wrap32 (d.r0 + 1) ≠ d.r1) (x : Int) :
    Calls Try.prog 49 #[.pointer (some ⟨g, 0, none⟩), .int .i64 x] w (Left B g t (inT d) (.tuple #[]) w) := by
  have HH := Lib.hid h
  obtain ⟨p, n, c, hB, hQ, ho⟩ := h
  obtain ⟨k0, k1, k2, k3, k4, k5, k6, k7⟩ := hB.cells
  have HB := Lib.hid hB
  have HQ := Lib.hid hQ
  have HO := Lib.hid ho
  have HG := Lib.hid hg
  obtain ⟨z, hz⟩ : ∃ z, wrap32 (d.r0 + 1) = z := ⟨_, rfl⟩
  rw [hz] at hne
  have e : inT d = { d with r0 := z } := by simp [inT, hz, hne]
  have he1 : (z == d.r1) = false := beq_eq_false_iff_ne.2 hne
  clear hne
  rw [e]
  have HZ := Lib.hid hz
  unfold in32 at h0
  obtain ⟨l0, u0⟩ := h0
  clear hB hQ ho hg e hz
  go_enter Try.func49, Try.ntmps49
  go_upto_region 0 with (fail)
  have hwr : IntKind.i64.wrap (d.r0 + 1) = d.r0 + 1 := IntWalk.i64_in _ (by omega)
  go_still_tail 12, (by kernel_rfl)
  still_call ((wrap_lit HZ.out _).mono fun e' w' h => ⟨h.1, h.2.symm⟩)
  repeat still_step
  refine wpStill_nil ?_
  change wpList _ _ _ _ _ w.drew
  clear hwr
  go_wp2_with fail
  refine (keep0 (HB.out.drewN 1) z).mono ?_
  rintro e w1 ⟨rfl, hs1, hb1⟩
  have HS1 : Hid (Svg g w w1) := Lib.hid (Sv.trans (((Svg.refl g w).drewN 1)) hs1)
  obtain ⟨j0, j1, j2, j3, j4, j5, j6, j7⟩ := hb1.cells
  have f7 := hb1.frozen 7
  have HB1 := Lib.hid hb1
  clear hs1 hb1 k0 k1 k2 k3 k4 k5 k6 k7
  go_upto_region 1 with (fail)
  go_quiet (fail)
  go_wp2
  go_end0
  exact left_set HG.out (HS1.out.drewN _) (HB1.out.drewN _) HQ.out HO.out rfl
theorem tin_y {B g : Nat} {t : TypeId} {d : Dev} {w : World} (h : Held B g t d w) (hg : B ≤ g) (h0 : in32 d.r0) (hne : wrap32 (d.r0 + 1) = d.r1) (hen : d.r2 % 2 = 1) (x : Int) :
    Calls Try.prog 49 #[.pointer (some ⟨g, 0, none⟩), .int .i64 x] w (Left B g t (inT d) (.tuple #[]) w) := by
  have HH := Lib.hid h
  obtain ⟨p, n, c, hB, hQ, ho⟩ := h
  obtain ⟨k0, k1, k2, k3, k4, k5, k6, k7⟩ := hB.cells
  have HB := Lib.hid hB
  have HQ := Lib.hid hQ
  have HO := Lib.hid ho
  have HG := Lib.hid hg
  obtain ⟨z, hz⟩ : ∃ z, wrap32 (d.r0 + 1) = z := ⟨_, rfl⟩
  rw [hz] at hne
  have e : inT d = { d with r0 := z, up := true } := by simp [inT, hz, hne, hen]
  have he1 : (z == d.r1) = true := beq_iff_eq.2 hne
  have HE := Lib.hid hen
  clear hne hen
  rw [e]
  have HZ := Lib.hid hz
  unfold in32 at h0
  obtain ⟨l0, u0⟩ := h0
  clear hB hQ ho hg e hz
  go_enter Try.func49, Try.ntmps49
  go_upto_region 0 with (fail)
  have hwr : IntKind.i64.wrap (d.r0 + 1) = d.r0 + 1 := IntWalk.i64_in _ (by omega)
  go_still_tail 12, (by kernel_rfl)
  still_call ((wrap_lit HZ.out _).mono fun e' w' h => ⟨h.1, h.2.symm⟩)
  repeat still_step
  refine wpStill_nil ?_
  change wpList _ _ _ _ _ w.drew
  clear hwr
  go_wp2_with fail
  refine (keep0 (HB.out.drewN 1) z).mono ?_
  rintro e w1 ⟨rfl, hs1, hb1⟩
  have HS1 : Hid (Svg g w w1) := Lib.hid (Sv.trans (((Svg.refl g w).drewN 1)) hs1)
  obtain ⟨j0, j1, j2, j3, j4, j5, j6, j7⟩ := hb1.cells
  have f7 := hb1.frozen 7
  have HB1 := Lib.hid hb1
  clear hs1 hb1 k0 k1 k2 k3 k4 k5 k6 k7
  go_upto_region 1 with (fail)
  go_quiet ((go_at_call 47; (exact Calls.quiet_of_same ((enabled_y (HB1.out.drewN _) HE.out).mono fun e' w' h => ⟨h.1, h.2.symm⟩))))
  go_wp2
  go_end0
  exact left_set HG.out ((HS1.out.drewN _).trans (Svg.set _ _ _ _)) ((HB1.out.drewN _).up true) HQ.out HO.out rfl
theorem tin_n {B g : Nat} {t : TypeId} {d : Dev} {w : World} (h : Held B g t d w) (hg : B ≤ g) (h0 : in32 d.r0) (hne : wrap32 (d.r0 + 1) = d.r1) (hen : ¬ d.r2 % 2 = 1) (x : Int) :
    Calls Try.prog 49 #[.pointer (some ⟨g, 0, none⟩), .int .i64 x] w (Left B g t (inT d) (.tuple #[]) w) := by
  have HH := Lib.hid h
  obtain ⟨p, n, c, hB, hQ, ho⟩ := h
  obtain ⟨k0, k1, k2, k3, k4, k5, k6, k7⟩ := hB.cells
  have HB := Lib.hid hB
  have HQ := Lib.hid hQ
  have HO := Lib.hid ho
  have HG := Lib.hid hg
  obtain ⟨z, hz⟩ : ∃ z, wrap32 (d.r0 + 1) = z := ⟨_, rfl⟩
  rw [hz] at hne
  have e : inT d = { d with r0 := z } := by simp [inT, hz, hne, hen]
  have he1 : (z == d.r1) = true := beq_iff_eq.2 hne
  have HE := Lib.hid hen
  clear hne hen
  rw [e]
  have HZ := Lib.hid hz
  unfold in32 at h0
  obtain ⟨l0, u0⟩ := h0
  clear hB hQ ho hg e hz
  go_enter Try.func49, Try.ntmps49
  go_upto_region 0 with (fail)
  have hwr : IntKind.i64.wrap (d.r0 + 1) = d.r0 + 1 := IntWalk.i64_in _ (by omega)
  go_still_tail 12, (by kernel_rfl)
  still_call ((wrap_lit HZ.out _).mono fun e' w' h => ⟨h.1, h.2.symm⟩)
  repeat still_step
  refine wpStill_nil ?_
  change wpList _ _ _ _ _ w.drew
  clear hwr
  go_wp2_with fail
  refine (keep0 (HB.out.drewN 1) z).mono ?_
  rintro e w1 ⟨rfl, hs1, hb1⟩
  have HS1 : Hid (Svg g w w1) := Lib.hid (Sv.trans (((Svg.refl g w).drewN 1)) hs1)
  obtain ⟨j0, j1, j2, j3, j4, j5, j6, j7⟩ := hb1.cells
  have f7 := hb1.frozen 7
  have HB1 := Lib.hid hb1
  clear hs1 hb1 k0 k1 k2 k3 k4 k5 k6 k7
  go_upto_region 1 with (fail)
  go_quiet ((go_at_call 47; (exact Calls.quiet_of_same ((enabled_n (HB1.out.drewN _) HE.out).mono fun e' w' h => ⟨h.1, h.2.symm⟩))))
  go_wp2
  go_end0
  exact left_set HG.out (HS1.out.drewN _) (HB1.out.drewN _) HQ.out HO.out rfl
theorem tinput {B g : Nat} {t : TypeId} {d : Dev} {w : World} (h : Held B g t d w) (hg : B ≤ g) (h0 : in32 d.r0) (x : Int) :
    Calls Try.prog 49 #[.pointer (some ⟨g, 0, none⟩), .int .i64 x] w (Left B g t (inT d) (.tuple #[]) w) := by
  by_cases h1 : wrap32 (d.r0 + 1) = d.r1
  · by_cases h2 : d.r2 % 2 = 1
    · exact tin_y h hg h0 h1 h2 x
    · exact tin_n h hg h0 h1 h2 x
  · exact tin_ne h hg h0 h1 x
theorem change_any {w : World} {g : Nat} {t : TypeId} {d : Dev} {v : Value} (hB : BoxAt w g t d v) (x : Int) :
    Calls Try.prog 52 #[.pointer (some ⟨g, 0, none⟩), .int .i64 x] w fun e w' => e = .returned (.tuple #[]) ∧ Svg g w w' ∧ BoxAt w' g t (change d x) v := by
  have HB := Lib.hid hB
  clear hB
  obtain ⟨b, hb⟩ : ∃ b, (x != 0) = b := ⟨_, rfl⟩
  have e : change d x = { d with r3 := x, up := b } := by rw [← hb]; rfl
  rw [e]
  clear e
  go_enter Try.func52, Try.ntmps52
  go_upto_region 0 with (fail)
  go_wp2_with fail
  refine (keep3 HB.out x).mono ?_
  rintro e w1 ⟨rfl, hs1, hb1⟩
  have f7 := hb1.frozen 7
  obtain ⟨j0, j1, j2, j3, j4, j5, j6, j7⟩ := hb1.cells
  have HS1 := Lib.hid hs1
  have HB1 := Lib.hid hb1
  clear hs1 hb1
  go_wp2
  go_end0
  exact ⟨rfl, HS1.out.trans (Svg.set _ _ _ _), HB1.out.up b⟩
theorem gwrite0 {B g : Nat} {t : TypeId} {d : Dev} {w : World} (h : Held B g t d w) (hg : B ≤ g) (x : Int) :
    Calls Try.prog 54 #[.pointer (some ⟨g, 0, none⟩), .int .i64 0, .int .i64 x] w (Left B g t (wrG d 0 x) (.tuple #[]) w) := by
  have HH := Lib.hid h
  obtain ⟨p, n, c, hB, hQ, ho⟩ := h
  have HB := Lib.hid hB
  have HQ := Lib.hid hQ
  have HO := Lib.hid ho
  have HG := Lib.hid hg
  have e : wrG d 0 x = { d with r0 := x } := rfl
  rw [e]
  clear hB hQ ho hg e
  go_enter Try.func54, Try.ntmps54
  go_wp2_with (go_at_call 48; ((with_reducible refine (keep0 HB.out x).mono ?_); rintro e w1 ⟨rfl, hs1, hb1⟩; have HS1 := Lib.hid hs1; have HB1 := Lib.hid hb1; clear hs1 hb1))
  go_end0
  exact left_set HG.out HS1.out HB1.out HQ.out HO.out rfl
theorem gwrite2 {B g : Nat} {t : TypeId} {d : Dev} {w : World} (h : Held B g t d w) (hg : B ≤ g) (x : Int) :
    Calls Try.prog 54 #[.pointer (some ⟨g, 0, none⟩), .int .i64 2, .int .i64 x] w (Left B g t (wrG d 2 x) (.tuple #[]) w) := by
  have HH := Lib.hid h
  obtain ⟨p, n, c, hB, hQ, ho⟩ := h
  have HB := Lib.hid hB
  have HQ := Lib.hid hQ
  have HO := Lib.hid ho
  have HG := Lib.hid hg
  have e : wrG d 2 x = { d with r2 := x } := rfl
  rw [e]
  clear hB hQ ho hg e
  go_enter Try.func54, Try.ntmps54
  go_wp2_with (go_at_call 48; ((with_reducible refine (keep2 HB.out x).mono ?_); rintro e w1 ⟨rfl, hs1, hb1⟩; have HS1 := Lib.hid hs1; have HB1 := Lib.hid hb1; clear hs1 hb1))
  go_end0
  exact left_set HG.out HS1.out HB1.out HQ.out HO.out rfl
theorem gwrite1 {B g : Nat} {t : TypeId} {d : Dev} {w : World} (h : Held B g t d w) (x : Int) :
    Calls Try.prog 54 #[.pointer (some ⟨g, 0, none⟩), .int .i64 1, .int .i64 x] w (Left B g t (wrG d 1 x) (.tuple #[]) w) := by
  have HH := Lib.hid h
  have e : wrG d 1 x = d := rfl
  rw [e]
  clear h e
  go_enter Try.func54, Try.ntmps54
  go_wp2
  go_end0
  exact left_same HH.out
theorem gwrite3 {B g : Nat} {t : TypeId} {d : Dev} {w : World} (h : Held B g t d w) (hg : B ≤ g) (x : Int) :
    Calls Try.prog 54 #[.pointer (some ⟨g, 0, none⟩), .int .i64 3, .int .i64 x] w (Left B g t (wrG d 3 x) (.tuple #[]) w) := by
  have HH := Lib.hid h
  obtain ⟨p, n, c, hB, hQ, ho⟩ := h
  obtain ⟨k0, k1, k2, k3, k4, k5, k6, k7⟩ := hB.cells
  have HB := Lib.hid hB
  have HQ := Lib.hid hQ
  have HO := Lib.hid ho
  have HG := Lib.hid hg
  obtain ⟨y, hy⟩ : ∃ y, bits .andNot .i64 d.r3 x = y := ⟨_, rfl⟩
  have e : wrG d 3 x = change d y := by rw [← hy]; rfl
  rw [e]
  clear hB hQ ho hg e
  go_enter Try.func54, Try.ntmps54
  go_wp2_with (go_at_call 52; ((with_reducible refine (change_any HB.out y).mono ?_); rintro e w1 ⟨rfl, hs1, hb1⟩; have HS1 := Lib.hid hs1; have HB1 := Lib.hid hb1; clear hs1 hb1))
  go_end0
  exact left_set HG.out HS1.out HB1.out HQ.out HO.out rfl
theorem ginput {B g : Nat} {t : TypeId} {d : Dev} {w : World} (h : Held B g t d w) (hg : B ≤ g) (x : Int) :
    Calls Try.prog 53 #[.pointer (some ⟨g, 0, none⟩), .int .i64 x] w (Left B g t (inG d x) (.tuple #[]) w) := by
  have HH := Lib.hid h
  obtain ⟨p, n, c, hB, hQ, ho⟩ := h
  obtain ⟨k0, k1, k2, k3, k4, k5, k6, k7⟩ := hB.cells
  have HB := Lib.hid hB
  have HQ := Lib.hid hQ
  have HO := Lib.hid ho
  have HG := Lib.hid hg
  obtain ⟨y1, hy1⟩ : ∃ y, bits .xor .i64 d.r1 x = y := ⟨_, rfl⟩
  obtain ⟨y2, hy2⟩ : ∃ y, bits .and .i64 y1 d.r2 = y := ⟨_, rfl⟩
  obtain ⟨y3, hy3⟩ : ∃ y, bits .or .i64 d.r3 y2 = y := ⟨_, rfl⟩
  have e : inG d x = { change d y3 with r1 := x } := by rw [← hy3, ← hy2, ← hy1]; rfl
  rw [e]
  clear hB hQ ho hg e
  go_enter Try.func53, Try.ntmps53
  go_upto_region 1 with (fail)
  go_still_tail 18, (by kernel_rfl)
  change wpList _ _ _ _ _ w.drew
  go_wp2_with fail
  refine (change_any (HB.out.drewN 1) y3).mono ?_
  rintro e w1 ⟨rfl, hs1, hb1⟩
  have HS1 : Hid (Svg g w w1) := Lib.hid (Sv.trans (((Svg.refl g w).drewN 1)) hs1)
  have HB1 := Lib.hid hb1
  clear hs1 hb1 k0 k1 k2 k3 k4 k5 k6 k7 hy1 hy2 hy3
  go_wp2_with fail
  refine (keep1 HB1.out x).mono ?_
  rintro e w2 ⟨rfl, hs2, hb2⟩
  have HS2 := Lib.hid hs2
  have HB2 := Lib.hid hb2
  clear hs2 hb2
  go_wp2
  go_end0
  exact left_set HG.out (HS1.out.trans HS2.out) HB2.out HQ.out HO.out rfl
end Go.Proofs.Ytbhpnoodpicdkaa
