/- A uart's read, write and input. -/
import Derived.Test.YtbhpnoodpicdkaaGApp
namespace Go.Proofs.Ytbhpnoodpicdkaa
open Go.RowKit Dv
open Plain (w32_lo w32_hi w32_w32 w32_in)
set_option linter.unusedVariables false
set_option linter.unusedSimpArgs false
theorem uread0 {B g : Nat} {t : TypeId} {d : Dev} {w : World} (h : Held B g t d w) (hg : B ≤ g) :
    Calls Try.prog 41 #[.pointer (some ⟨g, 0, none⟩), .int .i64 0] w (Left B g t (rdU d 0).2 (.int .i64 (rdU d 0).1) w) := by
  have HH := Lib.hid h
  have HG := Lib.hid hg
  clear h hg
  cases hq : d.q with
  | nil =>
    have e : rdU d 0 = (-1, d) := by unfold rdU; rw [if_pos rfl, hq]
    rw [e]
    have HQ := Lib.hid hq
    clear hq e
    go_enter Try.func41, Try.ntmps41
    go_wp2_with (go_at_call 45; ((with_reducible refine (first_nil (B := B) HH.out HQ.out).mono ?_); rintro e w' ⟨rfl, hs, hl⟩; have HS := Lib.hid hs; have HL := Lib.hid hl; clear hs hl))
    go_ret
    exact ⟨rfl, HS.out, HL.out⟩
  | cons x r =>
    have e : rdU d 0 = (x, upd { d with q := r }) := by unfold rdU; rw [if_pos rfl, hq]
    rw [e]
    have HQ := Lib.hid hq
    clear hq e
    go_enter Try.func41, Try.ntmps41
    go_wp2_with (go_at_call 45; ((with_reducible refine (first_cons (B := B) HH.out HG.out HQ.out).mono ?_); rintro e w' ⟨rfl, hs, hl⟩; have HS := Lib.hid hs; have HL := Lib.hid hl; clear hs hl))
    go_ret
    exact ⟨rfl, HS.out, HL.out⟩
theorem uread1 {B g : Nat} {t : TypeId} {d : Dev} {w : World} (h : Held B g t d w) :
    Calls Try.prog 41 #[.pointer (some ⟨g, 0, none⟩), .int .i64 1] w (Left B g t (rdU d 1).2 (.int .i64 (rdU d 1).1) w) := by
  have HH := Lib.hid h
  obtain ⟨p, n, c, hB, hQ, ho⟩ := h
  obtain ⟨k0, k1, k2, k3, k4, k5, k6, k7⟩ := hB.cells
  have hn := QAt.len hQ
  by_cases h0 : n = 0
  · subst h0
    have e : rdU d 1 = (2, d) := by have := List.length_eq_zero_iff.1 hn.symm; simp [rdU, this]
    rw [e]
    clear hB hQ ho hn e
    go_enter Try.func41, Try.ntmps41
    go_wp2
    go_ret
    exact left_same HH.out
  · have e : rdU d 1 = (3, d) := by have : d.q ≠ [] := fun c => h0 (by rw [hn, c]; rfl); simp [rdU, this]
    rw [e]
    have hp : 0 < n := by omega
    clear hB hQ ho hn e h0
    go_enter Try.func41, Try.ntmps41
    go_wp2
    go_ret
    exact left_same HH.out
theorem uread2 {B g : Nat} {t : TypeId} {d : Dev} {w : World} (h : Held B g t d w) :
    Calls Try.prog 41 #[.pointer (some ⟨g, 0, none⟩), .int .i64 2] w (Left B g t (rdU d 2).2 (.int .i64 (rdU d 2).1) w) := by
  have HH := Lib.hid h
  obtain ⟨p, n, c, hB, hQ, ho⟩ := h
  have HB := Lib.hid hB
  have e : rdU d 2 = (d.r2, d) := rfl
  rw [e]
  clear hB hQ ho e
  go_enter Try.func41, Try.ntmps41
  go_wp2_with (go_at_call 46; ((with_reducible refine (read2 HB.out).mono ?_); rintro e w' ⟨rfl, rfl⟩))
  go_ret
  exact left_same HH.out
theorem uread3 {B g : Nat} {t : TypeId} {d : Dev} {w : World} (h : Held B g t d w) :
    Calls Try.prog 41 #[.pointer (some ⟨g, 0, none⟩), .int .i64 3] w (Left B g t (rdU d 3).2 (.int .i64 (rdU d 3).1) w) := by
  have HH := Lib.hid h
  obtain ⟨p, n, c, hB, hQ, ho⟩ := h
  obtain ⟨k0, k1, k2, k3, k4, k5, k6, k7⟩ := hB.cells
  have e : rdU d 3 = (d.sent, d) := rfl
  rw [e]
  clear hB hQ ho e
  go_enter Try.func41, Try.ntmps41
  go_wp2
  go_ret
  exact left_same HH.out
theorem uwrite0 {B g : Nat} {t : TypeId} {d : Dev} {w : World} (h : Held B g t d w) (hg : B ≤ g) (hs : 0 ≤ d.sent ∧ d.sent ≤ 2147483647) (x : Int) :
    Calls Try.prog 44 #[.pointer (some ⟨g, 0, none⟩), .int .i64 0, .int .i64 x] w (Left B g t (wrU d 0 x) (.tuple #[]) w) := by
  obtain ⟨p, n, c, hB, hQ, ho⟩ := h
  have f6 := hB.frozen 6
  obtain ⟨k0, k1, k2, k3, k4, k5, k6, k7⟩ := hB.cells
  have HB := Lib.hid hB
  have HQ := Lib.hid hQ
  have HO := Lib.hid ho
  have HG := Lib.hid hg
  obtain ⟨s1, s2⟩ := hs
  have hm := andMax (d.sent + 1)
  have e : wrU d 0 x = { d with sent := bits .and .i64 (d.sent + 1) 2147483647 } := by rw [hm]; rfl
  rw [e]
  clear hB hQ ho hg hm e
  go_enter Try.func44, Try.ntmps44
  go_wp2
  go_end0
  exact left_set HG.out (Svg.set _ _ _ _) (HB.out.sent _) HQ.out HO.out rfl
theorem uwrite2 {B g : Nat} {t : TypeId} {d : Dev} {w : World} (h : Held B g t d w) (hg : B ≤ g) (x : Int) :
    Calls Try.prog 44 #[.pointer (some ⟨g, 0, none⟩), .int .i64 2, .int .i64 x] w (Left B g t (wrU d 2 x) (.tuple #[]) w) := by
  obtain ⟨p, n, c, hB, hQ, ho⟩ := h
  have hn := QAt.len hQ
  have HB := Lib.hid hB
  have HQ := Lib.hid hQ
  have HO := Lib.hid ho
  have HG := Lib.hid hg
  have HN := Lib.hid hn
  have e : wrU d 2 x = upd { d with r2 := x } := rfl
  rw [e]
  clear hB hQ ho hg hn e
  go_enter Try.func44, Try.ntmps44
  go_wp2_with fail
  refine (keep2 HB.out x).mono ?_
  rintro e w1 ⟨rfl, hs1, hb1⟩
  have HS1 := Lib.hid hs1
  have HB1 := Lib.hid hb1
  clear hs1 hb1
  go_wp2_with (go_at_call 43; ((refine (update_any HB1.out HN.out).mono ?_); rintro e w2 ⟨rfl, hs2, hb2⟩; have HS2 := Lib.hid hs2; have HB2 := Lib.hid hb2; clear hs2 hb2))
  go_end0
  exact left_set HG.out (HS1.out.trans HS2.out) HB2.out HQ.out HO.out rfl
theorem uwrite1 {B g : Nat} {t : TypeId} {d : Dev} {w : World} (h : Held B g t d w) (x : Int) :
    Calls Try.prog 44 #[.pointer (some ⟨g, 0, none⟩), .int .i64 1, .int .i64 x] w (Left B g t (wrU d 1 x) (.tuple #[]) w) := by
  have HH := Lib.hid h
  have e : wrU d 1 x = d := rfl
  rw [e]
  clear h e
  go_enter Try.func44, Try.ntmps44
  go_wp2
  go_end0
  exact left_same HH.out
theorem uwrite3 {B g : Nat} {t : TypeId} {d : Dev} {w : World} (h : Held B g t d w) (x : Int) :
    Calls Try.prog 44 #[.pointer (some ⟨g, 0, none⟩), .int .i64 3, .int .i64 x] w (Left B g t (wrU d 3 x) (.tuple #[]) w) := by
  have HH := Lib.hid h
  have e : wrU d 3 x = d := rfl
  rw [e]
  clear h e
  go_enter Try.func44, Try.ntmps44
  go_wp2
  go_end0
  exact left_same HH.out
theorem uinput_no {B g : Nat} {t : TypeId} {d : Dev} {w : World} (h : Held B g t d w) (hl : ¬ d.q.length < 16) (x : Int) :
    Calls Try.prog 40 #[.pointer (some ⟨g, 0, none⟩), .int .i64 x] w (Left B g t (inU d x) (.tuple #[]) w) := by
  have HH := Lib.hid h
  obtain ⟨p, n, c, hB, hQ, ho⟩ := h
  obtain ⟨k0, k1, k2, k3, k4, k5, k6, k7⟩ := hB.cells
  have hn := QAt.len hQ
  have e : inU d x = d := if_neg hl
  rw [e]
  have h16 : 16 ≤ n := by omega
  clear hB hQ ho e hl hn
  go_enter Try.func40, Try.ntmps40
  go_wp2
  go_end0
  exact left_same HH.out
theorem erow_off {B g : Nat} {t : TypeId} {w : World} {v : Value} {q : List Int} {cs : Array Value} {fr : Nat × Nat} (h : ERow encI 3 1 w B v q) (hB : w.heap[g]? = some (.cells cs t fr)) (ht : t ≠ 3) : Off B g v ∧ v.ownBlock ≠ some g := by
  rcases h.2 with ⟨rfl, hx⟩ | ⟨g', cap, cur, rfl, hb, hg, hnc, hcm, hcs, htake⟩
  · exact ⟨(fun b o n c hv => by cases hv), (fun c => by cases c)⟩
  · have hne : g' ≠ g := by
      rintro rfl
      rw [hB] at hg
      injection hg with hg
      injection hg with _ hg _
      exact ht hg
    refine ⟨fun b o n c hv => ?_, fun c => ?_⟩
    · injection hv with hp
      injection hp with hp
      injection hp with hp
      rw [← hp]
      exact ⟨hb, hne⟩
    · injection c with c
      exact hne c
set_option maxRecDepth 100000 in
theorem uinput_yes {B g : Nat} {t : TypeId} {d : Dev} {w : World} (h : Fresh B g t d w) (ht : t ≠ 3) (hg : B ≤ g) (hl : d.q.length < 16) (x : Int) :
    Calls Try.prog 40 #[.pointer (some ⟨g, 0, none⟩), .int .i64 x] w (Left B g t (inU d x) (.tuple #[]) w) := by
  obtain ⟨p, n, c, hB, hE, _, hBw⟩ := h
  have hn := QAt.len (ERow.qat hE).1
  obtain ⟨k0, k1, k2, k3, k4, k5, k6, k7⟩ := hB.cells
  have hlt := lt_of_heap hB
  have e : inU d x = upd { d with q := d.q ++ [x % 256] } := if_pos hl
  rw [e]
  obtain ⟨y, hy⟩ : ∃ y, bits .and .i64 x 255 = y := ⟨_, rfl⟩
  have hxy : x % 256 = y := (and255 x).symm.trans hy
  rw [hxy]
  have h16 : n < 16 := by omega
  have hb0 : Bel w (w.alloc (.cells #[.int .i64 y] 3)) := (Bel.refl w).alloc _ _
  have hnew := heap_alloc_new w (.cells #[.int .i64 y] 3)
  obtain ⟨v', w', hrun, hown, hsv, hv⟩ := app_more (w := w.alloc (.cells #[.int .i64 y] 3)) intTy (hE.bel hb0) (b := w.heap.size) (o := 0) (m := 1) (c := 1) (r := [y]) rfl (fun j x hj i u hu => by
    cases j with
    | zero =>
      cases i with
      | zero =>
        obtain rfl : y = x := by simpa using hj
        have hu' : Value.int .i64 y = u := by simpa using hu
        rw [← hu', cell_of_heap hnew]
        rfl
      | succ i => simp at hu
    | succ j => simp at hj) (.inl (by omega)) (by omega) (by rw [World.size_alloc]; omega)
  obtain ⟨p', c', rfl, _⟩ := ERow.form (enc := encI) (k := 1) (fun _ => rfl) hown
  have hoff := (erow_off (hE.bel hb0) (hB.bel hb0) ht).2
  have hB' : BoxAt w' g t d (.slice p n c) := (hsv.block g (Nat.lt_of_lt_of_le hlt hb0.size) (fun k => hoff k)).trans (hB.bel hb0)
  have hys : Ysv B w w' := by
    refine Sv.trans (hb0.ysv) ⟨hsv.os, hsv.tape, hsv.output, hsv.size, fun k hk hs => hsv.block k hk (fun hk' => hs ?_)⟩
    rcases hE.2 with ⟨hn', _⟩ | ⟨g', cap, cur, hv', hb, _⟩
    · rw [hn'] at hk'; cases hk'
    · rw [hv'] at hk'; cases hk'; exact hb
  have f5 := hB'.frozen 5
  obtain ⟨j0, j1, j2, j3, j4, j5, j6, j7⟩ := hB'.cells
  have hq2 := (ERow.qat hown).1
  have hof := (erow_off hown hB' ht).1
  obtain ⟨m2, hm2⟩ : ∃ m2, m2 = (d.q ++ [y]).length := ⟨_, rfl⟩
  rw [← hm2] at hrun hq2 hof
  have HM2 := Lib.hid hm2
  have HRUN := Lib.hid hrun
  have HB := Lib.hid hB'
  have HE := Lib.hid hq2
  have HY := Lib.hid hys
  have HG := Lib.hid hg
  have HOF := Lib.hid hof
  clear hB hE hg hBw hn e hl hxy hb0 hnew hrun hown hsv hv hoff hB' hys hq2 hof hm2
  go_enter Try.func40, Try.ntmps40
  go_wp2_with (first
    | (at_builtin; refine wpList_app rfl (.tmp 18) (.tmp 21) 25 rfl _ _ _ (by rfl) (by rfl) HRUN.out ?_)
    | (go_at_call 43; ((refine (update_any (d := { d with q := d.q ++ [y] }) (HB.out.queue (d.q ++ [y]) (.slice p' m2 c')) HM2.out).mono ?_); rintro e w2 ⟨rfl, hs2, hb2⟩; have HS2 := Lib.hid hs2; have HB2 := Lib.hid hb2; clear hs2 hb2)))
  go_end0
  have hsv := (Svg.set g 5 w' (.slice p' m2 c')).trans HS2.out
  exact ⟨rfl, Sv.trans HY.out (hsv.ysv HG.out), _, _, _, HB2.out, HE.out.svg hsv HOF.out, HOF.out⟩
end Go.Proofs.Ytbhpnoodpicdkaa
