/- What keeps a hart from memory; store.Store. -/
import Derived.Test.YtobpoghophhphaaMLoad
import Derived.Deep.RegionLaw
namespace Go.Proofs.Ytobpoghophhphaa
open Go.RowKit Mm
set_option linter.unusedVariables false
set_option linter.unusedSimpArgs false
theorem set3_heap {w : World} {g : Nat} {a b c : Value} {t : TypeId} {fr : Nat × Nat} (h : w.heap[g]? = some (.cells #[a, b, c] t fr)) (x y z : Value) : (((w.setCell ⟨g, 0, none⟩ x).setCell ⟨g, 1, none⟩ y).setCell ⟨g, 2, none⟩ z).heap[g]? = some (.cells #[x, y, z] t fr) :=
  heap_set (heap_set (heap_set h 0 x) 1 y) 2 z
theorem set3_svg (w : World) (g : Nat) (x y z : Value) : Svg g w (((w.setCell ⟨g, 0, none⟩ x).setCell ⟨g, 1, none⟩ y).setCell ⟨g, 2, none⟩ z) := ((Svg.set _ _ _ _).trans (Svg.set _ _ _ _)).trans (Svg.set _ _ _ _)
def nilM : Mv := ⟨nilS, nilS, nilS, []⟩
theorem MemAt.zero (base : Nat) (W : World) : MemAt base W nilM zero :=
  ⟨ERow.nil _ _ _ _ _, ERow.nil _ _ _ _ _, rfl, fun i s l h => (by simp [nilM] at h), ERow.nil _ _ _ _ _, fun b h => (by cases h), fun i j s t b h => (by simp [nilM] at h)⟩
/-- a memory is handed back, in rows of its own, with an error's number -/
def Told (m' : Mem) (err : Int) (w : World) (e : Ending) (w' : World) : Prop := ∃ u : Mv, e = .returned (.tuple #[.agg #[.slice u.w.p u.w.n u.w.c, .slice u.p.p u.p.n u.p.c, .slice u.r.p u.r.n u.r.c], .int .i64 err]) ∧ Bel w w' ∧ MemAt w.heap.size w' u m'
def Told3 (x : Value) (m' : Mem) (err : Int) (w : World) (e : Ending) (w' : World) : Prop := ∃ u : Mv, e = .returned (.tuple #[x, .agg #[.slice u.w.p u.w.n u.w.c, .slice u.p.p u.p.n u.p.c, .slice u.r.p u.r.n u.r.c], .int .i64 err]) ∧ Bel w w' ∧ MemAt w.heap.size w' u m'
/-- a hart's row is another -/
theorem MemAt.put {base : Nat} {W W' : World} {v : Mv} {m : Mem} (hm : MemAt base W v m) {h g : Nat} {s t : Sl} {l' : List (Int × Int)} (hg : v.p.p = some ⟨g, 0, none⟩) (hh : isH m h = true) (hs : v.rows[h]? = some s)
    (hsv : Sv (fun k => s.val.ownBlock = some k) W W') (hrow : ERow encE 48 2 W' base t.val l') (hown : ∀ k, t.val.ownBlock = some k → s.val.ownBlock = some k ∨ W.heap.size ≤ k) :
    MemAt base (W'.setCell ⟨g, h, none⟩ t.val) { v with rows := v.rows.set h t } (setP m h l') := by
  obtain ⟨⟨wp, wn, wc⟩, ⟨pp, pn, pc⟩, ⟨rp, rn, rc⟩, rows⟩ := v
  simp only at hg hs
  subst hg
  have hhl : h < m.pend.length := by have := isH_iff.1 hh; omega
  have hrl : h < rows.length := (List.getElem?_eq_some_iff.1 hs).1
  have hr0 := row_get hh
  rw [Int.toNat_natCast] at hr0
  have hse := hm.ro h s _ hs hr0
  obtain ⟨_, csg, hgg⟩ := hm.pd.blk rfl
  have nse : ∀ {α : Type} {enc : α → List Value} {t : TypeId} {k : Nat} {v : Value} {l : List α}, ERow enc t k W base v l → t ≠ 48 → ∀ b, v.ownBlock = some b → ¬ (s.val.ownBlock = some b) := by
    intro α enc t k v l he ht b hb c
    obtain ⟨_, cs1, h1⟩ := he.blk hb
    obtain ⟨_, cs2, h2⟩ := hse.blk c
    rw [h1] at h2
    injection h2 with h2
    injection h2 with _ h2 _
    exact ht h2
  have hgg' : W'.heap[g]? = some (.cells csg 46 (0, 0)) := (hsv.block g (lt_of_heap hgg) (nse hm.pd (by decide) g rfl)).trans hgg
  have hset : Svg g W' (W'.setCell ⟨g, h, none⟩ t.val) := Svg.set _ _ _ _
  have hpd := hm.pd.sv hsv (nse hm.pd (by decide))
  refine ⟨(hm.wd.sv hsv (nse hm.wd (by decide))).keep hset hgg' (by decide), ERow.set (fun _ => rfl) hpd hrl t t.val rfl rfl, ?_, fun i x l hi hl => ?_, (hm.rs.sv hsv (nse hm.rs (by decide))).keep hset hgg' (by decide), hm.ne, fun i j x y b hi hj hij hx => ?_⟩
  · show (rows.set h t).length = (m.pend.set _ l').length
    rw [List.length_set, List.length_set]
    exact hm.rl
  · have hi' : (rows.set h t)[i]? = some x := hi
    have hl2 : (m.pend.set (h : Int).toNat l')[i]? = some l := hl
    rw [Int.toNat_natCast] at hl2
    by_cases hih : i = h
    · subst hih
      rw [List.getElem?_set_self hrl] at hi'
      rw [List.getElem?_set_self hhl] at hl2
      injection hi' with hi'
      injection hl2 with hl2
      subst hi' hl2
      exact hrow.keep hset hgg' (by decide)
    · rw [List.getElem?_set_ne (Ne.symm hih)] at hi' hl2
      refine ((hm.ro i x l hi' hl2).sv hsv fun k hk c => ?_).keep hset hgg' (by decide)
      exact hm.ap i h x s k hi' hs hih hk c
  · have hi' : (rows.set h t)[i]? = some x := hi
    have hj' : (rows.set h t)[j]? = some y := hj
    by_cases hih : i = h
    · subst hih
      rw [List.getElem?_set_self hrl] at hi'
      injection hi' with hi'
      subst hi'
      rw [List.getElem?_set_ne hij] at hj'
      obtain ⟨lj, hlj⟩ : ∃ lj, m.pend[j]? = some lj := ⟨_, List.getElem?_eq_getElem (by rw [← hm.rl]; exact (List.getElem?_eq_some_iff.1 hj').1)⟩
      rcases hown b hx with hb | hb
      · exact hm.ap i j s y b hs hj' hij hb
      · intro c
        obtain ⟨_, cs, hy⟩ := (hm.ro j y lj hj' hlj).blk c
        have := lt_of_heap hy
        omega
    · rw [List.getElem?_set_ne (Ne.symm hih)] at hi'
      obtain ⟨li, hli⟩ : ∃ li, m.pend[i]? = some li := ⟨_, List.getElem?_eq_getElem (by rw [← hm.rl]; exact (List.getElem?_eq_some_iff.1 hi').1)⟩
      by_cases hjh : j = h
      · subst hjh
        rw [List.getElem?_set_self hrl] at hj'
        injection hj' with hj'
        subst hj'
        intro c
        rcases hown b c with hb | hb
        · exact hm.ap i j x s b hi' hs hij hx hb
        · obtain ⟨_, cs, hy⟩ := (hm.ro i x li hi' hli).blk hx
          have := lt_of_heap hy
          omega
      · rw [List.getElem?_set_ne (Ne.symm hjh)] at hj'
        exact hm.ap i j x y b hi' hj' hij hx
set_option maxRecDepth 100000 in
theorem atOnce_1 {w : World} {base : Nat} {v : Mv} {m : Mem} (hm : MemAt base w v m) (ho : Ok m) {h a : Int} (hh : isH m h = false) :
    Calls Try.prog 42 #[.agg #[.slice v.w.p v.w.n v.w.c, .slice v.p.p v.p.n v.p.c, .slice v.r.p v.r.n v.r.c], .int .i64 h, .int .i64 a] w fun e w' => e = .returned (.int .i64 1) ∧ Bel w w' := by
  obtain ⟨hb1, hx1⟩ := box1 w #[.slice v.w.p v.w.n v.w.c, .slice v.p.p v.p.n v.p.c, .slice v.r.p v.r.n v.r.c] 27
  have HM := Lib.hid hm
  have HO := Lib.hid ho
  have HH := Lib.hid hh
  clear hm ho hh
  go_enter Try.func42, Try.ntmps42
  go_upto_region 1 with (fail)
  generalize hW1 : w.alloc (.cells #[.slice v.w.p v.w.n v.w.c, .slice v.p.p v.p.n v.p.c, .slice v.r.p v.r.n v.r.c] 27) = W1 at hb1 hx1 ⊢
  clear hW1
  generalize w.heap.size = g1 at hx1 ⊢
  have HB := Lib.hid hb1
  have HX1 := Lib.hid hx1
  clear hb1 hx1
  have k0 := cell_of_heap HX1.out 0
  have k1 := cell_of_heap HX1.out 1
  have k2 := cell_of_heap HX1.out 2
  simp only [List.getElem?_toArray, List.getElem?_cons_zero, List.getElem?_cons_succ] at k0 k1 k2
  go_wp2_with (first | (go_at_call 28; ((with_reducible refine (isHart_lit HM.out HO.out HH.out _).mono ?_); rintro e wa ⟨rfl, hbz⟩; have HB := Lib.hid (HB.out.trans hbz); have HX1 := Lib.hid (hbz.stays HX1.out); have k0 := cell_of_heap HX1.out 0; have k1 := cell_of_heap HX1.out 1; have k2 := cell_of_heap HX1.out 2; simp only [List.getElem?_toArray, List.getElem?_cons_zero, List.getElem?_cons_succ] at k0 k1 k2; clear hbz)))
  go_ret
  exact ⟨rfl, HB.out⟩
set_option maxRecDepth 100000 in
theorem atOnce_2 {w : World} {base : Nat} {v : Mv} {m : Mem} (hm : MemAt base w v m) (ho : Ok m) {h a : Int} (hh : isH m h = true) (hw : isW m a = false) :
    Calls Try.prog 42 #[.agg #[.slice v.w.p v.w.n v.w.c, .slice v.p.p v.p.n v.p.c, .slice v.r.p v.r.n v.r.c], .int .i64 h, .int .i64 a] w fun e w' => e = .returned (.int .i64 1) ∧ Bel w w' := by
  obtain ⟨hb1, hx1⟩ := box1 w #[.slice v.w.p v.w.n v.w.c, .slice v.p.p v.p.n v.p.c, .slice v.r.p v.r.n v.r.c] 27
  have HM := Lib.hid hm
  have HO := Lib.hid ho
  have HH := Lib.hid hh
  have HW := Lib.hid hw
  clear hm ho hh hw
  go_enter Try.func42, Try.ntmps42
  go_upto_region 1 with (fail)
  generalize hW1 : w.alloc (.cells #[.slice v.w.p v.w.n v.w.c, .slice v.p.p v.p.n v.p.c, .slice v.r.p v.r.n v.r.c] 27) = W1 at hb1 hx1 ⊢
  clear hW1
  generalize w.heap.size = g1 at hx1 ⊢
  have HB := Lib.hid hb1
  have HX1 := Lib.hid hx1
  clear hb1 hx1
  have k0 := cell_of_heap HX1.out 0
  have k1 := cell_of_heap HX1.out 1
  have k2 := cell_of_heap HX1.out 2
  simp only [List.getElem?_toArray, List.getElem?_cons_zero, List.getElem?_cons_succ] at k0 k1 k2
  go_wp2_with (first | (go_at_call 28; ((with_reducible refine (isHart_lit HM.out HO.out HH.out _).mono ?_); rintro e wa ⟨rfl, hbz⟩; have HB := Lib.hid (HB.out.trans hbz); have HX1 := Lib.hid (hbz.stays HX1.out); have k0 := cell_of_heap HX1.out 0; have k1 := cell_of_heap HX1.out 1; have k2 := cell_of_heap HX1.out 2; simp only [List.getElem?_toArray, List.getElem?_cons_zero, List.getElem?_cons_succ] at k0 k1 k2; clear hbz)) | (go_at_call 29; ((with_reducible refine (isWord_lit HM.out HW.out _).mono ?_); rintro e wb ⟨rfl, hbz⟩; have HB := Lib.hid (HB.out.trans hbz); have HX1 := Lib.hid (hbz.stays HX1.out); have k0 := cell_of_heap HX1.out 0; have k1 := cell_of_heap HX1.out 1; have k2 := cell_of_heap HX1.out 2; simp only [List.getElem?_toArray, List.getElem?_cons_zero, List.getElem?_cons_succ] at k0 k1 k2; clear hbz)))
  go_ret
  exact ⟨rfl, HB.out⟩
set_option maxRecDepth 100000 in
theorem atOnce_3 {w : World} {base : Nat} {v : Mv} {m : Mem} (hm : MemAt base w v m) (ho : Ok m) {h : Nat} {a : Int} (hh : isH m h = true) (hw : isW m a = true) (hr : 0 < (row m h).length) :
    Calls Try.prog 42 #[.agg #[.slice v.w.p v.w.n v.w.c, .slice v.p.p v.p.n v.p.c, .slice v.r.p v.r.n v.r.c], .int .i64 (h : Int), .int .i64 a] w fun e w' => e = .returned (.int .i64 92) ∧ Bel w w' := by
  obtain ⟨bp, csp, s, ep, _, hgp, hlep, hltp, hcp, _, _, hrw⟩ := hm.hart hh
  have hn := hrw.n (s := s)
  have HCP := Lib.hid hcp
  have HLP := Lib.hid (lt_of_heap hgp)
  obtain ⟨⟨wp, wn, wc⟩, ⟨pp, pn, pc⟩, ⟨rp, rn, rc⟩, rows⟩ := v
  simp only at ep hlep hltp
  subst ep
  have hpos : (0 : Int) < (s.n : Int) := by omega
  clear hcp hgp hrw
  obtain ⟨hb1, hx1⟩ := box1 w #[.slice wp wn wc, .slice (some ⟨bp, 0, none⟩) pn pc, .slice rp rn rc] 27
  have HM := Lib.hid hm
  have HO := Lib.hid ho
  have HH := Lib.hid hh
  have HW := Lib.hid hw
  clear hm ho hh hw
  go_enter Try.func42, Try.ntmps42
  go_upto_region 1 with (fail)
  generalize hW1 : w.alloc (.cells #[.slice wp wn wc, .slice (some ⟨bp, 0, none⟩) pn pc, .slice rp rn rc] 27) = W1 at hb1 hx1 ⊢
  clear hW1
  generalize w.heap.size = g1 at hx1 ⊢
  have HB := Lib.hid hb1
  have HX1 := Lib.hid hx1
  clear hb1 hx1
  have k0 := cell_of_heap HX1.out 0
  have k1 := cell_of_heap HX1.out 1
  have k2 := cell_of_heap HX1.out 2
  simp only [List.getElem?_toArray, List.getElem?_cons_zero, List.getElem?_cons_succ] at k0 k1 k2
  go_wp2_with (first | (go_at_call 28; ((with_reducible refine (isHart_lit HM.out HO.out HH.out _).mono ?_); rintro e wa ⟨rfl, hbz⟩; have HB := Lib.hid (HB.out.trans hbz); have HX1 := Lib.hid (hbz.stays HX1.out); have k0 := cell_of_heap HX1.out 0; have k1 := cell_of_heap HX1.out 1; have k2 := cell_of_heap HX1.out 2; simp only [List.getElem?_toArray, List.getElem?_cons_zero, List.getElem?_cons_succ] at k0 k1 k2; clear hbz)) | (go_at_call 29; ((with_reducible refine (isWord_lit HM.out HW.out _).mono ?_); rintro e wb ⟨rfl, hbz⟩; have HB := Lib.hid (HB.out.trans hbz); have HX1 := Lib.hid (hbz.stays HX1.out); have k0 := cell_of_heap HX1.out 0; have k1 := cell_of_heap HX1.out 1; have k2 := cell_of_heap HX1.out 2; simp only [List.getElem?_toArray, List.getElem?_cons_zero, List.getElem?_cons_succ] at k0 k1 k2; have cp := (HB.out.cell (p := ⟨bp, h, none⟩) HLP.out).trans HCP.out; clear hbz)))
  go_ret
  exact ⟨rfl, HB.out⟩
set_option maxRecDepth 100000 in
theorem atOnce_4 {w : World} {base : Nat} {v : Mv} {m : Mem} (hm : MemAt base w v m) (ho : Ok m) {h : Nat} {a : Int} (hh : isH m h = true) (hw : isW m a = true) (hr : ¬ 0 < (row m h).length) :
    Calls Try.prog 42 #[.agg #[.slice v.w.p v.w.n v.w.c, .slice v.p.p v.p.n v.p.c, .slice v.r.p v.r.n v.r.c], .int .i64 (h : Int), .int .i64 a] w fun e w' => e = .returned (.int .i64 0) ∧ Bel w w' := by
  obtain ⟨bp, csp, s, ep, _, hgp, hlep, hltp, hcp, _, _, hrw⟩ := hm.hart hh
  have hn := hrw.n (s := s)
  have HCP := Lib.hid hcp
  have HLP := Lib.hid (lt_of_heap hgp)
  obtain ⟨⟨wp, wn, wc⟩, ⟨pp, pn, pc⟩, ⟨rp, rn, rc⟩, rows⟩ := v
  simp only at ep hlep hltp
  subst ep
  have hpos : ¬ (0 : Int) < (s.n : Int) := by omega
  clear hcp hgp hrw
  obtain ⟨hb1, hx1⟩ := box1 w #[.slice wp wn wc, .slice (some ⟨bp, 0, none⟩) pn pc, .slice rp rn rc] 27
  have HM := Lib.hid hm
  have HO := Lib.hid ho
  have HH := Lib.hid hh
  have HW := Lib.hid hw
  clear hm ho hh hw
  go_enter Try.func42, Try.ntmps42
  go_upto_region 1 with (fail)
  generalize hW1 : w.alloc (.cells #[.slice wp wn wc, .slice (some ⟨bp, 0, none⟩) pn pc, .slice rp rn rc] 27) = W1 at hb1 hx1 ⊢
  clear hW1
  generalize w.heap.size = g1 at hx1 ⊢
  have HB := Lib.hid hb1
  have HX1 := Lib.hid hx1
  clear hb1 hx1
  have k0 := cell_of_heap HX1.out 0
  have k1 := cell_of_heap HX1.out 1
  have k2 := cell_of_heap HX1.out 2
  simp only [List.getElem?_toArray, List.getElem?_cons_zero, List.getElem?_cons_succ] at k0 k1 k2
  go_wp2_with (first | (go_at_call 28; ((with_reducible refine (isHart_lit HM.out HO.out HH.out _).mono ?_); rintro e wa ⟨rfl, hbz⟩; have HB := Lib.hid (HB.out.trans hbz); have HX1 := Lib.hid (hbz.stays HX1.out); have k0 := cell_of_heap HX1.out 0; have k1 := cell_of_heap HX1.out 1; have k2 := cell_of_heap HX1.out 2; simp only [List.getElem?_toArray, List.getElem?_cons_zero, List.getElem?_cons_succ] at k0 k1 k2; clear hbz)) | (go_at_call 29; ((with_reducible refine (isWord_lit HM.out HW.out _).mono ?_); rintro e wb ⟨rfl, hbz⟩; have HB := Lib.hid (HB.out.trans hbz); have HX1 := Lib.hid (hbz.stays HX1.out); have k0 := cell_of_heap HX1.out 0; have k1 := cell_of_heap HX1.out 1; have k2 := cell_of_heap HX1.out 2; simp only [List.getElem?_toArray, List.getElem?_cons_zero, List.getElem?_cons_succ] at k0 k1 k2; have cp := (HB.out.cell (p := ⟨bp, h, none⟩) HLP.out).trans HCP.out; clear hbz)))
  go_ret
  exact ⟨rfl, HB.out⟩
theorem atOnce_lit {w : World} {base : Nat} {v : Mv} {m : Mem} (hm : MemAt base w v m) (ho : Ok m) {h a r : Int} (hr : busy m h a = r) :
    Calls Try.prog 42 #[.agg #[.slice v.w.p v.w.n v.w.c, .slice v.p.p v.p.n v.p.c, .slice v.r.p v.r.n v.r.c], .int .i64 h, .int .i64 a] w fun e w' => e = .returned (.int .i64 r) ∧ Bel w w' := by
  unfold busy at hr
  cases hh : isH m h with
  | false => rw [hh] at hr; rw [← hr]; exact atOnce_1 hm ho hh
  | true =>
    cases hw : isW m a with
    | false => rw [hh, hw] at hr; rw [← hr]; exact atOnce_2 hm ho hh hw
    | true =>
      rw [hh, hw] at hr
      obtain ⟨hN, rfl⟩ : ∃ hN : Nat, h = hN := ⟨h.toNat, by have := isH_iff.1 hh; omega⟩
      by_cases hc : 0 < (row m hN).length
      · rw [if_pos (by rfl), if_pos hc] at hr; rw [← hr]; exact atOnce_3 hm ho hh hw hc
      · rw [if_pos (by rfl), if_neg hc] at hr; rw [← hr]; exact atOnce_4 hm ho hh hw hc
end Go.Proofs.Ytobpoghophhphaa
