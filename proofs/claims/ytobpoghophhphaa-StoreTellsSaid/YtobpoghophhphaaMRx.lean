/- The document's own Drain. -/
import Derived.Test.YtobpoghophhphaaMRw
import Derived.Test.YtobpoghophhphaaMRa
import Derived.Test.YtobpoghophhphaaMRg
import Derived.Test.YtobpoghophhphaaMRf
import Derived.Test.YtobpoghophhphaaMStore
namespace Go.Proofs.Ytobpoghophhphaa
open Go.RowKit Mm
set_option linter.unusedVariables false
set_option linter.unusedSimpArgs false
theorem MemAt.app {base : Nat} {W W' : World} {v : Mv} {m : Mem} (h : MemAt base W v m) {s : Sl} {b : Nat} {l : List (Int × Int)} (hr : ERow encE 48 2 W b s.val l) (hs : Sv (fun k => s.val.ownBlock = some k) W W') (hsep : ∀ (i : Nat) (t : Sl) (k : Nat), v.rows[i]? = some t → t.val.ownBlock = some k → s.val.ownBlock ≠ some k) : MemAt base W' v m :=
  ⟨h.wd.sv hs (nse h.wd hr (by decide)), h.pd.sv hs (nse h.pd hr (by decide)), h.rl, fun i t l hi hl => (h.ro i t l hi hl).sv hs (fun k hk => hsep i t k hi hk), h.rs.sv hs (nse h.rs hr (by decide)), h.ne, h.ap⟩
/-- a hart's row is another, in a block that is no other's -/
theorem MemAt.put2 {base : Nat} {W : World} {v : Mv} {m : Mem} (hm : MemAt base W v m) {h g : Nat} {t : Sl} {l' : List (Int × Int)} (hg : v.p.p = some ⟨g, 0, none⟩) (hh : isH m h = true) (hrow : ERow encE 48 2 W base t.val l') (hsep : ∀ (i : Nat) (y : Sl) (k : Nat), v.rows[i]? = some y → y.val.ownBlock = some k → t.val.ownBlock ≠ some k) :
    MemAt base (W.setCell ⟨g, h, none⟩ t.val) { v with rows := v.rows.set h t } (setP m h l') := by
  obtain ⟨⟨wp, wn, wc⟩, ⟨pp, pn, pc⟩, ⟨rp, rn, rc⟩, rows⟩ := v
  simp only at hg hsep
  subst hg
  have hhl : h < m.pend.length := by have := isH_iff.1 hh; omega
  have hrl : h < rows.length := by have := hm.rl; simp only at this; omega
  obtain ⟨_, csg, hgg⟩ := hm.pd.blk rfl
  have hset : Svg g W (W.setCell ⟨g, h, none⟩ t.val) := Svg.set _ _ _ _
  refine ⟨hm.wd.keep hset hgg (by decide), ERow.set (fun _ => rfl) hm.pd hrl t t.val rfl rfl, ?_, fun i x l hi hl => ?_, hm.rs.keep hset hgg (by decide), hm.ne, fun i j x y b hi hj hij hx => ?_⟩
  · show (rows.set h t).length = (m.pend.set _ l').length
    rw [List.length_set, List.length_set]
    exact hm.rl
  · have hi' : (rows.set h t)[i]? = some x := hi
    have hl2 : (m.pend.set (h : Int).toNat l')[i]? = some l := hl
    rw [Int.toNat_natCast] at hl2
    by_cases hih : i = h
    · subst hih
      rw [List.getElem?_set_self hrl] at hi'
      rw [List.getElem?_set_self hhl] at hl2
      injection hi' with hi'
      injection hl2 with hl2
      subst hi' hl2
      exact hrow.keep hset hgg (by decide)
    · rw [List.getElem?_set_ne (Ne.symm hih)] at hi' hl2
      exact (hm.ro i x l hi' hl2).keep hset hgg (by decide)
  · have hi' : (rows.set h t)[i]? = some x := hi
    have hj' : (rows.set h t)[j]? = some y := hj
    by_cases hih : i = h
    · subst hih
      rw [List.getElem?_set_self hrl] at hi'
      injection hi' with hi'
      subst hi'
      rw [List.getElem?_set_ne hij] at hj'
      exact fun c => hsep j y b hj' c hx
    · rw [List.getElem?_set_ne (Ne.symm hih)] at hi'
      by_cases hjh : j = h
      · subst hjh
        rw [List.getElem?_set_self hrl] at hj'
        injection hj' with hj'
        subst hj'
        exact hsep i x b hi' hx
      · rw [List.getElem?_set_ne (Ne.symm hjh)] at hj'
        exact hm.ap i j x y b hi' hj' hij hx
set_option maxRecDepth 100000 in
set_option maxHeartbeats 2000000 in
theorem rdr_1 {w : World} {base : Nat} {v : Mv} {m : Mem} (hm : MemAt base w v m) (ho : Ok m) {h k : Int} (hh : isH m h = false) :
    Calls Try.prog 15 #[.agg #[.slice v.w.p v.w.n v.w.c, .slice v.p.p v.p.n v.p.c, .slice v.r.p v.r.n v.r.c], .int .i64 h, .int .i64 k] w (Told zero 1 w) := by
  obtain ⟨hb1, hx1, hx2⟩ := box2 w #[.slice v.w.p v.w.n v.w.c, .slice v.p.p v.p.n v.p.c, .slice v.r.p v.r.n v.r.c] 27 #[.slice none 0 0, .slice none 0 0, .slice none 0 0] 27
  have HM := Lib.hid hm
  have HO := Lib.hid ho
  have HH := Lib.hid hh
  clear hm ho hh
  go_enter Try.func15, Try.ntmps15
  go_upto_region 1 with (fail)
  generalize hW1 : ((w.alloc (.cells #[.slice v.w.p v.w.n v.w.c, .slice v.p.p v.p.n v.p.c, .slice v.r.p v.r.n v.r.c] 27)).alloc (.cells #[.slice none 0 0, .slice none 0 0, .slice none 0 0] 27)) = W1 at hb1 hx1 hx2 ⊢
  clear hW1
  have HN12 : Hid (w.heap.size ≠ w.heap.size + 1) := Lib.hid (by omega)
  have HG2 : Hid (w.heap.size ≤ w.heap.size + 1) := Lib.hid (by omega)
  generalize w.heap.size + 1 = g2 at hx2 HN12 HG2 ⊢
  obtain ⟨g1, hG⟩ : ∃ G, w.heap.size = G := ⟨_, rfl⟩
  rw [hG] at hx1 HN12 HG2 ⊢
  have HG := Lib.hid hG
  have HB := Lib.hid hb1
  have HX1 := Lib.hid hx1
  have HX2 := Lib.hid hx2
  clear hb1 hx1 hx2 hG
  have k0 := cell_of_heap HX1.out 0
  have kf0 := frozen_of_heap HX1.out 0
  have k1 := cell_of_heap HX1.out 1
  have kf1 := frozen_of_heap HX1.out 1
  have k2 := cell_of_heap HX1.out 2
  have kf2 := frozen_of_heap HX1.out 2
  simp only [List.getElem?_toArray, List.getElem?_cons_zero, List.getElem?_cons_succ] at k0 k1 k2
  have z0 := cell_of_heap HX2.out 0
  have zf0 := frozen_of_heap HX2.out 0
  have z1 := cell_of_heap HX2.out 1
  have zf1 := frozen_of_heap HX2.out 1
  have z2 := cell_of_heap HX2.out 2
  have zf2 := frozen_of_heap HX2.out 2
  simp only [List.getElem?_toArray, List.getElem?_cons_zero, List.getElem?_cons_succ] at z0 z1 z2
  go_wp2_with (first | (go_at_call 40; ((with_reducible refine (rhart_lit (HM.out.bel HB.out) HO.out HH.out _).mono ?_); rintro e wa ⟨rfl, hbz⟩; have HB := Lib.hid (HB.out.trans hbz); have HX1 := Lib.hid (hbz.stays HX1.out); have HX2 := Lib.hid (hbz.stays HX2.out); have k0 := cell_of_heap HX1.out 0; have kf0 := frozen_of_heap HX1.out 0; have k1 := cell_of_heap HX1.out 1; have kf1 := frozen_of_heap HX1.out 1; have k2 := cell_of_heap HX1.out 2; have kf2 := frozen_of_heap HX1.out 2; simp only [List.getElem?_toArray, List.getElem?_cons_zero, List.getElem?_cons_succ] at k0 k1 k2; have z0 := cell_of_heap HX2.out 0; have zf0 := frozen_of_heap HX2.out 0; have z1 := cell_of_heap HX2.out 1; have zf1 := frozen_of_heap HX2.out 1; have z2 := cell_of_heap HX2.out 2; have zf2 := frozen_of_heap HX2.out 2; simp only [List.getElem?_toArray, List.getElem?_cons_zero, List.getElem?_cons_succ] at z0 z1 z2; clear hbz)))
  have hs3 : Svg g2 wa (((wa.setCell ⟨g2, 0, none⟩ (.slice none 0 0)).setCell ⟨g2, 1, none⟩ (.slice none 0 0)).setCell ⟨g2, 2, none⟩ (.slice none 0 0)) := set3_svg _ _ _ _ _
  have hh := set3_heap HX2.out (.slice none 0 0) (.slice none 0 0) (.slice none 0 0)
  exact bodyPost_ret (results_cell_slot Try.results15 _ _ g2 _ _ _ _ _ rfl rfl hh Try.underlying27 rfl (by kernel_rfl)) rfl ⟨nilM, rfl, hs3.bel HB.out (by have := HG.out; have := HG2.out; omega), MemAt.zero _ _⟩
set_option maxRecDepth 100000 in
set_option maxHeartbeats 2000000 in
theorem rdr_2 {w : World} {base : Nat} {v : Mv} {m : Mem} (hm : MemAt base w v m) (ho : Ok m) {h k : Int} (hh : isH m h = true) (hk : k < 0) :
    Calls Try.prog 15 #[.agg #[.slice v.w.p v.w.n v.w.c, .slice v.p.p v.p.n v.p.c, .slice v.r.p v.r.n v.r.c], .int .i64 h, .int .i64 k] w (Told zero 1 w) := by
  obtain ⟨hb1, hx1, hx2⟩ := box2 w #[.slice v.w.p v.w.n v.w.c, .slice v.p.p v.p.n v.p.c, .slice v.r.p v.r.n v.r.c] 27 #[.slice none 0 0, .slice none 0 0, .slice none 0 0] 27
  have HM := Lib.hid hm
  have HO := Lib.hid ho
  have HH := Lib.hid hh
  clear hm ho hh
  go_enter Try.func15, Try.ntmps15
  go_upto_region 1 with (fail)
  generalize hW1 : ((w.alloc (.cells #[.slice v.w.p v.w.n v.w.c, .slice v.p.p v.p.n v.p.c, .slice v.r.p v.r.n v.r.c] 27)).alloc (.cells #[.slice none 0 0, .slice none 0 0, .slice none 0 0] 27)) = W1 at hb1 hx1 hx2 ⊢
  clear hW1
  have HN12 : Hid (w.heap.size ≠ w.heap.size + 1) := Lib.hid (by omega)
  have HG2 : Hid (w.heap.size ≤ w.heap.size + 1) := Lib.hid (by omega)
  generalize w.heap.size + 1 = g2 at hx2 HN12 HG2 ⊢
  obtain ⟨g1, hG⟩ : ∃ G, w.heap.size = G := ⟨_, rfl⟩
  rw [hG] at hx1 HN12 HG2 ⊢
  have HG := Lib.hid hG
  have HB := Lib.hid hb1
  have HX1 := Lib.hid hx1
  have HX2 := Lib.hid hx2
  clear hb1 hx1 hx2 hG
  have k0 := cell_of_heap HX1.out 0
  have kf0 := frozen_of_heap HX1.out 0
  have k1 := cell_of_heap HX1.out 1
  have kf1 := frozen_of_heap HX1.out 1
  have k2 := cell_of_heap HX1.out 2
  have kf2 := frozen_of_heap HX1.out 2
  simp only [List.getElem?_toArray, List.getElem?_cons_zero, List.getElem?_cons_succ] at k0 k1 k2
  have z0 := cell_of_heap HX2.out 0
  have zf0 := frozen_of_heap HX2.out 0
  have z1 := cell_of_heap HX2.out 1
  have zf1 := frozen_of_heap HX2.out 1
  have z2 := cell_of_heap HX2.out 2
  have zf2 := frozen_of_heap HX2.out 2
  simp only [List.getElem?_toArray, List.getElem?_cons_zero, List.getElem?_cons_succ] at z0 z1 z2
  go_wp2_with (first | (go_at_call 40; ((with_reducible refine (rhart_lit (HM.out.bel HB.out) HO.out HH.out _).mono ?_); rintro e wa ⟨rfl, hbz⟩; have HB := Lib.hid (HB.out.trans hbz); have HX1 := Lib.hid (hbz.stays HX1.out); have HX2 := Lib.hid (hbz.stays HX2.out); have k0 := cell_of_heap HX1.out 0; have kf0 := frozen_of_heap HX1.out 0; have k1 := cell_of_heap HX1.out 1; have kf1 := frozen_of_heap HX1.out 1; have k2 := cell_of_heap HX1.out 2; have kf2 := frozen_of_heap HX1.out 2; simp only [List.getElem?_toArray, List.getElem?_cons_zero, List.getElem?_cons_succ] at k0 k1 k2; have z0 := cell_of_heap HX2.out 0; have zf0 := frozen_of_heap HX2.out 0; have z1 := cell_of_heap HX2.out 1; have zf1 := frozen_of_heap HX2.out 1; have z2 := cell_of_heap HX2.out 2; have zf2 := frozen_of_heap HX2.out 2; simp only [List.getElem?_toArray, List.getElem?_cons_zero, List.getElem?_cons_succ] at z0 z1 z2; clear hbz)))
  have hs3 : Svg g2 wa (((wa.setCell ⟨g2, 0, none⟩ (.slice none 0 0)).setCell ⟨g2, 1, none⟩ (.slice none 0 0)).setCell ⟨g2, 2, none⟩ (.slice none 0 0)) := set3_svg _ _ _ _ _
  have hh := set3_heap HX2.out (.slice none 0 0) (.slice none 0 0) (.slice none 0 0)
  exact bodyPost_ret (results_cell_slot Try.results15 _ _ g2 _ _ _ _ _ rfl rfl hh Try.underlying27 rfl (by kernel_rfl)) rfl ⟨nilM, rfl, hs3.bel HB.out (by have := HG.out; have := HG2.out; omega), MemAt.zero _ _⟩
set_option maxRecDepth 100000 in
set_option maxHeartbeats 2000000 in
theorem rdr_3 {w : World} {base : Nat} {v : Mv} {m : Mem} (hm : MemAt base w v m) (ho : Ok m) {h k : Nat} (hh : isH m (h : Int) = true) (hk : (row m (h : Int)).length ≤ k) :
    Calls Try.prog 15 #[.agg #[.slice v.w.p v.w.n v.w.c, .slice v.p.p v.p.n v.p.c, .slice v.r.p v.r.n v.r.c], .int .i64 (h : Int), .int .i64 (k : Int)] w (Told zero 1 w) := by
  obtain ⟨hb1, hx1, hx2⟩ := box2 w #[.slice v.w.p v.w.n v.w.c, .slice v.p.p v.p.n v.p.c, .slice v.r.p v.r.n v.r.c] 27 #[.slice none 0 0, .slice none 0 0, .slice none 0 0] 27
  have HM := Lib.hid hm
  have HO := Lib.hid ho
  have HH := Lib.hid hh
  clear hm ho hh
  go_enter Try.func15, Try.ntmps15
  go_upto_region 1 with (fail)
  generalize hW1 : ((w.alloc (.cells #[.slice v.w.p v.w.n v.w.c, .slice v.p.p v.p.n v.p.c, .slice v.r.p v.r.n v.r.c] 27)).alloc (.cells #[.slice none 0 0, .slice none 0 0, .slice none 0 0] 27)) = W1 at hb1 hx1 hx2 ⊢
  clear hW1
  have HN12 : Hid (w.heap.size ≠ w.heap.size + 1) := Lib.hid (by omega)
  have HG2 : Hid (w.heap.size ≤ w.heap.size + 1) := Lib.hid (by omega)
  generalize w.heap.size + 1 = g2 at hx2 HN12 HG2 ⊢
  obtain ⟨g1, hG⟩ : ∃ G, w.heap.size = G := ⟨_, rfl⟩
  rw [hG] at hx1 HN12 HG2 ⊢
  have HG := Lib.hid hG
  have HB := Lib.hid hb1
  have HX1 := Lib.hid hx1
  have HX2 := Lib.hid hx2
  clear hb1 hx1 hx2 hG
  have k0 := cell_of_heap HX1.out 0
  have kf0 := frozen_of_heap HX1.out 0
  have k1 := cell_of_heap HX1.out 1
  have kf1 := frozen_of_heap HX1.out 1
  have k2 := cell_of_heap HX1.out 2
  have kf2 := frozen_of_heap HX1.out 2
  simp only [List.getElem?_toArray, List.getElem?_cons_zero, List.getElem?_cons_succ] at k0 k1 k2
  have z0 := cell_of_heap HX2.out 0
  have zf0 := frozen_of_heap HX2.out 0
  have z1 := cell_of_heap HX2.out 1
  have zf1 := frozen_of_heap HX2.out 1
  have z2 := cell_of_heap HX2.out 2
  have zf2 := frozen_of_heap HX2.out 2
  simp only [List.getElem?_toArray, List.getElem?_cons_zero, List.getElem?_cons_succ] at z0 z1 z2
  go_upto_region 2 with (first | (go_at_call 40; ((with_reducible refine (rhart_lit (HM.out.bel HB.out) HO.out HH.out _).mono ?_); rintro e wa ⟨rfl, hbz⟩; have HB := Lib.hid (HB.out.trans hbz); have HX1 := Lib.hid (hbz.stays HX1.out); have HX2 := Lib.hid (hbz.stays HX2.out); have k0 := cell_of_heap HX1.out 0; have kf0 := frozen_of_heap HX1.out 0; have k1 := cell_of_heap HX1.out 1; have kf1 := frozen_of_heap HX1.out 1; have k2 := cell_of_heap HX1.out 2; have kf2 := frozen_of_heap HX1.out 2; simp only [List.getElem?_toArray, List.getElem?_cons_zero, List.getElem?_cons_succ] at k0 k1 k2; have z0 := cell_of_heap HX2.out 0; have zf0 := frozen_of_heap HX2.out 0; have z1 := cell_of_heap HX2.out 1; have zf1 := frozen_of_heap HX2.out 1; have z2 := cell_of_heap HX2.out 2; have zf2 := frozen_of_heap HX2.out 2; simp only [List.getElem?_toArray, List.getElem?_cons_zero, List.getElem?_cons_succ] at z0 z1 z2; clear hbz)))
  obtain ⟨bp, csp, s0, ep, _, hhp, hlep, hltp, hcp, _, _, hrp⟩ := (HM.out.bel HB.out).hart HH.out
  have HEP := Lib.hid ep
  have hnp : s0.n = (row m (h : Int)).length := ERow.n hrp
  rw [ep] at k1
  have hlp : (h : Int) < v.p.n := by omega
  have hls : ((s0.n : Nat) : Int) ≤ (k : Int) := by omega
  clear hhp hrp hnp hk
  go_wp2_with (fail)
  have hs3 : Svg g2 wa (((wa.setCell ⟨g2, 0, none⟩ (.slice none 0 0)).setCell ⟨g2, 1, none⟩ (.slice none 0 0)).setCell ⟨g2, 2, none⟩ (.slice none 0 0)) := set3_svg _ _ _ _ _
  have hh := set3_heap HX2.out (.slice none 0 0) (.slice none 0 0) (.slice none 0 0)
  exact bodyPost_ret (results_cell_slot Try.results15 _ _ g2 _ _ _ _ _ rfl rfl hh Try.underlying27 rfl (by kernel_rfl)) rfl ⟨nilM, rfl, hs3.bel HB.out (by have := HG.out; have := HG2.out; omega), MemAt.zero _ _⟩
set_option maxHeartbeats 2000000 in
set_option maxRecDepth 100000 in
set_option maxHeartbeats 2000000 in
theorem rdr_4 {w : World} {base : Nat} {v : Mv} {m : Mem} (hm : MemAt base w v m) (ho : Ok m) {h k a : Nat} {n : Int} (hh : isH m (h : Int) = true) (hx : (row m (h : Int))[k]? = some ((a : Int), n)) (ha : ((row m (h : Int)).take k).any (fun x => decide (x.1 = (a : Int))) = true) :
    Calls Try.prog 15 #[.agg #[.slice v.w.p v.w.n v.w.c, .slice v.p.p v.p.n v.p.c, .slice v.r.p v.r.n v.r.c], .int .i64 (h : Int), .int .i64 (k : Int)] w (Told zero 91 w) := by
  obtain ⟨hb1, hx1, hx2⟩ := box2 w #[.slice v.w.p v.w.n v.w.c, .slice v.p.p v.p.n v.p.c, .slice v.r.p v.r.n v.r.c] 27 #[.slice none 0 0, .slice none 0 0, .slice none 0 0] 27
  have HM := Lib.hid hm
  have HO := Lib.hid ho
  have HH := Lib.hid hh
  have HXX := Lib.hid hx
  have HANY := Lib.hid ha
  clear hm ho hh hx ha
  go_enter Try.func15, Try.ntmps15
  go_upto_region 1 with (fail)
  generalize hW1 : ((w.alloc (.cells #[.slice v.w.p v.w.n v.w.c, .slice v.p.p v.p.n v.p.c, .slice v.r.p v.r.n v.r.c] 27)).alloc (.cells #[.slice none 0 0, .slice none 0 0, .slice none 0 0] 27)) = W1 at hb1 hx1 hx2 ⊢
  clear hW1
  have HN12 : Hid (w.heap.size ≠ w.heap.size + 1) := Lib.hid (by omega)
  have HG2 : Hid (w.heap.size ≤ w.heap.size + 1) := Lib.hid (by omega)
  generalize w.heap.size + 1 = g2 at hx2 HN12 HG2 ⊢
  obtain ⟨g1, hG⟩ : ∃ G, w.heap.size = G := ⟨_, rfl⟩
  rw [hG] at hx1 HN12 HG2 ⊢
  have HG := Lib.hid hG
  have HB := Lib.hid hb1
  have HX1 := Lib.hid hx1
  have HX2 := Lib.hid hx2
  clear hb1 hx1 hx2 hG
  have k0 := cell_of_heap HX1.out 0
  have kf0 := frozen_of_heap HX1.out 0
  have k1 := cell_of_heap HX1.out 1
  have kf1 := frozen_of_heap HX1.out 1
  have k2 := cell_of_heap HX1.out 2
  have kf2 := frozen_of_heap HX1.out 2
  simp only [List.getElem?_toArray, List.getElem?_cons_zero, List.getElem?_cons_succ] at k0 k1 k2
  have z0 := cell_of_heap HX2.out 0
  have zf0 := frozen_of_heap HX2.out 0
  have z1 := cell_of_heap HX2.out 1
  have zf1 := frozen_of_heap HX2.out 1
  have z2 := cell_of_heap HX2.out 2
  have zf2 := frozen_of_heap HX2.out 2
  simp only [List.getElem?_toArray, List.getElem?_cons_zero, List.getElem?_cons_succ] at z0 z1 z2
  go_upto_region 2 with (first | (go_at_call 40; ((with_reducible refine (rhart_lit (HM.out.bel HB.out) HO.out HH.out _).mono ?_); rintro e wa ⟨rfl, hbz⟩; have HB := Lib.hid (HB.out.trans hbz); have HX1 := Lib.hid (hbz.stays HX1.out); have HX2 := Lib.hid (hbz.stays HX2.out); have k0 := cell_of_heap HX1.out 0; have kf0 := frozen_of_heap HX1.out 0; have k1 := cell_of_heap HX1.out 1; have kf1 := frozen_of_heap HX1.out 1; have k2 := cell_of_heap HX1.out 2; have kf2 := frozen_of_heap HX1.out 2; simp only [List.getElem?_toArray, List.getElem?_cons_zero, List.getElem?_cons_succ] at k0 k1 k2; have z0 := cell_of_heap HX2.out 0; have zf0 := frozen_of_heap HX2.out 0; have z1 := cell_of_heap HX2.out 1; have zf1 := frozen_of_heap HX2.out 1; have z2 := cell_of_heap HX2.out 2; have zf2 := frozen_of_heap HX2.out 2; simp only [List.getElem?_toArray, List.getElem?_cons_zero, List.getElem?_cons_succ] at z0 z1 z2; clear hbz)))
  obtain ⟨bp, csp, s0, ep, _, hhp, hlep, hltp, hcp, _, _, hrp⟩ := (HM.out.bel HB.out).hart HH.out
  have HEP := Lib.hid ep
  have hnp : s0.n = (row m (h : Int)).length := ERow.n hrp
  rw [ep] at k1
  have hlp : (h : Int) < v.p.n := by omega
  have HL8 : Hid ((row m (h : Int)).length ≤ 8) := Lib.hid (HO.out.p8 _ (row_mem HH.out))
  have HAT : Hid (0 ≤ (a : Int) ∧ (a : Int) < (m.words.length : Int)) := Lib.hid (HO.out.at_ _ (row_mem HH.out) _ (List.mem_of_getElem? HXX.out))
  have HKL : Hid (k < (row m (h : Int)).length) := Lib.hid (List.getElem?_eq_some_iff.1 HXX.out).1
  obtain ⟨be, cse, es, -, -, -, -, -, -, hce⟩ := ERow.at (enc := encE) (k := 2) (s := s0) encE_len hrp HXX.out
  have c0 := hce 0 _ rfl
  have c1 := hce 1 _ rfl
  rw [Nat.add_zero] at c0
  simp only at c0 c1
  rw [es] at hcp
  have hlk : (k : Int) < (s0.n : Int) := by have := HKL.out; omega
  have HN0 : Hid (s0.n = (row m (h : Int)).length) := Lib.hid hnp
  have HLP0 := Lib.hid (lt_of_heap hhp)
  have HRP := Lib.hid hrp
  clear hce hrp hhp hnp hlep hltp ep
  go_upto_region 5 with (fail)
  obtain ⟨hb9, hx9⟩ := box1 wa #[.int .i64 (a : Int), .int .i64 n] 48
  have HX1 := Lib.hid (hb9.stays HX1.out)
  have HX2 := Lib.hid (hb9.stays HX2.out)
  have HX9 := Lib.hid hx9
  have HB := Lib.hid (HB.out.trans hb9)
  have HRP := Lib.hid (HRP.out.bel hb9)
  rw [← es] at hcp
  have HCP := Lib.hid ((hb9.cell (p := ⟨bp, h, none⟩) HLP0.out).trans hcp)
  have HLP1 : Hid (bp < (wa.alloc (.cells #[.int .i64 (a : Int), .int .i64 n] 48)).heap.size) := Lib.hid (by have := HLP0.out; have := hb9.size; omega)
  generalize hWW : wa.alloc (.cells #[.int .i64 (a : Int), .int .i64 n] 48) = W5 at hx9 HX1 HX2 HX9 HB HRP HCP HLP1 ⊢
  clear hWW hb9
  generalize wa.heap.size = g9 at hx9 HX9 ⊢
  clear c0 c1 hcp es hx9 k0 k1 k2 kf0 kf1 kf2 z0 z1 z2 zf0 zf1 zf2
  have hwn : ((a : Int) < (v.w.n : Int)) := by have h0 := HAT.out; have := HM.out.wn; omega
  have k0 := cell_of_heap HX1.out 0
  have k1 := cell_of_heap HX1.out 1
  have k2 := cell_of_heap HX1.out 2
  simp only [List.getElem?_toArray, List.getElem?_cons_zero, List.getElem?_cons_succ] at k0 k1 k2
  rw [HEP.out] at k1
  have q0 := cell_of_heap HX9.out 0
  have q1 := cell_of_heap HX9.out 1
  simp only [List.getElem?_toArray, List.getElem?_cons_zero, List.getElem?_cons_succ] at q0 q1
  go_upto_region 7 with (fail)
  clear q0 q1 k0 k1 k2 hlk
  have hk8 : k < 9 := by have := HKL.out; have := HL8.out; omega
  obtain ⟨W5', hW5⟩ : ∃ W, W = W5 := ⟨_, rfl⟩
  rw [← hW5] at HX1 HX2 HX9 HB HRP HCP HLP1 ⊢
  clear hW5
  go_wp2
  go_loopw [10] (fun i wr => ∃ j : Nat, j ≤ k ∧ i = .int .i64 j ∧ Hid (Bel W5' wr) ∧ Hid (∀ x ∈ (row m (h : Int)).take j, x.1 ≠ (a : Int))) (fun i _ => k - (intOf i).toNat)
  case atStart => exact ⟨0, Nat.zero_le _, rfl, Lib.hid (Bel.refl _), Lib.hid (fun x hx => by simp at hx)⟩
  case round =>
    obtain ⟨j, hj, rfl, HBR, HNO⟩ := hrel
    by_cases hlt : j < k
    · have hlt2 : (j : Int) < k := by omega
      obtain ⟨x, hx⟩ : ∃ x, (row m (h : Int))[j]? = some x := ⟨_, List.getElem?_eq_getElem (by have := HKL.out; omega)⟩
      obtain ⟨be, cse, es, -, -, -, -, -, -, hce⟩ := ERow.at (enc := encE) (k := 2) (s := s0) encE_len (HRP.out.bel HBR.out) hx
      have c0 := hce 0 _ rfl
      rw [Nat.add_zero] at c0
      have hcp := (HBR.out.cell (p := ⟨bp, h, none⟩) HLP1.out).trans HCP.out
      rw [es] at hcp
      have hlk : (j : Int) < (s0.n : Int) := by have := HKL.out; have := HN0.out; omega
      have k1 := cell_of_heap (HBR.out.stays HX1.out) 1
      have q0 := cell_of_heap (HBR.out.stays HX9.out) 0
      simp only [List.getElem?_toArray, List.getElem?_cons_zero, List.getElem?_cons_succ] at k1 q0
      rw [HEP.out] at k1
      have HXJ := Lib.hid hx
      clear hce hx es
      obtain ⟨x1, x2⟩ := x
      simp only at c0
      go_upto_region 10 with (fail)
      by_cases hxa : x1 = (a : Int)
      · have hxb : (x1 == (a : Int)) = true := beq_iff_eq.2 hxa
        go_quiet (fail)
        clear hxa
        have HX2' := Lib.hid ((HBR.out).stays HX2.out)
        clear k1 q0 c0 hcp
        have hb9 := (Bel.refl wr).drewN nq
        have HX2 := Lib.hid (hb9.stays HX2'.out)
        have HB := Lib.hid (HB.out.trans (HBR.out.trans hb9))
        clear HX2'
        generalize wr.drewN nq = W6 at hb9 HX2 HB ⊢
        clear hb9
        have z0 := cell_of_heap HX2.out 0
        have zf0 := frozen_of_heap HX2.out 0
        have z1 := cell_of_heap HX2.out 1
        have zf1 := frozen_of_heap HX2.out 1
        have z2 := cell_of_heap HX2.out 2
        have zf2 := frozen_of_heap HX2.out 2
        simp only [List.getElem?_toArray, List.getElem?_cons_zero, List.getElem?_cons_succ] at z0 z1 z2
        go_wp2_with (fail)
        have hs3 : Svg g2 W6 (((W6.setCell ⟨g2, 0, none⟩ (.slice none 0 0)).setCell ⟨g2, 1, none⟩ (.slice none 0 0)).setCell ⟨g2, 2, none⟩ (.slice none 0 0)) := set3_svg _ _ _ _ _
        have hh := set3_heap HX2.out (.slice none 0 0) (.slice none 0 0) (.slice none 0 0)
        exact bodyPost_ret (results_cell_slot Try.results15 _ _ g2 _ _ _ _ _ rfl rfl hh Try.underlying27 rfl (by kernel_rfl)) rfl ⟨nilM, rfl, hs3.bel HB.out (by have := HG.out; have := HG2.out; omega), MemAt.zero _ _⟩
      · have hxb : (x1 == (a : Int)) = false := beq_eq_false_iff_ne.2 hxa
        have HXA := Lib.hid hxa
        clear hxa
        go_quiet (fail)
        go_wp2
        exact ⟨⟨j + 1, by omega, by go_num, Lib.hid (HBR.out.drewN nq), Lib.hid (fun y hy => by rw [List.take_add_one, HXJ.out] at hy; exact (List.mem_append.1 hy).elim (fun h1 => HNO.out y h1) (fun h1 => by have h2 : y = (x1, x2) := (by simpa using h1); rw [h2]; exact HXA.out))⟩, by simp [intOf]; omega⟩
    · obtain rfl : j = k := by omega
      have hlt2 : ¬ (j : Int) < (j : Int) := by omega
      exact absurd HANY.out (by simp only [Bool.not_eq_true, List.any_eq_false, decide_eq_true_eq]; exact HNO.out)
set_option maxHeartbeats 4000000 in
set_option maxRecDepth 100000 in
set_option maxHeartbeats 2000000 in
theorem rdr_5 {w : World} {base : Nat} {v : Mv} {m : Mem} (hm : MemAt base w v m) (ho : Ok m) {h k a : Nat} {n : Int} (hh : isH m (h : Int) = true) (hx : (row m (h : Int))[k]? = some ((a : Int), n)) (ha : ((row m (h : Int)).take k).any (fun x => decide (x.1 = (a : Int))) = false) :
    Calls Try.prog 15 #[.agg #[.slice v.w.p v.w.n v.w.c, .slice v.p.p v.p.n v.p.c, .slice v.r.p v.r.n v.r.c], .int .i64 (h : Int), .int .i64 (k : Int)] w (Told (arr (setP m h ((row m (h : Int)).eraseIdx k)) h a n) 0 w) := by
  obtain ⟨hb1, hx1, hx2⟩ := box2 w #[.slice v.w.p v.w.n v.w.c, .slice v.p.p v.p.n v.p.c, .slice v.r.p v.r.n v.r.c] 27 #[.slice none 0 0, .slice none 0 0, .slice none 0 0] 27
  have HM := Lib.hid hm
  have HO := Lib.hid ho
  have HH := Lib.hid hh
  have HXX := Lib.hid hx
  have HANY := Lib.hid ha
  clear hm ho hh hx ha
  go_enter Try.func15, Try.ntmps15
  go_upto_region 1 with (fail)
  generalize hW1 : ((w.alloc (.cells #[.slice v.w.p v.w.n v.w.c, .slice v.p.p v.p.n v.p.c, .slice v.r.p v.r.n v.r.c] 27)).alloc (.cells #[.slice none 0 0, .slice none 0 0, .slice none 0 0] 27)) = W1 at hb1 hx1 hx2 ⊢
  clear hW1
  have HN12 : Hid (w.heap.size ≠ w.heap.size + 1) := Lib.hid (by omega)
  have HG2 : Hid (w.heap.size ≤ w.heap.size + 1) := Lib.hid (by omega)
  generalize w.heap.size + 1 = g2 at hx2 HN12 HG2 ⊢
  obtain ⟨g1, hG⟩ : ∃ G, w.heap.size = G := ⟨_, rfl⟩
  rw [hG] at hx1 HN12 HG2 ⊢
  have HG := Lib.hid hG
  have HB := Lib.hid hb1
  have HX1 := Lib.hid hx1
  have HX2 := Lib.hid hx2
  clear hb1 hx1 hx2 hG
  have k0 := cell_of_heap HX1.out 0
  have kf0 := frozen_of_heap HX1.out 0
  have k1 := cell_of_heap HX1.out 1
  have kf1 := frozen_of_heap HX1.out 1
  have k2 := cell_of_heap HX1.out 2
  have kf2 := frozen_of_heap HX1.out 2
  simp only [List.getElem?_toArray, List.getElem?_cons_zero, List.getElem?_cons_succ] at k0 k1 k2
  have z0 := cell_of_heap HX2.out 0
  have zf0 := frozen_of_heap HX2.out 0
  have z1 := cell_of_heap HX2.out 1
  have zf1 := frozen_of_heap HX2.out 1
  have z2 := cell_of_heap HX2.out 2
  have zf2 := frozen_of_heap HX2.out 2
  simp only [List.getElem?_toArray, List.getElem?_cons_zero, List.getElem?_cons_succ] at z0 z1 z2
  go_upto_region 2 with (first | (go_at_call 40; ((with_reducible refine (rhart_lit (HM.out.bel HB.out) HO.out HH.out _).mono ?_); rintro e wa ⟨rfl, hbz⟩; have HB := Lib.hid (HB.out.trans hbz); have HX1 := Lib.hid (hbz.stays HX1.out); have HX2 := Lib.hid (hbz.stays HX2.out); have k0 := cell_of_heap HX1.out 0; have kf0 := frozen_of_heap HX1.out 0; have k1 := cell_of_heap HX1.out 1; have kf1 := frozen_of_heap HX1.out 1; have k2 := cell_of_heap HX1.out 2; have kf2 := frozen_of_heap HX1.out 2; simp only [List.getElem?_toArray, List.getElem?_cons_zero, List.getElem?_cons_succ] at k0 k1 k2; have z0 := cell_of_heap HX2.out 0; have zf0 := frozen_of_heap HX2.out 0; have z1 := cell_of_heap HX2.out 1; have zf1 := frozen_of_heap HX2.out 1; have z2 := cell_of_heap HX2.out 2; have zf2 := frozen_of_heap HX2.out 2; simp only [List.getElem?_toArray, List.getElem?_cons_zero, List.getElem?_cons_succ] at z0 z1 z2; clear hbz)))
  obtain ⟨bp, csp, s0, ep, _, hhp, hlep, hltp, hcp, _, _, hrp⟩ := (HM.out.bel HB.out).hart HH.out
  have HEP := Lib.hid ep
  have hnp : s0.n = (row m (h : Int)).length := ERow.n hrp
  rw [ep] at k1
  have hlp : (h : Int) < v.p.n := by omega
  have HL8 : Hid ((row m (h : Int)).length ≤ 8) := Lib.hid (HO.out.p8 _ (row_mem HH.out))
  have HAT : Hid (0 ≤ (a : Int) ∧ (a : Int) < (m.words.length : Int)) := Lib.hid (HO.out.at_ _ (row_mem HH.out) _ (List.mem_of_getElem? HXX.out))
  have HKL : Hid (k < (row m (h : Int)).length) := Lib.hid (List.getElem?_eq_some_iff.1 HXX.out).1
  obtain ⟨be, cse, es, -, -, -, -, -, -, hce⟩ := ERow.at (enc := encE) (k := 2) (s := s0) encE_len hrp HXX.out
  have c0 := hce 0 _ rfl
  have c1 := hce 1 _ rfl
  rw [Nat.add_zero] at c0
  simp only at c0 c1
  rw [es] at hcp
  have hlk : (k : Int) < (s0.n : Int) := by have := HKL.out; omega
  have HN0 : Hid (s0.n = (row m (h : Int)).length) := Lib.hid hnp
  have HLP0 := Lib.hid (lt_of_heap hhp)
  have HRP := Lib.hid hrp
  clear hce hrp hhp hnp hlep hltp ep
  go_upto_region 5 with (fail)
  obtain ⟨hb9, hx9⟩ := box1 wa #[.int .i64 (a : Int), .int .i64 n] 48
  have HX1 := Lib.hid (hb9.stays HX1.out)
  have HX2 := Lib.hid (hb9.stays HX2.out)
  have HX9 := Lib.hid hx9
  have HB := Lib.hid (HB.out.trans hb9)
  have HRP := Lib.hid (HRP.out.bel hb9)
  rw [← es] at hcp
  have HCP := Lib.hid ((hb9.cell (p := ⟨bp, h, none⟩) HLP0.out).trans hcp)
  have HLP1 : Hid (bp < (wa.alloc (.cells #[.int .i64 (a : Int), .int .i64 n] 48)).heap.size) := Lib.hid (by have := HLP0.out; have := hb9.size; omega)
  generalize hWW : wa.alloc (.cells #[.int .i64 (a : Int), .int .i64 n] 48) = W5 at hx9 HX1 HX2 HX9 HB HRP HCP HLP1 ⊢
  clear hWW hb9
  generalize wa.heap.size = g9 at hx9 HX9 ⊢
  clear c0 c1 hcp es hx9 k0 k1 k2 kf0 kf1 kf2 z0 z1 z2 zf0 zf1 zf2
  have hwn : ((a : Int) < (v.w.n : Int)) := by have h0 := HAT.out; have := HM.out.wn; omega
  have k0 := cell_of_heap HX1.out 0
  have k1 := cell_of_heap HX1.out 1
  have k2 := cell_of_heap HX1.out 2
  simp only [List.getElem?_toArray, List.getElem?_cons_zero, List.getElem?_cons_succ] at k0 k1 k2
  rw [HEP.out] at k1
  have q0 := cell_of_heap HX9.out 0
  have q1 := cell_of_heap HX9.out 1
  simp only [List.getElem?_toArray, List.getElem?_cons_zero, List.getElem?_cons_succ] at q0 q1
  go_upto_region 7 with (fail)
  clear q0 q1 k0 k1 k2 hlk
  have hk8 : k < 9 := by have := HKL.out; have := HL8.out; omega
  obtain ⟨W5', hW5⟩ : ∃ W, W = W5 := ⟨_, rfl⟩
  rw [← hW5] at HX1 HX2 HX9 HB HRP HCP HLP1 ⊢
  clear hW5
  go_wp2
  go_loopw [10] (fun i wr => ∃ j : Nat, j ≤ k ∧ i = .int .i64 j ∧ Hid (Bel W5' wr) ∧ Hid (∀ x ∈ (row m (h : Int)).take j, x.1 ≠ (a : Int))) (fun i _ => k - (intOf i).toNat)
  case atStart => exact ⟨0, Nat.zero_le _, rfl, Lib.hid (Bel.refl _), Lib.hid (fun x hx => by simp at hx)⟩
  case round =>
    obtain ⟨j, hj, rfl, HBR, HNO⟩ := hrel
    by_cases hlt : j < k
    · have hlt2 : (j : Int) < k := by omega
      obtain ⟨x, hx⟩ : ∃ x, (row m (h : Int))[j]? = some x := ⟨_, List.getElem?_eq_getElem (by have := HKL.out; omega)⟩
      obtain ⟨be, cse, es, -, -, -, -, -, -, hce⟩ := ERow.at (enc := encE) (k := 2) (s := s0) encE_len (HRP.out.bel HBR.out) hx
      have c0 := hce 0 _ rfl
      rw [Nat.add_zero] at c0
      have hcp := (HBR.out.cell (p := ⟨bp, h, none⟩) HLP1.out).trans HCP.out
      rw [es] at hcp
      have hlk : (j : Int) < (s0.n : Int) := by have := HKL.out; have := HN0.out; omega
      have k1 := cell_of_heap (HBR.out.stays HX1.out) 1
      have q0 := cell_of_heap (HBR.out.stays HX9.out) 0
      simp only [List.getElem?_toArray, List.getElem?_cons_zero, List.getElem?_cons_succ] at k1 q0
      rw [HEP.out] at k1
      have HXJ := Lib.hid hx
      clear hce hx es
      obtain ⟨x1, x2⟩ := x
      simp only at c0
      go_upto_region 10 with (fail)
      by_cases hxa : x1 = (a : Int)
      · have hxb : (x1 == (a : Int)) = true := beq_iff_eq.2 hxa
        exfalso
        have h0 := HANY.out
        rw [List.any_eq_false] at h0
        exact h0 (x1, x2) (List.mem_iff_getElem?.2 ⟨j, by rw [List.getElem?_take, if_pos hlt]; exact HXJ.out⟩) (by simp [beq_iff_eq.1 hxb])
      · have hxb : (x1 == (a : Int)) = false := beq_eq_false_iff_ne.2 hxa
        have HXA := Lib.hid hxa
        clear hxa
        go_quiet (fail)
        go_wp2
        exact ⟨⟨j + 1, by omega, by go_num, Lib.hid (HBR.out.drewN nq), Lib.hid (fun y hy => by rw [List.take_add_one, HXJ.out] at hy; exact (List.mem_append.1 hy).elim (fun h1 => HNO.out y h1) (fun h1 => by have h2 : y = (x1, x2) := (by simpa using h1); rw [h2]; exact HXA.out))⟩, by simp [intOf]; omega⟩
    · obtain rfl : j = k := by omega
      have hlt2 : ¬ (j : Int) < (j : Int) := by omega
      clear HNO HANY
      have k0 := cell_of_heap (HBR.out.stays HX1.out) 0
      have k1 := cell_of_heap (HBR.out.stays HX1.out) 1
      have k2 := cell_of_heap (HBR.out.stays HX1.out) 2
      simp only [List.getElem?_toArray, List.getElem?_cons_zero, List.getElem?_cons_succ] at k0 k1 k2
      have q0 := cell_of_heap (HBR.out.stays HX9.out) 0
      have q1 := cell_of_heap (HBR.out.stays HX9.out) 1
      simp only [List.getElem?_toArray, List.getElem?_cons_zero, List.getElem?_cons_succ] at q0 q1
      go_upto_region 12 with (fail)
      go_wp2_with fail
      refine (goes_any (HM.out.bel (HB.out.trans HBR.out)) HO.out (a := a) (isW_iff.2 HAT.out) HH.out n).mono ?_
      rintro e w2 ⟨⟨⟨uwp, uwn, uwc⟩, ⟨upp, upn, upc⟩, ⟨urp, urn, urc⟩, urows⟩, rfl, hbu, hmu⟩
      replace hmu := MemAt.mono hmu (show w.heap.size ≤ wr.heap.size from (HB.out.trans HBR.out).size)
      simp only
      obtain ⟨hb11, hx11⟩ := box1 w2 #[.slice uwp uwn uwc, .slice upp upn upc, .slice urp urn urc] 27
      have HMU := Lib.hid (hmu.bel hb11)
      have HN2 : Hid (g2 ≠ w2.heap.size) := Lib.hid (by have := lt_of_heap ((HBR.out.trans hbu).stays HX2.out); omega)
      have hbb := HBR.out.trans (hbu.trans hb11)
      have HX1 := Lib.hid (hbb.stays HX1.out)
      have HX2 := Lib.hid (hbb.stays HX2.out)
      have HX11 := Lib.hid hx11
      have HG11 : Hid (w.heap.size ≤ w2.heap.size) := Lib.hid (Nat.le_trans (HB.out.trans HBR.out).size hbu.size)
      have HBW := Lib.hid (HB.out.trans hbb)
      clear hmu hbu hb11 hx11 hbb k0 k1 k2 q0 q1
      go_upto_region 13 with (fail)
      generalize hWW : w2.alloc (.cells #[.slice uwp uwn uwc, .slice upp upn upc, .slice urp urn urc] 27) = W8 at HMU HX1 HX2 HX11 HBW ⊢
      clear hWW
      generalize w2.heap.size = g11 at HX11 HN2 HG11 ⊢
      have HR0 : Hid (ERow encE 48 2 W8 w.heap.size nilS.val (((row m (h : Int)).take 0).eraseIdx j)) := Lib.hid (by rw [List.take_zero, List.eraseIdx_nil]; exact ERow.nil _ _ _ _ _)
      have HSEP : Hid (∀ (i : Nat) (t : Sl) (b : Nat), urows[i]? = some t → t.val.ownBlock = some b → nilS.val.ownBlock ≠ some b) := Lib.hid (fun _ _ _ _ _ c => by cases c)
      obtain ⟨W8', hW8⟩ : ∃ W, W = W8 := ⟨_, rfl⟩
      rw [← hW8] at HMU HX1 HX2 HX11 HBW HR0 ⊢
      clear hW8 HBR HX9 HRP HCP HLP1
      go_wp2
      go_loopw [12, 13] (fun l i wr => ∃ (p : Nat) (s : Sl), p ≤ (row m (h : Int)).length ∧ l = .slice s.p s.n s.c ∧ i = .int .i64 p ∧ Hid (Bel w wr) ∧ Hid (wr.heap[g1]? = some (.cells #[.slice v.w.p v.w.n v.w.c, .slice v.p.p v.p.n v.p.c, .slice v.r.p v.r.n v.r.c] 27 (0, 0))) ∧ Hid (wr.heap[g2]? = some (.cells #[.slice none 0 0, .slice none 0 0, .slice none 0 0] 27 (0, 0))) ∧ Hid (wr.heap[g11]? = some (.cells #[.slice uwp uwn uwc, .slice upp upn upc, .slice urp urn urc] 27 (0, 0))) ∧ Hid (MemAt w.heap.size wr ⟨⟨uwp, uwn, uwc⟩, ⟨upp, upn, upc⟩, ⟨urp, urn, urc⟩, urows⟩ (arr m h a n)) ∧ Hid (ERow encE 48 2 wr w.heap.size s.val (((row m (h : Int)).take p).eraseIdx j)) ∧ Hid (∀ (i : Nat) (t : Sl) (b : Nat), urows[i]? = some t → t.val.ownBlock = some b → s.val.ownBlock ≠ some b)) (fun _ i _ => (row m (h : Int)).length - (intOf i).toNat)
      case atStart => exact ⟨0, nilS, Nat.zero_le _, rfl, rfl, HBW, HX1, HX2, HX11, HMU, HR0, HSEP⟩
      case round =>
        clear HBW HX1 HX2 HX11 HMU HR0 HSEP
        obtain ⟨p, s, hp, rfl, rfl, HBW, HX1, HX2, HX11, HMU, HR0, HSEP⟩ := hrel
        obtain ⟨bp, csp, s0, ep, -, hhp, hlep, hltp, hcp, -, -, hrp⟩ := (HM.out.bel HBW.out).hart HH.out
        have hnp : s0.n = (row m (h : Int)).length := ERow.n hrp
        have k1 := cell_of_heap HX1.out 1
        simp only [List.getElem?_toArray, List.getElem?_cons_zero, List.getElem?_cons_succ] at k1
        rw [ep] at k1
        have hlp : (h : Int) < v.p.n := by omega
        by_cases hlt3 : p < (row m (h : Int)).length
        · have hlt4 : (p : Int) < (s0.n : Int) := by omega
          obtain ⟨x, hx⟩ : ∃ x, (row m (h : Int))[p]? = some x := ⟨_, List.getElem?_eq_getElem hlt3⟩
          obtain ⟨x1, x2⟩ := x
          have hbs := but_step (i := j) hx
          have hple := Lib.hid hlt3
          have hp8 : p < 9 := by have := HL8.out; omega
          by_cases hpj : p = j
          · rw [if_pos hpj] at hbs
            have HR1 : Hid (ERow encE 48 2 wr w.heap.size s.val (((row m (h : Int)).take (p + 1)).eraseIdx j)) := Lib.hid (by rw [hbs]; exact HR0.out)
            have hpb : ((p : Int) != (j : Int)) = false := by simp [hpj]
            clear hbs hx hrp hnp hlt3 HR0 ep
            go_wp2
            exact ⟨⟨p + 1, s, hple.out, rfl, by go_num, HBW, HX1, HX2, HX11, HMU, HR1, HSEP⟩, by have := hple.out; simp [intOf]; omega⟩
          · rw [if_neg hpj] at hbs
            have hpb : ((p : Int) != (j : Int)) = true := by simp; omega
            obtain ⟨be, cse, es, -, -, -, -, -, -, hce⟩ := ERow.at (enc := encE) (k := 2) (s := s0) encE_len hrp hx
            have c0 := hce 0 _ rfl
            have c1 := hce 1 _ rfl
            rw [Nat.add_zero] at c0
            simp only at c0 c1
            rw [es] at hcp
            have hl8 : (((row m (h : Int)).take p).eraseIdx j).length + 1 ≤ 100000 := by
              have h1 := List.length_eraseIdx_le ((row m (h : Int)).take p) j
              have h2 := List.length_take_le p (row m (h : Int))
              have := HL8.out
              omega
            obtain ⟨s', w', hrun, hown, hsv, hob⟩ := pushed entTy HR0.out (x := (x1, x2)) (vx := #[.int .i64 x1, .int .i64 x2]) rfl hl8 (by have := HBW.out.size; omega)
            have HX1' := Lib.hid (off_blk (s := s) HR0.out hsv HX1.out (by decide))
            have HX2' := Lib.hid (off_blk (s := s) HR0.out hsv HX2.out (by decide))
            have HX11' := Lib.hid (off_blk (s := s) HR0.out hsv HX11.out (by decide))
            have HMU' := Lib.hid (HMU.out.app (s := s) HR0.out hsv HSEP.out)
            have HBW' : Hid (Bel w w') := Lib.hid (Sv.bel hsv HBW.out (fun b hb => (HR0.out.blk (v := s.val) hb).1))
            have HR1 : Hid (ERow encE 48 2 w' w.heap.size s'.val (((row m (h : Int)).take (p + 1)).eraseIdx j)) := Lib.hid (by rw [hbs]; exact hown)
            have HSEP' : Hid (∀ (i : Nat) (t : Sl) (b : Nat), urows[i]? = some t → t.val.ownBlock = some b → s'.val.ownBlock ≠ some b) := Lib.hid (fun i t b hi hb c => by
              rcases hob b c with h1 | h1
              · exact HSEP.out i t b hi hb h1
              · obtain ⟨lt, hlt⟩ : ∃ lt, (arr m h a n).pend[i]? = some lt := ⟨_, List.getElem?_eq_getElem (by rw [← HMU.out.rl]; exact (List.getElem?_eq_some_iff.1 hi).1)⟩
                obtain ⟨_, cs9, h9⟩ := (HMU.out.ro i t lt hi hlt).blk hb
                have := lt_of_heap h9
                omega)
            have HRUN := Lib.hid hrun
            clear hbs hx hrp hnp hlt3 hce ep hrun hown hsv hob hl8 hpj
            go_wp2_with (at_builtin; refine wpList_app rfl (.tmp 92) (.tmp 101) 46 rfl _ _ _ (by rfl) (by rfl) HRUN.out ?_)
            exact ⟨⟨p + 1, s', hple.out, rfl, by go_num, HBW', HX1', HX2', HX11', HMU', HR1, HSEP'⟩, by have := hple.out; simp [intOf]; omega⟩
        · have hpe : p = (row m (h : Int)).length := by omega
          have hlt4 : ¬ (p : Int) < (s0.n : Int) := by omega
          have HRF : Hid (ERow encE 48 2 wr w.heap.size s.val ((row m (h : Int)).eraseIdx j)) := Lib.hid (by have h0 := HR0.out; rwa [List.take_of_length_le (by omega)] at h0)
          clear HR0 hpe hrp hnp ep
          obtain ⟨bq, csq, t, eq, _, hgq, hleq, hltq, cq, cqf, -, -⟩ := HMU.out.hart (a := h) HH.out
          simp only at eq hleq hltq
          subst eq
          have hltq2 : (h : Int) < upn := by omega
          have HGQ := Lib.hid hgq
          have k11 := cell_of_heap HX11.out 1
          simp only [List.getElem?_toArray, List.getElem?_cons_zero, List.getElem?_cons_succ] at k11
          have hput := HMU.out.put2 rfl HH.out HRF.out HSEP.out
          have hset : Svg bq wr (wr.setCell ⟨bq, h, none⟩ (.slice s.p s.n s.c)) := Svg.set _ _ _ _
          have hx11 := (hset.block g11 (lt_of_heap HX11.out) (ne_of_heap HX11.out HGQ.out (by decide))).trans HX11.out
          have hx2 := (hset.block g2 (lt_of_heap HX2.out) (ne_of_heap HX2.out HGQ.out (by decide))).trans HX2.out
          have hb6 := hset.bel HBW.out ((HMU.out.pd.blk rfl).1)
          clear hgq
          go_upto_region 20 with (fail)
          generalize wr.setCell ⟨bq, h, none⟩ (.slice s.p s.n s.c) = W6 at hput hset hx11 hx2 hb6 ⊢
          have HX11 := Lib.hid hx11
          have HX2 := Lib.hid hx2
          have HB := Lib.hid hb6
          have HM6 := Lib.hid hput
          clear hput hset hx11 hx2 hb6 k11 k1 hcp cq cqf
          have k0 := cell_of_heap HX11.out 0
          have k1 := cell_of_heap HX11.out 1
          have k2 := cell_of_heap HX11.out 2
          simp only [List.getElem?_toArray, List.getElem?_cons_zero, List.getElem?_cons_succ] at k0 k1 k2
          have z0 := cell_of_heap HX2.out 0
          have zf0 := frozen_of_heap HX2.out 0
          have z1 := cell_of_heap HX2.out 1
          have zf1 := frozen_of_heap HX2.out 1
          have z2 := cell_of_heap HX2.out 2
          have zf2 := frozen_of_heap HX2.out 2
          simp only [List.getElem?_toArray, List.getElem?_cons_zero, List.getElem?_cons_succ] at z0 z1 z2
          go_wp2
          have hs3 : Svg g2 W6 (((W6.setCell ⟨g2, 0, none⟩ (.slice uwp uwn uwc)).setCell ⟨g2, 1, none⟩ (.slice (some ⟨bq, 0, none⟩) upn upc)).setCell ⟨g2, 2, none⟩ (.slice urp urn urc)) := set3_svg _ _ _ _ _
          have hh := set3_heap HX2.out (.slice uwp uwn uwc) (.slice (some ⟨bq, 0, none⟩) upn upc) (.slice urp urn urc)
          exact bodyPost_ret (results_cell_slot Try.results15 _ _ g2 _ _ _ _ _ rfl rfl hh Try.underlying27 rfl (by kernel_rfl)) rfl ⟨⟨⟨uwp, uwn, uwc⟩, ⟨some ⟨bq, 0, none⟩, upn, upc⟩, ⟨urp, urn, urc⟩, urows.set h s⟩, rfl, hs3.bel HB.out (by have := HG.out; have := HG2.out; omega), (HM6.out).keep hs3 HX2.out (by decide) (by decide) (by decide)⟩
  
theorem rdrain_lit {w : World} {base : Nat} {v : Mv} {m : Mem} (hm : MemAt base w v m) (ho : Ok m) {h k : Int} {m' : Mem} {r : Int} (hr : drainV m h k = (m', r)) :
    Calls Try.prog 15 #[.agg #[.slice v.w.p v.w.n v.w.c, .slice v.p.p v.p.n v.p.c, .slice v.r.p v.r.n v.r.c], .int .i64 h, .int .i64 k] w (Told m' r w) := by
  unfold drainV at hr
  cases hh : isH m h with
  | false => rw [hh] at hr; injection hr with h1 h2; rw [← h1, ← h2]; exact rdr_1 hm ho hh
  | true =>
    by_cases hk : k < 0
    · rw [if_neg (by simp; omega)] at hr; injection hr with h1 h2; rw [← h1, ← h2]; exact rdr_2 hm ho hh hk
    · obtain ⟨hN, rfl⟩ : ∃ hN : Nat, h = hN := ⟨h.toNat, by have := isH_iff.1 hh; omega⟩
      obtain ⟨kN, rfl⟩ : ∃ kN : Nat, k = kN := ⟨k.toNat, by omega⟩
      by_cases hl : (row m hN).length ≤ kN
      · rw [if_neg (by simp; omega)] at hr; injection hr with h1 h2; rw [← h1, ← h2]; exact rdr_3 hm ho hh hl
      · obtain ⟨x, hx⟩ : ∃ x, (row m hN)[kN]? = some x := ⟨_, List.getElem?_eq_getElem (by omega)⟩
        have hat := ho.at_ _ (row_mem hh) _ (List.mem_of_getElem? hx)
        obtain ⟨a, n⟩ := x
        obtain ⟨aN, rfl⟩ : ∃ aN : Nat, a = aN := ⟨a.toNat, by have := hat.1; simp only at this; omega⟩
        have hg : (row m hN).getD kN (0, 0) = ((aN : Int), n) := by rw [List.getD_eq_getElem?_getD, hx]; rfl
        rw [if_pos (by rw [hh]; simp; omega), Int.toNat_natCast, hg] at hr
        cases ha : ((row m hN).take kN).any (fun x => decide (x.1 = (aN : Int))) with
        | true => rw [if_pos ha] at hr; injection hr with h1 h2; rw [← h1, ← h2]; exact rdr_4 hm ho hh hx ha
        | false => rw [if_neg (by rw [ha]; exact Bool.false_ne_true)] at hr; injection hr with h1 h2; rw [← h1, ← h2]; exact rdr_5 hm ho hh hx ha
end Go.Proofs.Ytobpoghophhphaa
