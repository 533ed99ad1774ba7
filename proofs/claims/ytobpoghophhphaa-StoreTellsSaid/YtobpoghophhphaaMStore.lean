/- store.Store. -/
import Derived.Test.YtobpoghophhphaaMUpto
namespace Go.Proofs.Ytobpoghophhphaa
open Go.RowKit Mm
set_option linter.unusedVariables false
set_option linter.unusedSimpArgs false
theorem step_app {P : Program} {ops : Array Oper} {o : Oper} {a : Act} {w w' : World} {K : Act → World → Prop} {Q : Exit → Act → World → Prop} {E : Prop}
    (hg : o.guard = none) (s x : Operand) (t : TypeId) (hop : o.op = Op.call { callee := Callee.builtin Builtin.append, args := #[s, x], argTypes := #[t, t] })
    (sv xv r : Value) (hs : a.eval s = sv) (hx : a.eval x = xv) (hrun : (Builtin.append_ #[t, t] o.type #[sv, xv]).run P w = .ok r w')
    (hK : K (a.put o.dst r) w') : if Region.wanted o (yielded ops a.tmps) = true then Oper.wp P o a w K Q else E := by
  have hw : Region.wanted o (yielded ops a.tmps) = true := by simp [Region.wanted, hg]
  rw [if_pos hw]
  unfold Oper.wp
  simp [execOp, hop, resolve, invoke, builtin, hs, hx, hrun, Result.andThen]
  exact hK
theorem ERow.off {α : Type} {enc : α → List Value} {t : TypeId} {k : Nat} {w : World} {base : Nat} {v : Value} {l : List α} (h : ERow enc t k w base v l) {g : Nat} {cs : Array Value} {t' : TypeId} {fr : Nat × Nat} (hg : w.heap[g]? = some (.cells cs t' fr)) (ht : t' ≠ t) : v.ownBlock ≠ some g := fun c => by
  obtain ⟨_, cs', h'⟩ := h.blk c
  rw [h'] at hg
  injection hg with hg
  injection hg with _ hg _
  exact ht hg.symm
theorem ne_of_heap {w : World} {g g' : Nat} {cs cs' : Array Value} {t t' : TypeId} {fr fr' : Nat × Nat} (h : w.heap[g]? = some (.cells cs t fr)) (h' : w.heap[g']? = some (.cells cs' t' fr')) (ht : t ≠ t') : g ≠ g' := fun c => by
  subst c
  rw [h] at h'
  injection h' with h'
  injection h' with _ h' _
  exact ht h'
/-- one entry more -/
theorem ent_one {w : World} {base : Nat} {s : Sl} {l : List (Int × Int)} (h : ERow encE 48 2 w base s.val l) {B : Nat} {y : Int × Int} (h0 : w.cell? ⟨B, 0, none⟩ = some (.int .i64 y.1)) (h1 : w.cell? ⟨B, 1, none⟩ = some (.int .i64 y.2)) (hlen : l.length ≤ 1000) (hbase : base ≤ w.heap.size) :
    ∃ (t : Sl) (w' : World), (Builtin.append_ #[46, 46] 46 #[.slice s.p s.n s.c, .slice (some ⟨B, 0, none⟩) 1 1]).run Try.prog w = .ok (.slice t.p t.n t.c) w' ∧ ERow encE 48 2 w' base t.val (l ++ [y]) ∧ Sv (fun k => s.val.ownBlock = some k) w w' ∧ (∀ k, t.val.ownBlock = some k → s.val.ownBlock = some k ∨ w.heap.size ≤ k) := by
  obtain ⟨i, z, hi, hz, hsz, hby, hzs⟩ := entTy.info
  have hs : ∀ (j : Nat) (x : Int × Int), [y][j]? = some x → ∀ (i : Nat) (v : Value), (encE x)[i]? = some v → w.cell? ⟨B, 0 + j * 2 + i, none⟩ = some v := by
    intro j x hj i v hv
    cases j with
    | succ j => simp at hj
    | zero =>
      have hxy : y = x := by simpa using hj
      subst hxy
      rcases i with _ | _ | i
      · injection hv with hv; rw [← hv]; exact h0
      · injection hv with hv; rw [← hv]; exact h1
      · simp at hv
  obtain ⟨v', w', hrun, hrow, hsv, hnn⟩ := app_more entTy h (b := B) (o := 0) (m := 1) (c := 1) (r := [y]) rfl hs (.inl (by omega)) (by omega) hbase
  obtain ⟨p', c', rfl, _, _⟩ := ERow.form (enc := encE) (k := 2) (fun _ => rfl) hrow
  exact ⟨⟨p', _, c'⟩, w', hrun, hrow, hsv, hnn.2⟩
set_option maxRecDepth 100000 in
theorem store_1 {w : World} {base : Nat} {v : Mv} {m : Mem} (hm : MemAt base w v m) (ho : Ok m) {h a n : Int} (hh : isH m h = false) :
    Calls Try.prog 12 #[.agg #[.slice v.w.p v.w.n v.w.c, .slice v.p.p v.p.n v.p.c, .slice v.r.p v.r.n v.r.c], .int .i64 h, .int .i64 a, .int .i64 n] w (Told zero 1 w) := by
  obtain ⟨hb1, hx1, hx2⟩ := box2 w #[.slice v.w.p v.w.n v.w.c, .slice v.p.p v.p.n v.p.c, .slice v.r.p v.r.n v.r.c] 27 #[.slice none 0 0, .slice none 0 0, .slice none 0 0] 27
  have HM := Lib.hid hm
  have HO := Lib.hid ho
  have HH := Lib.hid hh
  clear hm ho hh
  go_enter Try.func12, Try.ntmps12
  go_upto_region 1 with (fail)
  generalize hW1 : ((w.alloc (.cells #[.slice v.w.p v.w.n v.w.c, .slice v.p.p v.p.n v.p.c, .slice v.r.p v.r.n v.r.c] 27)).alloc (.cells #[.slice none 0 0, .slice none 0 0, .slice none 0 0] 27)) = W1 at hb1 hx1 hx2 ⊢
  clear hW1
  have HN12 : Hid (w.heap.size ≠ w.heap.size + 1) := Lib.hid (by omega)
  have HG2 : Hid (w.heap.size ≤ w.heap.size + 1) := Lib.hid (by omega)
  generalize w.heap.size + 1 = g2 at hx2 HN12 HG2 ⊢
  obtain ⟨g1, hG⟩ : ∃ G, w.heap.size = G := ⟨_, rfl⟩
  rw [hG] at hx1 HN12 HG2 ⊢
  have HG := Lib.hid hG
  have HB := Lib.hid hb1
  have HX1 := Lib.hid hx1
  have HX2 := Lib.hid hx2
  clear hb1 hx1 hx2 hG
  have k0 := cell_of_heap HX1.out 0
  have kf0 := frozen_of_heap HX1.out 0
  have k1 := cell_of_heap HX1.out 1
  have kf1 := frozen_of_heap HX1.out 1
  have k2 := cell_of_heap HX1.out 2
  have kf2 := frozen_of_heap HX1.out 2
  simp only [List.getElem?_toArray, List.getElem?_cons_zero, List.getElem?_cons_succ] at k0 k1 k2
  have z0 := cell_of_heap HX2.out 0
  have zf0 := frozen_of_heap HX2.out 0
  have z1 := cell_of_heap HX2.out 1
  have zf1 := frozen_of_heap HX2.out 1
  have z2 := cell_of_heap HX2.out 2
  have zf2 := frozen_of_heap HX2.out 2
  simp only [List.getElem?_toArray, List.getElem?_cons_zero, List.getElem?_cons_succ] at z0 z1 z2
  go_wp2_with (first | (go_at_call 28; ((with_reducible refine (isHart_lit HM.out HO.out HH.out _).mono ?_); rintro e wa ⟨rfl, hbz⟩; have HB := Lib.hid (HB.out.trans hbz); have HX1 := Lib.hid (hbz.stays HX1.out); have HX2 := Lib.hid (hbz.stays HX2.out); have k0 := cell_of_heap HX1.out 0; have kf0 := frozen_of_heap HX1.out 0; have k1 := cell_of_heap HX1.out 1; have kf1 := frozen_of_heap HX1.out 1; have k2 := cell_of_heap HX1.out 2; have kf2 := frozen_of_heap HX1.out 2; simp only [List.getElem?_toArray, List.getElem?_cons_zero, List.getElem?_cons_succ] at k0 k1 k2; have z0 := cell_of_heap HX2.out 0; have zf0 := frozen_of_heap HX2.out 0; have z1 := cell_of_heap HX2.out 1; have zf1 := frozen_of_heap HX2.out 1; have z2 := cell_of_heap HX2.out 2; have zf2 := frozen_of_heap HX2.out 2; simp only [List.getElem?_toArray, List.getElem?_cons_zero, List.getElem?_cons_succ] at z0 z1 z2; clear hbz)))
  have hs3 : Svg g2 wa (((wa.setCell ⟨g2, 0, none⟩ (.slice none 0 0)).setCell ⟨g2, 1, none⟩ (.slice none 0 0)).setCell ⟨g2, 2, none⟩ (.slice none 0 0)) := set3_svg _ _ _ _ _
  have hh := set3_heap HX2.out (.slice none 0 0) (.slice none 0 0) (.slice none 0 0)
  exact bodyPost_ret (results_cell_slot Try.results12 _ _ g2 _ _ _ _ _ rfl rfl hh Try.underlying27 rfl (by kernel_rfl)) rfl ⟨nilM, rfl, hs3.bel HB.out (by have := HG.out; have := HG2.out; omega), MemAt.zero _ _⟩
set_option maxRecDepth 100000 in
theorem store_2 {w : World} {base : Nat} {v : Mv} {m : Mem} (hm : MemAt base w v m) (ho : Ok m) {h a n : Int} (hh : isH m h = true) (hw : isW m a = false) :
    Calls Try.prog 12 #[.agg #[.slice v.w.p v.w.n v.w.c, .slice v.p.p v.p.n v.p.c, .slice v.r.p v.r.n v.r.c], .int .i64 h, .int .i64 a, .int .i64 n] w (Told zero 1 w) := by
  obtain ⟨hb1, hx1, hx2⟩ := box2 w #[.slice v.w.p v.w.n v.w.c, .slice v.p.p v.p.n v.p.c, .slice v.r.p v.r.n v.r.c] 27 #[.slice none 0 0, .slice none 0 0, .slice none 0 0] 27
  have HM := Lib.hid hm
  have HO := Lib.hid ho
  have HH := Lib.hid hh
  have HW := Lib.hid hw
  clear hm ho hh hw
  go_enter Try.func12, Try.ntmps12
  go_upto_region 1 with (fail)
  generalize hW1 : ((w.alloc (.cells #[.slice v.w.p v.w.n v.w.c, .slice v.p.p v.p.n v.p.c, .slice v.r.p v.r.n v.r.c] 27)).alloc (.cells #[.slice none 0 0, .slice none 0 0, .slice none 0 0] 27)) = W1 at hb1 hx1 hx2 ⊢
  clear hW1
  have HN12 : Hid (w.heap.size ≠ w.heap.size + 1) := Lib.hid (by omega)
  have HG2 : Hid (w.heap.size ≤ w.heap.size + 1) := Lib.hid (by omega)
  generalize w.heap.size + 1 = g2 at hx2 HN12 HG2 ⊢
  obtain ⟨g1, hG⟩ : ∃ G, w.heap.size = G := ⟨_, rfl⟩
  rw [hG] at hx1 HN12 HG2 ⊢
  have HG := Lib.hid hG
  have HB := Lib.hid hb1
  have HX1 := Lib.hid hx1
  have HX2 := Lib.hid hx2
  clear hb1 hx1 hx2 hG
  have k0 := cell_of_heap HX1.out 0
  have kf0 := frozen_of_heap HX1.out 0
  have k1 := cell_of_heap HX1.out 1
  have kf1 := frozen_of_heap HX1.out 1
  have k2 := cell_of_heap HX1.out 2
  have kf2 := frozen_of_heap HX1.out 2
  simp only [List.getElem?_toArray, List.getElem?_cons_zero, List.getElem?_cons_succ] at k0 k1 k2
  have z0 := cell_of_heap HX2.out 0
  have zf0 := frozen_of_heap HX2.out 0
  have z1 := cell_of_heap HX2.out 1
  have zf1 := frozen_of_heap HX2.out 1
  have z2 := cell_of_heap HX2.out 2
  have zf2 := frozen_of_heap HX2.out 2
  simp only [List.getElem?_toArray, List.getElem?_cons_zero, List.getElem?_cons_succ] at z0 z1 z2
  go_wp2_with (first | (go_at_call 28; ((with_reducible refine (isHart_lit HM.out HO.out HH.out _).mono ?_); rintro e wa ⟨rfl, hbz⟩; have HB := Lib.hid (HB.out.trans hbz); have HX1 := Lib.hid (hbz.stays HX1.out); have HX2 := Lib.hid (hbz.stays HX2.out); have k0 := cell_of_heap HX1.out 0; have kf0 := frozen_of_heap HX1.out 0; have k1 := cell_of_heap HX1.out 1; have kf1 := frozen_of_heap HX1.out 1; have k2 := cell_of_heap HX1.out 2; have kf2 := frozen_of_heap HX1.out 2; simp only [List.getElem?_toArray, List.getElem?_cons_zero, List.getElem?_cons_succ] at k0 k1 k2; have z0 := cell_of_heap HX2.out 0; have zf0 := frozen_of_heap HX2.out 0; have z1 := cell_of_heap HX2.out 1; have zf1 := frozen_of_heap HX2.out 1; have z2 := cell_of_heap HX2.out 2; have zf2 := frozen_of_heap HX2.out 2; simp only [List.getElem?_toArray, List.getElem?_cons_zero, List.getElem?_cons_succ] at z0 z1 z2; clear hbz)) | (go_at_call 29; ((with_reducible refine (isWord_lit HM.out HW.out _).mono ?_); rintro e wb ⟨rfl, hbz⟩; have HB := Lib.hid (HB.out.trans hbz); have HX1 := Lib.hid (hbz.stays HX1.out); have HX2 := Lib.hid (hbz.stays HX2.out); have k0 := cell_of_heap HX1.out 0; have kf0 := frozen_of_heap HX1.out 0; have k1 := cell_of_heap HX1.out 1; have kf1 := frozen_of_heap HX1.out 1; have k2 := cell_of_heap HX1.out 2; have kf2 := frozen_of_heap HX1.out 2; simp only [List.getElem?_toArray, List.getElem?_cons_zero, List.getElem?_cons_succ] at k0 k1 k2; have z0 := cell_of_heap HX2.out 0; have zf0 := frozen_of_heap HX2.out 0; have z1 := cell_of_heap HX2.out 1; have zf1 := frozen_of_heap HX2.out 1; have z2 := cell_of_heap HX2.out 2; have zf2 := frozen_of_heap HX2.out 2; simp only [List.getElem?_toArray, List.getElem?_cons_zero, List.getElem?_cons_succ] at z0 z1 z2; clear hbz)))
  have hs3 : Svg g2 wb (((wb.setCell ⟨g2, 0, none⟩ (.slice none 0 0)).setCell ⟨g2, 1, none⟩ (.slice none 0 0)).setCell ⟨g2, 2, none⟩ (.slice none 0 0)) := set3_svg _ _ _ _ _
  have hh := set3_heap HX2.out (.slice none 0 0) (.slice none 0 0) (.slice none 0 0)
  exact bodyPost_ret (results_cell_slot Try.results12 _ _ g2 _ _ _ _ _ rfl rfl hh Try.underlying27 rfl (by kernel_rfl)) rfl ⟨nilM, rfl, hs3.bel HB.out (by have := HG.out; have := HG2.out; omega), MemAt.zero _ _⟩
set_option maxRecDepth 100000 in
theorem store_3 {w : World} {base : Nat} {v : Mv} {m : Mem} (hm : MemAt base w v m) (ho : Ok m) {h : Nat} {a n : Int} (hh : isH m h = true) (hw : isW m a = true) (hr : 8 ≤ (row m h).length) :
    Calls Try.prog 12 #[.agg #[.slice v.w.p v.w.n v.w.c, .slice v.p.p v.p.n v.p.c, .slice v.r.p v.r.n v.r.c], .int .i64 (h : Int), .int .i64 a, .int .i64 n] w (Told zero 90 w) := by
  obtain ⟨bp, csp, s, ep, _, hgp, hlep, hltp, hcp, _, _, hrw⟩ := hm.hart hh
  have hn := hrw.n (s := s)
  have HCP := Lib.hid hcp
  have HLP := Lib.hid (lt_of_heap hgp)
  obtain ⟨⟨wp, wn, wc⟩, ⟨pp, pn, pc⟩, ⟨rp, rn, rc⟩, rows⟩ := v
  simp only at ep hlep hltp
  subst ep
  have hpos : (8 : Int) ≤ (s.n : Int) := by omega
  clear hcp hgp hrw hn
  obtain ⟨hb1, hx1, hx2⟩ := box2 w #[.slice wp wn wc, .slice (some ⟨bp, 0, none⟩) pn pc, .slice rp rn rc] 27 #[.slice none 0 0, .slice none 0 0, .slice none 0 0] 27
  have HM := Lib.hid hm
  have HO := Lib.hid ho
  have HH := Lib.hid hh
  have HW := Lib.hid hw
  clear hm ho hh hw
  go_enter Try.func12, Try.ntmps12
  go_upto_region 1 with (fail)
  generalize hW1 : ((w.alloc (.cells #[.slice wp wn wc, .slice (some ⟨bp, 0, none⟩) pn pc, .slice rp rn rc] 27)).alloc (.cells #[.slice none 0 0, .slice none 0 0, .slice none 0 0] 27)) = W1 at hb1 hx1 hx2 ⊢
  clear hW1
  have HN12 : Hid (w.heap.size ≠ w.heap.size + 1) := Lib.hid (by omega)
  have HG2 : Hid (w.heap.size ≤ w.heap.size + 1) := Lib.hid (by omega)
  generalize w.heap.size + 1 = g2 at hx2 HN12 HG2 ⊢
  obtain ⟨g1, hG⟩ : ∃ G, w.heap.size = G := ⟨_, rfl⟩
  rw [hG] at hx1 HN12 HG2 ⊢
  have HG := Lib.hid hG
  have HB := Lib.hid hb1
  have HX1 := Lib.hid hx1
  have HX2 := Lib.hid hx2
  clear hb1 hx1 hx2 hG
  have k0 := cell_of_heap HX1.out 0
  have kf0 := frozen_of_heap HX1.out 0
  have k1 := cell_of_heap HX1.out 1
  have kf1 := frozen_of_heap HX1.out 1
  have k2 := cell_of_heap HX1.out 2
  have kf2 := frozen_of_heap HX1.out 2
  simp only [List.getElem?_toArray, List.getElem?_cons_zero, List.getElem?_cons_succ] at k0 k1 k2
  have z0 := cell_of_heap HX2.out 0
  have zf0 := frozen_of_heap HX2.out 0
  have z1 := cell_of_heap HX2.out 1
  have zf1 := frozen_of_heap HX2.out 1
  have z2 := cell_of_heap HX2.out 2
  have zf2 := frozen_of_heap HX2.out 2
  simp only [List.getElem?_toArray, List.getElem?_cons_zero, List.getElem?_cons_succ] at z0 z1 z2
  go_wp2_with (first | (go_at_call 28; ((with_reducible refine (isHart_lit HM.out HO.out HH.out _).mono ?_); rintro e wa ⟨rfl, hbz⟩; have HB := Lib.hid (HB.out.trans hbz); have HX1 := Lib.hid (hbz.stays HX1.out); have HX2 := Lib.hid (hbz.stays HX2.out); have k0 := cell_of_heap HX1.out 0; have kf0 := frozen_of_heap HX1.out 0; have k1 := cell_of_heap HX1.out 1; have kf1 := frozen_of_heap HX1.out 1; have k2 := cell_of_heap HX1.out 2; have kf2 := frozen_of_heap HX1.out 2; simp only [List.getElem?_toArray, List.getElem?_cons_zero, List.getElem?_cons_succ] at k0 k1 k2; have z0 := cell_of_heap HX2.out 0; have zf0 := frozen_of_heap HX2.out 0; have z1 := cell_of_heap HX2.out 1; have zf1 := frozen_of_heap HX2.out 1; have z2 := cell_of_heap HX2.out 2; have zf2 := frozen_of_heap HX2.out 2; simp only [List.getElem?_toArray, List.getElem?_cons_zero, List.getElem?_cons_succ] at z0 z1 z2; clear hbz)) | (go_at_call 29; ((with_reducible refine (isWord_lit HM.out HW.out _).mono ?_); rintro e wb ⟨rfl, hbz⟩; have HB := Lib.hid (HB.out.trans hbz); have HX1 := Lib.hid (hbz.stays HX1.out); have HX2 := Lib.hid (hbz.stays HX2.out); have k0 := cell_of_heap HX1.out 0; have kf0 := frozen_of_heap HX1.out 0; have k1 := cell_of_heap HX1.out 1; have kf1 := frozen_of_heap HX1.out 1; have k2 := cell_of_heap HX1.out 2; have kf2 := frozen_of_heap HX1.out 2; simp only [List.getElem?_toArray, List.getElem?_cons_zero, List.getElem?_cons_succ] at k0 k1 k2; have z0 := cell_of_heap HX2.out 0; have zf0 := frozen_of_heap HX2.out 0; have z1 := cell_of_heap HX2.out 1; have zf1 := frozen_of_heap HX2.out 1; have z2 := cell_of_heap HX2.out 2; have zf2 := frozen_of_heap HX2.out 2; simp only [List.getElem?_toArray, List.getElem?_cons_zero, List.getElem?_cons_succ] at z0 z1 z2; have cp := (HB.out.cell (p := ⟨bp, h, none⟩) HLP.out).trans HCP.out; clear hbz)))
  have hs3 : Svg g2 wb (((wb.setCell ⟨g2, 0, none⟩ (.slice none 0 0)).setCell ⟨g2, 1, none⟩ (.slice none 0 0)).setCell ⟨g2, 2, none⟩ (.slice none 0 0)) := set3_svg _ _ _ _ _
  have hh := set3_heap HX2.out (.slice none 0 0) (.slice none 0 0) (.slice none 0 0)
  exact bodyPost_ret (results_cell_slot Try.results12 _ _ g2 _ _ _ _ _ rfl rfl hh Try.underlying27 rfl (by kernel_rfl)) rfl ⟨nilM, rfl, hs3.bel HB.out (by have := HG.out; have := HG2.out; omega), MemAt.zero _ _⟩
set_option maxHeartbeats 2000000 in
set_option maxRecDepth 100000 in
theorem store_4 {w : World} {base : Nat} {v : Mv} {m : Mem} (hm : MemAt base w v m) (ho : Ok m) {h : Nat} {a n : Int} (hh : isH m h = true) (hw : isW m a = true) (hr : ¬ 8 ≤ (row m h).length) :
    Calls Try.prog 12 #[.agg #[.slice v.w.p v.w.n v.w.c, .slice v.p.p v.p.n v.p.c, .slice v.r.p v.r.n v.r.c], .int .i64 (h : Int), .int .i64 a, .int .i64 n] w (Told (setP m h (row m h ++ [(a, wrap32 n)])) 0 w) := by
  obtain ⟨bp, csp, s, ep, _, hgp, hlep, hltp, hcp, _, _, hrw⟩ := hm.hart hh
  have hn := hrw.n (s := s)
  have HCP := Lib.hid hcp
  have HLP := Lib.hid (lt_of_heap hgp)
  obtain ⟨⟨wp, wn, wc⟩, ⟨pp, pn, pc⟩, ⟨rp, rn, rc⟩, rows⟩ := v
  simp only at ep hlep hltp
  subst ep
  have hpos : ¬ (8 : Int) ≤ (s.n : Int) := by omega
  clear hcp hgp hrw hn
  obtain ⟨hb1, hx1, hx2⟩ := box2 w #[.slice wp wn wc, .slice (some ⟨bp, 0, none⟩) pn pc, .slice rp rn rc] 27 #[.slice none 0 0, .slice none 0 0, .slice none 0 0] 27
  have HM := Lib.hid hm
  have HO := Lib.hid ho
  have HH := Lib.hid hh
  have HW := Lib.hid hw
  have HRL := Lib.hid hr
  clear hm ho hh hw hr
  go_enter Try.func12, Try.ntmps12
  go_upto_region 1 with (fail)
  generalize hW1 : ((w.alloc (.cells #[.slice wp wn wc, .slice (some ⟨bp, 0, none⟩) pn pc, .slice rp rn rc] 27)).alloc (.cells #[.slice none 0 0, .slice none 0 0, .slice none 0 0] 27)) = W1 at hb1 hx1 hx2 ⊢
  clear hW1
  have HN12 : Hid (w.heap.size ≠ w.heap.size + 1) := Lib.hid (by omega)
  have HG2 : Hid (w.heap.size ≤ w.heap.size + 1) := Lib.hid (by omega)
  generalize w.heap.size + 1 = g2 at hx2 HN12 HG2 ⊢
  obtain ⟨g1, hG⟩ : ∃ G, w.heap.size = G := ⟨_, rfl⟩
  rw [hG] at hx1 HN12 HG2 ⊢
  have HG := Lib.hid hG
  have HB := Lib.hid hb1
  have HX1 := Lib.hid hx1
  have HX2 := Lib.hid hx2
  clear hb1 hx1 hx2 hG
  have k0 := cell_of_heap HX1.out 0
  have kf0 := frozen_of_heap HX1.out 0
  have k1 := cell_of_heap HX1.out 1
  have kf1 := frozen_of_heap HX1.out 1
  have k2 := cell_of_heap HX1.out 2
  have kf2 := frozen_of_heap HX1.out 2
  simp only [List.getElem?_toArray, List.getElem?_cons_zero, List.getElem?_cons_succ] at k0 k1 k2
  have z0 := cell_of_heap HX2.out 0
  have zf0 := frozen_of_heap HX2.out 0
  have z1 := cell_of_heap HX2.out 1
  have zf1 := frozen_of_heap HX2.out 1
  have z2 := cell_of_heap HX2.out 2
  have zf2 := frozen_of_heap HX2.out 2
  simp only [List.getElem?_toArray, List.getElem?_cons_zero, List.getElem?_cons_succ] at z0 z1 z2
  go_upto_region 5 with (first | (go_at_call 28; ((with_reducible refine (isHart_lit HM.out HO.out HH.out _).mono ?_); rintro e wa ⟨rfl, hbz⟩; have HB := Lib.hid (HB.out.trans hbz); have HX1 := Lib.hid (hbz.stays HX1.out); have HX2 := Lib.hid (hbz.stays HX2.out); have k0 := cell_of_heap HX1.out 0; have kf0 := frozen_of_heap HX1.out 0; have k1 := cell_of_heap HX1.out 1; have kf1 := frozen_of_heap HX1.out 1; have k2 := cell_of_heap HX1.out 2; have kf2 := frozen_of_heap HX1.out 2; simp only [List.getElem?_toArray, List.getElem?_cons_zero, List.getElem?_cons_succ] at k0 k1 k2; have z0 := cell_of_heap HX2.out 0; have zf0 := frozen_of_heap HX2.out 0; have z1 := cell_of_heap HX2.out 1; have zf1 := frozen_of_heap HX2.out 1; have z2 := cell_of_heap HX2.out 2; have zf2 := frozen_of_heap HX2.out 2; simp only [List.getElem?_toArray, List.getElem?_cons_zero, List.getElem?_cons_succ] at z0 z1 z2; clear hbz)) | (go_at_call 29; ((with_reducible refine (isWord_lit HM.out HW.out _).mono ?_); rintro e wb ⟨rfl, hbz⟩; have HB := Lib.hid (HB.out.trans hbz); have HX1 := Lib.hid (hbz.stays HX1.out); have HX2 := Lib.hid (hbz.stays HX2.out); have k0 := cell_of_heap HX1.out 0; have kf0 := frozen_of_heap HX1.out 0; have k1 := cell_of_heap HX1.out 1; have kf1 := frozen_of_heap HX1.out 1; have k2 := cell_of_heap HX1.out 2; have kf2 := frozen_of_heap HX1.out 2; simp only [List.getElem?_toArray, List.getElem?_cons_zero, List.getElem?_cons_succ] at k0 k1 k2; have z0 := cell_of_heap HX2.out 0; have zf0 := frozen_of_heap HX2.out 0; have z1 := cell_of_heap HX2.out 1; have zf1 := frozen_of_heap HX2.out 1; have z2 := cell_of_heap HX2.out 2; have zf2 := frozen_of_heap HX2.out 2; simp only [List.getElem?_toArray, List.getElem?_cons_zero, List.getElem?_cons_succ] at z0 z1 z2; have cp := (HB.out.cell (p := ⟨bp, h, none⟩) HLP.out).trans HCP.out; clear hbz)))
  clear cp
  skip
  go_upto_region 6 with (first | (go_at_call 32; ((with_reducible refine (copied_any (HM.out.bel HB.out) HO.out).mono ?_); rintro e wc ⟨u, rfl, hbz, hmu⟩; have HBC := Lib.hid (HB.out.trans hbz); have HY1 := Lib.hid (hbz.stays HX1.out); have HY2 := Lib.hid (hbz.stays HX2.out); have HMU := Lib.hid (hmu.mono (show w.heap.size ≤ _ from HB.out.size)); have k0 := cell_of_heap HY1.out 0; have kf0 := frozen_of_heap HY1.out 0; have k1 := cell_of_heap HY1.out 1; have kf1 := frozen_of_heap HY1.out 1; have k2 := cell_of_heap HY1.out 2; have kf2 := frozen_of_heap HY1.out 2; simp only [List.getElem?_toArray, List.getElem?_cons_zero, List.getElem?_cons_succ] at k0 k1 k2; have z0 := cell_of_heap HY2.out 0; have zf0 := frozen_of_heap HY2.out 0; have z1 := cell_of_heap HY2.out 1; have zf1 := frozen_of_heap HY2.out 1; have z2 := cell_of_heap HY2.out 2; have zf2 := frozen_of_heap HY2.out 2; simp only [List.getElem?_toArray, List.getElem?_cons_zero, List.getElem?_cons_succ] at z0 z1 z2; clear hbz hmu)))
  try clear k0 k1 k2 kf0 kf1 kf2 z0 z1 z2 zf0 zf1 zf2
  have hs3 : Svg g1 wc (((wc.setCell ⟨g1, 0, none⟩ (.slice u.w.p u.w.n u.w.c)).setCell ⟨g1, 1, none⟩ (.slice u.p.p u.p.n u.p.c)).setCell ⟨g1, 2, none⟩ (.slice u.r.p u.r.n u.r.c)) := set3_svg _ _ _ _ _
  have hx1 := set3_heap HY1.out (.slice u.w.p u.w.n u.w.c) (.slice u.p.p u.p.n u.p.c) (.slice u.r.p u.r.n u.r.c)
  generalize hWW : (((wc.setCell ⟨g1, 0, none⟩ (.slice u.w.p u.w.n u.w.c)).setCell ⟨g1, 1, none⟩ (.slice u.p.p u.p.n u.p.c)).setCell ⟨g1, 2, none⟩ (.slice u.r.p u.r.n u.r.c)) = W5 at hs3 hx1 ⊢
  clear hWW
  have HB := Lib.hid (hs3.bel HBC.out (by rw [HG.out]; exact Nat.le_refl _))
  have HX1 := Lib.hid hx1
  have HX2 := Lib.hid ((hs3.block g2 (lt_of_heap HY2.out) HN12.out.symm).trans HY2.out)
  have HMU := Lib.hid (HMU.out.keep hs3 HY1.out (by decide) (by decide) (by decide))
  clear hs3 hx1 HY1 HY2 HBC
  have k0 := cell_of_heap HX1.out 0
  have kf0 := frozen_of_heap HX1.out 0
  have k1 := cell_of_heap HX1.out 1
  have kf1 := frozen_of_heap HX1.out 1
  have k2 := cell_of_heap HX1.out 2
  have kf2 := frozen_of_heap HX1.out 2
  simp only [List.getElem?_toArray, List.getElem?_cons_zero, List.getElem?_cons_succ] at k0 k1 k2
  have z0 := cell_of_heap HX2.out 0
  have zf0 := frozen_of_heap HX2.out 0
  have z1 := cell_of_heap HX2.out 1
  have zf1 := frozen_of_heap HX2.out 1
  have z2 := cell_of_heap HX2.out 2
  have zf2 := frozen_of_heap HX2.out 2
  simp only [List.getElem?_toArray, List.getElem?_cons_zero, List.getElem?_cons_succ] at z0 z1 z2
  obtain ⟨bq, csq, t, eq, _, hgq, hleq, hltq, cq, cqf, hrs, hrq⟩ := HMU.out.hart HH.out
  obtain ⟨⟨uwp, uwn, uwc⟩, ⟨upp, upn, upc⟩, ⟨urp, urn, urc⟩, urows⟩ := u
  simp only at eq hleq hltq hrs
  subst eq
  have HRS := Lib.hid hrs
  have HRQ := Lib.hid hrq
  have HGQ := Lib.hid hgq
  have HCQ := Lib.hid cq
  clear hrs hrq hgq hpos
  have HEN : Hid (∀ (X : World), Bel W5 X → ∃ (t' : Sl) (X' : World), (Builtin.append_ #[46, 46] 46 #[.slice t.p t.n t.c, .slice (some ⟨X.heap.size, 0, none⟩) 1 1]).run Try.prog (X.alloc (.cells #[.int .i64 a, .int .i64 (wrap32 n)] 48)) = .ok (.slice t'.p t'.n t'.c) X' ∧ ERow encE 48 2 X' w.heap.size t'.val (row m h ++ [(a, wrap32 n)]) ∧ Sv (fun k => t.val.ownBlock = some k) W5 X' ∧ (∀ k, t'.val.ownBlock = some k → t.val.ownBlock = some k ∨ W5.heap.size ≤ k) ∧ X'.cell? ⟨bq, h, none⟩ = some (.slice t.p t.n t.c) ∧ X'.frozen? ⟨bq, h, none⟩ = false ∧ X'.cell? ⟨g1, 1, none⟩ = some (.slice (some ⟨bq, 0, none⟩) upn upc)) := Lib.hid (fun X hX => by
    have hXa : Bel W5 (X.alloc (.cells #[.int .i64 a, .int .i64 (wrap32 n)] 48)) := hX.alloc _ _
    have hnew := heap_alloc_new X (.cells #[.int .i64 a, .int .i64 (wrap32 n)] 48)
    obtain ⟨t', X', h1, h2, h3, h4⟩ := ent_one (s := t) (HRQ.out.bel hXa) (B := X.heap.size) (y := (a, wrap32 n)) (cell_of_heap hnew 0) (cell_of_heap hnew 1) (by have := HRL.out; omega) (by have := HB.out.size; have := hXa.size; omega)
    have hsx : Sv (fun k => t.val.ownBlock = some k) W5 X' := (hXa.sv _).trans h3
    have hgx := (hsx.block bq (lt_of_heap HGQ.out) (ERow.off (v := t.val) HRQ.out HGQ.out (by decide))).trans HGQ.out
    exact ⟨t', X', h1, h2, hsx, fun k hk => (h4 k hk).imp id (fun h => by have := hXa.size; omega), (Sv.cell hsx (p := ⟨bq, h, none⟩) (lt_of_heap HGQ.out) (ERow.off (v := t.val) HRQ.out HGQ.out (by decide))).trans HCQ.out, frozen_of_heap hgx h, cell_of_heap ((hsx.block g1 (lt_of_heap HX1.out) (ERow.off (v := t.val) HRQ.out HX1.out (by decide))).trans HX1.out) 1⟩)
  refine Upto.begin (T := fun w' => w'.cell? ⟨g1, 1, none⟩ = some (.slice (some ⟨bq, 0, none⟩) upn upc) ∧ w'.cell? ⟨bq, h, none⟩ = some (.slice t.p t.n t.c)) (z := 15) (by kernel_rfl) ?_
  have HT1 : W5.drew.cell? ⟨g1, 1, none⟩ = some (.slice (some ⟨bq, 0, none⟩) upn upc) ∧ W5.drew.cell? ⟨bq, h, none⟩ = some (.slice t.p t.n t.c) := ⟨k1, HCQ.out⟩
  refine takeU 31 (i := 0) (v := ?v1) rfl rfl rfl (by kernel_rfl) (by kernel_rfl) (by kernel_rfl) (by kernel_rfl) (fun _ _ _ h => h) (by kernel_rfl) ?hy1 HT1 ?rest1
  case hy1 => (intro w0 hSw; obtain ⟨e1, e2⟩ := hSw; first | (go_simp; done) | (go_simp; with_reducible rfl))
  simp only [List.setIfInBounds_toArray, List.set_cons_zero, List.set_cons_succ]
  refine takeU 32 (i := 1) (v := ?v2) rfl rfl rfl (by kernel_rfl) (by kernel_rfl) (by kernel_rfl) (by kernel_rfl) (fun _ _ _ h => h) (by kernel_rfl) ?hy2 HT1 ?rest2
  case hy2 => (intro w0 hSw; obtain ⟨e1, e2⟩ := hSw; first | (go_simp; done) | (go_simp; with_reducible rfl))
  simp only [List.setIfInBounds_toArray, List.set_cons_zero, List.set_cons_succ]
  refine takeU 33 (i := 2) (v := ?v3) rfl rfl rfl (by kernel_rfl) (by kernel_rfl) (by kernel_rfl) (by kernel_rfl) (fun _ _ _ h => h) (by kernel_rfl) ?hy3 HT1 ?rest3
  case hy3 => (intro w0 hSw; obtain ⟨e1, e2⟩ := hSw; first | (go_simp; done) | (go_simp; with_reducible rfl))
  simp only [List.setIfInBounds_toArray, List.set_cons_zero, List.set_cons_succ]
  refine takeU 34 (i := 3) (v := ?v4) rfl rfl rfl (by kernel_rfl) (by kernel_rfl) (by kernel_rfl) (by kernel_rfl) (fun _ _ _ h => h) (by kernel_rfl) ?hy4 HT1 ?rest4
  case hy4 => (intro w0 hSw; obtain ⟨e1, e2⟩ := hSw; first | (go_simp; done) | (go_simp; with_reducible rfl))
  simp only [List.setIfInBounds_toArray, List.set_cons_zero, List.set_cons_succ]
  refine takeU 35 (i := 4) (v := ?v5) rfl rfl rfl (by kernel_rfl) (by kernel_rfl) (by kernel_rfl) (by kernel_rfl) (fun _ _ _ h => h) (by kernel_rfl) ?hy5 HT1 ?rest5
  case hy5 => (intro w0 hSw; obtain ⟨e1, e2⟩ := hSw; first | (go_simp; done) | (go_simp; with_reducible rfl))
  simp only [List.setIfInBounds_toArray, List.set_cons_zero, List.set_cons_succ]
  refine takeU 36 (i := 5) (v := ?v6) rfl rfl rfl (by kernel_rfl) (by kernel_rfl) (by kernel_rfl) (by kernel_rfl) (fun _ _ _ h => h) (by kernel_rfl) ?hy6 HT1 ?rest6
  case hy6 => (intro w0 hSw; obtain ⟨e1, e2⟩ := hSw; first | (go_simp; done) | (go_simp; with_reducible rfl))
  simp only [List.setIfInBounds_toArray, List.set_cons_zero, List.set_cons_succ]
  refine takeU 37 (i := 6) (v := ?v7) rfl rfl rfl (by kernel_rfl) (by kernel_rfl) (by kernel_rfl) (by kernel_rfl) (fun _ _ _ h => h) (by kernel_rfl) ?hy7 HT1 ?rest7
  case hy7 => (intro w0 hSw; obtain ⟨e1, e2⟩ := hSw; first | (go_simp; done) | (go_simp; with_reducible rfl))
  simp only [List.setIfInBounds_toArray, List.set_cons_zero, List.set_cons_succ]
  refine takeU 38 (i := 7) (v := ?v8) rfl rfl rfl (by kernel_rfl) (by kernel_rfl) (by kernel_rfl) (by kernel_rfl) (fun _ _ _ h => h) (by kernel_rfl) ?hy8 HT1 ?rest8
  case hy8 => (intro w0 hSw; obtain ⟨e1, e2⟩ := hSw; first | (go_simp; done) | (go_simp; with_reducible rfl))
  simp only [List.setIfInBounds_toArray, List.set_cons_zero, List.set_cons_succ]
  refine takeU 39 (i := 8) (v := ?v9) rfl rfl rfl (by kernel_rfl) (by kernel_rfl) (by kernel_rfl) (by kernel_rfl) (fun _ _ _ h => h) (by kernel_rfl) ?hy9 HT1 ?rest9
  case hy9 => (intro w0 hSw; obtain ⟨e1, e2⟩ := hSw; first | (go_simp; done) | (go_simp; with_reducible rfl))
  simp only [List.setIfInBounds_toArray, List.set_cons_zero, List.set_cons_succ]
  refine takeU 40 (i := 9) (v := ?v10) rfl rfl rfl (by kernel_rfl) (by kernel_rfl) (by kernel_rfl) (by kernel_rfl) (fun _ _ _ h => h) (by kernel_rfl) ?hy10 HT1 ?rest10
  case hy10 => (intro w0 hSw; obtain ⟨e1, e2⟩ := hSw; first | (go_simp; done) | (go_simp; with_reducible rfl))
  simp only [List.setIfInBounds_toArray, List.set_cons_zero, List.set_cons_succ]
  refine oneU 41 (i := 10) rfl rfl (by kernel_rfl) (by kernel_rfl) (fun K hK => ?_)
  go_simp
  refine (wrap_any _ _).mono ?_
  rintro e wq ⟨rfl, rfl⟩
  refine hK.out _ _ HT1 (fun _ => ?_)
  clear hK K
  simp only [List.setIfInBounds_toArray, List.set_cons_zero, List.set_cons_succ]
  refine takeU 42 (i := 11) (v := ?v11) rfl rfl rfl (by kernel_rfl) (by kernel_rfl) (by kernel_rfl) (by kernel_rfl) (fun _ _ _ h => h) (by kernel_rfl) ?hy11 HT1 ?rest11
  case hy11 => (intro w0 hSw; obtain ⟨e1, e2⟩ := hSw; first | (go_simp; done) | (go_simp; with_reducible rfl))
  simp only [List.setIfInBounds_toArray, List.set_cons_zero, List.set_cons_succ]
  have HT2 : (W5.drew.alloc (.cells #[.int .i64 a, .int .i64 (wrap32 n)] 48)).cell? ⟨g1, 1, none⟩ = some (.slice (some ⟨bq, 0, none⟩) upn upc) ∧ (W5.drew.alloc (.cells #[.int .i64 a, .int .i64 (wrap32 n)] 48)).cell? ⟨bq, h, none⟩ = some (.slice t.p t.n t.c) := ⟨cell_of_heap (((Bel.refl W5).drew.alloc _ _).stays HX1.out) 1, (((Bel.refl W5).drew.alloc _ _).cell (p := ⟨bq, h, none⟩) (lt_of_heap HGQ.out)).trans HCQ.out⟩
  refine oneU 43 (i := 12) rfl rfl (by kernel_rfl) (by kernel_rfl) (fun K hK => ?_)
  go_simp
  refine hK.out _ _ HT2 (fun _ => ?_)
  clear hK K
  simp only [List.setIfInBounds_toArray, List.set_cons_zero, List.set_cons_succ]
  obtain ⟨t', X', hrun, hr', hsv', hown', xc, xf, xg⟩ := HEN.out _ (Bel.refl W5).drew
  refine oneU 44 (i := 13) rfl rfl (by kernel_rfl) (by kernel_rfl) (fun K hK => ?_)
  refine appU (.tmp 38) (.tmp 43) 46 rfl _ _ _ (by kernel_rfl) (by kernel_rfl) hrun ?_
  refine hK.out _ _ ⟨xg, xc⟩ (fun _ => ?_)
  clear hK K
  simp only [List.setIfInBounds_toArray, List.set_cons_zero, List.set_cons_succ]
  refine takeU 45 (i := 14) (v := ?v12) rfl rfl rfl (by kernel_rfl) (by kernel_rfl) (by kernel_rfl) (by kernel_rfl) (fun _ _ _ h => h) (by kernel_rfl) ?hy12 ⟨xg, xc⟩ ?rest12
  case hy12 => (intro w0 hSw; obtain ⟨e1, e2⟩ := hSw; first | (go_simp; done) | (go_simp; with_reducible rfl))
  simp only [List.setIfInBounds_toArray, List.set_cons_zero, List.set_cons_succ]
  refine lastU rfl rfl (by kernel_rfl) (by kernel_rfl) (fun K hK => ?_)
  go_simp
  refine hK.out undef _ ?_
  clear hK K
  refine Upto.done (by kernel_rfl) ?_ _
  skip
  have hput := HMU.out.put rfl HH.out HRS.out hsv' hr' hown'
  have hset : Svg bq X' (X'.setCell ⟨bq, h, none⟩ (.slice t'.p t'.n t'.c)) := Svg.set _ _ _ _
  have hgx := (hsv'.block bq (lt_of_heap HGQ.out) (ERow.off (v := t.val) HRQ.out HGQ.out (by decide))).trans HGQ.out
  have hx1 := (hset.block g1 (lt_of_heap ((hsv'.block g1 (lt_of_heap HX1.out) (ERow.off (v := t.val) HRQ.out HX1.out (by decide))).trans HX1.out)) (ne_of_heap ((hsv'.block g1 (lt_of_heap HX1.out) (ERow.off (v := t.val) HRQ.out HX1.out (by decide))).trans HX1.out) hgx (by decide))).trans ((hsv'.block g1 (lt_of_heap HX1.out) (ERow.off (v := t.val) HRQ.out HX1.out (by decide))).trans HX1.out)
  have hx2 := (hset.block g2 (lt_of_heap ((hsv'.block g2 (lt_of_heap HX2.out) (ERow.off (v := t.val) HRQ.out HX2.out (by decide))).trans HX2.out)) (ne_of_heap ((hsv'.block g2 (lt_of_heap HX2.out) (ERow.off (v := t.val) HRQ.out HX2.out (by decide))).trans HX2.out) hgx (by decide))).trans ((hsv'.block g2 (lt_of_heap HX2.out) (ERow.off (v := t.val) HRQ.out HX2.out (by decide))).trans HX2.out)
  have hbx : Bel w X' := Sv.bel hsv' HB.out fun k hk => (HRQ.out.blk (v := t.val) hk).1
  have hb6 := hset.bel hbx ((HMU.out.pd.blk rfl).1)
  go_upto_region 7 with (fail)
  generalize X'.setCell ⟨bq, h, none⟩ (.slice t'.p t'.n t'.c) = W6 at hput hset hx1 hx2 hb6 ⊢
  have HX1 := Lib.hid hx1
  have HX2 := Lib.hid hx2
  have HB := Lib.hid hb6
  have HM6 := Lib.hid hput
  clear HT1 HT2 xg hput hset hx1 hx2 hbx hb6 hgx hr' hsv' hown' xc xf hrun  k0 k1 k2 kf0 kf1 kf2 z0 z1 z2 zf0 zf1 zf2
  have k0 := cell_of_heap HX1.out 0
  have kf0 := frozen_of_heap HX1.out 0
  have k1 := cell_of_heap HX1.out 1
  have kf1 := frozen_of_heap HX1.out 1
  have k2 := cell_of_heap HX1.out 2
  have kf2 := frozen_of_heap HX1.out 2
  simp only [List.getElem?_toArray, List.getElem?_cons_zero, List.getElem?_cons_succ] at k0 k1 k2
  have z0 := cell_of_heap HX2.out 0
  have zf0 := frozen_of_heap HX2.out 0
  have z1 := cell_of_heap HX2.out 1
  have zf1 := frozen_of_heap HX2.out 1
  have z2 := cell_of_heap HX2.out 2
  have zf2 := frozen_of_heap HX2.out 2
  simp only [List.getElem?_toArray, List.getElem?_cons_zero, List.getElem?_cons_succ] at z0 z1 z2
  go_wp2_with (fail)
  have hs3 : Svg g2 W6 (((W6.setCell ⟨g2, 0, none⟩ (.slice uwp uwn uwc)).setCell ⟨g2, 1, none⟩ (.slice (some ⟨bq, 0, none⟩) upn upc)).setCell ⟨g2, 2, none⟩ (.slice urp urn urc)) := set3_svg _ _ _ _ _
  have hh := set3_heap HX2.out (.slice uwp uwn uwc) (.slice (some ⟨bq, 0, none⟩) upn upc) (.slice urp urn urc)
  exact bodyPost_ret (results_cell_slot Try.results12 _ _ g2 _ _ _ _ _ rfl rfl hh Try.underlying27 rfl (by kernel_rfl)) rfl ⟨⟨⟨uwp, uwn, uwc⟩, ⟨some ⟨bq, 0, none⟩, upn, upc⟩, ⟨urp, urn, urc⟩, urows.set h t'⟩, rfl, hs3.bel HB.out (by have := HG.out; have := HG2.out; omega), (HM6.out).keep hs3 HX2.out (by decide) (by decide) (by decide)⟩
theorem store_lit {w : World} {base : Nat} {v : Mv} {m : Mem} (hm : MemAt base w v m) (ho : Ok m) {h a n : Int} {m' : Mem} {r : Int} (hr : storeV m h a n = (m', r)) :
    Calls Try.prog 12 #[.agg #[.slice v.w.p v.w.n v.w.c, .slice v.p.p v.p.n v.p.c, .slice v.r.p v.r.n v.r.c], .int .i64 h, .int .i64 a, .int .i64 n] w (Told m' r w) := by
  unfold storeV at hr
  cases hh : isH m h with
  | false => rw [hh] at hr; injection hr with h1 h2; rw [← h1, ← h2]; exact store_1 hm ho hh
  | true =>
    cases hw : isW m a with
    | false => rw [hh, hw] at hr; injection hr with h1 h2; rw [← h1, ← h2]; exact store_2 hm ho hh hw
    | true =>
      rw [hh, hw] at hr
      obtain ⟨hN, rfl⟩ : ∃ hN : Nat, h = hN := ⟨h.toNat, by have := isH_iff.1 hh; omega⟩
      by_cases hc : 8 ≤ (row m hN).length
      · rw [if_pos (by rfl), if_pos hc] at hr; injection hr with h1 h2; rw [← h1, ← h2]; exact store_3 hm ho hh hw hc
      · rw [if_pos (by rfl), if_neg hc] at hr; injection hr with h1 h2; rw [← h1, ← h2]; exact store_4 hm ho hh hw hc
end Go.Proofs.Ytobpoghophhphaa
