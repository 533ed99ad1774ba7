/- store.Load. -/
import Derived.Test.YtobpoghophhphaaMBack
namespace Go.Proofs.Ytobpoghophhphaa
open Go.RowKit Go.Shelf Mm
attribute [local go_sem] Oper.semAt_some
set_option linter.unusedVariables false
set_option linter.unusedSimpArgs false
theorem box4 (w : World) (c : Array Value) (t : TypeId) (c' : Array Value) (t' : TypeId) (d : Array Value) (u : TypeId) (d' : Array Value) (u' : TypeId) : Bel w ((((w.alloc (.cells c t)).alloc (.cells c' t')).alloc (.cells d u)).alloc (.cells d' u')) ∧ ((((w.alloc (.cells c t)).alloc (.cells c' t')).alloc (.cells d u)).alloc (.cells d' u')).heap[w.heap.size]? = some (.cells c t (0, 0)) ∧ ((((w.alloc (.cells c t)).alloc (.cells c' t')).alloc (.cells d u)).alloc (.cells d' u')).heap[w.heap.size + 1]? = some (.cells c' t' (0, 0)) ∧ ((((w.alloc (.cells c t)).alloc (.cells c' t')).alloc (.cells d u)).alloc (.cells d' u')).heap[w.heap.size + 1 + 1]? = some (.cells d u (0, 0)) ∧ ((((w.alloc (.cells c t)).alloc (.cells c' t')).alloc (.cells d u)).alloc (.cells d' u')).heap[w.heap.size + 1 + 1 + 1]? = some (.cells d' u' (0, 0)) := by
  obtain ⟨h1, h2, h3, h4⟩ := box3 w c t c' t' d u
  have h := heap_alloc_new (((w.alloc (.cells c t)).alloc (.cells c' t')).alloc (.cells d u)) (.cells d' u')
  rw [World.size_alloc, World.size_alloc, World.size_alloc] at h
  have hb : Bel (((w.alloc (.cells c t)).alloc (.cells c' t')).alloc (.cells d u)) ((((w.alloc (.cells c t)).alloc (.cells c' t')).alloc (.cells d u)).alloc (.cells d' u')) := (Bel.refl _).alloc _ _
  exact ⟨h1.trans hb, hb.stays h2, hb.stays h3, hb.stays h4, h⟩
/-- the last one of those pending -/
theorem last_none {l : List (Int × Int)} {a d : Int} (h : ∀ e ∈ l, e.1 ≠ a) : last l a d = d := by
  unfold last
  induction l generalizing d with
  | nil => rfl
  | cons e l ih =>
    rw [List.foldl_cons, if_neg (h e (by simp))]
    exact ih fun x hx => h x (by simp [hx])
theorem last_app (l l' : List (Int × Int)) (a d : Int) : last (l ++ l') a d = last l' a (last l a d) := by
  unfold last
  rw [List.foldl_append]
theorem last_at {l : List (Int × Int)} {a d : Int} {j : Nat} {x : Int × Int} (hj : l[j]? = some x) (hx : x.1 = a) (hn : ∀ (i : Nat) (y : Int × Int), j < i → l[i]? = some y → y.1 ≠ a) : last l a d = x.2 := by
  have hlt := (List.getElem?_eq_some_iff.1 hj).1
  have e : l = l.take j ++ (x :: l.drop (j + 1)) := by
    have hx2 : l[j] = x := (List.getElem?_eq_some_iff.1 hj).2
    rw [← hx2, ← List.drop_eq_getElem_cons hlt, List.take_append_drop]
  rw [e, last_app]
  show last (l.drop (j + 1)) a (if x.1 = a then x.2 else _) = _
  rw [if_pos hx]
  refine last_none fun y hy => ?_
  obtain ⟨i, hi⟩ := List.getElem?_of_mem hy
  rw [List.getElem?_drop] at hi
  exact hn (j + 1 + i) y (by omega) hi
theorem bk_mem {zs : List (Int × Int)} {k j : Nat} {y : Int × Int} (hk : k ≤ zs.length) (hj : zs.length - k ≤ j) (hy : zs[j]? = some y) : (j, y) ∈ upto (bk zs) k := by
  have hlt := (List.getElem?_eq_some_iff.1 hy).1
  unfold upto
  refine List.mem_map.2 ⟨zs.length - 1 - j, List.mem_range.2 (by omega), ?_⟩
  unfold bk
  rw [show zs.length - 1 - (zs.length - 1 - j) = j by omega, List.getD_eq_getElem?_getD, hy]
  rfl
theorem heap_kept {W W' : World} {row : Option Nat} {g : Nat} {cs : Array Value} {t : TypeId} {fr : Nat × Nat} (h : W.heap[g]? = some (.cells cs t fr)) (hg : W.grownBy W' row) (hrow : ∀ r, row = some r → ∃ o : Obj, W.heap[r]? = some o ∧ o.isCells = false) : W'.heap[g]? = some (.cells cs t fr) := (grownBy_keeps_cells hg hrow h rfl).trans h
theorem stays' {w w' : World} {g : Nat} {o : Obj} (hg : w.heap[g]? = some o) (h : Bel w w') : w'.heap[g]? = some o := h.stays hg
theorem Sv.mono2 {S T : Nat → Prop} {w w' : World} (h : Sv S w w') (hs : ∀ k, S k → T k) : Sv T w w' := ⟨h.os, h.tape, h.output, h.size, fun k hk hn => h.block k hk fun c => hn (hs k c)⟩
set_option maxRecDepth 100000 in
theorem load_no1 {w : World} {base : Nat} {v : Mv} {m : Mem} (hm : MemAt base w v m) (ho : Ok m) {h a : Int} (hh : isH m h = false) :
    Calls Try.prog 10 #[.agg #[.slice v.w.p v.w.n v.w.c, .slice v.p.p v.p.n v.p.c, .slice v.r.p v.r.n v.r.c], .int .i64 h, .int .i64 a] w fun e w' => e = .returned (.tuple #[.int .i64 0, .int .i64 1]) ∧ Bel w w' := by
  obtain ⟨hb1, hx1, hx2, hx3, hx4⟩ := box4 w #[.slice v.w.p v.w.n v.w.c, .slice v.p.p v.p.n v.p.c, .slice v.r.p v.r.n v.r.c] 27 #[.int .i64 a] 3 #[.int .i64 0] 3 #[.int .i64 0] 28
  have HM := Lib.hid hm
  have HO := Lib.hid ho
  have HH := Lib.hid hh
  clear hh
  clear hm ho
  go_enter Try.func10, Try.ntmps10
  go_upto_region 1 with (fail)
  generalize hW1 : ((((w.alloc (.cells #[.slice v.w.p v.w.n v.w.c, .slice v.p.p v.p.n v.p.c, .slice v.r.p v.r.n v.r.c] 27)).alloc (.cells #[.int .i64 a] 3)).alloc (.cells #[.int .i64 0] 3)).alloc (.cells #[.int .i64 0] 28)) = W1 at hb1 hx1 hx2 hx3 hx4 ⊢
  clear hW1
  have HG3 : Hid (w.heap.size ≤ w.heap.size + 1 + 1) := Lib.hid (by omega)
  have HG4 : Hid (w.heap.size ≤ w.heap.size + 1 + 1 + 1) := Lib.hid (by omega)
  have HN34 : Hid (w.heap.size + 1 + 1 ≠ w.heap.size + 1 + 1 + 1) := Lib.hid (by omega)
  have HN13 : Hid (w.heap.size < w.heap.size + 1 + 1) := Lib.hid (by omega)
  have HN23 : Hid (w.heap.size + 1 < w.heap.size + 1 + 1) := Lib.hid (by omega)
  have HN3L : Hid (w.heap.size + 1 + 1 < w.heap.size + 1 + 1 + 1) := Lib.hid (by omega)
  have HN4L : Hid (w.heap.size + 1 + 1 + 1 < W1.heap.size) := Lib.hid (lt_of_heap hx4)
  generalize w.heap.size + 1 + 1 + 1 = g4 at hx4 HG4 HN34 HN3L HN4L ⊢
  generalize w.heap.size + 1 + 1 = g3 at hx3 HG3 HN34 HN13 HN23 HN3L ⊢
  generalize w.heap.size + 1 = g2 at hx2 HN23 ⊢
  obtain ⟨g1, hG⟩ : ∃ G, w.heap.size = G := ⟨_, rfl⟩
  rw [hG] at hx1 HN13 HG3 HG4 ⊢
  have HG := Lib.hid hG
  have HB1 := Lib.hid hb1
  have HX1 := Lib.hid hx1
  have HX2 := Lib.hid hx2
  have HX3 := Lib.hid hx3
  have HX4 := Lib.hid hx4
  clear hb1 hx1 hx2 hx3 hx4 hG
  have k0 := cell_of_heap HX1.out 0
  have k1 := cell_of_heap HX1.out 1
  have k2 := cell_of_heap HX1.out 2
  simp only [List.getElem?_toArray, List.getElem?_cons_zero, List.getElem?_cons_succ] at k0 k1 k2
  have q0 := cell_of_heap HX2.out 0
  simp only [List.getElem?_toArray, List.getElem?_cons_zero, List.getElem?_cons_succ] at q0
  have hn34 := HN34.out
  have hn43 := HN34.out.symm
  go_wp2_with (first | (go_at_call 28; ((with_reducible refine (isHart_lit HM.out HO.out HH.out _).mono ?_); rintro e wa ⟨rfl, hbz⟩; have HB1 := Lib.hid (HB1.out.trans hbz); have HX1 := Lib.hid (stays' HX1.out hbz); have HX2 := Lib.hid (stays' HX2.out hbz); have HX3 := Lib.hid (stays' HX3.out hbz); have HX4 := Lib.hid (stays' HX4.out hbz); have k0 := cell_of_heap HX1.out 0; have k1 := cell_of_heap HX1.out 1; have k2 := cell_of_heap HX1.out 2; simp only [List.getElem?_toArray, List.getElem?_cons_zero, List.getElem?_cons_succ] at k0 k1 k2; have q0 := cell_of_heap HX2.out 0; simp only [List.getElem?_toArray, List.getElem?_cons_zero, List.getElem?_cons_succ] at q0; have r0 := cell_of_heap HX3.out 0; have rf0 := frozen_of_heap HX3.out 0; simp only [List.getElem?_toArray, List.getElem?_cons_zero, List.getElem?_cons_succ] at r0; have s0 := cell_of_heap HX4.out 0; have sf0 := frozen_of_heap HX4.out 0; simp only [List.getElem?_toArray, List.getElem?_cons_zero, List.getElem?_cons_succ] at s0; clear hbz)))
  have h3 := (Sv.block (Svg.set g4 0 _ (.int .i64 1)) g3 (lt_of_heap (heap_set HX3.out 0 (.int .i64 0))) HN34.out).trans (heap_set HX3.out 0 (.int .i64 0))
  have h4 := heap_set ((Sv.block (Svg.set g3 0 _ (.int .i64 0)) g4 (lt_of_heap HX4.out) HN34.out.symm).trans HX4.out) 0 (.int .i64 1)
  have c3 := cell_of_heap h3 0
  have c4 := cell_of_heap h4 0
  simp only [List.setIfInBounds_toArray, List.set_cons_zero, List.getElem?_toArray, List.getElem?_cons_zero] at c3 c4
  refine bodyPost_ret (v := .tuple #[.int .i64 0, .int .i64 1]) (by simp [results, Try.f10, go_sem, c3, c4]) rfl ?_
  exact ⟨rfl, Sv.bel (S := fun k => k = g3 ∨ k = g4) ((Sv.mono2 (Svg.set g3 0 _ _) (fun k h => .inl h)).trans (Sv.mono2 (Svg.set g4 0 _ _) (fun k h => .inr h))) HB1.out (fun k h => by have := HG.out; have := HG3.out; have := HG4.out; rcases h with rfl | rfl <;> omega)⟩
set_option maxRecDepth 100000 in
theorem load_no2 {w : World} {base : Nat} {v : Mv} {m : Mem} (hm : MemAt base w v m) (ho : Ok m) {h a : Int} (hh : isH m h = true) (hw : isW m a = false) :
    Calls Try.prog 10 #[.agg #[.slice v.w.p v.w.n v.w.c, .slice v.p.p v.p.n v.p.c, .slice v.r.p v.r.n v.r.c], .int .i64 h, .int .i64 a] w fun e w' => e = .returned (.tuple #[.int .i64 0, .int .i64 1]) ∧ Bel w w' := by
  obtain ⟨hb1, hx1, hx2, hx3, hx4⟩ := box4 w #[.slice v.w.p v.w.n v.w.c, .slice v.p.p v.p.n v.p.c, .slice v.r.p v.r.n v.r.c] 27 #[.int .i64 a] 3 #[.int .i64 0] 3 #[.int .i64 0] 28
  have HM := Lib.hid hm
  have HO := Lib.hid ho
  have HH := Lib.hid hh
  have HW := Lib.hid hw
  clear hh hw
  clear hm ho
  go_enter Try.func10, Try.ntmps10
  go_upto_region 1 with (fail)
  generalize hW1 : ((((w.alloc (.cells #[.slice v.w.p v.w.n v.w.c, .slice v.p.p v.p.n v.p.c, .slice v.r.p v.r.n v.r.c] 27)).alloc (.cells #[.int .i64 a] 3)).alloc (.cells #[.int .i64 0] 3)).alloc (.cells #[.int .i64 0] 28)) = W1 at hb1 hx1 hx2 hx3 hx4 ⊢
  clear hW1
  have HG3 : Hid (w.heap.size ≤ w.heap.size + 1 + 1) := Lib.hid (by omega)
  have HG4 : Hid (w.heap.size ≤ w.heap.size + 1 + 1 + 1) := Lib.hid (by omega)
  have HN34 : Hid (w.heap.size + 1 + 1 ≠ w.heap.size + 1 + 1 + 1) := Lib.hid (by omega)
  have HN13 : Hid (w.heap.size < w.heap.size + 1 + 1) := Lib.hid (by omega)
  have HN23 : Hid (w.heap.size + 1 < w.heap.size + 1 + 1) := Lib.hid (by omega)
  have HN3L : Hid (w.heap.size + 1 + 1 < w.heap.size + 1 + 1 + 1) := Lib.hid (by omega)
  have HN4L : Hid (w.heap.size + 1 + 1 + 1 < W1.heap.size) := Lib.hid (lt_of_heap hx4)
  generalize w.heap.size + 1 + 1 + 1 = g4 at hx4 HG4 HN34 HN3L HN4L ⊢
  generalize w.heap.size + 1 + 1 = g3 at hx3 HG3 HN34 HN13 HN23 HN3L ⊢
  generalize w.heap.size + 1 = g2 at hx2 HN23 ⊢
  obtain ⟨g1, hG⟩ : ∃ G, w.heap.size = G := ⟨_, rfl⟩
  rw [hG] at hx1 HN13 HG3 HG4 ⊢
  have HG := Lib.hid hG
  have HB1 := Lib.hid hb1
  have HX1 := Lib.hid hx1
  have HX2 := Lib.hid hx2
  have HX3 := Lib.hid hx3
  have HX4 := Lib.hid hx4
  clear hb1 hx1 hx2 hx3 hx4 hG
  have k0 := cell_of_heap HX1.out 0
  have k1 := cell_of_heap HX1.out 1
  have k2 := cell_of_heap HX1.out 2
  simp only [List.getElem?_toArray, List.getElem?_cons_zero, List.getElem?_cons_succ] at k0 k1 k2
  have q0 := cell_of_heap HX2.out 0
  simp only [List.getElem?_toArray, List.getElem?_cons_zero, List.getElem?_cons_succ] at q0
  have hn34 := HN34.out
  have hn43 := HN34.out.symm
  go_wp2_with (first | (go_at_call 28; ((with_reducible refine (isHart_lit HM.out HO.out HH.out _).mono ?_); rintro e wa ⟨rfl, hbz⟩; have HB1 := Lib.hid (HB1.out.trans hbz); have HX1 := Lib.hid (stays' HX1.out hbz); have HX2 := Lib.hid (stays' HX2.out hbz); have HX3 := Lib.hid (stays' HX3.out hbz); have HX4 := Lib.hid (stays' HX4.out hbz); have k0 := cell_of_heap HX1.out 0; have k1 := cell_of_heap HX1.out 1; have k2 := cell_of_heap HX1.out 2; simp only [List.getElem?_toArray, List.getElem?_cons_zero, List.getElem?_cons_succ] at k0 k1 k2; have q0 := cell_of_heap HX2.out 0; simp only [List.getElem?_toArray, List.getElem?_cons_zero, List.getElem?_cons_succ] at q0; have r0 := cell_of_heap HX3.out 0; have rf0 := frozen_of_heap HX3.out 0; simp only [List.getElem?_toArray, List.getElem?_cons_zero, List.getElem?_cons_succ] at r0; have s0 := cell_of_heap HX4.out 0; have sf0 := frozen_of_heap HX4.out 0; simp only [List.getElem?_toArray, List.getElem?_cons_zero, List.getElem?_cons_succ] at s0; clear hbz)) | (go_at_call 29; ((with_reducible refine (isWord_lit HM.out HW.out _).mono ?_); rintro e wb ⟨rfl, hbz⟩; have HB1 := Lib.hid (HB1.out.trans hbz); have HX1 := Lib.hid (stays' HX1.out hbz); have HX2 := Lib.hid (stays' HX2.out hbz); have HX3 := Lib.hid (stays' HX3.out hbz); have HX4 := Lib.hid (stays' HX4.out hbz); have k0 := cell_of_heap HX1.out 0; have k1 := cell_of_heap HX1.out 1; have k2 := cell_of_heap HX1.out 2; simp only [List.getElem?_toArray, List.getElem?_cons_zero, List.getElem?_cons_succ] at k0 k1 k2; have q0 := cell_of_heap HX2.out 0; simp only [List.getElem?_toArray, List.getElem?_cons_zero, List.getElem?_cons_succ] at q0; have r0 := cell_of_heap HX3.out 0; have rf0 := frozen_of_heap HX3.out 0; simp only [List.getElem?_toArray, List.getElem?_cons_zero, List.getElem?_cons_succ] at r0; have s0 := cell_of_heap HX4.out 0; have sf0 := frozen_of_heap HX4.out 0; simp only [List.getElem?_toArray, List.getElem?_cons_zero, List.getElem?_cons_succ] at s0; clear hbz)))
  have h3 := (Sv.block (Svg.set g4 0 _ (.int .i64 1)) g3 (lt_of_heap (heap_set HX3.out 0 (.int .i64 0))) HN34.out).trans (heap_set HX3.out 0 (.int .i64 0))
  have h4 := heap_set ((Sv.block (Svg.set g3 0 _ (.int .i64 0)) g4 (lt_of_heap HX4.out) HN34.out.symm).trans HX4.out) 0 (.int .i64 1)
  have c3 := cell_of_heap h3 0
  have c4 := cell_of_heap h4 0
  simp only [List.setIfInBounds_toArray, List.set_cons_zero, List.getElem?_toArray, List.getElem?_cons_zero] at c3 c4
  refine bodyPost_ret (v := .tuple #[.int .i64 0, .int .i64 1]) (by simp [results, Try.f10, go_sem, c3, c4]) rfl ?_
  exact ⟨rfl, Sv.bel (S := fun k => k = g3 ∨ k = g4) ((Sv.mono2 (Svg.set g3 0 _ _) (fun k h => .inl h)).trans (Sv.mono2 (Svg.set g4 0 _ _) (fun k h => .inr h))) HB1.out (fun k h => by have := HG.out; have := HG3.out; have := HG4.out; rcases h with rfl | rfl <;> omega)⟩
set_option maxRecDepth 100000 in
set_option maxHeartbeats 2000000 in
theorem load_yes {w : World} {base : Nat} {v : Mv} {m : Mem} (hm : MemAt base w v m) (ho : Ok m) {h a : Nat} (hh : isH m h = true) (hw : isW m a = true) :
    Calls Try.prog 10 #[.agg #[.slice v.w.p v.w.n v.w.c, .slice v.p.p v.p.n v.p.c, .slice v.r.p v.r.n v.r.c], .int .i64 (h : Int), .int .i64 (a : Int)] w fun e w' => e = .returned (.tuple #[.int .i64 (loadN m h a), .int .i64 0]) ∧ Bel w w' := by
  obtain ⟨hb1, hx1, hx2, hx3, hx4⟩ := box4 w #[.slice v.w.p v.w.n v.w.c, .slice v.p.p v.p.n v.p.c, .slice v.r.p v.r.n v.r.c] 27 #[.int .i64 (a : Int)] 3 #[.int .i64 0] 3 #[.int .i64 0] 28
  have HM := Lib.hid hm
  have HO := Lib.hid ho
  have HH := Lib.hid hh
  have HW := Lib.hid hw
  obtain ⟨bp, csp, s, ep, _, hgp, hlep, hltp, hcp, _, _, hrow⟩ := hm.hart hh
  obtain ⟨bw, csw, ew, _, hgw, hlew, hltw, hcw, _⟩ := hm.word hw
  have HR := Lib.hid hrow
  have H8 := Lib.hid (ho.p8 _ (row_mem hh))
  have HCP := Lib.hid hcp
  have HCW := Lib.hid hcw
  have HLP := Lib.hid (lt_of_heap hgp)
  have HLW := Lib.hid (lt_of_heap hgw)
  obtain ⟨⟨wp, wn, wc⟩, ⟨pp, pn, pc⟩, ⟨rp, rn, rc⟩, rows⟩ := v
  simp only at ep ew hlep hltp hlew hltw
  subst ep ew
  simp only at hb1 hx1 hx2 hx3 hx4
  clear hm ho hh hw hrow hcp hcw hgp hgw
  refine (callsIn_wide (n := 9)).1 ?_
  have h1 : 1 ≤ 9 := by omega
  refine callsIn_of_wp_marks Try.func10 rfl trivial ?_ rfl
  simp only [Try.ntmps10, List.size_toArray, List.length_cons, List.length_nil, Nat.reduceAdd, Nat.reduceSub, Array.replicate_succ, Array.replicate_zero, List.push_toArray, List.append_toArray, List.nil_append, List.cons_append]
  gi_wp2_with fail
  generalize hW1 : ((((w.alloc (.cells #[.slice (some ⟨bw, 0, none⟩) wn wc, .slice (some ⟨bp, 0, none⟩) pn pc, .slice rp rn rc] 27)).alloc (.cells #[.int .i64 (a : Int)] 3)).alloc (.cells #[.int .i64 0] 3)).alloc (.cells #[.int .i64 0] 28)) = W1 at hb1 hx1 hx2 hx3 hx4 ⊢
  clear hW1
  have HG3 : Hid (w.heap.size ≤ w.heap.size + 1 + 1) := Lib.hid (by omega)
  have HG4 : Hid (w.heap.size ≤ w.heap.size + 1 + 1 + 1) := Lib.hid (by omega)
  have HN34 : Hid (w.heap.size + 1 + 1 ≠ w.heap.size + 1 + 1 + 1) := Lib.hid (by omega)
  have HN13 : Hid (w.heap.size < w.heap.size + 1 + 1) := Lib.hid (by omega)
  have HN23 : Hid (w.heap.size + 1 < w.heap.size + 1 + 1) := Lib.hid (by omega)
  have HN3L : Hid (w.heap.size + 1 + 1 < w.heap.size + 1 + 1 + 1) := Lib.hid (by omega)
  have HN4L : Hid (w.heap.size + 1 + 1 + 1 < W1.heap.size) := Lib.hid (lt_of_heap hx4)
  generalize w.heap.size + 1 + 1 + 1 = g4 at hx4 HG4 HN34 HN3L HN4L ⊢
  generalize w.heap.size + 1 + 1 = g3 at hx3 HG3 HN34 HN13 HN23 HN3L ⊢
  generalize w.heap.size + 1 = g2 at hx2 HN23 ⊢
  obtain ⟨g1, hG⟩ : ∃ G, w.heap.size = G := ⟨_, rfl⟩
  rw [hG] at hx1 HN13 HG3 HG4 ⊢
  have HG := Lib.hid hG
  have HB1 := Lib.hid hb1
  have HX1 := Lib.hid hx1
  have HX2 := Lib.hid hx2
  have HX3 := Lib.hid hx3
  have HX4 := Lib.hid hx4
  clear hb1 hx1 hx2 hx3 hx4 hG
  refine ⟨trivial, ?_⟩
  refine (callsIn_wide.2 (isHart_lit HM.out HO.out HH.out _)).mono ?_
  rintro e wa ⟨rfl, hbz⟩
  have HB1 := Lib.hid (HB1.out.trans hbz)
  have HX1 := Lib.hid (stays' HX1.out hbz)
  have HX2 := Lib.hid (stays' HX2.out hbz)
  have HX3 := Lib.hid (stays' HX3.out hbz)
  have HX4 := Lib.hid (stays' HX4.out hbz)
  clear hbz
  have k0 := cell_of_heap HX1.out 0
  have k1 := cell_of_heap HX1.out 1
  have k2 := cell_of_heap HX1.out 2
  simp only [List.getElem?_toArray, List.getElem?_cons_zero, List.getElem?_cons_succ] at k0 k1 k2
  have q0 := cell_of_heap HX2.out 0
  simp only [List.getElem?_toArray, List.getElem?_cons_zero, List.getElem?_cons_succ] at q0
  have r0 := cell_of_heap HX3.out 0
  have rf0 := frozen_of_heap HX3.out 0
  simp only [List.getElem?_toArray, List.getElem?_cons_zero, List.getElem?_cons_succ] at r0
  have s0 := cell_of_heap HX4.out 0
  have sf0 := frozen_of_heap HX4.out 0
  simp only [List.getElem?_toArray, List.getElem?_cons_zero, List.getElem?_cons_succ] at s0
  gi_wp2_with fail
  clear k0 k1 k2 q0 r0 rf0 s0 sf0
  refine ⟨trivial, ?_⟩
  refine (callsIn_wide.2 (isWord_lit HM.out HW.out _)).mono ?_
  rintro e wb ⟨rfl, hbz⟩
  have HB1 := Lib.hid (HB1.out.trans hbz)
  have HX1 := Lib.hid (stays' HX1.out hbz)
  have HX2 := Lib.hid (stays' HX2.out hbz)
  have HX3 := Lib.hid (stays' HX3.out hbz)
  have HX4 := Lib.hid (stays' HX4.out hbz)
  clear hbz
  have k0 := cell_of_heap HX1.out 0
  have k1 := cell_of_heap HX1.out 1
  have k2 := cell_of_heap HX1.out 2
  simp only [List.getElem?_toArray, List.getElem?_cons_zero, List.getElem?_cons_succ] at k0 k1 k2
  have q0 := cell_of_heap HX2.out 0
  simp only [List.getElem?_toArray, List.getElem?_cons_zero, List.getElem?_cons_succ] at q0
  have r0 := cell_of_heap HX3.out 0
  have rf0 := frozen_of_heap HX3.out 0
  simp only [List.getElem?_toArray, List.getElem?_cons_zero, List.getElem?_cons_succ] at r0
  have s0 := cell_of_heap HX4.out 0
  have sf0 := frozen_of_heap HX4.out 0
  simp only [List.getElem?_toArray, List.getElem?_cons_zero, List.getElem?_cons_succ] at s0
  have cp := (HB1.out.cell (p := ⟨bp, h, none⟩) HLP.out).trans HCP.out
  gi_wp2_with fail
  clear k0 k1 k2 q0 r0 rf0 s0 sf0
  have HBC := Lib.hid ((Bel.refl wb).alloc #[.slice s.p s.n s.c] 46)
  have hxs := heap_alloc_new wb (.cells #[.slice s.p s.n s.c] 46)
  have HN4S : Hid (g4 < wb.heap.size) := Lib.hid (lt_of_heap HX4.out)
  refine ⟨trivial, ?_⟩
  refine (back_in Fence.wide _ trivial rfl _ _ _ _).mono ?_
  rintro e wc' ⟨rfl, rfl⟩
  generalize wb.alloc (.cells #[.slice s.p s.n s.c] 46) = W2 at hxs HBC ⊢
  generalize wb.heap.size = Bs at hxs HN4S ⊢
  have HXS := Lib.hid hxs
  have HB1 := Lib.hid (HB1.out.trans HBC.out)
  have HX1 := Lib.hid (stays' HX1.out HBC.out)
  have HX2 := Lib.hid (stays' HX2.out HBC.out)
  have HX3 := Lib.hid (stays' HX3.out HBC.out)
  have HX4 := Lib.hid (stays' HX4.out HBC.out)
  clear hxs cp HBC
  gi_wp2_with fail
  have hg3 : g3 ≤ W2.heap.size := Nat.le_of_lt (lt_of_heap HX3.out)
  have HPOS : Hid (w.heap.size ≤ W2.heap.size) := Lib.hid HB1.out.size
  refine wpIn_rangeFunc_ownH rfl h1 (gf := 47) (lb := #[.pointer (some ⟨Bs, 0, none⟩)]) rfl trivial (enters_of Try.func47 (by kernel_rfl) rfl)
    (back_stops Fence.wide (9 - 1) trivial rfl (by omega) Bs g3 s (row m h) H8.out W2 hg3 HXS.out HR.out (by have := HG.out; have := HG3.out; omega) HB1.out) (kb_t _ _) (kb_b hg3) (Below.refl _ _) (fun _ => rfl)
    (fun pre W => ((W.heap[g1]? = some (.cells #[.slice (some ⟨bw, 0, none⟩) wn wc, .slice (some ⟨bp, 0, none⟩) pn pc, .slice rp rn rc] 27 (0, 0)) ∧ W.heap[g2]? = some (.cells #[.int .i64 (a : Int)] 3 (0, 0)) ∧ W.heap[g3]? = some (.cells #[.int .i64 0] 3 (0, 0)) ∧ W.heap[g4]? = some (.cells #[.int .i64 0] 28 (0, 0))) ∧ ∀ p ∈ pre, p.2.1 ≠ (a : Int)) ∧ Below w.heap.size w W)
    (fun c pre W => (c = .ret ∧ ∃ ini lst, pre = ini ++ [lst] ∧ (∀ p ∈ ini, p.2.1 ≠ (a : Int)) ∧ lst.2.1 = (a : Int) ∧ (W.heap[g1]? = some (.cells #[.slice (some ⟨bw, 0, none⟩) wn wc, .slice (some ⟨bp, 0, none⟩) pn pc, .slice rp rn rc] 27 (0, 0)) ∧ W.heap[g2]? = some (.cells #[.int .i64 (a : Int)] 3 (0, 0)) ∧ W.heap[g3]? = some (.cells #[.int .i64 lst.2.2] 3 (0, 0)) ∧ W.heap[g4]? = some (.cells #[.int .i64 0] 28 (0, 0)))) ∧ Below w.heap.size w W)
    (OwnFrom.and (Own.from (fun s A B row hs hg hr => ⟨⟨heap_kept hs.1.1 hg hr, heap_kept hs.1.2.1 hg hr, heap_kept hs.1.2.2.1 hg hr, heap_kept hs.1.2.2.2 hg hr⟩, hs.2⟩) _) (ownFrom_below (Nat.le_refl _) HPOS.out))
    (fun c => OwnFrom.and (Own.from (fun s A B row hs hg hr => by obtain ⟨hc, ini, lst, e1, e2, e3, e4⟩ := hs; exact ⟨hc, ini, lst, e1, e2, e3, heap_kept e4.1 hg hr, heap_kept e4.2.1 hg hr, heap_kept e4.2.2.1 hg hr, heap_kept e4.2.2.2 hg hr⟩) _) (ownFrom_below (Nat.le_refl _) HPOS.out))
    ⟨⟨⟨HX1.out, HX2.out, HX3.out, HX4.out⟩, fun p hp => (by cases hp)⟩, HB1.out⟩
    (fun x a' W => ∃ Bx, (W.heap[Bx]? = some (.cells #[.int .i64 x.2.1, .int .i64 x.2.2] 48 (0, 0))) ∧ a' = { tmps := #[.agg #[.slice (some ⟨bw, 0, none⟩) wn wc, .slice (some ⟨bp, 0, none⟩) pn pc, .slice rp rn rc], .int .i64 (h : Int), .int .i64 (a : Int), .pointer (some ⟨g1, 0, none⟩), undef, .pointer (some ⟨g2, 0, none⟩), .pointer (some ⟨g3, 0, none⟩), .pointer (some ⟨g4, 0, none⟩), undef, .pointer (some ⟨Bx, 0, none⟩), .agg #[.slice (some ⟨bw, 0, none⟩) wn wc, .slice (some ⟨bp, 0, none⟩) pn pc, .slice rp rn rc], .int .i64 (h : Int), .bool true, .bool false, .bool false, .agg #[.slice (some ⟨bw, 0, none⟩) wn wc, .slice (some ⟨bp, 0, none⟩) pn pc, .slice rp rn rc], .int .i64 (a : Int), .bool true, .bool false, .bool false, .pointer (some ⟨g1, 1, none⟩), .slice (some ⟨bp, 0, none⟩) pn pc, .int .i64 (h : Int), .pointer (some ⟨bp, h, none⟩), .slice s.p s.n s.c, .func (.func 47) #[] #[.pointer (some ⟨Bs, 0, none⟩)], .int .i64 (x.1 : Int), .agg #[.int .i64 x.2.1, .int .i64 x.2.2], undef, undef, undef, undef, undef, undef, undef, undef, undef, undef, undef], defers := [] })
    (fun x a' _ X Y row hs hg hr => by obtain ⟨Bx, h2, h3⟩ := hs; exact ⟨Bx, heap_kept h2 hg (fun r e => (hr r e).2), h3⟩)
    ?assign ?body ?done ?stop
  case assign =>
    rintro l pre x W K ⟨⟨⟨y1, y2, y3, y4⟩, hne⟩, hB⟩ hK
    gi_wp2
    have hb := (Bel.refl W).alloc #[.int .i64 x.2.1, .int .i64 x.2.2] 48
    have hlt : g3 < W.heap.size := lt_of_heap y3
    exact hK _ _ ((KeepsOthers.alloc _ _).from _) ⟨(Below.refl _ W).alloc (Nat.le_of_lt hlt) _, fun cs t fr hc => hb.stays hc⟩ ⟨⟨⟨hb.stays y1, hb.stays y2, hb.stays y3, hb.stays y4⟩, hne⟩, hB.alloc hB.size _⟩ ⟨W.heap.size, heap_alloc_new W _, rfl⟩
  case body =>
    rintro l pre x a' W hl ⟨r, hr⟩ ⟨⟨⟨y1, y2, y3, y4⟩, hne⟩, hB⟩ ⟨Bx, hx, rfl⟩ hlt
    have e0 := cell_of_heap hx 0
    have e1 := cell_of_heap hx 1
    have q0 := cell_of_heap y2 0
    have r0 := cell_of_heap y3 0
    have rf0 := frozen_of_heap y3 0
    have s0 := cell_of_heap y4 0
    have sf0 := frozen_of_heap y4 0
    simp only [List.getElem?_toArray, List.getElem?_cons_zero, List.getElem?_cons_succ] at e0 e1 q0 r0 s0
    have hn34 := HN34.out
    have hn43 := HN34.out.symm
    by_cases hxa : x.2.1 = (a : Int)
    · have hbq : (x.2.1 == (a : Int)) = true := by rw [hxa]; exact beq_self_eq_true _
      have HE := Lib.hid (⟨hxa, hne⟩ : x.2.1 = (a : Int) ∧ ∀ p ∈ pre, p.2.1 ≠ (a : Int))
      clear hxa hne
      gi_wp2
      have hs : Sv (fun k => k = g3 ∨ k = g4) W ((W.setCell ⟨g3, 0, none⟩ (.int .i64 x.2.2)).setCell ⟨g4, 0, none⟩ (.int .i64 0)) := (Sv.mono2 (Svg.set g3 0 _ _) (fun k h => .inl h)).trans (Sv.mono2 (Svg.set g4 0 _ _) (fun k h => .inr h))
      have h13 := HN13.out
      have h23 := HN23.out
      have h34 := HN3L.out
      have z1 := (hs.block g1 (lt_of_heap y1) (by omega)).trans y1
      have z2 := (hs.block g2 (lt_of_heap y2) (by omega)).trans y2
      have z3 := (Sv.block (Svg.set g4 0 _ (.int .i64 0)) g3 (lt_of_heap (heap_set y3 0 (.int .i64 x.2.2))) HN34.out).trans (heap_set y3 0 (.int .i64 x.2.2))
      have z4 := heap_set ((Sv.block (Svg.set g3 0 _ (.int .i64 x.2.2)) g4 (lt_of_heap y4) HN34.out.symm).trans y4) 0 (.int .i64 0)
      refine ⟨((KeepsOthers.setCell _ _ _).trans (KeepsOthers.setCell _ _ _)).from _, ⟨rfl, pre, x, rfl, HE.out.2, HE.out.1, z1, z2, z3, z4⟩, ?_⟩
      exact (hB.setCell (p := ⟨g3, 0, none⟩) (by have := HG.out; have := HG3.out; show w.heap.size ≤ g3; omega) _).setCell (p := ⟨g4, 0, none⟩) (by have := HG.out; have := HG4.out; show w.heap.size ≤ g4; omega) _
    · have hbq : (x.2.1 == (a : Int)) = false := beq_eq_false_iff_ne.2 hxa
      have HE := Lib.hid hxa
      clear hxa
      gi_wp2
      exact ⟨KeepsFrom.refl _ _, Kb.refl _ _ _, ⟨⟨y1, y2, y3, y4⟩, fun p hp' => (List.mem_append.1 hp').elim (hne p) (fun e => by rw [List.mem_singleton.1 e]; exact HE.out)⟩, hB⟩
  case done =>
    rintro D ys W hD rfl ⟨⟨⟨y1, y2, y3, y4⟩, hne⟩, hB⟩ hK
    have k0 := cell_of_heap y1 0
    have q0 := cell_of_heap y2 0
    have r0 := cell_of_heap y3 0
    have rf0 := frozen_of_heap y3 0
    have s0 := cell_of_heap y4 0
    have sf0 := frozen_of_heap y4 0
    simp only [List.getElem?_toArray, List.getElem?_cons_zero, List.getElem?_cons_succ] at k0 q0 r0 s0
    have cw := (Below.cell hB (p := ⟨bw, a, none⟩) HLW.out).trans HCW.out
    have hn34 := HN34.out
    have hn43 := HN34.out.symm
    have HNE := Lib.hid hne
    clear hne
    gi_wp2
    have hK' := ((KeepsOthers.setCell W ⟨g3, 0, none⟩ (.int .i64 (wordN m a))).trans (KeepsOthers.setCell _ ⟨g4, 0, none⟩ (.int .i64 0))).same D _ hK rfl
    refine ⟨by simp, .inl ⟨_, _, rfl, run_takeDeferred hK', ?_⟩⟩
    have z3 := (Sv.block (Svg.set g4 0 _ (.int .i64 0)) g3 (lt_of_heap (heap_set y3 0 (.int .i64 (wordN m a)))) HN34.out).trans (heap_set y3 0 (.int .i64 (wordN m a)))
    have z4 := heap_set ((Sv.block (Svg.set g3 0 _ (.int .i64 (wordN m a))) g4 (lt_of_heap y4) HN34.out.symm).trans y4) 0 (.int .i64 0)
    have u3 := cell_of_heap (heap_kept z3 (grownBy_putObj' _ D (.deferred none)) (fun r e => by cases e; exact ⟨_, hK', rfl⟩)) 0
    have u4 := cell_of_heap (heap_kept z4 (grownBy_putObj' _ D (.deferred none)) (fun r e => by cases e; exact ⟨_, hK', rfl⟩)) 0
    simp only [List.setIfInBounds_toArray, List.set_cons_zero, List.getElem?_toArray, List.getElem?_cons_zero] at u3 u4
    have hbb := (hB.setCell (p := ⟨g3, 0, none⟩) (by have := HG.out; have := HG3.out; show w.heap.size ≤ g3; omega) (.int .i64 (wordN m a))).setCell (p := ⟨g4, 0, none⟩) (by have := HG.out; have := HG4.out; show w.heap.size ≤ g4; omega) (.int .i64 0)
    refine ⟨.tuple #[.int .i64 (wordN m a), .int .i64 0], by simp [results, Try.f10, go_sem, u3, u4], ?_, Below.trans hbb (belowK_b (w := w) (Nat.le_refl _) _ D _ _ (by have := HPOS.out; omega) hK' rfl rfl)⟩
    have hl : loadN m h a = wordN m a := last_none fun e he => by
      obtain ⟨j, hj⟩ := List.getElem?_of_mem he
      exact HNE.out _ (bk_mem (Nat.le_refl _) (by omega) hj)
    rw [hl]
  case stop =>
    rintro D c pre W hD ⟨k, hk, rfl⟩ ⟨⟨rfl, ini, lst, e1, e2, e3, y1, y2, y3, y4⟩, hB⟩ hK
    gi_wp2
    refine ⟨by simp, .inl ⟨_, _, rfl, run_takeDeferred hK, ?_⟩⟩
    have u3 := cell_of_heap (heap_kept y3 (grownBy_putObj' _ D (.deferred none)) (fun r e => by cases e; exact ⟨_, hK, rfl⟩)) 0
    have u4 := cell_of_heap (heap_kept y4 (grownBy_putObj' _ D (.deferred none)) (fun r e => by cases e; exact ⟨_, hK, rfl⟩)) 0
    simp only [List.getElem?_toArray, List.getElem?_cons_zero] at u3 u4
    rw [upto_succ] at e1
    obtain ⟨rfl, e5⟩ := List.append_inj' e1 rfl
    obtain rfl : bk (row m h) k = lst := by simpa using e5
    refine ⟨.tuple #[.int .i64 (bk (row m h) k).2.2, .int .i64 0], by simp [results, Try.f10, go_sem, u3, u4], ?_, Below.trans hB (belowK_b (w := w) (Nat.le_refl _) W D _ _ (by have := HPOS.out; omega) hK rfl rfl)⟩
    have hj : (row m h)[(row m h).length - 1 - k]? = some (bk (row m h) k).2 := by
      unfold bk
      rw [List.getD_eq_getElem?_getD, List.getElem?_eq_getElem (by omega)]
      rfl
    have hl : loadN m h a = (bk (row m h) k).2.2 := last_at hj e3 fun i y hi hy => by
      have := (List.getElem?_eq_some_iff.1 hy).1
      exact e2 _ (bk_mem (Nat.le_of_lt hk) (by omega) hy)
    rw [hl]
theorem load_lit {w : World} {base : Nat} {v : Mv} {m : Mem} (hm : MemAt base w v m) (ho : Ok m) {h a x r : Int} (hr : loadV m h a = (x, r)) :
    Calls Try.prog 10 #[.agg #[.slice v.w.p v.w.n v.w.c, .slice v.p.p v.p.n v.p.c, .slice v.r.p v.r.n v.r.c], .int .i64 h, .int .i64 a] w fun e w' => e = .returned (.tuple #[.int .i64 x, .int .i64 r]) ∧ Bel w w' := by
  unfold loadV at hr
  cases hh : isH m h with
  | false => rw [hh] at hr; injection hr with h1 h2; rw [← h1, ← h2]; exact load_no1 hm ho hh
  | true =>
    cases hw : isW m a with
    | false => rw [hh, hw] at hr; injection hr with h1 h2; rw [← h1, ← h2]; exact load_no2 hm ho hh hw
    | true =>
      rw [hh, hw] at hr
      obtain ⟨hN, rfl⟩ : ∃ hN : Nat, h = hN := ⟨h.toNat, by have := isH_iff.1 hh; omega⟩
      obtain ⟨aN, rfl⟩ : ∃ aN : Nat, a = aN := ⟨a.toNat, by have := isW_iff.1 hw; omega⟩
      injection hr with h1 h2
      rw [← h1, ← h2]
      exact load_yes hm ho hh hw
end Go.Proofs.Ytobpoghophhphaa
