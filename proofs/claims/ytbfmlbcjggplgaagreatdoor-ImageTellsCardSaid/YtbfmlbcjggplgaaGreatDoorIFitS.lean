/- Where a walk of Fit stands, and how it goes on. -/
import Derived.Test.YtbfmlbcjggplgaaGreatDoorIFitP
namespace Go.Proofs.YtbfmlbcjggplgaaGreatDoor
open Go.RowKit Im
set_option linter.unusedVariables false
theorem three_new (w : World) (c0 c1 c2 : Array Value) (t0 t1 t2 : TypeId) : Bel w (((w.alloc (.cells c0 t0)).alloc (.cells c1 t1)).alloc (.cells c2 t2)) ∧
    (((w.alloc (.cells c0 t0)).alloc (.cells c1 t1)).alloc (.cells c2 t2)).heap[w.heap.size]? = some (.cells c0 t0 (0, 0)) ∧
    (((w.alloc (.cells c0 t0)).alloc (.cells c1 t1)).alloc (.cells c2 t2)).heap[w.heap.size + 1]? = some (.cells c1 t1 (0, 0)) ∧
    (((w.alloc (.cells c0 t0)).alloc (.cells c1 t1)).alloc (.cells c2 t2)).heap[w.heap.size + 1 + 1]? = some (.cells c2 t2 (0, 0)) := by
  have h0 := heap_alloc_new w (.cells c0 t0)
  have h1 := heap_alloc_new (w.alloc (.cells c0 t0)) (.cells c1 t1)
  have h2 := heap_alloc_new ((w.alloc (.cells c0 t0)).alloc (.cells c1 t1)) (.cells c2 t2)
  simp only [World.size_alloc] at h1 h2
  exact ⟨(((Bel.refl w).alloc _ _).alloc _ _).alloc _ _, (((Bel.refl _).alloc _ _).alloc _ _).stays h0, ((Bel.refl _).alloc _ _).stays h1, h2⟩
/-- where a walk of Fit stands: the raw image's box, the image that is made, its rows -/
structure FitSt (w : World) (bx b3 : Nat) (box : Array Value) (mem : Int) (vW : Value) (L : List Int) (vS : Value) (M : List Sym) (W : World) : Prop where
  bel : Bel w W
  hbx : W.heap[bx]? = some (.cells box 25 (0, 0))
  hb3 : W.heap[b3]? = some (.cells #[vW, .int .i64 mem, vS] 25 (0, 0))
  ws : ERow icell 3 1 W w.heap.size vW L
  ss : ERow scell 42 2 W w.heap.size vS M
  ne : bx ≠ b3
  lo : w.heap.size ≤ b3
theorem own_ne {α : Type} {enc : α → List Value} {t : TypeId} {k : Nat} {w : World} {base : Nat} {v : Value} {l : List α} (h : ERow enc t k w base v l) {g : Nat} {cs : Array Value} {t' : TypeId} {fr : Nat × Nat} (hg : w.heap[g]? = some (.cells cs t' fr)) (ht : t ≠ t') : v.ownBlock ≠ some g := by
  intro c
  rcases h.2 with ⟨rfl, _⟩ | ⟨g', cap, cur, rfl, hb, hgg, _⟩
  · simp [Value.ownBlock] at c
  · simp [Value.ownBlock] at c
    subst c
    rw [hgg] at hg
    injection hg with hg
    injection hg with _ h2 _
    exact ht h2
theorem own_lo {α : Type} {enc : α → List Value} {t : TypeId} {k : Nat} {w : World} {base : Nat} {v : Value} {l : List α} (h : ERow enc t k w base v l) : ∀ g, v.ownBlock = some g → base ≤ g ∧ ∃ cs fr, w.heap[g]? = some (.cells cs t fr) := by
  intro g c
  rcases h.2 with ⟨rfl, _⟩ | ⟨g', cap, cur, rfl, hb, hgg, _⟩
  · simp [Value.ownBlock] at c
  · simp [Value.ownBlock] at c
    subst c
    exact ⟨hb, _, _, hgg⟩
theorem FitSt.bel' {w : World} {bx b3 : Nat} {box : Array Value} {mem : Int} {vW vS : Value} {L : List Int} {M : List Sym} {W W' : World} (h : FitSt w bx b3 box mem vW L vS M W) (hb : Bel W W') : FitSt w bx b3 box mem vW L vS M W' :=
  ⟨h.bel.trans hb, hb.stays h.hbx, hb.stays h.hb3, h.ws.bel hb, h.ss.bel hb, h.ne, h.lo⟩
theorem heap_set_b3 {W : World} {b3 : Nat} {x0 x1 x2 : Value} {t : TypeId} (h : W.heap[b3]? = some (.cells #[x0, x1, x2] t (0, 0))) (i : Nat) (v : Value) : (W.setCell ⟨b3, i, none⟩ v).heap[b3]? = some (.cells (#[x0, x1, x2].setIfInBounds i v) t (0, 0)) := heap_setCell_same _ _ _ _ _ _ h
theorem erow_set {α : Type} {enc : α → List Value} {t : TypeId} {k : Nat} {w : World} {base : Nat} {v : Value} {l : List α} (h : ERow enc t k w base v l) {g i : Nat} (hg : v.ownBlock ≠ some g) (u : Value) : ERow enc t k (w.setCell ⟨g, i, none⟩ u) base v l := by
  refine ⟨h.1, ?_⟩
  rcases h.2 with hn | ⟨g', cap, cur, rfl, hb, hgg, rest⟩
  · exact .inl hn
  · refine .inr ⟨g', cap, cur, rfl, hb, ?_, rest⟩
    rw [heap_setCell_other _ _ _ _ (fun e => hg (by rw [e]; rfl))]
    exact hgg
/-- a word more: what the append hands back, and where the walk stands behind the store -/
theorem FitSt.word {w : World} {bx b3 : Nat} {box : Array Value} {mem : Int} {vW vS : Value} {L : List Int} {M : List Sym} {W : World} (h : FitSt w bx b3 box mem vW L vS M W) (y : Int) (hL : L.length ≤ 1000000) :
    ∃ v' W2, (Builtin.append_ #[22, 22] 22 #[vW, .slice (some ⟨W.heap.size, 0, none⟩) 1 1]).run Tryz.prog (W.alloc (.cells #[.int .i64 y] 3)) = .ok v' W2 ∧ W2.cell? ⟨b3, 0, none⟩ = some vW ∧ W2.frozen? ⟨b3, 0, none⟩ = false ∧ (∃ p c, v' = .slice p (L.length + 1) c) ∧
      (∀ (g : Nat) (cs : Array Value) (t : TypeId) (fr : Nat × Nat), W.heap[g]? = some (.cells cs t fr) → 3 ≠ t ∨ g < w.heap.size → W2.heap[g]? = some (.cells cs t fr)) ∧ FitSt w bx b3 box mem v' (L ++ [y]) vS M (W2.setCell ⟨b3, 0, none⟩ v') := by
  have h1 := h.bel' ((Bel.refl W).alloc #[.int .i64 y] 3)
  obtain ⟨v', W2, e1, e2, e3⟩ := irow_app h1.ws y W.heap.size (cell_of_heap (heap_alloc_new W _) 0) hL h1.bel.size
  have hb3 : W2.heap[b3]? = some (.cells #[vW, .int .i64 mem, vS] 25 (0, 0)) := (e3.block b3 (lt_of_heap h1.hb3) (own_ne h1.ws h1.hb3 (by decide))).trans h1.hb3
  have hbx : W2.heap[bx]? = some (.cells box 25 (0, 0)) := (e3.block bx (lt_of_heap h1.hbx) (own_ne h1.ws h1.hbx (by decide))).trans h1.hbx
  have hss : ERow scell 42 2 W2 w.heap.size vS M := h1.ss.sv e3 (fun g hg c => by
    obtain ⟨_, cs, fr, hc⟩ := own_lo h1.ss g hg
    exact own_ne h1.ws hc (by decide) c)
  have hbel : Bel w W2 := e3.bel h1.bel (fun g hg => (own_lo h1.ws g hg).1)
  refine ⟨v', W2, e1, cell_of_heap hb3 0, frozen_of_heap hb3 0, ?_, ?_, ?_⟩
  · obtain ⟨p, c, hv, _, _⟩ := ERow.form (enc := icell) (k := 1) (fun _ => rfl) e2
    exact ⟨p, c, by rw [hv, List.length_append]; rfl⟩
  · intro g cs t fr hg hor
    have hg1 := ((Bel.refl W).alloc #[.int .i64 y] 3).stays hg
    refine (e3.block g (lt_of_heap hg1) (fun c => ?_)).trans hg1
    rcases hor with ht | hlt
    · exact own_ne h1.ws hg1 ht c
    · have := (own_lo h1.ws _ c).1
      omega
  · refine ⟨hbel.setCell (p := ⟨b3, 0, none⟩) h.lo _, ?_, heap_set_b3 hb3 0 v', erow_set e2 (own_ne e2 hb3 (by decide)) _, erow_set hss (own_ne hss hb3 (by decide)) _, h.ne, h.lo⟩
    rw [heap_setCell_other _ _ _ _ (show bx ≠ b3 from h.ne)]
    exact hbx
/-- a symbol more -/
theorem FitSt.sym {w : World} {bx b3 : Nat} {box : Array Value} {mem : Int} {vW vS : Value} {L : List Int} {M : List Sym} {W : World} (h : FitSt w bx b3 box mem vW L vS M W) (x : ByteArray) (y : Int) (hM : M.length ≤ 1000000) :
    ∃ v' W2, (Builtin.append_ #[23, 23] 23 #[vS, .slice (some ⟨W.heap.size, 0, none⟩) 1 1]).run Tryz.prog (W.alloc (.cells #[.string x, .int .i64 y] 42)) = .ok v' W2 ∧ W2.cell? ⟨b3, 2, none⟩ = some vS ∧ W2.frozen? ⟨b3, 2, none⟩ = false ∧ (∃ p c, v' = .slice p (M.length + 1) c) ∧
      (∀ (g : Nat) (cs : Array Value) (t : TypeId) (fr : Nat × Nat), W.heap[g]? = some (.cells cs t fr) → 42 ≠ t ∨ g < w.heap.size → W2.heap[g]? = some (.cells cs t fr)) ∧ FitSt w bx b3 box mem vW L v' (M ++ [⟨x, y⟩]) (W2.setCell ⟨b3, 2, none⟩ v') := by
  have h1 := h.bel' ((Bel.refl W).alloc #[.string x, .int .i64 y] 42)
  obtain ⟨v', W2, e1, e2, e3⟩ := srow_app h1.ss ⟨x, y⟩ W.heap.size (cell_of_heap (heap_alloc_new W _) 0) (cell_of_heap (heap_alloc_new W _) 1) hM h1.bel.size
  have hb3 : W2.heap[b3]? = some (.cells #[vW, .int .i64 mem, vS] 25 (0, 0)) := (e3.block b3 (lt_of_heap h1.hb3) (own_ne h1.ss h1.hb3 (by decide))).trans h1.hb3
  have hbx : W2.heap[bx]? = some (.cells box 25 (0, 0)) := (e3.block bx (lt_of_heap h1.hbx) (own_ne h1.ss h1.hbx (by decide))).trans h1.hbx
  have hws : ERow icell 3 1 W2 w.heap.size vW L := h1.ws.sv e3 (fun g hg c => by
    obtain ⟨_, cs, fr, hc⟩ := own_lo h1.ws g hg
    exact own_ne h1.ss hc (by decide) c)
  have hbel : Bel w W2 := e3.bel h1.bel (fun g hg => (own_lo h1.ss g hg).1)
  refine ⟨v', W2, e1, cell_of_heap hb3 2, frozen_of_heap hb3 2, ?_, ?_, ?_⟩
  · obtain ⟨p, c, hv, _, _⟩ := ERow.form (enc := scell) (k := 2) (fun _ => rfl) e2
    exact ⟨p, c, by rw [hv, List.length_append]; rfl⟩
  · intro g cs t fr hg hor
    have hg1 := ((Bel.refl W).alloc #[.string x, .int .i64 y] 42).stays hg
    refine (e3.block g (lt_of_heap hg1) (fun c => ?_)).trans hg1
    rcases hor with ht | hlt
    · exact own_ne h1.ss hg1 ht c
    · have := (own_lo h1.ss _ c).1
      omega
  · refine ⟨hbel.setCell (p := ⟨b3, 2, none⟩) h.lo _, ?_, heap_set_b3 hb3 2 v', erow_set hws (own_ne hws hb3 (by decide)) _, erow_set e2 (own_ne e2 hb3 (by decide)) _, h.ne, h.lo⟩
    rw [heap_setCell_other _ _ _ _ (show bx ≠ b3 from h.ne)]
    exact hbx
/-- an append in a region, by its run -/
theorem wp_app {P : Program} {w w' : World} {o : Oper} {a : Act} {K : Act → World → Prop} {Q : Exit → Act → World → Prop} (s x : Operand) (t : TypeId)
    (ho : o.op = .call { callee := .builtin .append, args := #[s, x], argTypes := #[t, t] }) (sv xv r : Value) (hs : a.eval s = sv) (hx : a.eval x = xv)
    (hrun : (Builtin.append_ #[t, t] o.type #[sv, xv]).run P w = .ok r w') {d : Nat} (hd : o.dst = some d) (h : K { a with tmps := a.tmps.setIfInBounds d r } w') : Oper.wp P o a w K Q := by
  unfold Oper.wp
  simp [execOp, ho, resolve, invoke, builtin, hs, hx, hrun, Result.andThen]
  show K (a.put o.dst r) w'
  rw [hd]
  exact h
section
variable {P : Program} {ops : Array Oper} {Q : Exit → Act → World → Prop} {md : Region.Mode} {S : World → Prop}
/-- the only one that may come up, one without a slot, is carried out -/
theorem onlyN {i : Nat} {oi : Oper} {fuel : Nat} {listed : Array Bool} {a : Act} {w : World} (hi : ops[i]? = some oi) (hd : oi.dst = none) (hr : Region.ready md ops listed = [i])
    (hw : Region.wanted oi (yielded ops a.tmps) = true)
    (h : ∀ K : Act → World → Prop, Shut (∀ (v : Value) (w' : World), S w' → (S w' → wpAnyH P md ops Q S fuel (listed.setIfInBounds i true) a w') → K a w') → Oper.wp P oi a w K Q) : wpAnyH P md ops Q S (fuel + 1) listed a w := by
  refine wpAnyH_ready (rs := [i]) hr (by simp) ?_
  refine AllReadyH.cons hi (fun K hK => ?_) AllReadyH.nil
  rw [if_pos hw]
  refine h K (fun v w' hS hn => ?_)
  have := hK (a.put oi.dst v) w' hS (fun hS => by rw [hd]; exact hn hS)
  rw [hd] at this
  exact this
/-- the only one that may come up is carried out -/
theorem onlyE (d : Nat) {i : Nat} {oi : Oper} {fuel : Nat} {listed : Array Bool} {a : Act} {w : World} (hi : ops[i]? = some oi) (hd : oi.dst = some d) (hr : Region.ready md ops listed = [i])
    (hw : Region.wanted oi (yielded ops a.tmps) = true)
    (h : ∀ K : Act → World → Prop, Shut (∀ (v : Value) (w' : World), S w' → (S w' → wpAnyH P md ops Q S fuel (listed.setIfInBounds i true) { a with tmps := a.tmps.setIfInBounds d v } w') → K { a with tmps := a.tmps.setIfInBounds d v } w') → Oper.wp P oi a w K Q) : wpAnyH P md ops Q S (fuel + 1) listed a w := by
  refine wpAnyH_ready (rs := [i]) hr (by simp) ?_
  refine AllReadyH.cons hi (fun K hK => ?_) AllReadyH.nil
  rw [if_pos hw]
  refine h K (fun v w' hS hn => ?_)
  have := hK (a.put oi.dst v) w' hS (fun hS => by rw [hd]; exact hn hS)
  rw [hd] at this
  exact this
/-- two may come up: either one first -/
theorem twoE (d1 d2 : Nat) {i1 i2 : Nat} {o1 o2 : Oper} {fuel : Nat} {listed : Array Bool} {a : Act} {w : World} (h1 : ops[i1]? = some o1) (h2 : ops[i2]? = some o2) (hd1 : o1.dst = some d1) (hd2 : o2.dst = some d2) (hr : Region.ready md ops listed = [i1, i2])
    (hw1 : Region.wanted o1 (yielded ops a.tmps) = true) (hw2 : Region.wanted o2 (yielded ops a.tmps) = true)
    (ha : ∀ K : Act → World → Prop, Shut (∀ (v : Value) (w' : World), S w' → (S w' → wpAnyH P md ops Q S fuel (listed.setIfInBounds i1 true) { a with tmps := a.tmps.setIfInBounds d1 v } w') → K { a with tmps := a.tmps.setIfInBounds d1 v } w') → Oper.wp P o1 a w K Q)
    (hb : ∀ K : Act → World → Prop, Shut (∀ (v : Value) (w' : World), S w' → (S w' → wpAnyH P md ops Q S fuel (listed.setIfInBounds i2 true) { a with tmps := a.tmps.setIfInBounds d2 v } w') → K { a with tmps := a.tmps.setIfInBounds d2 v } w') → Oper.wp P o2 a w K Q) : wpAnyH P md ops Q S (fuel + 1) listed a w := by
  refine wpAnyH_ready (rs := [i1, i2]) hr (by simp) ?_
  refine AllReadyH.cons h1 (fun K hK => ?_) (AllReadyH.cons h2 (fun K hK => ?_) AllReadyH.nil)
  · rw [if_pos hw1]
    refine ha K (fun v w' hS hn => ?_)
    have := hK (a.put o1.dst v) w' hS (fun hS => by rw [hd1]; exact hn hS)
    rw [hd1] at this
    exact this
  · rw [if_pos hw2]
    refine hb K (fun v w' hS hn => ?_)
    have := hK (a.put o2.dst v) w' hS (fun hS => by rw [hd2]; exact hn hS)
    rw [hd2] at this
    exact this
end
end Go.Proofs.YtbfmlbcjggplgaaGreatDoor
