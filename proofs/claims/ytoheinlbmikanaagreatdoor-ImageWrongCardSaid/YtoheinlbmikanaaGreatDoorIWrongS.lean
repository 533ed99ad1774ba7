/- Two symbols more at once, in a row of the call's own. -/
import Derived.Test.YtoheinlbmikanaaGreatDoorIFitS
import Derived.Test.YtoheinlbmikanaaGreatDoorIWrongP
namespace Go.Proofs.YtoheinlbmikanaaGreatDoor
open Go.RowKit Im
set_option linter.unusedVariables false
theorem srow_app2 {w : World} {base : Nat} {v : Value} {l : List Sym} (h : ERow scell 45 2 w base v l) (x y : Sym) (B : Nat) (c0 : w.cell? ⟨B, 0, none⟩ = some (.string x.name)) (c1 : w.cell? ⟨B, 1, none⟩ = some (.int .i64 x.place))
    (c2 : w.cell? ⟨B, 2, none⟩ = some (.string y.name)) (c3 : w.cell? ⟨B, 3, none⟩ = some (.int .i64 y.place)) (hlen : l.length ≤ 1000000) (hbase : base ≤ w.heap.size) :
    ∃ v' w', (Builtin.append_ #[23, 23] 23 #[v, .slice (some ⟨B, 0, none⟩) 2 2]).run Tryz.prog w = .ok v' w' ∧ ERow scell 45 2 w' base v' (l ++ [x, y]) ∧ Sv (fun g => v.ownBlock = some g) w w' := by
  obtain ⟨i, hi, hz, hs, hby⟩ := info_sym
  obtain ⟨v', w', e1, e2, e3, _⟩ := append_sv (P := Tryz.prog) w base 23 23 45 i _ 2 24 Tryz.underlying23 hi hz hs hby rfl (by decide) v l.length (l.flatMap scell) h ⟨B, 0, none⟩ 2 2 (scell x ++ scell y) rfl
    (fun j u hj => by
      rw [Addr.add_lit, Nat.zero_add]
      match j, hj with
      | 0, hj => rw [← hj]; exact c0
      | 1, hj => rw [← hj]; exact c1
      | 2, hj => rw [← hj]; exact c2
      | 3, hj => rw [← hj]; exact c3
      | j + 4, hj => simp [scell] at hj) (fun u hu => by simp [scell] at hu; rcases hu with rfl | rfl | rfl | rfl <;> rfl) (by unfold maxLen; omega) (Nat.le_trans (Nat.mul_le_mul (show l.length + 2 ≤ 1000002 by omega) (Nat.le_refl 24)) (by decide)) hbase (Or.inl (by omega))
  refine ⟨v', w', e1, ?_, e3⟩
  show w'.ownsRow base 45 2 v' (l ++ [x, y]).length ((l ++ [x, y]).flatMap scell)
  rw [List.length_append]
  simpa using e2
theorem FitSt.sym2 {w : World} {bx b3 : Nat} {box : Array Value} {mem : Int} {vW vS : Value} {L : List Int} {M : List Sym} {W : World} (h : FitSt w bx b3 box mem vW L vS M W) (x : ByteArray) (y : Int) (x' : ByteArray) (y' : Int) (hM : M.length ≤ 1000000) :
    ∃ v' W2, (Builtin.append_ #[23, 23] 23 #[vS, .slice (some ⟨W.heap.size, 0, none⟩) 2 2]).run Tryz.prog (W.alloc (.cells #[.string x, .int .i64 y, .string x', .int .i64 y'] 45)) = .ok v' W2 ∧ W2.cell? ⟨b3, 2, none⟩ = some vS ∧ W2.frozen? ⟨b3, 2, none⟩ = false ∧ (∃ p c, v' = .slice p (M.length + 2) c) ∧
      (∀ (g : Nat) (cs : Array Value) (t : TypeId) (fr : Nat × Nat), W.heap[g]? = some (.cells cs t fr) → 45 ≠ t ∨ g < w.heap.size → W2.heap[g]? = some (.cells cs t fr)) ∧ FitSt w bx b3 box mem vW L v' (M ++ [⟨x, y⟩, ⟨x', y'⟩]) (W2.setCell ⟨b3, 2, none⟩ v') := by
  have h1 := h.bel' ((Bel.refl W).alloc #[.string x, .int .i64 y, .string x', .int .i64 y'] 45)
  obtain ⟨v', W2, e1, e2, e3⟩ := srow_app2 h1.ss ⟨x, y⟩ ⟨x', y'⟩ W.heap.size (cell_of_heap (heap_alloc_new W _) 0) (cell_of_heap (heap_alloc_new W _) 1) (cell_of_heap (heap_alloc_new W _) 2) (cell_of_heap (heap_alloc_new W _) 3) hM h1.bel.size
  have hb3 : W2.heap[b3]? = some (.cells #[vW, .int .i64 mem, vS] 25 (0, 0)) := (e3.block b3 (lt_of_heap h1.hb3) (own_ne h1.ss h1.hb3 (by decide))).trans h1.hb3
  have hbx : W2.heap[bx]? = some (.cells box 25 (0, 0)) := (e3.block bx (lt_of_heap h1.hbx) (own_ne h1.ss h1.hbx (by decide))).trans h1.hbx
  have hws : ERow icell 3 1 W2 w.heap.size vW L := h1.ws.sv e3 (fun g hg c => by
    obtain ⟨_, cs, fr, hc⟩ := own_lo h1.ws g hg
    exact own_ne h1.ss hc (by decide) c)
  have hbel : Bel w W2 := e3.bel h1.bel (fun g hg => (own_lo h1.ss g hg).1)
  refine ⟨v', W2, e1, cell_of_heap hb3 2, frozen_of_heap hb3 2, ?_, ?_, ?_⟩
  · obtain ⟨p, c, hv, _, _⟩ := ERow.form (enc := scell) (k := 2) (fun _ => rfl) e2
    exact ⟨p, c, by rw [hv, List.length_append]; rfl⟩
  · intro g cs t fr hg hor
    have hg1 := ((Bel.refl W).alloc #[.string x, .int .i64 y, .string x', .int .i64 y'] 45).stays hg
    refine (e3.block g (lt_of_heap hg1) (fun c => ?_)).trans hg1
    rcases hor with ht | hlt
    · exact own_ne h1.ss hg1 ht c
    · have := (own_lo h1.ss _ c).1
      omega
  · refine ⟨hbel.setCell (p := ⟨b3, 2, none⟩) h.lo _, ?_, heap_set_b3 hb3 2 v', erow_set hws (own_ne hws hb3 (by decide)) _, erow_set e2 (own_ne e2 hb3 (by decide)) _, h.ne, h.lo⟩
    rw [heap_setCell_other _ _ _ _ (show bx ≠ b3 from h.ne)]
    exact hbx
end Go.Proofs.YtoheinlbmikanaaGreatDoor
