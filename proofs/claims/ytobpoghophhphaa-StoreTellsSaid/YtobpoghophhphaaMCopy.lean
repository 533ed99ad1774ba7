/- A memory copied into rows of its own. -/
import Derived.Test.YtobpoghophhphaaMClone
namespace Go.Proofs.Ytobpoghophhphaa
open Go.RowKit Mm
set_option linter.unusedVariables false
set_option linter.unusedSimpArgs false
theorem box1 (w : World) (c : Array Value) (t : TypeId) : Bel w (w.alloc (.cells c t)) ∧ (w.alloc (.cells c t)).heap[w.heap.size]? = some (.cells c t (0, 0)) :=
  ⟨(Bel.refl w).alloc _ _, heap_alloc_new w _⟩
theorem box2 (w : World) (c : Array Value) (t : TypeId) (c' : Array Value) (t' : TypeId) : Bel w ((w.alloc (.cells c t)).alloc (.cells c' t')) ∧ ((w.alloc (.cells c t)).alloc (.cells c' t')).heap[w.heap.size]? = some (.cells c t (0, 0)) ∧ ((w.alloc (.cells c t)).alloc (.cells c' t')).heap[w.heap.size + 1]? = some (.cells c' t' (0, 0)) := by
  have h := heap_alloc_new (w.alloc (.cells c t)) (.cells c' t')
  rw [World.size_alloc] at h
  exact ⟨((Bel.refl w).alloc _ _).alloc _ _, ((Bel.refl _).alloc _ _).stays (heap_alloc_new w _), h⟩
theorem box3 (w : World) (c : Array Value) (t : TypeId) (c' : Array Value) (t' : TypeId) (d : Array Value) (u : TypeId) : Bel w (((w.alloc (.cells c t)).alloc (.cells c' t')).alloc (.cells d u)) ∧ (((w.alloc (.cells c t)).alloc (.cells c' t')).alloc (.cells d u)).heap[w.heap.size]? = some (.cells c t (0, 0)) ∧ (((w.alloc (.cells c t)).alloc (.cells c' t')).alloc (.cells d u)).heap[w.heap.size + 1]? = some (.cells c' t' (0, 0)) ∧ (((w.alloc (.cells c t)).alloc (.cells c' t')).alloc (.cells d u)).heap[w.heap.size + 1 + 1]? = some (.cells d u (0, 0)) := by
  obtain ⟨h1, h2, h3⟩ := box2 w c t c' t'
  have h := heap_alloc_new ((w.alloc (.cells c t)).alloc (.cells c' t')) (.cells d u)
  rw [World.size_alloc, World.size_alloc] at h
  have hb : Bel ((w.alloc (.cells c t)).alloc (.cells c' t')) (((w.alloc (.cells c t)).alloc (.cells c' t')).alloc (.cells d u)) := (Bel.refl _).alloc _ _
  exact ⟨h1.trans hb, hb.stays h2, hb.stays h3, h⟩
def nilS : Sl := ⟨none, 0, 0⟩
theorem make_rows (n : Nat) (hn : n ≤ 1000) (w : World) :
    (Instr.makeSlice 25 (.int .i64 (n : Int)) (.int .i64 (n : Int))).run Try.prog w = .ok (.slice (some ⟨w.heap.size, 0, none⟩) n n) (w.alloc (.cells (Array.replicate n (.slice none 0 0)) 46)) := by
  obtain ⟨i, z, hi, hz, hs, hb, hc⟩ := slTy.info
  obtain ⟨hz0, hb0⟩ : z = .slice none 0 0 ∧ i.bytes = 24 := by
    have e : Try.prog.info? 46 = some ((Try.prog.info? 46).get (by kernel_rfl)) := by kernel_rfl
    rw [e] at hi
    injection hi with hi
    subst hi
    have e2 : ((Try.prog.info? 46).get (by kernel_rfl)).zero = some (.slice none 0 0) := by kernel_rfl
    rw [e2] at hz
    injection hz with hz
    exact ⟨hz.symm, hb⟩
  subst hz0
  have := run_make (P := Try.prog) w 25 46 i (.slice none 0 0) Try.underlying25 hi hz .i64 .i64 n n (by omega) (by omega) (by rw [hb0]; omega) (by omega)
  rw [hs, Nat.mul_one, Int.toNat_natCast] at this
  rw [this]
  have e : madeCells (Value.cells (.slice none 0 0)) n = Array.replicate n (.slice none 0 0) := by
    apply Array.ext'
    rw [show Value.cells (.slice none 0 0) = #[.slice none 0 0] from rfl, toList_madeCells_one, Array.toList_replicate]
  rw [e]
theorem rep_flat {α : Type} {enc : α → List Value} {x : α} {u : Value} (hu : enc x = [u]) (n : Nat) : (List.replicate n x).flatMap enc = List.replicate n u := by
  induction n with
  | zero => rfl
  | succ n ih => rw [List.replicate_succ, List.flatMap_cons, ih, hu]; rfl
/-- a row of one thing again and again -/
theorem rep_row {α : Type} {enc : α → List Value} {x : α} {u : Value} (hu : enc x = [u]) {t : TypeId} {w : World} {base g n : Nat} (hb : base ≤ g) (hn : n ≤ maxLen) (hg : w.heap[g]? = some (.cells (Array.replicate n u) t (0, 0))) : ERow enc t 1 w base (.slice (some ⟨g, 0, none⟩) n n) (List.replicate n x) := by
  refine ⟨?_, ?_⟩
  · rw [rep_flat hu, List.length_replicate, List.length_replicate, Nat.mul_one]
  · refine .inr ⟨g, n, Array.replicate n u, by rw [List.length_replicate], hb, hg, by rw [List.length_replicate]; exact Nat.le_refl _, hn, by rw [Array.size_replicate, Nat.mul_one], ?_⟩
    rw [rep_flat hu, List.length_replicate, Nat.mul_one, Array.toList_replicate, List.take_replicate, Nat.min_self]
theorem blk_ne {α β : Type} {enc : α → List Value} {enc' : β → List Value} {t t' : TypeId} {k k' : Nat} {w w' : World} {base : Nat} {v v' : Value} {l : List α} {l' : List β} (h : ERow enc t k w base v l) (h' : ERow enc' t' k' w' w.heap.size v' l') : ∀ b, v.ownBlock = some b → v'.ownBlock ≠ some b := by
  intro b hb c
  obtain ⟨_, cs, h1⟩ := h.blk hb
  have h2 := (h'.blk c).1
  have := lt_of_heap h1
  omega
theorem results_cell1 {P : Program} {fn : Func} {p : Tmp} {ty : TypeId} (h : fn.results = #[.cell p ty]) (tmps : Array Value) (w : World) (g : Nat) (t : TypeId) (cs : Array Value) (fr : Nat × Nat) (d : TypeDesc)
    (hp : tmps.getD p undef = .pointer (some ⟨g, 0, none⟩)) (hg : w.heap[g]? = some (.cells cs t fr))
    (hu : P.underlying ty = some d) (hd : (match d with | .struct _ | .array _ _ => true | _ => false) = true) (hi : (P.info? ty).map (·.size) = some cs.size) :
    (results fn tmps).run P w = .ok (.agg cs) w := by
  have hp' : tmps[p]?.getD undef = .pointer (some ⟨g, 0, none⟩) := by simpa using hp
  simp [results, h, hp', asAddr, run_loadVar_row w g t ty cs fr d hg hu hd hi]
theorem results_cell_slot {P : Program} {fn : Func} {p q : Tmp} {ty : TypeId} (h : fn.results = #[.cell p ty, .tmp q]) (tmps : Array Value) (w : World) (g : Nat) (t : TypeId) (cs : Array Value) (fr : Nat × Nat) (d : TypeDesc) (v : Value)
    (hp : tmps.getD p undef = .pointer (some ⟨g, 0, none⟩)) (hq : tmps.getD q undef = v) (hg : w.heap[g]? = some (.cells cs t fr))
    (hu : P.underlying ty = some d) (hd : (match d with | .struct _ | .array _ _ => true | _ => false) = true) (hi : (P.info? ty).map (·.size) = some cs.size) :
    (results fn tmps).run P w = .ok (.tuple #[.agg cs, v]) w := by
  have hp' : tmps[p]?.getD undef = .pointer (some ⟨g, 0, none⟩) := by simpa using hp
  have hq' : tmps[q]?.getD undef = v := by simpa using hq
  simp [results, h, hp', hq', asAddr, run_loadVar_row w g t ty cs fr d hg hu hd hi]
theorem results_slot_cell_slot {P : Program} {fn : Func} {p q r : Tmp} {ty : TypeId} (h : fn.results = #[.tmp r, .cell p ty, .tmp q]) (tmps : Array Value) (w : World) (g : Nat) (t : TypeId) (cs : Array Value) (fr : Nat × Nat) (d : TypeDesc) (v u : Value)
    (hp : tmps.getD p undef = .pointer (some ⟨g, 0, none⟩)) (hq : tmps.getD q undef = v) (hr : tmps.getD r undef = u) (hg : w.heap[g]? = some (.cells cs t fr))
    (hu : P.underlying ty = some d) (hd : (match d with | .struct _ | .array _ _ => true | _ => false) = true) (hi : (P.info? ty).map (·.size) = some cs.size) :
    (results fn tmps).run P w = .ok (.tuple #[u, .agg cs, v]) w := by
  have hp' : tmps[p]?.getD undef = .pointer (some ⟨g, 0, none⟩) := by simpa using hp
  have hq' : tmps[q]?.getD undef = v := by simpa using hq
  have hr' : tmps[r]?.getD undef = u := by simpa using hr
  simp [results, h, hp', hq', hr', asAddr, run_loadVar_row w g t ty cs fr d hg hu hd hi]
/-- rows cloned so far -/
structure Cl (base : Nat) (wr : World) (gP n : Nat) (pend : List (List (Int × Int))) (k : Nat) (ts : List Sl) : Prop where
  len : ts.length = k
  row : ERow encS 46 1 wr base (.slice (some ⟨gP, 0, none⟩) n n) (ts ++ List.replicate (n - k) nilS)
  ro : ∀ (i : Nat) (s : Sl) (l : List (Int × Int)), ts[i]? = some s → pend[i]? = some l → ERow encE 48 2 wr base s.val l
  ap : ∀ (i j : Nat) (s t : Sl) (b : Nat), ts[i]? = some s → ts[j]? = some t → i ≠ j → s.val.ownBlock = some b → t.val.ownBlock ≠ some b
theorem Cl.step {base : Nat} {wr w' : World} {gP n : Nat} {pend : List (List (Int × Int))} {k : Nat} {ts : List Sl} (h : Cl base wr gP n pend k ts) (hp : pend.length = n) (hk : k < n) (hb : Bel wr w') (hbase : base ≤ wr.heap.size) {t : Sl} {l : List (Int × Int)} (hl : pend[k]? = some l) (ht : ERow encE 48 2 w' wr.heap.size t.val l) :
    Cl base (w'.setCell ⟨gP, k, none⟩ t.val) gP n pend (k + 1) (ts ++ [t]) := by
  have hgP : ∃ cs, wr.heap[gP]? = some (.cells cs 46 (0, 0)) := (h.row.blk rfl).2
  obtain ⟨cs, hgP⟩ := hgP
  have hgP' := hb.stays hgP
  have hset := (h.row.bel hb).set (fun _ => rfl) (j := k) (by rw [List.length_append, h.len, List.length_replicate]; omega) t t.val rfl rfl
  have hsv : Svg gP w' (w'.setCell ⟨gP, k, none⟩ t.val) := Svg.set _ _ _ _
  have get : ∀ {i : Nat} {s : Sl}, (ts ++ [t])[i]? = some s → (i < k ∧ ts[i]? = some s) ∨ (i = k ∧ s = t) := by
    intro i s hs
    have hlt := (List.getElem?_eq_some_iff.1 hs).1
    rw [List.length_append, h.len, List.length_singleton] at hlt
    by_cases hi : i < k
    · exact .inl ⟨hi, by rwa [List.getElem?_append_left (by rw [h.len]; exact hi)] at hs⟩
    · have : i = k := by omega
      subst this
      rw [List.getElem?_append_right (by rw [h.len]; exact Nat.le_refl _), h.len, Nat.sub_self] at hs
      injection hs with hs
      exact .inr ⟨rfl, hs.symm⟩
  refine ⟨by rw [List.length_append, h.len, List.length_singleton], ?_, fun i s x hs hx => ?_, fun i j s u b hs hu hij hb1 => ?_⟩
  · have e : (ts ++ List.replicate (n - k) nilS).set k t = (ts ++ [t]) ++ List.replicate (n - (k + 1)) nilS := by
      rw [List.set_append_right _ _ (by rw [h.len]; exact Nat.le_refl _), h.len, Nat.sub_self, show n - k = (n - (k + 1)) + 1 by omega, List.replicate_succ, List.set_cons_zero, List.append_assoc]
      rfl
    rw [← e]
    exact hset
  · rcases get hs with ⟨hi, h1⟩ | ⟨rfl, rfl⟩
    · exact ((h.ro i s x h1 hx).bel hb).keep hsv hgP' (by decide)
    · rw [hl] at hx
      injection hx with hx
      subst hx
      exact (ht.keep hsv hgP' (by decide)).mono hbase
  · rcases get hs with ⟨hi, h1⟩ | ⟨rfl, rfl⟩
    · rcases get hu with ⟨hj, h2⟩ | ⟨rfl, rfl⟩
      · exact h.ap i j s u b h1 h2 hij hb1
      · obtain ⟨x, hx⟩ : ∃ x, pend[i]? = some x := ⟨_, List.getElem?_eq_getElem (by omega)⟩
        exact blk_ne (h.ro i s x h1 hx) ht b hb1
    · rcases get hu with ⟨hj, h2⟩ | ⟨rfl, rfl⟩
      · obtain ⟨x, hx⟩ : ∃ x, pend[j]? = some x := ⟨_, List.getElem?_eq_getElem (by omega)⟩
        intro c
        exact blk_ne (h.ro j u x h2 hx) ht b c hb1
      · exact absurd rfl hij
end Go.Proofs.Ytobpoghophhphaa
