/- Drawn regions over harts in boxes: an operation taken first, a call, a store. -/
import Derived.Test.YtgcgdjmlngfpeaaDoorHBase
namespace Go.Proofs.YtgcgdjmlngfpeaaDoor
open Go.RowKit Ht
set_option linter.unusedVariables false
set_option linter.unusedSimpArgs false
section
variable {P : Program} {ops : Array Oper} {Q : Exit → Act → World → Prop} {md : Region.Mode} {T : World → Prop} {z : Nat}
/-- in whatever order: T holds behind each operation but number z -/
def Upto (P : Program) (md : Region.Mode) (ops : Array Oper) (Q : Exit → Act → World → Prop) (T : World → Prop) (z : Nat) : Nat → Array Bool → Act → World → Prop
  | 0, ls, a, w => Region.ready md ops ls = [] ∧ Q .normal a w
  | n + 1, ls, a, w => (Region.ready md ops ls = [] → Q .normal a w) ∧ ∀ i ∈ Region.ready md ops ls, wpOp P ops Q i (fun b v => (i = z ∨ T v) ∧ Upto P md ops Q T z n (ls.setIfInBounds i true) b v) a w
theorem Upto.any : ∀ (n : Nat) (ls : Array Bool) (a : Act) (w : World), Upto P md ops Q T z n ls a w → wpAny P md ops Q n ls a w := by
  intro n
  induction n with
  | zero => exact fun _ _ _ h => h
  | succ n ih => exact fun ls a w h => ⟨h.1, fun i hi => wpOp_mono (fun b v hb => ih _ b v hb.2) (h.2 i hi)⟩
theorem Upto.mono {U : World → Prop} (hU : ∀ w, U w → T w) : ∀ (n : Nat) (ls : Array Bool) (a : Act) (w : World), Upto P md ops Q U z n ls a w → Upto P md ops Q T z n ls a w := by
  intro n
  induction n with
  | zero => exact fun _ _ _ h => h
  | succ n ih => exact fun ls a w h => ⟨h.1, fun i hi => wpOp_mono (fun b v hb => ⟨hb.1.imp id (hU v), ih _ b v hb.2⟩) (h.2 i hi)⟩
/-- what waits for an operation that has not come up is not ready -/
theorem waits_not {ls : Array Bool} {i j : Nat} {oj : Oper} (hj : ops[j]? = some oj) (hi : i ∈ Region.ready md ops ls) (hw : ∃ e ∈ oj.after, Region.binds md e = true ∧ e.on = i) : j ∉ Region.ready md ops ls := fun hr => by
  obtain ⟨e, he, hb, hon⟩ := hw
  obtain ⟨_, o, ho, hall⟩ := mem_ready.1 hr
  rw [hj] at ho
  obtain rfl := Option.some.inj ho
  have h1 := hall e he hb
  have h0 := (mem_ready.1 hi).1
  rw [hon] at h1
  by_cases hs : i < ls.size
  · simp [hs] at h0 h1
    rw [h0] at h1
    cases h1
  · have : ls[i]? = none := Array.getElem?_eq_none (by omega)
    simp [this] at h1
/-- an operation may be taken first, if the last one waits for it -/
theorem Upto.first {i : Nat} {oi oz : Oper} {v : Value} (hi : ops[i]? = some oi) (hoz : ops[z]? = some oz) (hwz : ∃ e ∈ oz.after, Region.binds md e = true ∧ e.on = i) (hsel : ∀ (j : Nat) (o : Oper) cs b, ops[j]? = some o → o.op ≠ .select cs b)
    (hQ : ∀ c a w, Q (.panic c) (a.put oi.dst v) w → Q (.panic c) a w) : ∀ (n : Nat) (ls : Array Bool) (a : Act) (w : World),
      (∀ j oj, ops[j]? = some oj → j ≠ i → ls.getD j true = false → (∀ e ∈ oj.after, Region.binds md e = true → e.on ≠ i) → oi.apart ops oj = true) →
      i ∈ Region.ready md ops ls → YieldsIf P ops T oi v a → T w → Upto P md ops Q T z n (ls.setIfInBounds i true) (a.put oi.dst v) w → Upto P md ops Q T z (n + 1) ls a w := by
  intro n
  induction n with
  | zero =>
    intro ls a w _ hr hy hT H
    refine ⟨fun e => (by rw [e] at hr; cases hr), fun j hj => ?_⟩
    rcases Nat.decEq j i with hne | heq
    · have := ready_mono hj hne
      rw [H.1] at this
      cases this
    · subst heq
      exact hy.wpOp hi hT ⟨.inr hT, H⟩
  | succ n ih =>
    intro ls a w hfree hr hy hT H
    refine ⟨fun e => (by rw [e] at hr; cases hr), fun j hj => ?_⟩
    rcases Nat.decEq j i with hne | heq
    · have hjz : j ≠ z := fun e => waits_not hoz hr hwz (e ▸ hj)
      obtain ⟨hun, oj, hoj, _⟩ := mem_ready.1 hj
      have hno : ∀ e ∈ oj.after, Region.binds md e = true → e.on ≠ i := fun e he hb hon => waits_not hoj hr ⟨e, he, hb, hon⟩ hj
      have hstep := wpOp_putIf hoj (hfree j oj hoj hne hun hno) (fun cs b => hsel i oi cs b hi) (fun cs b => hsel j oj cs b hoj) hQ hy (H.2 j (ready_mono hj hne))
      refine wpOp_mono (fun b v hb => ?_) hstep
      have hTv : T v := hb.2.1.resolve_left hjz
      refine ⟨.inr hTv, ih (ls.setIfInBounds j true) b v (fun k ok hk hki hkun hkno => ?_) (ready_mono hr (Ne.symm hne)) hb.1 hTv ?_⟩
      · refine hfree k ok hk hki ?_ hkno
        by_cases hjk : j = k
        · subst hjk
          exact hun
        · rwa [getD_set_ne true hjk] at hkun
      · rw [Array.setIfInBounds_comm _ _ hne]
        exact hb.2.2
    · subst heq
      exact hy.wpOp hi hT ⟨.inr hT, H⟩
theorem Upto.take {i : Nat} {oi oz : Oper} {v : Value} {n : Nat} {ls : Array Bool} {a : Act} {w : World} (hi : ops[i]? = some oi) (hoz : ops[z]? = some oz) (hwz : (oz.after.toList.any fun e => Region.binds md e && e.on == i) = true)
    (hs : Region.noSelect ops = true) (hf : Region.free md ops ls i = true) (hr : (Region.ready md ops ls).contains i = true) (hQ : ∀ c a w, Q (.panic c) (a.put oi.dst v) w → Q (.panic c) a w) (hy : YieldsIf P ops T oi v a) (hT : T w)
    (h : Upto P md ops Q T z n (ls.setIfInBounds i true) (a.put oi.dst v) w) : Upto P md ops Q T z (n + 1) ls a w := by
  refine Upto.first hi hoz ?_ (Region.noSelect_spec hs) hQ n ls a w (Region.free_spec hi hf) (by simpa using hr) hy hT h
  obtain ⟨e, he, hb⟩ := List.any_eq_true.1 hwz
  rw [Bool.and_eq_true, beq_iff_eq] at hb
  exact ⟨e, by simpa using he, hb.1, hb.2⟩
theorem Upto.done {ls : Array Bool} {a : Act} {w : World} (hr : Region.ready md ops ls = []) (h : Q .normal a w) : ∀ n, Upto P md ops Q T z n ls a w := by
  intro n
  cases n with
  | zero => exact ⟨hr, h⟩
  | succ n => exact ⟨fun _ => h, by rw [hr]; simp⟩
/-- one that comes up -/
def Comes (P : Program) (md : Region.Mode) (ops : Array Oper) (Q : Exit → Act → World → Prop) (T : World → Prop) (z n : Nat) (ls : Array Bool) (a : Act) (w : World) (i : Nat) : Prop := wpOp P ops Q i (fun b v => (i = z ∨ T v) ∧ Upto P md ops Q T z n (ls.setIfInBounds i true) b v) a w
theorem Upto.ready {rs : List Nat} {n : Nat} {ls : Array Bool} {a : Act} {w : World} (hr : Region.ready md ops ls = rs) (hne : rs ≠ []) (h : ∀ i ∈ rs, Comes P md ops Q T z n ls a w i) : Upto P md ops Q T z (n + 1) ls a w := by
  subst hr
  exact ⟨fun e => absurd e hne, h⟩
theorem Comes.of (d : Nat) {i : Nat} {oi : Oper} {n : Nat} {ls : Array Bool} {a : Act} {w : World} (hi : ops[i]? = some oi) (hd : oi.dst = some d) (hw : Region.wanted oi (yielded ops a.tmps) = true)
    (h : ∀ K : Act → World → Prop, Shut (∀ (v : Value) (w' : World), T w' → (T w' → Upto P md ops Q T z n (ls.setIfInBounds i true) { a with tmps := a.tmps.setIfInBounds d v } w') → K (a.put oi.dst v) w') → Oper.wp P oi a w K Q) : Comes P md ops Q T z n ls a w i := by
  refine wpOp_step hi fun K hK => ?_
  rw [if_pos hw]
  exact h K (fun v w' hT hn => hK _ _ ⟨.inr hT, by rw [hd]; exact hn hT⟩)
/-- the last one: it writes no slot, and nothing is held behind it -/
theorem Comes.last {oi : Oper} {n : Nat} {ls : Array Bool} {a : Act} {w : World} (hi : ops[z]? = some oi) (hd : oi.dst = none) (hw : Region.wanted oi (yielded ops a.tmps) = true)
    (h : ∀ K : Act → World → Prop, Shut (∀ (v : Value) (w' : World), Upto P md ops Q T z n (ls.setIfInBounds z true) a w' → K a w') → Oper.wp P oi a w K Q) : Comes P md ops Q T z n ls a w z := by
  refine wpOp_step hi fun K hK => ?_
  rw [if_pos hw]
  exact h K (fun v w' hn => hK _ _ ⟨.inl rfl, hn⟩)
theorem Upto.begin {id : Nat} {a : Act} {w : World} (hm : P.follows .mixedOrders = true) (h : Upto P .any ops Q T z ops.size (Array.replicate ops.size false) a w.drew) : (Code.region id ops true).wp P Q a w :=
  wp_region_any hm (Upto.any _ _ _ _ h)
end
section
variable {P : Program} {ops : Array Oper} {Q : Exit → Act → World → Prop} {md : Region.Mode} {T : World → Prop} {z : Nat}
theorem takeU (d : Nat) {i : Nat} {oi oz : Oper} {v : Value} {n : Nat} {ls : Array Bool} {a : Act} {w : World} (hi : ops[i]? = some oi) (hd : oi.dst = some d) (hoz : ops[z]? = some oz) (hwz : (oz.after.toList.any fun e => Region.binds md e && e.on == i) = true)
    (hs : Region.noSelect ops = true) (hf : Region.free md ops ls i = true) (hr : (Region.ready md ops ls).contains i = true) (hQ : ∀ c a w, Q (.panic c) (a.put oi.dst v) w → Q (.panic c) a w) (hw : Region.wanted oi (yielded ops a.tmps) = true) (hy : ∀ w, T w → (execOp a.eval oi).run P w = .ok (.value v) w) (hT : T w)
    (h : Upto P md ops Q T z n (ls.setIfInBounds i true) { a with tmps := a.tmps.setIfInBounds d v } w) : Upto P md ops Q T z (n + 1) ls a w :=
  Upto.take hi hoz hwz hs hf hr hQ (Or.inl ⟨hw, hy⟩) hT (by rw [hd]; exact h)
theorem oneU (d : Nat) {i : Nat} {oi : Oper} {n : Nat} {ls : Array Bool} {a : Act} {w : World} (hi : ops[i]? = some oi) (hd : oi.dst = some d) (hr : Region.ready md ops ls = [i]) (hw : Region.wanted oi (yielded ops a.tmps) = true)
    (h : ∀ K : Act → World → Prop, Shut (∀ (v : Value) (w' : World), T w' → (T w' → Upto P md ops Q T z n (ls.setIfInBounds i true) { a with tmps := a.tmps.setIfInBounds d v } w') → K (a.put oi.dst v) w') → Oper.wp P oi a w K Q) : Upto P md ops Q T z (n + 1) ls a w :=
  Upto.ready hr (by simp) (fun j hj => by
    obtain rfl := List.mem_singleton.1 hj
    exact Comes.of d hi hd hw h)
theorem twoU (d1 d2 : Nat) {i1 i2 : Nat} {o1 o2 : Oper} {n : Nat} {ls : Array Bool} {a : Act} {w : World} (h1 : ops[i1]? = some o1) (h2 : ops[i2]? = some o2) (hd1 : o1.dst = some d1) (hd2 : o2.dst = some d2) (hr : Region.ready md ops ls = [i1, i2])
    (hw1 : Region.wanted o1 (yielded ops a.tmps) = true) (hw2 : Region.wanted o2 (yielded ops a.tmps) = true)
    (ha : ∀ K : Act → World → Prop, Shut (∀ (v : Value) (w' : World), T w' → (T w' → Upto P md ops Q T z n (ls.setIfInBounds i1 true) { a with tmps := a.tmps.setIfInBounds d1 v } w') → K (a.put o1.dst v) w') → Oper.wp P o1 a w K Q)
    (hb : ∀ K : Act → World → Prop, Shut (∀ (v : Value) (w' : World), T w' → (T w' → Upto P md ops Q T z n (ls.setIfInBounds i2 true) { a with tmps := a.tmps.setIfInBounds d2 v } w') → K (a.put o2.dst v) w') → Oper.wp P o2 a w K Q) : Upto P md ops Q T z (n + 1) ls a w :=
  Upto.ready hr (by simp) (fun j hj => by
    rcases List.mem_cons.1 hj with rfl | hj
    · exact Comes.of d1 h1 hd1 hw1 ha
    · obtain rfl := List.mem_singleton.1 hj
      exact Comes.of d2 h2 hd2 hw2 hb)
theorem lastU {oi : Oper} {n : Nat} {ls : Array Bool} {a : Act} {w : World} (hi : ops[z]? = some oi) (hd : oi.dst = none) (hr : Region.ready md ops ls = [z]) (hw : Region.wanted oi (yielded ops a.tmps) = true)
    (h : ∀ K : Act → World → Prop, Shut (∀ (v : Value) (w' : World), Upto P md ops Q T z n (ls.setIfInBounds z true) a w' → K a w') → Oper.wp P oi a w K Q) : Upto P md ops Q T z (n + 1) ls a w :=
  Upto.ready hr (by simp) (fun j hj => by
    obtain rfl := List.mem_singleton.1 hj
    exact Comes.last hi hd hw h)
theorem midU {i : Nat} {oi : Oper} {n : Nat} {ls : Array Bool} {a : Act} {w : World} (hi : ops[i]? = some oi) (hd : oi.dst = none) (hr : Region.ready md ops ls = [i]) (hw : Region.wanted oi (yielded ops a.tmps) = true)
    (h : ∀ K : Act → World → Prop, Shut (∀ (v : Value) (w' : World), T w' → Upto P md ops Q T z n (ls.setIfInBounds i true) a w' → K (a.put oi.dst v) w') → Oper.wp P oi a w K Q) : Upto P md ops Q T z (n + 1) ls a w :=
  Upto.ready hr (by simp) (fun j hj => by
    obtain rfl := List.mem_singleton.1 hj
    refine wpOp_step hi fun K hK => ?_
    rw [if_pos hw]
    exact h K (fun v w' hT hn => hK _ _ ⟨.inr hT, by rw [hd]; exact hn⟩))
theorem callU (d : Nat) {i : Nat} {oi : Oper} {n : Nat} {ls : Array Bool} {a : Act} {w : World} (hi : ops[i]? = some oi) (hd : oi.dst = some d) (hr : Region.ready md ops ls = [i]) (hw : Region.wanted oi (yielded ops a.tmps) = true)
    {f : FuncId} {args : Array Value} {v : Value} (hrun : (execOp a.eval oi).run P w = .ok (.enter f args) w) (hc : Calls P f args w (OneV v w)) (hT : ∀ w', Bel w w' → T w')
    (h : ∀ w', Bel w w' → Upto P md ops Q T z n (ls.setIfInBounds i true) { a with tmps := a.tmps.setIfInBounds d v } w') : Upto P md ops Q T z (n + 1) ls a w :=
  oneU d hi hd hr hw (fun K hK => by
    unfold Oper.wp
    rw [hrun, Oper.upon_enter]
    refine hc.mono fun e w'' hh => ?_
    obtain ⟨rfl, hb⟩ := hh
    exact hK.out v w'' (hT _ hb) (fun _ => h _ hb))
theorem pureU (d : Nat) {i : Nat} {oi : Oper} {n : Nat} {ls : Array Bool} {a : Act} {w : World} (hi : ops[i]? = some oi) (hd : oi.dst = some d) (hr : Region.ready md ops ls = [i]) (hw : Region.wanted oi (yielded ops a.tmps) = true)
    {v : Value} (hrun : (execOp a.eval oi).run P w = .ok (.value v) w) (hT : T w) (h : Upto P md ops Q T z n (ls.setIfInBounds i true) { a with tmps := a.tmps.setIfInBounds d v } w) : Upto P md ops Q T z (n + 1) ls a w :=
  oneU d hi hd hr hw (fun K hK => by
    unfold Oper.wp
    rw [hrun]
    exact hK.out v w hT (fun _ => h))
theorem cellU {i : Nat} {oi : Oper} {n : Nat} {ls : Array Bool} {a : Act} {w : World} (hi : ops[i]? = some oi) (hd : oi.dst = none) (hr : Region.ready md ops ls = [i]) (hw : Region.wanted oi (yielded ops a.tmps) = true)
    (ty : TypeId) (x y : Operand) (ho : oi.op = .store ty x y) (g k : Nat) (hx : a.eval x = .pointer (some ⟨g, k, none⟩)) (v : Value) (hy : a.eval y = v) {old : Value} (hc : w.cell? ⟨g, k, none⟩ = some old) (hf : w.frozen? ⟨g, k, none⟩ = false)
    (hsz : (P.info? ty).map (·.size) = some 1) (h1 : v.oneCell' = true) (hT : T (w.setCell ⟨g, k, none⟩ v)) (h : Upto P md ops Q T z n (ls.setIfInBounds i true) a (w.setCell ⟨g, k, none⟩ v)) : Upto P md ops Q T z (n + 1) ls a w :=
  midU hi hd hr hw (fun K hK => by
    unfold Oper.wp execOp
    simp only [ho, hx, hy, Instr.storeAt, Instr.sureAddr, Sem.run_bind, Sem.run_pure, Result.andThen_ok, run_storeVar_cell w g k ty v old hc hf hsz h1]
    exact hK.out _ _ hT h)
theorem cellL {oi : Oper} {n : Nat} {ls : Array Bool} {a : Act} {w : World} (hi : ops[z]? = some oi) (hd : oi.dst = none) (hr : Region.ready md ops ls = [z]) (hw : Region.wanted oi (yielded ops a.tmps) = true)
    (ty : TypeId) (x y : Operand) (ho : oi.op = .store ty x y) (g k : Nat) (hx : a.eval x = .pointer (some ⟨g, k, none⟩)) (v : Value) (hy : a.eval y = v) {old : Value} (hc : w.cell? ⟨g, k, none⟩ = some old) (hf : w.frozen? ⟨g, k, none⟩ = false)
    (hsz : (P.info? ty).map (·.size) = some 1) (h1 : v.oneCell' = true) (h : Upto P md ops Q T z n (ls.setIfInBounds z true) a (w.setCell ⟨g, k, none⟩ v)) : Upto P md ops Q T z (n + 1) ls a w :=
  lastU hi hd hr hw (fun K hK => by
    unfold Oper.wp execOp
    simp only [ho, hx, hy, Instr.storeAt, Instr.sureAddr, Sem.run_bind, Sem.run_pure, Result.andThen_ok, run_storeVar_cell w g k ty v old hc hf hsz h1]
    have h2 : K (a.put oi.dst undef) (w.setCell ⟨g, k, none⟩ v) := by rw [hd]; exact hK.out undef _ h
    exact h2)
theorem rowL {oi : Oper} {n : Nat} {ls : Array Bool} {a : Act} {w : World} (hi : ops[z]? = some oi) (hd : oi.dst = none) (hr : Region.ready md ops ls = [z]) (hw : Region.wanted oi (yielded ops a.tmps) = true)
    (ty : TypeId) (x y : Operand) (ho : oi.op = .store ty x y) (g : Nat) (cells : Array Value) (hx : a.eval x = .pointer (some ⟨g, 0, none⟩)) (hy : a.eval y = .agg cells) (t : TypeId) (old : Array Value) (hg : w.heap[g]? = some (.cells old t (0, 0)))
    (hsz : (P.info? ty).map (·.size) = some cells.size) (hold : old.size = cells.size) (h1 : cells.all (·.oneCell') = true) (h : Upto P md ops Q T z n (ls.setIfInBounds z true) a (w.setRow g cells)) : Upto P md ops Q T z (n + 1) ls a w :=
  lastU hi hd hr hw (fun K hK => wp_store_row ty x y ho g cells hx hy t old hg hsz hold h1 (by
    have := hK.out undef _ h
    rw [hd]
    exact this))
theorem rowU {i : Nat} {oi : Oper} {n : Nat} {ls : Array Bool} {a : Act} {w : World} (hi : ops[i]? = some oi) (hd : oi.dst = none) (hr : Region.ready md ops ls = [i]) (hw : Region.wanted oi (yielded ops a.tmps) = true)
    (ty : TypeId) (x y : Operand) (ho : oi.op = .store ty x y) (g : Nat) (cells : Array Value) (hx : a.eval x = .pointer (some ⟨g, 0, none⟩)) (hy : a.eval y = .agg cells) (t : TypeId) (old : Array Value) (hg : w.heap[g]? = some (.cells old t (0, 0)))
    (hsz : (P.info? ty).map (·.size) = some cells.size) (hold : old.size = cells.size) (h1 : cells.all (·.oneCell') = true) (hT : T (w.setRow g cells)) (h : Upto P md ops Q T z n (ls.setIfInBounds i true) a (w.setRow g cells)) : Upto P md ops Q T z (n + 1) ls a w :=
  midU hi hd hr hw (fun K hK => wp_store_row ty x y ho g cells hx hy t old hg hsz hold h1 (hK.out _ _ hT h))
theorem exec_row {P : Program} {o : Oper} {ρ : Operand → Value} (ty : TypeId) (x : Operand) (ho : o.op = .load ty x) (g : Nat) (hx : ρ x = .pointer (some ⟨g, 0, none⟩)) (t : TypeId) (cs : Array Value) (fr : Nat × Nat) (d : TypeDesc) {w : World} (hg : w.heap[g]? = some (.cells cs t fr))
    (hu : P.underlying ty = some d) (hd : (match d with | .struct _ | .array _ _ => true | _ => false) = true) (hi : (P.info? ty).map (·.size) = some cs.size) : (execOp ρ o).run P w = .ok (.value (.agg cs)) w := by
  unfold execOp
  simp only [ho, hx, Instr.loadAt, Instr.sureAddr, Sem.run_bind, Sem.run_pure, Result.andThen_ok, run_loadVar_row w g t ty cs fr d hg hu hd hi]
theorem exec_cell {P : Program} {o : Oper} {ρ : Operand → Value} (ty : TypeId) (x : Operand) (ho : o.op = .load ty x) (p : Addr) (hx : ρ x = .pointer (some p)) (v : Value) (d : TypeDesc) {w : World} (hc : w.cell? p = some v) (hu : P.underlying ty = some d) (hd : d.isRow = false) :
    (execOp ρ o).run P w = .ok (.value v) w := by
  unfold execOp
  simp only [ho, hx, Instr.loadAt, Instr.sureAddr, Sem.run_bind, Sem.run_pure, Result.andThen_ok, run_loadVar_cell w p ty v d hc hu hd]
end
end Go.Proofs.YtgcgdjmlngfpeaaDoor
