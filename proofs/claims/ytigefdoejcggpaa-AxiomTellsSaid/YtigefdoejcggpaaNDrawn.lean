/- Drawn regions, operation by operation; rows appended to rows. -/
import Derived.Test.YtigefdoejcggpaaNLaw0
namespace Go.Proofs.Ytigefdoejcggpaa
open Go.RowKit Ax
set_option linter.unusedVariables false
set_option linter.unusedSimpArgs false
section
variable {P : Program} {ops : Array Oper} {Q : Exit → Act → World → Prop} {md : Region.Mode} {S : World → Prop}
theorem onlyN {i : Nat} {oi : Oper} {fuel : Nat} {listed : Array Bool} {a : Act} {w : World} (hi : ops[i]? = some oi) (hd : oi.dst = none) (hr : Region.ready md ops listed = [i])
    (hw : Region.wanted oi (yielded ops a.tmps) = true)
    (h : ∀ K : Act → World → Prop, Shut (∀ (v : Value) (w' : World), S w' → (S w' → wpAnyH P md ops Q S fuel (listed.setIfInBounds i true) a w') → K (a.put oi.dst v) w') → Oper.wp P oi a w K Q) : wpAnyH P md ops Q S (fuel + 1) listed a w := by
  refine wpAnyH_ready (rs := [i]) hr (by simp) ?_
  refine AllReadyH.cons hi (fun K hK => ?_) AllReadyH.nil
  rw [if_pos hw]
  exact h K (fun v w' hS hn => hK _ _ hS (fun hS => by rw [hd]; exact hn hS))
/-- the only one that may come up is carried out -/
theorem onlyE (d : Nat) {i : Nat} {oi : Oper} {fuel : Nat} {listed : Array Bool} {a : Act} {w : World} (hi : ops[i]? = some oi) (hd : oi.dst = some d) (hr : Region.ready md ops listed = [i])
    (hw : Region.wanted oi (yielded ops a.tmps) = true)
    (h : ∀ K : Act → World → Prop, Shut (∀ (v : Value) (w' : World), S w' → (S w' → wpAnyH P md ops Q S fuel (listed.setIfInBounds i true) { a with tmps := a.tmps.setIfInBounds d v } w') → K { a with tmps := a.tmps.setIfInBounds d v } w') → Oper.wp P oi a w K Q) : wpAnyH P md ops Q S (fuel + 1) listed a w := by
  refine wpAnyH_ready (rs := [i]) hr (by simp) ?_
  refine AllReadyH.cons hi (fun K hK => ?_) AllReadyH.nil
  rw [if_pos hw]
  refine h K (fun v w' hS hn => ?_)
  have := hK (a.put oi.dst v) w' hS (fun hS => by rw [hd]; exact hn hS)
  rw [hd] at this
  exact this
/-- two may come up: either one first -/
theorem twoE (d1 d2 : Nat) {i1 i2 : Nat} {o1 o2 : Oper} {fuel : Nat} {listed : Array Bool} {a : Act} {w : World} (h1 : ops[i1]? = some o1) (h2 : ops[i2]? = some o2) (hd1 : o1.dst = some d1) (hd2 : o2.dst = some d2) (hr : Region.ready md ops listed = [i1, i2])
    (hw1 : Region.wanted o1 (yielded ops a.tmps) = true) (hw2 : Region.wanted o2 (yielded ops a.tmps) = true)
    (ha : ∀ K : Act → World → Prop, Shut (∀ (v : Value) (w' : World), S w' → (S w' → wpAnyH P md ops Q S fuel (listed.setIfInBounds i1 true) { a with tmps := a.tmps.setIfInBounds d1 v } w') → K { a with tmps := a.tmps.setIfInBounds d1 v } w') → Oper.wp P o1 a w K Q)
    (hb : ∀ K : Act → World → Prop, Shut (∀ (v : Value) (w' : World), S w' → (S w' → wpAnyH P md ops Q S fuel (listed.setIfInBounds i2 true) { a with tmps := a.tmps.setIfInBounds d2 v } w') → K { a with tmps := a.tmps.setIfInBounds d2 v } w') → Oper.wp P o2 a w K Q) : wpAnyH P md ops Q S (fuel + 1) listed a w := by
  refine wpAnyH_ready (rs := [i1, i2]) hr (by simp) ?_
  refine AllReadyH.cons h1 (fun K hK => ?_) (AllReadyH.cons h2 (fun K hK => ?_) AllReadyH.nil)
  · rw [if_pos hw1]
    refine ha K (fun v w' hS hn => ?_)
    have := hK (a.put o1.dst v) w' hS (fun hS => by rw [hd1]; exact hn hS)
    rw [hd1] at this
    exact this
  · rw [if_pos hw2]
    refine hb K (fun v w' hS hn => ?_)
    have := hK (a.put o2.dst v) w' hS (fun hS => by rw [hd2]; exact hn hS)
    rw [hd2] at this
    exact this
/-- three may come up -/
theorem threeE (d1 d2 d3 : Nat) {i1 i2 i3 : Nat} {o1 o2 o3 : Oper} {fuel : Nat} {listed : Array Bool} {a : Act} {w : World} (h1 : ops[i1]? = some o1) (h2 : ops[i2]? = some o2) (h3 : ops[i3]? = some o3) (hd1 : o1.dst = some d1) (hd2 : o2.dst = some d2) (hd3 : o3.dst = some d3) (hr : Region.ready md ops listed = [i1, i2, i3])
    (hw1 : Region.wanted o1 (yielded ops a.tmps) = true) (hw2 : Region.wanted o2 (yielded ops a.tmps) = true) (hw3 : Region.wanted o3 (yielded ops a.tmps) = true)
    (ha : ∀ K : Act → World → Prop, Shut (∀ (v : Value) (w' : World), S w' → (S w' → wpAnyH P md ops Q S fuel (listed.setIfInBounds i1 true) { a with tmps := a.tmps.setIfInBounds d1 v } w') → K { a with tmps := a.tmps.setIfInBounds d1 v } w') → Oper.wp P o1 a w K Q)
    (hb : ∀ K : Act → World → Prop, Shut (∀ (v : Value) (w' : World), S w' → (S w' → wpAnyH P md ops Q S fuel (listed.setIfInBounds i2 true) { a with tmps := a.tmps.setIfInBounds d2 v } w') → K { a with tmps := a.tmps.setIfInBounds d2 v } w') → Oper.wp P o2 a w K Q)
    (hc : ∀ K : Act → World → Prop, Shut (∀ (v : Value) (w' : World), S w' → (S w' → wpAnyH P md ops Q S fuel (listed.setIfInBounds i3 true) { a with tmps := a.tmps.setIfInBounds d3 v } w') → K { a with tmps := a.tmps.setIfInBounds d3 v } w') → Oper.wp P o3 a w K Q) : wpAnyH P md ops Q S (fuel + 1) listed a w := by
  refine wpAnyH_ready (rs := [i1, i2, i3]) hr (by simp) ?_
  refine AllReadyH.cons h1 (fun K hK => ?_) (AllReadyH.cons h2 (fun K hK => ?_) (AllReadyH.cons h3 (fun K hK => ?_) AllReadyH.nil))
  · rw [if_pos hw1]
    refine ha K (fun v w' hS hn => ?_)
    have := hK (a.put o1.dst v) w' hS (fun hS => by rw [hd1]; exact hn hS)
    rw [hd1] at this
    exact this
  · rw [if_pos hw2]
    refine hb K (fun v w' hS hn => ?_)
    have := hK (a.put o2.dst v) w' hS (fun hS => by rw [hd2]; exact hn hS)
    rw [hd2] at this
    exact this
  · rw [if_pos hw3]
    refine hc K (fun v w' hS hn => ?_)
    have := hK (a.put o3.dst v) w' hS (fun hS => by rw [hd3]; exact hn hS)
    rw [hd3] at this
    exact this
theorem appE {w w' : World} {o : Oper} {a : Act} {K : Act → World → Prop} (s x : Operand) (t : TypeId) (ho : o.op = .call { callee := .builtin .append, args := #[s, x], argTypes := #[t, t] }) (sv xv r : Value) (hs : a.eval s = sv) (hx : a.eval x = xv)
    (hrun : (Builtin.append_ #[t, t] o.type #[sv, xv]).run P w = .ok r w') (h : K (a.put o.dst r) w') : Oper.wp P o a w K Q := by
  unfold Oper.wp
  simp [execOp, ho, resolve, invoke, builtin, hs, hx, hrun, Result.andThen]
  exact h
end
/-- a clone: a row of one's own -/
theorem clone_new {α : Type} {enc : α → List Value} {k : Nat} {t T : TypeId} {bytes : Nat} (H : RowTy enc k t T bytes) {w : World} {src : Option Addr} {m c : Nat} {r : List α} (hr : r.length = m) (hs : EncAt enc k w src r) (hL : m ≤ 100000) :
    ∃ v' w', (Builtin.append_ #[t, t] t #[.slice none 0 0, .slice src m c]).run Try.prog w = .ok v' w' ∧ ERow enc T k w' w.heap.size v' r ∧ Bel w w' := by
  obtain ⟨i, z, hi, hz, hsz, hby, hzs⟩ := H.info
  by_cases h0 : r = []
  · subst h0
    have hm : m = 0 := hr.symm
    subst hm
    refine ⟨.slice none 0 0, w, ?_, ERow.nil _ _ _ _ _, Bel.refl w⟩
    have ht := H.und
    cases src <;> simp [Builtin.append_, run_underlying ht, sizeOf, typeInfo, hi, Builtin.lenOf, Builtin.firstCells, loadCells, loadCellsFrom]
  · obtain ⟨x, hx⟩ : ∃ x, r[0]? = some x := ⟨_, List.getElem?_eq_getElem (List.length_pos_iff.2 h0)⟩
    obtain ⟨b, o, rfl, hb, _⟩ := hs 0 x hx
    have hs2 : ∀ (j : Nat) (x : α), r[j]? = some x → ∀ (i : Nat) (v : Value), (enc x)[i]? = some v → w.cell? ⟨b, o + j * k + i, none⟩ = some v := fun j y hj i v hv => by
      obtain ⟨b', o', hp, _, hc⟩ := hs j y hj
      cases hp
      exact hc i v hv
    have hlt : (0 + m) * bytes ≤ 100000 * 1000 := by
      rw [Nat.zero_add]
      exact Nat.mul_le_mul hL H.small
    obtain ⟨v', w', hrun, hown, hgr, _⟩ := run_append_own (P := Try.prog) w w.heap.size t t T i z k bytes H.und hi hz hsz hby hzs H.pos (.slice none 0 0) 0 [] (World.ownsRow_nil _ _ _ _) ⟨b, o, none⟩ m c (r.flatMap enc) (by rw [flat_len H.len, hr]) (enc_news H.len hs2) (flat_one H.one r) (by unfold maxLen; omega) (by omega) (Nat.le_refl _)
    refine ⟨v', w', hrun, ?_, ⟨hgr.os, hgr.tape, hgr.output, hgr.size, fun k hk => hgr.block k hk (by simp [Value.ownBlock])⟩⟩
    rw [Nat.zero_add, List.nil_append, ← hr] at hown
    exact hown
/-- a list more -/
theorem app_list {α : Type} {enc : α → List Value} {k : Nat} {t T : TypeId} {bytes : Nat} (H : RowTy enc k t T bytes) {w : World} {base : Nat} {p : Option Addr} {n c : Nat} {l : List α} (h : ERow enc T k w base (.slice p n c) l) {src : Option Addr} {m c' : Nat} {r : List α} (hr : r.length = m) (hs : EncAt enc k w src r) (hL : l.length + m ≤ 100000) (hb : base ≤ w.heap.size) (hn : 0 < n) :
    ∃ p2 c2 w', (Builtin.append_ #[t, t] t #[.slice p n c, .slice src m c']).run Try.prog w = .ok (.slice p2 (n + m) c2) w' ∧ ERow enc T k w' base (.slice p2 (n + m) c2) (l ++ r) ∧ Sv (fun b => (Value.slice p n c).ownBlock = some b) w w' ∧ (∀ w0, Bel w0 w → base = w0.heap.size → Bel w0 w') := by
  have hnl : n = l.length := ERow.n (s := ⟨p, n, c⟩) h
  have hne : Value.slice p n c ≠ .slice none 0 0 := fun e => by injection e with _ e _; omega
  by_cases h0 : r = []
  · subst h0
    have hm : m = 0 := hr.symm
    subst hm
    have hsv : Sv (fun b => (Value.slice p n c).ownBlock = some b) w w := (Bel.refl w).sv _
    refine ⟨p, c, w, ?_, by rw [List.append_nil]; exact h, hsv, fun w0 h0 _ => h0⟩
    obtain ⟨i, z, hi, hz, hsz, hby, hzs⟩ := H.info
    have ht := H.und
    have hnc : n ≤ c := ERow.c (s := ⟨p, n, c⟩) h
    rcases h.2 with ⟨e, _⟩ | ⟨g, cap, cur, e, _, hg, _⟩
    · exact absurd e hne
    · injection e with e1 e2 e3
      subst e1
      cases src <;> simp [Builtin.append_, run_underlying ht, sizeOf, typeInfo, hi, Builtin.lenOf, Builtin.firstCells, loadCells, loadCellsFrom, hnc, storeCells]
  · obtain ⟨x, hx⟩ : ∃ x, r[0]? = some x := ⟨_, List.getElem?_eq_getElem (List.length_pos_iff.2 h0)⟩
    obtain ⟨b, o, rfl, _, _⟩ := hs 0 x hx
    obtain ⟨v', w', hrun, hown, hsv, -, -⟩ := app_more H h (b := b) (o := o) (m := m) (c := c') hr (fun j y hj i v hv => by
      obtain ⟨b', o', hp, _, hc⟩ := hs j y hj
      cases hp
      exact hc i v hv) (.inr hne) hL hb
    obtain ⟨p2, c2, hv, -, -⟩ := ERow.form H.len hown
    have e : (l ++ r).length = n + m := by rw [List.length_append, hr, hnl]
    rw [e] at hv
    subst hv
    exact ⟨p2, c2, w', hrun, hown, hsv, fun w0 h0 he => Sv.bel hsv h0 fun b hb' => by
      obtain ⟨h3, -⟩ := ERow.blk h hb'
      omega⟩
end Go.Proofs.Ytigefdoejcggpaa
