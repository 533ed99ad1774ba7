/- The document's own copy of a memory. -/
import Derived.Test.YtobpoghophhphaaMCopied
namespace Go.Proofs.Ytobpoghophhphaa
open Go.RowKit Mm
set_option linter.unusedVariables false
set_option linter.unusedSimpArgs false
section
variable {P : Program} {ops : Array Oper} {Q : Exit → Act → World → Prop} {md : Region.Mode} {S : World → Prop}
theorem onlyN {i : Nat} {oi : Oper} {fuel : Nat} {listed : Array Bool} {a : Act} {w : World} (hi : ops[i]? = some oi) (hd : oi.dst = none) (hr : Region.ready md ops listed = [i])
    (hw : Region.wanted oi (yielded ops a.tmps) = true)
    (h : ∀ K : Act → World → Prop, Shut (∀ (v : Value) (w' : World), S w' → (S w' → wpAnyH P md ops Q S fuel (listed.setIfInBounds i true) a w') → K (a.put oi.dst v) w') → Oper.wp P oi a w K Q) : wpAnyH P md ops Q S (fuel + 1) listed a w := by
  refine wpAnyH_ready (rs := [i]) hr (by simp) ?_
  refine AllReadyH.cons hi (fun K hK => ?_) AllReadyH.nil
  rw [if_pos hw]
  exact h K (fun v w' hS hn => hK _ _ hS (fun hS => by rw [hd]; exact hn hS))
/-- the only one that may come up is carried out -/
theorem onlyE (d : Nat) {i : Nat} {oi : Oper} {fuel : Nat} {listed : Array Bool} {a : Act} {w : World} (hi : ops[i]? = some oi) (hd : oi.dst = some d) (hr : Region.ready md ops listed = [i])
    (hw : Region.wanted oi (yielded ops a.tmps) = true)
    (h : ∀ K : Act → World → Prop, Shut (∀ (v : Value) (w' : World), S w' → (S w' → wpAnyH P md ops Q S fuel (listed.setIfInBounds i true) { a with tmps := a.tmps.setIfInBounds d v } w') → K { a with tmps := a.tmps.setIfInBounds d v } w') → Oper.wp P oi a w K Q) : wpAnyH P md ops Q S (fuel + 1) listed a w := by
  refine wpAnyH_ready (rs := [i]) hr (by simp) ?_
  refine AllReadyH.cons hi (fun K hK => ?_) AllReadyH.nil
  rw [if_pos hw]
  refine h K (fun v w' hS hn => ?_)
  have := hK (a.put oi.dst v) w' hS (fun hS => by rw [hd]; exact hn hS)
  rw [hd] at this
  exact this
/-- two may come up: either one first -/
theorem twoE (d1 d2 : Nat) {i1 i2 : Nat} {o1 o2 : Oper} {fuel : Nat} {listed : Array Bool} {a : Act} {w : World} (h1 : ops[i1]? = some o1) (h2 : ops[i2]? = some o2) (hd1 : o1.dst = some d1) (hd2 : o2.dst = some d2) (hr : Region.ready md ops listed = [i1, i2])
    (hw1 : Region.wanted o1 (yielded ops a.tmps) = true) (hw2 : Region.wanted o2 (yielded ops a.tmps) = true)
    (ha : ∀ K : Act → World → Prop, Shut (∀ (v : Value) (w' : World), S w' → (S w' → wpAnyH P md ops Q S fuel (listed.setIfInBounds i1 true) { a with tmps := a.tmps.setIfInBounds d1 v } w') → K { a with tmps := a.tmps.setIfInBounds d1 v } w') → Oper.wp P o1 a w K Q)
    (hb : ∀ K : Act → World → Prop, Shut (∀ (v : Value) (w' : World), S w' → (S w' → wpAnyH P md ops Q S fuel (listed.setIfInBounds i2 true) { a with tmps := a.tmps.setIfInBounds d2 v } w') → K { a with tmps := a.tmps.setIfInBounds d2 v } w') → Oper.wp P o2 a w K Q) : wpAnyH P md ops Q S (fuel + 1) listed a w := by
  refine wpAnyH_ready (rs := [i1, i2]) hr (by simp) ?_
  refine AllReadyH.cons h1 (fun K hK => ?_) (AllReadyH.cons h2 (fun K hK => ?_) AllReadyH.nil)
  · rw [if_pos hw1]
    refine ha K (fun v w' hS hn => ?_)
    have := hK (a.put o1.dst v) w' hS (fun hS => by rw [hd1]; exact hn hS)
    rw [hd1] at this
    exact this
  · rw [if_pos hw2]
    refine hb K (fun v w' hS hn => ?_)
    have := hK (a.put o2.dst v) w' hS (fun hS => by rw [hd2]; exact hn hS)
    rw [hd2] at this
    exact this
/-- three may come up -/
theorem threeE (d1 d2 d3 : Nat) {i1 i2 i3 : Nat} {o1 o2 o3 : Oper} {fuel : Nat} {listed : Array Bool} {a : Act} {w : World} (h1 : ops[i1]? = some o1) (h2 : ops[i2]? = some o2) (h3 : ops[i3]? = some o3) (hd1 : o1.dst = some d1) (hd2 : o2.dst = some d2) (hd3 : o3.dst = some d3) (hr : Region.ready md ops listed = [i1, i2, i3])
    (hw1 : Region.wanted o1 (yielded ops a.tmps) = true) (hw2 : Region.wanted o2 (yielded ops a.tmps) = true) (hw3 : Region.wanted o3 (yielded ops a.tmps) = true)
    (ha : ∀ K : Act → World → Prop, Shut (∀ (v : Value) (w' : World), S w' → (S w' → wpAnyH P md ops Q S fuel (listed.setIfInBounds i1 true) { a with tmps := a.tmps.setIfInBounds d1 v } w') → K { a with tmps := a.tmps.setIfInBounds d1 v } w') → Oper.wp P o1 a w K Q)
    (hb : ∀ K : Act → World → Prop, Shut (∀ (v : Value) (w' : World), S w' → (S w' → wpAnyH P md ops Q S fuel (listed.setIfInBounds i2 true) { a with tmps := a.tmps.setIfInBounds d2 v } w') → K { a with tmps := a.tmps.setIfInBounds d2 v } w') → Oper.wp P o2 a w K Q)
    (hc : ∀ K : Act → World → Prop, Shut (∀ (v : Value) (w' : World), S w' → (S w' → wpAnyH P md ops Q S fuel (listed.setIfInBounds i3 true) { a with tmps := a.tmps.setIfInBounds d3 v } w') → K { a with tmps := a.tmps.setIfInBounds d3 v } w') → Oper.wp P o3 a w K Q) : wpAnyH P md ops Q S (fuel + 1) listed a w := by
  refine wpAnyH_ready (rs := [i1, i2, i3]) hr (by simp) ?_
  refine AllReadyH.cons h1 (fun K hK => ?_) (AllReadyH.cons h2 (fun K hK => ?_) (AllReadyH.cons h3 (fun K hK => ?_) AllReadyH.nil))
  · rw [if_pos hw1]
    refine ha K (fun v w' hS hn => ?_)
    have := hK (a.put o1.dst v) w' hS (fun hS => by rw [hd1]; exact hn hS)
    rw [hd1] at this
    exact this
  · rw [if_pos hw2]
    refine hb K (fun v w' hS hn => ?_)
    have := hK (a.put o2.dst v) w' hS (fun hS => by rw [hd2]; exact hn hS)
    rw [hd2] at this
    exact this
  · rw [if_pos hw3]
    refine hc K (fun v w' hS hn => ?_)
    have := hK (a.put o3.dst v) w' hS (fun hS => by rw [hd3]; exact hn hS)
    rw [hd3] at this
    exact this
theorem appE {w w' : World} {o : Oper} {a : Act} {K : Act → World → Prop} (s x : Operand) (t : TypeId) (ho : o.op = .call { callee := .builtin .append, args := #[s, x], argTypes := #[t, t] }) (sv xv r : Value) (hs : a.eval s = sv) (hx : a.eval x = xv)
    (hrun : (Builtin.append_ #[t, t] o.type #[sv, xv]).run P w = .ok r w') (h : K (a.put o.dst r) w') : Oper.wp P o a w K Q := by
  unfold Oper.wp
  simp [execOp, ho, resolve, invoke, builtin, hs, hx, hrun, Result.andThen]
  exact h
end
/-- a clone: a row of one's own -/
theorem clone_new {α : Type} {enc : α → List Value} {k : Nat} {t T : TypeId} {bytes : Nat} (H : RowTy enc k t T bytes) {w : World} {src : Option Addr} {m c : Nat} {r : List α} (hr : r.length = m) (hs : EncAt enc k w src r) (hL : m ≤ 100000) :
    ∃ v' w', (Builtin.append_ #[t, t] t #[.slice none 0 0, .slice src m c]).run Try.prog w = .ok v' w' ∧ ERow enc T k w' w.heap.size v' r ∧ Bel w w' := by
  obtain ⟨i, z, hi, hz, hsz, hby, hzs⟩ := H.info
  by_cases h0 : r = []
  · subst h0
    have hm : m = 0 := hr.symm
    subst hm
    refine ⟨.slice none 0 0, w, ?_, ERow.nil _ _ _ _ _, Bel.refl w⟩
    have ht := H.und
    cases src <;> simp [Builtin.append_, run_underlying ht, sizeOf, typeInfo, hi, Builtin.lenOf, Builtin.firstCells, loadCells, loadCellsFrom]
  · obtain ⟨x, hx⟩ : ∃ x, r[0]? = some x := ⟨_, List.getElem?_eq_getElem (List.length_pos_iff.2 h0)⟩
    obtain ⟨b, o, rfl, hb, _⟩ := hs 0 x hx
    have hs2 : ∀ (j : Nat) (x : α), r[j]? = some x → ∀ (i : Nat) (v : Value), (enc x)[i]? = some v → w.cell? ⟨b, o + j * k + i, none⟩ = some v := fun j y hj i v hv => by
      obtain ⟨b', o', hp, _, hc⟩ := hs j y hj
      cases hp
      exact hc i v hv
    have hlt : (0 + m) * bytes ≤ 100000 * 1000 := by
      rw [Nat.zero_add]
      exact Nat.mul_le_mul hL H.small
    obtain ⟨v', w', hrun, hown, hgr, _⟩ := run_append_own (P := Try.prog) w w.heap.size t t T i z k bytes H.und hi hz hsz hby hzs H.pos (.slice none 0 0) 0 [] (World.ownsRow_nil _ _ _ _) ⟨b, o, none⟩ m c (r.flatMap enc) (by rw [flat_len H.len, hr]) (enc_news H.len hs2) (flat_one H.one r) (by unfold maxLen; omega) (by omega) (Nat.le_refl _)
    refine ⟨v', w', hrun, ?_, ⟨hgr.os, hgr.tape, hgr.output, hgr.size, fun k hk => hgr.block k hk (by simp [Value.ownBlock])⟩⟩
    rw [Nat.zero_add, List.nil_append, ← hr] at hown
    exact hown
/-- one thing more, of a block that lies there -/
theorem push_sl {α : Type} {enc : α → List Value} {k : Nat} {t T : TypeId} {bytes : Nat} (H : RowTy enc k t T bytes) {w : World} {base : Nat} {s : Sl} {l : List α} (h : ERow enc T k w base s.val l) {B : Nat} {cs : Array Value} {T' : TypeId} {fr : Nat × Nat} {x : α} (hh : w.heap[B]? = some (.cells cs T' fr)) (hcs : cs.toList = enc x) (hL : l.length + 1 ≤ 100000) (hb : base ≤ w.heap.size) {c1 : Nat} :
    ∃ (s' : Sl) (w' : World), (Builtin.append_ #[t, t] t #[.slice s.p s.n s.c, .slice (some ⟨B, 0, none⟩) 1 c1]).run Try.prog w = .ok (.slice s'.p s'.n s'.c) w' ∧ ERow enc T k w' base s'.val (l ++ [x]) ∧ Sv (fun b => s.val.ownBlock = some b) w w' ∧ (∀ b, s'.val.ownBlock = some b → s.val.ownBlock = some b ∨ w.heap.size ≤ b) := by
  obtain ⟨v', w', hrun, hown, hsv, -, hob⟩ := app_more H h (b := B) (o := 0) (m := 1) (c := c1) (r := [x]) rfl (fun j y hj i v hv => by
    cases j with
    | zero =>
      cases hj
      rw [cell_of_heap hh, Nat.zero_mul, Nat.zero_add, ← Array.getElem?_toList, hcs]
      exact hv
    | succ j => simp at hj) (.inl (by omega)) hL hb
  obtain ⟨p2, c2, hv, -, -⟩ := ERow.form H.len hown
  subst hv
  exact ⟨⟨p2, (l ++ [x]).length, c2⟩, w', hrun, hown, hsv, hob⟩
theorem nse {α β : Type} {enc : α → List Value} {enc' : β → List Value} {t t' : TypeId} {k k' : Nat} {w : World} {base base' : Nat} {v v' : Value} {l : List α} {l' : List β} (h : ERow enc t k w base v l) (h' : ERow enc' t' k' w base' v' l') (ht : t ≠ t') : ∀ b, v.ownBlock = some b → ¬ (v'.ownBlock = some b) := by
  intro b hb c
  obtain ⟨_, cs1, h1⟩ := h.blk hb
  obtain ⟨_, cs2, h2⟩ := h'.blk c
  rw [h1] at h2
  injection h2 with h2
  injection h2 with _ h2 _
  exact ht h2
/-- rows of harts, k of them, each in a block of its own -/
structure Pd (base : Nat) (W : World) (s : Sl) (pend : List (List (Int × Int))) (k : Nat) (ts : List Sl) : Prop where
  len : ts.length = k
  row : ERow encS 46 1 W base s.val ts
  ro : ∀ (i : Nat) (t : Sl) (l : List (Int × Int)), ts[i]? = some t → pend[i]? = some l → ERow encE 48 2 W base t.val l
  ap : ∀ (i j : Nat) (s t : Sl) (b : Nat), ts[i]? = some s → ts[j]? = some t → i ≠ j → s.val.ownBlock = some b → t.val.ownBlock ≠ some b
theorem Pd.zero (base : Nat) (W : World) (pend : List (List (Int × Int))) : Pd base W nilS pend 0 [] :=
  ⟨rfl, ERow.nil _ _ _ _ _, fun i t l h => (by simp at h), fun i j s t b h => (by simp at h)⟩
theorem Pd.step {base : Nat} {W W1 W2 : World} {s s' : Sl} {pend : List (List (Int × Int))} {k : Nat} {ts : List Sl} {t : Sl} {l : List (Int × Int)} (h : Pd base W s pend k ts) (hk : k < pend.length) (hb : Bel W W1) (hbase : base ≤ W.heap.size) (hl : pend[k]? = some l) (ht : ERow encE 48 2 W1 W.heap.size t.val l) (hrow : ERow encS 46 1 W2 base s'.val (ts ++ [t])) (hsv : Sv (fun b => s.val.ownBlock = some b) W1 W2) {g i : Nat} {cs : Array Value} {fr : Nat × Nat} {v : Value} (hg : W2.heap[g]? = some (.cells cs 27 fr)) :
    Pd base (W2.setCell ⟨g, i, none⟩ v) s' pend (k + 1) (ts ++ [t]) := by
  have hset : Svg g W2 (W2.setCell ⟨g, i, none⟩ v) := Svg.set _ _ _ _
  have hs1 := h.row.bel hb
  have get : ∀ {i : Nat} {s : Sl}, (ts ++ [t])[i]? = some s → (i < k ∧ ts[i]? = some s) ∨ (i = k ∧ s = t) := by
    intro i s hs
    have hlt := (List.getElem?_eq_some_iff.1 hs).1
    rw [List.length_append, h.len, List.length_singleton] at hlt
    by_cases hi : i < k
    · exact .inl ⟨hi, by rwa [List.getElem?_append_left (by rw [h.len]; exact hi)] at hs⟩
    · have : i = k := by omega
      subst this
      rw [List.getElem?_append_right (by rw [h.len]; exact Nat.le_refl _), h.len, Nat.sub_self] at hs
      injection hs with hs
      exact .inr ⟨rfl, hs.symm⟩
  refine ⟨by rw [List.length_append, h.len, List.length_singleton], hrow.keep hset hg (by decide), fun i u x hu hx => ?_, fun i j s u b hs hu hij hb1 => ?_⟩
  · rcases get hu with ⟨hi, h1⟩ | ⟨rfl, rfl⟩
    · have h2 := (h.ro i u x h1 hx).bel hb
      exact (h2.sv hsv (nse h2 hs1 (by decide))).keep hset hg (by decide)
    · rw [hl] at hx
      injection hx with hx
      subst hx
      exact ((ht.sv hsv (nse ht hs1 (by decide))).keep hset hg (by decide)).mono hbase
  · rcases get hs with ⟨hi, h1⟩ | ⟨rfl, rfl⟩
    · rcases get hu with ⟨hj, h2⟩ | ⟨rfl, rfl⟩
      · exact h.ap i j s u b h1 h2 hij hb1
      · obtain ⟨x, hx⟩ : ∃ x, pend[i]? = some x := ⟨_, List.getElem?_eq_getElem (by omega)⟩
        exact blk_ne (h.ro i s x h1 hx) ht b hb1
    · rcases get hu with ⟨hj, h2⟩ | ⟨rfl, rfl⟩
      · obtain ⟨x, hx⟩ : ∃ x, pend[j]? = some x := ⟨_, List.getElem?_eq_getElem (by omega)⟩
        intro c
        exact blk_ne (h.ro j u x h2 hx) ht b c hb1
      · exact absurd rfl hij
theorem ERow.at0 {α : Type} {enc : α → List Value} {t : TypeId} {k : Nat} {w : World} {base : Nat} {s : Sl} {l : List α} (h : ERow enc t k w base s.val l) (hk : ∀ x, (enc x).length = k) : EncAt enc k w s.p l := by
  obtain ⟨p, c, h1, h2, -⟩ := ERow.form hk h
  injection h1 with h1 _ _
  rw [h1]
  exact h2
set_option maxRecDepth 100000 in
set_option maxHeartbeats 4000000 in
theorem own_any {w : World} {base : Nat} {v : Mv} {m : Mem} (hm : MemAt base w v m) (ho : Ok m) :
    Calls Try.prog 34 #[.agg #[.slice v.w.p v.w.n v.w.c, .slice v.p.p v.p.n v.p.c, .slice v.r.p v.r.n v.r.c]] w fun e w' => ∃ u : Mv, e = .returned (.agg #[.slice u.w.p u.w.n u.w.c, .slice u.p.p u.p.n u.p.c, .slice u.r.p u.r.n u.r.c]) ∧ Bel w w' ∧ MemAt w.heap.size w' u m := by
  obtain ⟨hb1, hx1, hx2, hx3⟩ := box3 w #[.slice v.w.p v.w.n v.w.c, .slice v.p.p v.p.n v.p.c, .slice v.r.p v.r.n v.r.c] 27 #[.slice none 0 0, .slice none 0 0, .slice none 0 0] 27 #[.slice none 0 0, .slice none 0 0, .slice none 0 0] 27
  have HQ := Lib.hid (hm.bel hb1)
  have HO := Lib.hid ho
  have HM0 := Lib.hid hm
  clear hm ho
  go_enter Try.func34, Try.ntmps34
  go_upto_region 2 with (fail)
  generalize hWW : (((w.alloc (.cells #[.slice v.w.p v.w.n v.w.c, .slice v.p.p v.p.n v.p.c, .slice v.r.p v.r.n v.r.c] 27)).alloc (.cells #[.slice none 0 0, .slice none 0 0, .slice none 0 0] 27)).alloc (.cells #[.slice none 0 0, .slice none 0 0, .slice none 0 0] 27)) = W1 at hb1 hx1 hx2 hx3 HQ ⊢
  clear hWW
  rw [show w.heap.size + 2 = w.heap.size + 1 + 1 from rfl] at hx3
  generalize hG2 : w.heap.size + 1 = g2 at hx2 hx3 ⊢
  generalize hG3 : g2 + 1 = g3 at hx3 ⊢
  obtain ⟨g1, hG⟩ : ∃ G, w.heap.size = G := ⟨_, rfl⟩
  rw [hG] at hx1 hG2 ⊢
  have HN12 : Hid (g1 ≠ g2) := Lib.hid (by omega)
  have HN13 : Hid (g1 ≠ g3) := Lib.hid (by omega)
  have HN23 : Hid (g2 ≠ g3) := Lib.hid (by omega)
  have HG1 : Hid (w.heap.size ≤ g1) := Lib.hid (by omega)
  have HG2 : Hid (w.heap.size ≤ g2) := Lib.hid (by omega)
  have HG3 : Hid (w.heap.size ≤ g3) := Lib.hid (by omega)
  have HB := Lib.hid hb1
  have HX1 := Lib.hid hx1
  have HX2 := Lib.hid hx2
  have HX3 := Lib.hid hx3
  clear hb1 hx1 hx2 hx3 hG hG2 hG3
  have HLB : Hid (w.heap.size ≤ W1.heap.size) := Lib.hid HB.out.size
  have hrw := HQ.out.wd
  obtain ⟨pw, cw, hvw, hen, -⟩ := ERow.form (enc := encI) (k := 1) (fun _ => rfl) hrw
  simp only [Sl.val] at hvw
  obtain ⟨vw, W2, hrun, hrow, hbel⟩ := clone_new intTy (w := W1) (src := pw) (m := m.words.length) (c := cw) rfl hen (by have := HO.out.w; omega)
  rw [← hvw] at hrun
  have HRUN := Lib.hid hrun
  obtain ⟨qw, dw, rfl, -, -⟩ := ERow.form (enc := encI) (k := 1) (fun _ => rfl) hrow
  clear hrun hrw hen hvw
  have k10 := cell_of_heap HX1.out 0
  have k11 := cell_of_heap HX1.out 1
  have k12 := cell_of_heap HX1.out 2
  have k30 := cell_of_heap HX3.out 0
  have k31 := cell_of_heap HX3.out 1
  have k32 := cell_of_heap HX3.out 2
  have y30 := frozen_of_heap HX3.out 0
  have y31 := frozen_of_heap HX3.out 1
  have y32 := frozen_of_heap HX3.out 2
  simp only [List.getElem?_toArray, List.getElem?_cons_zero, List.getElem?_cons_succ] at k10 k11 k12 k30 k31 k32
  go_upto_region 3 with (at_builtin; refine wpList_app rfl (.tmp 6) (.tmp 8) 24 rfl _ _ _ (by rfl) (by rfl) HRUN.out ?_; clear k10 k11 k12 k30 k31 k32 y30 y31 y32; have hx3 := hbel.stays HX3.out; have k30 := cell_of_heap hx3 0; have y30 := frozen_of_heap hx3 0; simp only [List.getElem?_toArray, List.getElem?_cons_zero, List.getElem?_cons_succ] at k30)
  clear k30 y30
  have hs : Svg g3 W2 (W2.setCell ⟨g3, 0, none⟩ (.slice qw m.words.length dw)) := Svg.set _ _ _ _
  have hx3b : (W2.setCell ⟨g3, 0, none⟩ (.slice qw m.words.length dw)).heap[g3]? = some (.cells #[(.slice qw m.words.length dw), .slice none 0 0, .slice none 0 0] 27 (0, 0)) := heap_set (hbel.stays HX3.out) 0 (.slice qw m.words.length dw)
  generalize hWW : (W2.setCell ⟨g3, 0, none⟩ (.slice qw m.words.length dw)) = V2 at hs hx3b ⊢
  clear hWW
  have HB := Lib.hid (hs.bel (HB.out.trans hbel) HG3.out)
  have HX1 := Lib.hid ((hs.block g1 (lt_of_heap (hbel.stays HX1.out)) HN13.out).trans (hbel.stays HX1.out))
  have HX2 := Lib.hid ((hs.block g2 (lt_of_heap (hbel.stays HX2.out)) HN23.out).trans (hbel.stays HX2.out))
  have HQ := Lib.hid ((HQ.out.bel hbel).keep hs (hbel.stays HX3.out) (by decide) (by decide) (by decide))
  have HRw := Lib.hid ((hrow.mono HLB.out).keep hs (hbel.stays HX3.out) (by decide))
  have HX3 := Lib.hid hx3b
  clear hs hx3b hx3 hrow hbel HRUN
  have HLB : Hid (w.heap.size ≤ V2.heap.size) := Lib.hid HB.out.size
  have hrw := HQ.out.rs
  obtain ⟨pr, cr, hvr, hen, -⟩ := ERow.form (enc := encI) (k := 1) (fun _ => rfl) hrw
  simp only [Sl.val] at hvr
  obtain ⟨vr, W3, hrun, hrow, hbel⟩ := clone_new intTy (w := V2) (src := pr) (m := m.res.length) (c := cr) rfl hen (by have := HO.out.p4; have := HO.out.pr; omega)
  rw [← hvr] at hrun
  have HRUN := Lib.hid hrun
  obtain ⟨qr, dr, rfl, -, -⟩ := ERow.form (enc := encI) (k := 1) (fun _ => rfl) hrow
  clear hrun hrw hen hvr
  have k10 := cell_of_heap HX1.out 0
  have k11 := cell_of_heap HX1.out 1
  have k12 := cell_of_heap HX1.out 2
  have k30 := cell_of_heap HX3.out 0
  have k31 := cell_of_heap HX3.out 1
  have k32 := cell_of_heap HX3.out 2
  have y30 := frozen_of_heap HX3.out 0
  have y31 := frozen_of_heap HX3.out 1
  have y32 := frozen_of_heap HX3.out 2
  simp only [List.getElem?_toArray, List.getElem?_cons_zero, List.getElem?_cons_succ] at k10 k11 k12 k30 k31 k32
  go_upto_region 4 with (at_builtin; refine wpList_app rfl (.tmp 12) (.tmp 14) 24 rfl _ _ _ (by rfl) (by rfl) HRUN.out ?_; clear k10 k11 k12 k30 k31 k32 y30 y31 y32; have hx3 := hbel.stays HX3.out; have k30 := cell_of_heap hx3 2; have y30 := frozen_of_heap hx3 2; simp only [List.getElem?_toArray, List.getElem?_cons_zero, List.getElem?_cons_succ] at k30)
  clear k30 y30
  have hs : Svg g3 W3 (W3.setCell ⟨g3, 2, none⟩ (.slice qr m.res.length dr)) := Svg.set _ _ _ _
  have hx3b : (W3.setCell ⟨g3, 2, none⟩ (.slice qr m.res.length dr)).heap[g3]? = some (.cells #[(.slice qw m.words.length dw), .slice none 0 0, (.slice qr m.res.length dr)] 27 (0, 0)) := heap_set (hbel.stays HX3.out) 2 (.slice qr m.res.length dr)
  generalize hWW : (W3.setCell ⟨g3, 2, none⟩ (.slice qr m.res.length dr)) = V3 at hs hx3b ⊢
  clear hWW
  have HB := Lib.hid (hs.bel (HB.out.trans hbel) HG3.out)
  have HX1 := Lib.hid ((hs.block g1 (lt_of_heap (hbel.stays HX1.out)) HN13.out).trans (hbel.stays HX1.out))
  have HX2 := Lib.hid ((hs.block g2 (lt_of_heap (hbel.stays HX2.out)) HN23.out).trans (hbel.stays HX2.out))
  have HQ := Lib.hid ((HQ.out.bel hbel).keep hs (hbel.stays HX3.out) (by decide) (by decide) (by decide))
  have HNE := Lib.hid (fun b hb => blk_ne HRw.out hrow b hb)
  have HRw := Lib.hid ((HRw.out.bel hbel).keep hs (hbel.stays HX3.out) (by decide))
  have HRr := Lib.hid ((hrow.mono HLB.out).keep hs (hbel.stays HX3.out) (by decide))
  have HX3 := Lib.hid hx3b
  clear hs hx3b hx3 hrow hbel HRUN
  have HPN : Hid (v.p.n = m.pend.length) := Lib.hid HM0.out.pn
  have HPD : Hid (Pd w.heap.size V3 nilS m.pend 0 []) := Lib.hid (Pd.zero _ _ _)
  clear HQ HLB
  go_wp2
  go_loopw [4] (fun i wr => ∃ (k : Nat) (s : Sl) (ts : List Sl), k ≤ m.pend.length ∧ i = .int .i64 k ∧ Hid (Bel w wr) ∧ Hid (wr.heap[g1]? = some (.cells #[.slice v.w.p v.w.n v.w.c, .slice v.p.p v.p.n v.p.c, .slice v.r.p v.r.n v.r.c] 27 (0, 0))) ∧ Hid (wr.heap[g2]? = some (.cells #[.slice none 0 0, .slice none 0 0, .slice none 0 0] 27 (0, 0))) ∧ Hid (wr.heap[g3]? = some (.cells #[(.slice qw m.words.length dw), .slice s.p s.n s.c, (.slice qr m.res.length dr)] 27 (0, 0))) ∧ Hid (ERow encI 3 1 wr w.heap.size (.slice qw m.words.length dw) m.words) ∧ Hid (ERow encI 3 1 wr w.heap.size (.slice qr m.res.length dr) m.res) ∧ Hid (Pd w.heap.size wr s m.pend k ts)) (fun i _ => m.pend.length - (intOf i).toNat)
  case atStart => exact ⟨0, nilS, [], Nat.zero_le _, rfl, HB, HX1, HX2, HX3, HRw, HRr, HPD⟩
  case round =>
    clear HB HX1 HX2 HX3 HRw HRr HPD
    obtain ⟨k, s, ts, hk, rfl, HB, HX1, HX2, HX3, HRw, HRr, HPD⟩ := hrel
    have k11 := cell_of_heap HX1.out 1
    simp only [List.getElem?_toArray, List.getElem?_cons_zero, List.getElem?_cons_succ] at k11
    have hpn := HPN.out
    by_cases hlt : k < m.pend.length
    · have hlt2 : (k : Int) < v.p.n := by omega
      have hH : isH m (k : Int) = true := isH_iff.2 ⟨by omega, by omega⟩
      obtain ⟨bp, cs, t0, e1, hb2, hh, hle, hl2, hc, hf, hrs, hr⟩ := (HM0.out.bel HB.out).hart hH
      have HE1 := Lib.hid e1
      have HC0 := Lib.hid hc
      have HLT0 := Lib.hid (lt_of_heap hh)
      have HTR := Lib.hid hr
      have H8 : Hid ((row m (k : Int)).length ≤ 8) := Lib.hid (HO.out.p8 _ (row_mem hH))
      have HPK : Hid (m.pend[k]? = some (row m (k : Int))) := Lib.hid (by have := row_get hH; rwa [Int.toNat_natCast] at this)
      have HK4 : Hid (k < 4) := Lib.hid (by have := HO.out.p4; omega)
      have HKL := Lib.hid hlt
      have hlc : (k : Int) < v.p.c := by omega
      generalize row m (k : Int) = l0 at HTR H8 HPK
      have HT0 : Hid (l0.length = t0.n) := Lib.hid (ERow.n HTR.out).symm
      clear hb2 hh hle hc hf hrs hr hH e1 hpn
      go_upto_region 7 with (fail)
      clear k11
      refine wp_region_held_drew (S := fun _ => True) (by kernel_rfl) trivial (fun _ => ?_)
      refine takeD 24 (i := 0) (v := ?v1) rfl rfl (by kernel_rfl) (by kernel_rfl) (by kernel_rfl) (fun _ _ _ h => h) (by kernel_rfl) ?hy1 trivial ?rest1
      case hy1 => (intro w0 hSw; first | (go_simp; done) | (go_simp; with_reducible rfl))
      try simp only [List.setIfInBounds_toArray, List.set_cons_zero, List.set_cons_succ]
      refine takeD 26 (i := 2) (v := ?v2) rfl rfl (by kernel_rfl) (by kernel_rfl) (by kernel_rfl) (fun _ _ _ h => h) (by kernel_rfl) ?hy2 trivial ?rest2
      case hy2 => (intro w0 hSw; first | (go_simp; done) | (go_simp; with_reducible rfl))
      try simp only [List.setIfInBounds_toArray, List.set_cons_zero, List.set_cons_succ]
      refine takeD 28 (i := 4) (v := ?v3) rfl rfl (by kernel_rfl) (by kernel_rfl) (by kernel_rfl) (fun _ _ _ h => h) (by kernel_rfl) ?hy3 trivial ?rest3
      case hy3 => (intro w0 hSw; first | (go_simp; done) | (go_simp; with_reducible rfl))
      try simp only [List.setIfInBounds_toArray, List.set_cons_zero, List.set_cons_succ]
      refine twoE 25 27 (i1 := 1) (i2 := 3) rfl rfl rfl rfl (by kernel_rfl) (by kernel_rfl) (by kernel_rfl) (fun K hK => ?_) (fun K hK => ?_)
      · try simp only [List.setIfInBounds_toArray, List.set_cons_zero, List.set_cons_succ] at hK
        have c1 := cell_of_heap ((Bel.refl wr).drew.stays HX3.out) 1
        simp only [List.getElem?_toArray, List.getElem?_cons_zero, List.getElem?_cons_succ] at c1
        go_simp
        clear c1
        refine hK _ _ trivial (fun _ => ?_)
        clear hK K
        refine onlyE 27 (i := 3) rfl rfl (by kernel_rfl) (by kernel_rfl) (fun K hK => ?_)
        try simp only [List.setIfInBounds_toArray, List.set_cons_zero, List.set_cons_succ] at hK
        have c1 := cell_of_heap ((Bel.refl wr).drew.stays HX1.out) 1
        simp only [List.getElem?_toArray, List.getElem?_cons_zero, List.getElem?_cons_succ] at c1
        rw [HE1.out] at c1
        go_simp
        clear c1
        refine hK _ _ trivial (fun _ => ?_)
        clear hK K
        refine takeD 29 (i := 5) (v := ?v4) rfl rfl (by kernel_rfl) (by kernel_rfl) (by kernel_rfl) (fun _ _ _ h => h) (by kernel_rfl) ?hy4 trivial ?rest4
        case hy4 => (intro w0 hSw; first | (go_simp; done) | (go_simp; with_reducible rfl))
        try simp only [List.setIfInBounds_toArray, List.set_cons_zero, List.set_cons_succ]
        refine onlyE 30 (i := 6) rfl rfl (by kernel_rfl) (by kernel_rfl) (fun K hK => ?_)
        try simp only [List.setIfInBounds_toArray, List.set_cons_zero, List.set_cons_succ] at hK
        have c1 := (Bel.cell (Bel.refl wr).drew (p := ⟨bp, k, none⟩) HLT0.out).trans HC0.out
        go_simp
        clear c1
        refine hK _ _ trivial (fun _ => ?_)
        clear hK K
        refine onlyE 31 (i := 7) rfl rfl (by kernel_rfl) (by kernel_rfl) (fun K hK => ?_)
        try simp only [List.setIfInBounds_toArray, List.set_cons_zero, List.set_cons_succ] at hK
        obtain ⟨v7, w7, hr7, ho7, hb7⟩ := clone_new entTy (w := wr.drew) (src := t0.p) (m := t0.n) (c := t0.c) HT0.out (EncAt.bel (ERow.at0 (s := t0) HTR.out entTy.len) (Bel.refl wr).drew) (by have := H8.out; have := HT0.out; omega)
        obtain ⟨p7, c7, e7, -, -⟩ := ERow.form entTy.len ho7
        subst e7
        have HR7 := Lib.hid hr7
        have HO7 : Hid (ERow encE 48 2 w7 wr.heap.size (.slice p7 l0.length c7) l0) := Lib.hid ho7
        have HB7 : Hid (Bel wr w7) := Lib.hid ((Bel.refl wr).drew.trans hb7)
        clear hr7 ho7 hb7
        refine appE (.const (.slice none 0 0)) (.tmp 30) 46 rfl _ _ _ (by rfl) (by rfl) HR7.out ?_
        try simp only [List.setIfInBounds_toArray, List.set_cons_zero, List.set_cons_succ]
        refine hK _ _ trivial (fun _ => ?_)
        clear hK K
        refine onlyE 32 (i := 8) rfl rfl (by kernel_rfl) (by kernel_rfl) (fun K hK => ?_)
        try simp only [List.setIfInBounds_toArray, List.set_cons_zero, List.set_cons_succ] at hK
        go_simp
        refine hK _ _ trivial (fun _ => ?_)
        have hxb := heap_alloc_new w7 (.cells #[.slice p7 l0.length c7] 46)
        have hbb : Bel w7 (w7.alloc (.cells #[.slice p7 l0.length c7] 46)) := (Bel.refl _).alloc _ _
        generalize hWW : w7.alloc (.cells #[.slice p7 l0.length c7] 46) = wB at hxb hbb ⊢
        clear hWW
        generalize w7.heap.size = gB at hxb ⊢
        have HXB := Lib.hid hxb
        have HO7 := Lib.hid (HO7.out.bel hbb)
        have HBB := Lib.hid (HB7.out.trans hbb)
        clear hxb hbb
        clear hK K
        refine onlyE 33 (i := 9) rfl rfl (by kernel_rfl) (by kernel_rfl) (fun K hK => ?_)
        try simp only [List.setIfInBounds_toArray, List.set_cons_zero, List.set_cons_succ] at hK
        obtain ⟨s', w9, hr9, ho9, hs9, hn9⟩ := push_sl slTy (HPD.out.row.bel HBB.out) (x := (⟨p7, l0.length, c7⟩ : Sl)) HXB.out rfl (by rw [HPD.out.len]; have := HK4.out; omega) (by have := HB.out.size; have := HBB.out.size; omega) (c1 := 1)
        have HR9 := Lib.hid hr9
        have HO9 := Lib.hid ho9
        have HS9 := Lib.hid hs9
        clear hr9 ho9 hs9 hn9
        refine appE (.tmp 25) (.tmp 32) 25 rfl _ _ _ (by rfl) (by rfl) HR9.out ?_
        try simp only [List.setIfInBounds_toArray, List.set_cons_zero, List.set_cons_succ]
        refine hK _ _ trivial (fun _ => ?_)
        clear hK K
        refine takeD 34 (i := 10) (v := ?v5) rfl rfl (by kernel_rfl) (by kernel_rfl) (by kernel_rfl) (fun _ _ _ h => h) (by kernel_rfl) ?hy5 trivial ?rest5
        case hy5 => (intro w0 hSw; first | (go_simp; done) | (go_simp; with_reducible rfl))
        try simp only [List.setIfInBounds_toArray, List.set_cons_zero, List.set_cons_succ]
        refine onlyN (i := 11) rfl rfl (by kernel_rfl) (by kernel_rfl) (fun K hK => ?_)
        have HX9 : Hid (w9.heap[g3]? = some (.cells #[(.slice qw m.words.length dw), .slice s.p s.n s.c, (.slice qr m.res.length dr)] 27 (0, 0))) := Lib.hid ((HS9.out.block g3 (lt_of_heap (HBB.out.stays HX3.out)) (fun c => by obtain ⟨_, cs2, h2⟩ := (HPD.out.row.bel HBB.out).blk c; rw [HBB.out.stays HX3.out] at h2; injection h2 with h2; injection h2 with _ h2 _; exact absurd h2 (by decide))).trans (HBB.out.stays HX3.out))
        have c1 := cell_of_heap HX9.out 1
        have y1 := frozen_of_heap HX9.out 1
        simp only [List.getElem?_toArray, List.getElem?_cons_zero, List.getElem?_cons_succ] at c1
        go_simp
        clear c1 y1
        refine hK undef _ trivial (fun _ => ?_)
        clear hK K
        refine wpAnyH_done (by kernel_rfl) ?_ _
        have hs : Svg g3 w9 (w9.setCell ⟨g3, 1, none⟩ (.slice s'.p s'.n s'.c)) := Svg.set _ _ _ _
        have h9 : ∀ (g : Nat) (cs : Array Value), wr.heap[g]? = some (.cells cs 27 (0, 0)) → 27 ≠ 46 → w9.heap[g]? = some (.cells cs 27 (0, 0)) := fun g cs hg hne => (HS9.out.block g (lt_of_heap (HBB.out.stays hg)) (fun c => by obtain ⟨_, cs2, h2⟩ := (HPD.out.row.bel HBB.out).blk c; rw [HBB.out.stays hg] at h2; injection h2 with h2; injection h2 with _ h2 _; exact hne h2)).trans (HBB.out.stays hg)
        have HX19 := Lib.hid ((hs.block g1 (lt_of_heap (h9 g1 _ HX1.out (by decide))) HN13.out).trans (h9 g1 _ HX1.out (by decide)))
        have HX29 := Lib.hid ((hs.block g2 (lt_of_heap (h9 g2 _ HX2.out (by decide))) HN23.out).trans (h9 g2 _ HX2.out (by decide)))
        have hx3 := heap_set HX9.out 1 (.slice s'.p s'.n s'.c)
        have hpd := HPD.out.step HKL.out HBB.out HB.out.size HPK.out (t := ⟨p7, l0.length, c7⟩) HO7.out HO9.out HS9.out (g := g3) (i := 1) (v := .slice s'.p s'.n s'.c) HX9.out
        have hrw := ((HRw.out.bel HBB.out).sv HS9.out (nse (HRw.out.bel HBB.out) (HPD.out.row.bel HBB.out) (by decide))).keep hs HX9.out (by decide)
        have hrr := ((HRr.out.bel HBB.out).sv HS9.out (nse (HRr.out.bel HBB.out) (HPD.out.row.bel HBB.out) (by decide))).keep hs HX9.out (by decide)
        have hbw : Bel w (w9.setCell ⟨g3, 1, none⟩ (.slice s'.p s'.n s'.c)) := hs.bel (Sv.bel HS9.out (HB.out.trans HBB.out) (fun b hb => by have := ((HPD.out.row.bel HBB.out).blk hb).1; omega)) HG3.out
        have HX39 := Lib.hid hx3
        have HPD9 := Lib.hid hpd
        have HRw9 := Lib.hid hrw
        have HRr9 := Lib.hid hrr
        have HBW := Lib.hid hbw
        clear hx3 hpd hrw hrr hbw h9 hs
        have hk4 : k < 4 := HK4.out
        go_wp2
        exact ⟨⟨k + 1, s', ts ++ [_], by have := HKL.out; omega, by go_num, HBW, HX19, HX29, HX39, HRw9, HRr9, HPD9⟩, by have := HKL.out; simp [intOf]; omega⟩
      · try simp only [List.setIfInBounds_toArray, List.set_cons_zero, List.set_cons_succ] at hK
        have c1 := cell_of_heap ((Bel.refl wr).drew.stays HX1.out) 1
        simp only [List.getElem?_toArray, List.getElem?_cons_zero, List.getElem?_cons_succ] at c1
        rw [HE1.out] at c1
        go_simp
        clear c1
        refine hK _ _ trivial (fun _ => ?_)
        clear hK K
        refine takeD 29 (i := 5) (v := ?v6) rfl rfl (by kernel_rfl) (by kernel_rfl) (by kernel_rfl) (fun _ _ _ h => h) (by kernel_rfl) ?hy6 trivial ?rest6
        case hy6 => (intro w0 hSw; first | (go_simp; done) | (go_simp; with_reducible rfl))
        try simp only [List.setIfInBounds_toArray, List.set_cons_zero, List.set_cons_succ]
        refine twoE 25 30 (i1 := 1) (i2 := 6) rfl rfl rfl rfl (by kernel_rfl) (by kernel_rfl) (by kernel_rfl) (fun K hK => ?_) (fun K hK => ?_)
        · try simp only [List.setIfInBounds_toArray, List.set_cons_zero, List.set_cons_succ] at hK
          have c1 := cell_of_heap ((Bel.refl wr).drew.stays HX3.out) 1
          simp only [List.getElem?_toArray, List.getElem?_cons_zero, List.getElem?_cons_succ] at c1
          go_simp
          clear c1
          refine hK _ _ trivial (fun _ => ?_)
          clear hK K
          refine onlyE 30 (i := 6) rfl rfl (by kernel_rfl) (by kernel_rfl) (fun K hK => ?_)
          try simp only [List.setIfInBounds_toArray, List.set_cons_zero, List.set_cons_succ] at hK
          have c1 := (Bel.cell (Bel.refl wr).drew (p := ⟨bp, k, none⟩) HLT0.out).trans HC0.out
          go_simp
          clear c1
          refine hK _ _ trivial (fun _ => ?_)
          clear hK K
          refine onlyE 31 (i := 7) rfl rfl (by kernel_rfl) (by kernel_rfl) (fun K hK => ?_)
          try simp only [List.setIfInBounds_toArray, List.set_cons_zero, List.set_cons_succ] at hK
          obtain ⟨v7, w7, hr7, ho7, hb7⟩ := clone_new entTy (w := wr.drew) (src := t0.p) (m := t0.n) (c := t0.c) HT0.out (EncAt.bel (ERow.at0 (s := t0) HTR.out entTy.len) (Bel.refl wr).drew) (by have := H8.out; have := HT0.out; omega)
          obtain ⟨p7, c7, e7, -, -⟩ := ERow.form entTy.len ho7
          subst e7
          have HR7 := Lib.hid hr7
          have HO7 : Hid (ERow encE 48 2 w7 wr.heap.size (.slice p7 l0.length c7) l0) := Lib.hid ho7
          have HB7 : Hid (Bel wr w7) := Lib.hid ((Bel.refl wr).drew.trans hb7)
          clear hr7 ho7 hb7
          refine appE (.const (.slice none 0 0)) (.tmp 30) 46 rfl _ _ _ (by rfl) (by rfl) HR7.out ?_
          try simp only [List.setIfInBounds_toArray, List.set_cons_zero, List.set_cons_succ]
          refine hK _ _ trivial (fun _ => ?_)
          clear hK K
          refine onlyE 32 (i := 8) rfl rfl (by kernel_rfl) (by kernel_rfl) (fun K hK => ?_)
          try simp only [List.setIfInBounds_toArray, List.set_cons_zero, List.set_cons_succ] at hK
          go_simp
          refine hK _ _ trivial (fun _ => ?_)
          have hxb := heap_alloc_new w7 (.cells #[.slice p7 l0.length c7] 46)
          have hbb : Bel w7 (w7.alloc (.cells #[.slice p7 l0.length c7] 46)) := (Bel.refl _).alloc _ _
          generalize hWW : w7.alloc (.cells #[.slice p7 l0.length c7] 46) = wB at hxb hbb ⊢
          clear hWW
          generalize w7.heap.size = gB at hxb ⊢
          have HXB := Lib.hid hxb
          have HO7 := Lib.hid (HO7.out.bel hbb)
          have HBB := Lib.hid (HB7.out.trans hbb)
          clear hxb hbb
          clear hK K
          refine onlyE 33 (i := 9) rfl rfl (by kernel_rfl) (by kernel_rfl) (fun K hK => ?_)
          try simp only [List.setIfInBounds_toArray, List.set_cons_zero, List.set_cons_succ] at hK
          obtain ⟨s', w9, hr9, ho9, hs9, hn9⟩ := push_sl slTy (HPD.out.row.bel HBB.out) (x := (⟨p7, l0.length, c7⟩ : Sl)) HXB.out rfl (by rw [HPD.out.len]; have := HK4.out; omega) (by have := HB.out.size; have := HBB.out.size; omega) (c1 := 1)
          have HR9 := Lib.hid hr9
          have HO9 := Lib.hid ho9
          have HS9 := Lib.hid hs9
          clear hr9 ho9 hs9 hn9
          refine appE (.tmp 25) (.tmp 32) 25 rfl _ _ _ (by rfl) (by rfl) HR9.out ?_
          try simp only [List.setIfInBounds_toArray, List.set_cons_zero, List.set_cons_succ]
          refine hK _ _ trivial (fun _ => ?_)
          clear hK K
          refine takeD 34 (i := 10) (v := ?v7) rfl rfl (by kernel_rfl) (by kernel_rfl) (by kernel_rfl) (fun _ _ _ h => h) (by kernel_rfl) ?hy7 trivial ?rest7
          case hy7 => (intro w0 hSw; first | (go_simp; done) | (go_simp; with_reducible rfl))
          try simp only [List.setIfInBounds_toArray, List.set_cons_zero, List.set_cons_succ]
          refine onlyN (i := 11) rfl rfl (by kernel_rfl) (by kernel_rfl) (fun K hK => ?_)
          have HX9 : Hid (w9.heap[g3]? = some (.cells #[(.slice qw m.words.length dw), .slice s.p s.n s.c, (.slice qr m.res.length dr)] 27 (0, 0))) := Lib.hid ((HS9.out.block g3 (lt_of_heap (HBB.out.stays HX3.out)) (fun c => by obtain ⟨_, cs2, h2⟩ := (HPD.out.row.bel HBB.out).blk c; rw [HBB.out.stays HX3.out] at h2; injection h2 with h2; injection h2 with _ h2 _; exact absurd h2 (by decide))).trans (HBB.out.stays HX3.out))
          have c1 := cell_of_heap HX9.out 1
          have y1 := frozen_of_heap HX9.out 1
          simp only [List.getElem?_toArray, List.getElem?_cons_zero, List.getElem?_cons_succ] at c1
          go_simp
          clear c1 y1
          refine hK undef _ trivial (fun _ => ?_)
          clear hK K
          refine wpAnyH_done (by kernel_rfl) ?_ _
          have hs : Svg g3 w9 (w9.setCell ⟨g3, 1, none⟩ (.slice s'.p s'.n s'.c)) := Svg.set _ _ _ _
          have h9 : ∀ (g : Nat) (cs : Array Value), wr.heap[g]? = some (.cells cs 27 (0, 0)) → 27 ≠ 46 → w9.heap[g]? = some (.cells cs 27 (0, 0)) := fun g cs hg hne => (HS9.out.block g (lt_of_heap (HBB.out.stays hg)) (fun c => by obtain ⟨_, cs2, h2⟩ := (HPD.out.row.bel HBB.out).blk c; rw [HBB.out.stays hg] at h2; injection h2 with h2; injection h2 with _ h2 _; exact hne h2)).trans (HBB.out.stays hg)
          have HX19 := Lib.hid ((hs.block g1 (lt_of_heap (h9 g1 _ HX1.out (by decide))) HN13.out).trans (h9 g1 _ HX1.out (by decide)))
          have HX29 := Lib.hid ((hs.block g2 (lt_of_heap (h9 g2 _ HX2.out (by decide))) HN23.out).trans (h9 g2 _ HX2.out (by decide)))
          have hx3 := heap_set HX9.out 1 (.slice s'.p s'.n s'.c)
          have hpd := HPD.out.step HKL.out HBB.out HB.out.size HPK.out (t := ⟨p7, l0.length, c7⟩) HO7.out HO9.out HS9.out (g := g3) (i := 1) (v := .slice s'.p s'.n s'.c) HX9.out
          have hrw := ((HRw.out.bel HBB.out).sv HS9.out (nse (HRw.out.bel HBB.out) (HPD.out.row.bel HBB.out) (by decide))).keep hs HX9.out (by decide)
          have hrr := ((HRr.out.bel HBB.out).sv HS9.out (nse (HRr.out.bel HBB.out) (HPD.out.row.bel HBB.out) (by decide))).keep hs HX9.out (by decide)
          have hbw : Bel w (w9.setCell ⟨g3, 1, none⟩ (.slice s'.p s'.n s'.c)) := hs.bel (Sv.bel HS9.out (HB.out.trans HBB.out) (fun b hb => by have := ((HPD.out.row.bel HBB.out).blk hb).1; omega)) HG3.out
          have HX39 := Lib.hid hx3
          have HPD9 := Lib.hid hpd
          have HRw9 := Lib.hid hrw
          have HRr9 := Lib.hid hrr
          have HBW := Lib.hid hbw
          clear hx3 hpd hrw hrr hbw h9 hs
          have hk4 : k < 4 := HK4.out
          go_wp2
          exact ⟨⟨k + 1, s', ts ++ [_], by have := HKL.out; omega, by go_num, HBW, HX19, HX29, HX39, HRw9, HRr9, HPD9⟩, by have := HKL.out; simp [intOf]; omega⟩
        · try simp only [List.setIfInBounds_toArray, List.set_cons_zero, List.set_cons_succ] at hK
          have c1 := (Bel.cell (Bel.refl wr).drew (p := ⟨bp, k, none⟩) HLT0.out).trans HC0.out
          go_simp
          clear c1
          refine hK _ _ trivial (fun _ => ?_)
          clear hK K
          refine twoE 25 31 (i1 := 1) (i2 := 7) rfl rfl rfl rfl (by kernel_rfl) (by kernel_rfl) (by kernel_rfl) (fun K hK => ?_) (fun K hK => ?_)
          · try simp only [List.setIfInBounds_toArray, List.set_cons_zero, List.set_cons_succ] at hK
            have c1 := cell_of_heap ((Bel.refl wr).drew.stays HX3.out) 1
            simp only [List.getElem?_toArray, List.getElem?_cons_zero, List.getElem?_cons_succ] at c1
            go_simp
            clear c1
            refine hK _ _ trivial (fun _ => ?_)
            clear hK K
            refine onlyE 31 (i := 7) rfl rfl (by kernel_rfl) (by kernel_rfl) (fun K hK => ?_)
            try simp only [List.setIfInBounds_toArray, List.set_cons_zero, List.set_cons_succ] at hK
            obtain ⟨v7, w7, hr7, ho7, hb7⟩ := clone_new entTy (w := wr.drew) (src := t0.p) (m := t0.n) (c := t0.c) HT0.out (EncAt.bel (ERow.at0 (s := t0) HTR.out entTy.len) (Bel.refl wr).drew) (by have := H8.out; have := HT0.out; omega)
            obtain ⟨p7, c7, e7, -, -⟩ := ERow.form entTy.len ho7
            subst e7
            have HR7 := Lib.hid hr7
            have HO7 : Hid (ERow encE 48 2 w7 wr.heap.size (.slice p7 l0.length c7) l0) := Lib.hid ho7
            have HB7 : Hid (Bel wr w7) := Lib.hid ((Bel.refl wr).drew.trans hb7)
            clear hr7 ho7 hb7
            refine appE (.const (.slice none 0 0)) (.tmp 30) 46 rfl _ _ _ (by rfl) (by rfl) HR7.out ?_
            try simp only [List.setIfInBounds_toArray, List.set_cons_zero, List.set_cons_succ]
            refine hK _ _ trivial (fun _ => ?_)
            clear hK K
            refine onlyE 32 (i := 8) rfl rfl (by kernel_rfl) (by kernel_rfl) (fun K hK => ?_)
            try simp only [List.setIfInBounds_toArray, List.set_cons_zero, List.set_cons_succ] at hK
            go_simp
            refine hK _ _ trivial (fun _ => ?_)
            have hxb := heap_alloc_new w7 (.cells #[.slice p7 l0.length c7] 46)
            have hbb : Bel w7 (w7.alloc (.cells #[.slice p7 l0.length c7] 46)) := (Bel.refl _).alloc _ _
            generalize hWW : w7.alloc (.cells #[.slice p7 l0.length c7] 46) = wB at hxb hbb ⊢
            clear hWW
            generalize w7.heap.size = gB at hxb ⊢
            have HXB := Lib.hid hxb
            have HO7 := Lib.hid (HO7.out.bel hbb)
            have HBB := Lib.hid (HB7.out.trans hbb)
            clear hxb hbb
            clear hK K
            refine onlyE 33 (i := 9) rfl rfl (by kernel_rfl) (by kernel_rfl) (fun K hK => ?_)
            try simp only [List.setIfInBounds_toArray, List.set_cons_zero, List.set_cons_succ] at hK
            obtain ⟨s', w9, hr9, ho9, hs9, hn9⟩ := push_sl slTy (HPD.out.row.bel HBB.out) (x := (⟨p7, l0.length, c7⟩ : Sl)) HXB.out rfl (by rw [HPD.out.len]; have := HK4.out; omega) (by have := HB.out.size; have := HBB.out.size; omega) (c1 := 1)
            have HR9 := Lib.hid hr9
            have HO9 := Lib.hid ho9
            have HS9 := Lib.hid hs9
            clear hr9 ho9 hs9 hn9
            refine appE (.tmp 25) (.tmp 32) 25 rfl _ _ _ (by rfl) (by rfl) HR9.out ?_
            try simp only [List.setIfInBounds_toArray, List.set_cons_zero, List.set_cons_succ]
            refine hK _ _ trivial (fun _ => ?_)
            clear hK K
            refine takeD 34 (i := 10) (v := ?v8) rfl rfl (by kernel_rfl) (by kernel_rfl) (by kernel_rfl) (fun _ _ _ h => h) (by kernel_rfl) ?hy8 trivial ?rest8
            case hy8 => (intro w0 hSw; first | (go_simp; done) | (go_simp; with_reducible rfl))
            try simp only [List.setIfInBounds_toArray, List.set_cons_zero, List.set_cons_succ]
            refine onlyN (i := 11) rfl rfl (by kernel_rfl) (by kernel_rfl) (fun K hK => ?_)
            have HX9 : Hid (w9.heap[g3]? = some (.cells #[(.slice qw m.words.length dw), .slice s.p s.n s.c, (.slice qr m.res.length dr)] 27 (0, 0))) := Lib.hid ((HS9.out.block g3 (lt_of_heap (HBB.out.stays HX3.out)) (fun c => by obtain ⟨_, cs2, h2⟩ := (HPD.out.row.bel HBB.out).blk c; rw [HBB.out.stays HX3.out] at h2; injection h2 with h2; injection h2 with _ h2 _; exact absurd h2 (by decide))).trans (HBB.out.stays HX3.out))
            have c1 := cell_of_heap HX9.out 1
            have y1 := frozen_of_heap HX9.out 1
            simp only [List.getElem?_toArray, List.getElem?_cons_zero, List.getElem?_cons_succ] at c1
            go_simp
            clear c1 y1
            refine hK undef _ trivial (fun _ => ?_)
            clear hK K
            refine wpAnyH_done (by kernel_rfl) ?_ _
            have hs : Svg g3 w9 (w9.setCell ⟨g3, 1, none⟩ (.slice s'.p s'.n s'.c)) := Svg.set _ _ _ _
            have h9 : ∀ (g : Nat) (cs : Array Value), wr.heap[g]? = some (.cells cs 27 (0, 0)) → 27 ≠ 46 → w9.heap[g]? = some (.cells cs 27 (0, 0)) := fun g cs hg hne => (HS9.out.block g (lt_of_heap (HBB.out.stays hg)) (fun c => by obtain ⟨_, cs2, h2⟩ := (HPD.out.row.bel HBB.out).blk c; rw [HBB.out.stays hg] at h2; injection h2 with h2; injection h2 with _ h2 _; exact hne h2)).trans (HBB.out.stays hg)
            have HX19 := Lib.hid ((hs.block g1 (lt_of_heap (h9 g1 _ HX1.out (by decide))) HN13.out).trans (h9 g1 _ HX1.out (by decide)))
            have HX29 := Lib.hid ((hs.block g2 (lt_of_heap (h9 g2 _ HX2.out (by decide))) HN23.out).trans (h9 g2 _ HX2.out (by decide)))
            have hx3 := heap_set HX9.out 1 (.slice s'.p s'.n s'.c)
            have hpd := HPD.out.step HKL.out HBB.out HB.out.size HPK.out (t := ⟨p7, l0.length, c7⟩) HO7.out HO9.out HS9.out (g := g3) (i := 1) (v := .slice s'.p s'.n s'.c) HX9.out
            have hrw := ((HRw.out.bel HBB.out).sv HS9.out (nse (HRw.out.bel HBB.out) (HPD.out.row.bel HBB.out) (by decide))).keep hs HX9.out (by decide)
            have hrr := ((HRr.out.bel HBB.out).sv HS9.out (nse (HRr.out.bel HBB.out) (HPD.out.row.bel HBB.out) (by decide))).keep hs HX9.out (by decide)
            have hbw : Bel w (w9.setCell ⟨g3, 1, none⟩ (.slice s'.p s'.n s'.c)) := hs.bel (Sv.bel HS9.out (HB.out.trans HBB.out) (fun b hb => by have := ((HPD.out.row.bel HBB.out).blk hb).1; omega)) HG3.out
            have HX39 := Lib.hid hx3
            have HPD9 := Lib.hid hpd
            have HRw9 := Lib.hid hrw
            have HRr9 := Lib.hid hrr
            have HBW := Lib.hid hbw
            clear hx3 hpd hrw hrr hbw h9 hs
            have hk4 : k < 4 := HK4.out
            go_wp2
            exact ⟨⟨k + 1, s', ts ++ [_], by have := HKL.out; omega, by go_num, HBW, HX19, HX29, HX39, HRw9, HRr9, HPD9⟩, by have := HKL.out; simp [intOf]; omega⟩
          · try simp only [List.setIfInBounds_toArray, List.set_cons_zero, List.set_cons_succ] at hK
            obtain ⟨v7, w7, hr7, ho7, hb7⟩ := clone_new entTy (w := wr.drew) (src := t0.p) (m := t0.n) (c := t0.c) HT0.out (EncAt.bel (ERow.at0 (s := t0) HTR.out entTy.len) (Bel.refl wr).drew) (by have := H8.out; have := HT0.out; omega)
            obtain ⟨p7, c7, e7, -, -⟩ := ERow.form entTy.len ho7
            subst e7
            have HR7 := Lib.hid hr7
            have HO7 : Hid (ERow encE 48 2 w7 wr.heap.size (.slice p7 l0.length c7) l0) := Lib.hid ho7
            have HB7 : Hid (Bel wr w7) := Lib.hid ((Bel.refl wr).drew.trans hb7)
            clear hr7 ho7 hb7
            refine appE (.const (.slice none 0 0)) (.tmp 30) 46 rfl _ _ _ (by rfl) (by rfl) HR7.out ?_
            try simp only [List.setIfInBounds_toArray, List.set_cons_zero, List.set_cons_succ]
            refine hK _ _ trivial (fun _ => ?_)
            clear hK K
            refine twoE 25 32 (i1 := 1) (i2 := 8) rfl rfl rfl rfl (by kernel_rfl) (by kernel_rfl) (by kernel_rfl) (fun K hK => ?_) (fun K hK => ?_)
            · try simp only [List.setIfInBounds_toArray, List.set_cons_zero, List.set_cons_succ] at hK
              have c1 := cell_of_heap (HB7.out.stays HX3.out) 1
              simp only [List.getElem?_toArray, List.getElem?_cons_zero, List.getElem?_cons_succ] at c1
              go_simp
              clear c1
              refine hK _ _ trivial (fun _ => ?_)
              clear hK K
              refine onlyE 32 (i := 8) rfl rfl (by kernel_rfl) (by kernel_rfl) (fun K hK => ?_)
              try simp only [List.setIfInBounds_toArray, List.set_cons_zero, List.set_cons_succ] at hK
              go_simp
              refine hK _ _ trivial (fun _ => ?_)
              have hxb := heap_alloc_new w7 (.cells #[.slice p7 l0.length c7] 46)
              have hbb : Bel w7 (w7.alloc (.cells #[.slice p7 l0.length c7] 46)) := (Bel.refl _).alloc _ _
              generalize hWW : w7.alloc (.cells #[.slice p7 l0.length c7] 46) = wB at hxb hbb ⊢
              clear hWW
              generalize w7.heap.size = gB at hxb ⊢
              have HXB := Lib.hid hxb
              have HO7 := Lib.hid (HO7.out.bel hbb)
              have HBB := Lib.hid (HB7.out.trans hbb)
              clear hxb hbb
              clear hK K
              refine onlyE 33 (i := 9) rfl rfl (by kernel_rfl) (by kernel_rfl) (fun K hK => ?_)
              try simp only [List.setIfInBounds_toArray, List.set_cons_zero, List.set_cons_succ] at hK
              obtain ⟨s', w9, hr9, ho9, hs9, hn9⟩ := push_sl slTy (HPD.out.row.bel HBB.out) (x := (⟨p7, l0.length, c7⟩ : Sl)) HXB.out rfl (by rw [HPD.out.len]; have := HK4.out; omega) (by have := HB.out.size; have := HBB.out.size; omega) (c1 := 1)
              have HR9 := Lib.hid hr9
              have HO9 := Lib.hid ho9
              have HS9 := Lib.hid hs9
              clear hr9 ho9 hs9 hn9
              refine appE (.tmp 25) (.tmp 32) 25 rfl _ _ _ (by rfl) (by rfl) HR9.out ?_
              try simp only [List.setIfInBounds_toArray, List.set_cons_zero, List.set_cons_succ]
              refine hK _ _ trivial (fun _ => ?_)
              clear hK K
              refine takeD 34 (i := 10) (v := ?v9) rfl rfl (by kernel_rfl) (by kernel_rfl) (by kernel_rfl) (fun _ _ _ h => h) (by kernel_rfl) ?hy9 trivial ?rest9
              case hy9 => (intro w0 hSw; first | (go_simp; done) | (go_simp; with_reducible rfl))
              try simp only [List.setIfInBounds_toArray, List.set_cons_zero, List.set_cons_succ]
              refine onlyN (i := 11) rfl rfl (by kernel_rfl) (by kernel_rfl) (fun K hK => ?_)
              have HX9 : Hid (w9.heap[g3]? = some (.cells #[(.slice qw m.words.length dw), .slice s.p s.n s.c, (.slice qr m.res.length dr)] 27 (0, 0))) := Lib.hid ((HS9.out.block g3 (lt_of_heap (HBB.out.stays HX3.out)) (fun c => by obtain ⟨_, cs2, h2⟩ := (HPD.out.row.bel HBB.out).blk c; rw [HBB.out.stays HX3.out] at h2; injection h2 with h2; injection h2 with _ h2 _; exact absurd h2 (by decide))).trans (HBB.out.stays HX3.out))
              have c1 := cell_of_heap HX9.out 1
              have y1 := frozen_of_heap HX9.out 1
              simp only [List.getElem?_toArray, List.getElem?_cons_zero, List.getElem?_cons_succ] at c1
              go_simp
              clear c1 y1
              refine hK undef _ trivial (fun _ => ?_)
              clear hK K
              refine wpAnyH_done (by kernel_rfl) ?_ _
              have hs : Svg g3 w9 (w9.setCell ⟨g3, 1, none⟩ (.slice s'.p s'.n s'.c)) := Svg.set _ _ _ _
              have h9 : ∀ (g : Nat) (cs : Array Value), wr.heap[g]? = some (.cells cs 27 (0, 0)) → 27 ≠ 46 → w9.heap[g]? = some (.cells cs 27 (0, 0)) := fun g cs hg hne => (HS9.out.block g (lt_of_heap (HBB.out.stays hg)) (fun c => by obtain ⟨_, cs2, h2⟩ := (HPD.out.row.bel HBB.out).blk c; rw [HBB.out.stays hg] at h2; injection h2 with h2; injection h2 with _ h2 _; exact hne h2)).trans (HBB.out.stays hg)
              have HX19 := Lib.hid ((hs.block g1 (lt_of_heap (h9 g1 _ HX1.out (by decide))) HN13.out).trans (h9 g1 _ HX1.out (by decide)))
              have HX29 := Lib.hid ((hs.block g2 (lt_of_heap (h9 g2 _ HX2.out (by decide))) HN23.out).trans (h9 g2 _ HX2.out (by decide)))
              have hx3 := heap_set HX9.out 1 (.slice s'.p s'.n s'.c)
              have hpd := HPD.out.step HKL.out HBB.out HB.out.size HPK.out (t := ⟨p7, l0.length, c7⟩) HO7.out HO9.out HS9.out (g := g3) (i := 1) (v := .slice s'.p s'.n s'.c) HX9.out
              have hrw := ((HRw.out.bel HBB.out).sv HS9.out (nse (HRw.out.bel HBB.out) (HPD.out.row.bel HBB.out) (by decide))).keep hs HX9.out (by decide)
              have hrr := ((HRr.out.bel HBB.out).sv HS9.out (nse (HRr.out.bel HBB.out) (HPD.out.row.bel HBB.out) (by decide))).keep hs HX9.out (by decide)
              have hbw : Bel w (w9.setCell ⟨g3, 1, none⟩ (.slice s'.p s'.n s'.c)) := hs.bel (Sv.bel HS9.out (HB.out.trans HBB.out) (fun b hb => by have := ((HPD.out.row.bel HBB.out).blk hb).1; omega)) HG3.out
              have HX39 := Lib.hid hx3
              have HPD9 := Lib.hid hpd
              have HRw9 := Lib.hid hrw
              have HRr9 := Lib.hid hrr
              have HBW := Lib.hid hbw
              clear hx3 hpd hrw hrr hbw h9 hs
              have hk4 : k < 4 := HK4.out
              go_wp2
              exact ⟨⟨k + 1, s', ts ++ [_], by have := HKL.out; omega, by go_num, HBW, HX19, HX29, HX39, HRw9, HRr9, HPD9⟩, by have := HKL.out; simp [intOf]; omega⟩
            · try simp only [List.setIfInBounds_toArray, List.set_cons_zero, List.set_cons_succ] at hK
              go_simp
              refine hK _ _ trivial (fun _ => ?_)
              have hxb := heap_alloc_new w7 (.cells #[.slice p7 l0.length c7] 46)
              have hbb : Bel w7 (w7.alloc (.cells #[.slice p7 l0.length c7] 46)) := (Bel.refl _).alloc _ _
              generalize hWW : w7.alloc (.cells #[.slice p7 l0.length c7] 46) = wB at hxb hbb ⊢
              clear hWW
              generalize w7.heap.size = gB at hxb ⊢
              have HXB := Lib.hid hxb
              have HO7 := Lib.hid (HO7.out.bel hbb)
              have HBB := Lib.hid (HB7.out.trans hbb)
              clear hxb hbb
              clear hK K
              refine onlyE 25 (i := 1) rfl rfl (by kernel_rfl) (by kernel_rfl) (fun K hK => ?_)
              try simp only [List.setIfInBounds_toArray, List.set_cons_zero, List.set_cons_succ] at hK
              have c1 := cell_of_heap (HBB.out.stays HX3.out) 1
              simp only [List.getElem?_toArray, List.getElem?_cons_zero, List.getElem?_cons_succ] at c1
              go_simp
              clear c1
              refine hK _ _ trivial (fun _ => ?_)
              clear hK K
              refine onlyE 33 (i := 9) rfl rfl (by kernel_rfl) (by kernel_rfl) (fun K hK => ?_)
              try simp only [List.setIfInBounds_toArray, List.set_cons_zero, List.set_cons_succ] at hK
              obtain ⟨s', w9, hr9, ho9, hs9, hn9⟩ := push_sl slTy (HPD.out.row.bel HBB.out) (x := (⟨p7, l0.length, c7⟩ : Sl)) HXB.out rfl (by rw [HPD.out.len]; have := HK4.out; omega) (by have := HB.out.size; have := HBB.out.size; omega) (c1 := 1)
              have HR9 := Lib.hid hr9
              have HO9 := Lib.hid ho9
              have HS9 := Lib.hid hs9
              clear hr9 ho9 hs9 hn9
              refine appE (.tmp 25) (.tmp 32) 25 rfl _ _ _ (by rfl) (by rfl) HR9.out ?_
              try simp only [List.setIfInBounds_toArray, List.set_cons_zero, List.set_cons_succ]
              refine hK _ _ trivial (fun _ => ?_)
              clear hK K
              refine takeD 34 (i := 10) (v := ?v10) rfl rfl (by kernel_rfl) (by kernel_rfl) (by kernel_rfl) (fun _ _ _ h => h) (by kernel_rfl) ?hy10 trivial ?rest10
              case hy10 => (intro w0 hSw; first | (go_simp; done) | (go_simp; with_reducible rfl))
              try simp only [List.setIfInBounds_toArray, List.set_cons_zero, List.set_cons_succ]
              refine onlyN (i := 11) rfl rfl (by kernel_rfl) (by kernel_rfl) (fun K hK => ?_)
              have HX9 : Hid (w9.heap[g3]? = some (.cells #[(.slice qw m.words.length dw), .slice s.p s.n s.c, (.slice qr m.res.length dr)] 27 (0, 0))) := Lib.hid ((HS9.out.block g3 (lt_of_heap (HBB.out.stays HX3.out)) (fun c => by obtain ⟨_, cs2, h2⟩ := (HPD.out.row.bel HBB.out).blk c; rw [HBB.out.stays HX3.out] at h2; injection h2 with h2; injection h2 with _ h2 _; exact absurd h2 (by decide))).trans (HBB.out.stays HX3.out))
              have c1 := cell_of_heap HX9.out 1
              have y1 := frozen_of_heap HX9.out 1
              simp only [List.getElem?_toArray, List.getElem?_cons_zero, List.getElem?_cons_succ] at c1
              go_simp
              clear c1 y1
              refine hK undef _ trivial (fun _ => ?_)
              clear hK K
              refine wpAnyH_done (by kernel_rfl) ?_ _
              have hs : Svg g3 w9 (w9.setCell ⟨g3, 1, none⟩ (.slice s'.p s'.n s'.c)) := Svg.set _ _ _ _
              have h9 : ∀ (g : Nat) (cs : Array Value), wr.heap[g]? = some (.cells cs 27 (0, 0)) → 27 ≠ 46 → w9.heap[g]? = some (.cells cs 27 (0, 0)) := fun g cs hg hne => (HS9.out.block g (lt_of_heap (HBB.out.stays hg)) (fun c => by obtain ⟨_, cs2, h2⟩ := (HPD.out.row.bel HBB.out).blk c; rw [HBB.out.stays hg] at h2; injection h2 with h2; injection h2 with _ h2 _; exact hne h2)).trans (HBB.out.stays hg)
              have HX19 := Lib.hid ((hs.block g1 (lt_of_heap (h9 g1 _ HX1.out (by decide))) HN13.out).trans (h9 g1 _ HX1.out (by decide)))
              have HX29 := Lib.hid ((hs.block g2 (lt_of_heap (h9 g2 _ HX2.out (by decide))) HN23.out).trans (h9 g2 _ HX2.out (by decide)))
              have hx3 := heap_set HX9.out 1 (.slice s'.p s'.n s'.c)
              have hpd := HPD.out.step HKL.out HBB.out HB.out.size HPK.out (t := ⟨p7, l0.length, c7⟩) HO7.out HO9.out HS9.out (g := g3) (i := 1) (v := .slice s'.p s'.n s'.c) HX9.out
              have hrw := ((HRw.out.bel HBB.out).sv HS9.out (nse (HRw.out.bel HBB.out) (HPD.out.row.bel HBB.out) (by decide))).keep hs HX9.out (by decide)
              have hrr := ((HRr.out.bel HBB.out).sv HS9.out (nse (HRr.out.bel HBB.out) (HPD.out.row.bel HBB.out) (by decide))).keep hs HX9.out (by decide)
              have hbw : Bel w (w9.setCell ⟨g3, 1, none⟩ (.slice s'.p s'.n s'.c)) := hs.bel (Sv.bel HS9.out (HB.out.trans HBB.out) (fun b hb => by have := ((HPD.out.row.bel HBB.out).blk hb).1; omega)) HG3.out
              have HX39 := Lib.hid hx3
              have HPD9 := Lib.hid hpd
              have HRw9 := Lib.hid hrw
              have HRr9 := Lib.hid hrr
              have HBW := Lib.hid hbw
              clear hx3 hpd hrw hrr hbw h9 hs
              have hk4 : k < 4 := HK4.out
              go_wp2
              exact ⟨⟨k + 1, s', ts ++ [_], by have := HKL.out; omega, by go_num, HBW, HX19, HX29, HX39, HRw9, HRr9, HPD9⟩, by have := HKL.out; simp [intOf]; omega⟩
    · obtain rfl : k = m.pend.length := by omega
      have hlt2 : ¬ (m.pend.length : Int) < v.p.n := by omega
      have hlt3 : ¬ v.p.n < v.p.n := by omega
      have c30 := cell_of_heap HX3.out 0
      have c31 := cell_of_heap HX3.out 1
      have c32 := cell_of_heap HX3.out 2
      have y20 := frozen_of_heap HX2.out 0
      have y21 := frozen_of_heap HX2.out 1
      have y22 := frozen_of_heap HX2.out 2
      have c20 := cell_of_heap HX2.out 0
      have c21 := cell_of_heap HX2.out 1
      have c22 := cell_of_heap HX2.out 2
      simp only [List.getElem?_toArray, List.getElem?_cons_zero, List.getElem?_cons_succ] at c30 c31 c32 c20 c21 c22
      go_wp2
      have hs3 : Svg g2 wr (((wr.setCell ⟨g2, 0, none⟩ (.slice qw m.words.length dw)).setCell ⟨g2, 1, none⟩ (.slice s.p s.n s.c)).setCell ⟨g2, 2, none⟩ (.slice qr m.res.length dr)) := ((Svg.set _ _ _ _).trans (Svg.set _ _ _ _)).trans (Svg.set _ _ _ _)
      have hh : (((wr.setCell ⟨g2, 0, none⟩ (.slice qw m.words.length dw)).setCell ⟨g2, 1, none⟩ (.slice s.p s.n s.c)).setCell ⟨g2, 2, none⟩ (.slice qr m.res.length dr)).heap[g2]? = some (.cells #[.slice qw m.words.length dw, .slice s.p s.n s.c, .slice qr m.res.length dr] 27 (0, 0)) := heap_set (heap_set (heap_set HX2.out 0 _) 1 _) 2 _
      have hm2 : MemAt w.heap.size wr ⟨⟨qw, m.words.length, dw⟩, s, ⟨qr, m.res.length, dr⟩, ts⟩ m := ⟨HRw.out, HPD.out.row, HPD.out.len, HPD.out.ro, HRr.out, HNE.out, HPD.out.ap⟩
      have hfin := hm2.keep hs3 HX2.out (by decide) (by decide) (by decide)
      exact bodyPost_ret (results_cell1 Try.results34 _ _ g2 _ _ _ _ rfl hh Try.underlying27 rfl (by kernel_rfl)) rfl ⟨⟨⟨qw, m.words.length, dw⟩, s, ⟨qr, m.res.length, dr⟩, ts⟩, rfl, hs3.bel HB.out HG2.out, hfin⟩
end Go.Proofs.Ytobpoghophhphaa
