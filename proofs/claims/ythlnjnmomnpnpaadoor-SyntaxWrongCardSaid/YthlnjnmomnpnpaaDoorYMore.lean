/- A program with a statement more in one of its tasks. -/
import Derived.Test.YthlnjnmomnpnpaaDoorYPo
import Derived.Test.YthlnjnmomnpnpaaDoorYRb
import Derived.Test.YthlnjnmomnpnpaaDoorYSize
import Derived.Test.YthlnjnmomnpnpaaDoorYWrongP
namespace Go.Proofs.YthlnjnmomnpnpaaDoor
open Go.RowKit Tk Sy
set_option linter.unusedVariables false
/-- the cells of a block, some of them written one after another -/
def put6 (cur : Array Value) (o : Nat) (b0 b1 b2 b3 b4 b5 : Value) : Array Value := (((((cur.setIfInBounds o b0).setIfInBounds (o + 1) b1).setIfInBounds (o + 2) b2).setIfInBounds (o + 3) b3).setIfInBounds (o + 4) b4).setIfInBounds (o + 5) b5
theorem put6_size (cur : Array Value) (o : Nat) (b0 b1 b2 b3 b4 b5 : Value) : (put6 cur o b0 b1 b2 b3 b4 b5).size = cur.size := by simp [put6]
theorem put6_get (cur : Array Value) (o : Nat) (b0 b1 b2 b3 b4 b5 : Value) (h : o + 6 ≤ cur.size) (j : Nat) : (put6 cur o b0 b1 b2 b3 b4 b5)[j]? = if j = o then some b0 else if j = o + 1 then some b1 else if j = o + 2 then some b2 else if j = o + 3 then some b3 else if j = o + 4 then some b4 else if j = o + 5 then some b5 else cur[j]? := by
  unfold put6
  simp only [Array.getElem?_setIfInBounds, Array.size_setIfInBounds]
  by_cases h5 : o + 5 = j
  · subst h5; simp; omega
  · by_cases h4 : o + 4 = j
    · subst h4; simp; omega
    · by_cases h3 : o + 3 = j
      · subst h3; simp; omega
      · by_cases h2 : o + 2 = j
        · subst h2; simp; omega
        · by_cases h1 : o + 1 = j
          · subst h1; simp; omega
          · by_cases h0 : o = j
            · subst h0; simp; omega
            · simp only [h0, h1, h2, h3, h4, h5, if_false, Ne.symm h0, Ne.symm h1, Ne.symm h2, Ne.symm h3, Ne.symm h4, Ne.symm h5]
theorem set6_heap {w : World} {g o : Nat} {cur : Array Value} {t : TypeId} (b0 b1 b2 b3 b4 b5 : Value) (h : w.heap[g]? = some (.cells cur t (0, 0))) : ((((((w.setCell ⟨g, o, none⟩ b0).setCell ⟨g, o + 1, none⟩ b1).setCell ⟨g, o + 2, none⟩ b2).setCell ⟨g, o + 3, none⟩ b3).setCell ⟨g, o + 4, none⟩ b4).setCell ⟨g, o + 5, none⟩ b5).heap[g]? = some (.cells (put6 cur o b0 b1 b2 b3 b4 b5) t (0, 0)) := by
  simp [World.setCell, Array.getElem?_modify, h, put6]
theorem sv6 (k o : Nat) (w : World) (b0 b1 b2 b3 b4 b5 : Value) : Svg k w ((((((w.setCell ⟨k, o, none⟩ b0).setCell ⟨k, o + 1, none⟩ b1).setCell ⟨k, o + 2, none⟩ b2).setCell ⟨k, o + 3, none⟩ b3).setCell ⟨k, o + 4, none⟩ b4).setCell ⟨k, o + 5, none⟩ b5) :=
  (((((Svg.set k _ _ _).trans (Svg.set k _ _ _)).trans (Svg.set k _ _ _)).trans (Svg.set k _ _ _)).trans (Svg.set k _ _ _)).trans (Svg.set k _ _ _)
/-- the tasks' row with one of them written anew, as a slice's elements -/
theorem row_set {W : World} {B c3 k : Nat} {q3 : Option Addr} {l : List PT} {y y' : PT} (h : ERow encT 48 6 W B (.slice q3 l.length c3) l) (hk : l[k]? = some y) : ∃ g, q3 = some ⟨g, 0, none⟩ ∧ B ≤ g ∧ g < W.heap.size ∧
    EncAt encT 6 ((((((W.setCell ⟨g, k * 6, none⟩ (.string y'.t.name)).setCell ⟨g, k * 6 + 1, none⟩ (.bool y'.t.handler)).setCell ⟨g, k * 6 + 2, none⟩ (.int .i64 y'.t.hart)).setCell ⟨g, k * 6 + 3, none⟩ (.int .i64 y'.t.prio)).setCell ⟨g, k * 6 + 4, none⟩ (.int .i64 y'.t.line)).setCell ⟨g, k * 6 + 5, none⟩ (.slice y'.q y'.t.body.length y'.c)) q3 (l.set k y') := by
  have hkl := (List.getElem?_eq_some_iff.1 hk).1
  rcases h.2 with ⟨hv, hx⟩ | ⟨g, cap, cur, hv, hb, hg, hnc, hcm, hcs, htake⟩
  · injection hv with h1 h2
    omega
  · injection hv with h1 h2 h3
    subst h1
    have hsz : k * 6 + 6 ≤ cur.size := by rw [hcs]; omega
    refine ⟨g, rfl, hb, (Array.getElem?_eq_some_iff.1 hg).1, fun j x hj => ⟨g, 0, rfl, ?_, fun i v hi => ?_⟩⟩
    · exact Nat.lt_of_lt_of_le (Array.getElem?_eq_some_iff.1 hg).1 (sv6 g (k * 6) W _ _ _ _ _ _).size
    · rw [cell_of_heap (set6_heap _ _ _ _ _ _ hg), put6_get _ _ _ _ _ _ _ _ hsz]
      have hi6 : i < 6 := (List.getElem?_eq_some_iff.1 hi).1
      by_cases hjk : j = k
      · subst hjk
        rw [List.getElem?_set_self hkl] at hj
        obtain rfl := Option.some.inj hj
        rcases (show i = 0 ∨ i = 1 ∨ i = 2 ∨ i = 3 ∨ i = 4 ∨ i = 5 by omega) with rfl | rfl | rfl | rfl | rfl | rfl
        all_goals
          simp at hi
          subst hi
          simp
      · rw [List.getElem?_set_ne (Ne.symm hjk)] at hj
        have hf := flat_get tskTy.len hj hi
        have hlen : j * 6 + i < l.length * 6 := by
          have h6 := (List.getElem?_eq_some_iff.1 hf).1
          rwa [flat_len tskTy.len] at h6
        have h5 := World.ownsRow.cellAt h (j * 6 + i) hlen
        have h7 : cur[j * 6 + i]? = some v := by
          have h8 := cell_of_heap hg (j * 6 + i)
          rw [h5] at h8
          rw [← h8]
          exact hf
        rw [Nat.zero_add, if_neg (by omega), if_neg (by omega), if_neg (by omega), if_neg (by omega), if_neg (by omega), if_neg (by omega)]
        exact h7
theorem sat_ps {w : World} {p : Option Addr} {l : List St} (h : SAt w p l) : ∃ L : List PS, L.map PS.x = l ∧ EncAt encS 7 w p L ∧ ∀ y ∈ L, PSok w y := by
  have hone : ∀ j : Nat, ∃ y : PS, ∀ s, l[j]? = some s → y.x = s ∧ PSok w y ∧ ∃ b o, p = some ⟨b, o, none⟩ ∧ b < w.heap.size ∧ ∀ (i : Nat) (v : Value), (encS y)[i]? = some v → w.cell? ⟨b, o + j * 7 + i, none⟩ = some v := by
    intro j
    cases hj : l[j]? with
    | none => exact ⟨⟨.mk 0 ⟨#[]⟩ ⟨#[]⟩ 0 [] [] [], none, 0, none, 0, none, 0⟩, fun s hs => by cases hs⟩
    | some s =>
      obtain ⟨hw, b, o, q, c, q1, c1, q2, c2, hp, hb, ⟨k0, k1, k2, k3, k4, k5, k6⟩, ha, ht, he⟩ := h.get hj
      refine ⟨⟨s, q, c, q1, c1, q2, c2⟩, fun s' hs => ?_⟩
      obtain rfl := Option.some.inj hs
      refine ⟨rfl, ⟨hw, ha, ht, he⟩, b, o, hp, hb, fun i v hv => ?_⟩
      have hi : i < 7 := (List.getElem?_eq_some_iff.1 hv).1
      rcases (show i = 0 ∨ i = 1 ∨ i = 2 ∨ i = 3 ∨ i = 4 ∨ i = 5 ∨ i = 6 by omega) with rfl | rfl | rfl | rfl | rfl | rfl | rfl
      all_goals
        simp at hv
        subst hv
        first | exact k0 | exact k1 | exact k2 | exact k3 | exact k4 | exact k5 | exact k6
  obtain ⟨f, hf⟩ := Classical.skolem.1 hone
  have hget : ∀ j, j < l.length → ((List.range l.length).map f)[j]? = some (f j) := fun j hj => by rw [List.getElem?_map, List.getElem?_range hj]; rfl
  refine ⟨(List.range l.length).map f, ?_, fun j y hj => ?_, fun y hy => ?_⟩
  · refine List.ext_getElem? fun j => ?_
    rw [List.getElem?_map]
    by_cases hj : j < l.length
    · rw [hget j hj, List.getElem?_eq_getElem hj]
      exact congrArg some (hf j _ (List.getElem?_eq_getElem hj)).1
    · rw [List.getElem?_eq_none (by simpa using hj), List.getElem?_eq_none (by omega)]
      rfl
  · have hjl : j < l.length := by have := (List.getElem?_eq_some_iff.1 hj).1; simpa using this
    rw [hget j hjl] at hj
    obtain rfl := Option.some.inj hj
    obtain ⟨_, _, b, o, hp, hb, hc⟩ := hf j _ (List.getElem?_eq_getElem hjl)
    exact ⟨b, o, hp, hb, hc⟩
  · obtain ⟨j, hj, rfl⟩ := List.mem_map.1 hy
    have hjl : j < l.length := List.mem_range.1 hj
    exact (hf j _ (List.getElem?_eq_getElem hjl)).2.1
theorem EncAt.sub {α : Type} {enc : α → List Value} {k : Nat} {w w' : World} {p : Option Addr} {l : List α} (h : EncAt enc k w p l) (hs : Sub w w') : EncAt enc k w' p l := fun j x hj => by
  obtain ⟨b, o, hp, hb, hc⟩ := h j x hj
  exact ⟨b, o, hp, Nat.lt_of_lt_of_le hb hs.size, fun i v hv => hs.cell _ _ hb (hc i v hv)⟩
theorem keepW_bel {B : Nat} {v : Value} {w w' : World} (h : Bel w w') : Sub (keepW B v w) (keepW B v w') := (Sv.maskP (h.sv fun _ => False) (fun _ c _ => c.elim)).sub
theorem elder_bel {B : Nat} {w w' : World} (h : Bel w w') : Sub (elder B w) (elder B w') := (Sv.maskP (h.sv fun _ => False) (fun _ c _ => c.elim)).sub
theorem keepW_mask {B g n c : Nat} (w : World) : Sub (keepW B (.slice (some ⟨g, 0, none⟩) n c) w) (mask g w) := maskP_sub2 w (fun k hk => by
  have h : k = g := by simpa using hk
  subst h
  simp [Value.ownBlock])
theorem ProgAt.later {w W W' : World} {p : Prg} {q1 q2 q3 : Option Addr} {c3 : Nat} (h : ProgAt w W p q1 q2 q3 c3) (hb : Bel W W') : ProgAt w W' p q1 q2 q3 c3 := by
  obtain ⟨B, l, h1, h2, h3, h4, h5, h6⟩ := h.ex
  exact ⟨h.bel.trans hb, B, l, h1, h2, h3.bel hb, fun y hy => (h4 y hy).sub (keepW_bel hb), h5.sub (elder_bel hb), h6.sub (elder_bel hb)⟩
/-- the statements of a task, and one more -/
theorem more_body {W8 WE : World} {gT B base n n' f3 c4 : Nat} {p4 : Option Addr} {L : List PS} {x : PS} (ho : ERow encS 46 7 WE base (.slice p4 n' c4) (L ++ [x])) (hg : gT < base) (hL : ∀ y ∈ L, PSok (keepW B (.slice (some ⟨gT, 0, none⟩) n f3) W8) y) (hb : Bel W8 WE) (hx : PSok (mask gT WE) x) : SAt (mask gT WE) p4 ((L ++ [x]).map PS.x) := by
  obtain ⟨p, c, hv, he, hp⟩ := ho.form stmtTy.len
  have hpp : p4 = p := by injection hv
  subst hpp
  refine sts_of (fun j y hj => ?_) (fun y hy => ?_)
  · obtain ⟨b, o, h1, h2, h3⟩ := he j y hj
    have hge : base ≤ b := (hp _ h1).1
    refine ⟨b, o, h1, by rw [maskP_size]; exact h2, fun i u hu => ?_⟩
    rw [maskP_cell WE (by simp; omega)]
    exact h3 i u hu
  · rcases List.mem_append.1 hy with hy | hy
    · exact (hL y hy).sub ((keepW_bel hb).trans (keepW_mask WE))
    · rw [List.mem_singleton.1 hy]
      exact hx
theorem more_at {W8 WE : World} {P : Prg} {q1 q2 p4 : Option Addr} {gT B k f3 c4 n : Nat} {l : List PT} {y : PT} {s : St} (hn : n = (y.t.body ++ [s]).length) (hT : P.tasks = l.map PT.t) (hr : right P = true) (hb : Bel W8 WE)
    (hrow : ERow encT 48 6 WE B (.slice (some ⟨gT, 0, none⟩) l.length f3) l) (hy : l[k]? = some y) (hok : ∀ x ∈ l, TOk (keepW B (.slice (some ⟨gT, 0, none⟩) l.length f3) W8) x)
    (hd : DevsAt (elder B W8) q1 P.devs) (hs : RscsAt (elder B W8) q2 P.rscs) (hB : B ≤ gT) (hbody : SAt (mask gT WE) p4 (y.t.body ++ [s])) :
    PrgAt ((((((WE.setCell ⟨gT, k * 6, none⟩ (.string y.t.name)).setCell ⟨gT, k * 6 + 1, none⟩ (.bool y.t.handler)).setCell ⟨gT, k * 6 + 2, none⟩ (.int .i64 y.t.hart)).setCell ⟨gT, k * 6 + 3, none⟩ (.int .i64 y.t.prio)).setCell ⟨gT, k * 6 + 4, none⟩ (.int .i64 y.t.line)).setCell ⟨gT, k * 6 + 5, none⟩ (.slice p4 n c4)) q1 q2 (some ⟨gT, 0, none⟩) (setTask P k (addS y.t s)) := by
  subst hn
  obtain ⟨g, hg, _, _, he⟩ := row_set (y' := ⟨addS y.t s, p4, c4⟩) hrow hy
  have hgg : gT = g := by injection hg with h; injection h
  subst hgg
  have hsv := sv6 gT (k * 6) WE (.string y.t.name) (.bool y.t.handler) (.int .i64 y.t.hart) (.int .i64 y.t.prio) (.int .i64 y.t.line) (.slice p4 (y.t.body ++ [s]).length c4)
  change EncAt encT 6 ((((((WE.setCell ⟨gT, k * 6, none⟩ (.string y.t.name)).setCell ⟨gT, k * 6 + 1, none⟩ (.bool y.t.handler)).setCell ⟨gT, k * 6 + 2, none⟩ (.int .i64 y.t.hart)).setCell ⟨gT, k * 6 + 3, none⟩ (.int .i64 y.t.prio)).setCell ⟨gT, k * 6 + 4, none⟩ (.int .i64 y.t.line)).setCell ⟨gT, k * 6 + 5, none⟩ (.slice p4 (y.t.body ++ [s]).length c4)) _ _ at he
  generalize (((((WE.setCell ⟨gT, k * 6, none⟩ (.string y.t.name)).setCell ⟨gT, k * 6 + 1, none⟩ (.bool y.t.handler)).setCell ⟨gT, k * 6 + 2, none⟩ (.int .i64 y.t.hart)).setCell ⟨gT, k * 6 + 3, none⟩ (.int .i64 y.t.prio)).setCell ⟨gT, k * 6 + 4, none⟩ (.int .i64 y.t.line)).setCell ⟨gT, k * 6 + 5, none⟩ (.slice p4 (y.t.body ++ [s]).length c4) = WF at he hsv ⊢
  have h1 : Sub (elder B W8) WF := ((elder_bel hb).trans (Sv.maskP hsv (fun j hj _ => by subst hj; simpa using hB)).sub).trans (maskP_sub _ WF)
  have h2 : Sub (mask gT WE) WF := (Sv.maskP hsv (fun j hj _ => by subst hj; simp)).sub.trans (maskP_sub _ WF)
  have hgl : ∀ x ∈ l, WfT x.t ∧ SAt WF x.q x.t.body := fun x hx => ⟨wfT_of (hok x hx).wf (hok x hx).len, (hok x hx).body.sub (((keepW_bel hb).trans (keepW_mask WE)).trans h2)⟩
  have hyl := hok y (List.mem_of_getElem? hy)
  have hw := wfT_of hyl.wf hyl.len
  unfold right within at hr
  simp only [Bool.and_eq_true, decide_eq_true_eq] at hr
  obtain ⟨⟨r1, r2⟩, r3, _, r4, _, r5, _⟩ := hr
  refine ⟨hd.sub h1, hs.sub h1, ?_, ⟨by show _ ≤ P.harts; omega, by show P.harts ≤ _; omega⟩, by show P.devs.length ≤ _; omega, by show P.rscs.length ≤ _; omega, by show (P.tasks.set k _).length ≤ _; rw [List.length_set]; omega⟩
  have e : (setTask P k (addS y.t s)).tasks = (l.set k ⟨addS y.t s, p4, c4⟩).map PT.t := by
    show P.tasks.set k (addS y.t s) = _
    rw [hT, List.map_set]
  rw [e]
  refine TsksAt.of he (fun x hx => ?_)
  rcases List.mem_or_eq_of_mem_set hx with hx | hx
  · exact hgl x hx
  · subst hx
    refine ⟨⟨hw.name, hw.hart, hw.prio, hw.line, ?_⟩, hbody.sub h2⟩
    show (y.t.body ++ [s]).length ≤ _
    rw [List.length_append, List.length_singleton]
    have := hyl.len
    omega
namespace Sy
theorem sum_set {α : Type} (f : α → Nat) : ∀ (l : List α) (k : Nat) (t x : α), l[k]? = some t → ((l.set k x).map f).sum + f t = (l.map f).sum + f x
  | [], k, t, x, h => by cases h
  | a :: l, 0, t, x, h => by
    obtain rfl := Option.some.inj h
    show (f x + (l.map f).sum) + f a = (f a + (l.map f).sum) + f x
    omega
  | a :: l, k + 1, t, x, h => by
    have := sum_set f l k t x h
    show (f a + ((l.set k x).map f).sum) + f t = (f a + (l.map f).sum) + f x
    omega
theorem size_more {P : Prg} {k : Nat} {t : Tsk} (h : P.tasks[k]? = some t) : size (setTask P k (addS t haltS)) = size P + 1 := by
  have h1 := sum_set (fun t : Tsk => cntSs t.body) P.tasks k t (addS t haltS) h
  have h2 : cntSs (addS t haltS).body = cntSs t.body + 1 := by
    show cntSs (t.body ++ [haltS]) = _
    rw [cntSs_eq, cntSs_eq t.body, List.map_append, List.sum_append, List.length_append]
    have e : ([haltS].map restS).sum = 0 := by decide
    rw [e, List.length_singleton]
    omega
  show ((P.tasks.set k (addS t haltS)).map fun t => cntSs t.body).sum = (P.tasks.map fun t => cntSs t.body).sum + 1
  simp only [h2] at h1
  omega
theorem w64_one (a : Nat) : wrap64 (wrap64 (a : Int) + 1) = wrap64 ((a + 1 : Nat) : Int) := by unfold wrap64; omega
end Sy
end Go.Proofs.YthlnjnmomnpnpaaDoor
