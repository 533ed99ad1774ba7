/- The law's programs out of raw numbers. -/
import Derived.Test.YthlnjnmomnpnpaaGreatDoorYLast
import Derived.Test.YthlnjnmomnpnpaaGreatDoorYRight
import Derived.Deep.DeepCutAuto
import Derived.Deep.CutBlock
namespace Go.Proofs.YthlnjnmomnpnpaaGreatDoor
open Go.RowKit Tk Sy
set_option linter.unusedVariables false
set_option linter.unusedSimpArgs false
theorem BAtI0 : BAtI 0 0 := BAtI.of TAtI.zero
theorem BAtI1 : BAtI 1 1 := BAtI.of (TAtI.succ (D1 := 0) rfl (by decide) rfl BAtI0)
theorem BAtI2 : BAtI 2 2 := BAtI.of (TAtI.succ (D1 := 1) rfl (by decide) rfl BAtI1)
theorem BAtI3 : BAtI 3 3 := BAtI.of (TAtI.succ (D1 := 2) rfl (by decide) rfl BAtI2)
theorem wpAnyH_mono {P : Program} {md : Region.Mode} {ops : Array Oper} {Q : Exit → Act → World → Prop} {S S' : World → Prop} (h : ∀ w, S' w → S w) : ∀ (fuel : Nat) (listed : Array Bool) (a : Act) (w : World), wpAnyH P md ops Q S' fuel listed a w → wpAnyH P md ops Q S fuel listed a w
  | 0, _, _, _, H => H
  | fuel + 1, _, _, _, H => ⟨H.1, fun i hi => wpOp_mono (fun a' w' h' => ⟨h _ h'.1, wpAnyH_mono h fuel _ a' w' h'.2⟩) (H.2 i hi)⟩
abbrev encD (d : Dev) : List Value := [.string d.name, .int .i64 d.kind]
abbrev encR (d : Rsc) : List Value := [.string d.name, .int .i64 d.words]
theorem devTy : RowTy encD 2 24 65 24 :=
  ⟨fun _ => rfl, fun x u hu => by simp only [encD, List.mem_cons, List.not_mem_nil, or_false] at hu; rcases hu with rfl | rfl <;> rfl, Tryz.underlying24, ⟨(Tryz.prog.info? 65).get (by kernel_rfl), ((Tryz.prog.info? 65).get (by kernel_rfl)).zero.get (by kernel_rfl), by kernel_rfl, by kernel_rfl, by kernel_rfl, by kernel_rfl, by kernel_rfl⟩, by decide, by decide⟩
theorem rscTy : RowTy encR 2 25 67 24 :=
  ⟨fun _ => rfl, fun x u hu => by simp only [encR, List.mem_cons, List.not_mem_nil, or_false] at hu; rcases hu with rfl | rfl <;> rfl, Tryz.underlying25, ⟨(Tryz.prog.info? 67).get (by kernel_rfl), ((Tryz.prog.info? 67).get (by kernel_rfl)).zero.get (by kernel_rfl), by kernel_rfl, by kernel_rfl, by kernel_rfl, by kernel_rfl, by kernel_rfl⟩, by decide, by decide⟩
/-- rows of unlike types lie in unlike blocks -/
theorem own_type {α : Type} {enc : α → List Value} {T : TypeId} {k : Nat} {w : World} {base : Nat} {v : Value} {l : List α} (h : ERow enc T k w base v l) : ∀ b, v.ownBlock = some b → ∃ cs fr, w.heap[b]? = some (.cells cs T fr) := fun b hb => by
  rcases h.2 with ⟨rfl, _⟩ | ⟨g, cap, cur, rfl, _, hg, _⟩
  · simp [Value.ownBlock] at hb
  · have : g = b := by simpa [Value.ownBlock] using hb
    subst this
    exact ⟨cur, _, hg⟩
theorem own_unlike {α β : Type} {e1 : α → List Value} {e2 : β → List Value} {T U : TypeId} {k j : Nat} {w : World} {b1 b2 : Nat} {v u : Value} {l : List α} {m : List β} (h : ERow e1 T k w b1 v l) (h2 : ERow e2 U j w b2 u m) (hT : T ≠ U) : ∀ b, v.ownBlock = some b → u.ownBlock ≠ some b := fun b hb hc => by
  obtain ⟨c1, f1, e1⟩ := own_type h b hb
  obtain ⟨c2, f2, e2⟩ := own_type h2 b hc
  rw [e1] at e2
  injection e2 with e2
  injection e2 with _ e3 _
  exact hT e3
theorem text_at {l : List ByteArray} {k : Nat} (h : k < l.length) {w : World} {b : Nat} {t : TypeId} {fr : Nat × Nat} (hb : w.heap[b]? = some (.cells (l.map Value.string).toArray t fr)) : w.cell? ⟨b, k, none⟩ = some (.string (l.getD k ⟨#[]⟩)) := by
  rw [cell_of_heap hb, List.getElem?_toArray, List.getElem?_map, List.getD_eq_getElem?_getD, List.getElem?_eq_getElem h]
  rfl

theorem alloc_at {w : World} {n : Nat} (hn : w.heap.size = n) (o : Obj) : (w.alloc o).heap[n]? = some o := by
  subst hn
  exact heap_alloc_new w o
section
variable {P : Program} {ops : Array Oper} {Q : Exit → Act → World → Prop} {md : Region.Mode} {S : World → Prop}
/-- three may come up: each first -/
theorem threeE (d1 d2 d3 : Nat) {i1 i2 i3 : Nat} {o1 o2 o3 : Oper} {fuel : Nat} {listed : Array Bool} {a : Act} {w : World} (h1 : ops[i1]? = some o1) (h2 : ops[i2]? = some o2) (h3 : ops[i3]? = some o3) (hd1 : o1.dst = some d1) (hd2 : o2.dst = some d2) (hd3 : o3.dst = some d3) (hr : Region.ready md ops listed = [i1, i2, i3])
    (hw1 : Region.wanted o1 (yielded ops a.tmps) = true) (hw2 : Region.wanted o2 (yielded ops a.tmps) = true) (hw3 : Region.wanted o3 (yielded ops a.tmps) = true)
    (ha : ∀ K : Act → World → Prop, Shut (∀ (v : Value) (w' : World), S w' → (S w' → wpAnyH P md ops Q S fuel (listed.setIfInBounds i1 true) { a with tmps := a.tmps.setIfInBounds d1 v } w') → K (a.put o1.dst v) w') → Oper.wp P o1 a w K Q)
    (hb : ∀ K : Act → World → Prop, Shut (∀ (v : Value) (w' : World), S w' → (S w' → wpAnyH P md ops Q S fuel (listed.setIfInBounds i2 true) { a with tmps := a.tmps.setIfInBounds d2 v } w') → K (a.put o2.dst v) w') → Oper.wp P o2 a w K Q)
    (hc : ∀ K : Act → World → Prop, Shut (∀ (v : Value) (w' : World), S w' → (S w' → wpAnyH P md ops Q S fuel (listed.setIfInBounds i3 true) { a with tmps := a.tmps.setIfInBounds d3 v } w') → K (a.put o3.dst v) w') → Oper.wp P o3 a w K Q) : wpAnyH P md ops Q S (fuel + 1) listed a w := by
  refine wpAnyH_ready (rs := [i1, i2, i3]) hr (by simp) ?_
  refine AllReadyH.cons h1 (fun K hK => ?_) (AllReadyH.cons h2 (fun K hK => ?_) (AllReadyH.cons h3 (fun K hK => ?_) AllReadyH.nil))
  · rw [if_pos hw1]
    exact ha K (fun v w' hS hn => hK _ _ hS (fun hS => by rw [hd1]; exact hn hS))
  · rw [if_pos hw2]
    exact hb K (fun v w' hS hn => hK _ _ hS (fun hS => by rw [hd2]; exact hn hS))
  · rw [if_pos hw3]
    exact hc K (fun v w' hS hn => hK _ _ hS (fun hS => by rw [hd3]; exact hn hS))
end
theorem raw_elder {w W : World} {gS : Nat} {p : Option Addr} {l : List Int} (hb : Bel w W) (hg : w.heap.size ≤ gS) (h : RawAt w p l) : RawAt (elder gS W) p l := fun j x hj => by
  obtain ⟨hi, b, o, hp, hl, hc⟩ := h j x hj
  refine ⟨hi, b, o, hp, by rw [maskP_size]; exact Nat.lt_of_lt_of_le hl hb.size, ?_⟩
  rw [maskP_cell W (by simp; omega)]
  exact (hb.cell (p := ⟨b, o + j, none⟩) hl).trans hc
theorem row_form {α : Type} {enc : α → List Value} {t : TypeId} {k n : Nat} (hk : ∀ x, (enc x).length = k) {w : World} {base : Nat} {v : Value} {l : List α} (h : ERow enc t k w base v l) (hn : n = l.length) : ∃ p c, v = .slice p n c := by
  obtain ⟨p, c, hv, _⟩ := h.form hk
  subst hn
  exact ⟨p, c, hv⟩
theorem nm_at {l : List ByteArray} {k : Nat} {nm : ByteArray} (hn : l.getD k ⟨#[]⟩ = nm) (h : k < l.length) {w : World} {b : Nat} {t : TypeId} {fr : Nat × Nat} (hb : w.heap[b]? = some (.cells (l.map Value.string).toArray t fr)) : w.cell? ⟨b, k, none⟩ = some (.string nm) := by
  rw [← hn]
  exact text_at h hb
theorem dn_eq : dnames = [⟨#[100]⟩, ⟨#[101]⟩, ⟨#[102]⟩] := rfl
theorem rn_eq : rnames = [⟨#[114, 97]⟩, ⟨#[114, 98]⟩] := rfl
theorem tn_eq : tnames = [⟨#[116, 97]⟩, ⟨#[116, 98]⟩, ⟨#[116, 99]⟩] := rfl
theorem hn_eq : hnames = [⟨#[104, 97]⟩, ⟨#[104, 98]⟩, ⟨#[104, 99]⟩] := rfl
abbrev prC (H : Int) (vd vr vt : Value) : Array Value := #[.int .i64 H, vd, vr, vt]
abbrev scC (nd nr : Value) (all : Bool) : Array Value := #[nd, nr, .int .i64 0, .slice none 0 0, .bool all]
/-- what stands at a round of the first loop -/
structure L1 (gS gP gC B : Nat) (H : Int) (all : Bool) (l : List Dev) (vd nd : Value) (r : List Int) (w : World) : Prop where
  p : w.heap[gP]? = some (.cells (prC H vd (.slice none 0 0) (.slice none 0 0)) 28 (0, 0))
  c : w.heap[gC]? = some (.cells (scC nd (.slice none 0 0) all) 61 (0, 0))
  dv : ERow encD 65 2 w B vd l
  nm : ERow encN 9 1 w B nd (l.map Dev.name)
  src : SrcAt gS w r
  sp : gS < gP
  pc : gP < gC
  cB : gC < B
  bw : B ≤ w.heap.size
/-- what is old and is no box -/
abbrev oldM (g0 gS gP gC B : Nat) (w : World) : World := maskP (fun k => k == g0 || (k == gS || k == gP || k == gC || decide (B ≤ k))) w
theorem oldM_sv {g0 gS gP gC B : Nat} {S : Nat → Prop} {w w' : World} (h : Sv S w w') (hs : ∀ k, S k → k = gS ∨ k = gP ∨ k = gC ∨ B ≤ k) : Sub (oldM g0 gS gP gC B w) (oldM g0 gS gP gC B w') := (Sv.maskP h (fun k hk _ => by
  rcases hs k hk with e | e | e | e <;> simp [e])).sub
theorem oldM_mono {g0 gS gP gC B B' : Nat} (w : World) (h : B ≤ B') : Sub (oldM g0 gS gP gC B w) (oldM g0 gS gP gC B' w) := maskP_sub2 w (fun k hk => by
  simp only [Bool.or_eq_true, beq_iff_eq, decide_eq_true_eq] at hk ⊢
  rcases hk with z | ((e | e) | e) | e
  · exact .inl z
  · exact .inr (.inl (.inl (.inl e)))
  · exact .inr (.inl (.inl (.inr e)))
  · exact .inr (.inl (.inr e))
  · exact .inr (.inr (by omega)))
theorem oldM_last {g0 gS gP gC B : Nat} {w w' : World} (h : Svg g0 w w') : Sub (oldM g0 gS gP gC B w) (elder B w') := (Sv.maskP h (fun k hk _ => by simp [hk])).sub.trans (maskP_sub2 w' (fun k hk => by simp only [decide_eq_true_eq] at hk; simp [hk]))
theorem DevsAt.sub {w w' : World} {p : Option Addr} {l : List Dev} (h : DevsAt w p l) (hb : Sub w w') : DevsAt w' p l := fun j x hj => by
  obtain ⟨hw, b, o, hp, hl, c0, c1⟩ := h j x hj
  exact ⟨hw, b, o, hp, Nat.lt_of_lt_of_le hl hb.size, hb.cell _ _ hl c0, hb.cell _ _ hl c1⟩
theorem RscsAt.sub {w w' : World} {p : Option Addr} {l : List Rsc} (h : RscsAt w p l) (hb : Sub w w') : RscsAt w' p l := fun j x hj => by
  obtain ⟨hw, b, o, hp, hl, c0, c1⟩ := h j x hj
  exact ⟨hw, b, o, hp, Nat.lt_of_lt_of_le hl hb.size, hb.cell _ _ hl c0, hb.cell _ _ hl c1⟩
/-- a row of one's own, from now on static -/
theorem row_static {α : Type} {enc : α → List Value} {T : TypeId} {k n c : Nat} (hk : ∀ x, (enc x).length = k) {w : World} {base : Nat} {p : Option Addr} {l : List α} (h : ERow enc T k w base (.slice p n c) l) {g0 gS gP gC B : Nat} (h0 : g0 < base) (h1 : gS < base) (h2 : gP < base) (h3 : gC < base) (hB : w.heap.size ≤ B) : EncAt enc k (oldM g0 gS gP gC B w) p l := fun j x hj => by
  obtain ⟨p', c', hv, he, hp⟩ := h.form hk
  have hpp : p = p' := by injection hv
  subst hpp
  obtain ⟨b, o, hpo, hb, hc⟩ := he j x hj
  have hge : base ≤ b := (hp _ hpo).1
  have hbs : b < w.heap.size := hb
  refine ⟨b, o, hpo, by rw [maskP_size]; exact hb, fun i v hv => ?_⟩
  rw [maskP_cell w (by simp; omega)]
  exact hc i v hv
theorem devs_of {w : World} {p : Option Addr} {l : List Dev} (h : EncAt encD 2 w p l) (hl : ∀ x ∈ l, isDev x = true) : DevsAt w p l := fun j x hj => by
  obtain ⟨b, o, hp, hb, hc⟩ := h j x hj
  have hx := hl x (List.mem_of_getElem? hj)
  unfold isDev at hx
  rw [Bool.and_eq_true] at hx
  refine ⟨⟨Nat.le_trans (name_size hx.1) (by unfold maxLen; decide), ?_⟩, b, o, hp, hb, hc 0 _ rfl, hc 1 _ rfl⟩
  have h2 := hx.2
  unfold kindT at h2
  by_cases e1 : x.kind = 1
  · rw [e1]; exact ⟨by decide, by decide⟩
  · by_cases e2 : x.kind = 2
    · rw [e2]; exact ⟨by decide, by decide⟩
    · by_cases e3 : x.kind = 3
      · rw [e3]; exact ⟨by decide, by decide⟩
      · rw [if_neg e1, if_neg e2, if_neg e3] at h2; cases h2
theorem rscs_of {w : World} {p : Option Addr} {l : List Rsc} (h : EncAt encR 2 w p l) (hl : ∀ x ∈ l, isRsc x = true) : RscsAt w p l := fun j x hj => by
  obtain ⟨b, o, hp, hb, hc⟩ := h j x hj
  have hx := hl x (List.mem_of_getElem? hj)
  unfold isRsc within at hx
  simp only [Bool.and_eq_true, decide_eq_true_eq] at hx
  exact ⟨⟨Nat.le_trans (name_size hx.1) (by unfold maxLen; decide), ⟨by omega, by omega⟩⟩, b, o, hp, hb, hc 0 _ rfl, hc 1 _ rfl⟩
section
variable {P : Program} {ops : Array Oper} {Q : Exit → Act → World → Prop} {md : Region.Mode} {T : World → Prop} {z : Nat}
theorem takeU (d : Nat) {i : Nat} {oi oz : Oper} {v : Value} {n : Nat} {ls : Array Bool} {a : Act} {w : World} (hi : ops[i]? = some oi) (hd : oi.dst = some d) (hoz : ops[z]? = some oz) (hwz : (oz.after.toList.any fun e => Region.binds md e && e.on == i) = true)
    (hs : Region.noSelect ops = true) (hf : Region.free md ops ls i = true) (hr : (Region.ready md ops ls).contains i = true) (hQ : ∀ c a w, Q (.panic c) (a.put oi.dst v) w → Q (.panic c) a w) (hw : Region.wanted oi (yielded ops a.tmps) = true) (hy : ∀ w, T w → (execOp a.eval oi).run P w = .ok (.value v) w) (hT : T w)
    (h : Upto P md ops Q T z n (ls.setIfInBounds i true) { a with tmps := a.tmps.setIfInBounds d v } w) : Upto P md ops Q T z (n + 1) ls a w :=
  Upto.take hi hoz hwz hs hf hr hQ (Or.inl ⟨hw, hy⟩) hT (by rw [hd]; exact h)
theorem oneU (d : Nat) {i : Nat} {oi : Oper} {n : Nat} {ls : Array Bool} {a : Act} {w : World} (hi : ops[i]? = some oi) (hd : oi.dst = some d) (hr : Region.ready md ops ls = [i]) (hw : Region.wanted oi (yielded ops a.tmps) = true)
    (h : ∀ K : Act → World → Prop, Shut (∀ (v : Value) (w' : World), T w' → (T w' → Upto P md ops Q T z n (ls.setIfInBounds i true) { a with tmps := a.tmps.setIfInBounds d v } w') → K (a.put oi.dst v) w') → Oper.wp P oi a w K Q) : Upto P md ops Q T z (n + 1) ls a w :=
  Upto.ready hr (by simp) (fun j hj => by
    obtain rfl := List.mem_singleton.1 hj
    exact Comes.of d hi hd hw h)
theorem twoU (d1 d2 : Nat) {i1 i2 : Nat} {o1 o2 : Oper} {n : Nat} {ls : Array Bool} {a : Act} {w : World} (h1 : ops[i1]? = some o1) (h2 : ops[i2]? = some o2) (hd1 : o1.dst = some d1) (hd2 : o2.dst = some d2) (hr : Region.ready md ops ls = [i1, i2])
    (hw1 : Region.wanted o1 (yielded ops a.tmps) = true) (hw2 : Region.wanted o2 (yielded ops a.tmps) = true)
    (ha : ∀ K : Act → World → Prop, Shut (∀ (v : Value) (w' : World), T w' → (T w' → Upto P md ops Q T z n (ls.setIfInBounds i1 true) { a with tmps := a.tmps.setIfInBounds d1 v } w') → K (a.put o1.dst v) w') → Oper.wp P o1 a w K Q)
    (hb : ∀ K : Act → World → Prop, Shut (∀ (v : Value) (w' : World), T w' → (T w' → Upto P md ops Q T z n (ls.setIfInBounds i2 true) { a with tmps := a.tmps.setIfInBounds d2 v } w') → K (a.put o2.dst v) w') → Oper.wp P o2 a w K Q) : Upto P md ops Q T z (n + 1) ls a w :=
  Upto.ready hr (by simp) (fun j hj => by
    rcases List.mem_cons.1 hj with rfl | hj
    · exact Comes.of d1 h1 hd1 hw1 ha
    · obtain rfl := List.mem_singleton.1 hj
      exact Comes.of d2 h2 hd2 hw2 hb)
theorem lastU {oi : Oper} {n : Nat} {ls : Array Bool} {a : Act} {w : World} (hi : ops[z]? = some oi) (hd : oi.dst = none) (hr : Region.ready md ops ls = [z]) (hw : Region.wanted oi (yielded ops a.tmps) = true)
    (h : ∀ K : Act → World → Prop, Shut (∀ (v : Value) (w' : World), Upto P md ops Q T z n (ls.setIfInBounds z true) a w' → K a w') → Oper.wp P oi a w K Q) : Upto P md ops Q T z (n + 1) ls a w :=
  Upto.ready hr (by simp) (fun j hj => by
    obtain rfl := List.mem_singleton.1 hj
    exact Comes.last hi hd hw h)
theorem appU {w w' : World} {o : Oper} {a : Act} {K : Act → World → Prop} (s x : Operand) (t : TypeId) (ho : o.op = .call { callee := .builtin .append, args := #[s, x], argTypes := #[t, t] }) (sv xv r : Value) (hs : a.eval s = sv) (hx : a.eval x = xv)
    (hrun : (Builtin.append_ #[t, t] o.type #[sv, xv]).run P w = .ok r w') (h : K (a.put o.dst r) w') : Oper.wp P o a w K Q := by
  unfold Oper.wp
  simp [execOp, ho, resolve, invoke, builtin, hs, hx, hrun, Result.andThen]
  exact h
end
/-- a task, and where its body lies -/
structure PT where
  t : Tsk
  q : Option Addr
  c : Nat
abbrev encT (y : PT) : List Value := [.string y.t.name, .bool y.t.handler, .int .i64 y.t.hart, .int .i64 y.t.prio, .int .i64 y.t.line, .slice y.q y.t.body.length y.c]
theorem tskTy : RowTy encT 6 26 54 72 :=
  ⟨fun _ => rfl, fun x u hu => by simp only [encT, List.mem_cons, List.not_mem_nil, or_false] at hu; rcases hu with rfl | rfl | rfl | rfl | rfl | rfl <;> rfl, Tryz.underlying26, ⟨(Tryz.prog.info? 54).get (by kernel_rfl), ((Tryz.prog.info? 54).get (by kernel_rfl)).zero.get (by kernel_rfl), by kernel_rfl, by kernel_rfl, by kernel_rfl, by kernel_rfl, by kernel_rfl⟩, by decide, by decide⟩
structure Scq (C : Sco) (lD lR : Nat) (all : Bool) : Prop where
  d : lD = C.devs.length
  r : lR = C.rscs.length
  f : C.free = 0
  h : C.held = []
  a : C.any = all
theorem blk_lit {D : Int} {d : Nat} (H : BAtI D d) (hd : d ≤ 100) {C : Sco} (hgc : GoodC C) {lD lR : Nat} {all : Bool} (hq : Scq C lD lR all) {g : Nat} {s t : List Int} {l : List St} {w : World} {p1 p2 : Option Addr} {c1 c2 : Nat} (hb : bodyV d C s = (l, t)) (hC : ScAt g w p1 p2 none C) (hS : SrcAt g w s) :
    Calls Tryz.prog 24 #[.agg #[.slice p1 lD c1, .slice p2 lR c2, .int .i64 0, .slice none 0 0, .bool all], .pointer (some ⟨g, 0, none⟩), .int .i64 D] w fun e w' => ∃ q cq, e = .returned (.slice q l.length cq) ∧ l.length ≤ 3 ∧ SAt (young w.heap.size w') q l ∧ Svg g w w' ∧ SrcAt g w' t := by
  obtain ⟨h1, h2, h3, h4, h5⟩ := hq
  have h := H C hgc (by rw [h4]; show 0 + d ≤ 900; omega) g s t l w p1 p2 none c1 c2 0 hb hC hS
  have e : scV p1 c1 p2 c2 none 0 C = .agg #[.slice p1 lD c1, .slice p2 lR c2, .int .i64 0, .slice none 0 0, .bool all] := by
    rw [h1, h2, ← h5]
    show Value.agg #[_, _, .int .i64 (C.free : Int), .slice none C.held.length 0, _] = _
    rw [h3, h4]
    rfl
  rw [e] at h
  exact h
structure TOk (w : World) (y : PT) : Prop where
  wf : isTsk y.t = true
  len : y.t.body.length ≤ 3
  body : SAt w y.q y.t.body
theorem TOk.sub {w w' : World} {y : PT} (h : TOk w y) (hs : Sub w w') : TOk w' y := ⟨h.wf, h.len, h.body.sub hs⟩
/-- what stands at a round of the third loop and of the fourth -/
structure L3 (g0 gS gP gC B : Nat) (H : Int) (all : Bool) (dl : List Dev) (pd : Option Addr) (cd : Nat) (rl : List Rsc) (pr : Option Addr) (cr : Nat) (C : Sco) (lD : Nat) (pn : Option Addr) (cn : Nat) (lR : Nat) (pm : Option Addr) (cm : Nat) (l : List PT) (vt : Value) (r : List Int) (w : World) : Prop where
  p : w.heap[gP]? = some (.cells (prC H (.slice pd dl.length cd) (.slice pr rl.length cr) vt) 28 (0, 0))
  c : w.heap[gC]? = some (.cells #[.slice pn lD cn, .slice pm lR cm, .int .i64 0, .slice none 0 0, .bool all] 61 (0, 0))
  tv : ERow encT 54 6 w B vt l
  tk : ∀ y ∈ l, TOk (keepW B vt w) y
  src : SrcAt gS w r
  sp : gS < gP
  pc : gP < gC
  cB : gC < B
  bw : B ≤ w.heap.size
  ds : DevsAt (oldM g0 gS gP gC B w) pd dl
  rs : RscsAt (oldM g0 gS gP gC B w) pr rl
  ns : NmsAt (oldM g0 gS gP gC B w) pn C.devs
  ms : NmsAt (oldM g0 gS gP gC B w) pm C.rscs
  sq : Scq C lD lR all
theorem L3.step {g0 gS gP gC B : Nat} {H : Int} {all : Bool} {dl : List Dev} {pd : Option Addr} {cd : Nat} {rl : List Rsc} {pr : Option Addr} {cr : Nat} {C : Sco} {lD : Nat} {pn : Option Addr} {cn lR : Nat} {pm : Option Addr} {cm : Nat} {l : List PT} {vt : Value} {r r' : List Int} {w w' : World} (h : L3 g0 gS gP gC B H all dl pd cd rl pr cr C lD pn cn lR pm cm l vt r w) (hv : Svg gS w w') (hs : SrcAt gS w' r') : L3 g0 gS gP gC B H all dl pd cd rl pr cr C lD pn cn lR pm cm l vt r' w' := by
  have h1 := h.sp
  have h2 := h.pc
  have h3 := h.cB
  have hR : Sub (oldM g0 gS gP gC B w) (oldM g0 gS gP gC B w') := oldM_sv hv (fun k hk => .inl hk)
  exact ⟨hv.stays h.p (by omega), hv.stays h.c (by omega), h.tv.sv hv (fun b hb e => by have := own_ge h.tv b hb; omega), fun y hy => (h.tk y hy).sub (keepW_sv hv (by omega)), hs, h1, h2, h3, Nat.le_trans h.bw hv.size, h.ds.sub hR, h.rs.sub hR, h.ns.sub hR, h.ms.sub hR, h.sq⟩
theorem set4 {w : World} {g : Nat} {a0 a1 a2 a3 b0 b1 b2 b3 : Value} {t : TypeId} (h : w.heap[g]? = some (.cells #[a0, a1, a2, a3] t (0, 0))) : ((((w.setCell ⟨g, 0, none⟩ b0).setCell ⟨g, 1, none⟩ b1).setCell ⟨g, 2, none⟩ b2).setCell ⟨g, 3, none⟩ b3).heap[g]? = some (.cells #[b0, b1, b2, b3] t (0, 0)) := by
  simp [World.setCell, Array.getElem?_modify, h]
theorem sv4 (k : Nat) (w : World) (b0 b1 b2 b3 : Value) : Svg k w ((((w.setCell ⟨k, 0, none⟩ b0).setCell ⟨k, 1, none⟩ b1).setCell ⟨k, 2, none⟩ b2).setCell ⟨k, 3, none⟩ b3) :=
  (((Svg.set k _ _ _).trans (Svg.set k _ _ _)).trans (Svg.set k _ _ _)).trans (Svg.set k _ _ _)
/-- a program of the law's own: its tasks in a row of their own, what else it has elsewhere -/
structure ProgAt (w W : World) (p : Prg) (q1 q2 q3 : Option Addr) (c3 : Nat) : Prop where
  bel : Bel w W
  ex : ∃ (B : Nat) (l : List PT), w.heap.size ≤ B ∧ p.tasks = l.map PT.t ∧ ERow encT 54 6 W B (.slice q3 l.length c3) l ∧ (∀ y ∈ l, TOk (keepW B (.slice q3 l.length c3) W) y) ∧ DevsAt (elder B W) q1 p.devs ∧ RscsAt (elder B W) q2 p.rscs
/-- what stands at a round of the second loop -/
structure L2 (g0 gS gP gC B : Nat) (H : Int) (all : Bool) (dl : List Dev) (pd : Option Addr) (cd : Nat) (pn : Option Addr) (cn : Nat) (l : List Rsc) (vd nd : Value) (r : List Int) (w : World) : Prop where
  p : w.heap[gP]? = some (.cells (prC H (.slice pd dl.length cd) vd (.slice none 0 0)) 28 (0, 0))
  c : w.heap[gC]? = some (.cells (scC (.slice pn dl.length cn) nd all) 61 (0, 0))
  dv : ERow encR 67 2 w B vd l
  nm : ERow encN 9 1 w B nd (l.map Rsc.name)
  src : SrcAt gS w r
  sp : gS < gP
  pc : gP < gC
  cB : gC < B
  bw : B ≤ w.heap.size
  ds : DevsAt (oldM g0 gS gP gC B w) pd dl
  ns : NmsAt (oldM g0 gS gP gC B w) pn (dl.map Dev.name)
end Go.Proofs.YthlnjnmomnpnpaaGreatDoor
