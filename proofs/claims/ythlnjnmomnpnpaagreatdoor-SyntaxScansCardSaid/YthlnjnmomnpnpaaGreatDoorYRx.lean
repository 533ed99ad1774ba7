/- The law's expressions out of raw numbers. -/
import Derived.Test.YthlnjnmomnpnpaaGreatDoorYName
import Derived.Test.YthlnjnmomnpnpaaGreatDoorYAwkP
namespace Go.Proofs.YthlnjnmomnpnpaaGreatDoor
open Go.RowKit Tk Sy
set_option linter.unusedVariables false
set_option linter.unusedSimpArgs false
section
variable {P : Program} {ops : Array Oper} {Q : Exit → Act → World → Prop} {md : Region.Mode} {S : World → Prop}
/-- the only one that may come up is carried out: it writes no slot -/
theorem onlyN {i : Nat} {oi : Oper} {fuel : Nat} {listed : Array Bool} {a : Act} {w : World} (hi : ops[i]? = some oi) (hd : oi.dst = none) (hr : Region.ready md ops listed = [i])
    (hw : Region.wanted oi (yielded ops a.tmps) = true)
    (h : ∀ K : Act → World → Prop, Shut (∀ (v : Value) (w' : World), S w' → (S w' → wpAnyH P md ops Q S fuel (listed.setIfInBounds i true) a w') → K a w') → Oper.wp P oi a w K Q) : wpAnyH P md ops Q S (fuel + 1) listed a w := by
  refine wpAnyH_ready (rs := [i]) hr (by simp) ?_
  refine AllReadyH.cons hi (fun K hK => ?_) AllReadyH.nil
  rw [if_pos hw]
  refine h K (fun v w' hS hn => ?_)
  have := hK (a.put oi.dst v) w' hS (fun hS => by rw [hd]; exact hn hS)
  rw [hd] at this
  exact this
end
theorem new2 (w : World) (c0 c1 : Array Value) (t0 t1 : TypeId) : Bel w ((w.alloc (.cells c0 t0)).alloc (.cells c1 t1)) ∧
    ((w.alloc (.cells c0 t0)).alloc (.cells c1 t1)).heap[w.heap.size]? = some (.cells c0 t0 (0, 0)) ∧
    ((w.alloc (.cells c0 t0)).alloc (.cells c1 t1)).heap[w.heap.size + 1]? = some (.cells c1 t1 (0, 0)) := by
  have h0 := heap_alloc_new w (.cells c0 t0)
  have h1 := heap_alloc_new (w.alloc (.cells c0 t0)) (.cells c1 t1)
  simp only [World.size_alloc] at h1
  exact ⟨((Bel.refl w).alloc _ _).alloc _ _, ((Bel.refl _).alloc _ _).stays h0, h1⟩
/-- but for two blocks nothing has turned -/
abbrev Sv2 (g k : Nat) (w w' : World) : Prop := Sv (fun x => x = g ∨ x = k) w w'
theorem Sv.mono {S T : Nat → Prop} {w w' : World} (h : Sv S w w') (hs : ∀ k, S k → T k) : Sv T w w' := ⟨h.os, h.tape, h.output, h.size, fun k hk hn => h.block k hk (fun c => hn (hs k c))⟩
theorem Svg.two {g : Nat} {w w' : World} (h : Svg g w w') (k : Nat) : Sv2 g k w w' := Sv.mono h (fun _ e => .inl e)
theorem Sv2.set (g k : Nat) (w : World) (a : Addr) (h : a.block = k) (v : Value) : Sv2 g k w (w.setCell a v) := ⟨rfl, rfl, rfl, by simp [World.setCell], fun j _ hj => Below.heap_setCell _ _ _ _ (fun e => hj (.inr (e.trans h)))⟩
/-- what was ahead of a block that is new -/
theorem Sv2.svg {g k : Nat} {w0 w w' : World} (h : Sv2 g k w w') (h0 : Bel w0 w) (hk : w0.heap.size ≤ k) : Svg g w0 w' := ⟨h.os.trans h0.os, h.tape.trans h0.tape, h.output.trans h0.output, Nat.le_trans h0.size h.size, fun j hj hn => (h.block j (Nat.lt_of_lt_of_le hj h0.size) (by rintro (e | e); exact hn e; omega)).trans (h0.block j hj)⟩
theorem Sv2.stays {g k j : Nat} {w w' : World} (h : Sv2 g k w w') {o : Obj} (hj : w.heap[j]? = some o) (h1 : j ≠ g) (h2 : j ≠ k) : w'.heap[j]? = some o := (h.block j (lt_of_heap hj) (by rintro (e | e); exact h1 e; exact h2 e)).trans hj
theorem Svg.stays {g j : Nat} {w w' : World} (h : Svg g w w') {o : Obj} (hj : w.heap[j]? = some o) (h1 : j ≠ g) : w'.heap[j]? = some o := (h.block j (lt_of_heap hj) h1).trans hj
/-- the scope in a box -/
def SBox (b : Nat) (p1 : Option Addr) (c1 : Nat) (p2 : Option Addr) (c2 : Nat) (p3 : Option Addr) (c3 : Nat) (c : Sco) (w : World) : Prop := w.cell? ⟨b, 0, none⟩ = some (.slice p1 c.devs.length c1) ∧ w.cell? ⟨b, 1, none⟩ = some (.slice p2 c.rscs.length c2) ∧ w.cell? ⟨b, 2, none⟩ = some (.int .i64 c.free) ∧ w.cell? ⟨b, 3, none⟩ = some (.slice p3 c.held.length c3) ∧ w.cell? ⟨b, 4, none⟩ = some (.bool c.any)
theorem SBox.of {b : Nat} {p1 p2 p3 : Option Addr} {c1 c2 c3 : Nat} {c : Sco} {w : World} {t : TypeId} {fr : Nat × Nat} (h : w.heap[b]? = some (.cells (scA p1 c1 p2 c2 p3 c3 c) t fr)) : SBox b p1 c1 p2 c2 p3 c3 c w := ⟨cell_of_heap h 0, cell_of_heap h 1, cell_of_heap h 2, cell_of_heap h 3, cell_of_heap h 4⟩
/-- what a scope speaks of lies in memory -/
structure ScAt (g : Nat) (w : World) (p1 p2 p3 : Option Addr) (c : Sco) : Prop where
  devs : NmsAt (mask g w) p1 c.devs
  rscs : NmsAt (mask g w) p2 c.rscs
  held : NmsAt (mask g w) p3 c.held
  ld : c.devs.length ≤ 1000
  lr : c.rscs.length ≤ 1000
  lh : c.held.length ≤ 1000
  lf : c.free ≤ 1000
theorem ScAt.svg {g : Nat} {w w' : World} {p1 p2 p3 : Option Addr} {c : Sco} (h : ScAt g w p1 p2 p3 c) (hv : Svg g w w') (hg : g < w.heap.size) : ScAt g w' p1 p2 p3 c := ⟨h.devs.bel (hv.mask hg), h.rscs.bel (hv.mask hg), h.held.bel (hv.mask hg), h.ld, h.lr, h.lh, h.lf⟩
theorem lit_nm {l : List ByteArray} {w : World} {b : Nat} {t : TypeId} {fr : Nat × Nat} (h : w.heap[b]? = some (.cells (l.map Value.string).toArray t fr)) (hl : ∀ x ∈ l, x.size ≤ maxLen) : NmsAt w (some ⟨b, 0, none⟩) l := fun j x hj => by
  refine ⟨hl x (List.mem_of_getElem? hj), b, 0, rfl, lt_of_heap h, ?_⟩
  rw [cell_of_heap h, Nat.zero_add, List.getElem?_toArray, List.getElem?_map, hj]
  rfl
theorem xyz_size : ∀ x ∈ xyz, x.size ≤ maxLen := fun x hx => Nat.le_trans (name_size (xyz_ok x hx)) (by unfold maxLen; decide)
abbrev zeroE : Array Value := #[.int .i64 0, .int .i64 0, .int .i64 0, .string ⟨#[]⟩, .slice none 0 0]
theorem wf_int {n : Int} (h0 : -100 ≤ n) (h1 : n ≤ 4294967295) : inI n := ⟨by omega, by omega⟩
theorem wfE_mk {k o n : Int} {m : ByteArray} {l : List Ex} (hk : 0 ≤ k ∧ k ≤ 100) (ho : 0 ≤ o ∧ o ≤ 100) (hn : 0 ≤ n ∧ n ≤ 4294967295) (hm : m.size ≤ 20) (hl : l.length ≤ 2) : WfE (.mk k o n m l) :=
  ⟨⟨by show _ ≤ k; omega, by show k ≤ _; omega⟩, ⟨by show _ ≤ o; omega, by show o ≤ _; omega⟩, ⟨by show _ ≤ n; omega, by show n ≤ _; omega⟩, Nat.le_trans hm (by unfold maxLen; decide), Nat.le_trans hl (by decide)⟩
theorem num_cases (s : List Int) : ((nx (nx (nx (nx s 10).2 300).2 4294967296).2 3).1 = 0 ∧ numVal s = (nx s 10).1) ∨ ((nx (nx (nx (nx s 10).2 300).2 4294967296).2 3).1 = 1 ∧ numVal s = (nx (nx s 10).2 300).1) ∨ ((nx (nx (nx (nx s 10).2 300).2 4294967296).2 3).1 = 2 ∧ numVal s = (nx (nx (nx s 10).2 300).2 4294967296).1) := by
  have hj := nx_bd (nx (nx (nx s 10).2 300).2 4294967296).2 (n := 3) (by omega)
  unfold numVal
  by_cases h0 : (nx (nx (nx (nx s 10).2 300).2 4294967296).2 3).1 = 0
  · exact .inl ⟨h0, by rw [if_pos h0]⟩
  · by_cases h1 : (nx (nx (nx (nx s 10).2 300).2 4294967296).2 3).1 = 1
    · exact .inr (.inl ⟨h1, by rw [if_neg h0, if_pos h1]⟩)
    · exact .inr (.inr ⟨by omega, by rw [if_neg h0, if_neg h1]⟩)
def XAt (c : Sco) (d : Nat) : Prop := ∀ (g : Nat) (s t : List Int) (x : Ex) (w : World) (p1 p2 p3 : Option Addr) (c1 c2 c3 : Nat), exprV c d s = (x, t) → ScAt g w p1 p2 p3 c → SrcAt g w s →
  Calls Tryz.prog 23 #[scV p1 c1 p2 c2 p3 c3 c, .pointer (some ⟨g, 0, none⟩), .int .i64 (d : Int)] w fun e w' => ∃ q cq, e = .returned (exV q cq x) ∧ WfE x ∧ EAt (young w.heap.size w') q x.args ∧ Svg g w w' ∧ SrcAt g w' t
theorem Sv2.svg' {g k : Nat} {w0 w w' : World} (h : Sv2 g k w w') (h0 : Svg g w0 w) (hk : w0.heap.size ≤ k) : Svg g w0 w' := ⟨h.os.trans h0.os, h.tape.trans h0.tape, h.output.trans h0.output, Nat.le_trans h0.size h.size, fun j hj hn => (h.block j (Nat.lt_of_lt_of_le hj h0.size) (by rintro (e | e); exact hn e; omega)).trans (h0.block j hj hn)⟩
theorem set5 {w : World} {g : Nat} {a0 a1 a2 a3 a4 b0 b1 b2 b3 b4 : Value} {t : TypeId} (h : w.heap[g]? = some (.cells #[a0, a1, a2, a3, a4] t (0, 0))) : (((((w.setCell ⟨g, 0, none⟩ b0).setCell ⟨g, 1, none⟩ b1).setCell ⟨g, 2, none⟩ b2).setCell ⟨g, 3, none⟩ b3).setCell ⟨g, 4, none⟩ b4).heap[g]? = some (.cells #[b0, b1, b2, b3, b4] t (0, 0)) := by
  simp [World.setCell, Array.getElem?_modify, h]
theorem sv5 (k : Nat) (w : World) (b0 b1 b2 b3 b4 : Value) : Svg k w (((((w.setCell ⟨k, 0, none⟩ b0).setCell ⟨k, 1, none⟩ b1).setCell ⟨k, 2, none⟩ b2).setCell ⟨k, 3, none⟩ b3).setCell ⟨k, 4, none⟩ b4) :=
  ((((Svg.set k _ _ _).trans (Svg.set k _ _ _)).trans (Svg.set k _ _ _)).trans (Svg.set k _ _ _)).trans (Svg.set k _ _ _)
theorem setRow_svg (k : Nat) (w : World) (cs : Array Value) : Svg k w (w.setRow k cs) := sv_setRow (g := k) (fun x => x = k) (Or.inl rfl) cs
theorem Svg.two' {k : Nat} {w w' : World} (h : Svg k w w') (g : Nat) : Sv2 g k w w' := Sv.mono h (fun _ e => .inr e)
theorem Sv2.young {g k B : Nat} {w w' : World} (h : Sv2 g k w w') (hg : g < B) (hk : k < B) : Bel (young B w) (young B w') := Sv.maskP h (fun j hj _ => by rcases hj with e | e <;> simp <;> omega)
theorem Svg.young {g B : Nat} {w w' : World} (h : Svg g w w') (hg : g < B) : Bel (young B w) (young B w') := Sv.maskP h (fun j hj _ => by simp; omega)
theorem keepE {B B' k : Nat} {w w' : World} {q : Option Addr} {l : List Ex} (h : EAt (young B w) q l) (hv : Svg k w w') (hk : k < B) (hB : B' ≤ B) : EAt (young B' w') q l := (h.bel (hv.young hk)).sub (young_sub _ hB)
/-- the end: what lies in the result's block is handed back -/
theorem expr_fin {g g2 cq : Nat} {w w6 WF : World} {t : List Int} {x : Ex} {q : Option Addr} {a : Act} (ha : a.tmps.getD 6 undef = .pointer (some ⟨g2, 0, none⟩)) (hd : a.defers = []) (HX : WF.heap[g2]? = some (.cells (exA q cq x) 40 (0, 0)))
    (hV : Svg g w w6) (hF : Svg g2 w6 WF) (hw : w.heap.size ≤ g2) (hg : g < g2) (hs : SrcAt g w6 t) (hwf : WfE x) (hE : EAt (young w.heap.size WF) q x.args) :
    bodyPost Tryz.prog Tryz.f23 (fun e w' => ∃ q cq, e = .returned (exV q cq x) ∧ WfE x ∧ EAt (young w.heap.size w') q x.args ∧ Svg g w w' ∧ SrcAt g w' t) Exit.ret a WF := by
  refine bodyPost_ret (v := exV q cq x) (results_cell_row Tryz.results23 _ _ g2 _ _ _ _ ha HX Tryz.underlying40 rfl (by kernel_rfl)) hd ?_
  exact ⟨q, cq, rfl, hwf, hE, (hF.two' g).svg' hV hw, hs.sv hF (fun j hj => by subst hj; exact hg)⟩
set_option maxRecDepth 100000 in
set_option maxHeartbeats 8000000 in
theorem expr_num (c : Sco) (d : Nat) (g : Nat) (s s0 s1 s2 s3 t : List Int) (k a b m j n : Int) (w : World) (p1 p2 p3 : Option Addr) (c1 c2 c3 : Nat) (hk : nx s 8 = (k, s0)) (h1 : nx s0 10 = (a, s1)) (h2 : nx s1 300 = (b, s2)) (h3 : nx s2 4294967296 = (m, s3)) (h4 : nx s3 3 = (j, t))
    (hj : (j = 0 ∧ n = a) ∨ (j = 1 ∧ n = b) ∨ (j = 2 ∧ n = m)) (hd : d = 0 ∨ k < 2) (hn : 0 ≤ n ∧ n ≤ 4294967295) (hC : ScAt g w p1 p2 p3 c) (hS : SrcAt g w s) :
    Calls Tryz.prog 23 #[scV p1 c1 p2 c2 p3 c3 c, .pointer (some ⟨g, 0, none⟩), .int .i64 (d : Int)] w fun e w' => ∃ q cq, e = .returned (exV q cq (.mk 1 0 n ⟨#[]⟩ [])) ∧ WfE (.mk 1 0 n ⟨#[]⟩ []) ∧ EAt (young w.heap.size w') q [] ∧ Svg g w w' ∧ SrcAt g w' t := by
  have HC0 := Lib.hid hC
  have HS0 := Lib.hid hS
  have HK := Lib.hid hk
  have H1 := Lib.hid h1
  have H2 := Lib.hid h2
  have H3 := Lib.hid h3
  have H4 := Lib.hid h4
  have HN := Lib.hid hn
  clear hC hS hk h1 h2 h3 h4 hn
  have hq : d = 0 ∨ ((d : Int) < 1) = False ∧ (k < 2) = True := by
    rcases hd with e | e
    · exact .inl e
    · by_cases h : d = 0
      · exact .inl h
      · exact .inr ⟨by simp; omega, by simp [e]⟩
  clear hd
  rcases hq with rfl | ⟨hd1, hk2⟩ <;> rcases hj with ⟨rfl, hnv⟩ | ⟨rfl, hnv⟩ | ⟨rfl, hnv⟩
  all_goals
    have HNV := Lib.hid hnv
    clear hnv
    go_enter Tryz.func23, Tryz.ntmps23
    go_upto_region 1 with (fail)
    obtain ⟨n0, n1, n2⟩ := new2 w (scA p1 c1 p2 c2 p3 c3 c) zeroE 61 40
    generalize (w.alloc (.cells (scA p1 c1 p2 c2 p3 c3 c) 61)).alloc (.cells zeroE 40) = W1 at n0 n1 n2 ⊢
    generalize hg2 : w.heap.size + 1 = g2 at n2 ⊢
    generalize hg1 : w.heap.size = g1 at n1 ⊢
    have HB := Lib.hid n0
    have HX1 := Lib.hid n1
    have HX2 := Lib.hid n2
    have HS := Lib.hid (HS0.out.bel n0)
    have HC := Lib.hid (HC0.out.svg (n0.svg g) HS0.out.lt)
    have HGS : Hid (g < w.heap.size ∧ g1 ≠ g ∧ g2 ≠ g ∧ g1 ≠ g2 ∧ w.heap.size ≤ g2) := Lib.hid (by have := HS0.out.lt; omega)
    clear n0 n1 n2 hg1 hg2
    have HV := Lib.hid (Svg.refl g W1)
    go_wp2_with fail
    refine (next_lit HK.out (by decide) _ HS.out).mono ?_
    rintro e w2 ⟨rfl, hv, hs⟩
    have HS := Lib.hid hs
    have HV := Lib.hid (HV.out.trans hv)
    clear hv hs
    go_wp2_with fail
    refine (next_lit H1.out (by decide) _ HS.out).mono ?_
    rintro e w2 ⟨rfl, hv, hs⟩
    have HS := Lib.hid hs
    have HV := Lib.hid (HV.out.trans hv)
    clear hv hs
    go_wp2_with fail
    refine (next_lit H2.out (by decide) _ HS.out).mono ?_
    rintro e w2 ⟨rfl, hv, hs⟩
    have HS := Lib.hid hs
    have HV := Lib.hid (HV.out.trans hv)
    clear hv hs
    go_wp2_with fail
    refine (next_lit H3.out (by decide) _ HS.out).mono ?_
    rintro e w2 ⟨rfl, hv, hs⟩
    have HS := Lib.hid hs
    have HV := Lib.hid (HV.out.trans hv)
    clear hv hs
    go_wp2_with fail
    have hb5 := (Bel.refl w2).alloc #[.int .i64 a, .int .i64 b, .int .i64 m] 3
    have hx5 := heap_alloc_new w2 (.cells #[.int .i64 a, .int .i64 b, .int .i64 m] 3)
    have hg5 : w2.heap.size ≠ g := by have := HS.out.lt; omega
    generalize w2.alloc (.cells #[.int .i64 a, .int .i64 b, .int .i64 m] 3) = W5 at hb5 hx5 ⊢
    generalize w2.heap.size = g5 at hx5 hg5 ⊢
    refine (next_lit H4.out (by decide) _ (HS.out.bel hb5)).mono ?_
    rintro e w6 ⟨rfl, hv, hs⟩
    have HS := Lib.hid hs
    have HV := Lib.hid ((HV.out.trans (hb5.svg g)).trans hv)
    have hx6 := hv.stays hx5 hg5
    clear hb5 hx5 hs hv
    have k0 := cell_of_heap hx6 0
    have k1 := cell_of_heap hx6 1
    have k2 := cell_of_heap hx6 2
    have hx7 := HV.out.stays HX2.out HGS.out.2.2.1
    have z0 := cell_of_heap hx7 0
    have z1 := cell_of_heap hx7 1
    have z2 := cell_of_heap hx7 2
    have z3 := cell_of_heap hx7 3
    have z4 := cell_of_heap hx7 4
    have f0 := frozen_of_heap hx7 0
    have f1 := frozen_of_heap hx7 1
    have f2 := frozen_of_heap hx7 2
    have f3 := frozen_of_heap hx7 3
    have f4 := frozen_of_heap hx7 4
    simp only [List.getElem?_toArray, List.getElem?_cons_zero, List.getElem?_cons_succ] at z0 z1 z2 z3 z4
    simp only [List.getElem?_toArray, List.getElem?_cons_zero, List.getElem?_cons_succ] at k0 k1 k2
    clear hx6
    go_wp2_with fail
    have hnv := HNV.out
    subst hnv
    refine expr_fin (g2 := g2) (w6 := w6) rfl rfl (set5 hx7) (Svg.of HB.out HV.out) (sv5 g2 w6 _ _ _ _ _) HGS.out.2.2.2.2 (by have := HGS.out; omega) HS.out ?_ (EAt.nil _ _)
    exact wfE_mk ⟨by decide, by decide⟩ ⟨by decide, by decide⟩ HN.out (by decide) (by decide)
set_option maxRecDepth 100000 in
set_option maxHeartbeats 8000000 in
theorem expr_var (c : Sco) (d : Nat) (hd : d ≤ 100) (g : Nat) (s s0 t : List Int) (k : Int) (nm : ByteArray) (w : World) (p1 p2 p3 : Option Addr) (c1 c2 c3 : Nat) (hk : nx s 8 = (k, s0)) (hk2 : k = 2 ∨ k = 3) (hnm : nameV c xyz s0 = (nm, t)) (hsz : nm.size ≤ 20) (hC : ScAt g w p1 p2 p3 c) (hS : SrcAt g w s) :
    Calls Tryz.prog 23 #[scV p1 c1 p2 c2 p3 c3 c, .pointer (some ⟨g, 0, none⟩), .int .i64 ((d : Int) + 1)] w fun e w' => ∃ q cq, e = .returned (exV q cq (Ex.mk 2 0 0 nm [])) ∧ WfE (Ex.mk 2 0 0 nm []) ∧ EAt (young w.heap.size w') q (Ex.mk 2 0 0 nm []).args ∧ Svg g w w' ∧ SrcAt g w' t := by
  have HC0 := Lib.hid hC
  have HS0 := Lib.hid hS
  have HK := Lib.hid hk
  have HNM := Lib.hid hnm
  have HSZ := Lib.hid hsz
  clear hC hS hk hnm hsz
  have hd1 : ((d : Int) + 1 < 1) = False := by simp; omega
  have hd2 : IntKind.i64.wrap (d : Int) = (d : Int) := IntWalk.i64_in _ (by constructor <;> omega)
  rcases hk2 with rfl | rfl
  all_goals
    have HSZ0 := HSZ
    go_enter Tryz.func23, Tryz.ntmps23
    go_upto_region 1 with (fail)
    obtain ⟨n0, n1, n2⟩ := new2 w (scA p1 c1 p2 c2 p3 c3 c) zeroE 61 40
    generalize (w.alloc (.cells (scA p1 c1 p2 c2 p3 c3 c) 61)).alloc (.cells zeroE 40) = W1 at n0 n1 n2 ⊢
    generalize hg2 : w.heap.size + 1 = g2 at n2 ⊢
    generalize hg1 : w.heap.size = g1 at n1 ⊢
    have HB := Lib.hid n0
    have HX1 := Lib.hid n1
    have HX2 := Lib.hid n2
    have HS := Lib.hid (HS0.out.bel n0)
    have HC := Lib.hid (HC0.out.svg (n0.svg g) HS0.out.lt)
    have HGS : Hid (g < w.heap.size ∧ g1 ≠ g ∧ g2 ≠ g ∧ g1 ≠ g2 ∧ w.heap.size ≤ g2) := Lib.hid (by have := HS0.out.lt; omega)
    clear n0 n1 n2 hg1 hg2
    have HV := Lib.hid (Svg.refl g W1)
    have HKEEP : Hid (∀ W' : World, Sv2 g g2 W1 W' → SBox g1 p1 c1 p2 c2 p3 c3 c W') := Lib.hid (fun W' hv => SBox.of (hv.stays HX1.out HGS.out.2.1 HGS.out.2.2.2.1))
    have HSZ : Hid (∀ W' : World, Svg g W1 W' → g < W'.heap.size ∧ g2 < W'.heap.size ∧ w.heap.size ≤ W'.heap.size) := Lib.hid (fun W' hv => by have h1 := hv.size; have h2 := lt_of_heap HX2.out; have h3 := HB.out.size; have h4 := HGS.out.1; omega)
    go_wp2_with fail
    refine (next_lit HK.out (by decide) _ HS.out).mono ?_
    rintro e w2 ⟨rfl, hv, hs⟩
    have HS := Lib.hid hs
    have HV := Lib.hid (HV.out.trans hv)
    clear hv hs
    go_upto_region 5 with (fail)
    obtain ⟨d0, d1, d2, d3, d4⟩ := HKEEP.out _ (HV.out.two g2)
    go_wp2_with fail
    clear d0 d1 d2 d3 d4
    have hb5 := (Bel.refl w2).alloc #[.string ⟨#[120]⟩, .string ⟨#[121]⟩, .string ⟨#[122]⟩] 9
    have hx5 := heap_alloc_new w2 (.cells #[.string ⟨#[120]⟩, .string ⟨#[121]⟩, .string ⟨#[122]⟩] 9)
    have hg5 : w2.heap.size ≠ g := by have := HS.out.lt; omega
    generalize w2.alloc (.cells #[.string ⟨#[120]⟩, .string ⟨#[121]⟩, .string ⟨#[122]⟩] 9) = W5 at hb5 hx5 ⊢
    generalize w2.heap.size = g5 at hx5 hg5 ⊢
    refine (scname_lit HNM.out W5 (p := some ⟨g5, 0, none⟩) (n := 3) rfl (lit_nm (l := xyz) (mask_heap hx5 hg5) xyz_size) (by decide) (HS.out.bel hb5)).mono ?_
    rintro e w6 ⟨rfl, hv, hs⟩
    have HS := Lib.hid hs
    have HV := Lib.hid ((HV.out.trans (hb5.svg g)).trans hv)
    clear hb5 hx5 hs hv
    have hx7 := HV.out.stays HX2.out HGS.out.2.2.1
    have z0 := cell_of_heap hx7 0
    have z1 := cell_of_heap hx7 1
    have z2 := cell_of_heap hx7 2
    have z3 := cell_of_heap hx7 3
    have z4 := cell_of_heap hx7 4
    have f0 := frozen_of_heap hx7 0
    have f1 := frozen_of_heap hx7 1
    have f2 := frozen_of_heap hx7 2
    have f3 := frozen_of_heap hx7 3
    have f4 := frozen_of_heap hx7 4
    simp only [List.getElem?_toArray, List.getElem?_cons_zero, List.getElem?_cons_succ] at z0 z1 z2 z3 z4
    go_wp2_with fail
    refine expr_fin (x := Ex.mk 2 0 0 nm []) (q := none) (cq := 0) (g2 := g2) (w6 := w6) rfl rfl (set5 hx7) (Svg.of HB.out HV.out) (sv5 g2 w6 _ _ _ _ _) HGS.out.2.2.2.2 (by have := HGS.out; omega) HS.out ?_ (EAt.nil _ _)
    exact wfE_mk ⟨by decide, by decide⟩ ⟨by decide, by decide⟩ ⟨by decide, by decide⟩ HSZ0.out (by decide)
set_option maxRecDepth 100000 in
set_option maxHeartbeats 8000000 in
theorem expr_one (c : Sco) (d : Nat) (hd : d ≤ 100) (g : Nat) (s s0 t : List Int) (s1 : List Int) (o : Int) (x : Ex) (w : World) (p1 p2 p3 : Option Addr) (c1 c2 c3 : Nat) (hk : nx s 8 = (4, s0)) (ho : nx s0 3 = (o, s1)) (hob : 0 ≤ o ∧ o < 3) (ih : XAt c d) (hx : exprV c d s1 = (x, t)) (hC : ScAt g w p1 p2 p3 c) (hS : SrcAt g w s) :
    Calls Tryz.prog 23 #[scV p1 c1 p2 c2 p3 c3 c, .pointer (some ⟨g, 0, none⟩), .int .i64 ((d : Int) + 1)] w fun e w' => ∃ q cq, e = .returned (exV q cq (Ex.mk 3 (15 + o) 0 ⟨#[]⟩ [x])) ∧ WfE (Ex.mk 3 (15 + o) 0 ⟨#[]⟩ [x]) ∧ EAt (young w.heap.size w') q (Ex.mk 3 (15 + o) 0 ⟨#[]⟩ [x]).args ∧ Svg g w w' ∧ SrcAt g w' t := by
  have HC0 := Lib.hid hC
  have HS0 := Lib.hid hS
  have HK := Lib.hid hk
  have HO := Lib.hid ho
  have HX := Lib.hid hx
  clear hC hS hk ho hx
  have hd1 : ((d : Int) + 1 < 1) = False := by simp; omega
  have hd2 : IntKind.i64.wrap (d : Int) = (d : Int) := IntWalk.i64_in _ (by constructor <;> omega)
  have IH := Lib.hid ih
  have HOB := Lib.hid hob
  clear ih
  have hv15 : IntKind.i64.wrap (15 + o) = 15 + o := IntWalk.i64_in _ (by constructor <;> omega)
  clear hob
  go_enter Tryz.func23, Tryz.ntmps23
  go_upto_region 1 with (fail)
  obtain ⟨n0, n1, n2⟩ := new2 w (scA p1 c1 p2 c2 p3 c3 c) zeroE 61 40
  generalize (w.alloc (.cells (scA p1 c1 p2 c2 p3 c3 c) 61)).alloc (.cells zeroE 40) = W1 at n0 n1 n2 ⊢
  generalize hg2 : w.heap.size + 1 = g2 at n2 ⊢
  generalize hg1 : w.heap.size = g1 at n1 ⊢
  have HB := Lib.hid n0
  have HX1 := Lib.hid n1
  have HX2 := Lib.hid n2
  have HS := Lib.hid (HS0.out.bel n0)
  have HC := Lib.hid (HC0.out.svg (n0.svg g) HS0.out.lt)
  have HGS : Hid (g < w.heap.size ∧ g1 ≠ g ∧ g2 ≠ g ∧ g1 ≠ g2 ∧ w.heap.size ≤ g2) := Lib.hid (by have := HS0.out.lt; omega)
  clear n0 n1 n2 hg1 hg2
  have HV := Lib.hid (Svg.refl g W1)
  have HKEEP : Hid (∀ W' : World, Sv2 g g2 W1 W' → SBox g1 p1 c1 p2 c2 p3 c3 c W') := Lib.hid (fun W' hv => SBox.of (hv.stays HX1.out HGS.out.2.1 HGS.out.2.2.2.1))
  have HSZ : Hid (∀ W' : World, Svg g W1 W' → g < W'.heap.size ∧ g2 < W'.heap.size ∧ w.heap.size ≤ W'.heap.size) := Lib.hid (fun W' hv => by have h1 := hv.size; have h2 := lt_of_heap HX2.out; have h3 := HB.out.size; have h4 := HGS.out.1; omega)
  have HGL : Hid (g < W1.heap.size) := Lib.hid (HSZ.out _ (Svg.refl g W1)).1
  go_wp2_with fail
  refine (next_lit HK.out (by decide) _ HS.out).mono ?_
  rintro e w2 ⟨rfl, hv, hs⟩
  have HS := Lib.hid hs
  have HV := Lib.hid (HV.out.trans hv)
  clear hv hs
  go_upto_region 7 with (fail)
  refine wp_region_held_drew (S := (SBox g1 p1 c1 p2 c2 p3 c3 c)) (by kernel_rfl) (HKEEP.out _ (Svg.two (HV.out.trans ((Bel.refl w2).drew.svg g)) g2)) (fun hS0 => ?_)
  refine takeD 39 (i := 0) (v := ?v1) rfl rfl (by kernel_rfl) (by kernel_rfl) (by kernel_rfl) (fun _ _ _ h => h) (by kernel_rfl) ?hy1 hS0 ?rest1
  case hy1 => (intro w0 hSw; obtain ⟨s0, s1, s2, s3, s4⟩ := hSw; first | (go_simp; done) | (go_simp; with_reducible rfl))
  simp only [List.setIfInBounds_toArray, List.set_cons_zero, List.set_cons_succ]
  refine takeD 42 (i := 3) (v := ?v2) rfl rfl (by kernel_rfl) (by kernel_rfl) (by kernel_rfl) (fun _ _ _ h => h) (by kernel_rfl) ?hy2 hS0 ?rest2
  case hy2 => (intro w0 hSw; obtain ⟨s0, s1, s2, s3, s4⟩ := hSw; first | (go_simp; done) | (go_simp; with_reducible rfl))
  simp only [List.setIfInBounds_toArray, List.set_cons_zero, List.set_cons_succ]
  refine takeD 43 (i := 4) (v := ?v3) rfl rfl (by kernel_rfl) (by kernel_rfl) (by kernel_rfl) (fun _ _ _ h => h) (by kernel_rfl) ?hy3 hS0 ?rest3
  case hy3 => (intro w0 hSw; obtain ⟨s0, s1, s2, s3, s4⟩ := hSw; first | (go_simp; done) | (go_simp; with_reducible rfl))
  simp only [List.setIfInBounds_toArray, List.set_cons_zero, List.set_cons_succ]
  refine takeD 44 (i := 5) (v := ?v4) rfl rfl (by kernel_rfl) (by kernel_rfl) (by kernel_rfl) (fun _ _ _ h => h) (by kernel_rfl) ?hy4 hS0 ?rest4
  case hy4 => (intro w0 hSw; obtain ⟨s0, s1, s2, s3, s4⟩ := hSw; first | (go_simp; done) | (go_simp; with_reducible rfl))
  simp only [List.setIfInBounds_toArray, List.set_cons_zero, List.set_cons_succ]
  refine takeD 45 (i := 6) (v := ?v5) rfl rfl (by kernel_rfl) (by kernel_rfl) (by kernel_rfl) (fun _ _ _ h => h) (by kernel_rfl) ?hy5 hS0 ?rest5
  case hy5 => (intro w0 hSw; obtain ⟨s0, s1, s2, s3, s4⟩ := hSw; first | (go_simp; done) | (go_simp; with_reducible rfl))
  simp only [List.setIfInBounds_toArray, List.set_cons_zero, List.set_cons_succ]
  refine onlyD 40 (i := 1) rfl rfl (by kernel_rfl) (by kernel_rfl) (fun K hK => ?_)
  go_simp
  go_at_call 21
  refine (next_lit HO.out (by decide) _ (HS.out.bel (Bel.refl _).drew)).mono ?_
  rintro e w11 ⟨rfl, hv1, hs1⟩
  have hS1 := HKEEP.out _ (Svg.two ((HV.out.trans ((Bel.refl w2).drew.svg g)).trans hv1) g2)
  refine hK.out _ _ hS1 (fun _ => ?_)
  clear hK K
  simp only [List.setIfInBounds_toArray, List.set_cons_zero, List.set_cons_succ]
  refine takeD 41 (i := 2) (v := ?v6) rfl rfl (by kernel_rfl) (by kernel_rfl) (by kernel_rfl) (fun _ _ _ h => h) (by kernel_rfl) ?hy6 hS1 ?rest6
  case hy6 => (intro w0 hSw; obtain ⟨s0, s1, s2, s3, s4⟩ := hSw; first | (go_simp; done) | (go_simp; with_reducible rfl))
  simp only [List.setIfInBounds_toArray, List.set_cons_zero, List.set_cons_succ]
  refine onlyD 46 (i := 7) rfl rfl (by kernel_rfl) (by kernel_rfl) (fun K hK => ?_)
  go_simp
  go_at_call 23
  refine (IH.out g s1 t x _ p1 p2 p3 c1 c2 c3 HX.out (HC.out.svg ((HV.out.trans ((Bel.refl w2).drew.svg g)).trans hv1) HGL.out) hs1).mono ?_
  rintro e w12 ⟨q2, n2, rfl, wf2, he2, hv2, hs2⟩
  have hS2 := HKEEP.out _ (Svg.two (((HV.out.trans ((Bel.refl w2).drew.svg g)).trans hv1).trans hv2) g2)
  refine hK.out _ _ hS2 (fun _ => ?_)
  clear hK K
  simp only [List.setIfInBounds_toArray, List.set_cons_zero, List.set_cons_succ]
  refine onlyD 47 (i := 8) rfl rfl (by kernel_rfl) (by kernel_rfl) (fun K hK => ?_)
  go_simp
  refine hK.out _ _ (HKEEP.out _ (Svg.two ((((HV.out.trans ((Bel.refl w2).drew.svg g)).trans hv1).trans hv2).trans (((Bel.refl _).alloc _ _).svg g)) g2)) (fun hM1 => ?_)
  clear hK K
  simp only [List.setIfInBounds_toArray, List.set_cons_zero, List.set_cons_succ]
  refine takeD 48 (i := 9) (v := ?v7) rfl rfl (by kernel_rfl) (by kernel_rfl) (by kernel_rfl) (fun _ _ _ h => h) (by kernel_rfl) ?hy7 hM1 ?rest7
  case hy7 => (intro w0 hSw; obtain ⟨s0, s1, s2, s3, s4⟩ := hSw; first | (go_simp; done) | (go_simp; with_reducible rfl))
  simp only [List.setIfInBounds_toArray, List.set_cons_zero, List.set_cons_succ]
  refine onlyN (i := 10) rfl rfl (by kernel_rfl) (by kernel_rfl) (fun K hK => ?_)
  refine wp_store_row 40 (.tmp 6) (.tmp 48) rfl g2 #[.int .i64 3, .int .i64 (15 + o), .int .i64 0, .string ⟨#[]⟩, .slice (some ⟨w12.heap.size, 0, none⟩) 1 1] (by kernel_rfl) (by kernel_rfl) 40 zeroE (Svg.stays ((((HV.out.trans ((Bel.refl w2).drew.svg g)).trans hv1).trans hv2).trans (((Bel.refl _).alloc _ _).svg g)) HX2.out HGS.out.2.2.1) (by kernel_rfl) (by kernel_rfl) (by kernel_rfl) ?_
  refine hK.out undef _ (HKEEP.out _ ((Svg.two ((((HV.out.trans ((Bel.refl w2).drew.svg g)).trans hv1).trans hv2).trans (((Bel.refl _).alloc _ _).svg g)) g2).trans ((setRow_svg g2 _ _).two' g))) (fun hSF => ?_)
  clear hK K
  refine wpAnyH_done (by kernel_rfl) ?_ _
  clear hSF hS0 hS1 hS2 hM1
  go_wp2_with fail
  have hal := (Bel.refl w12).alloc #[.int .i64 x.kind, .int .i64 x.op, .int .i64 x.n, .string x.name, .slice q2 x.args.length n2] 40
  have hnew := heap_alloc_new w12 (.cells #[.int .i64 x.kind, .int .i64 x.op, .int .i64 x.n, .string x.name, .slice q2 x.args.length n2] 40)
  have hav := hal.svg g2
  have HV2 := Lib.hid ((((HV.out.trans ((Bel.refl w2).drew.svg g)).trans hv1).trans hv2).trans (hal.svg g))
  obtain ⟨y1, y2, y3⟩ := HSZ.out w11 ((HV.out.trans ((Bel.refl w2).drew.svg g)).trans hv1)
  have hs9 := hs2.bel hal
  have hge : w11.heap.size ≤ w12.heap.size := hv2.size
  generalize w12.alloc (.cells #[.int .i64 x.kind, .int .i64 x.op, .int .i64 x.n, .string x.name, .slice q2 x.args.length n2] 40) = W9 at hav hnew hs9 HV2 ⊢
  have hx9 := HV2.out.stays HX2.out HGS.out.2.2.1
  have hnew2 := fun cs => young_heap (B := w.heap.size) ((setRow_svg g2 W9 cs).stays hnew (by omega)) (by omega)
  refine expr_fin (x := Ex.mk 3 (15 + o) 0 ⟨#[]⟩ [x]) (q := some ⟨w12.heap.size, 0, none⟩) (cq := 1) (g2 := g2) (w6 := W9) rfl rfl (setRow_heap _ g2 zeroE _ _ _ hx9) (Svg.of HB.out HV2.out) (setRow_svg g2 _ _) HGS.out.2.2.2.2 (by have := HGS.out; omega) hs9 ?_ ?_
  · exact wfE_mk ⟨by decide, by decide⟩ (by have := HOB.out; omega) ⟨by decide, by decide⟩ (by decide) (Nat.le_succ 1)
  · exact EAt.one (e := x) (hnew2 _) wf2 (keepE he2 (hav.trans (setRow_svg g2 _ _)) y2 y3)
set_option maxRecDepth 100000 in
set_option maxHeartbeats 8000000 in
theorem expr_at (c : Sco) (d : Nat) (hd : d ≤ 100) (g : Nat) (s s0 t : List Int) (s1 : List Int) (nm : ByteArray) (x : Ex) (w : World) (p1 p2 p3 : Option Addr) (c1 c2 c3 : Nat) (hk : nx s 8 = (5, s0)) (hy : c.any = true ∨ c.held ≠ []) (hnm : nameV c c.held s0 = (nm, s1)) (hsz : nm.size ≤ 20) (ih : XAt c d) (hx : exprV c d s1 = (x, t)) (hC : ScAt g w p1 p2 p3 c) (hS : SrcAt g w s) :
    Calls Tryz.prog 23 #[scV p1 c1 p2 c2 p3 c3 c, .pointer (some ⟨g, 0, none⟩), .int .i64 ((d : Int) + 1)] w fun e w' => ∃ q cq, e = .returned (exV q cq (Ex.mk 5 0 0 nm [x])) ∧ WfE (Ex.mk 5 0 0 nm [x]) ∧ EAt (young w.heap.size w') q (Ex.mk 5 0 0 nm [x]).args ∧ Svg g w w' ∧ SrcAt g w' t := by
  have HC0 := Lib.hid hC
  have HS0 := Lib.hid hS
  have HK := Lib.hid hk
  have HNM := Lib.hid hnm
  have HSZ := Lib.hid hsz
  have HX := Lib.hid hx
  clear hC hS hk hnm hsz hx
  have hd1 : ((d : Int) + 1 < 1) = False := by simp; omega
  have hd2 : IntKind.i64.wrap (d : Int) = (d : Int) := IntWalk.i64_in _ (by constructor <;> omega)
  have HSZ0 := HSZ
  have IH := Lib.hid ih
  clear ih
  have hq : c.any = true ∨ (c.any = false ∧ 0 < c.held.length) := by
    rcases hy with h | h
    · exact .inl h
    · cases e : c.any
      · exact .inr ⟨rfl, by cases hl : c.held with
          | nil => exact absurd hl h
          | cons a b => simp⟩
      · exact .inl rfl
  clear hy
  rcases hq with hy | ⟨hy, hl⟩
  · have HY := Lib.hid hy
    clear hy
    go_enter Tryz.func23, Tryz.ntmps23
    go_upto_region 1 with (fail)
    obtain ⟨n0, n1, n2⟩ := new2 w (scA p1 c1 p2 c2 p3 c3 c) zeroE 61 40
    generalize (w.alloc (.cells (scA p1 c1 p2 c2 p3 c3 c) 61)).alloc (.cells zeroE 40) = W1 at n0 n1 n2 ⊢
    generalize hg2 : w.heap.size + 1 = g2 at n2 ⊢
    generalize hg1 : w.heap.size = g1 at n1 ⊢
    have HB := Lib.hid n0
    have HX1 := Lib.hid n1
    have HX2 := Lib.hid n2
    have HS := Lib.hid (HS0.out.bel n0)
    have HC := Lib.hid (HC0.out.svg (n0.svg g) HS0.out.lt)
    have HGS : Hid (g < w.heap.size ∧ g1 ≠ g ∧ g2 ≠ g ∧ g1 ≠ g2 ∧ w.heap.size ≤ g2) := Lib.hid (by have := HS0.out.lt; omega)
    clear n0 n1 n2 hg1 hg2
    have HV := Lib.hid (Svg.refl g W1)
    have HKEEP : Hid (∀ W' : World, Sv2 g g2 W1 W' → SBox g1 p1 c1 p2 c2 p3 c3 c W') := Lib.hid (fun W' hv => SBox.of (hv.stays HX1.out HGS.out.2.1 HGS.out.2.2.2.1))
    have HSZ : Hid (∀ W' : World, Svg g W1 W' → g < W'.heap.size ∧ g2 < W'.heap.size ∧ w.heap.size ≤ W'.heap.size) := Lib.hid (fun W' hv => by have h1 := hv.size; have h2 := lt_of_heap HX2.out; have h3 := HB.out.size; have h4 := HGS.out.1; omega)
    have HGL : Hid (g < W1.heap.size) := Lib.hid (HSZ.out _ (Svg.refl g W1)).1
    go_wp2_with fail
    refine (next_lit HK.out (by decide) _ HS.out).mono ?_
    rintro e w2 ⟨rfl, hv, hs⟩
    have HS := Lib.hid hs
    have HV := Lib.hid (HV.out.trans hv)
    clear hv hs
    go_upto_region 8 with (fail)
    obtain ⟨d0, d1, d2, d3, d4⟩ := HKEEP.out _ (HV.out.two g2)
    rw [HY.out] at d4
    go_upto_region 9 with (fail)
    clear d0 d1 d2 d3 d4
    refine wp_region_held_drew (S := (SBox g1 p1 c1 p2 c2 p3 c3 c)) (by kernel_rfl) (HKEEP.out _ (Svg.two (HV.out.trans ((Bel.refl w2).drew.svg g)) g2)) (fun hS0 => ?_)
    refine takeD 62 (i := 0) (v := ?v17) rfl rfl (by kernel_rfl) (by kernel_rfl) (by kernel_rfl) (fun _ _ _ h => h) (by kernel_rfl) ?hy17 hS0 ?rest17
    case hy17 => (intro w0 hSw; obtain ⟨s0, s1, s2, s3, s4⟩ := hSw; first | (go_simp; done) | (go_simp; with_reducible rfl))
    simp only [List.setIfInBounds_toArray, List.set_cons_zero, List.set_cons_succ]
    refine takeD 63 (i := 1) (v := ?v18) rfl rfl (by kernel_rfl) (by kernel_rfl) (by kernel_rfl) (fun _ _ _ h => h) (by kernel_rfl) ?hy18 hS0 ?rest18
    case hy18 => (intro w0 hSw; obtain ⟨s0, s1, s2, s3, s4⟩ := hSw; first | (go_simp; done) | (go_simp; with_reducible rfl))
    simp only [List.setIfInBounds_toArray, List.set_cons_zero, List.set_cons_succ]
    refine takeD 64 (i := 2) (v := ?v19) rfl rfl (by kernel_rfl) (by kernel_rfl) (by kernel_rfl) (fun _ _ _ h => h) (by kernel_rfl) ?hy19 hS0 ?rest19
    case hy19 => (intro w0 hSw; obtain ⟨s0, s1, s2, s3, s4⟩ := hSw; first | (go_simp; done) | (go_simp; with_reducible rfl))
    simp only [List.setIfInBounds_toArray, List.set_cons_zero, List.set_cons_succ]
    refine takeD 65 (i := 3) (v := ?v20) rfl rfl (by kernel_rfl) (by kernel_rfl) (by kernel_rfl) (fun _ _ _ h => h) (by kernel_rfl) ?hy20 hS0 ?rest20
    case hy20 => (intro w0 hSw; obtain ⟨s0, s1, s2, s3, s4⟩ := hSw; first | (go_simp; done) | (go_simp; with_reducible rfl))
    simp only [List.setIfInBounds_toArray, List.set_cons_zero, List.set_cons_succ]
    refine takeD 67 (i := 5) (v := ?v21) rfl rfl (by kernel_rfl) (by kernel_rfl) (by kernel_rfl) (fun _ _ _ h => h) (by kernel_rfl) ?hy21 hS0 ?rest21
    case hy21 => (intro w0 hSw; obtain ⟨s0, s1, s2, s3, s4⟩ := hSw; first | (go_simp; done) | (go_simp; with_reducible rfl))
    simp only [List.setIfInBounds_toArray, List.set_cons_zero, List.set_cons_succ]
    refine takeD 68 (i := 6) (v := ?v22) rfl rfl (by kernel_rfl) (by kernel_rfl) (by kernel_rfl) (fun _ _ _ h => h) (by kernel_rfl) ?hy22 hS0 ?rest22
    case hy22 => (intro w0 hSw; obtain ⟨s0, s1, s2, s3, s4⟩ := hSw; first | (go_simp; done) | (go_simp; with_reducible rfl))
    simp only [List.setIfInBounds_toArray, List.set_cons_zero, List.set_cons_succ]
    refine takeD 69 (i := 7) (v := ?v23) rfl rfl (by kernel_rfl) (by kernel_rfl) (by kernel_rfl) (fun _ _ _ h => h) (by kernel_rfl) ?hy23 hS0 ?rest23
    case hy23 => (intro w0 hSw; obtain ⟨s0, s1, s2, s3, s4⟩ := hSw; first | (go_simp; done) | (go_simp; with_reducible rfl))
    simp only [List.setIfInBounds_toArray, List.set_cons_zero, List.set_cons_succ]
    refine takeD 70 (i := 8) (v := ?v24) rfl rfl (by kernel_rfl) (by kernel_rfl) (by kernel_rfl) (fun _ _ _ h => h) (by kernel_rfl) ?hy24 hS0 ?rest24
    case hy24 => (intro w0 hSw; obtain ⟨s0, s1, s2, s3, s4⟩ := hSw; first | (go_simp; done) | (go_simp; with_reducible rfl))
    simp only [List.setIfInBounds_toArray, List.set_cons_zero, List.set_cons_succ]
    refine onlyD 66 (i := 4) rfl rfl (by kernel_rfl) (by kernel_rfl) (fun K hK => ?_)
    go_simp
    go_at_call 55
    refine (scname_lit HNM.out _ (p := p3) rfl (HC.out.svg (HV.out.trans ((Bel.refl w2).drew.svg g)) HGL.out).held (HC.out.lh) (HS.out.bel (Bel.refl _).drew)).mono ?_
    rintro e w11 ⟨rfl, hv1, hs1⟩
    have hS1 := HKEEP.out _ (Svg.two ((HV.out.trans ((Bel.refl w2).drew.svg g)).trans hv1) g2)
    refine hK.out _ _ hS1 (fun _ => ?_)
    clear hK K
    simp only [List.setIfInBounds_toArray, List.set_cons_zero, List.set_cons_succ]
    refine onlyD 71 (i := 9) rfl rfl (by kernel_rfl) (by kernel_rfl) (fun K hK => ?_)
    go_simp
    go_at_call 23
    refine (IH.out g s1 t x _ p1 p2 p3 c1 c2 c3 HX.out (HC.out.svg ((HV.out.trans ((Bel.refl w2).drew.svg g)).trans hv1) HGL.out) hs1).mono ?_
    rintro e w12 ⟨q2, n2, rfl, wf2, he2, hv2, hs2⟩
    have hS2 := HKEEP.out _ (Svg.two (((HV.out.trans ((Bel.refl w2).drew.svg g)).trans hv1).trans hv2) g2)
    refine hK.out _ _ hS2 (fun _ => ?_)
    clear hK K
    simp only [List.setIfInBounds_toArray, List.set_cons_zero, List.set_cons_succ]
    refine onlyD 72 (i := 10) rfl rfl (by kernel_rfl) (by kernel_rfl) (fun K hK => ?_)
    go_simp
    refine hK.out _ _ (HKEEP.out _ (Svg.two ((((HV.out.trans ((Bel.refl w2).drew.svg g)).trans hv1).trans hv2).trans (((Bel.refl _).alloc _ _).svg g)) g2)) (fun hM3 => ?_)
    clear hK K
    simp only [List.setIfInBounds_toArray, List.set_cons_zero, List.set_cons_succ]
    refine takeD 73 (i := 11) (v := ?v25) rfl rfl (by kernel_rfl) (by kernel_rfl) (by kernel_rfl) (fun _ _ _ h => h) (by kernel_rfl) ?hy25 hM3 ?rest25
    case hy25 => (intro w0 hSw; obtain ⟨s0, s1, s2, s3, s4⟩ := hSw; first | (go_simp; done) | (go_simp; with_reducible rfl))
    simp only [List.setIfInBounds_toArray, List.set_cons_zero, List.set_cons_succ]
    refine onlyN (i := 12) rfl rfl (by kernel_rfl) (by kernel_rfl) (fun K hK => ?_)
    refine wp_store_row 40 (.tmp 6) (.tmp 73) rfl g2 #[.int .i64 5, .int .i64 0, .int .i64 0, .string nm, .slice (some ⟨w12.heap.size, 0, none⟩) 1 1] (by kernel_rfl) (by kernel_rfl) 40 zeroE (Svg.stays ((((HV.out.trans ((Bel.refl w2).drew.svg g)).trans hv1).trans hv2).trans (((Bel.refl _).alloc _ _).svg g)) HX2.out HGS.out.2.2.1) (by kernel_rfl) (by kernel_rfl) (by kernel_rfl) ?_
    refine hK.out undef _ (HKEEP.out _ ((Svg.two ((((HV.out.trans ((Bel.refl w2).drew.svg g)).trans hv1).trans hv2).trans (((Bel.refl _).alloc _ _).svg g)) g2).trans ((setRow_svg g2 _ _).two' g))) (fun hSF => ?_)
    clear hK K
    refine wpAnyH_done (by kernel_rfl) ?_ _
    clear hSF hS0 hS1 hS2 hM3
    go_wp2_with fail
    have hal := (Bel.refl w12).alloc #[.int .i64 x.kind, .int .i64 x.op, .int .i64 x.n, .string x.name, .slice q2 x.args.length n2] 40
    have hnew := heap_alloc_new w12 (.cells #[.int .i64 x.kind, .int .i64 x.op, .int .i64 x.n, .string x.name, .slice q2 x.args.length n2] 40)
    have hav := hal.svg g2
    have HV2 := Lib.hid ((((HV.out.trans ((Bel.refl w2).drew.svg g)).trans hv1).trans hv2).trans (hal.svg g))
    obtain ⟨y1, y2, y3⟩ := HSZ.out w11 ((HV.out.trans ((Bel.refl w2).drew.svg g)).trans hv1)
    have hs9 := hs2.bel hal
    have hge : w11.heap.size ≤ w12.heap.size := hv2.size
    generalize w12.alloc (.cells #[.int .i64 x.kind, .int .i64 x.op, .int .i64 x.n, .string x.name, .slice q2 x.args.length n2] 40) = W9 at hav hnew hs9 HV2 ⊢
    have hx9 := HV2.out.stays HX2.out HGS.out.2.2.1
    have hnew2 := fun cs => young_heap (B := w.heap.size) ((setRow_svg g2 W9 cs).stays hnew (by omega)) (by omega)
    refine expr_fin (x := Ex.mk 5 0 0 nm [x]) (q := some ⟨w12.heap.size, 0, none⟩) (cq := 1) (g2 := g2) (w6 := W9) rfl rfl (setRow_heap _ g2 zeroE _ _ _ hx9) (Svg.of HB.out HV2.out) (setRow_svg g2 _ _) HGS.out.2.2.2.2 (by have := HGS.out; omega) hs9 ?_ ?_
    · exact wfE_mk ⟨by decide, by decide⟩ ⟨by decide, by decide⟩ ⟨by decide, by decide⟩ HSZ0.out (Nat.le_succ 1)
    · exact EAt.one (e := x) (hnew2 _) wf2 (keepE he2 (hav.trans (setRow_svg g2 _ _)) y2 y3)
  · have HY := Lib.hid hy
    clear hy
    go_enter Tryz.func23, Tryz.ntmps23
    go_upto_region 1 with (fail)
    obtain ⟨n0, n1, n2⟩ := new2 w (scA p1 c1 p2 c2 p3 c3 c) zeroE 61 40
    generalize (w.alloc (.cells (scA p1 c1 p2 c2 p3 c3 c) 61)).alloc (.cells zeroE 40) = W1 at n0 n1 n2 ⊢
    generalize hg2 : w.heap.size + 1 = g2 at n2 ⊢
    generalize hg1 : w.heap.size = g1 at n1 ⊢
    have HB := Lib.hid n0
    have HX1 := Lib.hid n1
    have HX2 := Lib.hid n2
    have HS := Lib.hid (HS0.out.bel n0)
    have HC := Lib.hid (HC0.out.svg (n0.svg g) HS0.out.lt)
    have HGS : Hid (g < w.heap.size ∧ g1 ≠ g ∧ g2 ≠ g ∧ g1 ≠ g2 ∧ w.heap.size ≤ g2) := Lib.hid (by have := HS0.out.lt; omega)
    clear n0 n1 n2 hg1 hg2
    have HV := Lib.hid (Svg.refl g W1)
    have HKEEP : Hid (∀ W' : World, Sv2 g g2 W1 W' → SBox g1 p1 c1 p2 c2 p3 c3 c W') := Lib.hid (fun W' hv => SBox.of (hv.stays HX1.out HGS.out.2.1 HGS.out.2.2.2.1))
    have HSZ : Hid (∀ W' : World, Svg g W1 W' → g < W'.heap.size ∧ g2 < W'.heap.size ∧ w.heap.size ≤ W'.heap.size) := Lib.hid (fun W' hv => by have h1 := hv.size; have h2 := lt_of_heap HX2.out; have h3 := HB.out.size; have h4 := HGS.out.1; omega)
    have HGL : Hid (g < W1.heap.size) := Lib.hid (HSZ.out _ (Svg.refl g W1)).1
    go_wp2_with fail
    refine (next_lit HK.out (by decide) _ HS.out).mono ?_
    rintro e w2 ⟨rfl, hv, hs⟩
    have HS := Lib.hid hs
    have HV := Lib.hid (HV.out.trans hv)
    clear hv hs
    go_upto_region 8 with (fail)
    obtain ⟨d0, d1, d2, d3, d4⟩ := HKEEP.out _ (HV.out.two g2)
    rw [HY.out] at d4
    go_upto_region 9 with (fail)
    clear d0 d1 d2 d3 d4
    clear hl
    refine wp_region_held_drew (S := (SBox g1 p1 c1 p2 c2 p3 c3 c)) (by kernel_rfl) (HKEEP.out _ (Svg.two (HV.out.trans ((Bel.refl w2).drew.svg g)) g2)) (fun hS0 => ?_)
    refine takeD 62 (i := 0) (v := ?v26) rfl rfl (by kernel_rfl) (by kernel_rfl) (by kernel_rfl) (fun _ _ _ h => h) (by kernel_rfl) ?hy26 hS0 ?rest26
    case hy26 => (intro w0 hSw; obtain ⟨s0, s1, s2, s3, s4⟩ := hSw; first | (go_simp; done) | (go_simp; with_reducible rfl))
    simp only [List.setIfInBounds_toArray, List.set_cons_zero, List.set_cons_succ]
    refine takeD 63 (i := 1) (v := ?v27) rfl rfl (by kernel_rfl) (by kernel_rfl) (by kernel_rfl) (fun _ _ _ h => h) (by kernel_rfl) ?hy27 hS0 ?rest27
    case hy27 => (intro w0 hSw; obtain ⟨s0, s1, s2, s3, s4⟩ := hSw; first | (go_simp; done) | (go_simp; with_reducible rfl))
    simp only [List.setIfInBounds_toArray, List.set_cons_zero, List.set_cons_succ]
    refine takeD 64 (i := 2) (v := ?v28) rfl rfl (by kernel_rfl) (by kernel_rfl) (by kernel_rfl) (fun _ _ _ h => h) (by kernel_rfl) ?hy28 hS0 ?rest28
    case hy28 => (intro w0 hSw; obtain ⟨s0, s1, s2, s3, s4⟩ := hSw; first | (go_simp; done) | (go_simp; with_reducible rfl))
    simp only [List.setIfInBounds_toArray, List.set_cons_zero, List.set_cons_succ]
    refine takeD 65 (i := 3) (v := ?v29) rfl rfl (by kernel_rfl) (by kernel_rfl) (by kernel_rfl) (fun _ _ _ h => h) (by kernel_rfl) ?hy29 hS0 ?rest29
    case hy29 => (intro w0 hSw; obtain ⟨s0, s1, s2, s3, s4⟩ := hSw; first | (go_simp; done) | (go_simp; with_reducible rfl))
    simp only [List.setIfInBounds_toArray, List.set_cons_zero, List.set_cons_succ]
    refine takeD 67 (i := 5) (v := ?v30) rfl rfl (by kernel_rfl) (by kernel_rfl) (by kernel_rfl) (fun _ _ _ h => h) (by kernel_rfl) ?hy30 hS0 ?rest30
    case hy30 => (intro w0 hSw; obtain ⟨s0, s1, s2, s3, s4⟩ := hSw; first | (go_simp; done) | (go_simp; with_reducible rfl))
    simp only [List.setIfInBounds_toArray, List.set_cons_zero, List.set_cons_succ]
    refine takeD 68 (i := 6) (v := ?v31) rfl rfl (by kernel_rfl) (by kernel_rfl) (by kernel_rfl) (fun _ _ _ h => h) (by kernel_rfl) ?hy31 hS0 ?rest31
    case hy31 => (intro w0 hSw; obtain ⟨s0, s1, s2, s3, s4⟩ := hSw; first | (go_simp; done) | (go_simp; with_reducible rfl))
    simp only [List.setIfInBounds_toArray, List.set_cons_zero, List.set_cons_succ]
    refine takeD 69 (i := 7) (v := ?v32) rfl rfl (by kernel_rfl) (by kernel_rfl) (by kernel_rfl) (fun _ _ _ h => h) (by kernel_rfl) ?hy32 hS0 ?rest32
    case hy32 => (intro w0 hSw; obtain ⟨s0, s1, s2, s3, s4⟩ := hSw; first | (go_simp; done) | (go_simp; with_reducible rfl))
    simp only [List.setIfInBounds_toArray, List.set_cons_zero, List.set_cons_succ]
    refine takeD 70 (i := 8) (v := ?v33) rfl rfl (by kernel_rfl) (by kernel_rfl) (by kernel_rfl) (fun _ _ _ h => h) (by kernel_rfl) ?hy33 hS0 ?rest33
    case hy33 => (intro w0 hSw; obtain ⟨s0, s1, s2, s3, s4⟩ := hSw; first | (go_simp; done) | (go_simp; with_reducible rfl))
    simp only [List.setIfInBounds_toArray, List.set_cons_zero, List.set_cons_succ]
    refine onlyD 66 (i := 4) rfl rfl (by kernel_rfl) (by kernel_rfl) (fun K hK => ?_)
    go_simp
    go_at_call 55
    refine (scname_lit HNM.out _ (p := p3) rfl (HC.out.svg (HV.out.trans ((Bel.refl w2).drew.svg g)) HGL.out).held (HC.out.lh) (HS.out.bel (Bel.refl _).drew)).mono ?_
    rintro e w11 ⟨rfl, hv1, hs1⟩
    have hS1 := HKEEP.out _ (Svg.two ((HV.out.trans ((Bel.refl w2).drew.svg g)).trans hv1) g2)
    refine hK.out _ _ hS1 (fun _ => ?_)
    clear hK K
    simp only [List.setIfInBounds_toArray, List.set_cons_zero, List.set_cons_succ]
    refine onlyD 71 (i := 9) rfl rfl (by kernel_rfl) (by kernel_rfl) (fun K hK => ?_)
    go_simp
    go_at_call 23
    refine (IH.out g s1 t x _ p1 p2 p3 c1 c2 c3 HX.out (HC.out.svg ((HV.out.trans ((Bel.refl w2).drew.svg g)).trans hv1) HGL.out) hs1).mono ?_
    rintro e w12 ⟨q2, n2, rfl, wf2, he2, hv2, hs2⟩
    have hS2 := HKEEP.out _ (Svg.two (((HV.out.trans ((Bel.refl w2).drew.svg g)).trans hv1).trans hv2) g2)
    refine hK.out _ _ hS2 (fun _ => ?_)
    clear hK K
    simp only [List.setIfInBounds_toArray, List.set_cons_zero, List.set_cons_succ]
    refine onlyD 72 (i := 10) rfl rfl (by kernel_rfl) (by kernel_rfl) (fun K hK => ?_)
    go_simp
    refine hK.out _ _ (HKEEP.out _ (Svg.two ((((HV.out.trans ((Bel.refl w2).drew.svg g)).trans hv1).trans hv2).trans (((Bel.refl _).alloc _ _).svg g)) g2)) (fun hM4 => ?_)
    clear hK K
    simp only [List.setIfInBounds_toArray, List.set_cons_zero, List.set_cons_succ]
    refine takeD 73 (i := 11) (v := ?v34) rfl rfl (by kernel_rfl) (by kernel_rfl) (by kernel_rfl) (fun _ _ _ h => h) (by kernel_rfl) ?hy34 hM4 ?rest34
    case hy34 => (intro w0 hSw; obtain ⟨s0, s1, s2, s3, s4⟩ := hSw; first | (go_simp; done) | (go_simp; with_reducible rfl))
    simp only [List.setIfInBounds_toArray, List.set_cons_zero, List.set_cons_succ]
    refine onlyN (i := 12) rfl rfl (by kernel_rfl) (by kernel_rfl) (fun K hK => ?_)
    refine wp_store_row 40 (.tmp 6) (.tmp 73) rfl g2 #[.int .i64 5, .int .i64 0, .int .i64 0, .string nm, .slice (some ⟨w12.heap.size, 0, none⟩) 1 1] (by kernel_rfl) (by kernel_rfl) 40 zeroE (Svg.stays ((((HV.out.trans ((Bel.refl w2).drew.svg g)).trans hv1).trans hv2).trans (((Bel.refl _).alloc _ _).svg g)) HX2.out HGS.out.2.2.1) (by kernel_rfl) (by kernel_rfl) (by kernel_rfl) ?_
    refine hK.out undef _ (HKEEP.out _ ((Svg.two ((((HV.out.trans ((Bel.refl w2).drew.svg g)).trans hv1).trans hv2).trans (((Bel.refl _).alloc _ _).svg g)) g2).trans ((setRow_svg g2 _ _).two' g))) (fun hSF => ?_)
    clear hK K
    refine wpAnyH_done (by kernel_rfl) ?_ _
    clear hSF hS0 hS1 hS2 hM4
    go_wp2_with fail
    have hal := (Bel.refl w12).alloc #[.int .i64 x.kind, .int .i64 x.op, .int .i64 x.n, .string x.name, .slice q2 x.args.length n2] 40
    have hnew := heap_alloc_new w12 (.cells #[.int .i64 x.kind, .int .i64 x.op, .int .i64 x.n, .string x.name, .slice q2 x.args.length n2] 40)
    have hav := hal.svg g2
    have HV2 := Lib.hid ((((HV.out.trans ((Bel.refl w2).drew.svg g)).trans hv1).trans hv2).trans (hal.svg g))
    obtain ⟨y1, y2, y3⟩ := HSZ.out w11 ((HV.out.trans ((Bel.refl w2).drew.svg g)).trans hv1)
    have hs9 := hs2.bel hal
    have hge : w11.heap.size ≤ w12.heap.size := hv2.size
    generalize w12.alloc (.cells #[.int .i64 x.kind, .int .i64 x.op, .int .i64 x.n, .string x.name, .slice q2 x.args.length n2] 40) = W9 at hav hnew hs9 HV2 ⊢
    have hx9 := HV2.out.stays HX2.out HGS.out.2.2.1
    have hnew2 := fun cs => young_heap (B := w.heap.size) ((setRow_svg g2 W9 cs).stays hnew (by omega)) (by omega)
    refine expr_fin (x := Ex.mk 5 0 0 nm [x]) (q := some ⟨w12.heap.size, 0, none⟩) (cq := 1) (g2 := g2) (w6 := W9) rfl rfl (setRow_heap _ g2 zeroE _ _ _ hx9) (Svg.of HB.out HV2.out) (setRow_svg g2 _ _) HGS.out.2.2.2.2 (by have := HGS.out; omega) hs9 ?_ ?_
    · exact wfE_mk ⟨by decide, by decide⟩ ⟨by decide, by decide⟩ ⟨by decide, by decide⟩ HSZ0.out (Nat.le_succ 1)
    · exact EAt.one (e := x) (hnew2 _) wf2 (keepE he2 (hav.trans (setRow_svg g2 _ _)) y2 y3)
set_option maxRecDepth 100000 in
set_option maxHeartbeats 8000000 in
theorem expr_two (c : Sco) (d : Nat) (hd : d ≤ 100) (g : Nat) (s s0 t : List Int) (k : Int) (s1 s2 : List Int) (o : Int) (x y : Ex) (w : World) (p1 p2 p3 : Option Addr) (c1 c2 c3 : Nat) (hk : nx s 8 = (k, s0)) (hq : (k = 5 ∧ c.any = false ∧ c.held = []) ∨ k = 6 ∨ k = 7) (ho : nx s0 14 = (o, s1)) (hob : 0 ≤ o ∧ o < 14) (ih : XAt c d) (hx : exprV c d s1 = (x, s2)) (hz : exprV c d s2 = (y, t)) (hC : ScAt g w p1 p2 p3 c) (hS : SrcAt g w s) :
    Calls Tryz.prog 23 #[scV p1 c1 p2 c2 p3 c3 c, .pointer (some ⟨g, 0, none⟩), .int .i64 ((d : Int) + 1)] w fun e w' => ∃ q cq, e = .returned (exV q cq (Ex.mk 4 (1 + o) 0 ⟨#[]⟩ [x, y])) ∧ WfE (Ex.mk 4 (1 + o) 0 ⟨#[]⟩ [x, y]) ∧ EAt (young w.heap.size w') q (Ex.mk 4 (1 + o) 0 ⟨#[]⟩ [x, y]).args ∧ Svg g w w' ∧ SrcAt g w' t := by
  have HC0 := Lib.hid hC
  have HS0 := Lib.hid hS
  have HK := Lib.hid hk
  have HO := Lib.hid ho
  have HX := Lib.hid hx
  have HZ := Lib.hid hz
  clear hC hS hk ho hx hz
  have hd1 : ((d : Int) + 1 < 1) = False := by simp; omega
  have hd2 : IntKind.i64.wrap (d : Int) = (d : Int) := IntWalk.i64_in _ (by constructor <;> omega)
  have IH := Lib.hid ih
  have HOB := Lib.hid hob
  clear ih
  have hv1' : IntKind.i64.wrap (1 + o) = 1 + o := IntWalk.i64_in _ (by constructor <;> omega)
  clear hob
  have hq2 : (k = 5 ∧ c.any = false ∧ c.held.length = 0) ∨ (k = 6 ∧ c.any = c.any ∧ c.held.length = c.held.length) ∨ (k = 7 ∧ c.any = c.any ∧ c.held.length = c.held.length) := by
    rcases hq with ⟨h1, h2, h3⟩ | h | h
    · exact .inl ⟨h1, h2, by rw [h3]; rfl⟩
    · exact .inr (.inl ⟨h, rfl, rfl⟩)
    · exact .inr (.inr ⟨h, rfl, rfl⟩)
  clear hq
  rcases hq2 with ⟨rfl, hy, hl⟩ | ⟨rfl, hy, hl⟩ | ⟨rfl, hy, hl⟩
  · have HY := Lib.hid hy
    have HLL := Lib.hid hl
    clear hy hl
    go_enter Tryz.func23, Tryz.ntmps23
    go_upto_region 1 with (fail)
    obtain ⟨n0, n1, n2⟩ := new2 w (scA p1 c1 p2 c2 p3 c3 c) zeroE 61 40
    generalize (w.alloc (.cells (scA p1 c1 p2 c2 p3 c3 c) 61)).alloc (.cells zeroE 40) = W1 at n0 n1 n2 ⊢
    generalize hg2 : w.heap.size + 1 = g2 at n2 ⊢
    generalize hg1 : w.heap.size = g1 at n1 ⊢
    have HB := Lib.hid n0
    have HX1 := Lib.hid n1
    have HX2 := Lib.hid n2
    have HS := Lib.hid (HS0.out.bel n0)
    have HC := Lib.hid (HC0.out.svg (n0.svg g) HS0.out.lt)
    have HGS : Hid (g < w.heap.size ∧ g1 ≠ g ∧ g2 ≠ g ∧ g1 ≠ g2 ∧ w.heap.size ≤ g2) := Lib.hid (by have := HS0.out.lt; omega)
    clear n0 n1 n2 hg1 hg2
    have HV := Lib.hid (Svg.refl g W1)
    have HKEEP : Hid (∀ W' : World, Sv2 g g2 W1 W' → SBox g1 p1 c1 p2 c2 p3 c3 c W') := Lib.hid (fun W' hv => SBox.of (hv.stays HX1.out HGS.out.2.1 HGS.out.2.2.2.1))
    have HSZ : Hid (∀ W' : World, Svg g W1 W' → g < W'.heap.size ∧ g2 < W'.heap.size ∧ w.heap.size ≤ W'.heap.size) := Lib.hid (fun W' hv => by have h1 := hv.size; have h2 := lt_of_heap HX2.out; have h3 := HB.out.size; have h4 := HGS.out.1; omega)
    have HGL : Hid (g < W1.heap.size) := Lib.hid (HSZ.out _ (Svg.refl g W1)).1
    go_wp2_with fail
    refine (next_lit HK.out (by decide) _ HS.out).mono ?_
    rintro e w2 ⟨rfl, hv, hs⟩
    have HS := Lib.hid hs
    have HV := Lib.hid (HV.out.trans hv)
    clear hv hs
    go_upto_region 8 with (fail)
    obtain ⟨d0, d1, d2, d3, d4⟩ := HKEEP.out _ (HV.out.two g2)
    rw [HY.out] at d4
    rw [HLL.out] at d3
    go_upto_region 10 with (fail)
    clear d0 d1 d2 d3 d4
    refine wp_region_held_drew (S := (SBox g1 p1 c1 p2 c2 p3 c3 c)) (by kernel_rfl) (HKEEP.out _ (Svg.two (HV.out.trans ((Bel.refl w2).drew.svg g)) g2)) (fun hS0 => ?_)
    refine takeD 74 (i := 0) (v := ?v46) rfl rfl (by kernel_rfl) (by kernel_rfl) (by kernel_rfl) (fun _ _ _ h => h) (by kernel_rfl) ?hy46 hS0 ?rest46
    case hy46 => (intro w0 hSw; obtain ⟨s0, s1, s2, s3, s4⟩ := hSw; first | (go_simp; done) | (go_simp; with_reducible rfl))
    simp only [List.setIfInBounds_toArray, List.set_cons_zero, List.set_cons_succ]
    refine takeD 77 (i := 3) (v := ?v47) rfl rfl (by kernel_rfl) (by kernel_rfl) (by kernel_rfl) (fun _ _ _ h => h) (by kernel_rfl) ?hy47 hS0 ?rest47
    case hy47 => (intro w0 hSw; obtain ⟨s0, s1, s2, s3, s4⟩ := hSw; first | (go_simp; done) | (go_simp; with_reducible rfl))
    simp only [List.setIfInBounds_toArray, List.set_cons_zero, List.set_cons_succ]
    refine takeD 78 (i := 4) (v := ?v48) rfl rfl (by kernel_rfl) (by kernel_rfl) (by kernel_rfl) (fun _ _ _ h => h) (by kernel_rfl) ?hy48 hS0 ?rest48
    case hy48 => (intro w0 hSw; obtain ⟨s0, s1, s2, s3, s4⟩ := hSw; first | (go_simp; done) | (go_simp; with_reducible rfl))
    simp only [List.setIfInBounds_toArray, List.set_cons_zero, List.set_cons_succ]
    refine takeD 79 (i := 5) (v := ?v49) rfl rfl (by kernel_rfl) (by kernel_rfl) (by kernel_rfl) (fun _ _ _ h => h) (by kernel_rfl) ?hy49 hS0 ?rest49
    case hy49 => (intro w0 hSw; obtain ⟨s0, s1, s2, s3, s4⟩ := hSw; first | (go_simp; done) | (go_simp; with_reducible rfl))
    simp only [List.setIfInBounds_toArray, List.set_cons_zero, List.set_cons_succ]
    refine takeD 80 (i := 6) (v := ?v50) rfl rfl (by kernel_rfl) (by kernel_rfl) (by kernel_rfl) (fun _ _ _ h => h) (by kernel_rfl) ?hy50 hS0 ?rest50
    case hy50 => (intro w0 hSw; obtain ⟨s0, s1, s2, s3, s4⟩ := hSw; first | (go_simp; done) | (go_simp; with_reducible rfl))
    simp only [List.setIfInBounds_toArray, List.set_cons_zero, List.set_cons_succ]
    refine takeD 82 (i := 8) (v := ?v51) rfl rfl (by kernel_rfl) (by kernel_rfl) (by kernel_rfl) (fun _ _ _ h => h) (by kernel_rfl) ?hy51 hS0 ?rest51
    case hy51 => (intro w0 hSw; obtain ⟨s0, s1, s2, s3, s4⟩ := hSw; first | (go_simp; done) | (go_simp; with_reducible rfl))
    simp only [List.setIfInBounds_toArray, List.set_cons_zero, List.set_cons_succ]
    refine takeD 83 (i := 9) (v := ?v52) rfl rfl (by kernel_rfl) (by kernel_rfl) (by kernel_rfl) (fun _ _ _ h => h) (by kernel_rfl) ?hy52 hS0 ?rest52
    case hy52 => (intro w0 hSw; obtain ⟨s0, s1, s2, s3, s4⟩ := hSw; first | (go_simp; done) | (go_simp; with_reducible rfl))
    simp only [List.setIfInBounds_toArray, List.set_cons_zero, List.set_cons_succ]
    refine takeD 84 (i := 10) (v := ?v53) rfl rfl (by kernel_rfl) (by kernel_rfl) (by kernel_rfl) (fun _ _ _ h => h) (by kernel_rfl) ?hy53 hS0 ?rest53
    case hy53 => (intro w0 hSw; obtain ⟨s0, s1, s2, s3, s4⟩ := hSw; first | (go_simp; done) | (go_simp; with_reducible rfl))
    simp only [List.setIfInBounds_toArray, List.set_cons_zero, List.set_cons_succ]
    refine takeD 85 (i := 11) (v := ?v54) rfl rfl (by kernel_rfl) (by kernel_rfl) (by kernel_rfl) (fun _ _ _ h => h) (by kernel_rfl) ?hy54 hS0 ?rest54
    case hy54 => (intro w0 hSw; obtain ⟨s0, s1, s2, s3, s4⟩ := hSw; first | (go_simp; done) | (go_simp; with_reducible rfl))
    simp only [List.setIfInBounds_toArray, List.set_cons_zero, List.set_cons_succ]
    refine onlyD 75 (i := 1) rfl rfl (by kernel_rfl) (by kernel_rfl) (fun K hK => ?_)
    go_simp
    go_at_call 21
    refine (next_lit HO.out (by decide) _ (HS.out.bel (Bel.refl _).drew)).mono ?_
    rintro e w11 ⟨rfl, hv1, hs1⟩
    have hS1 := HKEEP.out _ (Svg.two ((HV.out.trans ((Bel.refl w2).drew.svg g)).trans hv1) g2)
    refine hK.out _ _ hS1 (fun _ => ?_)
    clear hK K
    simp only [List.setIfInBounds_toArray, List.set_cons_zero, List.set_cons_succ]
    refine takeD 76 (i := 2) (v := ?v55) rfl rfl (by kernel_rfl) (by kernel_rfl) (by kernel_rfl) (fun _ _ _ h => h) (by kernel_rfl) ?hy55 hS1 ?rest55
    case hy55 => (intro w0 hSw; obtain ⟨s0, s1, s2, s3, s4⟩ := hSw; first | (go_simp; done) | (go_simp; with_reducible rfl))
    simp only [List.setIfInBounds_toArray, List.set_cons_zero, List.set_cons_succ]
    refine onlyD 81 (i := 7) rfl rfl (by kernel_rfl) (by kernel_rfl) (fun K hK => ?_)
    go_simp
    go_at_call 23
    refine (IH.out g s1 s2 x _ p1 p2 p3 c1 c2 c3 HX.out (HC.out.svg ((HV.out.trans ((Bel.refl w2).drew.svg g)).trans hv1) HGL.out) hs1).mono ?_
    rintro e w12 ⟨q2, n2, rfl, wf2, he2, hv2, hs2⟩
    have hS2 := HKEEP.out _ (Svg.two (((HV.out.trans ((Bel.refl w2).drew.svg g)).trans hv1).trans hv2) g2)
    refine hK.out _ _ hS2 (fun _ => ?_)
    clear hK K
    simp only [List.setIfInBounds_toArray, List.set_cons_zero, List.set_cons_succ]
    refine onlyD 86 (i := 12) rfl rfl (by kernel_rfl) (by kernel_rfl) (fun K hK => ?_)
    go_simp
    go_at_call 23
    refine (IH.out g s2 t y _ p1 p2 p3 c1 c2 c3 HZ.out (HC.out.svg (((HV.out.trans ((Bel.refl w2).drew.svg g)).trans hv1).trans hv2) HGL.out) hs2).mono ?_
    rintro e w13 ⟨q3, n3, rfl, wf3, he3, hv3, hs3⟩
    have hS3 := HKEEP.out _ (Svg.two ((((HV.out.trans ((Bel.refl w2).drew.svg g)).trans hv1).trans hv2).trans hv3) g2)
    refine hK.out _ _ hS3 (fun _ => ?_)
    clear hK K
    simp only [List.setIfInBounds_toArray, List.set_cons_zero, List.set_cons_succ]
    refine onlyD 87 (i := 13) rfl rfl (by kernel_rfl) (by kernel_rfl) (fun K hK => ?_)
    go_simp
    refine hK.out _ _ (HKEEP.out _ (Svg.two (((((HV.out.trans ((Bel.refl w2).drew.svg g)).trans hv1).trans hv2).trans hv3).trans (((Bel.refl _).alloc _ _).svg g)) g2)) (fun hM6 => ?_)
    clear hK K
    simp only [List.setIfInBounds_toArray, List.set_cons_zero, List.set_cons_succ]
    refine takeD 88 (i := 14) (v := ?v56) rfl rfl (by kernel_rfl) (by kernel_rfl) (by kernel_rfl) (fun _ _ _ h => h) (by kernel_rfl) ?hy56 hM6 ?rest56
    case hy56 => (intro w0 hSw; obtain ⟨s0, s1, s2, s3, s4⟩ := hSw; first | (go_simp; done) | (go_simp; with_reducible rfl))
    simp only [List.setIfInBounds_toArray, List.set_cons_zero, List.set_cons_succ]
    refine onlyN (i := 15) rfl rfl (by kernel_rfl) (by kernel_rfl) (fun K hK => ?_)
    refine wp_store_row 40 (.tmp 6) (.tmp 88) rfl g2 #[.int .i64 4, .int .i64 (1 + o), .int .i64 0, .string ⟨#[]⟩, .slice (some ⟨w13.heap.size, 0, none⟩) 2 2] (by kernel_rfl) (by kernel_rfl) 40 zeroE (Svg.stays (((((HV.out.trans ((Bel.refl w2).drew.svg g)).trans hv1).trans hv2).trans hv3).trans (((Bel.refl _).alloc _ _).svg g)) HX2.out HGS.out.2.2.1) (by kernel_rfl) (by kernel_rfl) (by kernel_rfl) ?_
    refine hK.out undef _ (HKEEP.out _ ((Svg.two (((((HV.out.trans ((Bel.refl w2).drew.svg g)).trans hv1).trans hv2).trans hv3).trans (((Bel.refl _).alloc _ _).svg g)) g2).trans ((setRow_svg g2 _ _).two' g))) (fun hSF => ?_)
    clear hK K
    refine wpAnyH_done (by kernel_rfl) ?_ _
    clear hSF hS0 hS1 hS2 hS3 hM6
    go_wp2_with fail
    have hal := (Bel.refl w13).alloc #[.int .i64 x.kind, .int .i64 x.op, .int .i64 x.n, .string x.name, .slice q2 x.args.length n2, .int .i64 y.kind, .int .i64 y.op, .int .i64 y.n, .string y.name, .slice q3 y.args.length n3] 40
    have hnew := heap_alloc_new w13 (.cells #[.int .i64 x.kind, .int .i64 x.op, .int .i64 x.n, .string x.name, .slice q2 x.args.length n2, .int .i64 y.kind, .int .i64 y.op, .int .i64 y.n, .string y.name, .slice q3 y.args.length n3] 40)
    have hav := hal.svg g2
    have HV2 := Lib.hid (((((HV.out.trans ((Bel.refl w2).drew.svg g)).trans hv1).trans hv2).trans hv3).trans (hal.svg g))
    obtain ⟨y1, y2, y3⟩ := HSZ.out w11 ((HV.out.trans ((Bel.refl w2).drew.svg g)).trans hv1)
    have hs9 := hs3.bel hal
    have hge : w11.heap.size ≤ w13.heap.size := (Nat.le_trans hv2.size hv3.size)
    generalize w13.alloc (.cells #[.int .i64 x.kind, .int .i64 x.op, .int .i64 x.n, .string x.name, .slice q2 x.args.length n2, .int .i64 y.kind, .int .i64 y.op, .int .i64 y.n, .string y.name, .slice q3 y.args.length n3] 40) = W9 at hav hnew hs9 HV2 ⊢
    have hx9 := HV2.out.stays HX2.out HGS.out.2.2.1
    have hnew2 := fun cs => young_heap (B := w.heap.size) ((setRow_svg g2 W9 cs).stays hnew (by omega)) (by omega)
    refine expr_fin (x := Ex.mk 4 (1 + o) 0 ⟨#[]⟩ [x, y]) (q := some ⟨w13.heap.size, 0, none⟩) (cq := 2) (g2 := g2) (w6 := W9) rfl rfl (setRow_heap _ g2 zeroE _ _ _ hx9) (Svg.of HB.out HV2.out) (setRow_svg g2 _ _) HGS.out.2.2.2.2 (by have := HGS.out; omega) hs9 ?_ ?_
    · exact wfE_mk ⟨by decide, by decide⟩ (by have := HOB.out; omega) ⟨by decide, by decide⟩ (by decide) (Nat.le_refl 2)
    · have h12 := hv2.size
      exact EAt.two (e := x) (f := y) (hnew2 _) wf2 (keepE (keepE he2 hv3 (by omega) (Nat.le_refl _)) (hav.trans (setRow_svg g2 _ _)) y2 y3) wf3 (keepE he3 (hav.trans (setRow_svg g2 _ _)) (by omega) (by omega))
  · clear hy hl
    go_enter Tryz.func23, Tryz.ntmps23
    go_upto_region 1 with (fail)
    obtain ⟨n0, n1, n2⟩ := new2 w (scA p1 c1 p2 c2 p3 c3 c) zeroE 61 40
    generalize (w.alloc (.cells (scA p1 c1 p2 c2 p3 c3 c) 61)).alloc (.cells zeroE 40) = W1 at n0 n1 n2 ⊢
    generalize hg2 : w.heap.size + 1 = g2 at n2 ⊢
    generalize hg1 : w.heap.size = g1 at n1 ⊢
    have HB := Lib.hid n0
    have HX1 := Lib.hid n1
    have HX2 := Lib.hid n2
    have HS := Lib.hid (HS0.out.bel n0)
    have HC := Lib.hid (HC0.out.svg (n0.svg g) HS0.out.lt)
    have HGS : Hid (g < w.heap.size ∧ g1 ≠ g ∧ g2 ≠ g ∧ g1 ≠ g2 ∧ w.heap.size ≤ g2) := Lib.hid (by have := HS0.out.lt; omega)
    clear n0 n1 n2 hg1 hg2
    have HV := Lib.hid (Svg.refl g W1)
    have HKEEP : Hid (∀ W' : World, Sv2 g g2 W1 W' → SBox g1 p1 c1 p2 c2 p3 c3 c W') := Lib.hid (fun W' hv => SBox.of (hv.stays HX1.out HGS.out.2.1 HGS.out.2.2.2.1))
    have HSZ : Hid (∀ W' : World, Svg g W1 W' → g < W'.heap.size ∧ g2 < W'.heap.size ∧ w.heap.size ≤ W'.heap.size) := Lib.hid (fun W' hv => by have h1 := hv.size; have h2 := lt_of_heap HX2.out; have h3 := HB.out.size; have h4 := HGS.out.1; omega)
    have HGL : Hid (g < W1.heap.size) := Lib.hid (HSZ.out _ (Svg.refl g W1)).1
    go_wp2_with fail
    refine (next_lit HK.out (by decide) _ HS.out).mono ?_
    rintro e w2 ⟨rfl, hv, hs⟩
    have HS := Lib.hid hs
    have HV := Lib.hid (HV.out.trans hv)
    clear hv hs
    go_upto_region 8 with (fail)
    obtain ⟨d0, d1, d2, d3, d4⟩ := HKEEP.out _ (HV.out.two g2)
    go_upto_region 10 with (fail)
    clear d0 d1 d2 d3 d4
    refine wp_region_held_drew (S := (SBox g1 p1 c1 p2 c2 p3 c3 c)) (by kernel_rfl) (HKEEP.out _ (Svg.two (HV.out.trans ((Bel.refl w2).drew.svg g)) g2)) (fun hS0 => ?_)
    refine takeD 74 (i := 0) (v := ?v57) rfl rfl (by kernel_rfl) (by kernel_rfl) (by kernel_rfl) (fun _ _ _ h => h) (by kernel_rfl) ?hy57 hS0 ?rest57
    case hy57 => (intro w0 hSw; obtain ⟨s0, s1, s2, s3, s4⟩ := hSw; first | (go_simp; done) | (go_simp; with_reducible rfl))
    simp only [List.setIfInBounds_toArray, List.set_cons_zero, List.set_cons_succ]
    refine takeD 77 (i := 3) (v := ?v58) rfl rfl (by kernel_rfl) (by kernel_rfl) (by kernel_rfl) (fun _ _ _ h => h) (by kernel_rfl) ?hy58 hS0 ?rest58
    case hy58 => (intro w0 hSw; obtain ⟨s0, s1, s2, s3, s4⟩ := hSw; first | (go_simp; done) | (go_simp; with_reducible rfl))
    simp only [List.setIfInBounds_toArray, List.set_cons_zero, List.set_cons_succ]
    refine takeD 78 (i := 4) (v := ?v59) rfl rfl (by kernel_rfl) (by kernel_rfl) (by kernel_rfl) (fun _ _ _ h => h) (by kernel_rfl) ?hy59 hS0 ?rest59
    case hy59 => (intro w0 hSw; obtain ⟨s0, s1, s2, s3, s4⟩ := hSw; first | (go_simp; done) | (go_simp; with_reducible rfl))
    simp only [List.setIfInBounds_toArray, List.set_cons_zero, List.set_cons_succ]
    refine takeD 79 (i := 5) (v := ?v60) rfl rfl (by kernel_rfl) (by kernel_rfl) (by kernel_rfl) (fun _ _ _ h => h) (by kernel_rfl) ?hy60 hS0 ?rest60
    case hy60 => (intro w0 hSw; obtain ⟨s0, s1, s2, s3, s4⟩ := hSw; first | (go_simp; done) | (go_simp; with_reducible rfl))
    simp only [List.setIfInBounds_toArray, List.set_cons_zero, List.set_cons_succ]
    refine takeD 80 (i := 6) (v := ?v61) rfl rfl (by kernel_rfl) (by kernel_rfl) (by kernel_rfl) (fun _ _ _ h => h) (by kernel_rfl) ?hy61 hS0 ?rest61
    case hy61 => (intro w0 hSw; obtain ⟨s0, s1, s2, s3, s4⟩ := hSw; first | (go_simp; done) | (go_simp; with_reducible rfl))
    simp only [List.setIfInBounds_toArray, List.set_cons_zero, List.set_cons_succ]
    refine takeD 82 (i := 8) (v := ?v62) rfl rfl (by kernel_rfl) (by kernel_rfl) (by kernel_rfl) (fun _ _ _ h => h) (by kernel_rfl) ?hy62 hS0 ?rest62
    case hy62 => (intro w0 hSw; obtain ⟨s0, s1, s2, s3, s4⟩ := hSw; first | (go_simp; done) | (go_simp; with_reducible rfl))
    simp only [List.setIfInBounds_toArray, List.set_cons_zero, List.set_cons_succ]
    refine takeD 83 (i := 9) (v := ?v63) rfl rfl (by kernel_rfl) (by kernel_rfl) (by kernel_rfl) (fun _ _ _ h => h) (by kernel_rfl) ?hy63 hS0 ?rest63
    case hy63 => (intro w0 hSw; obtain ⟨s0, s1, s2, s3, s4⟩ := hSw; first | (go_simp; done) | (go_simp; with_reducible rfl))
    simp only [List.setIfInBounds_toArray, List.set_cons_zero, List.set_cons_succ]
    refine takeD 84 (i := 10) (v := ?v64) rfl rfl (by kernel_rfl) (by kernel_rfl) (by kernel_rfl) (fun _ _ _ h => h) (by kernel_rfl) ?hy64 hS0 ?rest64
    case hy64 => (intro w0 hSw; obtain ⟨s0, s1, s2, s3, s4⟩ := hSw; first | (go_simp; done) | (go_simp; with_reducible rfl))
    simp only [List.setIfInBounds_toArray, List.set_cons_zero, List.set_cons_succ]
    refine takeD 85 (i := 11) (v := ?v65) rfl rfl (by kernel_rfl) (by kernel_rfl) (by kernel_rfl) (fun _ _ _ h => h) (by kernel_rfl) ?hy65 hS0 ?rest65
    case hy65 => (intro w0 hSw; obtain ⟨s0, s1, s2, s3, s4⟩ := hSw; first | (go_simp; done) | (go_simp; with_reducible rfl))
    simp only [List.setIfInBounds_toArray, List.set_cons_zero, List.set_cons_succ]
    refine onlyD 75 (i := 1) rfl rfl (by kernel_rfl) (by kernel_rfl) (fun K hK => ?_)
    go_simp
    go_at_call 21
    refine (next_lit HO.out (by decide) _ (HS.out.bel (Bel.refl _).drew)).mono ?_
    rintro e w11 ⟨rfl, hv1, hs1⟩
    have hS1 := HKEEP.out _ (Svg.two ((HV.out.trans ((Bel.refl w2).drew.svg g)).trans hv1) g2)
    refine hK.out _ _ hS1 (fun _ => ?_)
    clear hK K
    simp only [List.setIfInBounds_toArray, List.set_cons_zero, List.set_cons_succ]
    refine takeD 76 (i := 2) (v := ?v66) rfl rfl (by kernel_rfl) (by kernel_rfl) (by kernel_rfl) (fun _ _ _ h => h) (by kernel_rfl) ?hy66 hS1 ?rest66
    case hy66 => (intro w0 hSw; obtain ⟨s0, s1, s2, s3, s4⟩ := hSw; first | (go_simp; done) | (go_simp; with_reducible rfl))
    simp only [List.setIfInBounds_toArray, List.set_cons_zero, List.set_cons_succ]
    refine onlyD 81 (i := 7) rfl rfl (by kernel_rfl) (by kernel_rfl) (fun K hK => ?_)
    go_simp
    go_at_call 23
    refine (IH.out g s1 s2 x _ p1 p2 p3 c1 c2 c3 HX.out (HC.out.svg ((HV.out.trans ((Bel.refl w2).drew.svg g)).trans hv1) HGL.out) hs1).mono ?_
    rintro e w12 ⟨q2, n2, rfl, wf2, he2, hv2, hs2⟩
    have hS2 := HKEEP.out _ (Svg.two (((HV.out.trans ((Bel.refl w2).drew.svg g)).trans hv1).trans hv2) g2)
    refine hK.out _ _ hS2 (fun _ => ?_)
    clear hK K
    simp only [List.setIfInBounds_toArray, List.set_cons_zero, List.set_cons_succ]
    refine onlyD 86 (i := 12) rfl rfl (by kernel_rfl) (by kernel_rfl) (fun K hK => ?_)
    go_simp
    go_at_call 23
    refine (IH.out g s2 t y _ p1 p2 p3 c1 c2 c3 HZ.out (HC.out.svg (((HV.out.trans ((Bel.refl w2).drew.svg g)).trans hv1).trans hv2) HGL.out) hs2).mono ?_
    rintro e w13 ⟨q3, n3, rfl, wf3, he3, hv3, hs3⟩
    have hS3 := HKEEP.out _ (Svg.two ((((HV.out.trans ((Bel.refl w2).drew.svg g)).trans hv1).trans hv2).trans hv3) g2)
    refine hK.out _ _ hS3 (fun _ => ?_)
    clear hK K
    simp only [List.setIfInBounds_toArray, List.set_cons_zero, List.set_cons_succ]
    refine onlyD 87 (i := 13) rfl rfl (by kernel_rfl) (by kernel_rfl) (fun K hK => ?_)
    go_simp
    refine hK.out _ _ (HKEEP.out _ (Svg.two (((((HV.out.trans ((Bel.refl w2).drew.svg g)).trans hv1).trans hv2).trans hv3).trans (((Bel.refl _).alloc _ _).svg g)) g2)) (fun hM7 => ?_)
    clear hK K
    simp only [List.setIfInBounds_toArray, List.set_cons_zero, List.set_cons_succ]
    refine takeD 88 (i := 14) (v := ?v67) rfl rfl (by kernel_rfl) (by kernel_rfl) (by kernel_rfl) (fun _ _ _ h => h) (by kernel_rfl) ?hy67 hM7 ?rest67
    case hy67 => (intro w0 hSw; obtain ⟨s0, s1, s2, s3, s4⟩ := hSw; first | (go_simp; done) | (go_simp; with_reducible rfl))
    simp only [List.setIfInBounds_toArray, List.set_cons_zero, List.set_cons_succ]
    refine onlyN (i := 15) rfl rfl (by kernel_rfl) (by kernel_rfl) (fun K hK => ?_)
    refine wp_store_row 40 (.tmp 6) (.tmp 88) rfl g2 #[.int .i64 4, .int .i64 (1 + o), .int .i64 0, .string ⟨#[]⟩, .slice (some ⟨w13.heap.size, 0, none⟩) 2 2] (by kernel_rfl) (by kernel_rfl) 40 zeroE (Svg.stays (((((HV.out.trans ((Bel.refl w2).drew.svg g)).trans hv1).trans hv2).trans hv3).trans (((Bel.refl _).alloc _ _).svg g)) HX2.out HGS.out.2.2.1) (by kernel_rfl) (by kernel_rfl) (by kernel_rfl) ?_
    refine hK.out undef _ (HKEEP.out _ ((Svg.two (((((HV.out.trans ((Bel.refl w2).drew.svg g)).trans hv1).trans hv2).trans hv3).trans (((Bel.refl _).alloc _ _).svg g)) g2).trans ((setRow_svg g2 _ _).two' g))) (fun hSF => ?_)
    clear hK K
    refine wpAnyH_done (by kernel_rfl) ?_ _
    clear hSF hS0 hS1 hS2 hS3 hM7
    go_wp2_with fail
    have hal := (Bel.refl w13).alloc #[.int .i64 x.kind, .int .i64 x.op, .int .i64 x.n, .string x.name, .slice q2 x.args.length n2, .int .i64 y.kind, .int .i64 y.op, .int .i64 y.n, .string y.name, .slice q3 y.args.length n3] 40
    have hnew := heap_alloc_new w13 (.cells #[.int .i64 x.kind, .int .i64 x.op, .int .i64 x.n, .string x.name, .slice q2 x.args.length n2, .int .i64 y.kind, .int .i64 y.op, .int .i64 y.n, .string y.name, .slice q3 y.args.length n3] 40)
    have hav := hal.svg g2
    have HV2 := Lib.hid (((((HV.out.trans ((Bel.refl w2).drew.svg g)).trans hv1).trans hv2).trans hv3).trans (hal.svg g))
    obtain ⟨y1, y2, y3⟩ := HSZ.out w11 ((HV.out.trans ((Bel.refl w2).drew.svg g)).trans hv1)
    have hs9 := hs3.bel hal
    have hge : w11.heap.size ≤ w13.heap.size := (Nat.le_trans hv2.size hv3.size)
    generalize w13.alloc (.cells #[.int .i64 x.kind, .int .i64 x.op, .int .i64 x.n, .string x.name, .slice q2 x.args.length n2, .int .i64 y.kind, .int .i64 y.op, .int .i64 y.n, .string y.name, .slice q3 y.args.length n3] 40) = W9 at hav hnew hs9 HV2 ⊢
    have hx9 := HV2.out.stays HX2.out HGS.out.2.2.1
    have hnew2 := fun cs => young_heap (B := w.heap.size) ((setRow_svg g2 W9 cs).stays hnew (by omega)) (by omega)
    refine expr_fin (x := Ex.mk 4 (1 + o) 0 ⟨#[]⟩ [x, y]) (q := some ⟨w13.heap.size, 0, none⟩) (cq := 2) (g2 := g2) (w6 := W9) rfl rfl (setRow_heap _ g2 zeroE _ _ _ hx9) (Svg.of HB.out HV2.out) (setRow_svg g2 _ _) HGS.out.2.2.2.2 (by have := HGS.out; omega) hs9 ?_ ?_
    · exact wfE_mk ⟨by decide, by decide⟩ (by have := HOB.out; omega) ⟨by decide, by decide⟩ (by decide) (Nat.le_refl 2)
    · have h12 := hv2.size
      exact EAt.two (e := x) (f := y) (hnew2 _) wf2 (keepE (keepE he2 hv3 (by omega) (Nat.le_refl _)) (hav.trans (setRow_svg g2 _ _)) y2 y3) wf3 (keepE he3 (hav.trans (setRow_svg g2 _ _)) (by omega) (by omega))
  · clear hy hl
    go_enter Tryz.func23, Tryz.ntmps23
    go_upto_region 1 with (fail)
    obtain ⟨n0, n1, n2⟩ := new2 w (scA p1 c1 p2 c2 p3 c3 c) zeroE 61 40
    generalize (w.alloc (.cells (scA p1 c1 p2 c2 p3 c3 c) 61)).alloc (.cells zeroE 40) = W1 at n0 n1 n2 ⊢
    generalize hg2 : w.heap.size + 1 = g2 at n2 ⊢
    generalize hg1 : w.heap.size = g1 at n1 ⊢
    have HB := Lib.hid n0
    have HX1 := Lib.hid n1
    have HX2 := Lib.hid n2
    have HS := Lib.hid (HS0.out.bel n0)
    have HC := Lib.hid (HC0.out.svg (n0.svg g) HS0.out.lt)
    have HGS : Hid (g < w.heap.size ∧ g1 ≠ g ∧ g2 ≠ g ∧ g1 ≠ g2 ∧ w.heap.size ≤ g2) := Lib.hid (by have := HS0.out.lt; omega)
    clear n0 n1 n2 hg1 hg2
    have HV := Lib.hid (Svg.refl g W1)
    have HKEEP : Hid (∀ W' : World, Sv2 g g2 W1 W' → SBox g1 p1 c1 p2 c2 p3 c3 c W') := Lib.hid (fun W' hv => SBox.of (hv.stays HX1.out HGS.out.2.1 HGS.out.2.2.2.1))
    have HSZ : Hid (∀ W' : World, Svg g W1 W' → g < W'.heap.size ∧ g2 < W'.heap.size ∧ w.heap.size ≤ W'.heap.size) := Lib.hid (fun W' hv => by have h1 := hv.size; have h2 := lt_of_heap HX2.out; have h3 := HB.out.size; have h4 := HGS.out.1; omega)
    have HGL : Hid (g < W1.heap.size) := Lib.hid (HSZ.out _ (Svg.refl g W1)).1
    go_wp2_with fail
    refine (next_lit HK.out (by decide) _ HS.out).mono ?_
    rintro e w2 ⟨rfl, hv, hs⟩
    have HS := Lib.hid hs
    have HV := Lib.hid (HV.out.trans hv)
    clear hv hs
    go_upto_region 8 with (fail)
    obtain ⟨d0, d1, d2, d3, d4⟩ := HKEEP.out _ (HV.out.two g2)
    go_upto_region 10 with (fail)
    clear d0 d1 d2 d3 d4
    refine wp_region_held_drew (S := (SBox g1 p1 c1 p2 c2 p3 c3 c)) (by kernel_rfl) (HKEEP.out _ (Svg.two (HV.out.trans ((Bel.refl w2).drew.svg g)) g2)) (fun hS0 => ?_)
    refine takeD 74 (i := 0) (v := ?v68) rfl rfl (by kernel_rfl) (by kernel_rfl) (by kernel_rfl) (fun _ _ _ h => h) (by kernel_rfl) ?hy68 hS0 ?rest68
    case hy68 => (intro w0 hSw; obtain ⟨s0, s1, s2, s3, s4⟩ := hSw; first | (go_simp; done) | (go_simp; with_reducible rfl))
    simp only [List.setIfInBounds_toArray, List.set_cons_zero, List.set_cons_succ]
    refine takeD 77 (i := 3) (v := ?v69) rfl rfl (by kernel_rfl) (by kernel_rfl) (by kernel_rfl) (fun _ _ _ h => h) (by kernel_rfl) ?hy69 hS0 ?rest69
    case hy69 => (intro w0 hSw; obtain ⟨s0, s1, s2, s3, s4⟩ := hSw; first | (go_simp; done) | (go_simp; with_reducible rfl))
    simp only [List.setIfInBounds_toArray, List.set_cons_zero, List.set_cons_succ]
    refine takeD 78 (i := 4) (v := ?v70) rfl rfl (by kernel_rfl) (by kernel_rfl) (by kernel_rfl) (fun _ _ _ h => h) (by kernel_rfl) ?hy70 hS0 ?rest70
    case hy70 => (intro w0 hSw; obtain ⟨s0, s1, s2, s3, s4⟩ := hSw; first | (go_simp; done) | (go_simp; with_reducible rfl))
    simp only [List.setIfInBounds_toArray, List.set_cons_zero, List.set_cons_succ]
    refine takeD 79 (i := 5) (v := ?v71) rfl rfl (by kernel_rfl) (by kernel_rfl) (by kernel_rfl) (fun _ _ _ h => h) (by kernel_rfl) ?hy71 hS0 ?rest71
    case hy71 => (intro w0 hSw; obtain ⟨s0, s1, s2, s3, s4⟩ := hSw; first | (go_simp; done) | (go_simp; with_reducible rfl))
    simp only [List.setIfInBounds_toArray, List.set_cons_zero, List.set_cons_succ]
    refine takeD 80 (i := 6) (v := ?v72) rfl rfl (by kernel_rfl) (by kernel_rfl) (by kernel_rfl) (fun _ _ _ h => h) (by kernel_rfl) ?hy72 hS0 ?rest72
    case hy72 => (intro w0 hSw; obtain ⟨s0, s1, s2, s3, s4⟩ := hSw; first | (go_simp; done) | (go_simp; with_reducible rfl))
    simp only [List.setIfInBounds_toArray, List.set_cons_zero, List.set_cons_succ]
    refine takeD 82 (i := 8) (v := ?v73) rfl rfl (by kernel_rfl) (by kernel_rfl) (by kernel_rfl) (fun _ _ _ h => h) (by kernel_rfl) ?hy73 hS0 ?rest73
    case hy73 => (intro w0 hSw; obtain ⟨s0, s1, s2, s3, s4⟩ := hSw; first | (go_simp; done) | (go_simp; with_reducible rfl))
    simp only [List.setIfInBounds_toArray, List.set_cons_zero, List.set_cons_succ]
    refine takeD 83 (i := 9) (v := ?v74) rfl rfl (by kernel_rfl) (by kernel_rfl) (by kernel_rfl) (fun _ _ _ h => h) (by kernel_rfl) ?hy74 hS0 ?rest74
    case hy74 => (intro w0 hSw; obtain ⟨s0, s1, s2, s3, s4⟩ := hSw; first | (go_simp; done) | (go_simp; with_reducible rfl))
    simp only [List.setIfInBounds_toArray, List.set_cons_zero, List.set_cons_succ]
    refine takeD 84 (i := 10) (v := ?v75) rfl rfl (by kernel_rfl) (by kernel_rfl) (by kernel_rfl) (fun _ _ _ h => h) (by kernel_rfl) ?hy75 hS0 ?rest75
    case hy75 => (intro w0 hSw; obtain ⟨s0, s1, s2, s3, s4⟩ := hSw; first | (go_simp; done) | (go_simp; with_reducible rfl))
    simp only [List.setIfInBounds_toArray, List.set_cons_zero, List.set_cons_succ]
    refine takeD 85 (i := 11) (v := ?v76) rfl rfl (by kernel_rfl) (by kernel_rfl) (by kernel_rfl) (fun _ _ _ h => h) (by kernel_rfl) ?hy76 hS0 ?rest76
    case hy76 => (intro w0 hSw; obtain ⟨s0, s1, s2, s3, s4⟩ := hSw; first | (go_simp; done) | (go_simp; with_reducible rfl))
    simp only [List.setIfInBounds_toArray, List.set_cons_zero, List.set_cons_succ]
    refine onlyD 75 (i := 1) rfl rfl (by kernel_rfl) (by kernel_rfl) (fun K hK => ?_)
    go_simp
    go_at_call 21
    refine (next_lit HO.out (by decide) _ (HS.out.bel (Bel.refl _).drew)).mono ?_
    rintro e w11 ⟨rfl, hv1, hs1⟩
    have hS1 := HKEEP.out _ (Svg.two ((HV.out.trans ((Bel.refl w2).drew.svg g)).trans hv1) g2)
    refine hK.out _ _ hS1 (fun _ => ?_)
    clear hK K
    simp only [List.setIfInBounds_toArray, List.set_cons_zero, List.set_cons_succ]
    refine takeD 76 (i := 2) (v := ?v77) rfl rfl (by kernel_rfl) (by kernel_rfl) (by kernel_rfl) (fun _ _ _ h => h) (by kernel_rfl) ?hy77 hS1 ?rest77
    case hy77 => (intro w0 hSw; obtain ⟨s0, s1, s2, s3, s4⟩ := hSw; first | (go_simp; done) | (go_simp; with_reducible rfl))
    simp only [List.setIfInBounds_toArray, List.set_cons_zero, List.set_cons_succ]
    refine onlyD 81 (i := 7) rfl rfl (by kernel_rfl) (by kernel_rfl) (fun K hK => ?_)
    go_simp
    go_at_call 23
    refine (IH.out g s1 s2 x _ p1 p2 p3 c1 c2 c3 HX.out (HC.out.svg ((HV.out.trans ((Bel.refl w2).drew.svg g)).trans hv1) HGL.out) hs1).mono ?_
    rintro e w12 ⟨q2, n2, rfl, wf2, he2, hv2, hs2⟩
    have hS2 := HKEEP.out _ (Svg.two (((HV.out.trans ((Bel.refl w2).drew.svg g)).trans hv1).trans hv2) g2)
    refine hK.out _ _ hS2 (fun _ => ?_)
    clear hK K
    simp only [List.setIfInBounds_toArray, List.set_cons_zero, List.set_cons_succ]
    refine onlyD 86 (i := 12) rfl rfl (by kernel_rfl) (by kernel_rfl) (fun K hK => ?_)
    go_simp
    go_at_call 23
    refine (IH.out g s2 t y _ p1 p2 p3 c1 c2 c3 HZ.out (HC.out.svg (((HV.out.trans ((Bel.refl w2).drew.svg g)).trans hv1).trans hv2) HGL.out) hs2).mono ?_
    rintro e w13 ⟨q3, n3, rfl, wf3, he3, hv3, hs3⟩
    have hS3 := HKEEP.out _ (Svg.two ((((HV.out.trans ((Bel.refl w2).drew.svg g)).trans hv1).trans hv2).trans hv3) g2)
    refine hK.out _ _ hS3 (fun _ => ?_)
    clear hK K
    simp only [List.setIfInBounds_toArray, List.set_cons_zero, List.set_cons_succ]
    refine onlyD 87 (i := 13) rfl rfl (by kernel_rfl) (by kernel_rfl) (fun K hK => ?_)
    go_simp
    refine hK.out _ _ (HKEEP.out _ (Svg.two (((((HV.out.trans ((Bel.refl w2).drew.svg g)).trans hv1).trans hv2).trans hv3).trans (((Bel.refl _).alloc _ _).svg g)) g2)) (fun hM8 => ?_)
    clear hK K
    simp only [List.setIfInBounds_toArray, List.set_cons_zero, List.set_cons_succ]
    refine takeD 88 (i := 14) (v := ?v78) rfl rfl (by kernel_rfl) (by kernel_rfl) (by kernel_rfl) (fun _ _ _ h => h) (by kernel_rfl) ?hy78 hM8 ?rest78
    case hy78 => (intro w0 hSw; obtain ⟨s0, s1, s2, s3, s4⟩ := hSw; first | (go_simp; done) | (go_simp; with_reducible rfl))
    simp only [List.setIfInBounds_toArray, List.set_cons_zero, List.set_cons_succ]
    refine onlyN (i := 15) rfl rfl (by kernel_rfl) (by kernel_rfl) (fun K hK => ?_)
    refine wp_store_row 40 (.tmp 6) (.tmp 88) rfl g2 #[.int .i64 4, .int .i64 (1 + o), .int .i64 0, .string ⟨#[]⟩, .slice (some ⟨w13.heap.size, 0, none⟩) 2 2] (by kernel_rfl) (by kernel_rfl) 40 zeroE (Svg.stays (((((HV.out.trans ((Bel.refl w2).drew.svg g)).trans hv1).trans hv2).trans hv3).trans (((Bel.refl _).alloc _ _).svg g)) HX2.out HGS.out.2.2.1) (by kernel_rfl) (by kernel_rfl) (by kernel_rfl) ?_
    refine hK.out undef _ (HKEEP.out _ ((Svg.two (((((HV.out.trans ((Bel.refl w2).drew.svg g)).trans hv1).trans hv2).trans hv3).trans (((Bel.refl _).alloc _ _).svg g)) g2).trans ((setRow_svg g2 _ _).two' g))) (fun hSF => ?_)
    clear hK K
    refine wpAnyH_done (by kernel_rfl) ?_ _
    clear hSF hS0 hS1 hS2 hS3 hM8
    go_wp2_with fail
    have hal := (Bel.refl w13).alloc #[.int .i64 x.kind, .int .i64 x.op, .int .i64 x.n, .string x.name, .slice q2 x.args.length n2, .int .i64 y.kind, .int .i64 y.op, .int .i64 y.n, .string y.name, .slice q3 y.args.length n3] 40
    have hnew := heap_alloc_new w13 (.cells #[.int .i64 x.kind, .int .i64 x.op, .int .i64 x.n, .string x.name, .slice q2 x.args.length n2, .int .i64 y.kind, .int .i64 y.op, .int .i64 y.n, .string y.name, .slice q3 y.args.length n3] 40)
    have hav := hal.svg g2
    have HV2 := Lib.hid (((((HV.out.trans ((Bel.refl w2).drew.svg g)).trans hv1).trans hv2).trans hv3).trans (hal.svg g))
    obtain ⟨y1, y2, y3⟩ := HSZ.out w11 ((HV.out.trans ((Bel.refl w2).drew.svg g)).trans hv1)
    have hs9 := hs3.bel hal
    have hge : w11.heap.size ≤ w13.heap.size := (Nat.le_trans hv2.size hv3.size)
    generalize w13.alloc (.cells #[.int .i64 x.kind, .int .i64 x.op, .int .i64 x.n, .string x.name, .slice q2 x.args.length n2, .int .i64 y.kind, .int .i64 y.op, .int .i64 y.n, .string y.name, .slice q3 y.args.length n3] 40) = W9 at hav hnew hs9 HV2 ⊢
    have hx9 := HV2.out.stays HX2.out HGS.out.2.2.1
    have hnew2 := fun cs => young_heap (B := w.heap.size) ((setRow_svg g2 W9 cs).stays hnew (by omega)) (by omega)
    refine expr_fin (x := Ex.mk 4 (1 + o) 0 ⟨#[]⟩ [x, y]) (q := some ⟨w13.heap.size, 0, none⟩) (cq := 2) (g2 := g2) (w6 := W9) rfl rfl (setRow_heap _ g2 zeroE _ _ _ hx9) (Svg.of HB.out HV2.out) (setRow_svg g2 _ _) HGS.out.2.2.2.2 (by have := HGS.out; omega) hs9 ?_ ?_
    · exact wfE_mk ⟨by decide, by decide⟩ (by have := HOB.out; omega) ⟨by decide, by decide⟩ (by decide) (Nat.le_refl 2)
    · have h12 := hv2.size
      exact EAt.two (e := x) (f := y) (hnew2 _) wf2 (keepE (keepE he2 hv3 (by omega) (Nat.le_refl _)) (hav.trans (setRow_svg g2 _ _)) y2 y3) wf3 (keepE he3 (hav.trans (setRow_svg g2 _ _)) (by omega) (by omega))
theorem XAt_lit {c : Sco} (hg : GoodC c) : ∀ d : Nat, d ≤ 100 → XAt c d := by
  intro d
  induction d with
  | zero =>
    intro _ g s t x w p1 p2 p3 c1 c2 c3 hx hC hS
    have hv := numVal_bd (nx s 8).2
    have hr : exprV c 0 s = numE (nx s 8).2 := rfl
    rw [hr] at hx
    unfold numE at hx
    cases hx
    have hj := nx_bd (nx (nx (nx (nx s 8).2 10).2 300).2 4294967296).2 (n := 3) (by omega)
    exact expr_num c 0 g s _ _ _ _ _ _ _ _ _ _ (numVal (nx s 8).2) w p1 p2 p3 c1 c2 c3 rfl rfl rfl rfl rfl (num_cases _) (.inl rfl) hv hC hS
  | succ d ih =>
    intro hd g s t x w p1 p2 p3 c1 c2 c3 hx hC hS
    have IH := ih (by omega)
    have hdl : d ≤ 100 := by omega
    have hk := nx_bd s (n := 8) (by omega)
    have hcast : ((d + 1 : Nat) : Int) = (d : Int) + 1 := by omega
    obtain ⟨k, s0, hks⟩ : ∃ k s0, nx s 8 = (k, s0) := ⟨_, _, rfl⟩
    rw [hks] at hk
    have hx' : (if k < 2 then numE s0
      else if k < 4 then (Ex.mk 2 0 0 (nameV c xyz s0).1 [], (nameV c xyz s0).2)
      else if k = 4 then (Ex.mk 3 (15 + (nx s0 3).1) 0 ⟨#[]⟩ [(exprV c d (nx s0 3).2).1], (exprV c d (nx s0 3).2).2)
      else if k = 5 ∧ (c.any = true ∨ c.held ≠ []) then (Ex.mk 5 0 0 (nameV c c.held s0).1 [(exprV c d (nameV c c.held s0).2).1], (exprV c d (nameV c c.held s0).2).2)
      else (Ex.mk 4 (1 + (nx s0 14).1) 0 ⟨#[]⟩ [(exprV c d (nx s0 14).2).1, (exprV c d (exprV c d (nx s0 14).2).2).1], (exprV c d (exprV c d (nx s0 14).2).2).2)) = (x, t) := by
      rw [← hx]
      rw [exprV_succ, hks]
    clear hx
    rw [hcast]
    split at hx'
    · rename_i h2
      unfold numE at hx'
      cases hx'
      have := expr_num c (d + 1) g s _ _ _ _ _ _ _ _ _ _ (numVal s0) w p1 p2 p3 c1 c2 c3 hks rfl rfl rfl rfl (num_cases _) (.inr h2) (numVal_bd _) hC hS
      rw [hcast] at this
      exact this
    · split at hx'
      · cases hx'
        exact expr_var c d hdl g s s0 _ k _ w p1 p2 p3 c1 c2 c3 hks (by omega) rfl (name_size (name_ok xyz_ok _)) hC hS
      · split at hx'
        · rename_i h4
          subst h4
          cases hx'
          exact expr_one c d hdl g s s0 _ _ _ _ w p1 p2 p3 c1 c2 c3 hks rfl (nx_bd _ (by omega)) IH rfl hC hS
        · split at hx'
          · rename_i h5
            obtain ⟨h5, h6⟩ := h5
            subst h5
            cases hx'
            exact expr_at c d hdl g s s0 _ _ _ _ w p1 p2 p3 c1 c2 c3 hks h6 rfl (name_size (name_ok hg.held _)) IH rfl hC hS
          · rename_i h5
            cases hx'
            refine expr_two c d hdl g s s0 _ k _ _ _ _ _ w p1 p2 p3 c1 c2 c3 hks ?_ rfl (nx_bd _ (by omega)) IH rfl rfl hC hS
            by_cases e : k = 5
            · refine .inl ⟨e, ?_, ?_⟩
              · cases ha : c.any
                · rfl
                · exact absurd ⟨e, .inl ha⟩ h5
              · cases hh : c.held with
                | nil => rfl
                | cons a b => exact absurd ⟨e, .inr (by rw [hh]; simp)⟩ h5
            · right; omega
end Go.Proofs.YthlnjnmomnpnpaaGreatDoor
