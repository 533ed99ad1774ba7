/- The law's statements out of raw numbers. -/
import Derived.Test.YthlnjnmomnpnpaaGreatDoorYApp
namespace Go.Proofs.YthlnjnmomnpnpaaGreatDoor
open Go.RowKit Tk Sy
set_option linter.unusedVariables false
set_option linter.unusedSimpArgs false
section
variable {P : Program} {ops : Array Oper} {Q : Exit → Act → World → Prop} {md : Region.Mode} {S : World → Prop}
/-- two may come up: either one first -/
theorem twoE (d1 d2 : Nat) {i1 i2 : Nat} {o1 o2 : Oper} {fuel : Nat} {listed : Array Bool} {a : Act} {w : World} (h1 : ops[i1]? = some o1) (h2 : ops[i2]? = some o2) (hd1 : o1.dst = some d1) (hd2 : o2.dst = some d2) (hr : Region.ready md ops listed = [i1, i2])
    (hw1 : Region.wanted o1 (yielded ops a.tmps) = true) (hw2 : Region.wanted o2 (yielded ops a.tmps) = true)
    (ha : ∀ K : Act → World → Prop, Shut (∀ (v : Value) (w' : World), S w' → (S w' → wpAnyH P md ops Q S fuel (listed.setIfInBounds i1 true) { a with tmps := a.tmps.setIfInBounds d1 v } w') → K (a.put o1.dst v) w') → Oper.wp P o1 a w K Q)
    (hb : ∀ K : Act → World → Prop, Shut (∀ (v : Value) (w' : World), S w' → (S w' → wpAnyH P md ops Q S fuel (listed.setIfInBounds i2 true) { a with tmps := a.tmps.setIfInBounds d2 v } w') → K (a.put o2.dst v) w') → Oper.wp P o2 a w K Q) : wpAnyH P md ops Q S (fuel + 1) listed a w := by
  refine wpAnyH_ready (rs := [i1, i2]) hr (by simp) ?_
  refine AllReadyH.cons h1 (fun K hK => ?_) (AllReadyH.cons h2 (fun K hK => ?_) AllReadyH.nil)
  · rw [if_pos hw1]
    exact ha K (fun v w' hS hn => hK _ _ hS (fun hS => by rw [hd1]; exact hn hS))
  · rw [if_pos hw2]
    exact hb K (fun v w' hS hn => hK _ _ hS (fun hS => by rw [hd2]; exact hn hS))
end
theorem keepE2 {B B' g k : Nat} {w w' : World} {q : Option Addr} {l : List Ex} (h : EAt (young B w) q l) (hv : Sv2 g k w w') (hg : g < B) (hk : k < B) (hB : B' ≤ B) : EAt (young B' w') q l := (h.bel (hv.young hg hk)).sub (young_sub _ hB)
theorem keepS2 {B B' g k : Nat} {w w' : World} {q : Option Addr} {l : List St} (h : SAt (young B w) q l) (hv : Sv2 g k w w') (hg : g < B) (hk : k < B) (hB : B' ≤ B) : SAt (young B' w') q l := (h.bel (hv.young hg hk)).sub (young_sub _ hB)
abbrev zeroS : Array Value := #[.int .i64 0, .string ⟨#[]⟩, .string ⟨#[]⟩, .int .i64 0, .slice none 0 0, .slice none 0 0, .slice none 0 0]
abbrev stC (q : Option Addr) (c : Nat) (q1 : Option Addr) (c1 : Nat) (q2 : Option Addr) (c2 : Nat) (s : St) : Array Value := #[.int .i64 s.kind, .string s.name, .string s.src, .int .i64 s.n, .slice q s.args.length c, .slice q1 s.thn.length c1, .slice q2 s.els.length c2]
theorem set7 {w : World} {g : Nat} {a0 a1 a2 a3 a4 a5 a6 b0 b1 b2 b3 b4 b5 b6 : Value} {t : TypeId} (h : w.heap[g]? = some (.cells #[a0, a1, a2, a3, a4, a5, a6] t (0, 0))) : (((((((w.setCell ⟨g, 0, none⟩ b0).setCell ⟨g, 1, none⟩ b1).setCell ⟨g, 2, none⟩ b2).setCell ⟨g, 3, none⟩ b3).setCell ⟨g, 4, none⟩ b4).setCell ⟨g, 5, none⟩ b5).setCell ⟨g, 6, none⟩ b6).heap[g]? = some (.cells #[b0, b1, b2, b3, b4, b5, b6] t (0, 0)) := by
  simp [World.setCell, Array.getElem?_modify, h]
theorem sv7 (k : Nat) (w : World) (b0 b1 b2 b3 b4 b5 b6 : Value) : Svg k w (((((((w.setCell ⟨k, 0, none⟩ b0).setCell ⟨k, 1, none⟩ b1).setCell ⟨k, 2, none⟩ b2).setCell ⟨k, 3, none⟩ b3).setCell ⟨k, 4, none⟩ b4).setCell ⟨k, 5, none⟩ b5).setCell ⟨k, 6, none⟩ b6) :=
  ((((((Svg.set k _ _ _).trans (Svg.set k _ _ _)).trans (Svg.set k _ _ _)).trans (Svg.set k _ _ _)).trans (Svg.set k _ _ _)).trans (Svg.set k _ _ _)).trans (Svg.set k _ _ _)
theorem keepS {B B' k : Nat} {w w' : World} {q : Option Addr} {l : List St} (h : SAt (young B w) q l) (hv : Svg k w w') (hk : k < B) (hB : B' ≤ B) : SAt (young B' w') q l := (h.bel (hv.young hk)).sub (young_sub _ hB)
theorem wfS_mk {k n : Int} {a b : ByteArray} {xs : List Ex} {th el : List St} (hk : 0 ≤ k ∧ k ≤ 100) (hn : 0 ≤ n ∧ n ≤ 100) (ha : a.size ≤ 20) (hb : b.size ≤ 20) (hx : xs.length ≤ 3) (ht : th.length ≤ 3) (he : el.length ≤ 3) : WfS (.mk k a b n xs th el) :=
  ⟨⟨by show _ ≤ k; omega, by show k ≤ _; omega⟩, ⟨by show _ ≤ n; omega, by show n ≤ _; omega⟩, Nat.le_trans ha (by unfold maxLen; decide), Nat.le_trans hb (by unfold maxLen; decide), Nat.le_trans hx (by decide), Nat.le_trans ht (by decide), Nat.le_trans he (by decide)⟩
def XAtI (c : Sco) (D : Int) (d : Nat) : Prop := ∀ (g : Nat) (s t : List Int) (x : Ex) (w : World) (p1 p2 p3 : Option Addr) (c1 c2 c3 : Nat), exprV c d s = (x, t) → ScAt g w p1 p2 p3 c → SrcAt g w s →
  Calls Tryz.prog 23 #[scV p1 c1 p2 c2 p3 c3 c, .pointer (some ⟨g, 0, none⟩), .int .i64 D] w fun e w' => ∃ q cq, e = .returned (exV q cq x) ∧ WfE x ∧ EAt (young w.heap.size w') q x.args ∧ Svg g w w' ∧ SrcAt g w' t
theorem XAtI.of {c : Sco} (hg : GoodC c) {D : Int} {d : Nat} (h : D = (d : Int)) (hd : d ≤ 100) : XAtI c D d := by
  subst h
  exact XAt_lit hg d hd
/-- a block of statements, as deep as D -/
def BAtI (D : Int) (d : Nat) : Prop := ∀ (c : Sco), GoodC c → c.held.length + d ≤ 900 → ∀ (g : Nat) (s t : List Int) (l : List St) (w : World) (p1 p2 p3 : Option Addr) (c1 c2 c3 : Nat), bodyV d c s = (l, t) → ScAt g w p1 p2 p3 c → SrcAt g w s →
  Calls Tryz.prog 24 #[scV p1 c1 p2 c2 p3 c3 c, .pointer (some ⟨g, 0, none⟩), .int .i64 D] w fun e w' => ∃ q cq, e = .returned (.slice q l.length cq) ∧ l.length ≤ 3 ∧ SAt (young w.heap.size w') q l ∧ Svg g w w' ∧ SrcAt g w' t
/-- the end: what lies in the result's block is handed back -/
theorem st_fin {g g2 cq n1 n2 : Nat} {w w6 WF : World} {t : List Int} {x : St} {q q1 q2 : Option Addr} {a : Act} (ha : a.tmps.getD 6 undef = .pointer (some ⟨g2, 0, none⟩)) (hd : a.defers = []) (HX : WF.heap[g2]? = some (.cells (stC q cq q1 n1 q2 n2 x) 52 (0, 0)))
    (hV : Svg g w w6) (hF : Svg g2 w6 WF) (hw : w.heap.size ≤ g2) (hg : g < g2) (hs : SrcAt g w6 t) (hwf : WfS x) (hE : EAt (young w.heap.size WF) q x.args) (hT : SAt (young w.heap.size WF) q1 x.thn) (hL : SAt (young w.heap.size WF) q2 x.els) :
    bodyPost Tryz.prog Tryz.f56 (fun e w' => ∃ q cq q1 n1 q2 n2, e = .returned (stV q cq q1 n1 q2 n2 x) ∧ WfS x ∧ EAt (young w.heap.size w') q x.args ∧ SAt (young w.heap.size w') q1 x.thn ∧ SAt (young w.heap.size w') q2 x.els ∧ Svg g w w' ∧ SrcAt g w' t) Exit.ret a WF := by
  refine bodyPost_ret (v := stV q cq q1 n1 q2 n2 x) (results_cell_row Tryz.results56 _ _ g2 _ _ _ _ ha HX Tryz.underlying52 rfl (by kernel_rfl)) hd ?_
  exact ⟨q, cq, q1, n1, q2, n2, rfl, hwf, hE, hT, hL, (hF.two' g).svg' hV hw, hs.sv hF (fun j hj => by subst hj; exact hg)⟩
theorem own_ge {α : Type} {enc : α → List Value} {T : TypeId} {k : Nat} {w : World} {base : Nat} {v : Value} {l : List α} (h : ERow enc T k w base v l) : ∀ b, v.ownBlock = some b → base ≤ b := fun b hb => by
  rcases h.2 with ⟨rfl, _⟩ | ⟨g, cap, cur, rfl, hbg, _⟩
  · simp [Value.ownBlock] at hb
  · have : g = b := by simpa [Value.ownBlock] using hb
    subst this
    exact hbg
/-- a row of names of one's own -/
theorem nms_own {w : World} {base n : Nat} {v : Value} {l : List ByteArray} (h : ERow encN 9 1 w base v l) (hn : n = l.length) (hl : ∀ x ∈ l, x.size ≤ maxLen) : ∃ p c, v = .slice p n c ∧ NmsAt (young base w) p l := by
  subst hn
  obtain ⟨p, c, rfl, he, hp⟩ := h.form nameTy.len
  refine ⟨p, c, rfl, fun j x hj => ?_⟩
  obtain ⟨b, o, rfl, hb, hc⟩ := he j x hj
  have hge := (hp _ rfl).1
  refine ⟨hl x (List.mem_of_getElem? hj), b, o, rfl, by rw [maskP_size]; exact hb, ?_⟩
  have := hc 0 (.string x) rfl
  rw [Nat.mul_one, Nat.add_zero] at this
  rw [maskP_cell w (by simp; exact hge)]
  exact this
set_option maxRecDepth 100000 in
set_option maxHeartbeats 8000000 in
theorem st_get (c : Sco) (hgc : GoodC c) (D : Int) (hD : 0 ≤ D ∧ D ≤ 100) (g : Nat) (s sl s0 t : List Int) (k : Int) (ln : ByteArray) (s1 : List Int) (fn : ByteArray) (n : Int) (w : World) (p1 p2 p3 : Option Addr) (c1 c2 c3 : Nat) (hln : nameV c xyz s = (ln, sl)) (hls : ln.size ≤ 20) (hk : nx sl 12 = (k, s0)) (hk2 : k = 0 ∨ k = 1) (hfn : nameV c c.devs s0 = (fn, s1)) (hfs : fn.size ≤ 20) (hn : nx s1 4 = (n, t)) (hnb : 0 ≤ n ∧ n < 4) (hC : ScAt g w p1 p2 p3 c) (hS : SrcAt g w s) :
    Calls Tryz.prog 56 #[scV p1 c1 p2 c2 p3 c3 c, .pointer (some ⟨g, 0, none⟩), .int .i64 D] w fun e w' => ∃ q cq q1 n1 q2 n2, e = .returned (stV q cq q1 n1 q2 n2 (St.mk 2 ln fn n [] [] [])) ∧ WfS (St.mk 2 ln fn n [] [] []) ∧ EAt (young w.heap.size w') q (St.mk 2 ln fn n [] [] []).args ∧ SAt (young w.heap.size w') q1 (St.mk 2 ln fn n [] [] []).thn ∧ SAt (young w.heap.size w') q2 (St.mk 2 ln fn n [] [] []).els ∧ Svg g w w' ∧ SrcAt g w' t := by
  have HC0 := Lib.hid hC
  have HS0 := Lib.hid hS
  have HLN := Lib.hid hln
  have HLS := Lib.hid hls
  have HK := Lib.hid hk
  have HDD := Lib.hid hD
  have HFN := Lib.hid hfn
  have HFS := Lib.hid hfs
  have HN := Lib.hid hn
  have HNB := Lib.hid hnb
  clear hC hS hln hls hk hD hfn hfs hn hnb
  rcases hk2 with rfl | rfl
  · go_enter Tryz.func56, Tryz.ntmps56
    go_upto_region 1 with (fail)
    obtain ⟨n0, n1, n2⟩ := new2 w (scA p1 c1 p2 c2 p3 c3 c) zeroS 61 52
    generalize (w.alloc (.cells (scA p1 c1 p2 c2 p3 c3 c) 61)).alloc (.cells zeroS 52) = W1 at n0 n1 n2 ⊢
    generalize hg2 : w.heap.size + 1 = g2 at n2 ⊢
    generalize hg1 : w.heap.size = g1 at n1 ⊢
    have HB := Lib.hid n0
    have HX1 := Lib.hid n1
    have HX2 := Lib.hid n2
    have HS := Lib.hid (HS0.out.bel n0)
    have HC := Lib.hid (HC0.out.svg (n0.svg g) HS0.out.lt)
    have HGS : Hid (g < w.heap.size ∧ g1 ≠ g ∧ g2 ≠ g ∧ g1 ≠ g2 ∧ w.heap.size ≤ g2) := Lib.hid (by have := HS0.out.lt; omega)
    clear n0 n1 n2 hg1 hg2
    have HV := Lib.hid (Svg.refl g W1)
    have HKEEP : Hid (∀ W' : World, Sv2 g g2 W1 W' → SBox g1 p1 c1 p2 c2 p3 c3 c W') := Lib.hid (fun W' hv => SBox.of (hv.stays HX1.out HGS.out.2.1 HGS.out.2.2.2.1))
    have HSZ : Hid (∀ W' : World, Svg g W1 W' → g < W'.heap.size ∧ g2 < W'.heap.size ∧ w.heap.size ≤ W'.heap.size) := Lib.hid (fun W' hv => by have h1 := hv.size; have h2 := lt_of_heap HX2.out; have h3 := HB.out.size; have h4 := HGS.out.1; omega)
    have HGL : Hid (g < W1.heap.size) := Lib.hid (HSZ.out _ (Svg.refl g W1)).1
    obtain ⟨d0, d1, d2, d3, d4⟩ := HKEEP.out _ (HV.out.two g2)
    go_wp2_with fail
    clear d0 d1 d2 d3 d4
    have hb5 := (Bel.refl W1).alloc #[.string ⟨#[120]⟩, .string ⟨#[121]⟩, .string ⟨#[122]⟩] 9
    have hx5 := heap_alloc_new W1 (.cells #[.string ⟨#[120]⟩, .string ⟨#[121]⟩, .string ⟨#[122]⟩] 9)
    have hg5 : W1.heap.size ≠ g := by have := HS.out.lt; omega
    generalize W1.alloc (.cells #[.string ⟨#[120]⟩, .string ⟨#[121]⟩, .string ⟨#[122]⟩] 9) = W5 at hb5 hx5 ⊢
    generalize W1.heap.size = g5 at hx5 hg5 ⊢
    refine (scname_lit HLN.out W5 (p := some ⟨g5, 0, none⟩) (n := 3) rfl (lit_nm (l := xyz) (mask_heap hx5 hg5) xyz_size) (by decide) (HS.out.bel hb5)).mono ?_
    rintro e w6 ⟨rfl, hv, hs⟩
    have HS := Lib.hid hs
    have HV := Lib.hid ((HV.out.trans (hb5.svg g)).trans hv)
    clear hb5 hx5 hs hv
    go_wp2_with fail
    refine (next_lit HK.out (by decide) _ HS.out).mono ?_
    rintro e w2 ⟨rfl, hv, hs⟩
    have HS := Lib.hid hs
    have HV := Lib.hid (HV.out.trans hv)
    clear hv hs
    go_upto_region 4 with (fail)
    obtain ⟨d0, d1, d2, d3, d4⟩ := HKEEP.out _ (HV.out.two g2)
    go_wp2_with fail
    refine (scname_lit HFN.out _ (p := p1) rfl (HC.out.svg HV.out HGL.out).devs HC.out.ld HS.out).mono ?_
    rintro e w2 ⟨rfl, hv, hs⟩
    have HS := Lib.hid hs
    have HV := Lib.hid (HV.out.trans hv)
    clear hv hs
    clear d0 d1 d2 d3 d4
    go_wp2_with fail
    refine (next_lit HN.out (by decide) _ HS.out).mono ?_
    rintro e w2 ⟨rfl, hv, hs⟩
    have HS := Lib.hid hs
    have HV := Lib.hid (HV.out.trans hv)
    clear hv hs
    have hx7 := HV.out.stays HX2.out HGS.out.2.2.1
    have z0 := cell_of_heap hx7 0
    have f0 := frozen_of_heap hx7 0
    have z1 := cell_of_heap hx7 1
    have f1 := frozen_of_heap hx7 1
    have z2 := cell_of_heap hx7 2
    have f2 := frozen_of_heap hx7 2
    have z3 := cell_of_heap hx7 3
    have f3 := frozen_of_heap hx7 3
    have z4 := cell_of_heap hx7 4
    have f4 := frozen_of_heap hx7 4
    have z5 := cell_of_heap hx7 5
    have f5 := frozen_of_heap hx7 5
    have z6 := cell_of_heap hx7 6
    have f6 := frozen_of_heap hx7 6
    simp only [List.getElem?_toArray, List.getElem?_cons_zero, List.getElem?_cons_succ] at z0 z1 z2 z3 z4 z5 z6
    go_wp2_with fail
    refine st_fin (x := St.mk 2 ln fn n [] [] []) (q := none) (cq := 0) (q1 := none) (n1 := 0) (q2 := none) (n2 := 0) (g2 := g2) (w6 := w2) rfl rfl (set7 hx7) (Svg.of HB.out HV.out) (sv7 g2 w2 _ _ _ _ _ _ _) HGS.out.2.2.2.2 (by have := HGS.out; omega) HS.out ?_ (EAt.nil _ _) (SAt.nil _ _) (SAt.nil _ _)
    exact wfS_mk ⟨by decide, by decide⟩ ⟨HNB.out.1, by have := HNB.out.2; omega⟩ HLS.out HFS.out (by decide) (by decide) (by decide)
  · go_enter Tryz.func56, Tryz.ntmps56
    go_upto_region 1 with (fail)
    obtain ⟨n0, n1, n2⟩ := new2 w (scA p1 c1 p2 c2 p3 c3 c) zeroS 61 52
    generalize (w.alloc (.cells (scA p1 c1 p2 c2 p3 c3 c) 61)).alloc (.cells zeroS 52) = W1 at n0 n1 n2 ⊢
    generalize hg2 : w.heap.size + 1 = g2 at n2 ⊢
    generalize hg1 : w.heap.size = g1 at n1 ⊢
    have HB := Lib.hid n0
    have HX1 := Lib.hid n1
    have HX2 := Lib.hid n2
    have HS := Lib.hid (HS0.out.bel n0)
    have HC := Lib.hid (HC0.out.svg (n0.svg g) HS0.out.lt)
    have HGS : Hid (g < w.heap.size ∧ g1 ≠ g ∧ g2 ≠ g ∧ g1 ≠ g2 ∧ w.heap.size ≤ g2) := Lib.hid (by have := HS0.out.lt; omega)
    clear n0 n1 n2 hg1 hg2
    have HV := Lib.hid (Svg.refl g W1)
    have HKEEP : Hid (∀ W' : World, Sv2 g g2 W1 W' → SBox g1 p1 c1 p2 c2 p3 c3 c W') := Lib.hid (fun W' hv => SBox.of (hv.stays HX1.out HGS.out.2.1 HGS.out.2.2.2.1))
    have HSZ : Hid (∀ W' : World, Svg g W1 W' → g < W'.heap.size ∧ g2 < W'.heap.size ∧ w.heap.size ≤ W'.heap.size) := Lib.hid (fun W' hv => by have h1 := hv.size; have h2 := lt_of_heap HX2.out; have h3 := HB.out.size; have h4 := HGS.out.1; omega)
    have HGL : Hid (g < W1.heap.size) := Lib.hid (HSZ.out _ (Svg.refl g W1)).1
    obtain ⟨d0, d1, d2, d3, d4⟩ := HKEEP.out _ (HV.out.two g2)
    go_wp2_with fail
    clear d0 d1 d2 d3 d4
    have hb5 := (Bel.refl W1).alloc #[.string ⟨#[120]⟩, .string ⟨#[121]⟩, .string ⟨#[122]⟩] 9
    have hx5 := heap_alloc_new W1 (.cells #[.string ⟨#[120]⟩, .string ⟨#[121]⟩, .string ⟨#[122]⟩] 9)
    have hg5 : W1.heap.size ≠ g := by have := HS.out.lt; omega
    generalize W1.alloc (.cells #[.string ⟨#[120]⟩, .string ⟨#[121]⟩, .string ⟨#[122]⟩] 9) = W5 at hb5 hx5 ⊢
    generalize W1.heap.size = g5 at hx5 hg5 ⊢
    refine (scname_lit HLN.out W5 (p := some ⟨g5, 0, none⟩) (n := 3) rfl (lit_nm (l := xyz) (mask_heap hx5 hg5) xyz_size) (by decide) (HS.out.bel hb5)).mono ?_
    rintro e w6 ⟨rfl, hv, hs⟩
    have HS := Lib.hid hs
    have HV := Lib.hid ((HV.out.trans (hb5.svg g)).trans hv)
    clear hb5 hx5 hs hv
    go_wp2_with fail
    refine (next_lit HK.out (by decide) _ HS.out).mono ?_
    rintro e w2 ⟨rfl, hv, hs⟩
    have HS := Lib.hid hs
    have HV := Lib.hid (HV.out.trans hv)
    clear hv hs
    go_upto_region 4 with (fail)
    obtain ⟨d0, d1, d2, d3, d4⟩ := HKEEP.out _ (HV.out.two g2)
    go_wp2_with fail
    refine (scname_lit HFN.out _ (p := p1) rfl (HC.out.svg HV.out HGL.out).devs HC.out.ld HS.out).mono ?_
    rintro e w2 ⟨rfl, hv, hs⟩
    have HS := Lib.hid hs
    have HV := Lib.hid (HV.out.trans hv)
    clear hv hs
    clear d0 d1 d2 d3 d4
    go_wp2_with fail
    refine (next_lit HN.out (by decide) _ HS.out).mono ?_
    rintro e w2 ⟨rfl, hv, hs⟩
    have HS := Lib.hid hs
    have HV := Lib.hid (HV.out.trans hv)
    clear hv hs
    have hx7 := HV.out.stays HX2.out HGS.out.2.2.1
    have z0 := cell_of_heap hx7 0
    have f0 := frozen_of_heap hx7 0
    have z1 := cell_of_heap hx7 1
    have f1 := frozen_of_heap hx7 1
    have z2 := cell_of_heap hx7 2
    have f2 := frozen_of_heap hx7 2
    have z3 := cell_of_heap hx7 3
    have f3 := frozen_of_heap hx7 3
    have z4 := cell_of_heap hx7 4
    have f4 := frozen_of_heap hx7 4
    have z5 := cell_of_heap hx7 5
    have f5 := frozen_of_heap hx7 5
    have z6 := cell_of_heap hx7 6
    have f6 := frozen_of_heap hx7 6
    simp only [List.getElem?_toArray, List.getElem?_cons_zero, List.getElem?_cons_succ] at z0 z1 z2 z3 z4 z5 z6
    go_wp2_with fail
    refine st_fin (x := St.mk 2 ln fn n [] [] []) (q := none) (cq := 0) (q1 := none) (n1 := 0) (q2 := none) (n2 := 0) (g2 := g2) (w6 := w2) rfl rfl (set7 hx7) (Svg.of HB.out HV.out) (sv7 g2 w2 _ _ _ _ _ _ _) HGS.out.2.2.2.2 (by have := HGS.out; omega) HS.out ?_ (EAt.nil _ _) (SAt.nil _ _) (SAt.nil _ _)
    exact wfS_mk ⟨by decide, by decide⟩ ⟨HNB.out.1, by have := HNB.out.2; omega⟩ HLS.out HFS.out (by decide) (by decide) (by decide)
set_option maxRecDepth 100000 in
set_option maxHeartbeats 8000000 in
theorem st_halt (c : Sco) (hgc : GoodC c) (D : Int) (hD : 0 ≤ D ∧ D ≤ 100) (g : Nat) (s sl s0 t : List Int) (k : Int) (ln : ByteArray)  (w : World) (p1 p2 p3 : Option Addr) (c1 c2 c3 : Nat) (hln : nameV c xyz s = (ln, sl)) (hls : ln.size ≤ 20) (hk : nx sl 12 = (k, s0)) (hk2 : k = 11) (hst : s0 = t) (hC : ScAt g w p1 p2 p3 c) (hS : SrcAt g w s) :
    Calls Tryz.prog 56 #[scV p1 c1 p2 c2 p3 c3 c, .pointer (some ⟨g, 0, none⟩), .int .i64 D] w fun e w' => ∃ q cq q1 n1 q2 n2, e = .returned (stV q cq q1 n1 q2 n2 (St.mk 8 ⟨#[]⟩ ⟨#[]⟩ 0 [] [] [])) ∧ WfS (St.mk 8 ⟨#[]⟩ ⟨#[]⟩ 0 [] [] []) ∧ EAt (young w.heap.size w') q (St.mk 8 ⟨#[]⟩ ⟨#[]⟩ 0 [] [] []).args ∧ SAt (young w.heap.size w') q1 (St.mk 8 ⟨#[]⟩ ⟨#[]⟩ 0 [] [] []).thn ∧ SAt (young w.heap.size w') q2 (St.mk 8 ⟨#[]⟩ ⟨#[]⟩ 0 [] [] []).els ∧ Svg g w w' ∧ SrcAt g w' t := by
  have HC0 := Lib.hid hC
  have HS0 := Lib.hid hS
  have HLN := Lib.hid hln
  have HLS := Lib.hid hls
  have HK := Lib.hid hk
  have HDD := Lib.hid hD
  clear hC hS hln hls hk hD 
  subst hk2
  subst hst
  go_enter Tryz.func56, Tryz.ntmps56
  go_upto_region 1 with (fail)
  obtain ⟨n0, n1, n2⟩ := new2 w (scA p1 c1 p2 c2 p3 c3 c) zeroS 61 52
  generalize (w.alloc (.cells (scA p1 c1 p2 c2 p3 c3 c) 61)).alloc (.cells zeroS 52) = W1 at n0 n1 n2 ⊢
  generalize hg2 : w.heap.size + 1 = g2 at n2 ⊢
  generalize hg1 : w.heap.size = g1 at n1 ⊢
  have HB := Lib.hid n0
  have HX1 := Lib.hid n1
  have HX2 := Lib.hid n2
  have HS := Lib.hid (HS0.out.bel n0)
  have HC := Lib.hid (HC0.out.svg (n0.svg g) HS0.out.lt)
  have HGS : Hid (g < w.heap.size ∧ g1 ≠ g ∧ g2 ≠ g ∧ g1 ≠ g2 ∧ w.heap.size ≤ g2) := Lib.hid (by have := HS0.out.lt; omega)
  clear n0 n1 n2 hg1 hg2
  have HV := Lib.hid (Svg.refl g W1)
  have HKEEP : Hid (∀ W' : World, Sv2 g g2 W1 W' → SBox g1 p1 c1 p2 c2 p3 c3 c W') := Lib.hid (fun W' hv => SBox.of (hv.stays HX1.out HGS.out.2.1 HGS.out.2.2.2.1))
  have HSZ : Hid (∀ W' : World, Svg g W1 W' → g < W'.heap.size ∧ g2 < W'.heap.size ∧ w.heap.size ≤ W'.heap.size) := Lib.hid (fun W' hv => by have h1 := hv.size; have h2 := lt_of_heap HX2.out; have h3 := HB.out.size; have h4 := HGS.out.1; omega)
  have HGL : Hid (g < W1.heap.size) := Lib.hid (HSZ.out _ (Svg.refl g W1)).1
  obtain ⟨d0, d1, d2, d3, d4⟩ := HKEEP.out _ (HV.out.two g2)
  go_wp2_with fail
  clear d0 d1 d2 d3 d4
  have hb5 := (Bel.refl W1).alloc #[.string ⟨#[120]⟩, .string ⟨#[121]⟩, .string ⟨#[122]⟩] 9
  have hx5 := heap_alloc_new W1 (.cells #[.string ⟨#[120]⟩, .string ⟨#[121]⟩, .string ⟨#[122]⟩] 9)
  have hg5 : W1.heap.size ≠ g := by have := HS.out.lt; omega
  generalize W1.alloc (.cells #[.string ⟨#[120]⟩, .string ⟨#[121]⟩, .string ⟨#[122]⟩] 9) = W5 at hb5 hx5 ⊢
  generalize W1.heap.size = g5 at hx5 hg5 ⊢
  refine (scname_lit HLN.out W5 (p := some ⟨g5, 0, none⟩) (n := 3) rfl (lit_nm (l := xyz) (mask_heap hx5 hg5) xyz_size) (by decide) (HS.out.bel hb5)).mono ?_
  rintro e w6 ⟨rfl, hv, hs⟩
  have HS := Lib.hid hs
  have HV := Lib.hid ((HV.out.trans (hb5.svg g)).trans hv)
  clear hb5 hx5 hs hv
  go_wp2_with fail
  refine (next_lit HK.out (by decide) _ HS.out).mono ?_
  rintro e w2 ⟨rfl, hv, hs⟩
  have HS := Lib.hid hs
  have HV := Lib.hid (HV.out.trans hv)
  clear hv hs
  obtain ⟨d0, d1, d2, d3, d4⟩ := HKEEP.out _ (HV.out.two g2)
  go_upto_region 23 with (fail)
  clear d0 d1 d2 d3 d4
  have hx7 := HV.out.stays HX2.out HGS.out.2.2.1
  have z0 := cell_of_heap hx7 0
  have f0 := frozen_of_heap hx7 0
  have z1 := cell_of_heap hx7 1
  have f1 := frozen_of_heap hx7 1
  have z2 := cell_of_heap hx7 2
  have f2 := frozen_of_heap hx7 2
  have z3 := cell_of_heap hx7 3
  have f3 := frozen_of_heap hx7 3
  have z4 := cell_of_heap hx7 4
  have f4 := frozen_of_heap hx7 4
  have z5 := cell_of_heap hx7 5
  have f5 := frozen_of_heap hx7 5
  have z6 := cell_of_heap hx7 6
  have f6 := frozen_of_heap hx7 6
  simp only [List.getElem?_toArray, List.getElem?_cons_zero, List.getElem?_cons_succ] at z0 z1 z2 z3 z4 z5 z6
  go_wp2_with fail
  refine st_fin (x := St.mk 8 ⟨#[]⟩ ⟨#[]⟩ 0 [] [] []) (q := none) (cq := 0) (q1 := none) (n1 := 0) (q2 := none) (n2 := 0) (g2 := g2) (w6 := w2) rfl rfl (set7 hx7) (Svg.of HB.out HV.out) (sv7 g2 w2 _ _ _ _ _ _ _) HGS.out.2.2.2.2 (by have := HGS.out; omega) HS.out ?_ (EAt.nil _ _) (SAt.nil _ _) (SAt.nil _ _)
  exact wfS_mk ⟨by decide, by decide⟩ ⟨by decide, by decide⟩ (by decide) (by decide) (by decide) (by decide) (by decide)
set_option maxRecDepth 100000 in
set_option maxHeartbeats 8000000 in
theorem st_put (c : Sco) (hgc : GoodC c) (D : Int) (hD : 0 ≤ D ∧ D ≤ 100) (g : Nat) (s sl s0 t : List Int) (k : Int) (ln : ByteArray) (s1 s2 : List Int) (fn : ByteArray) (n : Int) (x : Ex) (w : World) (p1 p2 p3 : Option Addr) (c1 c2 c3 : Nat) (hln : nameV c xyz s = (ln, sl)) (hls : ln.size ≤ 20) (hk : nx sl 12 = (k, s0)) (hk2 : k = 2 ∨ k = 3 ∨ k = 4) (hfn : nameV c c.devs s0 = (fn, s1)) (hfs : fn.size ≤ 20) (hn : nx s1 4 = (n, s2)) (hnb : 0 ≤ n ∧ n < 4) (hx : exprV c 3 s2 = (x, t)) (hC : ScAt g w p1 p2 p3 c) (hS : SrcAt g w s) :
    Calls Tryz.prog 56 #[scV p1 c1 p2 c2 p3 c3 c, .pointer (some ⟨g, 0, none⟩), .int .i64 D] w fun e w' => ∃ q cq q1 n1 q2 n2, e = .returned (stV q cq q1 n1 q2 n2 (St.mk 3 fn ⟨#[]⟩ n [x] [] [])) ∧ WfS (St.mk 3 fn ⟨#[]⟩ n [x] [] []) ∧ EAt (young w.heap.size w') q (St.mk 3 fn ⟨#[]⟩ n [x] [] []).args ∧ SAt (young w.heap.size w') q1 (St.mk 3 fn ⟨#[]⟩ n [x] [] []).thn ∧ SAt (young w.heap.size w') q2 (St.mk 3 fn ⟨#[]⟩ n [x] [] []).els ∧ Svg g w w' ∧ SrcAt g w' t := by
  have HC0 := Lib.hid hC
  have HS0 := Lib.hid hS
  have HLN := Lib.hid hln
  have HLS := Lib.hid hls
  have HK := Lib.hid hk
  have HDD := Lib.hid hD
  have HFN := Lib.hid hfn
  have HFS := Lib.hid hfs
  have HN := Lib.hid hn
  have HNB := Lib.hid hnb
  have HX := Lib.hid hx
  clear hC hS hln hls hk hD hfn hfs hn hnb hx
  have E3 := Lib.hid (XAtI.of hgc (D := 3) (d := 3) rfl (by decide))
  rcases hk2 with rfl | rfl | rfl
  · go_enter Tryz.func56, Tryz.ntmps56
    go_upto_region 1 with (fail)
    obtain ⟨n0, n1, n2⟩ := new2 w (scA p1 c1 p2 c2 p3 c3 c) zeroS 61 52
    generalize (w.alloc (.cells (scA p1 c1 p2 c2 p3 c3 c) 61)).alloc (.cells zeroS 52) = W1 at n0 n1 n2 ⊢
    generalize hg2 : w.heap.size + 1 = g2 at n2 ⊢
    generalize hg1 : w.heap.size = g1 at n1 ⊢
    have HB := Lib.hid n0
    have HX1 := Lib.hid n1
    have HX2 := Lib.hid n2
    have HS := Lib.hid (HS0.out.bel n0)
    have HC := Lib.hid (HC0.out.svg (n0.svg g) HS0.out.lt)
    have HGS : Hid (g < w.heap.size ∧ g1 ≠ g ∧ g2 ≠ g ∧ g1 ≠ g2 ∧ w.heap.size ≤ g2) := Lib.hid (by have := HS0.out.lt; omega)
    clear n0 n1 n2 hg1 hg2
    have HV := Lib.hid (Svg.refl g W1)
    have HKEEP : Hid (∀ W' : World, Sv2 g g2 W1 W' → SBox g1 p1 c1 p2 c2 p3 c3 c W') := Lib.hid (fun W' hv => SBox.of (hv.stays HX1.out HGS.out.2.1 HGS.out.2.2.2.1))
    have HSZ : Hid (∀ W' : World, Svg g W1 W' → g < W'.heap.size ∧ g2 < W'.heap.size ∧ w.heap.size ≤ W'.heap.size) := Lib.hid (fun W' hv => by have h1 := hv.size; have h2 := lt_of_heap HX2.out; have h3 := HB.out.size; have h4 := HGS.out.1; omega)
    have HGL : Hid (g < W1.heap.size) := Lib.hid (HSZ.out _ (Svg.refl g W1)).1
    obtain ⟨d0, d1, d2, d3, d4⟩ := HKEEP.out _ (HV.out.two g2)
    go_wp2_with fail
    clear d0 d1 d2 d3 d4
    have hb5 := (Bel.refl W1).alloc #[.string ⟨#[120]⟩, .string ⟨#[121]⟩, .string ⟨#[122]⟩] 9
    have hx5 := heap_alloc_new W1 (.cells #[.string ⟨#[120]⟩, .string ⟨#[121]⟩, .string ⟨#[122]⟩] 9)
    have hg5 : W1.heap.size ≠ g := by have := HS.out.lt; omega
    generalize W1.alloc (.cells #[.string ⟨#[120]⟩, .string ⟨#[121]⟩, .string ⟨#[122]⟩] 9) = W5 at hb5 hx5 ⊢
    generalize W1.heap.size = g5 at hx5 hg5 ⊢
    refine (scname_lit HLN.out W5 (p := some ⟨g5, 0, none⟩) (n := 3) rfl (lit_nm (l := xyz) (mask_heap hx5 hg5) xyz_size) (by decide) (HS.out.bel hb5)).mono ?_
    rintro e w6 ⟨rfl, hv, hs⟩
    have HS := Lib.hid hs
    have HV := Lib.hid ((HV.out.trans (hb5.svg g)).trans hv)
    clear hb5 hx5 hs hv
    go_wp2_with fail
    refine (next_lit HK.out (by decide) _ HS.out).mono ?_
    rintro e w2 ⟨rfl, hv, hs⟩
    have HS := Lib.hid hs
    have HV := Lib.hid (HV.out.trans hv)
    clear hv hs
    go_upto_region 6 with (fail)
    refine wp_region_held_drew (S := (SBox g1 p1 c1 p2 c2 p3 c3 c)) (by kernel_rfl) (HKEEP.out _ (Svg.two (HV.out.trans ((Bel.refl w2).drew.svg g)) g2)) (fun hS0 => ?_)
    refine takeD 33 (i := 0) (v := ?v1) rfl rfl (by kernel_rfl) (by kernel_rfl) (by kernel_rfl) (fun _ _ _ h => h) (by kernel_rfl) ?hy1 hS0 ?rest1
    case hy1 => (intro w0 hSw; obtain ⟨s0, s1, s2, s3, s4⟩ := hSw; first | (go_simp; done) | (go_simp; with_reducible rfl))
    simp only [List.setIfInBounds_toArray, List.set_cons_zero, List.set_cons_succ]
    refine takeD 34 (i := 1) (v := ?v2) rfl rfl (by kernel_rfl) (by kernel_rfl) (by kernel_rfl) (fun _ _ _ h => h) (by kernel_rfl) ?hy2 hS0 ?rest2
    case hy2 => (intro w0 hSw; obtain ⟨s0, s1, s2, s3, s4⟩ := hSw; first | (go_simp; done) | (go_simp; with_reducible rfl))
    simp only [List.setIfInBounds_toArray, List.set_cons_zero, List.set_cons_succ]
    refine takeD 35 (i := 2) (v := ?v3) rfl rfl (by kernel_rfl) (by kernel_rfl) (by kernel_rfl) (fun _ _ _ h => h) (by kernel_rfl) ?hy3 hS0 ?rest3
    case hy3 => (intro w0 hSw; obtain ⟨s0, s1, s2, s3, s4⟩ := hSw; first | (go_simp; done) | (go_simp; with_reducible rfl))
    simp only [List.setIfInBounds_toArray, List.set_cons_zero, List.set_cons_succ]
    refine takeD 36 (i := 3) (v := ?v4) rfl rfl (by kernel_rfl) (by kernel_rfl) (by kernel_rfl) (fun _ _ _ h => h) (by kernel_rfl) ?hy4 hS0 ?rest4
    case hy4 => (intro w0 hSw; obtain ⟨s0, s1, s2, s3, s4⟩ := hSw; first | (go_simp; done) | (go_simp; with_reducible rfl))
    simp only [List.setIfInBounds_toArray, List.set_cons_zero, List.set_cons_succ]
    refine takeD 38 (i := 5) (v := ?v5) rfl rfl (by kernel_rfl) (by kernel_rfl) (by kernel_rfl) (fun _ _ _ h => h) (by kernel_rfl) ?hy5 hS0 ?rest5
    case hy5 => (intro w0 hSw; obtain ⟨s0, s1, s2, s3, s4⟩ := hSw; first | (go_simp; done) | (go_simp; with_reducible rfl))
    simp only [List.setIfInBounds_toArray, List.set_cons_zero, List.set_cons_succ]
    refine takeD 40 (i := 7) (v := ?v6) rfl rfl (by kernel_rfl) (by kernel_rfl) (by kernel_rfl) (fun _ _ _ h => h) (by kernel_rfl) ?hy6 hS0 ?rest6
    case hy6 => (intro w0 hSw; obtain ⟨s0, s1, s2, s3, s4⟩ := hSw; first | (go_simp; done) | (go_simp; with_reducible rfl))
    simp only [List.setIfInBounds_toArray, List.set_cons_zero, List.set_cons_succ]
    refine takeD 41 (i := 8) (v := ?v7) rfl rfl (by kernel_rfl) (by kernel_rfl) (by kernel_rfl) (fun _ _ _ h => h) (by kernel_rfl) ?hy7 hS0 ?rest7
    case hy7 => (intro w0 hSw; obtain ⟨s0, s1, s2, s3, s4⟩ := hSw; first | (go_simp; done) | (go_simp; with_reducible rfl))
    simp only [List.setIfInBounds_toArray, List.set_cons_zero, List.set_cons_succ]
    refine onlyD 37 (i := 4) rfl rfl (by kernel_rfl) (by kernel_rfl) (fun K hK => ?_)
    go_simp
    go_at_call 55
    refine (scname_lit HFN.out _ (p := p1) rfl (HC.out.svg (HV.out.trans ((Bel.refl w2).drew.svg g)) HGL.out).devs HC.out.ld (HS.out.bel (Bel.refl _).drew)).mono ?_
    rintro e w11 ⟨rfl, hv1, hs1⟩
    have hS1 := HKEEP.out _ (Svg.two ((HV.out.trans ((Bel.refl w2).drew.svg g)).trans hv1) g2)
    refine hK.out _ _ hS1 (fun _ => ?_)
    clear hK K
    simp only [List.setIfInBounds_toArray, List.set_cons_zero, List.set_cons_succ]
    refine onlyD 39 (i := 6) rfl rfl (by kernel_rfl) (by kernel_rfl) (fun K hK => ?_)
    go_simp
    go_at_call 21
    refine (next_lit HN.out (by decide) _ hs1).mono ?_
    rintro e w12 ⟨rfl, hv2, hs2⟩
    have hS2 := HKEEP.out _ (Svg.two (((HV.out.trans ((Bel.refl w2).drew.svg g)).trans hv1).trans hv2) g2)
    refine hK.out _ _ hS2 (fun _ => ?_)
    clear hK K
    simp only [List.setIfInBounds_toArray, List.set_cons_zero, List.set_cons_succ]
    refine onlyD 42 (i := 9) rfl rfl (by kernel_rfl) (by kernel_rfl) (fun K hK => ?_)
    go_simp
    go_at_call 23
    refine (E3.out g s2 t x _ p1 p2 p3 c1 c2 c3 HX.out (HC.out.svg (((HV.out.trans ((Bel.refl w2).drew.svg g)).trans hv1).trans hv2) HGL.out) hs2).mono ?_
    rintro e w13 ⟨q3, n3, rfl, wf3, he3, hv3, hs3⟩
    have hS3 := HKEEP.out _ (Svg.two ((((HV.out.trans ((Bel.refl w2).drew.svg g)).trans hv1).trans hv2).trans hv3) g2)
    refine hK.out _ _ hS3 (fun _ => ?_)
    clear hK K
    simp only [List.setIfInBounds_toArray, List.set_cons_zero, List.set_cons_succ]
    refine onlyD 43 (i := 10) rfl rfl (by kernel_rfl) (by kernel_rfl) (fun K hK => ?_)
    go_simp
    refine hK.out _ _ (HKEEP.out _ (Svg.two (((((HV.out.trans ((Bel.refl w2).drew.svg g)).trans hv1).trans hv2).trans hv3).trans (((Bel.refl _).alloc _ _).svg g)) g2)) (fun hM1 => ?_)
    clear hK K
    simp only [List.setIfInBounds_toArray, List.set_cons_zero, List.set_cons_succ]
    refine takeD 44 (i := 11) (v := ?v8) rfl rfl (by kernel_rfl) (by kernel_rfl) (by kernel_rfl) (fun _ _ _ h => h) (by kernel_rfl) ?hy8 hM1 ?rest8
    case hy8 => (intro w0 hSw; obtain ⟨s0, s1, s2, s3, s4⟩ := hSw; first | (go_simp; done) | (go_simp; with_reducible rfl))
    simp only [List.setIfInBounds_toArray, List.set_cons_zero, List.set_cons_succ]
    refine onlyN (i := 12) rfl rfl (by kernel_rfl) (by kernel_rfl) (fun K hK => ?_)
    refine wp_store_row 52 (.tmp 6) (.tmp 44) rfl g2 #[.int .i64 3, .string fn, .string ⟨#[]⟩, .int .i64 n, .slice (some ⟨w13.heap.size, 0, none⟩) 1 1, .slice none 0 0, .slice none 0 0] (by kernel_rfl) (by kernel_rfl) 52 zeroS (Svg.stays (((((HV.out.trans ((Bel.refl w2).drew.svg g)).trans hv1).trans hv2).trans hv3).trans (((Bel.refl _).alloc _ _).svg g)) HX2.out HGS.out.2.2.1) (by kernel_rfl) (by kernel_rfl) (by kernel_rfl) ?_
    refine hK.out undef _ (HKEEP.out _ ((Svg.two (((((HV.out.trans ((Bel.refl w2).drew.svg g)).trans hv1).trans hv2).trans hv3).trans (((Bel.refl _).alloc _ _).svg g)) g2).trans ((setRow_svg g2 _ _).two' g))) (fun hSF => ?_)
    clear hK K
    refine wpAnyH_done (by kernel_rfl) ?_ _
    clear hSF hS0 hS1 hS2 hS3 hM1
    go_wp2_with fail
    have hal := (Bel.refl w13).alloc #[.int .i64 x.kind, .int .i64 x.op, .int .i64 x.n, .string x.name, .slice q3 x.args.length n3] 40
    have hnew := heap_alloc_new w13 (.cells #[.int .i64 x.kind, .int .i64 x.op, .int .i64 x.n, .string x.name, .slice q3 x.args.length n3] 40)
    have hav := hal.svg g2
    have HV2 := Lib.hid (((((HV.out.trans ((Bel.refl w2).drew.svg g)).trans hv1).trans hv2).trans hv3).trans (hal.svg g))
    have hs9 := hs3.bel hal
    generalize w13.alloc (.cells #[.int .i64 x.kind, .int .i64 x.op, .int .i64 x.n, .string x.name, .slice q3 x.args.length n3] 40) = W9 at hav hnew hs9 HV2 ⊢
    obtain ⟨y01, y02, y03⟩ := HSZ.out w12 ((HV.out.trans ((Bel.refl w2).drew.svg g)).trans hv1 |>.trans hv2)
    have hz := hv3.size
    have hx9 := HV2.out.stays HX2.out HGS.out.2.2.1
    have hnew2 := fun cs => young_heap (B := w.heap.size) ((setRow_svg g2 W9 cs).stays hnew (by omega)) (by omega)
    refine st_fin (x := St.mk 3 fn ⟨#[]⟩ n [x] [] []) (q := some ⟨w13.heap.size, 0, none⟩) (cq := 1) (q1 := none) (n1 := 0) (q2 := none) (n2 := 0) (g2 := g2) (w6 := W9) rfl rfl (setRow_heap _ g2 zeroS _ _ _ hx9) (Svg.of HB.out HV2.out) (setRow_svg g2 _ _) HGS.out.2.2.2.2 (by have := HGS.out; omega) hs9 ?_ ?_ (SAt.nil _ _) (SAt.nil _ _)
    · exact wfS_mk ⟨by decide, by decide⟩ ⟨HNB.out.1, by have := HNB.out.2; omega⟩ HFS.out (by decide) (Nat.le_of_ble_eq_true rfl) (by decide) (by decide)
    · exact EAt.one (e := x) (hnew2 _) wf3 (keepE he3 (hav.trans (setRow_svg g2 _ _)) y02 y03)
  · go_enter Tryz.func56, Tryz.ntmps56
    go_upto_region 1 with (fail)
    obtain ⟨n0, n1, n2⟩ := new2 w (scA p1 c1 p2 c2 p3 c3 c) zeroS 61 52
    generalize (w.alloc (.cells (scA p1 c1 p2 c2 p3 c3 c) 61)).alloc (.cells zeroS 52) = W1 at n0 n1 n2 ⊢
    generalize hg2 : w.heap.size + 1 = g2 at n2 ⊢
    generalize hg1 : w.heap.size = g1 at n1 ⊢
    have HB := Lib.hid n0
    have HX1 := Lib.hid n1
    have HX2 := Lib.hid n2
    have HS := Lib.hid (HS0.out.bel n0)
    have HC := Lib.hid (HC0.out.svg (n0.svg g) HS0.out.lt)
    have HGS : Hid (g < w.heap.size ∧ g1 ≠ g ∧ g2 ≠ g ∧ g1 ≠ g2 ∧ w.heap.size ≤ g2) := Lib.hid (by have := HS0.out.lt; omega)
    clear n0 n1 n2 hg1 hg2
    have HV := Lib.hid (Svg.refl g W1)
    have HKEEP : Hid (∀ W' : World, Sv2 g g2 W1 W' → SBox g1 p1 c1 p2 c2 p3 c3 c W') := Lib.hid (fun W' hv => SBox.of (hv.stays HX1.out HGS.out.2.1 HGS.out.2.2.2.1))
    have HSZ : Hid (∀ W' : World, Svg g W1 W' → g < W'.heap.size ∧ g2 < W'.heap.size ∧ w.heap.size ≤ W'.heap.size) := Lib.hid (fun W' hv => by have h1 := hv.size; have h2 := lt_of_heap HX2.out; have h3 := HB.out.size; have h4 := HGS.out.1; omega)
    have HGL : Hid (g < W1.heap.size) := Lib.hid (HSZ.out _ (Svg.refl g W1)).1
    obtain ⟨d0, d1, d2, d3, d4⟩ := HKEEP.out _ (HV.out.two g2)
    go_wp2_with fail
    clear d0 d1 d2 d3 d4
    have hb5 := (Bel.refl W1).alloc #[.string ⟨#[120]⟩, .string ⟨#[121]⟩, .string ⟨#[122]⟩] 9
    have hx5 := heap_alloc_new W1 (.cells #[.string ⟨#[120]⟩, .string ⟨#[121]⟩, .string ⟨#[122]⟩] 9)
    have hg5 : W1.heap.size ≠ g := by have := HS.out.lt; omega
    generalize W1.alloc (.cells #[.string ⟨#[120]⟩, .string ⟨#[121]⟩, .string ⟨#[122]⟩] 9) = W5 at hb5 hx5 ⊢
    generalize W1.heap.size = g5 at hx5 hg5 ⊢
    refine (scname_lit HLN.out W5 (p := some ⟨g5, 0, none⟩) (n := 3) rfl (lit_nm (l := xyz) (mask_heap hx5 hg5) xyz_size) (by decide) (HS.out.bel hb5)).mono ?_
    rintro e w6 ⟨rfl, hv, hs⟩
    have HS := Lib.hid hs
    have HV := Lib.hid ((HV.out.trans (hb5.svg g)).trans hv)
    clear hb5 hx5 hs hv
    go_wp2_with fail
    refine (next_lit HK.out (by decide) _ HS.out).mono ?_
    rintro e w2 ⟨rfl, hv, hs⟩
    have HS := Lib.hid hs
    have HV := Lib.hid (HV.out.trans hv)
    clear hv hs
    go_upto_region 6 with (fail)
    refine wp_region_held_drew (S := (SBox g1 p1 c1 p2 c2 p3 c3 c)) (by kernel_rfl) (HKEEP.out _ (Svg.two (HV.out.trans ((Bel.refl w2).drew.svg g)) g2)) (fun hS0 => ?_)
    refine takeD 33 (i := 0) (v := ?v9) rfl rfl (by kernel_rfl) (by kernel_rfl) (by kernel_rfl) (fun _ _ _ h => h) (by kernel_rfl) ?hy9 hS0 ?rest9
    case hy9 => (intro w0 hSw; obtain ⟨s0, s1, s2, s3, s4⟩ := hSw; first | (go_simp; done) | (go_simp; with_reducible rfl))
    simp only [List.setIfInBounds_toArray, List.set_cons_zero, List.set_cons_succ]
    refine takeD 34 (i := 1) (v := ?v10) rfl rfl (by kernel_rfl) (by kernel_rfl) (by kernel_rfl) (fun _ _ _ h => h) (by kernel_rfl) ?hy10 hS0 ?rest10
    case hy10 => (intro w0 hSw; obtain ⟨s0, s1, s2, s3, s4⟩ := hSw; first | (go_simp; done) | (go_simp; with_reducible rfl))
    simp only [List.setIfInBounds_toArray, List.set_cons_zero, List.set_cons_succ]
    refine takeD 35 (i := 2) (v := ?v11) rfl rfl (by kernel_rfl) (by kernel_rfl) (by kernel_rfl) (fun _ _ _ h => h) (by kernel_rfl) ?hy11 hS0 ?rest11
    case hy11 => (intro w0 hSw; obtain ⟨s0, s1, s2, s3, s4⟩ := hSw; first | (go_simp; done) | (go_simp; with_reducible rfl))
    simp only [List.setIfInBounds_toArray, List.set_cons_zero, List.set_cons_succ]
    refine takeD 36 (i := 3) (v := ?v12) rfl rfl (by kernel_rfl) (by kernel_rfl) (by kernel_rfl) (fun _ _ _ h => h) (by kernel_rfl) ?hy12 hS0 ?rest12
    case hy12 => (intro w0 hSw; obtain ⟨s0, s1, s2, s3, s4⟩ := hSw; first | (go_simp; done) | (go_simp; with_reducible rfl))
    simp only [List.setIfInBounds_toArray, List.set_cons_zero, List.set_cons_succ]
    refine takeD 38 (i := 5) (v := ?v13) rfl rfl (by kernel_rfl) (by kernel_rfl) (by kernel_rfl) (fun _ _ _ h => h) (by kernel_rfl) ?hy13 hS0 ?rest13
    case hy13 => (intro w0 hSw; obtain ⟨s0, s1, s2, s3, s4⟩ := hSw; first | (go_simp; done) | (go_simp; with_reducible rfl))
    simp only [List.setIfInBounds_toArray, List.set_cons_zero, List.set_cons_succ]
    refine takeD 40 (i := 7) (v := ?v14) rfl rfl (by kernel_rfl) (by kernel_rfl) (by kernel_rfl) (fun _ _ _ h => h) (by kernel_rfl) ?hy14 hS0 ?rest14
    case hy14 => (intro w0 hSw; obtain ⟨s0, s1, s2, s3, s4⟩ := hSw; first | (go_simp; done) | (go_simp; with_reducible rfl))
    simp only [List.setIfInBounds_toArray, List.set_cons_zero, List.set_cons_succ]
    refine takeD 41 (i := 8) (v := ?v15) rfl rfl (by kernel_rfl) (by kernel_rfl) (by kernel_rfl) (fun _ _ _ h => h) (by kernel_rfl) ?hy15 hS0 ?rest15
    case hy15 => (intro w0 hSw; obtain ⟨s0, s1, s2, s3, s4⟩ := hSw; first | (go_simp; done) | (go_simp; with_reducible rfl))
    simp only [List.setIfInBounds_toArray, List.set_cons_zero, List.set_cons_succ]
    refine onlyD 37 (i := 4) rfl rfl (by kernel_rfl) (by kernel_rfl) (fun K hK => ?_)
    go_simp
    go_at_call 55
    refine (scname_lit HFN.out _ (p := p1) rfl (HC.out.svg (HV.out.trans ((Bel.refl w2).drew.svg g)) HGL.out).devs HC.out.ld (HS.out.bel (Bel.refl _).drew)).mono ?_
    rintro e w11 ⟨rfl, hv1, hs1⟩
    have hS1 := HKEEP.out _ (Svg.two ((HV.out.trans ((Bel.refl w2).drew.svg g)).trans hv1) g2)
    refine hK.out _ _ hS1 (fun _ => ?_)
    clear hK K
    simp only [List.setIfInBounds_toArray, List.set_cons_zero, List.set_cons_succ]
    refine onlyD 39 (i := 6) rfl rfl (by kernel_rfl) (by kernel_rfl) (fun K hK => ?_)
    go_simp
    go_at_call 21
    refine (next_lit HN.out (by decide) _ hs1).mono ?_
    rintro e w12 ⟨rfl, hv2, hs2⟩
    have hS2 := HKEEP.out _ (Svg.two (((HV.out.trans ((Bel.refl w2).drew.svg g)).trans hv1).trans hv2) g2)
    refine hK.out _ _ hS2 (fun _ => ?_)
    clear hK K
    simp only [List.setIfInBounds_toArray, List.set_cons_zero, List.set_cons_succ]
    refine onlyD 42 (i := 9) rfl rfl (by kernel_rfl) (by kernel_rfl) (fun K hK => ?_)
    go_simp
    go_at_call 23
    refine (E3.out g s2 t x _ p1 p2 p3 c1 c2 c3 HX.out (HC.out.svg (((HV.out.trans ((Bel.refl w2).drew.svg g)).trans hv1).trans hv2) HGL.out) hs2).mono ?_
    rintro e w13 ⟨q3, n3, rfl, wf3, he3, hv3, hs3⟩
    have hS3 := HKEEP.out _ (Svg.two ((((HV.out.trans ((Bel.refl w2).drew.svg g)).trans hv1).trans hv2).trans hv3) g2)
    refine hK.out _ _ hS3 (fun _ => ?_)
    clear hK K
    simp only [List.setIfInBounds_toArray, List.set_cons_zero, List.set_cons_succ]
    refine onlyD 43 (i := 10) rfl rfl (by kernel_rfl) (by kernel_rfl) (fun K hK => ?_)
    go_simp
    refine hK.out _ _ (HKEEP.out _ (Svg.two (((((HV.out.trans ((Bel.refl w2).drew.svg g)).trans hv1).trans hv2).trans hv3).trans (((Bel.refl _).alloc _ _).svg g)) g2)) (fun hM2 => ?_)
    clear hK K
    simp only [List.setIfInBounds_toArray, List.set_cons_zero, List.set_cons_succ]
    refine takeD 44 (i := 11) (v := ?v16) rfl rfl (by kernel_rfl) (by kernel_rfl) (by kernel_rfl) (fun _ _ _ h => h) (by kernel_rfl) ?hy16 hM2 ?rest16
    case hy16 => (intro w0 hSw; obtain ⟨s0, s1, s2, s3, s4⟩ := hSw; first | (go_simp; done) | (go_simp; with_reducible rfl))
    simp only [List.setIfInBounds_toArray, List.set_cons_zero, List.set_cons_succ]
    refine onlyN (i := 12) rfl rfl (by kernel_rfl) (by kernel_rfl) (fun K hK => ?_)
    refine wp_store_row 52 (.tmp 6) (.tmp 44) rfl g2 #[.int .i64 3, .string fn, .string ⟨#[]⟩, .int .i64 n, .slice (some ⟨w13.heap.size, 0, none⟩) 1 1, .slice none 0 0, .slice none 0 0] (by kernel_rfl) (by kernel_rfl) 52 zeroS (Svg.stays (((((HV.out.trans ((Bel.refl w2).drew.svg g)).trans hv1).trans hv2).trans hv3).trans (((Bel.refl _).alloc _ _).svg g)) HX2.out HGS.out.2.2.1) (by kernel_rfl) (by kernel_rfl) (by kernel_rfl) ?_
    refine hK.out undef _ (HKEEP.out _ ((Svg.two (((((HV.out.trans ((Bel.refl w2).drew.svg g)).trans hv1).trans hv2).trans hv3).trans (((Bel.refl _).alloc _ _).svg g)) g2).trans ((setRow_svg g2 _ _).two' g))) (fun hSF => ?_)
    clear hK K
    refine wpAnyH_done (by kernel_rfl) ?_ _
    clear hSF hS0 hS1 hS2 hS3 hM2
    go_wp2_with fail
    have hal := (Bel.refl w13).alloc #[.int .i64 x.kind, .int .i64 x.op, .int .i64 x.n, .string x.name, .slice q3 x.args.length n3] 40
    have hnew := heap_alloc_new w13 (.cells #[.int .i64 x.kind, .int .i64 x.op, .int .i64 x.n, .string x.name, .slice q3 x.args.length n3] 40)
    have hav := hal.svg g2
    have HV2 := Lib.hid (((((HV.out.trans ((Bel.refl w2).drew.svg g)).trans hv1).trans hv2).trans hv3).trans (hal.svg g))
    have hs9 := hs3.bel hal
    generalize w13.alloc (.cells #[.int .i64 x.kind, .int .i64 x.op, .int .i64 x.n, .string x.name, .slice q3 x.args.length n3] 40) = W9 at hav hnew hs9 HV2 ⊢
    obtain ⟨y01, y02, y03⟩ := HSZ.out w12 ((HV.out.trans ((Bel.refl w2).drew.svg g)).trans hv1 |>.trans hv2)
    have hz := hv3.size
    have hx9 := HV2.out.stays HX2.out HGS.out.2.2.1
    have hnew2 := fun cs => young_heap (B := w.heap.size) ((setRow_svg g2 W9 cs).stays hnew (by omega)) (by omega)
    refine st_fin (x := St.mk 3 fn ⟨#[]⟩ n [x] [] []) (q := some ⟨w13.heap.size, 0, none⟩) (cq := 1) (q1 := none) (n1 := 0) (q2 := none) (n2 := 0) (g2 := g2) (w6 := W9) rfl rfl (setRow_heap _ g2 zeroS _ _ _ hx9) (Svg.of HB.out HV2.out) (setRow_svg g2 _ _) HGS.out.2.2.2.2 (by have := HGS.out; omega) hs9 ?_ ?_ (SAt.nil _ _) (SAt.nil _ _)
    · exact wfS_mk ⟨by decide, by decide⟩ ⟨HNB.out.1, by have := HNB.out.2; omega⟩ HFS.out (by decide) (Nat.le_of_ble_eq_true rfl) (by decide) (by decide)
    · exact EAt.one (e := x) (hnew2 _) wf3 (keepE he3 (hav.trans (setRow_svg g2 _ _)) y02 y03)
  · go_enter Tryz.func56, Tryz.ntmps56
    go_upto_region 1 with (fail)
    obtain ⟨n0, n1, n2⟩ := new2 w (scA p1 c1 p2 c2 p3 c3 c) zeroS 61 52
    generalize (w.alloc (.cells (scA p1 c1 p2 c2 p3 c3 c) 61)).alloc (.cells zeroS 52) = W1 at n0 n1 n2 ⊢
    generalize hg2 : w.heap.size + 1 = g2 at n2 ⊢
    generalize hg1 : w.heap.size = g1 at n1 ⊢
    have HB := Lib.hid n0
    have HX1 := Lib.hid n1
    have HX2 := Lib.hid n2
    have HS := Lib.hid (HS0.out.bel n0)
    have HC := Lib.hid (HC0.out.svg (n0.svg g) HS0.out.lt)
    have HGS : Hid (g < w.heap.size ∧ g1 ≠ g ∧ g2 ≠ g ∧ g1 ≠ g2 ∧ w.heap.size ≤ g2) := Lib.hid (by have := HS0.out.lt; omega)
    clear n0 n1 n2 hg1 hg2
    have HV := Lib.hid (Svg.refl g W1)
    have HKEEP : Hid (∀ W' : World, Sv2 g g2 W1 W' → SBox g1 p1 c1 p2 c2 p3 c3 c W') := Lib.hid (fun W' hv => SBox.of (hv.stays HX1.out HGS.out.2.1 HGS.out.2.2.2.1))
    have HSZ : Hid (∀ W' : World, Svg g W1 W' → g < W'.heap.size ∧ g2 < W'.heap.size ∧ w.heap.size ≤ W'.heap.size) := Lib.hid (fun W' hv => by have h1 := hv.size; have h2 := lt_of_heap HX2.out; have h3 := HB.out.size; have h4 := HGS.out.1; omega)
    have HGL : Hid (g < W1.heap.size) := Lib.hid (HSZ.out _ (Svg.refl g W1)).1
    obtain ⟨d0, d1, d2, d3, d4⟩ := HKEEP.out _ (HV.out.two g2)
    go_wp2_with fail
    clear d0 d1 d2 d3 d4
    have hb5 := (Bel.refl W1).alloc #[.string ⟨#[120]⟩, .string ⟨#[121]⟩, .string ⟨#[122]⟩] 9
    have hx5 := heap_alloc_new W1 (.cells #[.string ⟨#[120]⟩, .string ⟨#[121]⟩, .string ⟨#[122]⟩] 9)
    have hg5 : W1.heap.size ≠ g := by have := HS.out.lt; omega
    generalize W1.alloc (.cells #[.string ⟨#[120]⟩, .string ⟨#[121]⟩, .string ⟨#[122]⟩] 9) = W5 at hb5 hx5 ⊢
    generalize W1.heap.size = g5 at hx5 hg5 ⊢
    refine (scname_lit HLN.out W5 (p := some ⟨g5, 0, none⟩) (n := 3) rfl (lit_nm (l := xyz) (mask_heap hx5 hg5) xyz_size) (by decide) (HS.out.bel hb5)).mono ?_
    rintro e w6 ⟨rfl, hv, hs⟩
    have HS := Lib.hid hs
    have HV := Lib.hid ((HV.out.trans (hb5.svg g)).trans hv)
    clear hb5 hx5 hs hv
    go_wp2_with fail
    refine (next_lit HK.out (by decide) _ HS.out).mono ?_
    rintro e w2 ⟨rfl, hv, hs⟩
    have HS := Lib.hid hs
    have HV := Lib.hid (HV.out.trans hv)
    clear hv hs
    go_upto_region 6 with (fail)
    refine wp_region_held_drew (S := (SBox g1 p1 c1 p2 c2 p3 c3 c)) (by kernel_rfl) (HKEEP.out _ (Svg.two (HV.out.trans ((Bel.refl w2).drew.svg g)) g2)) (fun hS0 => ?_)
    refine takeD 33 (i := 0) (v := ?v17) rfl rfl (by kernel_rfl) (by kernel_rfl) (by kernel_rfl) (fun _ _ _ h => h) (by kernel_rfl) ?hy17 hS0 ?rest17
    case hy17 => (intro w0 hSw; obtain ⟨s0, s1, s2, s3, s4⟩ := hSw; first | (go_simp; done) | (go_simp; with_reducible rfl))
    simp only [List.setIfInBounds_toArray, List.set_cons_zero, List.set_cons_succ]
    refine takeD 34 (i := 1) (v := ?v18) rfl rfl (by kernel_rfl) (by kernel_rfl) (by kernel_rfl) (fun _ _ _ h => h) (by kernel_rfl) ?hy18 hS0 ?rest18
    case hy18 => (intro w0 hSw; obtain ⟨s0, s1, s2, s3, s4⟩ := hSw; first | (go_simp; done) | (go_simp; with_reducible rfl))
    simp only [List.setIfInBounds_toArray, List.set_cons_zero, List.set_cons_succ]
    refine takeD 35 (i := 2) (v := ?v19) rfl rfl (by kernel_rfl) (by kernel_rfl) (by kernel_rfl) (fun _ _ _ h => h) (by kernel_rfl) ?hy19 hS0 ?rest19
    case hy19 => (intro w0 hSw; obtain ⟨s0, s1, s2, s3, s4⟩ := hSw; first | (go_simp; done) | (go_simp; with_reducible rfl))
    simp only [List.setIfInBounds_toArray, List.set_cons_zero, List.set_cons_succ]
    refine takeD 36 (i := 3) (v := ?v20) rfl rfl (by kernel_rfl) (by kernel_rfl) (by kernel_rfl) (fun _ _ _ h => h) (by kernel_rfl) ?hy20 hS0 ?rest20
    case hy20 => (intro w0 hSw; obtain ⟨s0, s1, s2, s3, s4⟩ := hSw; first | (go_simp; done) | (go_simp; with_reducible rfl))
    simp only [List.setIfInBounds_toArray, List.set_cons_zero, List.set_cons_succ]
    refine takeD 38 (i := 5) (v := ?v21) rfl rfl (by kernel_rfl) (by kernel_rfl) (by kernel_rfl) (fun _ _ _ h => h) (by kernel_rfl) ?hy21 hS0 ?rest21
    case hy21 => (intro w0 hSw; obtain ⟨s0, s1, s2, s3, s4⟩ := hSw; first | (go_simp; done) | (go_simp; with_reducible rfl))
    simp only [List.setIfInBounds_toArray, List.set_cons_zero, List.set_cons_succ]
    refine takeD 40 (i := 7) (v := ?v22) rfl rfl (by kernel_rfl) (by kernel_rfl) (by kernel_rfl) (fun _ _ _ h => h) (by kernel_rfl) ?hy22 hS0 ?rest22
    case hy22 => (intro w0 hSw; obtain ⟨s0, s1, s2, s3, s4⟩ := hSw; first | (go_simp; done) | (go_simp; with_reducible rfl))
    simp only [List.setIfInBounds_toArray, List.set_cons_zero, List.set_cons_succ]
    refine takeD 41 (i := 8) (v := ?v23) rfl rfl (by kernel_rfl) (by kernel_rfl) (by kernel_rfl) (fun _ _ _ h => h) (by kernel_rfl) ?hy23 hS0 ?rest23
    case hy23 => (intro w0 hSw; obtain ⟨s0, s1, s2, s3, s4⟩ := hSw; first | (go_simp; done) | (go_simp; with_reducible rfl))
    simp only [List.setIfInBounds_toArray, List.set_cons_zero, List.set_cons_succ]
    refine onlyD 37 (i := 4) rfl rfl (by kernel_rfl) (by kernel_rfl) (fun K hK => ?_)
    go_simp
    go_at_call 55
    refine (scname_lit HFN.out _ (p := p1) rfl (HC.out.svg (HV.out.trans ((Bel.refl w2).drew.svg g)) HGL.out).devs HC.out.ld (HS.out.bel (Bel.refl _).drew)).mono ?_
    rintro e w11 ⟨rfl, hv1, hs1⟩
    have hS1 := HKEEP.out _ (Svg.two ((HV.out.trans ((Bel.refl w2).drew.svg g)).trans hv1) g2)
    refine hK.out _ _ hS1 (fun _ => ?_)
    clear hK K
    simp only [List.setIfInBounds_toArray, List.set_cons_zero, List.set_cons_succ]
    refine onlyD 39 (i := 6) rfl rfl (by kernel_rfl) (by kernel_rfl) (fun K hK => ?_)
    go_simp
    go_at_call 21
    refine (next_lit HN.out (by decide) _ hs1).mono ?_
    rintro e w12 ⟨rfl, hv2, hs2⟩
    have hS2 := HKEEP.out _ (Svg.two (((HV.out.trans ((Bel.refl w2).drew.svg g)).trans hv1).trans hv2) g2)
    refine hK.out _ _ hS2 (fun _ => ?_)
    clear hK K
    simp only [List.setIfInBounds_toArray, List.set_cons_zero, List.set_cons_succ]
    refine onlyD 42 (i := 9) rfl rfl (by kernel_rfl) (by kernel_rfl) (fun K hK => ?_)
    go_simp
    go_at_call 23
    refine (E3.out g s2 t x _ p1 p2 p3 c1 c2 c3 HX.out (HC.out.svg (((HV.out.trans ((Bel.refl w2).drew.svg g)).trans hv1).trans hv2) HGL.out) hs2).mono ?_
    rintro e w13 ⟨q3, n3, rfl, wf3, he3, hv3, hs3⟩
    have hS3 := HKEEP.out _ (Svg.two ((((HV.out.trans ((Bel.refl w2).drew.svg g)).trans hv1).trans hv2).trans hv3) g2)
    refine hK.out _ _ hS3 (fun _ => ?_)
    clear hK K
    simp only [List.setIfInBounds_toArray, List.set_cons_zero, List.set_cons_succ]
    refine onlyD 43 (i := 10) rfl rfl (by kernel_rfl) (by kernel_rfl) (fun K hK => ?_)
    go_simp
    refine hK.out _ _ (HKEEP.out _ (Svg.two (((((HV.out.trans ((Bel.refl w2).drew.svg g)).trans hv1).trans hv2).trans hv3).trans (((Bel.refl _).alloc _ _).svg g)) g2)) (fun hM3 => ?_)
    clear hK K
    simp only [List.setIfInBounds_toArray, List.set_cons_zero, List.set_cons_succ]
    refine takeD 44 (i := 11) (v := ?v24) rfl rfl (by kernel_rfl) (by kernel_rfl) (by kernel_rfl) (fun _ _ _ h => h) (by kernel_rfl) ?hy24 hM3 ?rest24
    case hy24 => (intro w0 hSw; obtain ⟨s0, s1, s2, s3, s4⟩ := hSw; first | (go_simp; done) | (go_simp; with_reducible rfl))
    simp only [List.setIfInBounds_toArray, List.set_cons_zero, List.set_cons_succ]
    refine onlyN (i := 12) rfl rfl (by kernel_rfl) (by kernel_rfl) (fun K hK => ?_)
    refine wp_store_row 52 (.tmp 6) (.tmp 44) rfl g2 #[.int .i64 3, .string fn, .string ⟨#[]⟩, .int .i64 n, .slice (some ⟨w13.heap.size, 0, none⟩) 1 1, .slice none 0 0, .slice none 0 0] (by kernel_rfl) (by kernel_rfl) 52 zeroS (Svg.stays (((((HV.out.trans ((Bel.refl w2).drew.svg g)).trans hv1).trans hv2).trans hv3).trans (((Bel.refl _).alloc _ _).svg g)) HX2.out HGS.out.2.2.1) (by kernel_rfl) (by kernel_rfl) (by kernel_rfl) ?_
    refine hK.out undef _ (HKEEP.out _ ((Svg.two (((((HV.out.trans ((Bel.refl w2).drew.svg g)).trans hv1).trans hv2).trans hv3).trans (((Bel.refl _).alloc _ _).svg g)) g2).trans ((setRow_svg g2 _ _).two' g))) (fun hSF => ?_)
    clear hK K
    refine wpAnyH_done (by kernel_rfl) ?_ _
    clear hSF hS0 hS1 hS2 hS3 hM3
    go_wp2_with fail
    have hal := (Bel.refl w13).alloc #[.int .i64 x.kind, .int .i64 x.op, .int .i64 x.n, .string x.name, .slice q3 x.args.length n3] 40
    have hnew := heap_alloc_new w13 (.cells #[.int .i64 x.kind, .int .i64 x.op, .int .i64 x.n, .string x.name, .slice q3 x.args.length n3] 40)
    have hav := hal.svg g2
    have HV2 := Lib.hid (((((HV.out.trans ((Bel.refl w2).drew.svg g)).trans hv1).trans hv2).trans hv3).trans (hal.svg g))
    have hs9 := hs3.bel hal
    generalize w13.alloc (.cells #[.int .i64 x.kind, .int .i64 x.op, .int .i64 x.n, .string x.name, .slice q3 x.args.length n3] 40) = W9 at hav hnew hs9 HV2 ⊢
    obtain ⟨y01, y02, y03⟩ := HSZ.out w12 ((HV.out.trans ((Bel.refl w2).drew.svg g)).trans hv1 |>.trans hv2)
    have hz := hv3.size
    have hx9 := HV2.out.stays HX2.out HGS.out.2.2.1
    have hnew2 := fun cs => young_heap (B := w.heap.size) ((setRow_svg g2 W9 cs).stays hnew (by omega)) (by omega)
    refine st_fin (x := St.mk 3 fn ⟨#[]⟩ n [x] [] []) (q := some ⟨w13.heap.size, 0, none⟩) (cq := 1) (q1 := none) (n1 := 0) (q2 := none) (n2 := 0) (g2 := g2) (w6 := W9) rfl rfl (setRow_heap _ g2 zeroS _ _ _ hx9) (Svg.of HB.out HV2.out) (setRow_svg g2 _ _) HGS.out.2.2.2.2 (by have := HGS.out; omega) hs9 ?_ ?_ (SAt.nil _ _) (SAt.nil _ _)
    · exact wfS_mk ⟨by decide, by decide⟩ ⟨HNB.out.1, by have := HNB.out.2; omega⟩ HFS.out (by decide) (Nat.le_of_ble_eq_true rfl) (by decide) (by decide)
    · exact EAt.one (e := x) (hnew2 _) wf3 (keepE he3 (hav.trans (setRow_svg g2 _ _)) y02 y03)
set_option maxRecDepth 100000 in
set_option maxHeartbeats 8000000 in
theorem st_store (c : Sco) (hgc : GoodC c) (D : Int) (hD : 0 ≤ D ∧ D ≤ 100) (g : Nat) (s sl s0 t : List Int) (k : Int) (ln : ByteArray) (s1 s2 : List Int) (fn : ByteArray) (x y : Ex) (w : World) (p1 p2 p3 : Option Addr) (c1 c2 c3 : Nat) (hln : nameV c xyz s = (ln, sl)) (hls : ln.size ≤ 20) (hk : nx sl 12 = (k, s0)) (hk2 : k = 5 ∨ k = 6) (hy : c.any = true ∨ (c.any = false ∧ 0 < c.held.length)) (hfn : nameV c c.held s0 = (fn, s1)) (hfs : fn.size ≤ 20) (hx : exprV c 2 s1 = (x, s2)) (hz : exprV c 3 s2 = (y, t)) (hC : ScAt g w p1 p2 p3 c) (hS : SrcAt g w s) :
    Calls Tryz.prog 56 #[scV p1 c1 p2 c2 p3 c3 c, .pointer (some ⟨g, 0, none⟩), .int .i64 D] w fun e w' => ∃ q cq q1 n1 q2 n2, e = .returned (stV q cq q1 n1 q2 n2 (St.mk 4 fn ⟨#[]⟩ 0 [x, y] [] [])) ∧ WfS (St.mk 4 fn ⟨#[]⟩ 0 [x, y] [] []) ∧ EAt (young w.heap.size w') q (St.mk 4 fn ⟨#[]⟩ 0 [x, y] [] []).args ∧ SAt (young w.heap.size w') q1 (St.mk 4 fn ⟨#[]⟩ 0 [x, y] [] []).thn ∧ SAt (young w.heap.size w') q2 (St.mk 4 fn ⟨#[]⟩ 0 [x, y] [] []).els ∧ Svg g w w' ∧ SrcAt g w' t := by
  have HC0 := Lib.hid hC
  have HS0 := Lib.hid hS
  have HLN := Lib.hid hln
  have HLS := Lib.hid hls
  have HK := Lib.hid hk
  have HDD := Lib.hid hD
  have HFN := Lib.hid hfn
  have HFS := Lib.hid hfs
  have HX := Lib.hid hx
  have HZ := Lib.hid hz
  clear hC hS hln hls hk hD hfn hfs hx hz
  have E2 := Lib.hid (XAtI.of hgc (D := 2) (d := 2) rfl (by decide))
  have E3 := Lib.hid (XAtI.of hgc (D := 3) (d := 3) rfl (by decide))
  rcases hk2 with rfl | rfl <;> rcases hy with hy | ⟨hy, hl⟩
  · have HY := Lib.hid hy
    clear hy
    go_enter Tryz.func56, Tryz.ntmps56
    go_upto_region 1 with (fail)
    obtain ⟨n0, n1, n2⟩ := new2 w (scA p1 c1 p2 c2 p3 c3 c) zeroS 61 52
    generalize (w.alloc (.cells (scA p1 c1 p2 c2 p3 c3 c) 61)).alloc (.cells zeroS 52) = W1 at n0 n1 n2 ⊢
    generalize hg2 : w.heap.size + 1 = g2 at n2 ⊢
    generalize hg1 : w.heap.size = g1 at n1 ⊢
    have HB := Lib.hid n0
    have HX1 := Lib.hid n1
    have HX2 := Lib.hid n2
    have HS := Lib.hid (HS0.out.bel n0)
    have HC := Lib.hid (HC0.out.svg (n0.svg g) HS0.out.lt)
    have HGS : Hid (g < w.heap.size ∧ g1 ≠ g ∧ g2 ≠ g ∧ g1 ≠ g2 ∧ w.heap.size ≤ g2) := Lib.hid (by have := HS0.out.lt; omega)
    clear n0 n1 n2 hg1 hg2
    have HV := Lib.hid (Svg.refl g W1)
    have HKEEP : Hid (∀ W' : World, Sv2 g g2 W1 W' → SBox g1 p1 c1 p2 c2 p3 c3 c W') := Lib.hid (fun W' hv => SBox.of (hv.stays HX1.out HGS.out.2.1 HGS.out.2.2.2.1))
    have HSZ : Hid (∀ W' : World, Svg g W1 W' → g < W'.heap.size ∧ g2 < W'.heap.size ∧ w.heap.size ≤ W'.heap.size) := Lib.hid (fun W' hv => by have h1 := hv.size; have h2 := lt_of_heap HX2.out; have h3 := HB.out.size; have h4 := HGS.out.1; omega)
    have HGL : Hid (g < W1.heap.size) := Lib.hid (HSZ.out _ (Svg.refl g W1)).1
    obtain ⟨d0, d1, d2, d3, d4⟩ := HKEEP.out _ (HV.out.two g2)
    go_wp2_with fail
    clear d0 d1 d2 d3 d4
    have hb5 := (Bel.refl W1).alloc #[.string ⟨#[120]⟩, .string ⟨#[121]⟩, .string ⟨#[122]⟩] 9
    have hx5 := heap_alloc_new W1 (.cells #[.string ⟨#[120]⟩, .string ⟨#[121]⟩, .string ⟨#[122]⟩] 9)
    have hg5 : W1.heap.size ≠ g := by have := HS.out.lt; omega
    generalize W1.alloc (.cells #[.string ⟨#[120]⟩, .string ⟨#[121]⟩, .string ⟨#[122]⟩] 9) = W5 at hb5 hx5 ⊢
    generalize W1.heap.size = g5 at hx5 hg5 ⊢
    refine (scname_lit HLN.out W5 (p := some ⟨g5, 0, none⟩) (n := 3) rfl (lit_nm (l := xyz) (mask_heap hx5 hg5) xyz_size) (by decide) (HS.out.bel hb5)).mono ?_
    rintro e w6 ⟨rfl, hv, hs⟩
    have HS := Lib.hid hs
    have HV := Lib.hid ((HV.out.trans (hb5.svg g)).trans hv)
    clear hb5 hx5 hs hv
    go_wp2_with fail
    refine (next_lit HK.out (by decide) _ HS.out).mono ?_
    rintro e w2 ⟨rfl, hv, hs⟩
    have HS := Lib.hid hs
    have HV := Lib.hid (HV.out.trans hv)
    clear hv hs
    go_upto_region 7 with (fail)
    obtain ⟨d0, d1, d2, d3, d4⟩ := HKEEP.out _ (HV.out.two g2)
    rw [HY.out] at d4
    go_upto_region 8 with (fail)
    clear d0 d1 d2 d3 d4
    refine wp_region_held_drew (S := (SBox g1 p1 c1 p2 c2 p3 c3 c)) (by kernel_rfl) (HKEEP.out _ (Svg.two (HV.out.trans ((Bel.refl w2).drew.svg g)) g2)) (fun hS0 => ?_)
    refine takeD 58 (i := 0) (v := ?v25) rfl rfl (by kernel_rfl) (by kernel_rfl) (by kernel_rfl) (fun _ _ _ h => h) (by kernel_rfl) ?hy25 hS0 ?rest25
    case hy25 => (intro w0 hSw; obtain ⟨s0, s1, s2, s3, s4⟩ := hSw; first | (go_simp; done) | (go_simp; with_reducible rfl))
    simp only [List.setIfInBounds_toArray, List.set_cons_zero, List.set_cons_succ]
    refine takeD 59 (i := 1) (v := ?v26) rfl rfl (by kernel_rfl) (by kernel_rfl) (by kernel_rfl) (fun _ _ _ h => h) (by kernel_rfl) ?hy26 hS0 ?rest26
    case hy26 => (intro w0 hSw; obtain ⟨s0, s1, s2, s3, s4⟩ := hSw; first | (go_simp; done) | (go_simp; with_reducible rfl))
    simp only [List.setIfInBounds_toArray, List.set_cons_zero, List.set_cons_succ]
    refine takeD 60 (i := 2) (v := ?v27) rfl rfl (by kernel_rfl) (by kernel_rfl) (by kernel_rfl) (fun _ _ _ h => h) (by kernel_rfl) ?hy27 hS0 ?rest27
    case hy27 => (intro w0 hSw; obtain ⟨s0, s1, s2, s3, s4⟩ := hSw; first | (go_simp; done) | (go_simp; with_reducible rfl))
    simp only [List.setIfInBounds_toArray, List.set_cons_zero, List.set_cons_succ]
    refine takeD 61 (i := 3) (v := ?v28) rfl rfl (by kernel_rfl) (by kernel_rfl) (by kernel_rfl) (fun _ _ _ h => h) (by kernel_rfl) ?hy28 hS0 ?rest28
    case hy28 => (intro w0 hSw; obtain ⟨s0, s1, s2, s3, s4⟩ := hSw; first | (go_simp; done) | (go_simp; with_reducible rfl))
    simp only [List.setIfInBounds_toArray, List.set_cons_zero, List.set_cons_succ]
    refine takeD 63 (i := 5) (v := ?v29) rfl rfl (by kernel_rfl) (by kernel_rfl) (by kernel_rfl) (fun _ _ _ h => h) (by kernel_rfl) ?hy29 hS0 ?rest29
    case hy29 => (intro w0 hSw; obtain ⟨s0, s1, s2, s3, s4⟩ := hSw; first | (go_simp; done) | (go_simp; with_reducible rfl))
    simp only [List.setIfInBounds_toArray, List.set_cons_zero, List.set_cons_succ]
    refine takeD 64 (i := 6) (v := ?v30) rfl rfl (by kernel_rfl) (by kernel_rfl) (by kernel_rfl) (fun _ _ _ h => h) (by kernel_rfl) ?hy30 hS0 ?rest30
    case hy30 => (intro w0 hSw; obtain ⟨s0, s1, s2, s3, s4⟩ := hSw; first | (go_simp; done) | (go_simp; with_reducible rfl))
    simp only [List.setIfInBounds_toArray, List.set_cons_zero, List.set_cons_succ]
    refine takeD 66 (i := 8) (v := ?v31) rfl rfl (by kernel_rfl) (by kernel_rfl) (by kernel_rfl) (fun _ _ _ h => h) (by kernel_rfl) ?hy31 hS0 ?rest31
    case hy31 => (intro w0 hSw; obtain ⟨s0, s1, s2, s3, s4⟩ := hSw; first | (go_simp; done) | (go_simp; with_reducible rfl))
    simp only [List.setIfInBounds_toArray, List.set_cons_zero, List.set_cons_succ]
    refine takeD 67 (i := 9) (v := ?v32) rfl rfl (by kernel_rfl) (by kernel_rfl) (by kernel_rfl) (fun _ _ _ h => h) (by kernel_rfl) ?hy32 hS0 ?rest32
    case hy32 => (intro w0 hSw; obtain ⟨s0, s1, s2, s3, s4⟩ := hSw; first | (go_simp; done) | (go_simp; with_reducible rfl))
    simp only [List.setIfInBounds_toArray, List.set_cons_zero, List.set_cons_succ]
    refine onlyD 62 (i := 4) rfl rfl (by kernel_rfl) (by kernel_rfl) (fun K hK => ?_)
    go_simp
    go_at_call 55
    refine (scname_lit HFN.out _ (p := p3) rfl (HC.out.svg (HV.out.trans ((Bel.refl w2).drew.svg g)) HGL.out).held HC.out.lh (HS.out.bel (Bel.refl _).drew)).mono ?_
    rintro e w11 ⟨rfl, hv1, hs1⟩
    have hS1 := HKEEP.out _ (Svg.two ((HV.out.trans ((Bel.refl w2).drew.svg g)).trans hv1) g2)
    refine hK.out _ _ hS1 (fun _ => ?_)
    clear hK K
    simp only [List.setIfInBounds_toArray, List.set_cons_zero, List.set_cons_succ]
    refine onlyD 65 (i := 7) rfl rfl (by kernel_rfl) (by kernel_rfl) (fun K hK => ?_)
    go_simp
    go_at_call 23
    refine (E2.out g s1 s2 x _ p1 p2 p3 c1 c2 c3 HX.out (HC.out.svg ((HV.out.trans ((Bel.refl w2).drew.svg g)).trans hv1) HGL.out) hs1).mono ?_
    rintro e w12 ⟨q2, n2, rfl, wf2, he2, hv2, hs2⟩
    have hS2 := HKEEP.out _ (Svg.two (((HV.out.trans ((Bel.refl w2).drew.svg g)).trans hv1).trans hv2) g2)
    refine hK.out _ _ hS2 (fun _ => ?_)
    clear hK K
    simp only [List.setIfInBounds_toArray, List.set_cons_zero, List.set_cons_succ]
    refine onlyD 68 (i := 10) rfl rfl (by kernel_rfl) (by kernel_rfl) (fun K hK => ?_)
    go_simp
    go_at_call 23
    refine (E3.out g s2 t y _ p1 p2 p3 c1 c2 c3 HZ.out (HC.out.svg (((HV.out.trans ((Bel.refl w2).drew.svg g)).trans hv1).trans hv2) HGL.out) hs2).mono ?_
    rintro e w13 ⟨q3, n3, rfl, wf3, he3, hv3, hs3⟩
    have hS3 := HKEEP.out _ (Svg.two ((((HV.out.trans ((Bel.refl w2).drew.svg g)).trans hv1).trans hv2).trans hv3) g2)
    refine hK.out _ _ hS3 (fun _ => ?_)
    clear hK K
    simp only [List.setIfInBounds_toArray, List.set_cons_zero, List.set_cons_succ]
    refine onlyD 69 (i := 11) rfl rfl (by kernel_rfl) (by kernel_rfl) (fun K hK => ?_)
    go_simp
    refine hK.out _ _ (HKEEP.out _ (Svg.two (((((HV.out.trans ((Bel.refl w2).drew.svg g)).trans hv1).trans hv2).trans hv3).trans (((Bel.refl _).alloc _ _).svg g)) g2)) (fun hM4 => ?_)
    clear hK K
    simp only [List.setIfInBounds_toArray, List.set_cons_zero, List.set_cons_succ]
    refine takeD 70 (i := 12) (v := ?v33) rfl rfl (by kernel_rfl) (by kernel_rfl) (by kernel_rfl) (fun _ _ _ h => h) (by kernel_rfl) ?hy33 hM4 ?rest33
    case hy33 => (intro w0 hSw; obtain ⟨s0, s1, s2, s3, s4⟩ := hSw; first | (go_simp; done) | (go_simp; with_reducible rfl))
    simp only [List.setIfInBounds_toArray, List.set_cons_zero, List.set_cons_succ]
    refine onlyN (i := 13) rfl rfl (by kernel_rfl) (by kernel_rfl) (fun K hK => ?_)
    refine wp_store_row 52 (.tmp 6) (.tmp 70) rfl g2 #[.int .i64 4, .string fn, .string ⟨#[]⟩, .int .i64 0, .slice (some ⟨w13.heap.size, 0, none⟩) 2 2, .slice none 0 0, .slice none 0 0] (by kernel_rfl) (by kernel_rfl) 52 zeroS (Svg.stays (((((HV.out.trans ((Bel.refl w2).drew.svg g)).trans hv1).trans hv2).trans hv3).trans (((Bel.refl _).alloc _ _).svg g)) HX2.out HGS.out.2.2.1) (by kernel_rfl) (by kernel_rfl) (by kernel_rfl) ?_
    refine hK.out undef _ (HKEEP.out _ ((Svg.two (((((HV.out.trans ((Bel.refl w2).drew.svg g)).trans hv1).trans hv2).trans hv3).trans (((Bel.refl _).alloc _ _).svg g)) g2).trans ((setRow_svg g2 _ _).two' g))) (fun hSF => ?_)
    clear hK K
    refine wpAnyH_done (by kernel_rfl) ?_ _
    clear hSF hS0 hS1 hS2 hS3 hM4
    go_wp2_with fail
    have hal := (Bel.refl w13).alloc #[.int .i64 x.kind, .int .i64 x.op, .int .i64 x.n, .string x.name, .slice q2 x.args.length n2, .int .i64 y.kind, .int .i64 y.op, .int .i64 y.n, .string y.name, .slice q3 y.args.length n3] 40
    have hnew := heap_alloc_new w13 (.cells #[.int .i64 x.kind, .int .i64 x.op, .int .i64 x.n, .string x.name, .slice q2 x.args.length n2, .int .i64 y.kind, .int .i64 y.op, .int .i64 y.n, .string y.name, .slice q3 y.args.length n3] 40)
    have hav := hal.svg g2
    have HV2 := Lib.hid (((((HV.out.trans ((Bel.refl w2).drew.svg g)).trans hv1).trans hv2).trans hv3).trans (hal.svg g))
    have hs9 := hs3.bel hal
    generalize w13.alloc (.cells #[.int .i64 x.kind, .int .i64 x.op, .int .i64 x.n, .string x.name, .slice q2 x.args.length n2, .int .i64 y.kind, .int .i64 y.op, .int .i64 y.n, .string y.name, .slice q3 y.args.length n3] 40) = W9 at hav hnew hs9 HV2 ⊢
    obtain ⟨y01, y02, y03⟩ := HSZ.out w11 ((HV.out.trans ((Bel.refl w2).drew.svg g)).trans hv1)
    have hz := hv3.size
    have hz2 := hv2.size
    have hx9 := HV2.out.stays HX2.out HGS.out.2.2.1
    have hnew2 := fun cs => young_heap (B := w.heap.size) ((setRow_svg g2 W9 cs).stays hnew (by omega)) (by omega)
    refine st_fin (x := St.mk 4 fn ⟨#[]⟩ 0 [x, y] [] []) (q := some ⟨w13.heap.size, 0, none⟩) (cq := 2) (q1 := none) (n1 := 0) (q2 := none) (n2 := 0) (g2 := g2) (w6 := W9) rfl rfl (setRow_heap _ g2 zeroS _ _ _ hx9) (Svg.of HB.out HV2.out) (setRow_svg g2 _ _) HGS.out.2.2.2.2 (by have := HGS.out; omega) hs9 ?_ ?_ (SAt.nil _ _) (SAt.nil _ _)
    · exact wfS_mk ⟨by decide, by decide⟩ ⟨by decide, by decide⟩ HFS.out (by decide) (Nat.le_of_ble_eq_true rfl) (by decide) (by decide)
    · exact EAt.two (e := x) (f := y) (hnew2 _) wf2 (keepE (keepE he2 hv3 (by omega) (Nat.le_refl _)) (hav.trans (setRow_svg g2 _ _)) y02 y03) wf3 (keepE he3 (hav.trans (setRow_svg g2 _ _)) (by omega) (by omega))
  · have HY := Lib.hid hy
    clear hy
    go_enter Tryz.func56, Tryz.ntmps56
    go_upto_region 1 with (fail)
    obtain ⟨n0, n1, n2⟩ := new2 w (scA p1 c1 p2 c2 p3 c3 c) zeroS 61 52
    generalize (w.alloc (.cells (scA p1 c1 p2 c2 p3 c3 c) 61)).alloc (.cells zeroS 52) = W1 at n0 n1 n2 ⊢
    generalize hg2 : w.heap.size + 1 = g2 at n2 ⊢
    generalize hg1 : w.heap.size = g1 at n1 ⊢
    have HB := Lib.hid n0
    have HX1 := Lib.hid n1
    have HX2 := Lib.hid n2
    have HS := Lib.hid (HS0.out.bel n0)
    have HC := Lib.hid (HC0.out.svg (n0.svg g) HS0.out.lt)
    have HGS : Hid (g < w.heap.size ∧ g1 ≠ g ∧ g2 ≠ g ∧ g1 ≠ g2 ∧ w.heap.size ≤ g2) := Lib.hid (by have := HS0.out.lt; omega)
    clear n0 n1 n2 hg1 hg2
    have HV := Lib.hid (Svg.refl g W1)
    have HKEEP : Hid (∀ W' : World, Sv2 g g2 W1 W' → SBox g1 p1 c1 p2 c2 p3 c3 c W') := Lib.hid (fun W' hv => SBox.of (hv.stays HX1.out HGS.out.2.1 HGS.out.2.2.2.1))
    have HSZ : Hid (∀ W' : World, Svg g W1 W' → g < W'.heap.size ∧ g2 < W'.heap.size ∧ w.heap.size ≤ W'.heap.size) := Lib.hid (fun W' hv => by have h1 := hv.size; have h2 := lt_of_heap HX2.out; have h3 := HB.out.size; have h4 := HGS.out.1; omega)
    have HGL : Hid (g < W1.heap.size) := Lib.hid (HSZ.out _ (Svg.refl g W1)).1
    obtain ⟨d0, d1, d2, d3, d4⟩ := HKEEP.out _ (HV.out.two g2)
    go_wp2_with fail
    clear d0 d1 d2 d3 d4
    have hb5 := (Bel.refl W1).alloc #[.string ⟨#[120]⟩, .string ⟨#[121]⟩, .string ⟨#[122]⟩] 9
    have hx5 := heap_alloc_new W1 (.cells #[.string ⟨#[120]⟩, .string ⟨#[121]⟩, .string ⟨#[122]⟩] 9)
    have hg5 : W1.heap.size ≠ g := by have := HS.out.lt; omega
    generalize W1.alloc (.cells #[.string ⟨#[120]⟩, .string ⟨#[121]⟩, .string ⟨#[122]⟩] 9) = W5 at hb5 hx5 ⊢
    generalize W1.heap.size = g5 at hx5 hg5 ⊢
    refine (scname_lit HLN.out W5 (p := some ⟨g5, 0, none⟩) (n := 3) rfl (lit_nm (l := xyz) (mask_heap hx5 hg5) xyz_size) (by decide) (HS.out.bel hb5)).mono ?_
    rintro e w6 ⟨rfl, hv, hs⟩
    have HS := Lib.hid hs
    have HV := Lib.hid ((HV.out.trans (hb5.svg g)).trans hv)
    clear hb5 hx5 hs hv
    go_wp2_with fail
    refine (next_lit HK.out (by decide) _ HS.out).mono ?_
    rintro e w2 ⟨rfl, hv, hs⟩
    have HS := Lib.hid hs
    have HV := Lib.hid (HV.out.trans hv)
    clear hv hs
    go_upto_region 7 with (fail)
    obtain ⟨d0, d1, d2, d3, d4⟩ := HKEEP.out _ (HV.out.two g2)
    rw [HY.out] at d4
    go_upto_region 8 with (fail)
    clear d0 d1 d2 d3 d4
    clear hl
    refine wp_region_held_drew (S := (SBox g1 p1 c1 p2 c2 p3 c3 c)) (by kernel_rfl) (HKEEP.out _ (Svg.two (HV.out.trans ((Bel.refl w2).drew.svg g)) g2)) (fun hS0 => ?_)
    refine takeD 58 (i := 0) (v := ?v34) rfl rfl (by kernel_rfl) (by kernel_rfl) (by kernel_rfl) (fun _ _ _ h => h) (by kernel_rfl) ?hy34 hS0 ?rest34
    case hy34 => (intro w0 hSw; obtain ⟨s0, s1, s2, s3, s4⟩ := hSw; first | (go_simp; done) | (go_simp; with_reducible rfl))
    simp only [List.setIfInBounds_toArray, List.set_cons_zero, List.set_cons_succ]
    refine takeD 59 (i := 1) (v := ?v35) rfl rfl (by kernel_rfl) (by kernel_rfl) (by kernel_rfl) (fun _ _ _ h => h) (by kernel_rfl) ?hy35 hS0 ?rest35
    case hy35 => (intro w0 hSw; obtain ⟨s0, s1, s2, s3, s4⟩ := hSw; first | (go_simp; done) | (go_simp; with_reducible rfl))
    simp only [List.setIfInBounds_toArray, List.set_cons_zero, List.set_cons_succ]
    refine takeD 60 (i := 2) (v := ?v36) rfl rfl (by kernel_rfl) (by kernel_rfl) (by kernel_rfl) (fun _ _ _ h => h) (by kernel_rfl) ?hy36 hS0 ?rest36
    case hy36 => (intro w0 hSw; obtain ⟨s0, s1, s2, s3, s4⟩ := hSw; first | (go_simp; done) | (go_simp; with_reducible rfl))
    simp only [List.setIfInBounds_toArray, List.set_cons_zero, List.set_cons_succ]
    refine takeD 61 (i := 3) (v := ?v37) rfl rfl (by kernel_rfl) (by kernel_rfl) (by kernel_rfl) (fun _ _ _ h => h) (by kernel_rfl) ?hy37 hS0 ?rest37
    case hy37 => (intro w0 hSw; obtain ⟨s0, s1, s2, s3, s4⟩ := hSw; first | (go_simp; done) | (go_simp; with_reducible rfl))
    simp only [List.setIfInBounds_toArray, List.set_cons_zero, List.set_cons_succ]
    refine takeD 63 (i := 5) (v := ?v38) rfl rfl (by kernel_rfl) (by kernel_rfl) (by kernel_rfl) (fun _ _ _ h => h) (by kernel_rfl) ?hy38 hS0 ?rest38
    case hy38 => (intro w0 hSw; obtain ⟨s0, s1, s2, s3, s4⟩ := hSw; first | (go_simp; done) | (go_simp; with_reducible rfl))
    simp only [List.setIfInBounds_toArray, List.set_cons_zero, List.set_cons_succ]
    refine takeD 64 (i := 6) (v := ?v39) rfl rfl (by kernel_rfl) (by kernel_rfl) (by kernel_rfl) (fun _ _ _ h => h) (by kernel_rfl) ?hy39 hS0 ?rest39
    case hy39 => (intro w0 hSw; obtain ⟨s0, s1, s2, s3, s4⟩ := hSw; first | (go_simp; done) | (go_simp; with_reducible rfl))
    simp only [List.setIfInBounds_toArray, List.set_cons_zero, List.set_cons_succ]
    refine takeD 66 (i := 8) (v := ?v40) rfl rfl (by kernel_rfl) (by kernel_rfl) (by kernel_rfl) (fun _ _ _ h => h) (by kernel_rfl) ?hy40 hS0 ?rest40
    case hy40 => (intro w0 hSw; obtain ⟨s0, s1, s2, s3, s4⟩ := hSw; first | (go_simp; done) | (go_simp; with_reducible rfl))
    simp only [List.setIfInBounds_toArray, List.set_cons_zero, List.set_cons_succ]
    refine takeD 67 (i := 9) (v := ?v41) rfl rfl (by kernel_rfl) (by kernel_rfl) (by kernel_rfl) (fun _ _ _ h => h) (by kernel_rfl) ?hy41 hS0 ?rest41
    case hy41 => (intro w0 hSw; obtain ⟨s0, s1, s2, s3, s4⟩ := hSw; first | (go_simp; done) | (go_simp; with_reducible rfl))
    simp only [List.setIfInBounds_toArray, List.set_cons_zero, List.set_cons_succ]
    refine onlyD 62 (i := 4) rfl rfl (by kernel_rfl) (by kernel_rfl) (fun K hK => ?_)
    go_simp
    go_at_call 55
    refine (scname_lit HFN.out _ (p := p3) rfl (HC.out.svg (HV.out.trans ((Bel.refl w2).drew.svg g)) HGL.out).held HC.out.lh (HS.out.bel (Bel.refl _).drew)).mono ?_
    rintro e w11 ⟨rfl, hv1, hs1⟩
    have hS1 := HKEEP.out _ (Svg.two ((HV.out.trans ((Bel.refl w2).drew.svg g)).trans hv1) g2)
    refine hK.out _ _ hS1 (fun _ => ?_)
    clear hK K
    simp only [List.setIfInBounds_toArray, List.set_cons_zero, List.set_cons_succ]
    refine onlyD 65 (i := 7) rfl rfl (by kernel_rfl) (by kernel_rfl) (fun K hK => ?_)
    go_simp
    go_at_call 23
    refine (E2.out g s1 s2 x _ p1 p2 p3 c1 c2 c3 HX.out (HC.out.svg ((HV.out.trans ((Bel.refl w2).drew.svg g)).trans hv1) HGL.out) hs1).mono ?_
    rintro e w12 ⟨q2, n2, rfl, wf2, he2, hv2, hs2⟩
    have hS2 := HKEEP.out _ (Svg.two (((HV.out.trans ((Bel.refl w2).drew.svg g)).trans hv1).trans hv2) g2)
    refine hK.out _ _ hS2 (fun _ => ?_)
    clear hK K
    simp only [List.setIfInBounds_toArray, List.set_cons_zero, List.set_cons_succ]
    refine onlyD 68 (i := 10) rfl rfl (by kernel_rfl) (by kernel_rfl) (fun K hK => ?_)
    go_simp
    go_at_call 23
    refine (E3.out g s2 t y _ p1 p2 p3 c1 c2 c3 HZ.out (HC.out.svg (((HV.out.trans ((Bel.refl w2).drew.svg g)).trans hv1).trans hv2) HGL.out) hs2).mono ?_
    rintro e w13 ⟨q3, n3, rfl, wf3, he3, hv3, hs3⟩
    have hS3 := HKEEP.out _ (Svg.two ((((HV.out.trans ((Bel.refl w2).drew.svg g)).trans hv1).trans hv2).trans hv3) g2)
    refine hK.out _ _ hS3 (fun _ => ?_)
    clear hK K
    simp only [List.setIfInBounds_toArray, List.set_cons_zero, List.set_cons_succ]
    refine onlyD 69 (i := 11) rfl rfl (by kernel_rfl) (by kernel_rfl) (fun K hK => ?_)
    go_simp
    refine hK.out _ _ (HKEEP.out _ (Svg.two (((((HV.out.trans ((Bel.refl w2).drew.svg g)).trans hv1).trans hv2).trans hv3).trans (((Bel.refl _).alloc _ _).svg g)) g2)) (fun hM5 => ?_)
    clear hK K
    simp only [List.setIfInBounds_toArray, List.set_cons_zero, List.set_cons_succ]
    refine takeD 70 (i := 12) (v := ?v42) rfl rfl (by kernel_rfl) (by kernel_rfl) (by kernel_rfl) (fun _ _ _ h => h) (by kernel_rfl) ?hy42 hM5 ?rest42
    case hy42 => (intro w0 hSw; obtain ⟨s0, s1, s2, s3, s4⟩ := hSw; first | (go_simp; done) | (go_simp; with_reducible rfl))
    simp only [List.setIfInBounds_toArray, List.set_cons_zero, List.set_cons_succ]
    refine onlyN (i := 13) rfl rfl (by kernel_rfl) (by kernel_rfl) (fun K hK => ?_)
    refine wp_store_row 52 (.tmp 6) (.tmp 70) rfl g2 #[.int .i64 4, .string fn, .string ⟨#[]⟩, .int .i64 0, .slice (some ⟨w13.heap.size, 0, none⟩) 2 2, .slice none 0 0, .slice none 0 0] (by kernel_rfl) (by kernel_rfl) 52 zeroS (Svg.stays (((((HV.out.trans ((Bel.refl w2).drew.svg g)).trans hv1).trans hv2).trans hv3).trans (((Bel.refl _).alloc _ _).svg g)) HX2.out HGS.out.2.2.1) (by kernel_rfl) (by kernel_rfl) (by kernel_rfl) ?_
    refine hK.out undef _ (HKEEP.out _ ((Svg.two (((((HV.out.trans ((Bel.refl w2).drew.svg g)).trans hv1).trans hv2).trans hv3).trans (((Bel.refl _).alloc _ _).svg g)) g2).trans ((setRow_svg g2 _ _).two' g))) (fun hSF => ?_)
    clear hK K
    refine wpAnyH_done (by kernel_rfl) ?_ _
    clear hSF hS0 hS1 hS2 hS3 hM5
    go_wp2_with fail
    have hal := (Bel.refl w13).alloc #[.int .i64 x.kind, .int .i64 x.op, .int .i64 x.n, .string x.name, .slice q2 x.args.length n2, .int .i64 y.kind, .int .i64 y.op, .int .i64 y.n, .string y.name, .slice q3 y.args.length n3] 40
    have hnew := heap_alloc_new w13 (.cells #[.int .i64 x.kind, .int .i64 x.op, .int .i64 x.n, .string x.name, .slice q2 x.args.length n2, .int .i64 y.kind, .int .i64 y.op, .int .i64 y.n, .string y.name, .slice q3 y.args.length n3] 40)
    have hav := hal.svg g2
    have HV2 := Lib.hid (((((HV.out.trans ((Bel.refl w2).drew.svg g)).trans hv1).trans hv2).trans hv3).trans (hal.svg g))
    have hs9 := hs3.bel hal
    generalize w13.alloc (.cells #[.int .i64 x.kind, .int .i64 x.op, .int .i64 x.n, .string x.name, .slice q2 x.args.length n2, .int .i64 y.kind, .int .i64 y.op, .int .i64 y.n, .string y.name, .slice q3 y.args.length n3] 40) = W9 at hav hnew hs9 HV2 ⊢
    obtain ⟨y01, y02, y03⟩ := HSZ.out w11 ((HV.out.trans ((Bel.refl w2).drew.svg g)).trans hv1)
    have hz := hv3.size
    have hz2 := hv2.size
    have hx9 := HV2.out.stays HX2.out HGS.out.2.2.1
    have hnew2 := fun cs => young_heap (B := w.heap.size) ((setRow_svg g2 W9 cs).stays hnew (by omega)) (by omega)
    refine st_fin (x := St.mk 4 fn ⟨#[]⟩ 0 [x, y] [] []) (q := some ⟨w13.heap.size, 0, none⟩) (cq := 2) (q1 := none) (n1 := 0) (q2 := none) (n2 := 0) (g2 := g2) (w6 := W9) rfl rfl (setRow_heap _ g2 zeroS _ _ _ hx9) (Svg.of HB.out HV2.out) (setRow_svg g2 _ _) HGS.out.2.2.2.2 (by have := HGS.out; omega) hs9 ?_ ?_ (SAt.nil _ _) (SAt.nil _ _)
    · exact wfS_mk ⟨by decide, by decide⟩ ⟨by decide, by decide⟩ HFS.out (by decide) (Nat.le_of_ble_eq_true rfl) (by decide) (by decide)
    · exact EAt.two (e := x) (f := y) (hnew2 _) wf2 (keepE (keepE he2 hv3 (by omega) (Nat.le_refl _)) (hav.trans (setRow_svg g2 _ _)) y02 y03) wf3 (keepE he3 (hav.trans (setRow_svg g2 _ _)) (by omega) (by omega))
  · have HY := Lib.hid hy
    clear hy
    go_enter Tryz.func56, Tryz.ntmps56
    go_upto_region 1 with (fail)
    obtain ⟨n0, n1, n2⟩ := new2 w (scA p1 c1 p2 c2 p3 c3 c) zeroS 61 52
    generalize (w.alloc (.cells (scA p1 c1 p2 c2 p3 c3 c) 61)).alloc (.cells zeroS 52) = W1 at n0 n1 n2 ⊢
    generalize hg2 : w.heap.size + 1 = g2 at n2 ⊢
    generalize hg1 : w.heap.size = g1 at n1 ⊢
    have HB := Lib.hid n0
    have HX1 := Lib.hid n1
    have HX2 := Lib.hid n2
    have HS := Lib.hid (HS0.out.bel n0)
    have HC := Lib.hid (HC0.out.svg (n0.svg g) HS0.out.lt)
    have HGS : Hid (g < w.heap.size ∧ g1 ≠ g ∧ g2 ≠ g ∧ g1 ≠ g2 ∧ w.heap.size ≤ g2) := Lib.hid (by have := HS0.out.lt; omega)
    clear n0 n1 n2 hg1 hg2
    have HV := Lib.hid (Svg.refl g W1)
    have HKEEP : Hid (∀ W' : World, Sv2 g g2 W1 W' → SBox g1 p1 c1 p2 c2 p3 c3 c W') := Lib.hid (fun W' hv => SBox.of (hv.stays HX1.out HGS.out.2.1 HGS.out.2.2.2.1))
    have HSZ : Hid (∀ W' : World, Svg g W1 W' → g < W'.heap.size ∧ g2 < W'.heap.size ∧ w.heap.size ≤ W'.heap.size) := Lib.hid (fun W' hv => by have h1 := hv.size; have h2 := lt_of_heap HX2.out; have h3 := HB.out.size; have h4 := HGS.out.1; omega)
    have HGL : Hid (g < W1.heap.size) := Lib.hid (HSZ.out _ (Svg.refl g W1)).1
    obtain ⟨d0, d1, d2, d3, d4⟩ := HKEEP.out _ (HV.out.two g2)
    go_wp2_with fail
    clear d0 d1 d2 d3 d4
    have hb5 := (Bel.refl W1).alloc #[.string ⟨#[120]⟩, .string ⟨#[121]⟩, .string ⟨#[122]⟩] 9
    have hx5 := heap_alloc_new W1 (.cells #[.string ⟨#[120]⟩, .string ⟨#[121]⟩, .string ⟨#[122]⟩] 9)
    have hg5 : W1.heap.size ≠ g := by have := HS.out.lt; omega
    generalize W1.alloc (.cells #[.string ⟨#[120]⟩, .string ⟨#[121]⟩, .string ⟨#[122]⟩] 9) = W5 at hb5 hx5 ⊢
    generalize W1.heap.size = g5 at hx5 hg5 ⊢
    refine (scname_lit HLN.out W5 (p := some ⟨g5, 0, none⟩) (n := 3) rfl (lit_nm (l := xyz) (mask_heap hx5 hg5) xyz_size) (by decide) (HS.out.bel hb5)).mono ?_
    rintro e w6 ⟨rfl, hv, hs⟩
    have HS := Lib.hid hs
    have HV := Lib.hid ((HV.out.trans (hb5.svg g)).trans hv)
    clear hb5 hx5 hs hv
    go_wp2_with fail
    refine (next_lit HK.out (by decide) _ HS.out).mono ?_
    rintro e w2 ⟨rfl, hv, hs⟩
    have HS := Lib.hid hs
    have HV := Lib.hid (HV.out.trans hv)
    clear hv hs
    go_upto_region 7 with (fail)
    obtain ⟨d0, d1, d2, d3, d4⟩ := HKEEP.out _ (HV.out.two g2)
    rw [HY.out] at d4
    go_upto_region 8 with (fail)
    clear d0 d1 d2 d3 d4
    refine wp_region_held_drew (S := (SBox g1 p1 c1 p2 c2 p3 c3 c)) (by kernel_rfl) (HKEEP.out _ (Svg.two (HV.out.trans ((Bel.refl w2).drew.svg g)) g2)) (fun hS0 => ?_)
    refine takeD 58 (i := 0) (v := ?v43) rfl rfl (by kernel_rfl) (by kernel_rfl) (by kernel_rfl) (fun _ _ _ h => h) (by kernel_rfl) ?hy43 hS0 ?rest43
    case hy43 => (intro w0 hSw; obtain ⟨s0, s1, s2, s3, s4⟩ := hSw; first | (go_simp; done) | (go_simp; with_reducible rfl))
    simp only [List.setIfInBounds_toArray, List.set_cons_zero, List.set_cons_succ]
    refine takeD 59 (i := 1) (v := ?v44) rfl rfl (by kernel_rfl) (by kernel_rfl) (by kernel_rfl) (fun _ _ _ h => h) (by kernel_rfl) ?hy44 hS0 ?rest44
    case hy44 => (intro w0 hSw; obtain ⟨s0, s1, s2, s3, s4⟩ := hSw; first | (go_simp; done) | (go_simp; with_reducible rfl))
    simp only [List.setIfInBounds_toArray, List.set_cons_zero, List.set_cons_succ]
    refine takeD 60 (i := 2) (v := ?v45) rfl rfl (by kernel_rfl) (by kernel_rfl) (by kernel_rfl) (fun _ _ _ h => h) (by kernel_rfl) ?hy45 hS0 ?rest45
    case hy45 => (intro w0 hSw; obtain ⟨s0, s1, s2, s3, s4⟩ := hSw; first | (go_simp; done) | (go_simp; with_reducible rfl))
    simp only [List.setIfInBounds_toArray, List.set_cons_zero, List.set_cons_succ]
    refine takeD 61 (i := 3) (v := ?v46) rfl rfl (by kernel_rfl) (by kernel_rfl) (by kernel_rfl) (fun _ _ _ h => h) (by kernel_rfl) ?hy46 hS0 ?rest46
    case hy46 => (intro w0 hSw; obtain ⟨s0, s1, s2, s3, s4⟩ := hSw; first | (go_simp; done) | (go_simp; with_reducible rfl))
    simp only [List.setIfInBounds_toArray, List.set_cons_zero, List.set_cons_succ]
    refine takeD 63 (i := 5) (v := ?v47) rfl rfl (by kernel_rfl) (by kernel_rfl) (by kernel_rfl) (fun _ _ _ h => h) (by kernel_rfl) ?hy47 hS0 ?rest47
    case hy47 => (intro w0 hSw; obtain ⟨s0, s1, s2, s3, s4⟩ := hSw; first | (go_simp; done) | (go_simp; with_reducible rfl))
    simp only [List.setIfInBounds_toArray, List.set_cons_zero, List.set_cons_succ]
    refine takeD 64 (i := 6) (v := ?v48) rfl rfl (by kernel_rfl) (by kernel_rfl) (by kernel_rfl) (fun _ _ _ h => h) (by kernel_rfl) ?hy48 hS0 ?rest48
    case hy48 => (intro w0 hSw; obtain ⟨s0, s1, s2, s3, s4⟩ := hSw; first | (go_simp; done) | (go_simp; with_reducible rfl))
    simp only [List.setIfInBounds_toArray, List.set_cons_zero, List.set_cons_succ]
    refine takeD 66 (i := 8) (v := ?v49) rfl rfl (by kernel_rfl) (by kernel_rfl) (by kernel_rfl) (fun _ _ _ h => h) (by kernel_rfl) ?hy49 hS0 ?rest49
    case hy49 => (intro w0 hSw; obtain ⟨s0, s1, s2, s3, s4⟩ := hSw; first | (go_simp; done) | (go_simp; with_reducible rfl))
    simp only [List.setIfInBounds_toArray, List.set_cons_zero, List.set_cons_succ]
    refine takeD 67 (i := 9) (v := ?v50) rfl rfl (by kernel_rfl) (by kernel_rfl) (by kernel_rfl) (fun _ _ _ h => h) (by kernel_rfl) ?hy50 hS0 ?rest50
    case hy50 => (intro w0 hSw; obtain ⟨s0, s1, s2, s3, s4⟩ := hSw; first | (go_simp; done) | (go_simp; with_reducible rfl))
    simp only [List.setIfInBounds_toArray, List.set_cons_zero, List.set_cons_succ]
    refine onlyD 62 (i := 4) rfl rfl (by kernel_rfl) (by kernel_rfl) (fun K hK => ?_)
    go_simp
    go_at_call 55
    refine (scname_lit HFN.out _ (p := p3) rfl (HC.out.svg (HV.out.trans ((Bel.refl w2).drew.svg g)) HGL.out).held HC.out.lh (HS.out.bel (Bel.refl _).drew)).mono ?_
    rintro e w11 ⟨rfl, hv1, hs1⟩
    have hS1 := HKEEP.out _ (Svg.two ((HV.out.trans ((Bel.refl w2).drew.svg g)).trans hv1) g2)
    refine hK.out _ _ hS1 (fun _ => ?_)
    clear hK K
    simp only [List.setIfInBounds_toArray, List.set_cons_zero, List.set_cons_succ]
    refine onlyD 65 (i := 7) rfl rfl (by kernel_rfl) (by kernel_rfl) (fun K hK => ?_)
    go_simp
    go_at_call 23
    refine (E2.out g s1 s2 x _ p1 p2 p3 c1 c2 c3 HX.out (HC.out.svg ((HV.out.trans ((Bel.refl w2).drew.svg g)).trans hv1) HGL.out) hs1).mono ?_
    rintro e w12 ⟨q2, n2, rfl, wf2, he2, hv2, hs2⟩
    have hS2 := HKEEP.out _ (Svg.two (((HV.out.trans ((Bel.refl w2).drew.svg g)).trans hv1).trans hv2) g2)
    refine hK.out _ _ hS2 (fun _ => ?_)
    clear hK K
    simp only [List.setIfInBounds_toArray, List.set_cons_zero, List.set_cons_succ]
    refine onlyD 68 (i := 10) rfl rfl (by kernel_rfl) (by kernel_rfl) (fun K hK => ?_)
    go_simp
    go_at_call 23
    refine (E3.out g s2 t y _ p1 p2 p3 c1 c2 c3 HZ.out (HC.out.svg (((HV.out.trans ((Bel.refl w2).drew.svg g)).trans hv1).trans hv2) HGL.out) hs2).mono ?_
    rintro e w13 ⟨q3, n3, rfl, wf3, he3, hv3, hs3⟩
    have hS3 := HKEEP.out _ (Svg.two ((((HV.out.trans ((Bel.refl w2).drew.svg g)).trans hv1).trans hv2).trans hv3) g2)
    refine hK.out _ _ hS3 (fun _ => ?_)
    clear hK K
    simp only [List.setIfInBounds_toArray, List.set_cons_zero, List.set_cons_succ]
    refine onlyD 69 (i := 11) rfl rfl (by kernel_rfl) (by kernel_rfl) (fun K hK => ?_)
    go_simp
    refine hK.out _ _ (HKEEP.out _ (Svg.two (((((HV.out.trans ((Bel.refl w2).drew.svg g)).trans hv1).trans hv2).trans hv3).trans (((Bel.refl _).alloc _ _).svg g)) g2)) (fun hM6 => ?_)
    clear hK K
    simp only [List.setIfInBounds_toArray, List.set_cons_zero, List.set_cons_succ]
    refine takeD 70 (i := 12) (v := ?v51) rfl rfl (by kernel_rfl) (by kernel_rfl) (by kernel_rfl) (fun _ _ _ h => h) (by kernel_rfl) ?hy51 hM6 ?rest51
    case hy51 => (intro w0 hSw; obtain ⟨s0, s1, s2, s3, s4⟩ := hSw; first | (go_simp; done) | (go_simp; with_reducible rfl))
    simp only [List.setIfInBounds_toArray, List.set_cons_zero, List.set_cons_succ]
    refine onlyN (i := 13) rfl rfl (by kernel_rfl) (by kernel_rfl) (fun K hK => ?_)
    refine wp_store_row 52 (.tmp 6) (.tmp 70) rfl g2 #[.int .i64 4, .string fn, .string ⟨#[]⟩, .int .i64 0, .slice (some ⟨w13.heap.size, 0, none⟩) 2 2, .slice none 0 0, .slice none 0 0] (by kernel_rfl) (by kernel_rfl) 52 zeroS (Svg.stays (((((HV.out.trans ((Bel.refl w2).drew.svg g)).trans hv1).trans hv2).trans hv3).trans (((Bel.refl _).alloc _ _).svg g)) HX2.out HGS.out.2.2.1) (by kernel_rfl) (by kernel_rfl) (by kernel_rfl) ?_
    refine hK.out undef _ (HKEEP.out _ ((Svg.two (((((HV.out.trans ((Bel.refl w2).drew.svg g)).trans hv1).trans hv2).trans hv3).trans (((Bel.refl _).alloc _ _).svg g)) g2).trans ((setRow_svg g2 _ _).two' g))) (fun hSF => ?_)
    clear hK K
    refine wpAnyH_done (by kernel_rfl) ?_ _
    clear hSF hS0 hS1 hS2 hS3 hM6
    go_wp2_with fail
    have hal := (Bel.refl w13).alloc #[.int .i64 x.kind, .int .i64 x.op, .int .i64 x.n, .string x.name, .slice q2 x.args.length n2, .int .i64 y.kind, .int .i64 y.op, .int .i64 y.n, .string y.name, .slice q3 y.args.length n3] 40
    have hnew := heap_alloc_new w13 (.cells #[.int .i64 x.kind, .int .i64 x.op, .int .i64 x.n, .string x.name, .slice q2 x.args.length n2, .int .i64 y.kind, .int .i64 y.op, .int .i64 y.n, .string y.name, .slice q3 y.args.length n3] 40)
    have hav := hal.svg g2
    have HV2 := Lib.hid (((((HV.out.trans ((Bel.refl w2).drew.svg g)).trans hv1).trans hv2).trans hv3).trans (hal.svg g))
    have hs9 := hs3.bel hal
    generalize w13.alloc (.cells #[.int .i64 x.kind, .int .i64 x.op, .int .i64 x.n, .string x.name, .slice q2 x.args.length n2, .int .i64 y.kind, .int .i64 y.op, .int .i64 y.n, .string y.name, .slice q3 y.args.length n3] 40) = W9 at hav hnew hs9 HV2 ⊢
    obtain ⟨y01, y02, y03⟩ := HSZ.out w11 ((HV.out.trans ((Bel.refl w2).drew.svg g)).trans hv1)
    have hz := hv3.size
    have hz2 := hv2.size
    have hx9 := HV2.out.stays HX2.out HGS.out.2.2.1
    have hnew2 := fun cs => young_heap (B := w.heap.size) ((setRow_svg g2 W9 cs).stays hnew (by omega)) (by omega)
    refine st_fin (x := St.mk 4 fn ⟨#[]⟩ 0 [x, y] [] []) (q := some ⟨w13.heap.size, 0, none⟩) (cq := 2) (q1 := none) (n1 := 0) (q2 := none) (n2 := 0) (g2 := g2) (w6 := W9) rfl rfl (setRow_heap _ g2 zeroS _ _ _ hx9) (Svg.of HB.out HV2.out) (setRow_svg g2 _ _) HGS.out.2.2.2.2 (by have := HGS.out; omega) hs9 ?_ ?_ (SAt.nil _ _) (SAt.nil _ _)
    · exact wfS_mk ⟨by decide, by decide⟩ ⟨by decide, by decide⟩ HFS.out (by decide) (Nat.le_of_ble_eq_true rfl) (by decide) (by decide)
    · exact EAt.two (e := x) (f := y) (hnew2 _) wf2 (keepE (keepE he2 hv3 (by omega) (Nat.le_refl _)) (hav.trans (setRow_svg g2 _ _)) y02 y03) wf3 (keepE he3 (hav.trans (setRow_svg g2 _ _)) (by omega) (by omega))
  · have HY := Lib.hid hy
    clear hy
    go_enter Tryz.func56, Tryz.ntmps56
    go_upto_region 1 with (fail)
    obtain ⟨n0, n1, n2⟩ := new2 w (scA p1 c1 p2 c2 p3 c3 c) zeroS 61 52
    generalize (w.alloc (.cells (scA p1 c1 p2 c2 p3 c3 c) 61)).alloc (.cells zeroS 52) = W1 at n0 n1 n2 ⊢
    generalize hg2 : w.heap.size + 1 = g2 at n2 ⊢
    generalize hg1 : w.heap.size = g1 at n1 ⊢
    have HB := Lib.hid n0
    have HX1 := Lib.hid n1
    have HX2 := Lib.hid n2
    have HS := Lib.hid (HS0.out.bel n0)
    have HC := Lib.hid (HC0.out.svg (n0.svg g) HS0.out.lt)
    have HGS : Hid (g < w.heap.size ∧ g1 ≠ g ∧ g2 ≠ g ∧ g1 ≠ g2 ∧ w.heap.size ≤ g2) := Lib.hid (by have := HS0.out.lt; omega)
    clear n0 n1 n2 hg1 hg2
    have HV := Lib.hid (Svg.refl g W1)
    have HKEEP : Hid (∀ W' : World, Sv2 g g2 W1 W' → SBox g1 p1 c1 p2 c2 p3 c3 c W') := Lib.hid (fun W' hv => SBox.of (hv.stays HX1.out HGS.out.2.1 HGS.out.2.2.2.1))
    have HSZ : Hid (∀ W' : World, Svg g W1 W' → g < W'.heap.size ∧ g2 < W'.heap.size ∧ w.heap.size ≤ W'.heap.size) := Lib.hid (fun W' hv => by have h1 := hv.size; have h2 := lt_of_heap HX2.out; have h3 := HB.out.size; have h4 := HGS.out.1; omega)
    have HGL : Hid (g < W1.heap.size) := Lib.hid (HSZ.out _ (Svg.refl g W1)).1
    obtain ⟨d0, d1, d2, d3, d4⟩ := HKEEP.out _ (HV.out.two g2)
    go_wp2_with fail
    clear d0 d1 d2 d3 d4
    have hb5 := (Bel.refl W1).alloc #[.string ⟨#[120]⟩, .string ⟨#[121]⟩, .string ⟨#[122]⟩] 9
    have hx5 := heap_alloc_new W1 (.cells #[.string ⟨#[120]⟩, .string ⟨#[121]⟩, .string ⟨#[122]⟩] 9)
    have hg5 : W1.heap.size ≠ g := by have := HS.out.lt; omega
    generalize W1.alloc (.cells #[.string ⟨#[120]⟩, .string ⟨#[121]⟩, .string ⟨#[122]⟩] 9) = W5 at hb5 hx5 ⊢
    generalize W1.heap.size = g5 at hx5 hg5 ⊢
    refine (scname_lit HLN.out W5 (p := some ⟨g5, 0, none⟩) (n := 3) rfl (lit_nm (l := xyz) (mask_heap hx5 hg5) xyz_size) (by decide) (HS.out.bel hb5)).mono ?_
    rintro e w6 ⟨rfl, hv, hs⟩
    have HS := Lib.hid hs
    have HV := Lib.hid ((HV.out.trans (hb5.svg g)).trans hv)
    clear hb5 hx5 hs hv
    go_wp2_with fail
    refine (next_lit HK.out (by decide) _ HS.out).mono ?_
    rintro e w2 ⟨rfl, hv, hs⟩
    have HS := Lib.hid hs
    have HV := Lib.hid (HV.out.trans hv)
    clear hv hs
    go_upto_region 7 with (fail)
    obtain ⟨d0, d1, d2, d3, d4⟩ := HKEEP.out _ (HV.out.two g2)
    rw [HY.out] at d4
    go_upto_region 8 with (fail)
    clear d0 d1 d2 d3 d4
    clear hl
    refine wp_region_held_drew (S := (SBox g1 p1 c1 p2 c2 p3 c3 c)) (by kernel_rfl) (HKEEP.out _ (Svg.two (HV.out.trans ((Bel.refl w2).drew.svg g)) g2)) (fun hS0 => ?_)
    refine takeD 58 (i := 0) (v := ?v52) rfl rfl (by kernel_rfl) (by kernel_rfl) (by kernel_rfl) (fun _ _ _ h => h) (by kernel_rfl) ?hy52 hS0 ?rest52
    case hy52 => (intro w0 hSw; obtain ⟨s0, s1, s2, s3, s4⟩ := hSw; first | (go_simp; done) | (go_simp; with_reducible rfl))
    simp only [List.setIfInBounds_toArray, List.set_cons_zero, List.set_cons_succ]
    refine takeD 59 (i := 1) (v := ?v53) rfl rfl (by kernel_rfl) (by kernel_rfl) (by kernel_rfl) (fun _ _ _ h => h) (by kernel_rfl) ?hy53 hS0 ?rest53
    case hy53 => (intro w0 hSw; obtain ⟨s0, s1, s2, s3, s4⟩ := hSw; first | (go_simp; done) | (go_simp; with_reducible rfl))
    simp only [List.setIfInBounds_toArray, List.set_cons_zero, List.set_cons_succ]
    refine takeD 60 (i := 2) (v := ?v54) rfl rfl (by kernel_rfl) (by kernel_rfl) (by kernel_rfl) (fun _ _ _ h => h) (by kernel_rfl) ?hy54 hS0 ?rest54
    case hy54 => (intro w0 hSw; obtain ⟨s0, s1, s2, s3, s4⟩ := hSw; first | (go_simp; done) | (go_simp; with_reducible rfl))
    simp only [List.setIfInBounds_toArray, List.set_cons_zero, List.set_cons_succ]
    refine takeD 61 (i := 3) (v := ?v55) rfl rfl (by kernel_rfl) (by kernel_rfl) (by kernel_rfl) (fun _ _ _ h => h) (by kernel_rfl) ?hy55 hS0 ?rest55
    case hy55 => (intro w0 hSw; obtain ⟨s0, s1, s2, s3, s4⟩ := hSw; first | (go_simp; done) | (go_simp; with_reducible rfl))
    simp only [List.setIfInBounds_toArray, List.set_cons_zero, List.set_cons_succ]
    refine takeD 63 (i := 5) (v := ?v56) rfl rfl (by kernel_rfl) (by kernel_rfl) (by kernel_rfl) (fun _ _ _ h => h) (by kernel_rfl) ?hy56 hS0 ?rest56
    case hy56 => (intro w0 hSw; obtain ⟨s0, s1, s2, s3, s4⟩ := hSw; first | (go_simp; done) | (go_simp; with_reducible rfl))
    simp only [List.setIfInBounds_toArray, List.set_cons_zero, List.set_cons_succ]
    refine takeD 64 (i := 6) (v := ?v57) rfl rfl (by kernel_rfl) (by kernel_rfl) (by kernel_rfl) (fun _ _ _ h => h) (by kernel_rfl) ?hy57 hS0 ?rest57
    case hy57 => (intro w0 hSw; obtain ⟨s0, s1, s2, s3, s4⟩ := hSw; first | (go_simp; done) | (go_simp; with_reducible rfl))
    simp only [List.setIfInBounds_toArray, List.set_cons_zero, List.set_cons_succ]
    refine takeD 66 (i := 8) (v := ?v58) rfl rfl (by kernel_rfl) (by kernel_rfl) (by kernel_rfl) (fun _ _ _ h => h) (by kernel_rfl) ?hy58 hS0 ?rest58
    case hy58 => (intro w0 hSw; obtain ⟨s0, s1, s2, s3, s4⟩ := hSw; first | (go_simp; done) | (go_simp; with_reducible rfl))
    simp only [List.setIfInBounds_toArray, List.set_cons_zero, List.set_cons_succ]
    refine takeD 67 (i := 9) (v := ?v59) rfl rfl (by kernel_rfl) (by kernel_rfl) (by kernel_rfl) (fun _ _ _ h => h) (by kernel_rfl) ?hy59 hS0 ?rest59
    case hy59 => (intro w0 hSw; obtain ⟨s0, s1, s2, s3, s4⟩ := hSw; first | (go_simp; done) | (go_simp; with_reducible rfl))
    simp only [List.setIfInBounds_toArray, List.set_cons_zero, List.set_cons_succ]
    refine onlyD 62 (i := 4) rfl rfl (by kernel_rfl) (by kernel_rfl) (fun K hK => ?_)
    go_simp
    go_at_call 55
    refine (scname_lit HFN.out _ (p := p3) rfl (HC.out.svg (HV.out.trans ((Bel.refl w2).drew.svg g)) HGL.out).held HC.out.lh (HS.out.bel (Bel.refl _).drew)).mono ?_
    rintro e w11 ⟨rfl, hv1, hs1⟩
    have hS1 := HKEEP.out _ (Svg.two ((HV.out.trans ((Bel.refl w2).drew.svg g)).trans hv1) g2)
    refine hK.out _ _ hS1 (fun _ => ?_)
    clear hK K
    simp only [List.setIfInBounds_toArray, List.set_cons_zero, List.set_cons_succ]
    refine onlyD 65 (i := 7) rfl rfl (by kernel_rfl) (by kernel_rfl) (fun K hK => ?_)
    go_simp
    go_at_call 23
    refine (E2.out g s1 s2 x _ p1 p2 p3 c1 c2 c3 HX.out (HC.out.svg ((HV.out.trans ((Bel.refl w2).drew.svg g)).trans hv1) HGL.out) hs1).mono ?_
    rintro e w12 ⟨q2, n2, rfl, wf2, he2, hv2, hs2⟩
    have hS2 := HKEEP.out _ (Svg.two (((HV.out.trans ((Bel.refl w2).drew.svg g)).trans hv1).trans hv2) g2)
    refine hK.out _ _ hS2 (fun _ => ?_)
    clear hK K
    simp only [List.setIfInBounds_toArray, List.set_cons_zero, List.set_cons_succ]
    refine onlyD 68 (i := 10) rfl rfl (by kernel_rfl) (by kernel_rfl) (fun K hK => ?_)
    go_simp
    go_at_call 23
    refine (E3.out g s2 t y _ p1 p2 p3 c1 c2 c3 HZ.out (HC.out.svg (((HV.out.trans ((Bel.refl w2).drew.svg g)).trans hv1).trans hv2) HGL.out) hs2).mono ?_
    rintro e w13 ⟨q3, n3, rfl, wf3, he3, hv3, hs3⟩
    have hS3 := HKEEP.out _ (Svg.two ((((HV.out.trans ((Bel.refl w2).drew.svg g)).trans hv1).trans hv2).trans hv3) g2)
    refine hK.out _ _ hS3 (fun _ => ?_)
    clear hK K
    simp only [List.setIfInBounds_toArray, List.set_cons_zero, List.set_cons_succ]
    refine onlyD 69 (i := 11) rfl rfl (by kernel_rfl) (by kernel_rfl) (fun K hK => ?_)
    go_simp
    refine hK.out _ _ (HKEEP.out _ (Svg.two (((((HV.out.trans ((Bel.refl w2).drew.svg g)).trans hv1).trans hv2).trans hv3).trans (((Bel.refl _).alloc _ _).svg g)) g2)) (fun hM7 => ?_)
    clear hK K
    simp only [List.setIfInBounds_toArray, List.set_cons_zero, List.set_cons_succ]
    refine takeD 70 (i := 12) (v := ?v60) rfl rfl (by kernel_rfl) (by kernel_rfl) (by kernel_rfl) (fun _ _ _ h => h) (by kernel_rfl) ?hy60 hM7 ?rest60
    case hy60 => (intro w0 hSw; obtain ⟨s0, s1, s2, s3, s4⟩ := hSw; first | (go_simp; done) | (go_simp; with_reducible rfl))
    simp only [List.setIfInBounds_toArray, List.set_cons_zero, List.set_cons_succ]
    refine onlyN (i := 13) rfl rfl (by kernel_rfl) (by kernel_rfl) (fun K hK => ?_)
    refine wp_store_row 52 (.tmp 6) (.tmp 70) rfl g2 #[.int .i64 4, .string fn, .string ⟨#[]⟩, .int .i64 0, .slice (some ⟨w13.heap.size, 0, none⟩) 2 2, .slice none 0 0, .slice none 0 0] (by kernel_rfl) (by kernel_rfl) 52 zeroS (Svg.stays (((((HV.out.trans ((Bel.refl w2).drew.svg g)).trans hv1).trans hv2).trans hv3).trans (((Bel.refl _).alloc _ _).svg g)) HX2.out HGS.out.2.2.1) (by kernel_rfl) (by kernel_rfl) (by kernel_rfl) ?_
    refine hK.out undef _ (HKEEP.out _ ((Svg.two (((((HV.out.trans ((Bel.refl w2).drew.svg g)).trans hv1).trans hv2).trans hv3).trans (((Bel.refl _).alloc _ _).svg g)) g2).trans ((setRow_svg g2 _ _).two' g))) (fun hSF => ?_)
    clear hK K
    refine wpAnyH_done (by kernel_rfl) ?_ _
    clear hSF hS0 hS1 hS2 hS3 hM7
    go_wp2_with fail
    have hal := (Bel.refl w13).alloc #[.int .i64 x.kind, .int .i64 x.op, .int .i64 x.n, .string x.name, .slice q2 x.args.length n2, .int .i64 y.kind, .int .i64 y.op, .int .i64 y.n, .string y.name, .slice q3 y.args.length n3] 40
    have hnew := heap_alloc_new w13 (.cells #[.int .i64 x.kind, .int .i64 x.op, .int .i64 x.n, .string x.name, .slice q2 x.args.length n2, .int .i64 y.kind, .int .i64 y.op, .int .i64 y.n, .string y.name, .slice q3 y.args.length n3] 40)
    have hav := hal.svg g2
    have HV2 := Lib.hid (((((HV.out.trans ((Bel.refl w2).drew.svg g)).trans hv1).trans hv2).trans hv3).trans (hal.svg g))
    have hs9 := hs3.bel hal
    generalize w13.alloc (.cells #[.int .i64 x.kind, .int .i64 x.op, .int .i64 x.n, .string x.name, .slice q2 x.args.length n2, .int .i64 y.kind, .int .i64 y.op, .int .i64 y.n, .string y.name, .slice q3 y.args.length n3] 40) = W9 at hav hnew hs9 HV2 ⊢
    obtain ⟨y01, y02, y03⟩ := HSZ.out w11 ((HV.out.trans ((Bel.refl w2).drew.svg g)).trans hv1)
    have hz := hv3.size
    have hz2 := hv2.size
    have hx9 := HV2.out.stays HX2.out HGS.out.2.2.1
    have hnew2 := fun cs => young_heap (B := w.heap.size) ((setRow_svg g2 W9 cs).stays hnew (by omega)) (by omega)
    refine st_fin (x := St.mk 4 fn ⟨#[]⟩ 0 [x, y] [] []) (q := some ⟨w13.heap.size, 0, none⟩) (cq := 2) (q1 := none) (n1 := 0) (q2 := none) (n2 := 0) (g2 := g2) (w6 := W9) rfl rfl (setRow_heap _ g2 zeroS _ _ _ hx9) (Svg.of HB.out HV2.out) (setRow_svg g2 _ _) HGS.out.2.2.2.2 (by have := HGS.out; omega) hs9 ?_ ?_ (SAt.nil _ _) (SAt.nil _ _)
    · exact wfS_mk ⟨by decide, by decide⟩ ⟨by decide, by decide⟩ HFS.out (by decide) (Nat.le_of_ble_eq_true rfl) (by decide) (by decide)
    · exact EAt.two (e := x) (f := y) (hnew2 _) wf2 (keepE (keepE he2 hv3 (by omega) (Nat.le_refl _)) (hav.trans (setRow_svg g2 _ _)) y02 y03) wf3 (keepE he3 (hav.trans (setRow_svg g2 _ _)) (by omega) (by omega))
set_option maxRecDepth 100000 in
set_option maxHeartbeats 8000000 in
theorem st_if (c : Sco) (hgc : GoodC c) (D : Int) (hD : 0 ≤ D ∧ D ≤ 100) (g : Nat) (s sl s0 t : List Int) (k : Int) (ln : ByteArray) (d : Nat) (D1 : Int) (s1 s2 : List Int) (x : Ex) (tl el : List St) (w : World) (p1 p2 p3 : Option Addr) (c1 c2 c3 : Nat) (hln : nameV c xyz s = (ln, sl)) (hls : ln.size ≤ 20) (hk : nx sl 12 = (k, s0)) (hk2 : k = 9) (hD0 : 0 < D) (hD1 : IntKind.i64.wrap (D - 1) = D1) (hhl : c.held.length + d ≤ 900) (ih : BAtI D1 d) (hx : exprV c 3 s0 = (x, s1)) (ht : bodyV d c s1 = (tl, s2)) (he : bodyV d c s2 = (el, t)) (hC : ScAt g w p1 p2 p3 c) (hS : SrcAt g w s) :
    Calls Tryz.prog 56 #[scV p1 c1 p2 c2 p3 c3 c, .pointer (some ⟨g, 0, none⟩), .int .i64 D] w fun e w' => ∃ q cq q1 n1 q2 n2, e = .returned (stV q cq q1 n1 q2 n2 (St.mk 6 ⟨#[]⟩ ⟨#[]⟩ 0 [x] tl el)) ∧ WfS (St.mk 6 ⟨#[]⟩ ⟨#[]⟩ 0 [x] tl el) ∧ EAt (young w.heap.size w') q (St.mk 6 ⟨#[]⟩ ⟨#[]⟩ 0 [x] tl el).args ∧ SAt (young w.heap.size w') q1 (St.mk 6 ⟨#[]⟩ ⟨#[]⟩ 0 [x] tl el).thn ∧ SAt (young w.heap.size w') q2 (St.mk 6 ⟨#[]⟩ ⟨#[]⟩ 0 [x] tl el).els ∧ Svg g w w' ∧ SrcAt g w' t := by
  have HC0 := Lib.hid hC
  have HS0 := Lib.hid hS
  have HLN := Lib.hid hln
  have HLS := Lib.hid hls
  have HK := Lib.hid hk
  have HDD := Lib.hid hD
  have HX := Lib.hid hx
  have HT := Lib.hid ht
  have HE := Lib.hid he
  clear hC hS hln hls hk hD hx ht he
  have E3 := Lib.hid (XAtI.of hgc (D := 3) (d := 3) rfl (by decide))
  have IH := Lib.hid ih
  have HGC := Lib.hid hgc
  have HHL := Lib.hid hhl
  clear ih hgc hhl
  subst hk2
  go_enter Tryz.func56, Tryz.ntmps56
  go_upto_region 1 with (fail)
  obtain ⟨n0, n1, n2⟩ := new2 w (scA p1 c1 p2 c2 p3 c3 c) zeroS 61 52
  generalize (w.alloc (.cells (scA p1 c1 p2 c2 p3 c3 c) 61)).alloc (.cells zeroS 52) = W1 at n0 n1 n2 ⊢
  generalize hg2 : w.heap.size + 1 = g2 at n2 ⊢
  generalize hg1 : w.heap.size = g1 at n1 ⊢
  have HB := Lib.hid n0
  have HX1 := Lib.hid n1
  have HX2 := Lib.hid n2
  have HS := Lib.hid (HS0.out.bel n0)
  have HC := Lib.hid (HC0.out.svg (n0.svg g) HS0.out.lt)
  have HGS : Hid (g < w.heap.size ∧ g1 ≠ g ∧ g2 ≠ g ∧ g1 ≠ g2 ∧ w.heap.size ≤ g2) := Lib.hid (by have := HS0.out.lt; omega)
  clear n0 n1 n2 hg1 hg2
  have HV := Lib.hid (Svg.refl g W1)
  have HKEEP : Hid (∀ W' : World, Sv2 g g2 W1 W' → SBox g1 p1 c1 p2 c2 p3 c3 c W') := Lib.hid (fun W' hv => SBox.of (hv.stays HX1.out HGS.out.2.1 HGS.out.2.2.2.1))
  have HSZ : Hid (∀ W' : World, Svg g W1 W' → g < W'.heap.size ∧ g2 < W'.heap.size ∧ w.heap.size ≤ W'.heap.size) := Lib.hid (fun W' hv => by have h1 := hv.size; have h2 := lt_of_heap HX2.out; have h3 := HB.out.size; have h4 := HGS.out.1; omega)
  have HGL : Hid (g < W1.heap.size) := Lib.hid (HSZ.out _ (Svg.refl g W1)).1
  obtain ⟨d0, d1, d2, d3, d4⟩ := HKEEP.out _ (HV.out.two g2)
  go_wp2_with fail
  clear d0 d1 d2 d3 d4
  have hb5 := (Bel.refl W1).alloc #[.string ⟨#[120]⟩, .string ⟨#[121]⟩, .string ⟨#[122]⟩] 9
  have hx5 := heap_alloc_new W1 (.cells #[.string ⟨#[120]⟩, .string ⟨#[121]⟩, .string ⟨#[122]⟩] 9)
  have hg5 : W1.heap.size ≠ g := by have := HS.out.lt; omega
  generalize W1.alloc (.cells #[.string ⟨#[120]⟩, .string ⟨#[121]⟩, .string ⟨#[122]⟩] 9) = W5 at hb5 hx5 ⊢
  generalize W1.heap.size = g5 at hx5 hg5 ⊢
  refine (scname_lit HLN.out W5 (p := some ⟨g5, 0, none⟩) (n := 3) rfl (lit_nm (l := xyz) (mask_heap hx5 hg5) xyz_size) (by decide) (HS.out.bel hb5)).mono ?_
  rintro e w6 ⟨rfl, hv, hs⟩
  have HS := Lib.hid hs
  have HV := Lib.hid ((HV.out.trans (hb5.svg g)).trans hv)
  clear hb5 hx5 hs hv
  go_wp2_with fail
  refine (next_lit HK.out (by decide) _ HS.out).mono ?_
  rintro e w2 ⟨rfl, hv, hs⟩
  have HS := Lib.hid hs
  have HV := Lib.hid (HV.out.trans hv)
  clear hv hs
  go_upto_region 19 with (fail)
  refine wp_region_held_drew (S := (SBox g1 p1 c1 p2 c2 p3 c3 c)) (by kernel_rfl) (HKEEP.out _ (Svg.two (HV.out.trans ((Bel.refl w2).drew.svg g)) g2)) (fun hS0 => ?_)
  refine takeD 139 (i := 0) (v := ?v61) rfl rfl (by kernel_rfl) (by kernel_rfl) (by kernel_rfl) (fun _ _ _ h => h) (by kernel_rfl) ?hy61 hS0 ?rest61
  case hy61 => (intro w0 hSw; obtain ⟨s0, s1, s2, s3, s4⟩ := hSw; first | (go_simp; done) | (go_simp; with_reducible rfl))
  simp only [List.setIfInBounds_toArray, List.set_cons_zero, List.set_cons_succ]
  refine takeD 140 (i := 1) (v := ?v62) rfl rfl (by kernel_rfl) (by kernel_rfl) (by kernel_rfl) (fun _ _ _ h => h) (by kernel_rfl) ?hy62 hS0 ?rest62
  case hy62 => (intro w0 hSw; obtain ⟨s0, s1, s2, s3, s4⟩ := hSw; first | (go_simp; done) | (go_simp; with_reducible rfl))
  simp only [List.setIfInBounds_toArray, List.set_cons_zero, List.set_cons_succ]
  refine takeD 143 (i := 4) (v := ?v63) rfl rfl (by kernel_rfl) (by kernel_rfl) (by kernel_rfl) (fun _ _ _ h => h) (by kernel_rfl) ?hy63 hS0 ?rest63
  case hy63 => (intro w0 hSw; obtain ⟨s0, s1, s2, s3, s4⟩ := hSw; first | (go_simp; done) | (go_simp; with_reducible rfl))
  simp only [List.setIfInBounds_toArray, List.set_cons_zero, List.set_cons_succ]
  refine takeD 144 (i := 5) (v := ?v64) rfl rfl (by kernel_rfl) (by kernel_rfl) (by kernel_rfl) (fun _ _ _ h => h) (by kernel_rfl) ?hy64 hS0 ?rest64
  case hy64 => (intro w0 hSw; obtain ⟨s0, s1, s2, s3, s4⟩ := hSw; first | (go_simp; done) | (go_simp; with_reducible rfl))
  simp only [List.setIfInBounds_toArray, List.set_cons_zero, List.set_cons_succ]
  refine takeD 145 (i := 6) (v := ?v65) rfl rfl (by kernel_rfl) (by kernel_rfl) (by kernel_rfl) (fun _ _ _ h => h) (by kernel_rfl) ?hy65 hS0 ?rest65
  case hy65 => (intro w0 hSw; obtain ⟨s0, s1, s2, s3, s4⟩ := hSw; first | (go_simp; done) | (go_simp; with_reducible rfl))
  simp only [List.setIfInBounds_toArray, List.set_cons_zero, List.set_cons_succ]
  refine takeD 146 (i := 7) (v := ?v66) rfl rfl (by kernel_rfl) (by kernel_rfl) (by kernel_rfl) (fun _ _ _ h => h) (by kernel_rfl) ?hy66 hS0 ?rest66
  case hy66 => (intro w0 hSw; obtain ⟨s0, s1, s2, s3, s4⟩ := hSw; first | (go_simp; done) | (go_simp; with_reducible rfl))
  simp only [List.setIfInBounds_toArray, List.set_cons_zero, List.set_cons_succ]
  refine takeD 148 (i := 9) (v := ?v67) rfl rfl (by kernel_rfl) (by kernel_rfl) (by kernel_rfl) (fun _ _ _ h => h) (by kernel_rfl) ?hy67 hS0 ?rest67
  case hy67 => (intro w0 hSw; obtain ⟨s0, s1, s2, s3, s4⟩ := hSw; first | (go_simp; done) | (go_simp; with_reducible rfl))
  simp only [List.setIfInBounds_toArray, List.set_cons_zero, List.set_cons_succ]
  refine takeD 149 (i := 10) (v := ?v68) rfl rfl (by kernel_rfl) (by kernel_rfl) (by kernel_rfl) (fun _ _ _ h => h) (by kernel_rfl) ?hy68 hS0 ?rest68
  case hy68 => (intro w0 hSw; obtain ⟨s0, s1, s2, s3, s4⟩ := hSw; first | (go_simp; done) | (go_simp; with_reducible rfl))
  simp only [List.setIfInBounds_toArray, List.set_cons_zero, List.set_cons_succ]
  refine takeD 150 (i := 11) (v := ?v69) rfl rfl (by kernel_rfl) (by kernel_rfl) (by kernel_rfl) (fun _ _ _ h => h) (by kernel_rfl) ?hy69 hS0 ?rest69
  case hy69 => (intro w0 hSw; obtain ⟨s0, s1, s2, s3, s4⟩ := hSw; first | (go_simp; done) | (go_simp; with_reducible rfl))
  simp only [List.setIfInBounds_toArray, List.set_cons_zero, List.set_cons_succ]
  refine takeD 151 (i := 12) (v := ?v70) rfl rfl (by kernel_rfl) (by kernel_rfl) (by kernel_rfl) (fun _ _ _ h => h) (by kernel_rfl) ?hy70 hS0 ?rest70
  case hy70 => (intro w0 hSw; obtain ⟨s0, s1, s2, s3, s4⟩ := hSw; first | (go_simp; done) | (go_simp; with_reducible rfl))
  simp only [List.setIfInBounds_toArray, List.set_cons_zero, List.set_cons_succ]
  refine onlyD 141 (i := 2) rfl rfl (by kernel_rfl) (by kernel_rfl) (fun K hK => ?_)
  go_simp
  go_at_call 23
  refine (E3.out g s0 s1 x _ p1 p2 p3 c1 c2 c3 HX.out (HC.out.svg (HV.out.trans ((Bel.refl w2).drew.svg g)) HGL.out) (HS.out.bel (Bel.refl _).drew)).mono ?_
  rintro e w11 ⟨q1, n1, rfl, wf1, he1, hv1, hs1⟩
  have hS1 := HKEEP.out _ (Svg.two ((HV.out.trans ((Bel.refl w2).drew.svg g)).trans hv1) g2)
  refine hK.out _ _ hS1 (fun _ => ?_)
  clear hK K
  simp only [List.setIfInBounds_toArray, List.set_cons_zero, List.set_cons_succ]
  refine twoE 142 147 (i1 := 3) (i2 := 8) rfl rfl rfl rfl (by kernel_rfl) (by kernel_rfl) (by kernel_rfl) (fun K hK => ?_) (fun K hK => ?_)
  · go_simp
    refine hK.out _ _ (HKEEP.out _ (Svg.two (((HV.out.trans ((Bel.refl w2).drew.svg g)).trans hv1).trans (((Bel.refl _).alloc _ _).svg g)) g2)) (fun hM8 => ?_)
    clear hK K
    simp only [List.setIfInBounds_toArray, List.set_cons_zero, List.set_cons_succ]
    refine onlyD 147 (i := 8) rfl rfl (by kernel_rfl) (by kernel_rfl) (fun K hK => ?_)
    go_simp
    go_at_call 24
    refine (IH.out c HGC.out HHL.out g s1 s2 tl _ p1 p2 p3 c1 c2 c3 HT.out (HC.out.svg (((HV.out.trans ((Bel.refl w2).drew.svg g)).trans hv1).trans (((Bel.refl _).alloc _ _).svg g)) HGL.out) (hs1.bel ((Bel.refl _).alloc _ _))).mono ?_
    rintro e w12 ⟨q2, n2, rfl, hl2, he2, hv2, hs2⟩
    have hS2 := HKEEP.out _ (Svg.two ((((HV.out.trans ((Bel.refl w2).drew.svg g)).trans hv1).trans (((Bel.refl _).alloc _ _).svg g)).trans hv2) g2)
    refine hK.out _ _ hS2 (fun _ => ?_)
    clear hK K
    simp only [List.setIfInBounds_toArray, List.set_cons_zero, List.set_cons_succ]
    refine onlyD 152 (i := 13) rfl rfl (by kernel_rfl) (by kernel_rfl) (fun K hK => ?_)
    go_simp
    go_at_call 24
    refine (IH.out c HGC.out HHL.out g s2 t el _ p1 p2 p3 c1 c2 c3 HE.out (HC.out.svg ((((HV.out.trans ((Bel.refl w2).drew.svg g)).trans hv1).trans (((Bel.refl _).alloc _ _).svg g)).trans hv2) HGL.out) hs2).mono ?_
    rintro e w13 ⟨q3, n3, rfl, hl3, he3, hv3, hs3⟩
    have hS3 := HKEEP.out _ (Svg.two (((((HV.out.trans ((Bel.refl w2).drew.svg g)).trans hv1).trans (((Bel.refl _).alloc _ _).svg g)).trans hv2).trans hv3) g2)
    refine hK.out _ _ hS3 (fun _ => ?_)
    clear hK K
    simp only [List.setIfInBounds_toArray, List.set_cons_zero, List.set_cons_succ]
    refine takeD 153 (i := 14) (v := ?v71) rfl rfl (by kernel_rfl) (by kernel_rfl) (by kernel_rfl) (fun _ _ _ h => h) (by kernel_rfl) ?hy71 hS3 ?rest71
    case hy71 => (intro w0 hSw; obtain ⟨s0, s1, s2, s3, s4⟩ := hSw; first | (go_simp; done) | (go_simp; with_reducible rfl))
    simp only [List.setIfInBounds_toArray, List.set_cons_zero, List.set_cons_succ]
    refine onlyN (i := 15) rfl rfl (by kernel_rfl) (by kernel_rfl) (fun K hK => ?_)
    refine wp_store_row 52 (.tmp 6) (.tmp 153) rfl g2 #[.int .i64 6, .string ⟨#[]⟩, .string ⟨#[]⟩, .int .i64 0, .slice (some ⟨w11.heap.size, 0, none⟩) 1 1, .slice q2 tl.length n2, .slice q3 el.length n3] (by kernel_rfl) (by kernel_rfl) 52 zeroS (Svg.stays (((((HV.out.trans ((Bel.refl w2).drew.svg g)).trans hv1).trans (((Bel.refl _).alloc _ _).svg g)).trans hv2).trans hv3) HX2.out HGS.out.2.2.1) (by kernel_rfl) (by kernel_rfl) (by kernel_rfl) ?_
    refine hK.out undef _ (HKEEP.out _ ((Svg.two (((((HV.out.trans ((Bel.refl w2).drew.svg g)).trans hv1).trans (((Bel.refl _).alloc _ _).svg g)).trans hv2).trans hv3) g2).trans ((setRow_svg g2 _ _).two' g))) (fun hSF => ?_)
    clear hK K
    refine wpAnyH_done (by kernel_rfl) ?_ _
    clear hSF
    go_wp2_with fail
    have hdr := (Bel.refl w2).drew.size
    have hz0 := hv1.size
    have hz1 := hv2.size
    have hz2 := hv3.size
    have hza := ((Bel.refl w11).alloc #[.int .i64 x.kind, .int .i64 x.op, .int .i64 x.n, .string x.name, .slice q1 x.args.length n1] 40).size
    obtain ⟨y02, y03, y04⟩ := HSZ.out w11 (((HV.out.trans ((Bel.refl w2).drew.svg g)).trans hv1))
    obtain ⟨z02, z03, z04⟩ := HSZ.out w2 HV.out
    have hnew := heap_alloc_new w11 (.cells #[.int .i64 x.kind, .int .i64 x.op, .int .i64 x.n, .string x.name, .slice q1 x.args.length n1] 40)
    have hgs := HGS.out
    have HV2 := Lib.hid ((((((HV.out.trans ((Bel.refl w2).drew.svg g)).trans hv1).trans (((Bel.refl w11).alloc #[.int .i64 x.kind, .int .i64 x.op, .int .i64 x.n, .string x.name, .slice q1 x.args.length n1] 40).svg g)).trans hv2).trans hv3))
    have hx9 := HV2.out.stays HX2.out HGS.out.2.2.1
    refine st_fin (x := St.mk 6 ⟨#[]⟩ ⟨#[]⟩ 0 [x] tl el) (q := some ⟨w11.heap.size, 0, none⟩) (cq := 1) (q1 := q2) (n1 := n2) (q2 := q3) (n2 := n3) (g2 := g2) (w6 := w13) rfl rfl (setRow_heap _ g2 zeroS _ _ _ hx9) (Svg.of HB.out HV2.out) (setRow_svg g2 _ _) HGS.out.2.2.2.2 (by omega) hs3 ?_ ?_ ?_ ?_
    · exact wfS_mk ⟨by decide, by decide⟩ ⟨by decide, by decide⟩ (by decide) (by decide) (Nat.le_of_ble_eq_true rfl) hl2 hl3
    · exact EAt.one (e := x) (young_heap (Sv2.stays (((hv2.two g2).trans (hv3.two g2)).trans ((setRow_svg g2 _ _).two' g)) hnew (by omega) (by omega)) (by omega)) wf1 (keepE2 he1 (((((((Bel.refl w11).alloc #[.int .i64 x.kind, .int .i64 x.op, .int .i64 x.n, .string x.name, .slice q1 x.args.length n1] 40).svg g).two g2).trans (hv2.two g2)).trans (hv3.two g2)).trans ((setRow_svg g2 _ _).two' g)) (by omega) (by omega) (by omega))
    · exact keepS2 he2 ((hv3.two g2).trans ((setRow_svg g2 _ _).two' g)) (by omega) (by omega) (by omega)
    · exact keepS2 he3 ((setRow_svg g2 _ _).two' g) (by omega) (by omega) (by omega)
  · go_simp
    go_at_call 24
    refine (IH.out c HGC.out HHL.out g s1 s2 tl _ p1 p2 p3 c1 c2 c3 HT.out (HC.out.svg ((HV.out.trans ((Bel.refl w2).drew.svg g)).trans hv1) HGL.out) hs1).mono ?_
    rintro e w12 ⟨q2, n2, rfl, hl2, he2, hv2, hs2⟩
    have hS2 := HKEEP.out _ (Svg.two (((HV.out.trans ((Bel.refl w2).drew.svg g)).trans hv1).trans hv2) g2)
    refine hK.out _ _ hS2 (fun _ => ?_)
    clear hK K
    simp only [List.setIfInBounds_toArray, List.set_cons_zero, List.set_cons_succ]
    refine twoE 142 152 (i1 := 3) (i2 := 13) rfl rfl rfl rfl (by kernel_rfl) (by kernel_rfl) (by kernel_rfl) (fun K hK => ?_) (fun K hK => ?_)
    · go_simp
      refine hK.out _ _ (HKEEP.out _ (Svg.two ((((HV.out.trans ((Bel.refl w2).drew.svg g)).trans hv1).trans hv2).trans (((Bel.refl _).alloc _ _).svg g)) g2)) (fun hM9 => ?_)
      clear hK K
      simp only [List.setIfInBounds_toArray, List.set_cons_zero, List.set_cons_succ]
      refine onlyD 152 (i := 13) rfl rfl (by kernel_rfl) (by kernel_rfl) (fun K hK => ?_)
      go_simp
      go_at_call 24
      refine (IH.out c HGC.out HHL.out g s2 t el _ p1 p2 p3 c1 c2 c3 HE.out (HC.out.svg ((((HV.out.trans ((Bel.refl w2).drew.svg g)).trans hv1).trans hv2).trans (((Bel.refl _).alloc _ _).svg g)) HGL.out) (hs2.bel ((Bel.refl _).alloc _ _))).mono ?_
      rintro e w13 ⟨q3, n3, rfl, hl3, he3, hv3, hs3⟩
      have hS3 := HKEEP.out _ (Svg.two (((((HV.out.trans ((Bel.refl w2).drew.svg g)).trans hv1).trans hv2).trans (((Bel.refl _).alloc _ _).svg g)).trans hv3) g2)
      refine hK.out _ _ hS3 (fun _ => ?_)
      clear hK K
      simp only [List.setIfInBounds_toArray, List.set_cons_zero, List.set_cons_succ]
      refine takeD 153 (i := 14) (v := ?v72) rfl rfl (by kernel_rfl) (by kernel_rfl) (by kernel_rfl) (fun _ _ _ h => h) (by kernel_rfl) ?hy72 hS3 ?rest72
      case hy72 => (intro w0 hSw; obtain ⟨s0, s1, s2, s3, s4⟩ := hSw; first | (go_simp; done) | (go_simp; with_reducible rfl))
      simp only [List.setIfInBounds_toArray, List.set_cons_zero, List.set_cons_succ]
      refine onlyN (i := 15) rfl rfl (by kernel_rfl) (by kernel_rfl) (fun K hK => ?_)
      refine wp_store_row 52 (.tmp 6) (.tmp 153) rfl g2 #[.int .i64 6, .string ⟨#[]⟩, .string ⟨#[]⟩, .int .i64 0, .slice (some ⟨w12.heap.size, 0, none⟩) 1 1, .slice q2 tl.length n2, .slice q3 el.length n3] (by kernel_rfl) (by kernel_rfl) 52 zeroS (Svg.stays (((((HV.out.trans ((Bel.refl w2).drew.svg g)).trans hv1).trans hv2).trans (((Bel.refl _).alloc _ _).svg g)).trans hv3) HX2.out HGS.out.2.2.1) (by kernel_rfl) (by kernel_rfl) (by kernel_rfl) ?_
      refine hK.out undef _ (HKEEP.out _ ((Svg.two (((((HV.out.trans ((Bel.refl w2).drew.svg g)).trans hv1).trans hv2).trans (((Bel.refl _).alloc _ _).svg g)).trans hv3) g2).trans ((setRow_svg g2 _ _).two' g))) (fun hSF => ?_)
      clear hK K
      refine wpAnyH_done (by kernel_rfl) ?_ _
      clear hSF
      go_wp2_with fail
      have hdr := (Bel.refl w2).drew.size
      have hz0 := hv1.size
      have hz1 := hv2.size
      have hz2 := hv3.size
      have hza := ((Bel.refl w12).alloc #[.int .i64 x.kind, .int .i64 x.op, .int .i64 x.n, .string x.name, .slice q1 x.args.length n1] 40).size
      obtain ⟨y02, y03, y04⟩ := HSZ.out w11 (((HV.out.trans ((Bel.refl w2).drew.svg g)).trans hv1))
      obtain ⟨z02, z03, z04⟩ := HSZ.out w2 HV.out
      have hnew := heap_alloc_new w12 (.cells #[.int .i64 x.kind, .int .i64 x.op, .int .i64 x.n, .string x.name, .slice q1 x.args.length n1] 40)
      have hgs := HGS.out
      have HV2 := Lib.hid ((((((HV.out.trans ((Bel.refl w2).drew.svg g)).trans hv1).trans hv2).trans (((Bel.refl w12).alloc #[.int .i64 x.kind, .int .i64 x.op, .int .i64 x.n, .string x.name, .slice q1 x.args.length n1] 40).svg g)).trans hv3))
      have hx9 := HV2.out.stays HX2.out HGS.out.2.2.1
      refine st_fin (x := St.mk 6 ⟨#[]⟩ ⟨#[]⟩ 0 [x] tl el) (q := some ⟨w12.heap.size, 0, none⟩) (cq := 1) (q1 := q2) (n1 := n2) (q2 := q3) (n2 := n3) (g2 := g2) (w6 := w13) rfl rfl (setRow_heap _ g2 zeroS _ _ _ hx9) (Svg.of HB.out HV2.out) (setRow_svg g2 _ _) HGS.out.2.2.2.2 (by omega) hs3 ?_ ?_ ?_ ?_
      · exact wfS_mk ⟨by decide, by decide⟩ ⟨by decide, by decide⟩ (by decide) (by decide) (Nat.le_of_ble_eq_true rfl) hl2 hl3
      · exact EAt.one (e := x) (young_heap (Sv2.stays ((hv3.two g2).trans ((setRow_svg g2 _ _).two' g)) hnew (by omega) (by omega)) (by omega)) wf1 (keepE2 he1 ((((hv2.two g2).trans ((((Bel.refl w12).alloc #[.int .i64 x.kind, .int .i64 x.op, .int .i64 x.n, .string x.name, .slice q1 x.args.length n1] 40).svg g).two g2)).trans (hv3.two g2)).trans ((setRow_svg g2 _ _).two' g)) (by omega) (by omega) (by omega))
      · exact keepS2 he2 ((((((Bel.refl w12).alloc #[.int .i64 x.kind, .int .i64 x.op, .int .i64 x.n, .string x.name, .slice q1 x.args.length n1] 40).svg g).two g2).trans (hv3.two g2)).trans ((setRow_svg g2 _ _).two' g)) (by omega) (by omega) (by omega)
      · exact keepS2 he3 ((setRow_svg g2 _ _).two' g) (by omega) (by omega) (by omega)
    · go_simp
      go_at_call 24
      refine (IH.out c HGC.out HHL.out g s2 t el _ p1 p2 p3 c1 c2 c3 HE.out (HC.out.svg (((HV.out.trans ((Bel.refl w2).drew.svg g)).trans hv1).trans hv2) HGL.out) hs2).mono ?_
      rintro e w13 ⟨q3, n3, rfl, hl3, he3, hv3, hs3⟩
      have hS3 := HKEEP.out _ (Svg.two ((((HV.out.trans ((Bel.refl w2).drew.svg g)).trans hv1).trans hv2).trans hv3) g2)
      refine hK.out _ _ hS3 (fun _ => ?_)
      clear hK K
      simp only [List.setIfInBounds_toArray, List.set_cons_zero, List.set_cons_succ]
      refine onlyD 142 (i := 3) rfl rfl (by kernel_rfl) (by kernel_rfl) (fun K hK => ?_)
      go_simp
      refine hK.out _ _ (HKEEP.out _ (Svg.two (((((HV.out.trans ((Bel.refl w2).drew.svg g)).trans hv1).trans hv2).trans hv3).trans (((Bel.refl _).alloc _ _).svg g)) g2)) (fun hM10 => ?_)
      clear hK K
      simp only [List.setIfInBounds_toArray, List.set_cons_zero, List.set_cons_succ]
      refine takeD 153 (i := 14) (v := ?v73) rfl rfl (by kernel_rfl) (by kernel_rfl) (by kernel_rfl) (fun _ _ _ h => h) (by kernel_rfl) ?hy73 hM10 ?rest73
      case hy73 => (intro w0 hSw; obtain ⟨s0, s1, s2, s3, s4⟩ := hSw; first | (go_simp; done) | (go_simp; with_reducible rfl))
      simp only [List.setIfInBounds_toArray, List.set_cons_zero, List.set_cons_succ]
      refine onlyN (i := 15) rfl rfl (by kernel_rfl) (by kernel_rfl) (fun K hK => ?_)
      refine wp_store_row 52 (.tmp 6) (.tmp 153) rfl g2 #[.int .i64 6, .string ⟨#[]⟩, .string ⟨#[]⟩, .int .i64 0, .slice (some ⟨w13.heap.size, 0, none⟩) 1 1, .slice q2 tl.length n2, .slice q3 el.length n3] (by kernel_rfl) (by kernel_rfl) 52 zeroS (Svg.stays (((((HV.out.trans ((Bel.refl w2).drew.svg g)).trans hv1).trans hv2).trans hv3).trans (((Bel.refl _).alloc _ _).svg g)) HX2.out HGS.out.2.2.1) (by kernel_rfl) (by kernel_rfl) (by kernel_rfl) ?_
      refine hK.out undef _ (HKEEP.out _ ((Svg.two (((((HV.out.trans ((Bel.refl w2).drew.svg g)).trans hv1).trans hv2).trans hv3).trans (((Bel.refl _).alloc _ _).svg g)) g2).trans ((setRow_svg g2 _ _).two' g))) (fun hSF => ?_)
      clear hK K
      refine wpAnyH_done (by kernel_rfl) ?_ _
      clear hSF
      go_wp2_with fail
      have hdr := (Bel.refl w2).drew.size
      have hz0 := hv1.size
      have hz1 := hv2.size
      have hz2 := hv3.size
      have hza := ((Bel.refl w13).alloc #[.int .i64 x.kind, .int .i64 x.op, .int .i64 x.n, .string x.name, .slice q1 x.args.length n1] 40).size
      obtain ⟨y02, y03, y04⟩ := HSZ.out w11 (((HV.out.trans ((Bel.refl w2).drew.svg g)).trans hv1))
      obtain ⟨z02, z03, z04⟩ := HSZ.out w2 HV.out
      have hnew := heap_alloc_new w13 (.cells #[.int .i64 x.kind, .int .i64 x.op, .int .i64 x.n, .string x.name, .slice q1 x.args.length n1] 40)
      have hgs := HGS.out
      have HV2 := Lib.hid ((((((HV.out.trans ((Bel.refl w2).drew.svg g)).trans hv1).trans hv2).trans hv3).trans (((Bel.refl w13).alloc #[.int .i64 x.kind, .int .i64 x.op, .int .i64 x.n, .string x.name, .slice q1 x.args.length n1] 40).svg g)))
      have hx9 := HV2.out.stays HX2.out HGS.out.2.2.1
      refine st_fin (x := St.mk 6 ⟨#[]⟩ ⟨#[]⟩ 0 [x] tl el) (q := some ⟨w13.heap.size, 0, none⟩) (cq := 1) (q1 := q2) (n1 := n2) (q2 := q3) (n2 := n3) (g2 := g2) (w6 := (w13.alloc (.cells #[.int .i64 x.kind, .int .i64 x.op, .int .i64 x.n, .string x.name, .slice q1 x.args.length n1] 40))) rfl rfl (setRow_heap _ g2 zeroS _ _ _ hx9) (Svg.of HB.out HV2.out) (setRow_svg g2 _ _) HGS.out.2.2.2.2 (by omega) (hs3.bel ((Bel.refl w13).alloc #[.int .i64 x.kind, .int .i64 x.op, .int .i64 x.n, .string x.name, .slice q1 x.args.length n1] 40)) ?_ ?_ ?_ ?_
      · exact wfS_mk ⟨by decide, by decide⟩ ⟨by decide, by decide⟩ (by decide) (by decide) (Nat.le_of_ble_eq_true rfl) hl2 hl3
      · exact EAt.one (e := x) (young_heap (Sv2.stays ((setRow_svg g2 _ _).two' g) hnew (by omega) (by omega)) (by omega)) wf1 (keepE2 he1 ((((hv2.two g2).trans (hv3.two g2)).trans ((((Bel.refl w13).alloc #[.int .i64 x.kind, .int .i64 x.op, .int .i64 x.n, .string x.name, .slice q1 x.args.length n1] 40).svg g).two g2)).trans ((setRow_svg g2 _ _).two' g)) (by omega) (by omega) (by omega))
      · exact keepS2 he2 (((hv3.two g2).trans ((((Bel.refl w13).alloc #[.int .i64 x.kind, .int .i64 x.op, .int .i64 x.n, .string x.name, .slice q1 x.args.length n1] 40).svg g).two g2)).trans ((setRow_svg g2 _ _).two' g)) (by omega) (by omega) (by omega)
      · exact keepS2 he3 (((((Bel.refl w13).alloc #[.int .i64 x.kind, .int .i64 x.op, .int .i64 x.n, .string x.name, .slice q1 x.args.length n1] 40).svg g).two g2).trans ((setRow_svg g2 _ _).two' g)) (by omega) (by omega) (by omega)
set_option maxRecDepth 100000 in
set_option maxHeartbeats 8000000 in
theorem st_rep (c : Sco) (hgc : GoodC c) (D : Int) (hD : 0 ≤ D ∧ D ≤ 100) (g : Nat) (s sl s0 t : List Int) (k : Int) (ln : ByteArray) (d : Nat) (D1 : Int) (s1 : List Int) (n : Int) (tl : List St) (w : World) (p1 p2 p3 : Option Addr) (c1 c2 c3 : Nat) (hln : nameV c xyz s = (ln, sl)) (hls : ln.size ≤ 20) (hk : nx sl 12 = (k, s0)) (hk2 : k = 10) (hD0 : 0 < D) (hD1 : IntKind.i64.wrap (D - 1) = D1) (hhl : c.held.length + d ≤ 900) (ih : BAtI D1 d) (hn : nx s0 5 = (n, s1)) (hnb : 0 ≤ n ∧ n < 5) (ht : bodyV d c s1 = (tl, t)) (hC : ScAt g w p1 p2 p3 c) (hS : SrcAt g w s) :
    Calls Tryz.prog 56 #[scV p1 c1 p2 c2 p3 c3 c, .pointer (some ⟨g, 0, none⟩), .int .i64 D] w fun e w' => ∃ q cq q1 n1 q2 n2, e = .returned (stV q cq q1 n1 q2 n2 (St.mk 7 ⟨#[]⟩ ⟨#[]⟩ n [] tl [])) ∧ WfS (St.mk 7 ⟨#[]⟩ ⟨#[]⟩ n [] tl []) ∧ EAt (young w.heap.size w') q (St.mk 7 ⟨#[]⟩ ⟨#[]⟩ n [] tl []).args ∧ SAt (young w.heap.size w') q1 (St.mk 7 ⟨#[]⟩ ⟨#[]⟩ n [] tl []).thn ∧ SAt (young w.heap.size w') q2 (St.mk 7 ⟨#[]⟩ ⟨#[]⟩ n [] tl []).els ∧ Svg g w w' ∧ SrcAt g w' t := by
  have HC0 := Lib.hid hC
  have HS0 := Lib.hid hS
  have HLN := Lib.hid hln
  have HLS := Lib.hid hls
  have HK := Lib.hid hk
  have HDD := Lib.hid hD
  have HN := Lib.hid hn
  have HNB := Lib.hid hnb
  have HT := Lib.hid ht
  clear hC hS hln hls hk hD hn hnb ht
  have IH := Lib.hid ih
  have HGC := Lib.hid hgc
  have HHL := Lib.hid hhl
  clear ih hgc hhl
  subst hk2
  go_enter Tryz.func56, Tryz.ntmps56
  go_upto_region 1 with (fail)
  obtain ⟨n0, n1, n2⟩ := new2 w (scA p1 c1 p2 c2 p3 c3 c) zeroS 61 52
  generalize (w.alloc (.cells (scA p1 c1 p2 c2 p3 c3 c) 61)).alloc (.cells zeroS 52) = W1 at n0 n1 n2 ⊢
  generalize hg2 : w.heap.size + 1 = g2 at n2 ⊢
  generalize hg1 : w.heap.size = g1 at n1 ⊢
  have HB := Lib.hid n0
  have HX1 := Lib.hid n1
  have HX2 := Lib.hid n2
  have HS := Lib.hid (HS0.out.bel n0)
  have HC := Lib.hid (HC0.out.svg (n0.svg g) HS0.out.lt)
  have HGS : Hid (g < w.heap.size ∧ g1 ≠ g ∧ g2 ≠ g ∧ g1 ≠ g2 ∧ w.heap.size ≤ g2) := Lib.hid (by have := HS0.out.lt; omega)
  clear n0 n1 n2 hg1 hg2
  have HV := Lib.hid (Svg.refl g W1)
  have HKEEP : Hid (∀ W' : World, Sv2 g g2 W1 W' → SBox g1 p1 c1 p2 c2 p3 c3 c W') := Lib.hid (fun W' hv => SBox.of (hv.stays HX1.out HGS.out.2.1 HGS.out.2.2.2.1))
  have HSZ : Hid (∀ W' : World, Svg g W1 W' → g < W'.heap.size ∧ g2 < W'.heap.size ∧ w.heap.size ≤ W'.heap.size) := Lib.hid (fun W' hv => by have h1 := hv.size; have h2 := lt_of_heap HX2.out; have h3 := HB.out.size; have h4 := HGS.out.1; omega)
  have HGL : Hid (g < W1.heap.size) := Lib.hid (HSZ.out _ (Svg.refl g W1)).1
  obtain ⟨d0, d1, d2, d3, d4⟩ := HKEEP.out _ (HV.out.two g2)
  go_wp2_with fail
  clear d0 d1 d2 d3 d4
  have hb5 := (Bel.refl W1).alloc #[.string ⟨#[120]⟩, .string ⟨#[121]⟩, .string ⟨#[122]⟩] 9
  have hx5 := heap_alloc_new W1 (.cells #[.string ⟨#[120]⟩, .string ⟨#[121]⟩, .string ⟨#[122]⟩] 9)
  have hg5 : W1.heap.size ≠ g := by have := HS.out.lt; omega
  generalize W1.alloc (.cells #[.string ⟨#[120]⟩, .string ⟨#[121]⟩, .string ⟨#[122]⟩] 9) = W5 at hb5 hx5 ⊢
  generalize W1.heap.size = g5 at hx5 hg5 ⊢
  refine (scname_lit HLN.out W5 (p := some ⟨g5, 0, none⟩) (n := 3) rfl (lit_nm (l := xyz) (mask_heap hx5 hg5) xyz_size) (by decide) (HS.out.bel hb5)).mono ?_
  rintro e w6 ⟨rfl, hv, hs⟩
  have HS := Lib.hid hs
  have HV := Lib.hid ((HV.out.trans (hb5.svg g)).trans hv)
  clear hb5 hx5 hs hv
  go_wp2_with fail
  refine (next_lit HK.out (by decide) _ HS.out).mono ?_
  rintro e w2 ⟨rfl, hv, hs⟩
  have HS := Lib.hid hs
  have HV := Lib.hid (HV.out.trans hv)
  clear hv hs
  go_upto_region 21 with (fail)
  refine wp_region_held_drew (S := (SBox g1 p1 c1 p2 c2 p3 c3 c)) (by kernel_rfl) (HKEEP.out _ (Svg.two (HV.out.trans ((Bel.refl w2).drew.svg g)) g2)) (fun hS0 => ?_)
  refine takeD 161 (i := 0) (v := ?v74) rfl rfl (by kernel_rfl) (by kernel_rfl) (by kernel_rfl) (fun _ _ _ h => h) (by kernel_rfl) ?hy74 hS0 ?rest74
  case hy74 => (intro w0 hSw; obtain ⟨s0, s1, s2, s3, s4⟩ := hSw; first | (go_simp; done) | (go_simp; with_reducible rfl))
  simp only [List.setIfInBounds_toArray, List.set_cons_zero, List.set_cons_succ]
  refine takeD 163 (i := 2) (v := ?v75) rfl rfl (by kernel_rfl) (by kernel_rfl) (by kernel_rfl) (fun _ _ _ h => h) (by kernel_rfl) ?hy75 hS0 ?rest75
  case hy75 => (intro w0 hSw; obtain ⟨s0, s1, s2, s3, s4⟩ := hSw; first | (go_simp; done) | (go_simp; with_reducible rfl))
  simp only [List.setIfInBounds_toArray, List.set_cons_zero, List.set_cons_succ]
  refine takeD 164 (i := 3) (v := ?v76) rfl rfl (by kernel_rfl) (by kernel_rfl) (by kernel_rfl) (fun _ _ _ h => h) (by kernel_rfl) ?hy76 hS0 ?rest76
  case hy76 => (intro w0 hSw; obtain ⟨s0, s1, s2, s3, s4⟩ := hSw; first | (go_simp; done) | (go_simp; with_reducible rfl))
  simp only [List.setIfInBounds_toArray, List.set_cons_zero, List.set_cons_succ]
  refine takeD 165 (i := 4) (v := ?v77) rfl rfl (by kernel_rfl) (by kernel_rfl) (by kernel_rfl) (fun _ _ _ h => h) (by kernel_rfl) ?hy77 hS0 ?rest77
  case hy77 => (intro w0 hSw; obtain ⟨s0, s1, s2, s3, s4⟩ := hSw; first | (go_simp; done) | (go_simp; with_reducible rfl))
  simp only [List.setIfInBounds_toArray, List.set_cons_zero, List.set_cons_succ]
  refine takeD 166 (i := 5) (v := ?v78) rfl rfl (by kernel_rfl) (by kernel_rfl) (by kernel_rfl) (fun _ _ _ h => h) (by kernel_rfl) ?hy78 hS0 ?rest78
  case hy78 => (intro w0 hSw; obtain ⟨s0, s1, s2, s3, s4⟩ := hSw; first | (go_simp; done) | (go_simp; with_reducible rfl))
  simp only [List.setIfInBounds_toArray, List.set_cons_zero, List.set_cons_succ]
  refine onlyD 162 (i := 1) rfl rfl (by kernel_rfl) (by kernel_rfl) (fun K hK => ?_)
  go_simp
  go_at_call 21
  refine (next_lit HN.out (by decide) _ (HS.out.bel (Bel.refl _).drew)).mono ?_
  rintro e w11 ⟨rfl, hv1, hs1⟩
  have hS1 := HKEEP.out _ (Svg.two ((HV.out.trans ((Bel.refl w2).drew.svg g)).trans hv1) g2)
  refine hK.out _ _ hS1 (fun _ => ?_)
  clear hK K
  simp only [List.setIfInBounds_toArray, List.set_cons_zero, List.set_cons_succ]
  refine onlyD 167 (i := 6) rfl rfl (by kernel_rfl) (by kernel_rfl) (fun K hK => ?_)
  go_simp
  go_at_call 24
  refine (IH.out c HGC.out HHL.out g s1 t tl _ p1 p2 p3 c1 c2 c3 HT.out (HC.out.svg ((HV.out.trans ((Bel.refl w2).drew.svg g)).trans hv1) HGL.out) hs1).mono ?_
  rintro e w12 ⟨q2, n2, rfl, hl2, he2, hv2, hs2⟩
  have hS2 := HKEEP.out _ (Svg.two (((HV.out.trans ((Bel.refl w2).drew.svg g)).trans hv1).trans hv2) g2)
  refine hK.out _ _ hS2 (fun _ => ?_)
  clear hK K
  simp only [List.setIfInBounds_toArray, List.set_cons_zero, List.set_cons_succ]
  refine takeD 168 (i := 7) (v := ?v79) rfl rfl (by kernel_rfl) (by kernel_rfl) (by kernel_rfl) (fun _ _ _ h => h) (by kernel_rfl) ?hy79 hS2 ?rest79
  case hy79 => (intro w0 hSw; obtain ⟨s0, s1, s2, s3, s4⟩ := hSw; first | (go_simp; done) | (go_simp; with_reducible rfl))
  simp only [List.setIfInBounds_toArray, List.set_cons_zero, List.set_cons_succ]
  refine onlyN (i := 8) rfl rfl (by kernel_rfl) (by kernel_rfl) (fun K hK => ?_)
  refine wp_store_row 52 (.tmp 6) (.tmp 168) rfl g2 #[.int .i64 7, .string ⟨#[]⟩, .string ⟨#[]⟩, .int .i64 n, .slice none 0 0, .slice q2 tl.length n2, .slice none 0 0] (by kernel_rfl) (by kernel_rfl) 52 zeroS (Svg.stays (((HV.out.trans ((Bel.refl w2).drew.svg g)).trans hv1).trans hv2) HX2.out HGS.out.2.2.1) (by kernel_rfl) (by kernel_rfl) (by kernel_rfl) ?_
  refine hK.out undef _ (HKEEP.out _ ((Svg.two (((HV.out.trans ((Bel.refl w2).drew.svg g)).trans hv1).trans hv2) g2).trans ((setRow_svg g2 _ _).two' g))) (fun hSF => ?_)
  clear hK K
  refine wpAnyH_done (by kernel_rfl) ?_ _
  clear hSF hS0 hS1 hS2
  go_wp2_with fail
  obtain ⟨y01, y02, y03⟩ := HSZ.out w11 ((HV.out.trans ((Bel.refl w2).drew.svg g)).trans hv1)
  have HV2 := Lib.hid ((((HV.out.trans ((Bel.refl w2).drew.svg g)).trans hv1).trans hv2))
  have hx9 := HV2.out.stays HX2.out HGS.out.2.2.1
  refine st_fin (x := St.mk 7 ⟨#[]⟩ ⟨#[]⟩ n [] tl []) (q := none) (cq := 0) (q1 := q2) (n1 := n2) (q2 := none) (n2 := 0) (g2 := g2) (w6 := w12) rfl rfl (setRow_heap _ g2 zeroS _ _ _ hx9) (Svg.of HB.out HV2.out) (setRow_svg g2 _ _) HGS.out.2.2.2.2 (by have := HGS.out; omega) hs2 ?_ (EAt.nil _ _) ?_ (SAt.nil _ _)
  · exact wfS_mk ⟨by decide, by decide⟩ ⟨HNB.out.1, by have := HNB.out.2; omega⟩ (by decide) (by decide) (by decide) hl2 (by decide)
  · exact keepS he2 (setRow_svg g2 _ _) y02 y03
set_option maxRecDepth 100000 in
set_option maxHeartbeats 8000000 in
theorem st_set (c : Sco) (hgc : GoodC c) (D : Int) (hD : 0 ≤ D ∧ D ≤ 100) (g : Nat) (s sl s0 t : List Int) (k : Int) (ln : ByteArray) (x : Ex) (w : World) (p1 p2 p3 : Option Addr) (c1 c2 c3 : Nat) (hln : nameV c xyz s = (ln, sl)) (hls : ln.size ≤ 20) (hk : nx sl 12 = (k, s0)) (hq : ((k = 5 ∨ k = 6) ∧ c.any = false ∧ c.held.length = 0 ∧ (D = 0 ∨ (0 < D ∧ ¬ c.free < c.rscs.length))) ∨ ((k = 7 ∨ k = 8) ∧ (D = 0 ∨ (0 < D ∧ c.any = false ∧ ¬ c.free < c.rscs.length))) ∨ ((k = 9 ∨ k = 10) ∧ D = 0)) (hx : exprV c 4 s0 = (x, t)) (hC : ScAt g w p1 p2 p3 c) (hS : SrcAt g w s) :
    Calls Tryz.prog 56 #[scV p1 c1 p2 c2 p3 c3 c, .pointer (some ⟨g, 0, none⟩), .int .i64 D] w fun e w' => ∃ q cq q1 n1 q2 n2, e = .returned (stV q cq q1 n1 q2 n2 (St.mk 1 ln ⟨#[]⟩ 0 [x] [] [])) ∧ WfS (St.mk 1 ln ⟨#[]⟩ 0 [x] [] []) ∧ EAt (young w.heap.size w') q (St.mk 1 ln ⟨#[]⟩ 0 [x] [] []).args ∧ SAt (young w.heap.size w') q1 (St.mk 1 ln ⟨#[]⟩ 0 [x] [] []).thn ∧ SAt (young w.heap.size w') q2 (St.mk 1 ln ⟨#[]⟩ 0 [x] [] []).els ∧ Svg g w w' ∧ SrcAt g w' t := by
  have HC0 := Lib.hid hC
  have HS0 := Lib.hid hS
  have HLN := Lib.hid hln
  have HLS := Lib.hid hls
  have HK := Lib.hid hk
  have HDD := Lib.hid hD
  have HX := Lib.hid hx
  clear hC hS hln hls hk hD hx
  have E4 := Lib.hid (XAtI.of hgc (D := 4) (d := 4) rfl (by decide))
  have hq3 : ((k = 5 ∨ k = 6) ∧ c.any = false ∧ c.held.length = 0 ∧ D = 0) ∨ ((k = 5 ∨ k = 6) ∧ c.any = false ∧ c.held.length = 0 ∧ (0 < D) = True ∧ (c.free < c.rscs.length) = False) ∨ ((k = 7 ∨ k = 8) ∧ D = 0) ∨ ((k = 7 ∨ k = 8) ∧ c.any = false ∧ (0 < D) = True ∧ (c.free < c.rscs.length) = False) ∨ ((k = 9 ∨ k = 10) ∧ D = 0) := by
    rcases hq with ⟨h1, h2, h3, h4 | ⟨h4, h5⟩⟩ | ⟨h1, h4 | ⟨h4, h5, h6⟩⟩ | h
    · exact .inl ⟨h1, h2, h3, h4⟩
    · exact .inr (.inl ⟨h1, h2, h3, eq_true h4, eq_false h5⟩)
    · exact .inr (.inr (.inl ⟨h1, h4⟩))
    · exact .inr (.inr (.inr (.inl ⟨h1, h5, eq_true h4, eq_false h6⟩)))
    · exact .inr (.inr (.inr (.inr h)))
  clear hq
  have HX := HX
  rcases hq3 with ⟨rfl | rfl, hy, hl, rfl⟩ | ⟨rfl | rfl, hy, hl, hD0, hfl⟩ | ⟨rfl | rfl, rfl⟩ | ⟨rfl | rfl, hy, hD0, hfl⟩ | ⟨rfl | rfl, rfl⟩
  · have HY := Lib.hid hy
    clear hy
    have HLL := Lib.hid hl
    clear hl
    go_enter Tryz.func56, Tryz.ntmps56
    go_upto_region 1 with (fail)
    obtain ⟨n0, n1, n2⟩ := new2 w (scA p1 c1 p2 c2 p3 c3 c) zeroS 61 52
    generalize (w.alloc (.cells (scA p1 c1 p2 c2 p3 c3 c) 61)).alloc (.cells zeroS 52) = W1 at n0 n1 n2 ⊢
    generalize hg2 : w.heap.size + 1 = g2 at n2 ⊢
    generalize hg1 : w.heap.size = g1 at n1 ⊢
    have HB := Lib.hid n0
    have HX1 := Lib.hid n1
    have HX2 := Lib.hid n2
    have HS := Lib.hid (HS0.out.bel n0)
    have HC := Lib.hid (HC0.out.svg (n0.svg g) HS0.out.lt)
    have HGS : Hid (g < w.heap.size ∧ g1 ≠ g ∧ g2 ≠ g ∧ g1 ≠ g2 ∧ w.heap.size ≤ g2) := Lib.hid (by have := HS0.out.lt; omega)
    clear n0 n1 n2 hg1 hg2
    have HV := Lib.hid (Svg.refl g W1)
    have HKEEP : Hid (∀ W' : World, Sv2 g g2 W1 W' → SBox g1 p1 c1 p2 c2 p3 c3 c W') := Lib.hid (fun W' hv => SBox.of (hv.stays HX1.out HGS.out.2.1 HGS.out.2.2.2.1))
    have HSZ : Hid (∀ W' : World, Svg g W1 W' → g < W'.heap.size ∧ g2 < W'.heap.size ∧ w.heap.size ≤ W'.heap.size) := Lib.hid (fun W' hv => by have h1 := hv.size; have h2 := lt_of_heap HX2.out; have h3 := HB.out.size; have h4 := HGS.out.1; omega)
    have HGL : Hid (g < W1.heap.size) := Lib.hid (HSZ.out _ (Svg.refl g W1)).1
    obtain ⟨d0, d1, d2, d3, d4⟩ := HKEEP.out _ (HV.out.two g2)
    go_wp2_with fail
    clear d0 d1 d2 d3 d4
    have hb5 := (Bel.refl W1).alloc #[.string ⟨#[120]⟩, .string ⟨#[121]⟩, .string ⟨#[122]⟩] 9
    have hx5 := heap_alloc_new W1 (.cells #[.string ⟨#[120]⟩, .string ⟨#[121]⟩, .string ⟨#[122]⟩] 9)
    have hg5 : W1.heap.size ≠ g := by have := HS.out.lt; omega
    generalize W1.alloc (.cells #[.string ⟨#[120]⟩, .string ⟨#[121]⟩, .string ⟨#[122]⟩] 9) = W5 at hb5 hx5 ⊢
    generalize W1.heap.size = g5 at hx5 hg5 ⊢
    refine (scname_lit HLN.out W5 (p := some ⟨g5, 0, none⟩) (n := 3) rfl (lit_nm (l := xyz) (mask_heap hx5 hg5) xyz_size) (by decide) (HS.out.bel hb5)).mono ?_
    rintro e w6 ⟨rfl, hv, hs⟩
    have HS := Lib.hid hs
    have HV := Lib.hid ((HV.out.trans (hb5.svg g)).trans hv)
    clear hb5 hx5 hs hv
    go_wp2_with fail
    refine (next_lit HK.out (by decide) _ HS.out).mono ?_
    rintro e w2 ⟨rfl, hv, hs⟩
    have HS := Lib.hid hs
    have HV := Lib.hid (HV.out.trans hv)
    clear hv hs
    obtain ⟨d0, d1, d2, d3, d4⟩ := HKEEP.out _ (HV.out.two g2)
    rw [HY.out] at d4
    rw [HLL.out] at d3
    go_upto_region 24 with (fail)
    clear d0 d1 d2 d3 d4
    obtain ⟨d0, d1, d2, d3, d4⟩ := HKEEP.out _ (HV.out.two g2)
    go_wp2_with fail
    obtain ⟨y02, y03, y04⟩ := HSZ.out _ HV.out
    refine (E4.out g s0 t x _ p1 p2 p3 c1 c2 c3 HX.out (HC.out.svg HV.out HGL.out) HS.out).mono ?_
    rintro e w3 ⟨q3, n3, rfl, wf3, he3, hv, hs⟩
    have HS := Lib.hid hs
    have HV := Lib.hid (HV.out.trans hv)
    have hsz3 := hv.size
    clear hv hs d0 d1 d2 d3 d4
    have hx7 := HV.out.stays HX2.out HGS.out.2.2.1
    have z0 := cell_of_heap hx7 0
    have f0 := frozen_of_heap hx7 0
    have z1 := cell_of_heap hx7 1
    have f1 := frozen_of_heap hx7 1
    have z2 := cell_of_heap hx7 2
    have f2 := frozen_of_heap hx7 2
    have z3 := cell_of_heap hx7 3
    have f3 := frozen_of_heap hx7 3
    have z4 := cell_of_heap hx7 4
    have f4 := frozen_of_heap hx7 4
    have z5 := cell_of_heap hx7 5
    have f5 := frozen_of_heap hx7 5
    have z6 := cell_of_heap hx7 6
    have f6 := frozen_of_heap hx7 6
    simp only [List.getElem?_toArray, List.getElem?_cons_zero, List.getElem?_cons_succ] at z0 z1 z2 z3 z4 z5 z6
    have hb5 := (Bel.refl w3).alloc #[.int .i64 x.kind, .int .i64 x.op, .int .i64 x.n, .string x.name, .slice q3 x.args.length n3] 40
    have hx5 := heap_alloc_new w3 (.cells #[.int .i64 x.kind, .int .i64 x.op, .int .i64 x.n, .string x.name, .slice q3 x.args.length n3] 40)
    have hx8 := hb5.stays hx7
    have HS := Lib.hid (HS.out.bel hb5)
    have HV := Lib.hid (HV.out.trans (hb5.svg g))
    have he3 := keepE he3 (hb5.svg g2) y03 (Nat.le_refl _)
    have z0 := cell_of_heap hx8 0
    have f0 := frozen_of_heap hx8 0
    have z1 := cell_of_heap hx8 1
    have f1 := frozen_of_heap hx8 1
    have z2 := cell_of_heap hx8 2
    have f2 := frozen_of_heap hx8 2
    have z3 := cell_of_heap hx8 3
    have f3 := frozen_of_heap hx8 3
    have z4 := cell_of_heap hx8 4
    have f4 := frozen_of_heap hx8 4
    have z5 := cell_of_heap hx8 5
    have f5 := frozen_of_heap hx8 5
    have z6 := cell_of_heap hx8 6
    have f6 := frozen_of_heap hx8 6
    simp only [List.getElem?_toArray, List.getElem?_cons_zero, List.getElem?_cons_succ] at z0 z1 z2 z3 z4 z5 z6
    go_wp2_with fail
    generalize w3.alloc (.cells #[.int .i64 x.kind, .int .i64 x.op, .int .i64 x.n, .string x.name, .slice q3 x.args.length n3] 40) = W9 at hx5 hx8 HS HV he3 ⊢
    have hnew2 := young_heap (B := w.heap.size) ((sv7 g2 W9 (.int .i64 1) (.string ln) (.string ⟨#[]⟩) (.int .i64 0) (.slice (some ⟨w3.heap.size, 0, none⟩) 1 1) (.slice none 0 0) (.slice none 0 0)).stays hx5 (by omega)) (by omega)
    refine st_fin (x := St.mk 1 ln ⟨#[]⟩ 0 [x] [] []) (q := some ⟨w3.heap.size, 0, none⟩) (cq := 1) (q1 := none) (n1 := 0) (q2 := none) (n2 := 0) (g2 := g2) (w6 := W9) rfl rfl (set7 hx8) (Svg.of HB.out HV.out) (sv7 g2 W9 _ _ _ _ _ _ _) HGS.out.2.2.2.2 (by have := HGS.out; omega) HS.out ?_ ?_ (SAt.nil _ _) (SAt.nil _ _)
    · exact wfS_mk ⟨by decide, by decide⟩ ⟨by decide, by decide⟩ HLS.out (by decide) (Nat.le_of_ble_eq_true rfl) (by decide) (by decide)
    · exact EAt.one (e := x) hnew2 wf3 (keepE he3 (sv7 g2 W9 _ _ _ _ _ _ _) (by omega) (by omega))
  · have HY := Lib.hid hy
    clear hy
    have HLL := Lib.hid hl
    clear hl
    go_enter Tryz.func56, Tryz.ntmps56
    go_upto_region 1 with (fail)
    obtain ⟨n0, n1, n2⟩ := new2 w (scA p1 c1 p2 c2 p3 c3 c) zeroS 61 52
    generalize (w.alloc (.cells (scA p1 c1 p2 c2 p3 c3 c) 61)).alloc (.cells zeroS 52) = W1 at n0 n1 n2 ⊢
    generalize hg2 : w.heap.size + 1 = g2 at n2 ⊢
    generalize hg1 : w.heap.size = g1 at n1 ⊢
    have HB := Lib.hid n0
    have HX1 := Lib.hid n1
    have HX2 := Lib.hid n2
    have HS := Lib.hid (HS0.out.bel n0)
    have HC := Lib.hid (HC0.out.svg (n0.svg g) HS0.out.lt)
    have HGS : Hid (g < w.heap.size ∧ g1 ≠ g ∧ g2 ≠ g ∧ g1 ≠ g2 ∧ w.heap.size ≤ g2) := Lib.hid (by have := HS0.out.lt; omega)
    clear n0 n1 n2 hg1 hg2
    have HV := Lib.hid (Svg.refl g W1)
    have HKEEP : Hid (∀ W' : World, Sv2 g g2 W1 W' → SBox g1 p1 c1 p2 c2 p3 c3 c W') := Lib.hid (fun W' hv => SBox.of (hv.stays HX1.out HGS.out.2.1 HGS.out.2.2.2.1))
    have HSZ : Hid (∀ W' : World, Svg g W1 W' → g < W'.heap.size ∧ g2 < W'.heap.size ∧ w.heap.size ≤ W'.heap.size) := Lib.hid (fun W' hv => by have h1 := hv.size; have h2 := lt_of_heap HX2.out; have h3 := HB.out.size; have h4 := HGS.out.1; omega)
    have HGL : Hid (g < W1.heap.size) := Lib.hid (HSZ.out _ (Svg.refl g W1)).1
    obtain ⟨d0, d1, d2, d3, d4⟩ := HKEEP.out _ (HV.out.two g2)
    go_wp2_with fail
    clear d0 d1 d2 d3 d4
    have hb5 := (Bel.refl W1).alloc #[.string ⟨#[120]⟩, .string ⟨#[121]⟩, .string ⟨#[122]⟩] 9
    have hx5 := heap_alloc_new W1 (.cells #[.string ⟨#[120]⟩, .string ⟨#[121]⟩, .string ⟨#[122]⟩] 9)
    have hg5 : W1.heap.size ≠ g := by have := HS.out.lt; omega
    generalize W1.alloc (.cells #[.string ⟨#[120]⟩, .string ⟨#[121]⟩, .string ⟨#[122]⟩] 9) = W5 at hb5 hx5 ⊢
    generalize W1.heap.size = g5 at hx5 hg5 ⊢
    refine (scname_lit HLN.out W5 (p := some ⟨g5, 0, none⟩) (n := 3) rfl (lit_nm (l := xyz) (mask_heap hx5 hg5) xyz_size) (by decide) (HS.out.bel hb5)).mono ?_
    rintro e w6 ⟨rfl, hv, hs⟩
    have HS := Lib.hid hs
    have HV := Lib.hid ((HV.out.trans (hb5.svg g)).trans hv)
    clear hb5 hx5 hs hv
    go_wp2_with fail
    refine (next_lit HK.out (by decide) _ HS.out).mono ?_
    rintro e w2 ⟨rfl, hv, hs⟩
    have HS := Lib.hid hs
    have HV := Lib.hid (HV.out.trans hv)
    clear hv hs
    obtain ⟨d0, d1, d2, d3, d4⟩ := HKEEP.out _ (HV.out.two g2)
    rw [HY.out] at d4
    rw [HLL.out] at d3
    go_upto_region 24 with (fail)
    clear d0 d1 d2 d3 d4
    obtain ⟨d0, d1, d2, d3, d4⟩ := HKEEP.out _ (HV.out.two g2)
    go_wp2_with fail
    obtain ⟨y02, y03, y04⟩ := HSZ.out _ HV.out
    refine (E4.out g s0 t x _ p1 p2 p3 c1 c2 c3 HX.out (HC.out.svg HV.out HGL.out) HS.out).mono ?_
    rintro e w3 ⟨q3, n3, rfl, wf3, he3, hv, hs⟩
    have HS := Lib.hid hs
    have HV := Lib.hid (HV.out.trans hv)
    have hsz3 := hv.size
    clear hv hs d0 d1 d2 d3 d4
    have hx7 := HV.out.stays HX2.out HGS.out.2.2.1
    have z0 := cell_of_heap hx7 0
    have f0 := frozen_of_heap hx7 0
    have z1 := cell_of_heap hx7 1
    have f1 := frozen_of_heap hx7 1
    have z2 := cell_of_heap hx7 2
    have f2 := frozen_of_heap hx7 2
    have z3 := cell_of_heap hx7 3
    have f3 := frozen_of_heap hx7 3
    have z4 := cell_of_heap hx7 4
    have f4 := frozen_of_heap hx7 4
    have z5 := cell_of_heap hx7 5
    have f5 := frozen_of_heap hx7 5
    have z6 := cell_of_heap hx7 6
    have f6 := frozen_of_heap hx7 6
    simp only [List.getElem?_toArray, List.getElem?_cons_zero, List.getElem?_cons_succ] at z0 z1 z2 z3 z4 z5 z6
    have hb5 := (Bel.refl w3).alloc #[.int .i64 x.kind, .int .i64 x.op, .int .i64 x.n, .string x.name, .slice q3 x.args.length n3] 40
    have hx5 := heap_alloc_new w3 (.cells #[.int .i64 x.kind, .int .i64 x.op, .int .i64 x.n, .string x.name, .slice q3 x.args.length n3] 40)
    have hx8 := hb5.stays hx7
    have HS := Lib.hid (HS.out.bel hb5)
    have HV := Lib.hid (HV.out.trans (hb5.svg g))
    have he3 := keepE he3 (hb5.svg g2) y03 (Nat.le_refl _)
    have z0 := cell_of_heap hx8 0
    have f0 := frozen_of_heap hx8 0
    have z1 := cell_of_heap hx8 1
    have f1 := frozen_of_heap hx8 1
    have z2 := cell_of_heap hx8 2
    have f2 := frozen_of_heap hx8 2
    have z3 := cell_of_heap hx8 3
    have f3 := frozen_of_heap hx8 3
    have z4 := cell_of_heap hx8 4
    have f4 := frozen_of_heap hx8 4
    have z5 := cell_of_heap hx8 5
    have f5 := frozen_of_heap hx8 5
    have z6 := cell_of_heap hx8 6
    have f6 := frozen_of_heap hx8 6
    simp only [List.getElem?_toArray, List.getElem?_cons_zero, List.getElem?_cons_succ] at z0 z1 z2 z3 z4 z5 z6
    go_wp2_with fail
    generalize w3.alloc (.cells #[.int .i64 x.kind, .int .i64 x.op, .int .i64 x.n, .string x.name, .slice q3 x.args.length n3] 40) = W9 at hx5 hx8 HS HV he3 ⊢
    have hnew2 := young_heap (B := w.heap.size) ((sv7 g2 W9 (.int .i64 1) (.string ln) (.string ⟨#[]⟩) (.int .i64 0) (.slice (some ⟨w3.heap.size, 0, none⟩) 1 1) (.slice none 0 0) (.slice none 0 0)).stays hx5 (by omega)) (by omega)
    refine st_fin (x := St.mk 1 ln ⟨#[]⟩ 0 [x] [] []) (q := some ⟨w3.heap.size, 0, none⟩) (cq := 1) (q1 := none) (n1 := 0) (q2 := none) (n2 := 0) (g2 := g2) (w6 := W9) rfl rfl (set7 hx8) (Svg.of HB.out HV.out) (sv7 g2 W9 _ _ _ _ _ _ _) HGS.out.2.2.2.2 (by have := HGS.out; omega) HS.out ?_ ?_ (SAt.nil _ _) (SAt.nil _ _)
    · exact wfS_mk ⟨by decide, by decide⟩ ⟨by decide, by decide⟩ HLS.out (by decide) (Nat.le_of_ble_eq_true rfl) (by decide) (by decide)
    · exact EAt.one (e := x) hnew2 wf3 (keepE he3 (sv7 g2 W9 _ _ _ _ _ _ _) (by omega) (by omega))
  · have HY := Lib.hid hy
    clear hy
    have HLL := Lib.hid hl
    clear hl
    go_enter Tryz.func56, Tryz.ntmps56
    go_upto_region 1 with (fail)
    obtain ⟨n0, n1, n2⟩ := new2 w (scA p1 c1 p2 c2 p3 c3 c) zeroS 61 52
    generalize (w.alloc (.cells (scA p1 c1 p2 c2 p3 c3 c) 61)).alloc (.cells zeroS 52) = W1 at n0 n1 n2 ⊢
    generalize hg2 : w.heap.size + 1 = g2 at n2 ⊢
    generalize hg1 : w.heap.size = g1 at n1 ⊢
    have HB := Lib.hid n0
    have HX1 := Lib.hid n1
    have HX2 := Lib.hid n2
    have HS := Lib.hid (HS0.out.bel n0)
    have HC := Lib.hid (HC0.out.svg (n0.svg g) HS0.out.lt)
    have HGS : Hid (g < w.heap.size ∧ g1 ≠ g ∧ g2 ≠ g ∧ g1 ≠ g2 ∧ w.heap.size ≤ g2) := Lib.hid (by have := HS0.out.lt; omega)
    clear n0 n1 n2 hg1 hg2
    have HV := Lib.hid (Svg.refl g W1)
    have HKEEP : Hid (∀ W' : World, Sv2 g g2 W1 W' → SBox g1 p1 c1 p2 c2 p3 c3 c W') := Lib.hid (fun W' hv => SBox.of (hv.stays HX1.out HGS.out.2.1 HGS.out.2.2.2.1))
    have HSZ : Hid (∀ W' : World, Svg g W1 W' → g < W'.heap.size ∧ g2 < W'.heap.size ∧ w.heap.size ≤ W'.heap.size) := Lib.hid (fun W' hv => by have h1 := hv.size; have h2 := lt_of_heap HX2.out; have h3 := HB.out.size; have h4 := HGS.out.1; omega)
    have HGL : Hid (g < W1.heap.size) := Lib.hid (HSZ.out _ (Svg.refl g W1)).1
    obtain ⟨d0, d1, d2, d3, d4⟩ := HKEEP.out _ (HV.out.two g2)
    go_wp2_with fail
    clear d0 d1 d2 d3 d4
    have hb5 := (Bel.refl W1).alloc #[.string ⟨#[120]⟩, .string ⟨#[121]⟩, .string ⟨#[122]⟩] 9
    have hx5 := heap_alloc_new W1 (.cells #[.string ⟨#[120]⟩, .string ⟨#[121]⟩, .string ⟨#[122]⟩] 9)
    have hg5 : W1.heap.size ≠ g := by have := HS.out.lt; omega
    generalize W1.alloc (.cells #[.string ⟨#[120]⟩, .string ⟨#[121]⟩, .string ⟨#[122]⟩] 9) = W5 at hb5 hx5 ⊢
    generalize W1.heap.size = g5 at hx5 hg5 ⊢
    refine (scname_lit HLN.out W5 (p := some ⟨g5, 0, none⟩) (n := 3) rfl (lit_nm (l := xyz) (mask_heap hx5 hg5) xyz_size) (by decide) (HS.out.bel hb5)).mono ?_
    rintro e w6 ⟨rfl, hv, hs⟩
    have HS := Lib.hid hs
    have HV := Lib.hid ((HV.out.trans (hb5.svg g)).trans hv)
    clear hb5 hx5 hs hv
    go_wp2_with fail
    refine (next_lit HK.out (by decide) _ HS.out).mono ?_
    rintro e w2 ⟨rfl, hv, hs⟩
    have HS := Lib.hid hs
    have HV := Lib.hid (HV.out.trans hv)
    clear hv hs
    obtain ⟨d0, d1, d2, d3, d4⟩ := HKEEP.out _ (HV.out.two g2)
    rw [HY.out] at d4
    rw [HLL.out] at d3
    go_upto_region 24 with (fail)
    clear d0 d1 d2 d3 d4
    obtain ⟨d0, d1, d2, d3, d4⟩ := HKEEP.out _ (HV.out.two g2)
    go_wp2_with fail
    obtain ⟨y02, y03, y04⟩ := HSZ.out _ HV.out
    refine (E4.out g s0 t x _ p1 p2 p3 c1 c2 c3 HX.out (HC.out.svg HV.out HGL.out) HS.out).mono ?_
    rintro e w3 ⟨q3, n3, rfl, wf3, he3, hv, hs⟩
    have HS := Lib.hid hs
    have HV := Lib.hid (HV.out.trans hv)
    have hsz3 := hv.size
    clear hv hs d0 d1 d2 d3 d4
    have hx7 := HV.out.stays HX2.out HGS.out.2.2.1
    have z0 := cell_of_heap hx7 0
    have f0 := frozen_of_heap hx7 0
    have z1 := cell_of_heap hx7 1
    have f1 := frozen_of_heap hx7 1
    have z2 := cell_of_heap hx7 2
    have f2 := frozen_of_heap hx7 2
    have z3 := cell_of_heap hx7 3
    have f3 := frozen_of_heap hx7 3
    have z4 := cell_of_heap hx7 4
    have f4 := frozen_of_heap hx7 4
    have z5 := cell_of_heap hx7 5
    have f5 := frozen_of_heap hx7 5
    have z6 := cell_of_heap hx7 6
    have f6 := frozen_of_heap hx7 6
    simp only [List.getElem?_toArray, List.getElem?_cons_zero, List.getElem?_cons_succ] at z0 z1 z2 z3 z4 z5 z6
    have hb5 := (Bel.refl w3).alloc #[.int .i64 x.kind, .int .i64 x.op, .int .i64 x.n, .string x.name, .slice q3 x.args.length n3] 40
    have hx5 := heap_alloc_new w3 (.cells #[.int .i64 x.kind, .int .i64 x.op, .int .i64 x.n, .string x.name, .slice q3 x.args.length n3] 40)
    have hx8 := hb5.stays hx7
    have HS := Lib.hid (HS.out.bel hb5)
    have HV := Lib.hid (HV.out.trans (hb5.svg g))
    have he3 := keepE he3 (hb5.svg g2) y03 (Nat.le_refl _)
    have z0 := cell_of_heap hx8 0
    have f0 := frozen_of_heap hx8 0
    have z1 := cell_of_heap hx8 1
    have f1 := frozen_of_heap hx8 1
    have z2 := cell_of_heap hx8 2
    have f2 := frozen_of_heap hx8 2
    have z3 := cell_of_heap hx8 3
    have f3 := frozen_of_heap hx8 3
    have z4 := cell_of_heap hx8 4
    have f4 := frozen_of_heap hx8 4
    have z5 := cell_of_heap hx8 5
    have f5 := frozen_of_heap hx8 5
    have z6 := cell_of_heap hx8 6
    have f6 := frozen_of_heap hx8 6
    simp only [List.getElem?_toArray, List.getElem?_cons_zero, List.getElem?_cons_succ] at z0 z1 z2 z3 z4 z5 z6
    go_wp2_with fail
    generalize w3.alloc (.cells #[.int .i64 x.kind, .int .i64 x.op, .int .i64 x.n, .string x.name, .slice q3 x.args.length n3] 40) = W9 at hx5 hx8 HS HV he3 ⊢
    have hnew2 := young_heap (B := w.heap.size) ((sv7 g2 W9 (.int .i64 1) (.string ln) (.string ⟨#[]⟩) (.int .i64 0) (.slice (some ⟨w3.heap.size, 0, none⟩) 1 1) (.slice none 0 0) (.slice none 0 0)).stays hx5 (by omega)) (by omega)
    refine st_fin (x := St.mk 1 ln ⟨#[]⟩ 0 [x] [] []) (q := some ⟨w3.heap.size, 0, none⟩) (cq := 1) (q1 := none) (n1 := 0) (q2 := none) (n2 := 0) (g2 := g2) (w6 := W9) rfl rfl (set7 hx8) (Svg.of HB.out HV.out) (sv7 g2 W9 _ _ _ _ _ _ _) HGS.out.2.2.2.2 (by have := HGS.out; omega) HS.out ?_ ?_ (SAt.nil _ _) (SAt.nil _ _)
    · exact wfS_mk ⟨by decide, by decide⟩ ⟨by decide, by decide⟩ HLS.out (by decide) (Nat.le_of_ble_eq_true rfl) (by decide) (by decide)
    · exact EAt.one (e := x) hnew2 wf3 (keepE he3 (sv7 g2 W9 _ _ _ _ _ _ _) (by omega) (by omega))
  · have HY := Lib.hid hy
    clear hy
    have HLL := Lib.hid hl
    clear hl
    go_enter Tryz.func56, Tryz.ntmps56
    go_upto_region 1 with (fail)
    obtain ⟨n0, n1, n2⟩ := new2 w (scA p1 c1 p2 c2 p3 c3 c) zeroS 61 52
    generalize (w.alloc (.cells (scA p1 c1 p2 c2 p3 c3 c) 61)).alloc (.cells zeroS 52) = W1 at n0 n1 n2 ⊢
    generalize hg2 : w.heap.size + 1 = g2 at n2 ⊢
    generalize hg1 : w.heap.size = g1 at n1 ⊢
    have HB := Lib.hid n0
    have HX1 := Lib.hid n1
    have HX2 := Lib.hid n2
    have HS := Lib.hid (HS0.out.bel n0)
    have HC := Lib.hid (HC0.out.svg (n0.svg g) HS0.out.lt)
    have HGS : Hid (g < w.heap.size ∧ g1 ≠ g ∧ g2 ≠ g ∧ g1 ≠ g2 ∧ w.heap.size ≤ g2) := Lib.hid (by have := HS0.out.lt; omega)
    clear n0 n1 n2 hg1 hg2
    have HV := Lib.hid (Svg.refl g W1)
    have HKEEP : Hid (∀ W' : World, Sv2 g g2 W1 W' → SBox g1 p1 c1 p2 c2 p3 c3 c W') := Lib.hid (fun W' hv => SBox.of (hv.stays HX1.out HGS.out.2.1 HGS.out.2.2.2.1))
    have HSZ : Hid (∀ W' : World, Svg g W1 W' → g < W'.heap.size ∧ g2 < W'.heap.size ∧ w.heap.size ≤ W'.heap.size) := Lib.hid (fun W' hv => by have h1 := hv.size; have h2 := lt_of_heap HX2.out; have h3 := HB.out.size; have h4 := HGS.out.1; omega)
    have HGL : Hid (g < W1.heap.size) := Lib.hid (HSZ.out _ (Svg.refl g W1)).1
    obtain ⟨d0, d1, d2, d3, d4⟩ := HKEEP.out _ (HV.out.two g2)
    go_wp2_with fail
    clear d0 d1 d2 d3 d4
    have hb5 := (Bel.refl W1).alloc #[.string ⟨#[120]⟩, .string ⟨#[121]⟩, .string ⟨#[122]⟩] 9
    have hx5 := heap_alloc_new W1 (.cells #[.string ⟨#[120]⟩, .string ⟨#[121]⟩, .string ⟨#[122]⟩] 9)
    have hg5 : W1.heap.size ≠ g := by have := HS.out.lt; omega
    generalize W1.alloc (.cells #[.string ⟨#[120]⟩, .string ⟨#[121]⟩, .string ⟨#[122]⟩] 9) = W5 at hb5 hx5 ⊢
    generalize W1.heap.size = g5 at hx5 hg5 ⊢
    refine (scname_lit HLN.out W5 (p := some ⟨g5, 0, none⟩) (n := 3) rfl (lit_nm (l := xyz) (mask_heap hx5 hg5) xyz_size) (by decide) (HS.out.bel hb5)).mono ?_
    rintro e w6 ⟨rfl, hv, hs⟩
    have HS := Lib.hid hs
    have HV := Lib.hid ((HV.out.trans (hb5.svg g)).trans hv)
    clear hb5 hx5 hs hv
    go_wp2_with fail
    refine (next_lit HK.out (by decide) _ HS.out).mono ?_
    rintro e w2 ⟨rfl, hv, hs⟩
    have HS := Lib.hid hs
    have HV := Lib.hid (HV.out.trans hv)
    clear hv hs
    obtain ⟨d0, d1, d2, d3, d4⟩ := HKEEP.out _ (HV.out.two g2)
    rw [HY.out] at d4
    rw [HLL.out] at d3
    go_upto_region 24 with (fail)
    clear d0 d1 d2 d3 d4
    obtain ⟨d0, d1, d2, d3, d4⟩ := HKEEP.out _ (HV.out.two g2)
    go_wp2_with fail
    obtain ⟨y02, y03, y04⟩ := HSZ.out _ HV.out
    refine (E4.out g s0 t x _ p1 p2 p3 c1 c2 c3 HX.out (HC.out.svg HV.out HGL.out) HS.out).mono ?_
    rintro e w3 ⟨q3, n3, rfl, wf3, he3, hv, hs⟩
    have HS := Lib.hid hs
    have HV := Lib.hid (HV.out.trans hv)
    have hsz3 := hv.size
    clear hv hs d0 d1 d2 d3 d4
    have hx7 := HV.out.stays HX2.out HGS.out.2.2.1
    have z0 := cell_of_heap hx7 0
    have f0 := frozen_of_heap hx7 0
    have z1 := cell_of_heap hx7 1
    have f1 := frozen_of_heap hx7 1
    have z2 := cell_of_heap hx7 2
    have f2 := frozen_of_heap hx7 2
    have z3 := cell_of_heap hx7 3
    have f3 := frozen_of_heap hx7 3
    have z4 := cell_of_heap hx7 4
    have f4 := frozen_of_heap hx7 4
    have z5 := cell_of_heap hx7 5
    have f5 := frozen_of_heap hx7 5
    have z6 := cell_of_heap hx7 6
    have f6 := frozen_of_heap hx7 6
    simp only [List.getElem?_toArray, List.getElem?_cons_zero, List.getElem?_cons_succ] at z0 z1 z2 z3 z4 z5 z6
    have hb5 := (Bel.refl w3).alloc #[.int .i64 x.kind, .int .i64 x.op, .int .i64 x.n, .string x.name, .slice q3 x.args.length n3] 40
    have hx5 := heap_alloc_new w3 (.cells #[.int .i64 x.kind, .int .i64 x.op, .int .i64 x.n, .string x.name, .slice q3 x.args.length n3] 40)
    have hx8 := hb5.stays hx7
    have HS := Lib.hid (HS.out.bel hb5)
    have HV := Lib.hid (HV.out.trans (hb5.svg g))
    have he3 := keepE he3 (hb5.svg g2) y03 (Nat.le_refl _)
    have z0 := cell_of_heap hx8 0
    have f0 := frozen_of_heap hx8 0
    have z1 := cell_of_heap hx8 1
    have f1 := frozen_of_heap hx8 1
    have z2 := cell_of_heap hx8 2
    have f2 := frozen_of_heap hx8 2
    have z3 := cell_of_heap hx8 3
    have f3 := frozen_of_heap hx8 3
    have z4 := cell_of_heap hx8 4
    have f4 := frozen_of_heap hx8 4
    have z5 := cell_of_heap hx8 5
    have f5 := frozen_of_heap hx8 5
    have z6 := cell_of_heap hx8 6
    have f6 := frozen_of_heap hx8 6
    simp only [List.getElem?_toArray, List.getElem?_cons_zero, List.getElem?_cons_succ] at z0 z1 z2 z3 z4 z5 z6
    go_wp2_with fail
    generalize w3.alloc (.cells #[.int .i64 x.kind, .int .i64 x.op, .int .i64 x.n, .string x.name, .slice q3 x.args.length n3] 40) = W9 at hx5 hx8 HS HV he3 ⊢
    have hnew2 := young_heap (B := w.heap.size) ((sv7 g2 W9 (.int .i64 1) (.string ln) (.string ⟨#[]⟩) (.int .i64 0) (.slice (some ⟨w3.heap.size, 0, none⟩) 1 1) (.slice none 0 0) (.slice none 0 0)).stays hx5 (by omega)) (by omega)
    refine st_fin (x := St.mk 1 ln ⟨#[]⟩ 0 [x] [] []) (q := some ⟨w3.heap.size, 0, none⟩) (cq := 1) (q1 := none) (n1 := 0) (q2 := none) (n2 := 0) (g2 := g2) (w6 := W9) rfl rfl (set7 hx8) (Svg.of HB.out HV.out) (sv7 g2 W9 _ _ _ _ _ _ _) HGS.out.2.2.2.2 (by have := HGS.out; omega) HS.out ?_ ?_ (SAt.nil _ _) (SAt.nil _ _)
    · exact wfS_mk ⟨by decide, by decide⟩ ⟨by decide, by decide⟩ HLS.out (by decide) (Nat.le_of_ble_eq_true rfl) (by decide) (by decide)
    · exact EAt.one (e := x) hnew2 wf3 (keepE he3 (sv7 g2 W9 _ _ _ _ _ _ _) (by omega) (by omega))
  · go_enter Tryz.func56, Tryz.ntmps56
    go_upto_region 1 with (fail)
    obtain ⟨n0, n1, n2⟩ := new2 w (scA p1 c1 p2 c2 p3 c3 c) zeroS 61 52
    generalize (w.alloc (.cells (scA p1 c1 p2 c2 p3 c3 c) 61)).alloc (.cells zeroS 52) = W1 at n0 n1 n2 ⊢
    generalize hg2 : w.heap.size + 1 = g2 at n2 ⊢
    generalize hg1 : w.heap.size = g1 at n1 ⊢
    have HB := Lib.hid n0
    have HX1 := Lib.hid n1
    have HX2 := Lib.hid n2
    have HS := Lib.hid (HS0.out.bel n0)
    have HC := Lib.hid (HC0.out.svg (n0.svg g) HS0.out.lt)
    have HGS : Hid (g < w.heap.size ∧ g1 ≠ g ∧ g2 ≠ g ∧ g1 ≠ g2 ∧ w.heap.size ≤ g2) := Lib.hid (by have := HS0.out.lt; omega)
    clear n0 n1 n2 hg1 hg2
    have HV := Lib.hid (Svg.refl g W1)
    have HKEEP : Hid (∀ W' : World, Sv2 g g2 W1 W' → SBox g1 p1 c1 p2 c2 p3 c3 c W') := Lib.hid (fun W' hv => SBox.of (hv.stays HX1.out HGS.out.2.1 HGS.out.2.2.2.1))
    have HSZ : Hid (∀ W' : World, Svg g W1 W' → g < W'.heap.size ∧ g2 < W'.heap.size ∧ w.heap.size ≤ W'.heap.size) := Lib.hid (fun W' hv => by have h1 := hv.size; have h2 := lt_of_heap HX2.out; have h3 := HB.out.size; have h4 := HGS.out.1; omega)
    have HGL : Hid (g < W1.heap.size) := Lib.hid (HSZ.out _ (Svg.refl g W1)).1
    obtain ⟨d0, d1, d2, d3, d4⟩ := HKEEP.out _ (HV.out.two g2)
    go_wp2_with fail
    clear d0 d1 d2 d3 d4
    have hb5 := (Bel.refl W1).alloc #[.string ⟨#[120]⟩, .string ⟨#[121]⟩, .string ⟨#[122]⟩] 9
    have hx5 := heap_alloc_new W1 (.cells #[.string ⟨#[120]⟩, .string ⟨#[121]⟩, .string ⟨#[122]⟩] 9)
    have hg5 : W1.heap.size ≠ g := by have := HS.out.lt; omega
    generalize W1.alloc (.cells #[.string ⟨#[120]⟩, .string ⟨#[121]⟩, .string ⟨#[122]⟩] 9) = W5 at hb5 hx5 ⊢
    generalize W1.heap.size = g5 at hx5 hg5 ⊢
    refine (scname_lit HLN.out W5 (p := some ⟨g5, 0, none⟩) (n := 3) rfl (lit_nm (l := xyz) (mask_heap hx5 hg5) xyz_size) (by decide) (HS.out.bel hb5)).mono ?_
    rintro e w6 ⟨rfl, hv, hs⟩
    have HS := Lib.hid hs
    have HV := Lib.hid ((HV.out.trans (hb5.svg g)).trans hv)
    clear hb5 hx5 hs hv
    go_wp2_with fail
    refine (next_lit HK.out (by decide) _ HS.out).mono ?_
    rintro e w2 ⟨rfl, hv, hs⟩
    have HS := Lib.hid hs
    have HV := Lib.hid (HV.out.trans hv)
    clear hv hs
    obtain ⟨d0, d1, d2, d3, d4⟩ := HKEEP.out _ (HV.out.two g2)
    go_upto_region 24 with (fail)
    clear d0 d1 d2 d3 d4
    obtain ⟨d0, d1, d2, d3, d4⟩ := HKEEP.out _ (HV.out.two g2)
    go_wp2_with fail
    obtain ⟨y02, y03, y04⟩ := HSZ.out _ HV.out
    refine (E4.out g s0 t x _ p1 p2 p3 c1 c2 c3 HX.out (HC.out.svg HV.out HGL.out) HS.out).mono ?_
    rintro e w3 ⟨q3, n3, rfl, wf3, he3, hv, hs⟩
    have HS := Lib.hid hs
    have HV := Lib.hid (HV.out.trans hv)
    have hsz3 := hv.size
    clear hv hs d0 d1 d2 d3 d4
    have hx7 := HV.out.stays HX2.out HGS.out.2.2.1
    have z0 := cell_of_heap hx7 0
    have f0 := frozen_of_heap hx7 0
    have z1 := cell_of_heap hx7 1
    have f1 := frozen_of_heap hx7 1
    have z2 := cell_of_heap hx7 2
    have f2 := frozen_of_heap hx7 2
    have z3 := cell_of_heap hx7 3
    have f3 := frozen_of_heap hx7 3
    have z4 := cell_of_heap hx7 4
    have f4 := frozen_of_heap hx7 4
    have z5 := cell_of_heap hx7 5
    have f5 := frozen_of_heap hx7 5
    have z6 := cell_of_heap hx7 6
    have f6 := frozen_of_heap hx7 6
    simp only [List.getElem?_toArray, List.getElem?_cons_zero, List.getElem?_cons_succ] at z0 z1 z2 z3 z4 z5 z6
    have hb5 := (Bel.refl w3).alloc #[.int .i64 x.kind, .int .i64 x.op, .int .i64 x.n, .string x.name, .slice q3 x.args.length n3] 40
    have hx5 := heap_alloc_new w3 (.cells #[.int .i64 x.kind, .int .i64 x.op, .int .i64 x.n, .string x.name, .slice q3 x.args.length n3] 40)
    have hx8 := hb5.stays hx7
    have HS := Lib.hid (HS.out.bel hb5)
    have HV := Lib.hid (HV.out.trans (hb5.svg g))
    have he3 := keepE he3 (hb5.svg g2) y03 (Nat.le_refl _)
    have z0 := cell_of_heap hx8 0
    have f0 := frozen_of_heap hx8 0
    have z1 := cell_of_heap hx8 1
    have f1 := frozen_of_heap hx8 1
    have z2 := cell_of_heap hx8 2
    have f2 := frozen_of_heap hx8 2
    have z3 := cell_of_heap hx8 3
    have f3 := frozen_of_heap hx8 3
    have z4 := cell_of_heap hx8 4
    have f4 := frozen_of_heap hx8 4
    have z5 := cell_of_heap hx8 5
    have f5 := frozen_of_heap hx8 5
    have z6 := cell_of_heap hx8 6
    have f6 := frozen_of_heap hx8 6
    simp only [List.getElem?_toArray, List.getElem?_cons_zero, List.getElem?_cons_succ] at z0 z1 z2 z3 z4 z5 z6
    go_wp2_with fail
    generalize w3.alloc (.cells #[.int .i64 x.kind, .int .i64 x.op, .int .i64 x.n, .string x.name, .slice q3 x.args.length n3] 40) = W9 at hx5 hx8 HS HV he3 ⊢
    have hnew2 := young_heap (B := w.heap.size) ((sv7 g2 W9 (.int .i64 1) (.string ln) (.string ⟨#[]⟩) (.int .i64 0) (.slice (some ⟨w3.heap.size, 0, none⟩) 1 1) (.slice none 0 0) (.slice none 0 0)).stays hx5 (by omega)) (by omega)
    refine st_fin (x := St.mk 1 ln ⟨#[]⟩ 0 [x] [] []) (q := some ⟨w3.heap.size, 0, none⟩) (cq := 1) (q1 := none) (n1 := 0) (q2 := none) (n2 := 0) (g2 := g2) (w6 := W9) rfl rfl (set7 hx8) (Svg.of HB.out HV.out) (sv7 g2 W9 _ _ _ _ _ _ _) HGS.out.2.2.2.2 (by have := HGS.out; omega) HS.out ?_ ?_ (SAt.nil _ _) (SAt.nil _ _)
    · exact wfS_mk ⟨by decide, by decide⟩ ⟨by decide, by decide⟩ HLS.out (by decide) (Nat.le_of_ble_eq_true rfl) (by decide) (by decide)
    · exact EAt.one (e := x) hnew2 wf3 (keepE he3 (sv7 g2 W9 _ _ _ _ _ _ _) (by omega) (by omega))
  · go_enter Tryz.func56, Tryz.ntmps56
    go_upto_region 1 with (fail)
    obtain ⟨n0, n1, n2⟩ := new2 w (scA p1 c1 p2 c2 p3 c3 c) zeroS 61 52
    generalize (w.alloc (.cells (scA p1 c1 p2 c2 p3 c3 c) 61)).alloc (.cells zeroS 52) = W1 at n0 n1 n2 ⊢
    generalize hg2 : w.heap.size + 1 = g2 at n2 ⊢
    generalize hg1 : w.heap.size = g1 at n1 ⊢
    have HB := Lib.hid n0
    have HX1 := Lib.hid n1
    have HX2 := Lib.hid n2
    have HS := Lib.hid (HS0.out.bel n0)
    have HC := Lib.hid (HC0.out.svg (n0.svg g) HS0.out.lt)
    have HGS : Hid (g < w.heap.size ∧ g1 ≠ g ∧ g2 ≠ g ∧ g1 ≠ g2 ∧ w.heap.size ≤ g2) := Lib.hid (by have := HS0.out.lt; omega)
    clear n0 n1 n2 hg1 hg2
    have HV := Lib.hid (Svg.refl g W1)
    have HKEEP : Hid (∀ W' : World, Sv2 g g2 W1 W' → SBox g1 p1 c1 p2 c2 p3 c3 c W') := Lib.hid (fun W' hv => SBox.of (hv.stays HX1.out HGS.out.2.1 HGS.out.2.2.2.1))
    have HSZ : Hid (∀ W' : World, Svg g W1 W' → g < W'.heap.size ∧ g2 < W'.heap.size ∧ w.heap.size ≤ W'.heap.size) := Lib.hid (fun W' hv => by have h1 := hv.size; have h2 := lt_of_heap HX2.out; have h3 := HB.out.size; have h4 := HGS.out.1; omega)
    have HGL : Hid (g < W1.heap.size) := Lib.hid (HSZ.out _ (Svg.refl g W1)).1
    obtain ⟨d0, d1, d2, d3, d4⟩ := HKEEP.out _ (HV.out.two g2)
    go_wp2_with fail
    clear d0 d1 d2 d3 d4
    have hb5 := (Bel.refl W1).alloc #[.string ⟨#[120]⟩, .string ⟨#[121]⟩, .string ⟨#[122]⟩] 9
    have hx5 := heap_alloc_new W1 (.cells #[.string ⟨#[120]⟩, .string ⟨#[121]⟩, .string ⟨#[122]⟩] 9)
    have hg5 : W1.heap.size ≠ g := by have := HS.out.lt; omega
    generalize W1.alloc (.cells #[.string ⟨#[120]⟩, .string ⟨#[121]⟩, .string ⟨#[122]⟩] 9) = W5 at hb5 hx5 ⊢
    generalize W1.heap.size = g5 at hx5 hg5 ⊢
    refine (scname_lit HLN.out W5 (p := some ⟨g5, 0, none⟩) (n := 3) rfl (lit_nm (l := xyz) (mask_heap hx5 hg5) xyz_size) (by decide) (HS.out.bel hb5)).mono ?_
    rintro e w6 ⟨rfl, hv, hs⟩
    have HS := Lib.hid hs
    have HV := Lib.hid ((HV.out.trans (hb5.svg g)).trans hv)
    clear hb5 hx5 hs hv
    go_wp2_with fail
    refine (next_lit HK.out (by decide) _ HS.out).mono ?_
    rintro e w2 ⟨rfl, hv, hs⟩
    have HS := Lib.hid hs
    have HV := Lib.hid (HV.out.trans hv)
    clear hv hs
    obtain ⟨d0, d1, d2, d3, d4⟩ := HKEEP.out _ (HV.out.two g2)
    go_upto_region 24 with (fail)
    clear d0 d1 d2 d3 d4
    obtain ⟨d0, d1, d2, d3, d4⟩ := HKEEP.out _ (HV.out.two g2)
    go_wp2_with fail
    obtain ⟨y02, y03, y04⟩ := HSZ.out _ HV.out
    refine (E4.out g s0 t x _ p1 p2 p3 c1 c2 c3 HX.out (HC.out.svg HV.out HGL.out) HS.out).mono ?_
    rintro e w3 ⟨q3, n3, rfl, wf3, he3, hv, hs⟩
    have HS := Lib.hid hs
    have HV := Lib.hid (HV.out.trans hv)
    have hsz3 := hv.size
    clear hv hs d0 d1 d2 d3 d4
    have hx7 := HV.out.stays HX2.out HGS.out.2.2.1
    have z0 := cell_of_heap hx7 0
    have f0 := frozen_of_heap hx7 0
    have z1 := cell_of_heap hx7 1
    have f1 := frozen_of_heap hx7 1
    have z2 := cell_of_heap hx7 2
    have f2 := frozen_of_heap hx7 2
    have z3 := cell_of_heap hx7 3
    have f3 := frozen_of_heap hx7 3
    have z4 := cell_of_heap hx7 4
    have f4 := frozen_of_heap hx7 4
    have z5 := cell_of_heap hx7 5
    have f5 := frozen_of_heap hx7 5
    have z6 := cell_of_heap hx7 6
    have f6 := frozen_of_heap hx7 6
    simp only [List.getElem?_toArray, List.getElem?_cons_zero, List.getElem?_cons_succ] at z0 z1 z2 z3 z4 z5 z6
    have hb5 := (Bel.refl w3).alloc #[.int .i64 x.kind, .int .i64 x.op, .int .i64 x.n, .string x.name, .slice q3 x.args.length n3] 40
    have hx5 := heap_alloc_new w3 (.cells #[.int .i64 x.kind, .int .i64 x.op, .int .i64 x.n, .string x.name, .slice q3 x.args.length n3] 40)
    have hx8 := hb5.stays hx7
    have HS := Lib.hid (HS.out.bel hb5)
    have HV := Lib.hid (HV.out.trans (hb5.svg g))
    have he3 := keepE he3 (hb5.svg g2) y03 (Nat.le_refl _)
    have z0 := cell_of_heap hx8 0
    have f0 := frozen_of_heap hx8 0
    have z1 := cell_of_heap hx8 1
    have f1 := frozen_of_heap hx8 1
    have z2 := cell_of_heap hx8 2
    have f2 := frozen_of_heap hx8 2
    have z3 := cell_of_heap hx8 3
    have f3 := frozen_of_heap hx8 3
    have z4 := cell_of_heap hx8 4
    have f4 := frozen_of_heap hx8 4
    have z5 := cell_of_heap hx8 5
    have f5 := frozen_of_heap hx8 5
    have z6 := cell_of_heap hx8 6
    have f6 := frozen_of_heap hx8 6
    simp only [List.getElem?_toArray, List.getElem?_cons_zero, List.getElem?_cons_succ] at z0 z1 z2 z3 z4 z5 z6
    go_wp2_with fail
    generalize w3.alloc (.cells #[.int .i64 x.kind, .int .i64 x.op, .int .i64 x.n, .string x.name, .slice q3 x.args.length n3] 40) = W9 at hx5 hx8 HS HV he3 ⊢
    have hnew2 := young_heap (B := w.heap.size) ((sv7 g2 W9 (.int .i64 1) (.string ln) (.string ⟨#[]⟩) (.int .i64 0) (.slice (some ⟨w3.heap.size, 0, none⟩) 1 1) (.slice none 0 0) (.slice none 0 0)).stays hx5 (by omega)) (by omega)
    refine st_fin (x := St.mk 1 ln ⟨#[]⟩ 0 [x] [] []) (q := some ⟨w3.heap.size, 0, none⟩) (cq := 1) (q1 := none) (n1 := 0) (q2 := none) (n2 := 0) (g2 := g2) (w6 := W9) rfl rfl (set7 hx8) (Svg.of HB.out HV.out) (sv7 g2 W9 _ _ _ _ _ _ _) HGS.out.2.2.2.2 (by have := HGS.out; omega) HS.out ?_ ?_ (SAt.nil _ _) (SAt.nil _ _)
    · exact wfS_mk ⟨by decide, by decide⟩ ⟨by decide, by decide⟩ HLS.out (by decide) (Nat.le_of_ble_eq_true rfl) (by decide) (by decide)
    · exact EAt.one (e := x) hnew2 wf3 (keepE he3 (sv7 g2 W9 _ _ _ _ _ _ _) (by omega) (by omega))
  · have HY := Lib.hid hy
    clear hy
    go_enter Tryz.func56, Tryz.ntmps56
    go_upto_region 1 with (fail)
    obtain ⟨n0, n1, n2⟩ := new2 w (scA p1 c1 p2 c2 p3 c3 c) zeroS 61 52
    generalize (w.alloc (.cells (scA p1 c1 p2 c2 p3 c3 c) 61)).alloc (.cells zeroS 52) = W1 at n0 n1 n2 ⊢
    generalize hg2 : w.heap.size + 1 = g2 at n2 ⊢
    generalize hg1 : w.heap.size = g1 at n1 ⊢
    have HB := Lib.hid n0
    have HX1 := Lib.hid n1
    have HX2 := Lib.hid n2
    have HS := Lib.hid (HS0.out.bel n0)
    have HC := Lib.hid (HC0.out.svg (n0.svg g) HS0.out.lt)
    have HGS : Hid (g < w.heap.size ∧ g1 ≠ g ∧ g2 ≠ g ∧ g1 ≠ g2 ∧ w.heap.size ≤ g2) := Lib.hid (by have := HS0.out.lt; omega)
    clear n0 n1 n2 hg1 hg2
    have HV := Lib.hid (Svg.refl g W1)
    have HKEEP : Hid (∀ W' : World, Sv2 g g2 W1 W' → SBox g1 p1 c1 p2 c2 p3 c3 c W') := Lib.hid (fun W' hv => SBox.of (hv.stays HX1.out HGS.out.2.1 HGS.out.2.2.2.1))
    have HSZ : Hid (∀ W' : World, Svg g W1 W' → g < W'.heap.size ∧ g2 < W'.heap.size ∧ w.heap.size ≤ W'.heap.size) := Lib.hid (fun W' hv => by have h1 := hv.size; have h2 := lt_of_heap HX2.out; have h3 := HB.out.size; have h4 := HGS.out.1; omega)
    have HGL : Hid (g < W1.heap.size) := Lib.hid (HSZ.out _ (Svg.refl g W1)).1
    obtain ⟨d0, d1, d2, d3, d4⟩ := HKEEP.out _ (HV.out.two g2)
    go_wp2_with fail
    clear d0 d1 d2 d3 d4
    have hb5 := (Bel.refl W1).alloc #[.string ⟨#[120]⟩, .string ⟨#[121]⟩, .string ⟨#[122]⟩] 9
    have hx5 := heap_alloc_new W1 (.cells #[.string ⟨#[120]⟩, .string ⟨#[121]⟩, .string ⟨#[122]⟩] 9)
    have hg5 : W1.heap.size ≠ g := by have := HS.out.lt; omega
    generalize W1.alloc (.cells #[.string ⟨#[120]⟩, .string ⟨#[121]⟩, .string ⟨#[122]⟩] 9) = W5 at hb5 hx5 ⊢
    generalize W1.heap.size = g5 at hx5 hg5 ⊢
    refine (scname_lit HLN.out W5 (p := some ⟨g5, 0, none⟩) (n := 3) rfl (lit_nm (l := xyz) (mask_heap hx5 hg5) xyz_size) (by decide) (HS.out.bel hb5)).mono ?_
    rintro e w6 ⟨rfl, hv, hs⟩
    have HS := Lib.hid hs
    have HV := Lib.hid ((HV.out.trans (hb5.svg g)).trans hv)
    clear hb5 hx5 hs hv
    go_wp2_with fail
    refine (next_lit HK.out (by decide) _ HS.out).mono ?_
    rintro e w2 ⟨rfl, hv, hs⟩
    have HS := Lib.hid hs
    have HV := Lib.hid (HV.out.trans hv)
    clear hv hs
    obtain ⟨d0, d1, d2, d3, d4⟩ := HKEEP.out _ (HV.out.two g2)
    rw [HY.out] at d4
    go_upto_region 24 with (fail)
    clear d0 d1 d2 d3 d4
    obtain ⟨d0, d1, d2, d3, d4⟩ := HKEEP.out _ (HV.out.two g2)
    go_wp2_with fail
    obtain ⟨y02, y03, y04⟩ := HSZ.out _ HV.out
    refine (E4.out g s0 t x _ p1 p2 p3 c1 c2 c3 HX.out (HC.out.svg HV.out HGL.out) HS.out).mono ?_
    rintro e w3 ⟨q3, n3, rfl, wf3, he3, hv, hs⟩
    have HS := Lib.hid hs
    have HV := Lib.hid (HV.out.trans hv)
    have hsz3 := hv.size
    clear hv hs d0 d1 d2 d3 d4
    have hx7 := HV.out.stays HX2.out HGS.out.2.2.1
    have z0 := cell_of_heap hx7 0
    have f0 := frozen_of_heap hx7 0
    have z1 := cell_of_heap hx7 1
    have f1 := frozen_of_heap hx7 1
    have z2 := cell_of_heap hx7 2
    have f2 := frozen_of_heap hx7 2
    have z3 := cell_of_heap hx7 3
    have f3 := frozen_of_heap hx7 3
    have z4 := cell_of_heap hx7 4
    have f4 := frozen_of_heap hx7 4
    have z5 := cell_of_heap hx7 5
    have f5 := frozen_of_heap hx7 5
    have z6 := cell_of_heap hx7 6
    have f6 := frozen_of_heap hx7 6
    simp only [List.getElem?_toArray, List.getElem?_cons_zero, List.getElem?_cons_succ] at z0 z1 z2 z3 z4 z5 z6
    have hb5 := (Bel.refl w3).alloc #[.int .i64 x.kind, .int .i64 x.op, .int .i64 x.n, .string x.name, .slice q3 x.args.length n3] 40
    have hx5 := heap_alloc_new w3 (.cells #[.int .i64 x.kind, .int .i64 x.op, .int .i64 x.n, .string x.name, .slice q3 x.args.length n3] 40)
    have hx8 := hb5.stays hx7
    have HS := Lib.hid (HS.out.bel hb5)
    have HV := Lib.hid (HV.out.trans (hb5.svg g))
    have he3 := keepE he3 (hb5.svg g2) y03 (Nat.le_refl _)
    have z0 := cell_of_heap hx8 0
    have f0 := frozen_of_heap hx8 0
    have z1 := cell_of_heap hx8 1
    have f1 := frozen_of_heap hx8 1
    have z2 := cell_of_heap hx8 2
    have f2 := frozen_of_heap hx8 2
    have z3 := cell_of_heap hx8 3
    have f3 := frozen_of_heap hx8 3
    have z4 := cell_of_heap hx8 4
    have f4 := frozen_of_heap hx8 4
    have z5 := cell_of_heap hx8 5
    have f5 := frozen_of_heap hx8 5
    have z6 := cell_of_heap hx8 6
    have f6 := frozen_of_heap hx8 6
    simp only [List.getElem?_toArray, List.getElem?_cons_zero, List.getElem?_cons_succ] at z0 z1 z2 z3 z4 z5 z6
    go_wp2_with fail
    generalize w3.alloc (.cells #[.int .i64 x.kind, .int .i64 x.op, .int .i64 x.n, .string x.name, .slice q3 x.args.length n3] 40) = W9 at hx5 hx8 HS HV he3 ⊢
    have hnew2 := young_heap (B := w.heap.size) ((sv7 g2 W9 (.int .i64 1) (.string ln) (.string ⟨#[]⟩) (.int .i64 0) (.slice (some ⟨w3.heap.size, 0, none⟩) 1 1) (.slice none 0 0) (.slice none 0 0)).stays hx5 (by omega)) (by omega)
    refine st_fin (x := St.mk 1 ln ⟨#[]⟩ 0 [x] [] []) (q := some ⟨w3.heap.size, 0, none⟩) (cq := 1) (q1 := none) (n1 := 0) (q2 := none) (n2 := 0) (g2 := g2) (w6 := W9) rfl rfl (set7 hx8) (Svg.of HB.out HV.out) (sv7 g2 W9 _ _ _ _ _ _ _) HGS.out.2.2.2.2 (by have := HGS.out; omega) HS.out ?_ ?_ (SAt.nil _ _) (SAt.nil _ _)
    · exact wfS_mk ⟨by decide, by decide⟩ ⟨by decide, by decide⟩ HLS.out (by decide) (Nat.le_of_ble_eq_true rfl) (by decide) (by decide)
    · exact EAt.one (e := x) hnew2 wf3 (keepE he3 (sv7 g2 W9 _ _ _ _ _ _ _) (by omega) (by omega))
  · have HY := Lib.hid hy
    clear hy
    go_enter Tryz.func56, Tryz.ntmps56
    go_upto_region 1 with (fail)
    obtain ⟨n0, n1, n2⟩ := new2 w (scA p1 c1 p2 c2 p3 c3 c) zeroS 61 52
    generalize (w.alloc (.cells (scA p1 c1 p2 c2 p3 c3 c) 61)).alloc (.cells zeroS 52) = W1 at n0 n1 n2 ⊢
    generalize hg2 : w.heap.size + 1 = g2 at n2 ⊢
    generalize hg1 : w.heap.size = g1 at n1 ⊢
    have HB := Lib.hid n0
    have HX1 := Lib.hid n1
    have HX2 := Lib.hid n2
    have HS := Lib.hid (HS0.out.bel n0)
    have HC := Lib.hid (HC0.out.svg (n0.svg g) HS0.out.lt)
    have HGS : Hid (g < w.heap.size ∧ g1 ≠ g ∧ g2 ≠ g ∧ g1 ≠ g2 ∧ w.heap.size ≤ g2) := Lib.hid (by have := HS0.out.lt; omega)
    clear n0 n1 n2 hg1 hg2
    have HV := Lib.hid (Svg.refl g W1)
    have HKEEP : Hid (∀ W' : World, Sv2 g g2 W1 W' → SBox g1 p1 c1 p2 c2 p3 c3 c W') := Lib.hid (fun W' hv => SBox.of (hv.stays HX1.out HGS.out.2.1 HGS.out.2.2.2.1))
    have HSZ : Hid (∀ W' : World, Svg g W1 W' → g < W'.heap.size ∧ g2 < W'.heap.size ∧ w.heap.size ≤ W'.heap.size) := Lib.hid (fun W' hv => by have h1 := hv.size; have h2 := lt_of_heap HX2.out; have h3 := HB.out.size; have h4 := HGS.out.1; omega)
    have HGL : Hid (g < W1.heap.size) := Lib.hid (HSZ.out _ (Svg.refl g W1)).1
    obtain ⟨d0, d1, d2, d3, d4⟩ := HKEEP.out _ (HV.out.two g2)
    go_wp2_with fail
    clear d0 d1 d2 d3 d4
    have hb5 := (Bel.refl W1).alloc #[.string ⟨#[120]⟩, .string ⟨#[121]⟩, .string ⟨#[122]⟩] 9
    have hx5 := heap_alloc_new W1 (.cells #[.string ⟨#[120]⟩, .string ⟨#[121]⟩, .string ⟨#[122]⟩] 9)
    have hg5 : W1.heap.size ≠ g := by have := HS.out.lt; omega
    generalize W1.alloc (.cells #[.string ⟨#[120]⟩, .string ⟨#[121]⟩, .string ⟨#[122]⟩] 9) = W5 at hb5 hx5 ⊢
    generalize W1.heap.size = g5 at hx5 hg5 ⊢
    refine (scname_lit HLN.out W5 (p := some ⟨g5, 0, none⟩) (n := 3) rfl (lit_nm (l := xyz) (mask_heap hx5 hg5) xyz_size) (by decide) (HS.out.bel hb5)).mono ?_
    rintro e w6 ⟨rfl, hv, hs⟩
    have HS := Lib.hid hs
    have HV := Lib.hid ((HV.out.trans (hb5.svg g)).trans hv)
    clear hb5 hx5 hs hv
    go_wp2_with fail
    refine (next_lit HK.out (by decide) _ HS.out).mono ?_
    rintro e w2 ⟨rfl, hv, hs⟩
    have HS := Lib.hid hs
    have HV := Lib.hid (HV.out.trans hv)
    clear hv hs
    obtain ⟨d0, d1, d2, d3, d4⟩ := HKEEP.out _ (HV.out.two g2)
    rw [HY.out] at d4
    go_upto_region 24 with (fail)
    clear d0 d1 d2 d3 d4
    obtain ⟨d0, d1, d2, d3, d4⟩ := HKEEP.out _ (HV.out.two g2)
    go_wp2_with fail
    obtain ⟨y02, y03, y04⟩ := HSZ.out _ HV.out
    refine (E4.out g s0 t x _ p1 p2 p3 c1 c2 c3 HX.out (HC.out.svg HV.out HGL.out) HS.out).mono ?_
    rintro e w3 ⟨q3, n3, rfl, wf3, he3, hv, hs⟩
    have HS := Lib.hid hs
    have HV := Lib.hid (HV.out.trans hv)
    have hsz3 := hv.size
    clear hv hs d0 d1 d2 d3 d4
    have hx7 := HV.out.stays HX2.out HGS.out.2.2.1
    have z0 := cell_of_heap hx7 0
    have f0 := frozen_of_heap hx7 0
    have z1 := cell_of_heap hx7 1
    have f1 := frozen_of_heap hx7 1
    have z2 := cell_of_heap hx7 2
    have f2 := frozen_of_heap hx7 2
    have z3 := cell_of_heap hx7 3
    have f3 := frozen_of_heap hx7 3
    have z4 := cell_of_heap hx7 4
    have f4 := frozen_of_heap hx7 4
    have z5 := cell_of_heap hx7 5
    have f5 := frozen_of_heap hx7 5
    have z6 := cell_of_heap hx7 6
    have f6 := frozen_of_heap hx7 6
    simp only [List.getElem?_toArray, List.getElem?_cons_zero, List.getElem?_cons_succ] at z0 z1 z2 z3 z4 z5 z6
    have hb5 := (Bel.refl w3).alloc #[.int .i64 x.kind, .int .i64 x.op, .int .i64 x.n, .string x.name, .slice q3 x.args.length n3] 40
    have hx5 := heap_alloc_new w3 (.cells #[.int .i64 x.kind, .int .i64 x.op, .int .i64 x.n, .string x.name, .slice q3 x.args.length n3] 40)
    have hx8 := hb5.stays hx7
    have HS := Lib.hid (HS.out.bel hb5)
    have HV := Lib.hid (HV.out.trans (hb5.svg g))
    have he3 := keepE he3 (hb5.svg g2) y03 (Nat.le_refl _)
    have z0 := cell_of_heap hx8 0
    have f0 := frozen_of_heap hx8 0
    have z1 := cell_of_heap hx8 1
    have f1 := frozen_of_heap hx8 1
    have z2 := cell_of_heap hx8 2
    have f2 := frozen_of_heap hx8 2
    have z3 := cell_of_heap hx8 3
    have f3 := frozen_of_heap hx8 3
    have z4 := cell_of_heap hx8 4
    have f4 := frozen_of_heap hx8 4
    have z5 := cell_of_heap hx8 5
    have f5 := frozen_of_heap hx8 5
    have z6 := cell_of_heap hx8 6
    have f6 := frozen_of_heap hx8 6
    simp only [List.getElem?_toArray, List.getElem?_cons_zero, List.getElem?_cons_succ] at z0 z1 z2 z3 z4 z5 z6
    go_wp2_with fail
    generalize w3.alloc (.cells #[.int .i64 x.kind, .int .i64 x.op, .int .i64 x.n, .string x.name, .slice q3 x.args.length n3] 40) = W9 at hx5 hx8 HS HV he3 ⊢
    have hnew2 := young_heap (B := w.heap.size) ((sv7 g2 W9 (.int .i64 1) (.string ln) (.string ⟨#[]⟩) (.int .i64 0) (.slice (some ⟨w3.heap.size, 0, none⟩) 1 1) (.slice none 0 0) (.slice none 0 0)).stays hx5 (by omega)) (by omega)
    refine st_fin (x := St.mk 1 ln ⟨#[]⟩ 0 [x] [] []) (q := some ⟨w3.heap.size, 0, none⟩) (cq := 1) (q1 := none) (n1 := 0) (q2 := none) (n2 := 0) (g2 := g2) (w6 := W9) rfl rfl (set7 hx8) (Svg.of HB.out HV.out) (sv7 g2 W9 _ _ _ _ _ _ _) HGS.out.2.2.2.2 (by have := HGS.out; omega) HS.out ?_ ?_ (SAt.nil _ _) (SAt.nil _ _)
    · exact wfS_mk ⟨by decide, by decide⟩ ⟨by decide, by decide⟩ HLS.out (by decide) (Nat.le_of_ble_eq_true rfl) (by decide) (by decide)
    · exact EAt.one (e := x) hnew2 wf3 (keepE he3 (sv7 g2 W9 _ _ _ _ _ _ _) (by omega) (by omega))
  · go_enter Tryz.func56, Tryz.ntmps56
    go_upto_region 1 with (fail)
    obtain ⟨n0, n1, n2⟩ := new2 w (scA p1 c1 p2 c2 p3 c3 c) zeroS 61 52
    generalize (w.alloc (.cells (scA p1 c1 p2 c2 p3 c3 c) 61)).alloc (.cells zeroS 52) = W1 at n0 n1 n2 ⊢
    generalize hg2 : w.heap.size + 1 = g2 at n2 ⊢
    generalize hg1 : w.heap.size = g1 at n1 ⊢
    have HB := Lib.hid n0
    have HX1 := Lib.hid n1
    have HX2 := Lib.hid n2
    have HS := Lib.hid (HS0.out.bel n0)
    have HC := Lib.hid (HC0.out.svg (n0.svg g) HS0.out.lt)
    have HGS : Hid (g < w.heap.size ∧ g1 ≠ g ∧ g2 ≠ g ∧ g1 ≠ g2 ∧ w.heap.size ≤ g2) := Lib.hid (by have := HS0.out.lt; omega)
    clear n0 n1 n2 hg1 hg2
    have HV := Lib.hid (Svg.refl g W1)
    have HKEEP : Hid (∀ W' : World, Sv2 g g2 W1 W' → SBox g1 p1 c1 p2 c2 p3 c3 c W') := Lib.hid (fun W' hv => SBox.of (hv.stays HX1.out HGS.out.2.1 HGS.out.2.2.2.1))
    have HSZ : Hid (∀ W' : World, Svg g W1 W' → g < W'.heap.size ∧ g2 < W'.heap.size ∧ w.heap.size ≤ W'.heap.size) := Lib.hid (fun W' hv => by have h1 := hv.size; have h2 := lt_of_heap HX2.out; have h3 := HB.out.size; have h4 := HGS.out.1; omega)
    have HGL : Hid (g < W1.heap.size) := Lib.hid (HSZ.out _ (Svg.refl g W1)).1
    obtain ⟨d0, d1, d2, d3, d4⟩ := HKEEP.out _ (HV.out.two g2)
    go_wp2_with fail
    clear d0 d1 d2 d3 d4
    have hb5 := (Bel.refl W1).alloc #[.string ⟨#[120]⟩, .string ⟨#[121]⟩, .string ⟨#[122]⟩] 9
    have hx5 := heap_alloc_new W1 (.cells #[.string ⟨#[120]⟩, .string ⟨#[121]⟩, .string ⟨#[122]⟩] 9)
    have hg5 : W1.heap.size ≠ g := by have := HS.out.lt; omega
    generalize W1.alloc (.cells #[.string ⟨#[120]⟩, .string ⟨#[121]⟩, .string ⟨#[122]⟩] 9) = W5 at hb5 hx5 ⊢
    generalize W1.heap.size = g5 at hx5 hg5 ⊢
    refine (scname_lit HLN.out W5 (p := some ⟨g5, 0, none⟩) (n := 3) rfl (lit_nm (l := xyz) (mask_heap hx5 hg5) xyz_size) (by decide) (HS.out.bel hb5)).mono ?_
    rintro e w6 ⟨rfl, hv, hs⟩
    have HS := Lib.hid hs
    have HV := Lib.hid ((HV.out.trans (hb5.svg g)).trans hv)
    clear hb5 hx5 hs hv
    go_wp2_with fail
    refine (next_lit HK.out (by decide) _ HS.out).mono ?_
    rintro e w2 ⟨rfl, hv, hs⟩
    have HS := Lib.hid hs
    have HV := Lib.hid (HV.out.trans hv)
    clear hv hs
    obtain ⟨d0, d1, d2, d3, d4⟩ := HKEEP.out _ (HV.out.two g2)
    go_upto_region 24 with (fail)
    clear d0 d1 d2 d3 d4
    obtain ⟨d0, d1, d2, d3, d4⟩ := HKEEP.out _ (HV.out.two g2)
    go_wp2_with fail
    obtain ⟨y02, y03, y04⟩ := HSZ.out _ HV.out
    refine (E4.out g s0 t x _ p1 p2 p3 c1 c2 c3 HX.out (HC.out.svg HV.out HGL.out) HS.out).mono ?_
    rintro e w3 ⟨q3, n3, rfl, wf3, he3, hv, hs⟩
    have HS := Lib.hid hs
    have HV := Lib.hid (HV.out.trans hv)
    have hsz3 := hv.size
    clear hv hs d0 d1 d2 d3 d4
    have hx7 := HV.out.stays HX2.out HGS.out.2.2.1
    have z0 := cell_of_heap hx7 0
    have f0 := frozen_of_heap hx7 0
    have z1 := cell_of_heap hx7 1
    have f1 := frozen_of_heap hx7 1
    have z2 := cell_of_heap hx7 2
    have f2 := frozen_of_heap hx7 2
    have z3 := cell_of_heap hx7 3
    have f3 := frozen_of_heap hx7 3
    have z4 := cell_of_heap hx7 4
    have f4 := frozen_of_heap hx7 4
    have z5 := cell_of_heap hx7 5
    have f5 := frozen_of_heap hx7 5
    have z6 := cell_of_heap hx7 6
    have f6 := frozen_of_heap hx7 6
    simp only [List.getElem?_toArray, List.getElem?_cons_zero, List.getElem?_cons_succ] at z0 z1 z2 z3 z4 z5 z6
    have hb5 := (Bel.refl w3).alloc #[.int .i64 x.kind, .int .i64 x.op, .int .i64 x.n, .string x.name, .slice q3 x.args.length n3] 40
    have hx5 := heap_alloc_new w3 (.cells #[.int .i64 x.kind, .int .i64 x.op, .int .i64 x.n, .string x.name, .slice q3 x.args.length n3] 40)
    have hx8 := hb5.stays hx7
    have HS := Lib.hid (HS.out.bel hb5)
    have HV := Lib.hid (HV.out.trans (hb5.svg g))
    have he3 := keepE he3 (hb5.svg g2) y03 (Nat.le_refl _)
    have z0 := cell_of_heap hx8 0
    have f0 := frozen_of_heap hx8 0
    have z1 := cell_of_heap hx8 1
    have f1 := frozen_of_heap hx8 1
    have z2 := cell_of_heap hx8 2
    have f2 := frozen_of_heap hx8 2
    have z3 := cell_of_heap hx8 3
    have f3 := frozen_of_heap hx8 3
    have z4 := cell_of_heap hx8 4
    have f4 := frozen_of_heap hx8 4
    have z5 := cell_of_heap hx8 5
    have f5 := frozen_of_heap hx8 5
    have z6 := cell_of_heap hx8 6
    have f6 := frozen_of_heap hx8 6
    simp only [List.getElem?_toArray, List.getElem?_cons_zero, List.getElem?_cons_succ] at z0 z1 z2 z3 z4 z5 z6
    go_wp2_with fail
    generalize w3.alloc (.cells #[.int .i64 x.kind, .int .i64 x.op, .int .i64 x.n, .string x.name, .slice q3 x.args.length n3] 40) = W9 at hx5 hx8 HS HV he3 ⊢
    have hnew2 := young_heap (B := w.heap.size) ((sv7 g2 W9 (.int .i64 1) (.string ln) (.string ⟨#[]⟩) (.int .i64 0) (.slice (some ⟨w3.heap.size, 0, none⟩) 1 1) (.slice none 0 0) (.slice none 0 0)).stays hx5 (by omega)) (by omega)
    refine st_fin (x := St.mk 1 ln ⟨#[]⟩ 0 [x] [] []) (q := some ⟨w3.heap.size, 0, none⟩) (cq := 1) (q1 := none) (n1 := 0) (q2 := none) (n2 := 0) (g2 := g2) (w6 := W9) rfl rfl (set7 hx8) (Svg.of HB.out HV.out) (sv7 g2 W9 _ _ _ _ _ _ _) HGS.out.2.2.2.2 (by have := HGS.out; omega) HS.out ?_ ?_ (SAt.nil _ _) (SAt.nil _ _)
    · exact wfS_mk ⟨by decide, by decide⟩ ⟨by decide, by decide⟩ HLS.out (by decide) (Nat.le_of_ble_eq_true rfl) (by decide) (by decide)
    · exact EAt.one (e := x) hnew2 wf3 (keepE he3 (sv7 g2 W9 _ _ _ _ _ _ _) (by omega) (by omega))
  · go_enter Tryz.func56, Tryz.ntmps56
    go_upto_region 1 with (fail)
    obtain ⟨n0, n1, n2⟩ := new2 w (scA p1 c1 p2 c2 p3 c3 c) zeroS 61 52
    generalize (w.alloc (.cells (scA p1 c1 p2 c2 p3 c3 c) 61)).alloc (.cells zeroS 52) = W1 at n0 n1 n2 ⊢
    generalize hg2 : w.heap.size + 1 = g2 at n2 ⊢
    generalize hg1 : w.heap.size = g1 at n1 ⊢
    have HB := Lib.hid n0
    have HX1 := Lib.hid n1
    have HX2 := Lib.hid n2
    have HS := Lib.hid (HS0.out.bel n0)
    have HC := Lib.hid (HC0.out.svg (n0.svg g) HS0.out.lt)
    have HGS : Hid (g < w.heap.size ∧ g1 ≠ g ∧ g2 ≠ g ∧ g1 ≠ g2 ∧ w.heap.size ≤ g2) := Lib.hid (by have := HS0.out.lt; omega)
    clear n0 n1 n2 hg1 hg2
    have HV := Lib.hid (Svg.refl g W1)
    have HKEEP : Hid (∀ W' : World, Sv2 g g2 W1 W' → SBox g1 p1 c1 p2 c2 p3 c3 c W') := Lib.hid (fun W' hv => SBox.of (hv.stays HX1.out HGS.out.2.1 HGS.out.2.2.2.1))
    have HSZ : Hid (∀ W' : World, Svg g W1 W' → g < W'.heap.size ∧ g2 < W'.heap.size ∧ w.heap.size ≤ W'.heap.size) := Lib.hid (fun W' hv => by have h1 := hv.size; have h2 := lt_of_heap HX2.out; have h3 := HB.out.size; have h4 := HGS.out.1; omega)
    have HGL : Hid (g < W1.heap.size) := Lib.hid (HSZ.out _ (Svg.refl g W1)).1
    obtain ⟨d0, d1, d2, d3, d4⟩ := HKEEP.out _ (HV.out.two g2)
    go_wp2_with fail
    clear d0 d1 d2 d3 d4
    have hb5 := (Bel.refl W1).alloc #[.string ⟨#[120]⟩, .string ⟨#[121]⟩, .string ⟨#[122]⟩] 9
    have hx5 := heap_alloc_new W1 (.cells #[.string ⟨#[120]⟩, .string ⟨#[121]⟩, .string ⟨#[122]⟩] 9)
    have hg5 : W1.heap.size ≠ g := by have := HS.out.lt; omega
    generalize W1.alloc (.cells #[.string ⟨#[120]⟩, .string ⟨#[121]⟩, .string ⟨#[122]⟩] 9) = W5 at hb5 hx5 ⊢
    generalize W1.heap.size = g5 at hx5 hg5 ⊢
    refine (scname_lit HLN.out W5 (p := some ⟨g5, 0, none⟩) (n := 3) rfl (lit_nm (l := xyz) (mask_heap hx5 hg5) xyz_size) (by decide) (HS.out.bel hb5)).mono ?_
    rintro e w6 ⟨rfl, hv, hs⟩
    have HS := Lib.hid hs
    have HV := Lib.hid ((HV.out.trans (hb5.svg g)).trans hv)
    clear hb5 hx5 hs hv
    go_wp2_with fail
    refine (next_lit HK.out (by decide) _ HS.out).mono ?_
    rintro e w2 ⟨rfl, hv, hs⟩
    have HS := Lib.hid hs
    have HV := Lib.hid (HV.out.trans hv)
    clear hv hs
    obtain ⟨d0, d1, d2, d3, d4⟩ := HKEEP.out _ (HV.out.two g2)
    go_upto_region 24 with (fail)
    clear d0 d1 d2 d3 d4
    obtain ⟨d0, d1, d2, d3, d4⟩ := HKEEP.out _ (HV.out.two g2)
    go_wp2_with fail
    obtain ⟨y02, y03, y04⟩ := HSZ.out _ HV.out
    refine (E4.out g s0 t x _ p1 p2 p3 c1 c2 c3 HX.out (HC.out.svg HV.out HGL.out) HS.out).mono ?_
    rintro e w3 ⟨q3, n3, rfl, wf3, he3, hv, hs⟩
    have HS := Lib.hid hs
    have HV := Lib.hid (HV.out.trans hv)
    have hsz3 := hv.size
    clear hv hs d0 d1 d2 d3 d4
    have hx7 := HV.out.stays HX2.out HGS.out.2.2.1
    have z0 := cell_of_heap hx7 0
    have f0 := frozen_of_heap hx7 0
    have z1 := cell_of_heap hx7 1
    have f1 := frozen_of_heap hx7 1
    have z2 := cell_of_heap hx7 2
    have f2 := frozen_of_heap hx7 2
    have z3 := cell_of_heap hx7 3
    have f3 := frozen_of_heap hx7 3
    have z4 := cell_of_heap hx7 4
    have f4 := frozen_of_heap hx7 4
    have z5 := cell_of_heap hx7 5
    have f5 := frozen_of_heap hx7 5
    have z6 := cell_of_heap hx7 6
    have f6 := frozen_of_heap hx7 6
    simp only [List.getElem?_toArray, List.getElem?_cons_zero, List.getElem?_cons_succ] at z0 z1 z2 z3 z4 z5 z6
    have hb5 := (Bel.refl w3).alloc #[.int .i64 x.kind, .int .i64 x.op, .int .i64 x.n, .string x.name, .slice q3 x.args.length n3] 40
    have hx5 := heap_alloc_new w3 (.cells #[.int .i64 x.kind, .int .i64 x.op, .int .i64 x.n, .string x.name, .slice q3 x.args.length n3] 40)
    have hx8 := hb5.stays hx7
    have HS := Lib.hid (HS.out.bel hb5)
    have HV := Lib.hid (HV.out.trans (hb5.svg g))
    have he3 := keepE he3 (hb5.svg g2) y03 (Nat.le_refl _)
    have z0 := cell_of_heap hx8 0
    have f0 := frozen_of_heap hx8 0
    have z1 := cell_of_heap hx8 1
    have f1 := frozen_of_heap hx8 1
    have z2 := cell_of_heap hx8 2
    have f2 := frozen_of_heap hx8 2
    have z3 := cell_of_heap hx8 3
    have f3 := frozen_of_heap hx8 3
    have z4 := cell_of_heap hx8 4
    have f4 := frozen_of_heap hx8 4
    have z5 := cell_of_heap hx8 5
    have f5 := frozen_of_heap hx8 5
    have z6 := cell_of_heap hx8 6
    have f6 := frozen_of_heap hx8 6
    simp only [List.getElem?_toArray, List.getElem?_cons_zero, List.getElem?_cons_succ] at z0 z1 z2 z3 z4 z5 z6
    go_wp2_with fail
    generalize w3.alloc (.cells #[.int .i64 x.kind, .int .i64 x.op, .int .i64 x.n, .string x.name, .slice q3 x.args.length n3] 40) = W9 at hx5 hx8 HS HV he3 ⊢
    have hnew2 := young_heap (B := w.heap.size) ((sv7 g2 W9 (.int .i64 1) (.string ln) (.string ⟨#[]⟩) (.int .i64 0) (.slice (some ⟨w3.heap.size, 0, none⟩) 1 1) (.slice none 0 0) (.slice none 0 0)).stays hx5 (by omega)) (by omega)
    refine st_fin (x := St.mk 1 ln ⟨#[]⟩ 0 [x] [] []) (q := some ⟨w3.heap.size, 0, none⟩) (cq := 1) (q1 := none) (n1 := 0) (q2 := none) (n2 := 0) (g2 := g2) (w6 := W9) rfl rfl (set7 hx8) (Svg.of HB.out HV.out) (sv7 g2 W9 _ _ _ _ _ _ _) HGS.out.2.2.2.2 (by have := HGS.out; omega) HS.out ?_ ?_ (SAt.nil _ _) (SAt.nil _ _)
    · exact wfS_mk ⟨by decide, by decide⟩ ⟨by decide, by decide⟩ HLS.out (by decide) (Nat.le_of_ble_eq_true rfl) (by decide) (by decide)
    · exact EAt.one (e := x) hnew2 wf3 (keepE he3 (sv7 g2 W9 _ _ _ _ _ _ _) (by omega) (by omega))
set_option maxRecDepth 100000 in
set_option maxHeartbeats 8000000 in
theorem st_lock1 (c : Sco) (hgc : GoodC c) (D : Int) (hD : 0 ≤ D ∧ D ≤ 100) (g : Nat) (s sl s0 t : List Int) (k : Int) (ln : ByteArray) (d : Nat) (D1 : Int) (R : ByteArray) (s1 : List Int) (tl : List St) (w : World) (p1 p2 p3 : Option Addr) (c1 c2 c3 : Nat) (hln : nameV c xyz s = (ln, sl)) (hls : ln.size ≤ 20) (hk : nx sl 12 = (k, s0)) (hk2 : k = 7 ∨ k = 8) (hy : c.any = true) (hD0 : 0 < D) (hD1 : IntKind.i64.wrap (D - 1) = D1) (hhl : c.held.length + 1 + d ≤ 900) (ih : BAtI D1 d) (hrn : nameV c c.rscs s0 = (R, s1)) (hrs : R.size ≤ 20) (hgd : GoodC { c with held := c.held ++ [R] }) (ht : bodyV d { c with held := c.held ++ [R] } s1 = (tl, t)) (hC : ScAt g w p1 p2 p3 c) (hS : SrcAt g w s) :
    Calls Tryz.prog 56 #[scV p1 c1 p2 c2 p3 c3 c, .pointer (some ⟨g, 0, none⟩), .int .i64 D] w fun e w' => ∃ q cq q1 n1 q2 n2, e = .returned (stV q cq q1 n1 q2 n2 (St.mk 5 R ⟨#[]⟩ 0 [] tl [])) ∧ WfS (St.mk 5 R ⟨#[]⟩ 0 [] tl []) ∧ EAt (young w.heap.size w') q (St.mk 5 R ⟨#[]⟩ 0 [] tl []).args ∧ SAt (young w.heap.size w') q1 (St.mk 5 R ⟨#[]⟩ 0 [] tl []).thn ∧ SAt (young w.heap.size w') q2 (St.mk 5 R ⟨#[]⟩ 0 [] tl []).els ∧ Svg g w w' ∧ SrcAt g w' t := by
  have HC0 := Lib.hid hC
  have HS0 := Lib.hid hS
  have HLN := Lib.hid hln
  have HLS := Lib.hid hls
  have HK := Lib.hid hk
  have HDD := Lib.hid hD
  have HY := Lib.hid hy
  have HRN := Lib.hid hrn
  have HRS := Lib.hid hrs
  have HGD := Lib.hid hgd
  have HT := Lib.hid ht
  clear hC hS hln hls hk hD hy hrn hrs hgd ht
  have IH := Lib.hid ih
  have HHL := Lib.hid hhl
  clear ih hhl
  have hk9 : (k < 2) = False ∧ (k < 5) = False ∧ (k < 7) = False ∧ (k < 9) = True := by rcases hk2 with rfl | rfl <;> simp
  obtain ⟨e2, e5, e7, e9⟩ := hk9
  clear hk2
  go_enter Tryz.func56, Tryz.ntmps56
  go_upto_region 1 with (fail)
  obtain ⟨n0, n1, n2⟩ := new2 w (scA p1 c1 p2 c2 p3 c3 c) zeroS 61 52
  generalize (w.alloc (.cells (scA p1 c1 p2 c2 p3 c3 c) 61)).alloc (.cells zeroS 52) = W1 at n0 n1 n2 ⊢
  generalize hg2 : w.heap.size + 1 = g2 at n2 ⊢
  generalize hg1 : w.heap.size = g1 at n1 ⊢
  have HB := Lib.hid n0
  have HX1 := Lib.hid n1
  have HX2 := Lib.hid n2
  have HS := Lib.hid (HS0.out.bel n0)
  have HC := Lib.hid (HC0.out.svg (n0.svg g) HS0.out.lt)
  have HGS : Hid (g < w.heap.size ∧ g1 ≠ g ∧ g2 ≠ g ∧ g1 ≠ g2 ∧ w.heap.size ≤ g2) := Lib.hid (by have := HS0.out.lt; omega)
  clear n0 n1 n2 hg1 hg2
  have HV := Lib.hid (Svg.refl g W1)
  have HKEEP : Hid (∀ W' : World, Sv2 g g2 W1 W' → SBox g1 p1 c1 p2 c2 p3 c3 c W') := Lib.hid (fun W' hv => SBox.of (hv.stays HX1.out HGS.out.2.1 HGS.out.2.2.2.1))
  have HSZ : Hid (∀ W' : World, Svg g W1 W' → g < W'.heap.size ∧ g2 < W'.heap.size ∧ w.heap.size ≤ W'.heap.size) := Lib.hid (fun W' hv => by have h1 := hv.size; have h2 := lt_of_heap HX2.out; have h3 := HB.out.size; have h4 := HGS.out.1; omega)
  have HGL : Hid (g < W1.heap.size) := Lib.hid (HSZ.out _ (Svg.refl g W1)).1
  obtain ⟨d0, d1, d2, d3, d4⟩ := HKEEP.out _ (HV.out.two g2)
  go_wp2_with fail
  clear d0 d1 d2 d3 d4
  have hb5 := (Bel.refl W1).alloc #[.string ⟨#[120]⟩, .string ⟨#[121]⟩, .string ⟨#[122]⟩] 9
  have hx5 := heap_alloc_new W1 (.cells #[.string ⟨#[120]⟩, .string ⟨#[121]⟩, .string ⟨#[122]⟩] 9)
  have hg5 : W1.heap.size ≠ g := by have := HS.out.lt; omega
  generalize W1.alloc (.cells #[.string ⟨#[120]⟩, .string ⟨#[121]⟩, .string ⟨#[122]⟩] 9) = W5 at hb5 hx5 ⊢
  generalize W1.heap.size = g5 at hx5 hg5 ⊢
  refine (scname_lit HLN.out W5 (p := some ⟨g5, 0, none⟩) (n := 3) rfl (lit_nm (l := xyz) (mask_heap hx5 hg5) xyz_size) (by decide) (HS.out.bel hb5)).mono ?_
  rintro e w6 ⟨rfl, hv, hs⟩
  have HS := Lib.hid hs
  have HV := Lib.hid ((HV.out.trans (hb5.svg g)).trans hv)
  clear hb5 hx5 hs hv
  go_wp2_with fail
  refine (next_lit HK.out (by decide) _ HS.out).mono ?_
  rintro e w2 ⟨rfl, hv, hs⟩
  have HS := Lib.hid hs
  have HV := Lib.hid (HV.out.trans hv)
  clear hv hs
  obtain ⟨d0, d1, d2, d3, d4⟩ := HKEEP.out _ (HV.out.two g2)
  rw [HY.out] at d4
  go_upto_region 10 with (fail)
  clear d0 d1 d2 d3 d4
  clear e2 e5 e7 e9
  obtain ⟨d0, d1, d2, d3, d4⟩ := HKEEP.out _ (HV.out.two g2)
  go_upto_region 11 with (fail)
  clear d0 d1 d2 d3 d4
  have hb9 := (Bel.refl w2).alloc (scA p1 c1 p2 c2 p3 c3 c) 61
  have hx9 := heap_alloc_new w2 (.cells (scA p1 c1 p2 c2 p3 c3 c) 61)
  have hg9 : w2.heap.size ≠ g ∧ W1.heap.size ≤ w2.heap.size := ⟨by have := HS.out.lt; omega, HV.out.size⟩
  generalize w2.alloc (.cells (scA p1 c1 p2 c2 p3 c3 c) 61) = W9 at hb9 hx9 ⊢
  generalize w2.heap.size = g9 at hx9 hg9 ⊢
  have HG9 := Lib.hid hg9
  have HX9 := Lib.hid hx9
  have HS := Lib.hid (HS.out.bel hb9)
  have HV := Lib.hid (HV.out.trans (hb9.svg g))
  clear hb9 hx9 hg9
  obtain ⟨d0, d1, d2, d3, d4⟩ := HKEEP.out _ (HV.out.two g2)
  go_wp2_with fail
  refine (scname_lit HRN.out _ (p := p2) rfl (HC.out.svg HV.out HGL.out).rscs HC.out.lr HS.out).mono ?_
  rintro e w2 ⟨rfl, hv, hs⟩
  have HX9 := Lib.hid (hv.stays HX9.out HG9.out.1)
  have H92 := Lib.hid (lt_of_heap HX9.out)
  have HS := Lib.hid hs
  have HV := Lib.hid (HV.out.trans hv)
  clear hv hs d0 d1 d2 d3 d4
  obtain ⟨d0, d1, d2, d3, d4⟩ := HKEEP.out _ (HV.out.two g2)
  rw [HY.out] at d4
  go_upto_region 16 with (fail)
  clear d0 d1 d2 d3 d4
  have HCN := Lib.hid (HC.out.svg HV.out HGL.out)
  obtain ⟨v1, wb, hr1, ho1, hb1⟩ := clone_new nameTy (w := w2) (src := p3) (m := c.held.length) (c := c3) (r := c.held) rfl ((HCN.out.held.sub (mask_sub g w2)).enc) (Nat.le_trans HCN.out.lh (by decide))
  have hB := heap_alloc_new wb (.cells #[.string R] 9)
  have hbc := (Bel.refl wb).alloc #[.string R] 9
  obtain ⟨v2, wd, hr2, ho2, hsv2⟩ := one_more nameTy (ho1.bel hbc) R (c := 1) hB rfl (Nat.le_trans HCN.out.lh (by decide)) (Nat.le_trans hb1.size hbc.size)
  have hown : ∀ b, v1.ownBlock = some b → w2.heap.size ≤ b := own_ge (ho1.bel hbc)
  have hwd : Bel w2 wd := hsv2.bel (hb1.trans hbc) hown
  obtain ⟨n4, hn44⟩ : ∃ n, n = (c.held ++ [R]).length := ⟨_, rfl⟩
  have HN44 := Lib.hid hn44
  clear hn44
  obtain ⟨p4, c4, rfl, hn4⟩ := nms_own ho2 HN44.out (fun y hy => by
    rcases List.mem_append.1 hy with hy | hy
    · exact HCN.out.held.size y hy
    · rw [List.mem_singleton.1 hy]; exact Nat.le_trans HRS.out (by unfold maxLen; decide))
  have HR1 := Lib.hid hr1
  have HR2 := Lib.hid hr2
  have HWD := Lib.hid hwd
  have HN4 := Lib.hid hn4
  have hx9 := hwd.stays HX9.out
  have HX9 := Lib.hid hx9
  have z0 := cell_of_heap hx9 3
  have f0 := frozen_of_heap hx9 3
  simp only [List.getElem?_toArray, List.getElem?_cons_zero, List.getElem?_cons_succ] at z0
  clear hr1 hr2 hwd hn4 ho1 ho2 hb1 hB hbc hsv2 hown hx9
  obtain ⟨d0, d1, d2, d3, d4⟩ := HKEEP.out _ (HV.out.two g2)
  go_upto_region 17 with (first
    | (at_builtin; refine wpList_app rfl (.const (.slice none 0 0)) (.tmp 119) 59 rfl _ _ _ (by rfl) (by rfl) HR1.out ?_)
    | (at_builtin; refine wpList_app rfl (.tmp 120) (.tmp 122) 59 rfl _ _ _ (by rfl) (by rfl) HR2.out ?_))
  clear d0 d1 d2 d3 d4 z0 f0
  have hse := Svg.set g9 3 wd (.slice p4 n4 c4)
  have hxe : (wd.setCell ⟨g9, 3, none⟩ (.slice p4 n4 c4)).heap[g9]? = some (.cells #[.slice p1 c.devs.length c1, .slice p2 c.rscs.length c2, .int .i64 c.free, .slice p4 n4 c4, .bool c.any] 61 (0, 0)) := by
    have := HX9.out
    simp [World.setCell, Array.getElem?_modify, this]
  have HV := Lib.hid ((hse.two' g).svg' (HV.out.trans (HWD.out.svg g)) HG9.out.2)
  have HS := Lib.hid ((HS.out.bel HWD.out).sv hse (fun b hb => by subst hb; have := (HSZ.out _ (Svg.refl g W1)).1; have := HG9.out.2; omega))
  have hlt9 : g9 < w2.heap.size := H92.out
  have HN5 := Lib.hid ((HN4.out.bel (hse.young hlt9)).sub (maskP_sub2 _ (T := fun k => k == g) (fun k hk => by simp only [beq_iff_eq] at hk; simp only [decide_eq_true_eq]; have := HG9.out; have := (HSZ.out _ (Svg.refl g W1)).1; omega)))
  generalize wd.setCell ⟨g9, 3, none⟩ (.slice p4 n4 c4) = WE at hse hxe HV HS HN5 ⊢
  have HCE := HC.out.svg HV.out HGL.out
  have HSC : Hid (ScAt g WE p1 p2 p4 { c with held := c.held ++ [R] }) := Lib.hid ⟨HCE.devs, HCE.rscs, HN5.out, HCE.ld, HCE.lr, by show (c.held ++ [R]).length ≤ 1000; have := HHL.out; rw [List.length_append, List.length_singleton]; omega, HC.out.lf⟩
  have k0 := cell_of_heap hxe 0
  have k1 := cell_of_heap hxe 1
  have k2 := cell_of_heap hxe 2
  have k3 := cell_of_heap hxe 3
  have k4 := cell_of_heap hxe 4
  simp only [List.getElem?_toArray, List.getElem?_cons_zero, List.getElem?_cons_succ] at k0 k1 k2 k3 k4
  clear hse hxe hlt9 HCE
  go_wp2_with fail
  obtain ⟨y02, y03, y04⟩ := HSZ.out _ HV.out
  have h44 := HN44.out
  subst h44
  refine (IH.out { c with held := c.held ++ [R] } HGD.out (by show (c.held ++ [R]).length + d ≤ 900; have := HHL.out; rw [List.length_append, List.length_singleton]; omega) g s1 t tl WE p1 p2 p4 c1 c2 c4 HT.out HSC.out HS.out).mono ?_
  rintro e w3 ⟨q2, n2, rfl, hl2, he2, hv, hs⟩
  have HS := Lib.hid hs
  have HV := Lib.hid (HV.out.trans hv)
  clear hv hs k0 k1 k2 k3 k4
  have hx7 := HV.out.stays HX2.out HGS.out.2.2.1
  have z0 := cell_of_heap hx7 0
  have f0 := frozen_of_heap hx7 0
  have z1 := cell_of_heap hx7 1
  have f1 := frozen_of_heap hx7 1
  have z2 := cell_of_heap hx7 2
  have f2 := frozen_of_heap hx7 2
  have z3 := cell_of_heap hx7 3
  have f3 := frozen_of_heap hx7 3
  have z4 := cell_of_heap hx7 4
  have f4 := frozen_of_heap hx7 4
  have z5 := cell_of_heap hx7 5
  have f5 := frozen_of_heap hx7 5
  have z6 := cell_of_heap hx7 6
  have f6 := frozen_of_heap hx7 6
  simp only [List.getElem?_toArray, List.getElem?_cons_zero, List.getElem?_cons_succ] at z0 z1 z2 z3 z4 z5 z6
  go_wp2_with fail
  refine st_fin (x := St.mk 5 R ⟨#[]⟩ 0 [] tl []) (q := none) (cq := 0) (q1 := q2) (n1 := n2) (q2 := none) (n2 := 0) (g2 := g2) (w6 := w3) rfl rfl (set7 hx7) (Svg.of HB.out HV.out) (sv7 g2 w3 _ _ _ _ _ _ _) HGS.out.2.2.2.2 (by have := HGS.out; omega) HS.out ?_ (EAt.nil _ _) ?_ (SAt.nil _ _)
  · exact wfS_mk ⟨by decide, by decide⟩ ⟨by decide, by decide⟩ HRS.out (by decide) (by decide) hl2 (by decide)
  · exact keepS he2 (sv7 g2 w3 _ _ _ _ _ _ _) y03 y04
set_option maxRecDepth 100000 in
set_option maxHeartbeats 8000000 in
theorem st_lock2 (c : Sco) (hgc : GoodC c) (D : Int) (hD : 0 ≤ D ∧ D ≤ 100) (g : Nat) (s sl s0 t : List Int) (k : Int) (ln : ByteArray) (d i j : Nat) (D1 F : Int) (r0 R : ByteArray) (s1 s2 : List Int) (tl : List St) (w : World) (p1 p2 p3 : Option Addr) (c1 c2 c3 : Nat) (hln : nameV c xyz s = (ln, sl)) (hls : ln.size ≤ 20) (hk : nx sl 12 = (k, s0)) (hk2 : ((k = 5 ∨ k = 6) ∧ c.held.length = 0) ∨ ((k = 7 ∨ k = 8) ∧ c.held.length = c.held.length)) (hy : c.any = false) (hfl : c.free < c.rscs.length) (hD0 : 0 < D) (hD1 : IntKind.i64.wrap (D - 1) = D1) (hhl : c.held.length + 1 + d ≤ 900) (ih : BAtI D1 d) (hrn : nameV c c.rscs s0 = (r0, s1)) (hi : nx s1 ((c.rscs.length : Int) - (c.free : Int)) = ((i : Int), s2)) (hij : j = c.free + i) (hjl : j < c.rscs.length) (hR : c.rscs[j]? = some R) (hF : F = ((j + 1 : Nat) : Int)) (hrs : R.size ≤ 20) (hgd : GoodC { c with free := j + 1, held := c.held ++ [R] }) (ht : bodyV d { c with free := j + 1, held := c.held ++ [R] } s2 = (tl, t)) (hC : ScAt g w p1 p2 p3 c) (hS : SrcAt g w s) :
    Calls Tryz.prog 56 #[scV p1 c1 p2 c2 p3 c3 c, .pointer (some ⟨g, 0, none⟩), .int .i64 D] w fun e w' => ∃ q cq q1 n1 q2 n2, e = .returned (stV q cq q1 n1 q2 n2 (St.mk 5 R ⟨#[]⟩ 0 [] tl [])) ∧ WfS (St.mk 5 R ⟨#[]⟩ 0 [] tl []) ∧ EAt (young w.heap.size w') q (St.mk 5 R ⟨#[]⟩ 0 [] tl []).args ∧ SAt (young w.heap.size w') q1 (St.mk 5 R ⟨#[]⟩ 0 [] tl []).thn ∧ SAt (young w.heap.size w') q2 (St.mk 5 R ⟨#[]⟩ 0 [] tl []).els ∧ Svg g w w' ∧ SrcAt g w' t := by
  have HC0 := Lib.hid hC
  have HS0 := Lib.hid hS
  have HLN := Lib.hid hln
  have HLS := Lib.hid hls
  have HK := Lib.hid hk
  have HDD := Lib.hid hD
  have HY := Lib.hid hy
  have HRN := Lib.hid hrn
  have HI := Lib.hid hi
  have HIJ := Lib.hid hij
  have HJL := Lib.hid hjl
  have HR := Lib.hid hR
  have HF := Lib.hid hF
  have HRS := Lib.hid hrs
  have HGD := Lib.hid hgd
  have HT := Lib.hid ht
  have HFL := Lib.hid hfl
  clear hC hS hln hls hk hD hy hrn hi hij hjl hR hF hrs hgd ht
  have IH := Lib.hid ih
  have HHL := Lib.hid hhl
  clear ih hhl
  have HLR := Lib.hid HC0.out.lr
  have hq : ∃ K : Bool, ((k < 2) = False ∧ (k < 5) = False ∧ (k < 7) = (K = true) ∧ (k < 9) = True) ∧ (K = true → c.held.length = 0) := by
    rcases hk2 with ⟨h, hl⟩ | ⟨h, _⟩
    · exact ⟨true, by rcases h with rfl | rfl <;> simp, fun _ => hl⟩
    · exact ⟨false, by rcases h with rfl | rfl <;> simp, fun c => by cases c⟩
  obtain ⟨K, ⟨e2, e5, e7, e9⟩, hl⟩ := hq
  clear hk2
  cases K
  · clear hl
    simp only [Bool.false_eq_true] at e7
    go_enter Tryz.func56, Tryz.ntmps56
    go_upto_region 1 with (fail)
    obtain ⟨n0, n1, n2⟩ := new2 w (scA p1 c1 p2 c2 p3 c3 c) zeroS 61 52
    generalize (w.alloc (.cells (scA p1 c1 p2 c2 p3 c3 c) 61)).alloc (.cells zeroS 52) = W1 at n0 n1 n2 ⊢
    generalize hg2 : w.heap.size + 1 = g2 at n2 ⊢
    generalize hg1 : w.heap.size = g1 at n1 ⊢
    have HB := Lib.hid n0
    have HX1 := Lib.hid n1
    have HX2 := Lib.hid n2
    have HS := Lib.hid (HS0.out.bel n0)
    have HC := Lib.hid (HC0.out.svg (n0.svg g) HS0.out.lt)
    have HGS : Hid (g < w.heap.size ∧ g1 ≠ g ∧ g2 ≠ g ∧ g1 ≠ g2 ∧ w.heap.size ≤ g2) := Lib.hid (by have := HS0.out.lt; omega)
    clear n0 n1 n2 hg1 hg2
    have HV := Lib.hid (Svg.refl g W1)
    have HKEEP : Hid (∀ W' : World, Sv2 g g2 W1 W' → SBox g1 p1 c1 p2 c2 p3 c3 c W') := Lib.hid (fun W' hv => SBox.of (hv.stays HX1.out HGS.out.2.1 HGS.out.2.2.2.1))
    have HSZ : Hid (∀ W' : World, Svg g W1 W' → g < W'.heap.size ∧ g2 < W'.heap.size ∧ w.heap.size ≤ W'.heap.size) := Lib.hid (fun W' hv => by have h1 := hv.size; have h2 := lt_of_heap HX2.out; have h3 := HB.out.size; have h4 := HGS.out.1; omega)
    have HGL : Hid (g < W1.heap.size) := Lib.hid (HSZ.out _ (Svg.refl g W1)).1
    obtain ⟨d0, d1, d2, d3, d4⟩ := HKEEP.out _ (HV.out.two g2)
    go_wp2_with fail
    clear d0 d1 d2 d3 d4
    have hb5 := (Bel.refl W1).alloc #[.string ⟨#[120]⟩, .string ⟨#[121]⟩, .string ⟨#[122]⟩] 9
    have hx5 := heap_alloc_new W1 (.cells #[.string ⟨#[120]⟩, .string ⟨#[121]⟩, .string ⟨#[122]⟩] 9)
    have hg5 : W1.heap.size ≠ g := by have := HS.out.lt; omega
    generalize W1.alloc (.cells #[.string ⟨#[120]⟩, .string ⟨#[121]⟩, .string ⟨#[122]⟩] 9) = W5 at hb5 hx5 ⊢
    generalize W1.heap.size = g5 at hx5 hg5 ⊢
    refine (scname_lit HLN.out W5 (p := some ⟨g5, 0, none⟩) (n := 3) rfl (lit_nm (l := xyz) (mask_heap hx5 hg5) xyz_size) (by decide) (HS.out.bel hb5)).mono ?_
    rintro e w6 ⟨rfl, hv, hs⟩
    have HS := Lib.hid hs
    have HV := Lib.hid ((HV.out.trans (hb5.svg g)).trans hv)
    clear hb5 hx5 hs hv
    go_wp2_with fail
    refine (next_lit HK.out (by decide) _ HS.out).mono ?_
    rintro e w2 ⟨rfl, hv, hs⟩
    have HS := Lib.hid hs
    have HV := Lib.hid (HV.out.trans hv)
    clear hv hs
    obtain ⟨d0, d1, d2, d3, d4⟩ := HKEEP.out _ (HV.out.two g2)
    rw [HY.out] at d4
    go_upto_region 10 with (fail)
    clear d0 d1 d2 d3 d4
    clear e2 e5 e7 e9 hfl
    obtain ⟨d0, d1, d2, d3, d4⟩ := HKEEP.out _ (HV.out.two g2)
    go_upto_region 11 with (fail)
    clear d0 d1 d2 d3 d4
    have hb9 := (Bel.refl w2).alloc (scA p1 c1 p2 c2 p3 c3 c) 61
    have hx9 := heap_alloc_new w2 (.cells (scA p1 c1 p2 c2 p3 c3 c) 61)
    have hg9 : w2.heap.size ≠ g ∧ W1.heap.size ≤ w2.heap.size := ⟨by have := HS.out.lt; omega, HV.out.size⟩
    generalize w2.alloc (.cells (scA p1 c1 p2 c2 p3 c3 c) 61) = W9 at hb9 hx9 ⊢
    generalize w2.heap.size = g9 at hx9 hg9 ⊢
    have HG9 := Lib.hid hg9
    have HX9 := Lib.hid hx9
    have HS := Lib.hid (HS.out.bel hb9)
    have HV := Lib.hid (HV.out.trans (hb9.svg g))
    clear hb9 hx9 hg9
    obtain ⟨d0, d1, d2, d3, d4⟩ := HKEEP.out _ (HV.out.two g2)
    go_wp2_with fail
    refine (scname_lit HRN.out _ (p := p2) rfl (HC.out.svg HV.out HGL.out).rscs HC.out.lr HS.out).mono ?_
    rintro e w2 ⟨rfl, hv, hs⟩
    have HX9 := Lib.hid (hv.stays HX9.out HG9.out.1)
    have H92 := Lib.hid (lt_of_heap HX9.out)
    have HS := Lib.hid hs
    have HV := Lib.hid (HV.out.trans hv)
    clear hv hs d0 d1 d2 d3 d4
    obtain ⟨d0, d1, d2, d3, d4⟩ := HKEEP.out _ (HV.out.two g2)
    rw [HY.out] at d4
    go_upto_region 13 with (fail)
    clear d0 d1 d2 d3 d4
    have HNN : Hid (1 ≤ (c.rscs.length : Int) - (c.free : Int)) := Lib.hid (by have := HFL.out; omega)
    have hw1 : IntKind.i64.wrap ((c.rscs.length : Int) - (c.free : Int)) = (c.rscs.length : Int) - (c.free : Int) := IntWalk.i64_in _ (by have := HFL.out; have := HLR.out; constructor <;> omega)
    have hw2 : IntKind.i64.wrap ((c.free : Int) + (i : Int)) = (j : Int) := by have h1 := HIJ.out; have h2 := HJL.out; have h3 := HLR.out; rw [show (c.free : Int) + (i : Int) = (j : Int) by omega]; exact IntWalk.i64_in _ (by constructor <;> omega)
    refine wp_region_held_drew (S := (SBox g1 p1 c1 p2 c2 p3 c3 c)) (by kernel_rfl) (HKEEP.out _ (Svg.two (HV.out.trans ((Bel.refl w2).drew.svg g)) g2)) (fun hS0 => ?_)
    refine takeD 99 (i := 0) (v := ?v80) rfl rfl (by kernel_rfl) (by kernel_rfl) (by kernel_rfl) (fun _ _ _ h => h) (by kernel_rfl) ?hy80 hS0 ?rest80
    case hy80 => (intro w0 hSw; obtain ⟨s0, s1, s2, s3, s4⟩ := hSw; first | (go_simp; done) | (go_simp; with_reducible rfl))
    simp only [List.setIfInBounds_toArray, List.set_cons_zero, List.set_cons_succ]
    refine takeD 100 (i := 1) (v := ?v81) rfl rfl (by kernel_rfl) (by kernel_rfl) (by kernel_rfl) (fun _ _ _ h => h) (by kernel_rfl) ?hy81 hS0 ?rest81
    case hy81 => (intro w0 hSw; obtain ⟨s0, s1, s2, s3, s4⟩ := hSw; first | (go_simp; done) | (go_simp; with_reducible rfl))
    simp only [List.setIfInBounds_toArray, List.set_cons_zero, List.set_cons_succ]
    refine takeD 101 (i := 2) (v := ?v82) rfl rfl (by kernel_rfl) (by kernel_rfl) (by kernel_rfl) (fun _ _ _ h => h) (by kernel_rfl) ?hy82 hS0 ?rest82
    case hy82 => (intro w0 hSw; obtain ⟨s0, s1, s2, s3, s4⟩ := hSw; first | (go_simp; done) | (go_simp; with_reducible rfl))
    simp only [List.setIfInBounds_toArray, List.set_cons_zero, List.set_cons_succ]
    refine takeD 102 (i := 3) (v := ?v83) rfl rfl (by kernel_rfl) (by kernel_rfl) (by kernel_rfl) (fun _ _ _ h => h) (by kernel_rfl) ?hy83 hS0 ?rest83
    case hy83 => (intro w0 hSw; obtain ⟨s0, s1, s2, s3, s4⟩ := hSw; first | (go_simp; done) | (go_simp; with_reducible rfl))
    simp only [List.setIfInBounds_toArray, List.set_cons_zero, List.set_cons_succ]
    refine takeD 103 (i := 4) (v := ?v84) rfl rfl (by kernel_rfl) (by kernel_rfl) (by kernel_rfl) (fun _ _ _ h => h) (by kernel_rfl) ?hy84 hS0 ?rest84
    case hy84 => (intro w0 hSw; obtain ⟨s0, s1, s2, s3, s4⟩ := hSw; first | (go_simp; done) | (go_simp; with_reducible rfl))
    simp only [List.setIfInBounds_toArray, List.set_cons_zero, List.set_cons_succ]
    refine takeD 104 (i := 5) (v := ?v85) rfl rfl (by kernel_rfl) (by kernel_rfl) (by kernel_rfl) (fun _ _ _ h => h) (by kernel_rfl) ?hy85 hS0 ?rest85
    case hy85 => (intro w0 hSw; obtain ⟨s0, s1, s2, s3, s4⟩ := hSw; first | (go_simp; done) | (go_simp; with_reducible rfl))
    simp only [List.setIfInBounds_toArray, List.set_cons_zero, List.set_cons_succ]
    refine takeD 105 (i := 6) (v := ?v86) rfl rfl (by kernel_rfl) (by kernel_rfl) (by kernel_rfl) (fun _ _ _ h => h) (by kernel_rfl) ?hy86 hS0 ?rest86
    case hy86 => (intro w0 hSw; obtain ⟨s0, s1, s2, s3, s4⟩ := hSw; first | (go_simp; done) | (go_simp; with_reducible rfl))
    simp only [List.setIfInBounds_toArray, List.set_cons_zero, List.set_cons_succ]
    refine takeD 106 (i := 7) (v := ?v87) rfl rfl (by kernel_rfl) (by kernel_rfl) (by kernel_rfl) (fun _ _ _ h => h) (by kernel_rfl) ?hy87 hS0 ?rest87
    case hy87 => (intro w0 hSw; obtain ⟨s0, s1, s2, s3, s4⟩ := hSw; first | (go_simp; done) | (go_simp; with_reducible rfl))
    simp only [List.setIfInBounds_toArray, List.set_cons_zero, List.set_cons_succ]
    refine takeD 107 (i := 8) (v := ?v88) rfl rfl (by kernel_rfl) (by kernel_rfl) (by kernel_rfl) (fun _ _ _ h => h) (by kernel_rfl) ?hy88 hS0 ?rest88
    case hy88 => (intro w0 hSw; obtain ⟨s0, s1, s2, s3, s4⟩ := hSw; first | (go_simp; done) | (go_simp; with_reducible rfl))
    simp only [List.setIfInBounds_toArray, List.set_cons_zero, List.set_cons_succ]
    refine onlyD 108 (i := 9) rfl rfl (by kernel_rfl) (by kernel_rfl) (fun K hK => ?_)
    go_simp
    go_at_call 21
    refine (next_lit HI.out HNN.out _ (HS.out.bel (Bel.refl _).drew)).mono ?_
    rintro e w11 ⟨rfl, hv1, hs1⟩
    have hS1 := HKEEP.out _ (Svg.two ((HV.out.trans ((Bel.refl w2).drew.svg g)).trans hv1) g2)
    refine hK.out _ _ hS1 (fun _ => ?_)
    clear hK K
    simp only [List.setIfInBounds_toArray, List.set_cons_zero, List.set_cons_succ]
    refine takeD 109 (i := 10) (v := ?v89) rfl rfl (by kernel_rfl) (by kernel_rfl) (by kernel_rfl) (fun _ _ _ h => h) (by kernel_rfl) ?hy89 hS1 ?rest89
    case hy89 => (intro w0 hSw; obtain ⟨s0, s1, s2, s3, s4⟩ := hSw; first | (go_simp; done) | (go_simp; with_reducible rfl))
    simp only [List.setIfInBounds_toArray, List.set_cons_zero, List.set_cons_succ]
    refine takeD 11 (i := 11) (v := ?v90) rfl rfl (by kernel_rfl) (by kernel_rfl) (by kernel_rfl) (fun _ _ _ h => h) (by kernel_rfl) ?hy90 hS1 ?rest90
    case hy90 => (intro w0 hSw; obtain ⟨s0, s1, s2, s3, s4⟩ := hSw; first | (go_simp; done) | (go_simp; with_reducible rfl))
    simp only [List.setIfInBounds_toArray, List.set_cons_zero, List.set_cons_succ]
    refine wpAnyH_done (by kernel_rfl) ?_ _
    clear hS0 hS1 hw1 hw2
    have HX9 := Lib.hid (hv1.stays ((Bel.refl w2).drew.stays HX9.out) HG9.out.1)
    have H92 := Lib.hid (lt_of_heap HX9.out)
    have HS := Lib.hid hs1
    have HV := Lib.hid (((HV.out.trans ((Bel.refl w2).drew.svg g)).trans hv1))
    clear hv1 hs1
    have HRSC := Lib.hid (HC.out.svg HV.out HGL.out).rscs
    obtain ⟨_, rb, ro, hp2, hrb, hrc⟩ := HRSC.out j R HR.out
    have hrc2 : w11.cell? ⟨rb, ro + j, none⟩ = some (.string R) := (mask_sub g w11).cell _ _ hrb hrc
    clear hrb hrc HRSC
    have HP2 := Lib.hid hp2
    clear hp2
    obtain ⟨d0, d1, d2, d3, d4⟩ := HKEEP.out _ (HV.out.two g2)
    rw [HP2.out] at d1
    have i0 : (0 : Int) ≤ (j : Int) := by omega
    have i1 : (j : Int) < (c.rscs.length : Int) := by have := HJL.out; omega
    have i2 : j < c.rscs.length := HJL.out
    go_upto_region 15 with (fail)
    clear d0 d1 d2 d3 d4 hrc2 i0 i1 i2
    have hx9 := HX9.out
    have z0 := cell_of_heap hx9 2
    have f0 := frozen_of_heap hx9 2
    simp only [List.getElem?_toArray, List.getElem?_cons_zero, List.getElem?_cons_succ] at z0
    have hw3 : IntKind.i64.wrap ((j : Int) + 1) = F := by have h2 := HJL.out; have h3 := HLR.out; rw [HF.out, show (j : Int) + 1 = ((j + 1 : Nat) : Int) by omega]; exact IntWalk.i64_in _ (by constructor <;> omega)
    go_upto_region 16 with (fail)
    clear hw3 z0 f0
    have hse := Svg.set g9 2 w11 (.int .i64 F)
    have hxe : (w11.setCell ⟨g9, 2, none⟩ (.int .i64 F)).heap[g9]? = some (.cells #[.slice p1 c.devs.length c1, .slice p2 c.rscs.length c2, .int .i64 F, .slice p3 c.held.length c3, .bool c.any] 61 (0, 0)) := by
      simp [World.setCell, Array.getElem?_modify, hx9]
    have HV := Lib.hid ((hse.two' g).svg' HV.out HG9.out.2)
    have HS := Lib.hid (HS.out.sv hse (fun b hb => by subst hb; have := (HSZ.out _ (Svg.refl g W1)).1; have := HG9.out.2; omega))
    generalize w11.setCell ⟨g9, 2, none⟩ (.int .i64 F) = w2' at hse hxe HV HS ⊢
    have HX9 := Lib.hid hxe
    have H92 := Lib.hid (lt_of_heap hxe)
    clear hse hxe hx9
    have HCN := Lib.hid (HC.out.svg HV.out HGL.out)
    obtain ⟨v1, wb, hr1, ho1, hb1⟩ := clone_new nameTy (w := w2') (src := p3) (m := c.held.length) (c := c3) (r := c.held) rfl ((HCN.out.held.sub (mask_sub g w2')).enc) (Nat.le_trans HCN.out.lh (by decide))
    have hB := heap_alloc_new wb (.cells #[.string R] 9)
    have hbc := (Bel.refl wb).alloc #[.string R] 9
    obtain ⟨v2, wd, hr2, ho2, hsv2⟩ := one_more nameTy (ho1.bel hbc) R (c := 1) hB rfl (Nat.le_trans HCN.out.lh (by decide)) (Nat.le_trans hb1.size hbc.size)
    have hown : ∀ b, v1.ownBlock = some b → w2'.heap.size ≤ b := own_ge (ho1.bel hbc)
    have hwd : Bel w2' wd := hsv2.bel (hb1.trans hbc) hown
    obtain ⟨n4, hn44⟩ : ∃ n, n = (c.held ++ [R]).length := ⟨_, rfl⟩
    have HN44 := Lib.hid hn44
    clear hn44
    obtain ⟨p4, c4, rfl, hn4⟩ := nms_own ho2 HN44.out (fun y hy => by
      rcases List.mem_append.1 hy with hy | hy
      · exact HCN.out.held.size y hy
      · rw [List.mem_singleton.1 hy]; exact Nat.le_trans HRS.out (by unfold maxLen; decide))
    have HR1 := Lib.hid hr1
    have HR2 := Lib.hid hr2
    have HWD := Lib.hid hwd
    have HN4 := Lib.hid hn4
    have hx9 := hwd.stays HX9.out
    have HX9 := Lib.hid hx9
    have z0 := cell_of_heap hx9 3
    have f0 := frozen_of_heap hx9 3
    simp only [List.getElem?_toArray, List.getElem?_cons_zero, List.getElem?_cons_succ] at z0
    clear hr1 hr2 hwd hn4 ho1 ho2 hb1 hB hbc hsv2 hown hx9
    obtain ⟨d0, d1, d2, d3, d4⟩ := HKEEP.out _ (HV.out.two g2)
    go_upto_region 17 with (first
      | (at_builtin; refine wpList_app rfl (.const (.slice none 0 0)) (.tmp 119) 59 rfl _ _ _ (by rfl) (by rfl) HR1.out ?_)
      | (at_builtin; refine wpList_app rfl (.tmp 120) (.tmp 122) 59 rfl _ _ _ (by rfl) (by rfl) HR2.out ?_))
    clear d0 d1 d2 d3 d4 z0 f0
    have hse := Svg.set g9 3 wd (.slice p4 n4 c4)
    have hxe : (wd.setCell ⟨g9, 3, none⟩ (.slice p4 n4 c4)).heap[g9]? = some (.cells #[.slice p1 c.devs.length c1, .slice p2 c.rscs.length c2, .int .i64 F, .slice p4 n4 c4, .bool c.any] 61 (0, 0)) := by
      have := HX9.out
      simp [World.setCell, Array.getElem?_modify, this]
    have HV := Lib.hid ((hse.two' g).svg' (HV.out.trans (HWD.out.svg g)) HG9.out.2)
    have HS := Lib.hid ((HS.out.bel HWD.out).sv hse (fun b hb => by subst hb; have := (HSZ.out _ (Svg.refl g W1)).1; have := HG9.out.2; omega))
    have hlt9 : g9 < w2'.heap.size := H92.out
    have HN5 := Lib.hid ((HN4.out.bel (hse.young hlt9)).sub (maskP_sub2 _ (T := fun k => k == g) (fun k hk => by simp only [beq_iff_eq] at hk; simp only [decide_eq_true_eq]; have := HG9.out; have := (HSZ.out _ (Svg.refl g W1)).1; omega)))
    generalize wd.setCell ⟨g9, 3, none⟩ (.slice p4 n4 c4) = WE at hse hxe HV HS HN5 ⊢
    have HCE := HC.out.svg HV.out HGL.out
    have HSC : Hid (ScAt g WE p1 p2 p4 { c with free := j + 1, held := c.held ++ [R] }) := Lib.hid ⟨HCE.devs, HCE.rscs, HN5.out, HCE.ld, HCE.lr, by show (c.held ++ [R]).length ≤ 1000; have := HHL.out; rw [List.length_append, List.length_singleton]; omega, (by show j + 1 ≤ 1000; have := HJL.out; have := HLR.out; omega)⟩
    have k0 := cell_of_heap hxe 0
    have k1 := cell_of_heap hxe 1
    have k2 := cell_of_heap hxe 2
    have k3 := cell_of_heap hxe 3
    have k4 := cell_of_heap hxe 4
    simp only [List.getElem?_toArray, List.getElem?_cons_zero, List.getElem?_cons_succ] at k0 k1 k2 k3 k4
    clear hse hxe hlt9 HCE
    go_wp2_with fail
    obtain ⟨y02, y03, y04⟩ := HSZ.out _ HV.out
    have hff := HF.out
    subst hff
    have h44 := HN44.out
    subst h44
    refine (IH.out { c with free := j + 1, held := c.held ++ [R] } HGD.out (by show (c.held ++ [R]).length + d ≤ 900; have := HHL.out; rw [List.length_append, List.length_singleton]; omega) g s2 t tl WE p1 p2 p4 c1 c2 c4 HT.out HSC.out HS.out).mono ?_
    rintro e w3 ⟨q2, n2, rfl, hl2, he2, hv, hs⟩
    have HS := Lib.hid hs
    have HV := Lib.hid (HV.out.trans hv)
    clear hv hs k0 k1 k2 k3 k4
    have hx7 := HV.out.stays HX2.out HGS.out.2.2.1
    have z0 := cell_of_heap hx7 0
    have f0 := frozen_of_heap hx7 0
    have z1 := cell_of_heap hx7 1
    have f1 := frozen_of_heap hx7 1
    have z2 := cell_of_heap hx7 2
    have f2 := frozen_of_heap hx7 2
    have z3 := cell_of_heap hx7 3
    have f3 := frozen_of_heap hx7 3
    have z4 := cell_of_heap hx7 4
    have f4 := frozen_of_heap hx7 4
    have z5 := cell_of_heap hx7 5
    have f5 := frozen_of_heap hx7 5
    have z6 := cell_of_heap hx7 6
    have f6 := frozen_of_heap hx7 6
    simp only [List.getElem?_toArray, List.getElem?_cons_zero, List.getElem?_cons_succ] at z0 z1 z2 z3 z4 z5 z6
    go_wp2_with fail
    refine st_fin (x := St.mk 5 R ⟨#[]⟩ 0 [] tl []) (q := none) (cq := 0) (q1 := q2) (n1 := n2) (q2 := none) (n2 := 0) (g2 := g2) (w6 := w3) rfl rfl (set7 hx7) (Svg.of HB.out HV.out) (sv7 g2 w3 _ _ _ _ _ _ _) HGS.out.2.2.2.2 (by have := HGS.out; omega) HS.out ?_ (EAt.nil _ _) ?_ (SAt.nil _ _)
    · exact wfS_mk ⟨by decide, by decide⟩ ⟨by decide, by decide⟩ HRS.out (by decide) (by decide) hl2 (by decide)
    · exact keepS he2 (sv7 g2 w3 _ _ _ _ _ _ _) y03 y04
  · have HLL := Lib.hid (hl rfl)
    clear hl
    simp only [eq_self_iff_true] at e7
    go_enter Tryz.func56, Tryz.ntmps56
    go_upto_region 1 with (fail)
    obtain ⟨n0, n1, n2⟩ := new2 w (scA p1 c1 p2 c2 p3 c3 c) zeroS 61 52
    generalize (w.alloc (.cells (scA p1 c1 p2 c2 p3 c3 c) 61)).alloc (.cells zeroS 52) = W1 at n0 n1 n2 ⊢
    generalize hg2 : w.heap.size + 1 = g2 at n2 ⊢
    generalize hg1 : w.heap.size = g1 at n1 ⊢
    have HB := Lib.hid n0
    have HX1 := Lib.hid n1
    have HX2 := Lib.hid n2
    have HS := Lib.hid (HS0.out.bel n0)
    have HC := Lib.hid (HC0.out.svg (n0.svg g) HS0.out.lt)
    have HGS : Hid (g < w.heap.size ∧ g1 ≠ g ∧ g2 ≠ g ∧ g1 ≠ g2 ∧ w.heap.size ≤ g2) := Lib.hid (by have := HS0.out.lt; omega)
    clear n0 n1 n2 hg1 hg2
    have HV := Lib.hid (Svg.refl g W1)
    have HKEEP : Hid (∀ W' : World, Sv2 g g2 W1 W' → SBox g1 p1 c1 p2 c2 p3 c3 c W') := Lib.hid (fun W' hv => SBox.of (hv.stays HX1.out HGS.out.2.1 HGS.out.2.2.2.1))
    have HSZ : Hid (∀ W' : World, Svg g W1 W' → g < W'.heap.size ∧ g2 < W'.heap.size ∧ w.heap.size ≤ W'.heap.size) := Lib.hid (fun W' hv => by have h1 := hv.size; have h2 := lt_of_heap HX2.out; have h3 := HB.out.size; have h4 := HGS.out.1; omega)
    have HGL : Hid (g < W1.heap.size) := Lib.hid (HSZ.out _ (Svg.refl g W1)).1
    obtain ⟨d0, d1, d2, d3, d4⟩ := HKEEP.out _ (HV.out.two g2)
    go_wp2_with fail
    clear d0 d1 d2 d3 d4
    have hb5 := (Bel.refl W1).alloc #[.string ⟨#[120]⟩, .string ⟨#[121]⟩, .string ⟨#[122]⟩] 9
    have hx5 := heap_alloc_new W1 (.cells #[.string ⟨#[120]⟩, .string ⟨#[121]⟩, .string ⟨#[122]⟩] 9)
    have hg5 : W1.heap.size ≠ g := by have := HS.out.lt; omega
    generalize W1.alloc (.cells #[.string ⟨#[120]⟩, .string ⟨#[121]⟩, .string ⟨#[122]⟩] 9) = W5 at hb5 hx5 ⊢
    generalize W1.heap.size = g5 at hx5 hg5 ⊢
    refine (scname_lit HLN.out W5 (p := some ⟨g5, 0, none⟩) (n := 3) rfl (lit_nm (l := xyz) (mask_heap hx5 hg5) xyz_size) (by decide) (HS.out.bel hb5)).mono ?_
    rintro e w6 ⟨rfl, hv, hs⟩
    have HS := Lib.hid hs
    have HV := Lib.hid ((HV.out.trans (hb5.svg g)).trans hv)
    clear hb5 hx5 hs hv
    go_wp2_with fail
    refine (next_lit HK.out (by decide) _ HS.out).mono ?_
    rintro e w2 ⟨rfl, hv, hs⟩
    have HS := Lib.hid hs
    have HV := Lib.hid (HV.out.trans hv)
    clear hv hs
    obtain ⟨d0, d1, d2, d3, d4⟩ := HKEEP.out _ (HV.out.two g2)
    rw [HY.out] at d4
    rw [HLL.out] at d3
    go_upto_region 10 with (fail)
    clear d0 d1 d2 d3 d4
    clear e2 e5 e7 e9 hfl
    obtain ⟨d0, d1, d2, d3, d4⟩ := HKEEP.out _ (HV.out.two g2)
    go_upto_region 11 with (fail)
    clear d0 d1 d2 d3 d4
    have hb9 := (Bel.refl w2).alloc (scA p1 c1 p2 c2 p3 c3 c) 61
    have hx9 := heap_alloc_new w2 (.cells (scA p1 c1 p2 c2 p3 c3 c) 61)
    have hg9 : w2.heap.size ≠ g ∧ W1.heap.size ≤ w2.heap.size := ⟨by have := HS.out.lt; omega, HV.out.size⟩
    generalize w2.alloc (.cells (scA p1 c1 p2 c2 p3 c3 c) 61) = W9 at hb9 hx9 ⊢
    generalize w2.heap.size = g9 at hx9 hg9 ⊢
    have HG9 := Lib.hid hg9
    have HX9 := Lib.hid hx9
    have HS := Lib.hid (HS.out.bel hb9)
    have HV := Lib.hid (HV.out.trans (hb9.svg g))
    clear hb9 hx9 hg9
    obtain ⟨d0, d1, d2, d3, d4⟩ := HKEEP.out _ (HV.out.two g2)
    go_wp2_with fail
    refine (scname_lit HRN.out _ (p := p2) rfl (HC.out.svg HV.out HGL.out).rscs HC.out.lr HS.out).mono ?_
    rintro e w2 ⟨rfl, hv, hs⟩
    have HX9 := Lib.hid (hv.stays HX9.out HG9.out.1)
    have H92 := Lib.hid (lt_of_heap HX9.out)
    have HS := Lib.hid hs
    have HV := Lib.hid (HV.out.trans hv)
    clear hv hs d0 d1 d2 d3 d4
    obtain ⟨d0, d1, d2, d3, d4⟩ := HKEEP.out _ (HV.out.two g2)
    rw [HY.out] at d4
    go_upto_region 13 with (fail)
    clear d0 d1 d2 d3 d4
    have HNN : Hid (1 ≤ (c.rscs.length : Int) - (c.free : Int)) := Lib.hid (by have := HFL.out; omega)
    have hw1 : IntKind.i64.wrap ((c.rscs.length : Int) - (c.free : Int)) = (c.rscs.length : Int) - (c.free : Int) := IntWalk.i64_in _ (by have := HFL.out; have := HLR.out; constructor <;> omega)
    have hw2 : IntKind.i64.wrap ((c.free : Int) + (i : Int)) = (j : Int) := by have h1 := HIJ.out; have h2 := HJL.out; have h3 := HLR.out; rw [show (c.free : Int) + (i : Int) = (j : Int) by omega]; exact IntWalk.i64_in _ (by constructor <;> omega)
    refine wp_region_held_drew (S := (SBox g1 p1 c1 p2 c2 p3 c3 c)) (by kernel_rfl) (HKEEP.out _ (Svg.two (HV.out.trans ((Bel.refl w2).drew.svg g)) g2)) (fun hS0 => ?_)
    refine takeD 99 (i := 0) (v := ?v91) rfl rfl (by kernel_rfl) (by kernel_rfl) (by kernel_rfl) (fun _ _ _ h => h) (by kernel_rfl) ?hy91 hS0 ?rest91
    case hy91 => (intro w0 hSw; obtain ⟨s0, s1, s2, s3, s4⟩ := hSw; first | (go_simp; done) | (go_simp; with_reducible rfl))
    simp only [List.setIfInBounds_toArray, List.set_cons_zero, List.set_cons_succ]
    refine takeD 100 (i := 1) (v := ?v92) rfl rfl (by kernel_rfl) (by kernel_rfl) (by kernel_rfl) (fun _ _ _ h => h) (by kernel_rfl) ?hy92 hS0 ?rest92
    case hy92 => (intro w0 hSw; obtain ⟨s0, s1, s2, s3, s4⟩ := hSw; first | (go_simp; done) | (go_simp; with_reducible rfl))
    simp only [List.setIfInBounds_toArray, List.set_cons_zero, List.set_cons_succ]
    refine takeD 101 (i := 2) (v := ?v93) rfl rfl (by kernel_rfl) (by kernel_rfl) (by kernel_rfl) (fun _ _ _ h => h) (by kernel_rfl) ?hy93 hS0 ?rest93
    case hy93 => (intro w0 hSw; obtain ⟨s0, s1, s2, s3, s4⟩ := hSw; first | (go_simp; done) | (go_simp; with_reducible rfl))
    simp only [List.setIfInBounds_toArray, List.set_cons_zero, List.set_cons_succ]
    refine takeD 102 (i := 3) (v := ?v94) rfl rfl (by kernel_rfl) (by kernel_rfl) (by kernel_rfl) (fun _ _ _ h => h) (by kernel_rfl) ?hy94 hS0 ?rest94
    case hy94 => (intro w0 hSw; obtain ⟨s0, s1, s2, s3, s4⟩ := hSw; first | (go_simp; done) | (go_simp; with_reducible rfl))
    simp only [List.setIfInBounds_toArray, List.set_cons_zero, List.set_cons_succ]
    refine takeD 103 (i := 4) (v := ?v95) rfl rfl (by kernel_rfl) (by kernel_rfl) (by kernel_rfl) (fun _ _ _ h => h) (by kernel_rfl) ?hy95 hS0 ?rest95
    case hy95 => (intro w0 hSw; obtain ⟨s0, s1, s2, s3, s4⟩ := hSw; first | (go_simp; done) | (go_simp; with_reducible rfl))
    simp only [List.setIfInBounds_toArray, List.set_cons_zero, List.set_cons_succ]
    refine takeD 104 (i := 5) (v := ?v96) rfl rfl (by kernel_rfl) (by kernel_rfl) (by kernel_rfl) (fun _ _ _ h => h) (by kernel_rfl) ?hy96 hS0 ?rest96
    case hy96 => (intro w0 hSw; obtain ⟨s0, s1, s2, s3, s4⟩ := hSw; first | (go_simp; done) | (go_simp; with_reducible rfl))
    simp only [List.setIfInBounds_toArray, List.set_cons_zero, List.set_cons_succ]
    refine takeD 105 (i := 6) (v := ?v97) rfl rfl (by kernel_rfl) (by kernel_rfl) (by kernel_rfl) (fun _ _ _ h => h) (by kernel_rfl) ?hy97 hS0 ?rest97
    case hy97 => (intro w0 hSw; obtain ⟨s0, s1, s2, s3, s4⟩ := hSw; first | (go_simp; done) | (go_simp; with_reducible rfl))
    simp only [List.setIfInBounds_toArray, List.set_cons_zero, List.set_cons_succ]
    refine takeD 106 (i := 7) (v := ?v98) rfl rfl (by kernel_rfl) (by kernel_rfl) (by kernel_rfl) (fun _ _ _ h => h) (by kernel_rfl) ?hy98 hS0 ?rest98
    case hy98 => (intro w0 hSw; obtain ⟨s0, s1, s2, s3, s4⟩ := hSw; first | (go_simp; done) | (go_simp; with_reducible rfl))
    simp only [List.setIfInBounds_toArray, List.set_cons_zero, List.set_cons_succ]
    refine takeD 107 (i := 8) (v := ?v99) rfl rfl (by kernel_rfl) (by kernel_rfl) (by kernel_rfl) (fun _ _ _ h => h) (by kernel_rfl) ?hy99 hS0 ?rest99
    case hy99 => (intro w0 hSw; obtain ⟨s0, s1, s2, s3, s4⟩ := hSw; first | (go_simp; done) | (go_simp; with_reducible rfl))
    simp only [List.setIfInBounds_toArray, List.set_cons_zero, List.set_cons_succ]
    refine onlyD 108 (i := 9) rfl rfl (by kernel_rfl) (by kernel_rfl) (fun K hK => ?_)
    go_simp
    go_at_call 21
    refine (next_lit HI.out HNN.out _ (HS.out.bel (Bel.refl _).drew)).mono ?_
    rintro e w11 ⟨rfl, hv1, hs1⟩
    have hS1 := HKEEP.out _ (Svg.two ((HV.out.trans ((Bel.refl w2).drew.svg g)).trans hv1) g2)
    refine hK.out _ _ hS1 (fun _ => ?_)
    clear hK K
    simp only [List.setIfInBounds_toArray, List.set_cons_zero, List.set_cons_succ]
    refine takeD 109 (i := 10) (v := ?v100) rfl rfl (by kernel_rfl) (by kernel_rfl) (by kernel_rfl) (fun _ _ _ h => h) (by kernel_rfl) ?hy100 hS1 ?rest100
    case hy100 => (intro w0 hSw; obtain ⟨s0, s1, s2, s3, s4⟩ := hSw; first | (go_simp; done) | (go_simp; with_reducible rfl))
    simp only [List.setIfInBounds_toArray, List.set_cons_zero, List.set_cons_succ]
    refine takeD 11 (i := 11) (v := ?v101) rfl rfl (by kernel_rfl) (by kernel_rfl) (by kernel_rfl) (fun _ _ _ h => h) (by kernel_rfl) ?hy101 hS1 ?rest101
    case hy101 => (intro w0 hSw; obtain ⟨s0, s1, s2, s3, s4⟩ := hSw; first | (go_simp; done) | (go_simp; with_reducible rfl))
    simp only [List.setIfInBounds_toArray, List.set_cons_zero, List.set_cons_succ]
    refine wpAnyH_done (by kernel_rfl) ?_ _
    clear hS0 hS1 hw1 hw2
    have HX9 := Lib.hid (hv1.stays ((Bel.refl w2).drew.stays HX9.out) HG9.out.1)
    have H92 := Lib.hid (lt_of_heap HX9.out)
    have HS := Lib.hid hs1
    have HV := Lib.hid (((HV.out.trans ((Bel.refl w2).drew.svg g)).trans hv1))
    clear hv1 hs1
    have HRSC := Lib.hid (HC.out.svg HV.out HGL.out).rscs
    obtain ⟨_, rb, ro, hp2, hrb, hrc⟩ := HRSC.out j R HR.out
    have hrc2 : w11.cell? ⟨rb, ro + j, none⟩ = some (.string R) := (mask_sub g w11).cell _ _ hrb hrc
    clear hrb hrc HRSC
    have HP2 := Lib.hid hp2
    clear hp2
    obtain ⟨d0, d1, d2, d3, d4⟩ := HKEEP.out _ (HV.out.two g2)
    rw [HP2.out] at d1
    have i0 : (0 : Int) ≤ (j : Int) := by omega
    have i1 : (j : Int) < (c.rscs.length : Int) := by have := HJL.out; omega
    have i2 : j < c.rscs.length := HJL.out
    go_upto_region 15 with (fail)
    clear d0 d1 d2 d3 d4 hrc2 i0 i1 i2
    have hx9 := HX9.out
    have z0 := cell_of_heap hx9 2
    have f0 := frozen_of_heap hx9 2
    simp only [List.getElem?_toArray, List.getElem?_cons_zero, List.getElem?_cons_succ] at z0
    have hw3 : IntKind.i64.wrap ((j : Int) + 1) = F := by have h2 := HJL.out; have h3 := HLR.out; rw [HF.out, show (j : Int) + 1 = ((j + 1 : Nat) : Int) by omega]; exact IntWalk.i64_in _ (by constructor <;> omega)
    go_upto_region 16 with (fail)
    clear hw3 z0 f0
    have hse := Svg.set g9 2 w11 (.int .i64 F)
    have hxe : (w11.setCell ⟨g9, 2, none⟩ (.int .i64 F)).heap[g9]? = some (.cells #[.slice p1 c.devs.length c1, .slice p2 c.rscs.length c2, .int .i64 F, .slice p3 c.held.length c3, .bool c.any] 61 (0, 0)) := by
      simp [World.setCell, Array.getElem?_modify, hx9]
    have HV := Lib.hid ((hse.two' g).svg' HV.out HG9.out.2)
    have HS := Lib.hid (HS.out.sv hse (fun b hb => by subst hb; have := (HSZ.out _ (Svg.refl g W1)).1; have := HG9.out.2; omega))
    generalize w11.setCell ⟨g9, 2, none⟩ (.int .i64 F) = w2' at hse hxe HV HS ⊢
    have HX9 := Lib.hid hxe
    have H92 := Lib.hid (lt_of_heap hxe)
    clear hse hxe hx9
    have HCN := Lib.hid (HC.out.svg HV.out HGL.out)
    obtain ⟨v1, wb, hr1, ho1, hb1⟩ := clone_new nameTy (w := w2') (src := p3) (m := c.held.length) (c := c3) (r := c.held) rfl ((HCN.out.held.sub (mask_sub g w2')).enc) (Nat.le_trans HCN.out.lh (by decide))
    have hB := heap_alloc_new wb (.cells #[.string R] 9)
    have hbc := (Bel.refl wb).alloc #[.string R] 9
    obtain ⟨v2, wd, hr2, ho2, hsv2⟩ := one_more nameTy (ho1.bel hbc) R (c := 1) hB rfl (Nat.le_trans HCN.out.lh (by decide)) (Nat.le_trans hb1.size hbc.size)
    have hown : ∀ b, v1.ownBlock = some b → w2'.heap.size ≤ b := own_ge (ho1.bel hbc)
    have hwd : Bel w2' wd := hsv2.bel (hb1.trans hbc) hown
    obtain ⟨n4, hn44⟩ : ∃ n, n = (c.held ++ [R]).length := ⟨_, rfl⟩
    have HN44 := Lib.hid hn44
    clear hn44
    obtain ⟨p4, c4, rfl, hn4⟩ := nms_own ho2 HN44.out (fun y hy => by
      rcases List.mem_append.1 hy with hy | hy
      · exact HCN.out.held.size y hy
      · rw [List.mem_singleton.1 hy]; exact Nat.le_trans HRS.out (by unfold maxLen; decide))
    have HR1 := Lib.hid hr1
    have HR2 := Lib.hid hr2
    have HWD := Lib.hid hwd
    have HN4 := Lib.hid hn4
    have hx9 := hwd.stays HX9.out
    have HX9 := Lib.hid hx9
    have z0 := cell_of_heap hx9 3
    have f0 := frozen_of_heap hx9 3
    simp only [List.getElem?_toArray, List.getElem?_cons_zero, List.getElem?_cons_succ] at z0
    clear hr1 hr2 hwd hn4 ho1 ho2 hb1 hB hbc hsv2 hown hx9
    obtain ⟨d0, d1, d2, d3, d4⟩ := HKEEP.out _ (HV.out.two g2)
    go_upto_region 17 with (first
      | (at_builtin; refine wpList_app rfl (.const (.slice none 0 0)) (.tmp 119) 59 rfl _ _ _ (by rfl) (by rfl) HR1.out ?_)
      | (at_builtin; refine wpList_app rfl (.tmp 120) (.tmp 122) 59 rfl _ _ _ (by rfl) (by rfl) HR2.out ?_))
    clear d0 d1 d2 d3 d4 z0 f0
    have hse := Svg.set g9 3 wd (.slice p4 n4 c4)
    have hxe : (wd.setCell ⟨g9, 3, none⟩ (.slice p4 n4 c4)).heap[g9]? = some (.cells #[.slice p1 c.devs.length c1, .slice p2 c.rscs.length c2, .int .i64 F, .slice p4 n4 c4, .bool c.any] 61 (0, 0)) := by
      have := HX9.out
      simp [World.setCell, Array.getElem?_modify, this]
    have HV := Lib.hid ((hse.two' g).svg' (HV.out.trans (HWD.out.svg g)) HG9.out.2)
    have HS := Lib.hid ((HS.out.bel HWD.out).sv hse (fun b hb => by subst hb; have := (HSZ.out _ (Svg.refl g W1)).1; have := HG9.out.2; omega))
    have hlt9 : g9 < w2'.heap.size := H92.out
    have HN5 := Lib.hid ((HN4.out.bel (hse.young hlt9)).sub (maskP_sub2 _ (T := fun k => k == g) (fun k hk => by simp only [beq_iff_eq] at hk; simp only [decide_eq_true_eq]; have := HG9.out; have := (HSZ.out _ (Svg.refl g W1)).1; omega)))
    generalize wd.setCell ⟨g9, 3, none⟩ (.slice p4 n4 c4) = WE at hse hxe HV HS HN5 ⊢
    have HCE := HC.out.svg HV.out HGL.out
    have HSC : Hid (ScAt g WE p1 p2 p4 { c with free := j + 1, held := c.held ++ [R] }) := Lib.hid ⟨HCE.devs, HCE.rscs, HN5.out, HCE.ld, HCE.lr, by show (c.held ++ [R]).length ≤ 1000; have := HHL.out; rw [List.length_append, List.length_singleton]; omega, (by show j + 1 ≤ 1000; have := HJL.out; have := HLR.out; omega)⟩
    have k0 := cell_of_heap hxe 0
    have k1 := cell_of_heap hxe 1
    have k2 := cell_of_heap hxe 2
    have k3 := cell_of_heap hxe 3
    have k4 := cell_of_heap hxe 4
    simp only [List.getElem?_toArray, List.getElem?_cons_zero, List.getElem?_cons_succ] at k0 k1 k2 k3 k4
    clear hse hxe hlt9 HCE
    go_wp2_with fail
    obtain ⟨y02, y03, y04⟩ := HSZ.out _ HV.out
    have hff := HF.out
    subst hff
    have h44 := HN44.out
    subst h44
    refine (IH.out { c with free := j + 1, held := c.held ++ [R] } HGD.out (by show (c.held ++ [R]).length + d ≤ 900; have := HHL.out; rw [List.length_append, List.length_singleton]; omega) g s2 t tl WE p1 p2 p4 c1 c2 c4 HT.out HSC.out HS.out).mono ?_
    rintro e w3 ⟨q2, n2, rfl, hl2, he2, hv, hs⟩
    have HS := Lib.hid hs
    have HV := Lib.hid (HV.out.trans hv)
    clear hv hs k0 k1 k2 k3 k4
    have hx7 := HV.out.stays HX2.out HGS.out.2.2.1
    have z0 := cell_of_heap hx7 0
    have f0 := frozen_of_heap hx7 0
    have z1 := cell_of_heap hx7 1
    have f1 := frozen_of_heap hx7 1
    have z2 := cell_of_heap hx7 2
    have f2 := frozen_of_heap hx7 2
    have z3 := cell_of_heap hx7 3
    have f3 := frozen_of_heap hx7 3
    have z4 := cell_of_heap hx7 4
    have f4 := frozen_of_heap hx7 4
    have z5 := cell_of_heap hx7 5
    have f5 := frozen_of_heap hx7 5
    have z6 := cell_of_heap hx7 6
    have f6 := frozen_of_heap hx7 6
    simp only [List.getElem?_toArray, List.getElem?_cons_zero, List.getElem?_cons_succ] at z0 z1 z2 z3 z4 z5 z6
    go_wp2_with fail
    refine st_fin (x := St.mk 5 R ⟨#[]⟩ 0 [] tl []) (q := none) (cq := 0) (q1 := q2) (n1 := n2) (q2 := none) (n2 := 0) (g2 := g2) (w6 := w3) rfl rfl (set7 hx7) (Svg.of HB.out HV.out) (sv7 g2 w3 _ _ _ _ _ _ _) HGS.out.2.2.2.2 (by have := HGS.out; omega) HS.out ?_ (EAt.nil _ _) ?_ (SAt.nil _ _)
    · exact wfS_mk ⟨by decide, by decide⟩ ⟨by decide, by decide⟩ HRS.out (by decide) (by decide) hl2 (by decide)
    · exact keepS he2 (sv7 g2 w3 _ _ _ _ _ _ _) y03 y04
/-- any statement -/
def TAtI (D : Int) (d : Nat) : Prop := ∀ (c : Sco), GoodC c → c.held.length + d ≤ 900 → ∀ (g : Nat) (s t : List Int) (x : St) (w : World) (p1 p2 p3 : Option Addr) (c1 c2 c3 : Nat), Sy.stV d c s = (x, t) → ScAt g w p1 p2 p3 c → SrcAt g w s →
  Calls Tryz.prog 56 #[scV p1 c1 p2 c2 p3 c3 c, .pointer (some ⟨g, 0, none⟩), .int .i64 D] w fun e w' => ∃ q cq q1 n1 q2 n2, e = .returned (stV q cq q1 n1 q2 n2 x) ∧ WfS x ∧ EAt (young w.heap.size w') q x.args ∧ SAt (young w.heap.size w') q1 x.thn ∧ SAt (young w.heap.size w') q2 x.els ∧ Svg g w w' ∧ SrcAt g w' t
theorem stG_lit {D : Int} {deep : Bool} {blk : Sco → List Int → List St × List Int} (hD : 0 ≤ D ∧ D ≤ 100) {d : Nat} {D1 : Int} (h0 : deep = false → D = 0) (h1 : deep = true → 0 < D ∧ IntKind.i64.wrap (D - 1) = D1 ∧ BAtI D1 d ∧ blk = fun c s => bodyV d c s) (c : Sco) (hgc : GoodC c) (hh : deep = true → c.held.length + 1 + d ≤ 900)
    (g : Nat) (s t : List Int) (x : St) (w : World) (p1 p2 p3 : Option Addr) (c1 c2 c3 : Nat) (hx : stG blk deep c s = (x, t)) (hC : ScAt g w p1 p2 p3 c) (hS : SrcAt g w s) :
    Calls Tryz.prog 56 #[scV p1 c1 p2 c2 p3 c3 c, .pointer (some ⟨g, 0, none⟩), .int .i64 D] w fun e w' => ∃ q cq q1 n1 q2 n2, e = .returned (stV q cq q1 n1 q2 n2 x) ∧ WfS x ∧ EAt (young w.heap.size w') q x.args ∧ SAt (young w.heap.size w') q1 x.thn ∧ SAt (young w.heap.size w') q2 x.els ∧ Svg g w w' ∧ SrcAt g w' t := by
  have hls := name_size (name_ok (c := c) xyz_ok s)
  have hkb := nx_bd (nameV c xyz s).2 (n := 12) (by omega)
  obtain ⟨ln, sl, hln⟩ : ∃ ln sl, nameV c xyz s = (ln, sl) := ⟨_, _, rfl⟩
  obtain ⟨k, s0, hk⟩ : ∃ k s0, nx sl 12 = (k, s0) := ⟨_, _, rfl⟩
  unfold stG at hx
  simp only [hln, hk] at hx hls hkb
  have nob : ∀ l : List ByteArray, Nms l → ∀ s, (nameV c l s).1.size ≤ 20 := fun l hl s => name_size (name_ok hl s)
  split at hx
  · cases hx
    exact st_get c hgc D hD g s sl s0 _ k ln _ _ _ w p1 p2 p3 c1 c2 c3 hln hls hk (by omega) rfl (nob _ hgc.devs _) rfl (nx_bd _ (by omega)) hC hS
  · split at hx
    · cases hx
      exact st_put c hgc D hD g s sl s0 _ k ln _ _ _ _ _ w p1 p2 p3 c1 c2 c3 hln hls hk (by omega) rfl (nob _ hgc.devs _) rfl (nx_bd _ (by omega)) rfl hC hS
    · split at hx
      · rename_i h5 h7
        cases hx
        refine st_store c hgc D hD g s sl s0 _ k ln _ _ _ _ _ w p1 p2 p3 c1 c2 c3 hln hls hk (by omega) ?_ rfl (nob _ hgc.held _) rfl rfl hC hS
        cases ha : c.any
        · refine .inr ⟨rfl, ?_⟩
          rcases h7.2 with h | h
          · rw [ha] at h; cases h
          · exact List.length_pos_iff.2 h
        · exact .inl rfl
      · rename_i h2 h5 h7
        split at hx
        · rename_i h9
          obtain ⟨h9, hdp, hfr⟩ := h9
          obtain ⟨hD0, hD1, hB, hbk⟩ := h1 hdp
          have hHH := hh hdp
          subst hbk
          obtain ⟨hnR, hgd⟩ := lock_good hgc s0 hfr
          unfold lockC at hx hnR hgd
          cases ha : c.any
          · rw [ha, if_neg (by decide)] at hx hnR hgd
            have hfl : c.free < c.rscs.length := by
              rcases hfr with h | h
              · rw [ha] at h; cases h
              · exact h
            have hib := nx_bd (nameV c c.rscs s0).2 (n := (c.rscs.length : Int) - (c.free : Int)) (by omega)
            obtain ⟨i, hi⟩ := Int.eq_ofNat_of_zero_le hib.1
            have hjl : c.free + i < c.rscs.length := by omega
            have hget : c.rscs[c.free + i]? = some (c.rscs.getD (c.free + i) ⟨#[]⟩) := by rw [List.getD_eq_getElem?_getD, List.getElem?_eq_getElem hjl]; rfl
            simp only [hi, Int.toNat_natCast] at hx hnR hgd
            rw [← ha] at hgd hx
            cases hx
            refine st_lock2 c hgc D hD g s sl s0 _ k ln d i (c.free + i) D1 _ _ _ _ _ _ w p1 p2 p3 c1 c2 c3 hln hls hk ?_ ha hfl hD0 hD1 hHH hB rfl (Prod.ext hi rfl) rfl hjl hget rfl (name_size hnR) hgd rfl hC hS
            by_cases h56 : k = 5 ∨ k = 6
            · refine .inl ⟨h56, ?_⟩
              cases hhd : c.held with
              | nil => rfl
              | cons a b => exact absurd ⟨by omega, .inr (by rw [hhd]; simp)⟩ h7
            · exact .inr ⟨by omega, rfl⟩
          · rw [ha, if_pos rfl] at hx hnR hgd
            have hk7 : k = 7 ∨ k = 8 := by
              have : ¬ k < 7 := fun h => h7 ⟨h, .inl ha⟩
              omega
            rw [← ha] at hgd hx
            cases hx
            exact st_lock1 c hgc D hD g s sl s0 _ k ln d D1 _ _ _ w p1 p2 p3 c1 c2 c3 hln hls hk hk7 ha hD0 hD1 hHH hB rfl (name_size hnR) hgd rfl hC hS
        · rename_i h9
          split at hx
          · rename_i h10
            obtain ⟨h10, hdp⟩ := h10
            obtain ⟨hD0, hD1, hB, hbk⟩ := h1 hdp
            have hHH := hh hdp
            subst hbk
            cases hx
            exact st_if c hgc D hD g s sl s0 _ k ln d D1 _ _ _ _ _ w p1 p2 p3 c1 c2 c3 hln hls hk h10 hD0 hD1 (by omega) hB rfl rfl rfl hC hS
          · rename_i h10
            split at hx
            · rename_i h11
              obtain ⟨h11, hdp⟩ := h11
              obtain ⟨hD0, hD1, hB, hbk⟩ := h1 hdp
              have hHH := hh hdp
              subst hbk
              cases hx
              exact st_rep c hgc D hD g s sl s0 _ k ln d D1 _ _ _ w p1 p2 p3 c1 c2 c3 hln hls hk h11 hD0 hD1 (by omega) hB rfl (nx_bd _ (by omega)) rfl hC hS
            · rename_i h11
              split at hx
              · rename_i h12
                cases hx
                exact st_halt c hgc D hD g s sl _ _ k ln w p1 p2 p3 c1 c2 c3 hln hls hk h12 rfl hC hS
              · rename_i h12
                cases hx
                refine st_set c hgc D hD g s sl s0 _ k ln _ w p1 p2 p3 c1 c2 c3 hln hls hk ?_ rfl hC hS
                have hkk : k = 5 ∨ k = 6 ∨ k = 7 ∨ k = 8 ∨ k = 9 ∨ k = 10 := by omega
                have hdq : D = 0 ∨ (deep = true ∧ 0 < D) := by
                  cases deep
                  · exact .inl (h0 rfl)
                  · exact .inr ⟨rfl, (h1 rfl).1⟩
                have han : ∀ (_ : 0 < D) (_ : deep = true) (_ : k < 9), c.any = false ∧ ¬ c.free < c.rscs.length := fun _ hd hk9 => by
                  refine ⟨?_, fun hf => h9 ⟨hk9, hd, .inr hf⟩⟩
                  cases ha : c.any
                  · rfl
                  · exact absurd ⟨hk9, hd, .inl ha⟩ h9
                have h567 : k < 7 → c.any = false ∧ c.held.length = 0 := fun h => by
                  constructor
                  · cases ha : c.any
                    · rfl
                    · exact absurd ⟨h, .inl ha⟩ h7
                  · cases hhd : c.held with
                    | nil => rfl
                    | cons a b => exact absurd ⟨h, .inr (by rw [hhd]; simp)⟩ h7
                rcases hkk with h | h | h | h | h | h
                · obtain ⟨a1, a2⟩ := h567 (by omega)
                  refine .inl ⟨.inl h, a1, a2, ?_⟩
                  rcases hdq with e | ⟨e, f⟩
                  · exact .inl e
                  · exact .inr ⟨f, (han f e (by omega)).2⟩
                · obtain ⟨a1, a2⟩ := h567 (by omega)
                  refine .inl ⟨.inr h, a1, a2, ?_⟩
                  rcases hdq with e | ⟨e, f⟩
                  · exact .inl e
                  · exact .inr ⟨f, (han f e (by omega)).2⟩
                · refine .inr (.inl ⟨.inl h, ?_⟩)
                  rcases hdq with e | ⟨e, f⟩
                  · exact .inl e
                  · exact .inr ⟨f, (han f e (by omega)).1, (han f e (by omega)).2⟩
                · refine .inr (.inl ⟨.inr h, ?_⟩)
                  rcases hdq with e | ⟨e, f⟩
                  · exact .inl e
                  · exact .inr ⟨f, (han f e (by omega)).1, (han f e (by omega)).2⟩
                · refine .inr (.inr ⟨.inl h, ?_⟩)
                  rcases hdq with e | ⟨e, f⟩
                  · exact e
                  · exact absurd ⟨h, e⟩ h10
                · refine .inr (.inr ⟨.inr h, ?_⟩)
                  rcases hdq with e | ⟨e, f⟩
                  · exact e
                  · exact absurd ⟨h, e⟩ h11
theorem TAtI.zero : TAtI 0 0 := fun c hgc hh g s t x w p1 p2 p3 c1 c2 c3 hx hC hS =>
  stG_lit (deep := false) (d := 0) (D1 := 0) ⟨by decide, by decide⟩ (fun _ => rfl) (fun h => by cases h) c hgc (fun h => by cases h) g s t x w p1 p2 p3 c1 c2 c3 hx hC hS
theorem TAtI.succ {D D1 : Int} {d : Nat} (hD : D = ((d + 1 : Nat) : Int)) (hd : d ≤ 50) (hD1 : D1 = (d : Int)) (hB : BAtI D1 d) : TAtI D (d + 1) := fun c hgc hh g s t x w p1 p2 p3 c1 c2 c3 hx hC hS =>
  stG_lit (deep := true) (d := d) (D1 := D1) ⟨by omega, by omega⟩ (fun h => by cases h) (fun _ => ⟨by omega, by rw [hD1, show D - 1 = (d : Int) by omega]; exact IntWalk.i64_in _ (by constructor <;> omega), hB, rfl⟩) c hgc (fun _ => by omega) g s t x w p1 p2 p3 c1 c2 c3 hx hC hS
end Go.Proofs.YthlnjnmomnpnpaaGreatDoor
