/- SyntaxSame's walk. -/
import Derived.Test.YthlnjnmomnpnpaaDoorYPg
import Derived.Test.YthlnjnmomnpnpaaDoorYMore
import Derived.Test.YthlnjnmomnpnpaaDoorYAwk
import Derived.Test.YthlnjnmomnpnpaaDoorYSameP
namespace Go.Proofs.YthlnjnmomnpnpaaDoor
open Go.RowKit Tk Sy
set_option linter.unusedVariables false
set_option linter.unusedSimpArgs false
theorem prog_lit {raw : List Int} {all : Bool} {n : Nat} {P : Prg} (hP : progV raw all = P) (hn : raw.length = n) (w : World) {p : Option Addr} {cp : Nat} (hr : RawAt w p raw) (hcp : n ≤ cp) (hn63 : n ≤ 9223372036854775807) :
    Calls Tryd.prog 9 #[.slice p n cp, .bool all] w fun e w' => ∃ q1 c1 q2 c2 q3 c3, e = .returned (prgV q1 c1 q2 c2 q3 c3 P) ∧ ProgAt w w' P q1 q2 q3 c3 := by
  subst hP
  exact prog_any hn w hr hcp hn63
abbrev haltC : Array Value := #[.int .i64 8, .string ⟨#[]⟩, .string ⟨#[]⟩, .int .i64 0, .slice none 0 0, .slice none 0 0, .slice none 0 0]
abbrev haltP : PS := ⟨haltS, none, 0, none, 0, none, 0⟩
theorem tasks_pos (raw : List Int) (all : Bool) : 0 < (progV raw all).tasks.length := by
  have h := (all2_ok (raw.take 400) all).2.1
  have h2 := (harts_bd (raw.take 400)).1
  show 0 < (all2 (raw.take 400) all).1.length
  omega
/-- a program in a box -/
theorem box_new (W : World) (cs : Array Value) (T : TypeId) : Bel W (W.alloc (.cells cs T)) ∧ (W.alloc (.cells cs T)).heap[W.heap.size]? = some (.cells cs T (0, 0)) := ⟨(Bel.refl W).alloc _ _, heap_alloc_new W _⟩
def S3 (g6 g7 g8 : Nat) (a1 : Option Addr) (b1 : Nat) (a2 : Option Addr) (b2 : Nat) (a3 : Option Addr) (b3 : Nat) (P : Prg) (d1 : Option Addr) (e1 : Nat) (d2 : Option Addr) (e2 : Nat) (d3 : Option Addr) (e3 : Nat) (R : Prg) (m1 : Option Addr) (f1 : Nat) (m2 : Option Addr) (f2 : Nat) (gT f3 : Nat) (M : Prg) (w' : World) : Prop := w'.cell? ⟨g6, 0, none⟩ = some (.int .i64 P.harts) ∧ w'.cell? ⟨g6, 1, none⟩ = some (.slice a1 P.devs.length b1) ∧ w'.cell? ⟨g6, 2, none⟩ = some (.slice a2 P.rscs.length b2) ∧ w'.cell? ⟨g6, 3, none⟩ = some (.slice a3 P.tasks.length b3) ∧ w'.cell? ⟨g7, 0, none⟩ = some (.int .i64 R.harts) ∧ w'.cell? ⟨g7, 1, none⟩ = some (.slice d1 R.devs.length e1) ∧ w'.cell? ⟨g7, 2, none⟩ = some (.slice d2 R.rscs.length e2) ∧ w'.cell? ⟨g7, 3, none⟩ = some (.slice d3 R.tasks.length e3) ∧ w'.cell? ⟨g8, 0, none⟩ = some (.int .i64 M.harts) ∧ w'.cell? ⟨g8, 1, none⟩ = some (.slice m1 M.devs.length f1) ∧ w'.cell? ⟨g8, 2, none⟩ = some (.slice m2 M.rscs.length f2) ∧ w'.cell? ⟨g8, 3, none⟩ = some (.slice (some ⟨gT, 0, none⟩) M.tasks.length f3)
theorem wf_halt : WfS haltS := ⟨⟨by decide, by decide⟩, ⟨by decide, by decide⟩, Nat.zero_le _, Nat.zero_le _, Nat.zero_le _, Nat.zero_le _, Nat.zero_le _⟩
set_option maxRecDepth 100000 in
set_option maxHeartbeats 8000000 in
theorem same_walk {one two : List Int} {n1 n2 : Nat} (w : World) {p1 p2 : Option Addr} {c1 c2 : Nat} (hn1 : one.length = n1) (hn2 : two.length = n2) (hr1 : RawAt w p1 one) (hr2 : RawAt w p2 two) (hc1 : n1 ≤ c1) (hc2 : n2 ≤ c2) (h61 : n1 ≤ 9223372036854775807) (h62 : n2 ≤ 9223372036854775807) (hX : Texts w) (hPw : PowAt w) :
    Calls Tryd.prog 6 #[.slice p1 n1 c1, .slice p2 n2 c2] w fun e w' => e = .returned (.bool true) ∧ Bel w w' := by
  obtain ⟨P, hP⟩ : ∃ P, progV one false = P := ⟨_, rfl⟩
  obtain ⟨R, hR⟩ : ∃ R, progV two false = R := ⟨_, rfl⟩
  have hrp : right P = true := by rw [← hP]; exact prog_right _ _
  have hrr : right R = true := by rw [← hR]; exact prog_right _ _
  have HP := Lib.hid hP
  have HR := Lib.hid hR
  have HRP := Lib.hid hrp
  have HRR := Lib.hid hrr
  have HN1 := Lib.hid hn1
  have HN2 := Lib.hid hn2
  have H1 := Lib.hid hr1
  have H2 := Lib.hid hr2
  have HC := Lib.hid (And.intro hc1 (And.intro hc2 (And.intro h61 h62)))
  have HX := Lib.hid hX
  have HPW := Lib.hid hPw
  clear hP hR hrp hrr hn1 hn2 hr1 hr2 hc1 hc2 h61 h62 hX hPw
  go_enter Tryd.func6, Tryd.ntmps6
  go_wp2_with fail
  refine (awake_any _ HX.out HPW.out).mono ?_
  rintro e w1 ⟨rfl, hb⟩
  have HB1 := Lib.hid hb
  clear hb
  go_wp2_with fail
  refine (prog_lit HP.out HN1.out w1 (H1.out.bel HB1.out) HC.out.1 HC.out.2.2.1).mono ?_
  rintro e w2 ⟨a1, b1, a2, b2, a3, b3, rfl, hp⟩
  have HA := Lib.hid (hp.prg HRP.out)
  have HB := Lib.hid (HB1.out.trans hp.bel)
  clear hp
  go_upto_region 3 with (fail)
  obtain ⟨nb, nx⟩ := box_new w2 (prgA a1 b1 a2 b2 a3 b3 P) 28
  generalize w2.alloc (.cells (prgA a1 b1 a2 b2 a3 b3 P) 28) = W6 at nb nx ⊢
  generalize w2.heap.size = g6 at nx ⊢
  have HX6 := Lib.hid nx
  have HA := Lib.hid (HA.out.bel nb)
  have HB := Lib.hid (HB.out.trans nb)
  clear nb nx
  go_wp2_with fail
  refine (prog_lit HR.out HN2.out W6 (H2.out.bel HB.out) HC.out.2.1 HC.out.2.2.2).mono ?_
  rintro e w3 ⟨d1, e1, d2, e2, d3, e3, rfl, hp⟩
  have HD := Lib.hid (hp.prg HRR.out)
  have HA := Lib.hid (HA.out.bel hp.bel)
  have HX6 := Lib.hid (hp.bel.stays HX6.out)
  have HB := Lib.hid (HB.out.trans hp.bel)
  clear hp
  go_upto_region 4 with (fail)
  obtain ⟨nb, nx⟩ := box_new w3 (prgA d1 e1 d2 e2 d3 e3 R) 28
  generalize w3.alloc (.cells (prgA d1 e1 d2 e2 d3 e3 R) 28) = W7 at nb nx ⊢
  generalize w3.heap.size = g7 at nx ⊢
  have HX7 := Lib.hid nx
  have HA := Lib.hid (HA.out.bel nb)
  have HD := Lib.hid (HD.out.bel nb)
  have HX6 := Lib.hid (nb.stays HX6.out)
  have HB := Lib.hid (HB.out.trans nb)
  clear nb nx
  have HA7 := HA
  have HD7 := HD
  have HX67 := HX6
  have HX77 := HX7
  have HB7 := HB
  have H7 : Hid (Bel W7 W7) := Lib.hid (Bel.refl W7)
  go_wp2_with fail
  refine (prog_lit HP.out HN1.out W7 (H1.out.bel HB.out) HC.out.1 HC.out.2.2.1).mono ?_
  rintro e w4 ⟨m1, f1, m2, f2, m3, f3, rfl, hp⟩
  have HM := Lib.hid hp
  have H7 := Lib.hid (H7.out.trans hp.bel)
  have HA := Lib.hid (HA.out.bel hp.bel)
  have HD := Lib.hid (HD.out.bel hp.bel)
  have HX6 := Lib.hid (hp.bel.stays HX6.out)
  have HX7 := Lib.hid (hp.bel.stays HX7.out)
  have HB := Lib.hid (HB.out.trans hp.bel)
  clear hp
  go_upto_region 5 with (fail)
  obtain ⟨nb, nx⟩ := box_new w4 (prgA m1 f1 m2 f2 m3 f3 P) 28
  generalize w4.alloc (.cells (prgA m1 f1 m2 f2 m3 f3 P) 28) = W8 at nb nx ⊢
  generalize w4.heap.size = g8 at nx ⊢
  have HX8 := Lib.hid nx
  have H7 := Lib.hid (H7.out.trans nb)
  have HM := Lib.hid (HM.out.later nb)
  have HA := Lib.hid (HA.out.bel nb)
  have HD := Lib.hid (HD.out.bel nb)
  have HX6 := Lib.hid (nb.stays HX6.out)
  have HX7 := Lib.hid (nb.stays HX7.out)
  have HB := Lib.hid (HB.out.trans nb)
  clear nb nx
  obtain ⟨B, l, hBB, hPt, hrow, hok, hdv, hrs⟩ := HM.out.ex
  have hpos : 0 < P.tasks.length := by rw [← HP.out]; exact tasks_pos _ _
  have hll : P.tasks.length = l.length := by rw [hPt, List.length_map]
  obtain ⟨y, hy⟩ : ∃ y, l[0]? = some y := ⟨_, List.getElem?_eq_getElem (by omega)⟩
  obtain ⟨gT, hq3, hBg, hgT, _⟩ := row_set (y' := y) hrow hy
  subst hq3
  obtain ⟨qx, cx, hvx, he, _⟩ := hrow.form tskTy.len
  have hqx : some (⟨gT, 0, none⟩ : Addr) = qx := by injection hvx
  subst hqx
  obtain ⟨bx, ox, hpx, _, hcx⟩ := he 0 y hy
  cases hpx
  have r0 : W8.cell? ⟨gT, 0, none⟩ = some (.string y.t.name) := hcx 0 _ rfl
  have r1 : W8.cell? ⟨gT, 1, none⟩ = some (.bool y.t.handler) := hcx 1 _ rfl
  have r2 : W8.cell? ⟨gT, 2, none⟩ = some (.int .i64 y.t.hart) := hcx 2 _ rfl
  have r3 : W8.cell? ⟨gT, 3, none⟩ = some (.int .i64 y.t.prio) := hcx 3 _ rfl
  have r4 : W8.cell? ⟨gT, 4, none⟩ = some (.int .i64 y.t.line) := hcx 4 _ rfl
  have r5 : W8.cell? ⟨gT, 5, none⟩ = some (.slice y.q y.t.body.length y.c) := hcx 5 _ rfl
  have k3 : W8.cell? ⟨g8, 3, none⟩ = some (.slice (some ⟨gT, 0, none⟩) P.tasks.length f3) := cell_of_heap HX8.out 3
  have hp0 : (0 : Int) < (P.tasks.length : Int) := by omega
  have HLL := Lib.hid hll
  have HPT := Lib.hid hPt
  have HY := Lib.hid hy
  have HROW := Lib.hid hrow
  have HOK := Lib.hid hok
  have HDV := Lib.hid hdv
  have HRS := Lib.hid hrs
  have HBG := Lib.hid (And.intro hBB (And.intro hBg hgT))
  clear hll hPt hy hrow hok hdv hrs hBB hBg hgT hvx he hcx
  go_upto_region 6 with (fail)
  clear r0 r1 r2 r3 r4 r5 k3
  have H89 : Hid (g8 < W8.heap.size) := Lib.hid (lt_of_heap HX8.out)
  obtain ⟨nb, nx⟩ := box_new W8 (#[.string y.t.name, .bool y.t.handler, .int .i64 y.t.hart, .int .i64 y.t.prio, .int .i64 y.t.line, .slice y.q y.t.body.length y.c]) 48
  generalize W8.alloc (.cells (#[.string y.t.name, .bool y.t.handler, .int .i64 y.t.hart, .int .i64 y.t.prio, .int .i64 y.t.line, .slice y.q y.t.body.length y.c]) 48) = W9 at nb nx ⊢
  generalize hg9 : W8.heap.size = g9 at nx ⊢
  have HG9 := Lib.hid hg9
  have HX9 := Lib.hid nx
  have H89B := Lib.hid nb
  have HOK8 := HOK
  have HDV8 := HDV
  have HRS8 := HRS
  have HA := Lib.hid (HA.out.bel nb)
  have HD := Lib.hid (HD.out.bel nb)
  have HX6 := Lib.hid (nb.stays HX6.out)
  have HX7 := Lib.hid (nb.stays HX7.out)
  have HX8 := Lib.hid (nb.stays HX8.out)
  have HB := Lib.hid (HB.out.trans nb)
  have HROW := Lib.hid (HROW.out.bel nb)
  have HOK : Hid (∀ x ∈ l, TOk (keepW B (.slice (some ⟨gT, 0, none⟩) l.length f3) W9) x) := Lib.hid (fun x hx => (HOK.out x hx).sub (keepW_bel nb))
  have HDV := Lib.hid (HDV.out.sub (elder_bel nb))
  have HRS := Lib.hid (HRS.out.sub (elder_bel nb))
  have hyk := HOK8.out y (List.mem_of_getElem? HY.out)
  obtain ⟨L, hL1, hL2, hL3⟩ := sat_ps hyk.body
  have hlen : L.length = y.t.body.length := by rw [← hL1, List.length_map]
  obtain ⟨v1, wb, hr1, ho1, hb1⟩ := clone_new stmtTy (w := W9) (src := y.q) (m := y.t.body.length) (c := y.c) (r := L) hlen (hL2.sub ((maskP_sub _ W8).trans H89B.out.sub)) (Nat.le_trans hyk.len (by decide))
  have hbc := (Bel.refl wb).alloc haltC 46
  have hnew := heap_alloc_new wb (.cells haltC 46)
  obtain ⟨vx, wd, hr2, ho2, hs2, hn2⟩ := one_more2 stmtTy (ho1.bel hbc) haltP (c := 1) hnew rfl (by rw [hlen]; exact Nat.le_trans hyk.len (by decide)) (Nat.le_trans hb1.size hbc.size)
  obtain ⟨nl, hnl⟩ : ∃ nl, nl = (L ++ [haltP]).length := ⟨_, rfl⟩
  obtain ⟨p4, c4, hvx⟩ := row_form stmtTy.len ho2 hnl
  subst hvx
  have HNL := Lib.hid hnl
  clear hnl
  have hwd : Bel W9 wd := hs2.bel (hb1.trans hbc) (own_ge (ho1.bel hbc))
  have hx9 := hwd.stays HX9.out
  have d5 := cell_of_heap HX9.out 5
  have z5 := cell_of_heap hx9 5
  have f5 := frozen_of_heap hx9 5
  simp only [List.getElem?_toArray, List.getElem?_cons_zero, List.getElem?_cons_succ] at d5 z5
  have hd4 : g9 < W9.heap.size := lt_of_heap HX9.out
  have hbg4 := HBG.out
  have hg94 := HG9.out
  have HR1 := Lib.hid hr1
  have HR2 := Lib.hid hr2
  have HWD := Lib.hid hwd
  have HO2 := Lib.hid ho2
  have HL1 := Lib.hid hL1
  have HL3 := Lib.hid hL3
  have HYK := Lib.hid hyk
  clear hr1 hr2 hwd ho1 ho2 hs2 hn2 hb1 hbc hnew hL1 hL2 hL3 hyk hlen nb nx hx9
  go_upto_region 7 with (first
    | (at_builtin; refine wpList_app rfl (.const (.slice none 0 0)) (.tmp 22) 44 rfl _ _ _ (by rfl) (by rfl) HR1.out ?_)
    | (at_builtin; refine wpList_app rfl (.tmp 23) (.tmp 25) 44 rfl _ _ _ (by rfl) (by rfl) HR2.out ?_))
  clear d5 z5 f5
  have hse := Svg.set g9 5 wd (.slice p4 nl c4)
  have hg9 := HG9.out
  have hbg := HBG.out
  have h8 := H89.out
  have hx9 : (wd.setCell ⟨g9, 5, none⟩ (.slice p4 nl c4)).heap[g9]? = some (.cells #[.string y.t.name, .bool y.t.handler, .int .i64 y.t.hart, .int .i64 y.t.prio, .int .i64 y.t.line, .slice p4 nl c4] 48 (0, 0)) := by
    have := HWD.out.stays HX9.out
    simp [World.setCell, Array.getElem?_modify, this]
  have hx8 := hse.stays (HWD.out.stays HX8.out) (by omega)
  have hrw : Svg g9 W9 (wd.setCell ⟨g9, 5, none⟩ (.slice p4 nl c4)) := Svg.of HWD.out hse
  have hrow := HROW.out.sv hrw (fun b hb e => by have h1 : gT = b := by simpa [Value.ownBlock] using hb
                                                 omega)
  generalize wd.setCell ⟨g9, 5, none⟩ (.slice p4 nl c4) = WE at hse hx9 hx8 hrw hrow ⊢
  obtain ⟨qx, cx, hvx, he, _⟩ := hrow.form tskTy.len
  have hqx : some (⟨gT, 0, none⟩ : Addr) = qx := by injection hvx
  subst hqx
  obtain ⟨bx, ox, hpx, _, hcx⟩ := he 0 y HY.out
  cases hpx
  have r0 : WE.cell? ⟨gT, 0, none⟩ = some (.string y.t.name) := hcx 0 _ rfl
  have r1 : WE.cell? ⟨gT, 1, none⟩ = some (.bool y.t.handler) := hcx 1 _ rfl
  have r2 : WE.cell? ⟨gT, 2, none⟩ = some (.int .i64 y.t.hart) := hcx 2 _ rfl
  have r3 : WE.cell? ⟨gT, 3, none⟩ = some (.int .i64 y.t.prio) := hcx 3 _ rfl
  have r4 : WE.cell? ⟨gT, 4, none⟩ = some (.int .i64 y.t.line) := hcx 4 _ rfl
  have r5 : WE.cell? ⟨gT, 5, none⟩ = some (.slice y.q y.t.body.length y.c) := hcx 5 _ rfl
  obtain ⟨cur, hcur⟩ : ∃ cur, WE.heap[gT]? = some (.cells cur 48 (0, 0)) := by
    rcases hrow.2 with ⟨hv, _⟩ | ⟨g, cap, cur, hv, _, hg, _⟩
    · cases hv
    · injection hv with h1
      injection h1 with h1
      injection h1 with h1
      subst h1
      exact ⟨cur, hg⟩
  have f0 := frozen_of_heap hcur 0
  have f1 := frozen_of_heap hcur 1
  have f2 := frozen_of_heap hcur 2
  have f3' := frozen_of_heap hcur 3
  have f4 := frozen_of_heap hcur 4
  have f5 := frozen_of_heap hcur 5
  have k3 : WE.cell? ⟨g8, 3, none⟩ = some (.slice (some ⟨gT, 0, none⟩) P.tasks.length f3) := cell_of_heap hx8 3
  have q0 : WE.cell? ⟨g9, 0, none⟩ = some (.string y.t.name) := cell_of_heap hx9 0
  have q1 : WE.cell? ⟨g9, 1, none⟩ = some (.bool y.t.handler) := cell_of_heap hx9 1
  have q2 : WE.cell? ⟨g9, 2, none⟩ = some (.int .i64 y.t.hart) := cell_of_heap hx9 2
  have q3 : WE.cell? ⟨g9, 3, none⟩ = some (.int .i64 y.t.prio) := cell_of_heap hx9 3
  have q4 : WE.cell? ⟨g9, 4, none⟩ = some (.int .i64 y.t.line) := cell_of_heap hx9 4
  have q5 : WE.cell? ⟨g9, 5, none⟩ = some (.slice p4 nl c4) := cell_of_heap hx9 5
  have HSE := Lib.hid hrw
  have HRE := Lib.hid hrow
  have ho4 := HO2.out.sv hse (fun b hb e => by
    have h9 := own_ge HO2.out b hb
    omega)
  have HO4 := Lib.hid ho4
  have HX8E := Lib.hid hx8
  have hgu : g8 ≠ gT := fun e => by
    subst e
    rw [hcur] at hx8
    have h9 := Option.some.inj hx8
    injection h9 with _ h9
    exact absurd h9 (by decide)
  have HGU := Lib.hid hgu
  clear hse hx9 hx8 hrw hrow hvx he hcx hcur hg9 hbg h8 hgu ho4 hd4 hbg4 hg94
  go_upto_region 8 with (fail)
  clear r0 r1 r2 r3 r4 r5 k3 q0 q1 q2 q3 q4 q5 f0 f1 f2 f3' f4 f5
  have hE7 : Bel W7 WE := HSE.out.bel (H7.out.trans H89B.out) (by have := (H7.out.trans (Bel.refl W8)).size; have := HG9.out; omega)
  have h8E : Bel W8 WE := HSE.out.bel H89B.out (by have := HG9.out; omega)
  have hbB := HBG.out
  have hsx := sv6 gT 0 WE (.string y.t.name) (.bool y.t.handler) (.int .i64 y.t.hart) (.int .i64 y.t.prio) (.int .i64 y.t.line) (.slice p4 nl c4)
  have hbt : SAt (mask gT WE) p4 (y.t.body ++ [haltS]) := by
    have h := more_body HO4.out (by have := H89B.out.size; omega : gT < W9.heap.size) HL3.out h8E (x := haltP) ⟨wf_halt, EAt.nil _ _, SAt.nil _ _, SAt.nil _ _⟩
    rw [List.map_append, HL1.out] at h
    exact h
  have hnb : nl = (y.t.body ++ [haltS]).length := by
    rw [HNL.out, List.length_append, List.length_append, ← HL1.out, List.length_map]
    rfl
  have hmo := more_at (k := 0) (p4 := p4) (n := nl) (c4 := c4) hnb HPT.out HRP.out h8E HRE.out HY.out HOK8.out HDV8.out HRS8.out hbB.2.1 hbt
  change PrgAt ((((((WE.setCell ⟨gT, 0, none⟩ (.string y.t.name)).setCell ⟨gT, 1, none⟩ (.bool y.t.handler)).setCell ⟨gT, 2, none⟩ (.int .i64 y.t.hart)).setCell ⟨gT, 3, none⟩ (.int .i64 y.t.prio)).setCell ⟨gT, 4, none⟩ (.int .i64 y.t.line)).setCell ⟨gT, 5, none⟩ (.slice p4 nl c4)) _ _ _ _ at hmo
  change Svg gT WE ((((((WE.setCell ⟨gT, 0, none⟩ (.string y.t.name)).setCell ⟨gT, 1, none⟩ (.bool y.t.handler)).setCell ⟨gT, 2, none⟩ (.int .i64 y.t.hart)).setCell ⟨gT, 3, none⟩ (.int .i64 y.t.prio)).setCell ⟨gT, 4, none⟩ (.int .i64 y.t.line)).setCell ⟨gT, 5, none⟩ (.slice p4 nl c4)) at hsx
  generalize (((((WE.setCell ⟨gT, 0, none⟩ (.string y.t.name)).setCell ⟨gT, 1, none⟩ (.bool y.t.handler)).setCell ⟨gT, 2, none⟩ (.int .i64 y.t.hart)).setCell ⟨gT, 3, none⟩ (.int .i64 y.t.prio)).setCell ⟨gT, 4, none⟩ (.int .i64 y.t.line)).setCell ⟨gT, 5, none⟩ (.slice p4 nl c4) = WF at hmo hsx ⊢
  have h7F : Bel W7 WF := hsx.bel hE7 (Nat.le_trans hbB.1 hbB.2.1)
  have hx8F := hsx.stays HX8E.out HGU.out
  obtain ⟨M, hM⟩ : ∃ M, setTask P 0 (addS y.t haltS) = M := ⟨_, rfl⟩
  have hml : P.tasks.length = M.tasks.length := by
    rw [← hM]
    show _ = (P.tasks.set 0 _).length
    rw [List.length_set]
  have hmh : M.harts = P.harts := by rw [← hM]; rfl
  have hmd : M.devs = P.devs := by rw [← hM]; rfl
  have hmr : M.rscs = P.rscs := by rw [← hM]; rfl
  have hx8M : WF.heap[g8]? = some (.cells (prgA m1 f1 m2 f2 (some ⟨gT, 0, none⟩) f3 M) 28 (0, 0)) := by
    rw [hx8F]
    show some (Obj.cells #[.int .i64 P.harts, .slice m1 P.devs.length f1, .slice m2 P.rscs.length f2, .slice (some ⟨gT, 0, none⟩) P.tasks.length f3] _ _) = some (Obj.cells #[.int .i64 M.harts, .slice m1 M.devs.length f1, .slice m2 M.rscs.length f2, .slice (some ⟨gT, 0, none⟩) M.tasks.length f3] _ _)
    rw [hml, hmh, hmd, hmr]
  rw [hM] at hmo
  have hy0 : P.tasks[0]? = some y.t := by rw [HPT.out, List.getElem?_map, HY.out]; rfl
  have hne : P ≠ M := by
    rw [← hM]
    exact more_ne (List.getElem?_eq_some_iff.1 hy0).1 hy0 haltS
  have hsz : size M = size P + 1 := by
    rw [← hM]
    exact size_more hy0
  obtain ⟨bq, hbq⟩ : ∃ b, eqv P R = b := ⟨_, rfl⟩
  have hbq2 : eqv R P = bq := by
    rw [← hbq, Bool.eq_iff_iff, eqv_iff, eqv_iff]
    exact ⟨Eq.symm, Eq.symm⟩
  have hpp : eqv P P = true := eqv_iff.2 rfl
  have hpm : eqv P M = false := by
    rw [Bool.eq_false_iff]
    exact fun h => hne (eqv_iff.1 h)
  have hmp : eqv M P = false := by
    rw [Bool.eq_false_iff]
    exact fun h => hne (eqv_iff.1 h).symm
  obtain ⟨v1, hv1⟩ : ∃ v, wrap64 (size M : Int) = v := ⟨_, rfl⟩
  obtain ⟨v2, hv2⟩ : ∃ v, wrap64 (size P : Int) = v := ⟨_, rfl⟩
  have hvv : IntKind.i64.wrap (v2 + 1) = v1 := by
    rw [IntWalk.i64_left, ← hv1, ← hv2, hsz]
    exact w64_one _
  have HA := Lib.hid (HA7.out.bel h7F)
  have HD := Lib.hid (HD7.out.bel h7F)
  have HMO := Lib.hid hmo
  have HXP := Lib.hid (h7F.stays HX67.out)
  have HXR := Lib.hid (h7F.stays HX77.out)
  have HXM := Lib.hid hx8M
  have HB := Lib.hid (HB7.out.trans h7F)
  have HQ1 := Lib.hid hbq
  have HQ2 := Lib.hid hbq2
  have HQ3 := Lib.hid hpp
  have HQ4 := Lib.hid hpm
  have HQ5 := Lib.hid hmp
  have HV1 := Lib.hid hv1
  have HV2 := Lib.hid hv2
  have hbb : (bq == bq) = true := by cases bq <;> rfl
  clear hE7 h8E hbB hsx hbt hnb hmo h7F hx8F hml hmh hmd hmr hx8M hy0 hne hsz hbq hbq2 hpp hpm hmp hv1 hv2 hM
  clear HA7 HD7 HX67 HX77 HB7 H7 HX6 HX7 HX8 HX9 HM HLL HPT HY HROW HOK HDV HRS HBG H89 HG9 H89B HOK8 HDV8 HRS8 HYK HR1 HR2 HWD HO2 HL1 HL3 HNL HSE HRE HO4 HX8E HGU
  have HKEEP : Hid (∀ w', Bel WF w' → S3 g6 g7 g8 a1 b1 a2 b2 a3 b3 P d1 e1 d2 e2 d3 e3 R m1 f1 m2 f2 gT f3 M w') := Lib.hid (fun w' hb => ⟨cell_of_heap (hb.stays HXP.out) 0, cell_of_heap (hb.stays HXP.out) 1, cell_of_heap (hb.stays HXP.out) 2, cell_of_heap (hb.stays HXP.out) 3, cell_of_heap (hb.stays HXR.out) 0, cell_of_heap (hb.stays HXR.out) 1, cell_of_heap (hb.stays HXR.out) 2, cell_of_heap (hb.stays HXR.out) 3, cell_of_heap (hb.stays HXM.out) 0, cell_of_heap (hb.stays HXM.out) 1, cell_of_heap (hb.stays HXM.out) 2, cell_of_heap (hb.stays HXM.out) 3⟩)
  refine wp_region_held_drew (S := (S3 g6 g7 g8 a1 b1 a2 b2 a3 b3 P d1 e1 d2 e2 d3 e3 R m1 f1 m2 f2 gT f3 M)) (by kernel_rfl) (HKEEP.out _ ((Bel.refl WF).drew)) (fun hS0 => ?_)
  refine takeD 32 (i := 0) (v := ?v1) rfl rfl (by kernel_rfl) (by kernel_rfl) (by kernel_rfl) (fun _ _ _ h => h) (by kernel_rfl) ?hy1 hS0 ?rest1
  case hy1 => (intro w0 hSw; obtain ⟨s0, s1, s2, s3, s4, s5, s6, s7, s8, s9, s10, s11⟩ := hSw; first | (go_simp; done) | (go_simp; with_reducible rfl))
  simp only [List.setIfInBounds_toArray, List.set_cons_zero, List.set_cons_succ]
  refine takeD 33 (i := 1) (v := ?v2) rfl rfl (by kernel_rfl) (by kernel_rfl) (by kernel_rfl) (fun _ _ _ h => h) (by kernel_rfl) ?hy2 hS0 ?rest2
  case hy2 => (intro w0 hSw; obtain ⟨s0, s1, s2, s3, s4, s5, s6, s7, s8, s9, s10, s11⟩ := hSw; first | (go_simp; done) | (go_simp; with_reducible rfl))
  simp only [List.setIfInBounds_toArray, List.set_cons_zero, List.set_cons_succ]
  refine takeD 34 (i := 2) (v := ?v3) rfl rfl (by kernel_rfl) (by kernel_rfl) (by kernel_rfl) (fun _ _ _ h => h) (by kernel_rfl) ?hy3 hS0 ?rest3
  case hy3 => (intro w0 hSw; obtain ⟨s0, s1, s2, s3, s4, s5, s6, s7, s8, s9, s10, s11⟩ := hSw; first | (go_simp; done) | (go_simp; with_reducible rfl))
  simp only [List.setIfInBounds_toArray, List.set_cons_zero, List.set_cons_succ]
  refine takeD 35 (i := 3) (v := ?v4) rfl rfl (by kernel_rfl) (by kernel_rfl) (by kernel_rfl) (fun _ _ _ h => h) (by kernel_rfl) ?hy4 hS0 ?rest4
  case hy4 => (intro w0 hSw; obtain ⟨s0, s1, s2, s3, s4, s5, s6, s7, s8, s9, s10, s11⟩ := hSw; first | (go_simp; done) | (go_simp; with_reducible rfl))
  simp only [List.setIfInBounds_toArray, List.set_cons_zero, List.set_cons_succ]
  refine takeD 37 (i := 5) (v := ?v5) rfl rfl (by kernel_rfl) (by kernel_rfl) (by kernel_rfl) (fun _ _ _ h => h) (by kernel_rfl) ?hy5 hS0 ?rest5
  case hy5 => (intro w0 hSw; obtain ⟨s0, s1, s2, s3, s4, s5, s6, s7, s8, s9, s10, s11⟩ := hSw; first | (go_simp; done) | (go_simp; with_reducible rfl))
  simp only [List.setIfInBounds_toArray, List.set_cons_zero, List.set_cons_succ]
  refine takeD 38 (i := 6) (v := ?v6) rfl rfl (by kernel_rfl) (by kernel_rfl) (by kernel_rfl) (fun _ _ _ h => h) (by kernel_rfl) ?hy6 hS0 ?rest6
  case hy6 => (intro w0 hSw; obtain ⟨s0, s1, s2, s3, s4, s5, s6, s7, s8, s9, s10, s11⟩ := hSw; first | (go_simp; done) | (go_simp; with_reducible rfl))
  simp only [List.setIfInBounds_toArray, List.set_cons_zero, List.set_cons_succ]
  refine onlyD 36 (i := 4) rfl rfl (by kernel_rfl) (by kernel_rfl) (fun K hK => ?_)
  go_simp
  go_at_call 14
  refine (same_lit HQ1.out _ (HA.out.bel ((Bel.refl WF).drew)) (HD.out.bel ((Bel.refl WF).drew))).mono ?_
  rintro e u1 ⟨rfl, ha1⟩
  have hS1 := HKEEP.out _ (((Bel.refl WF).drew).trans ha1)
  refine hK.out _ _ hS1 (fun _ => ?_)
  clear hK K
  simp only [List.setIfInBounds_toArray, List.set_cons_zero, List.set_cons_succ]
  refine onlyD 39 (i := 7) rfl rfl (by kernel_rfl) (by kernel_rfl) (fun K hK => ?_)
  go_simp
  go_at_call 14
  refine (same_lit HQ2.out _ (HD.out.bel (((Bel.refl WF).drew).trans ha1)) (HA.out.bel (((Bel.refl WF).drew).trans ha1))).mono ?_
  rintro e u2 ⟨rfl, ha2⟩
  have hS2 := HKEEP.out _ ((((Bel.refl WF).drew).trans ha1).trans ha2)
  refine hK.out _ _ hS2 (fun _ => ?_)
  clear hK K
  simp only [List.setIfInBounds_toArray, List.set_cons_zero, List.set_cons_succ]
  refine takeD 40 (i := 8) (v := ?v7) rfl rfl (by kernel_rfl) (by kernel_rfl) (by kernel_rfl) (fun _ _ _ h => h) (by kernel_rfl) ?hy7 hS2 ?rest7
  case hy7 => (intro w0 hSw; obtain ⟨s0, s1, s2, s3, s4, s5, s6, s7, s8, s9, s10, s11⟩ := hSw; first | (go_simp; done) | (go_simp; with_reducible rfl))
  simp only [List.setIfInBounds_toArray, List.set_cons_zero, List.set_cons_succ]
  refine takeD 41 (i := 9) (v := ?v8) rfl rfl (by kernel_rfl) (by kernel_rfl) (by kernel_rfl) (fun _ _ _ h => h) (by kernel_rfl) ?hy8 hS2 ?rest8
  case hy8 => (intro w0 hSw; obtain ⟨s0, s1, s2, s3, s4, s5, s6, s7, s8, s9, s10, s11⟩ := hSw; first | (go_simp; done) | (go_simp; with_reducible rfl))
  simp only [List.setIfInBounds_toArray, List.set_cons_zero, List.set_cons_succ]
  refine takeD 42 (i := 10) (v := ?v9) rfl rfl (by kernel_rfl) (by kernel_rfl) (by kernel_rfl) (fun _ _ _ h => h) (by kernel_rfl) ?hy9 hS2 ?rest9
  case hy9 => (intro w0 hSw; obtain ⟨s0, s1, s2, s3, s4, s5, s6, s7, s8, s9, s10, s11⟩ := hSw; first | (go_simp; done) | (go_simp; with_reducible rfl))
  simp only [List.setIfInBounds_toArray, List.set_cons_zero, List.set_cons_succ]
  refine takeD 43 (i := 11) (v := ?v10) rfl rfl (by kernel_rfl) (by kernel_rfl) (by kernel_rfl) (fun _ _ _ h => h) (by kernel_rfl) ?hy10 hS2 ?rest10
  case hy10 => (intro w0 hSw; obtain ⟨s0, s1, s2, s3, s4, s5, s6, s7, s8, s9, s10, s11⟩ := hSw; first | (go_simp; done) | (go_simp; with_reducible rfl))
  simp only [List.setIfInBounds_toArray, List.set_cons_zero, List.set_cons_succ]
  refine takeD 44 (i := 12) (v := ?v11) rfl rfl (by kernel_rfl) (by kernel_rfl) (by kernel_rfl) (fun _ _ _ h => h) (by kernel_rfl) ?hy11 hS2 ?rest11
  case hy11 => (intro w0 hSw; obtain ⟨s0, s1, s2, s3, s4, s5, s6, s7, s8, s9, s10, s11⟩ := hSw; first | (go_simp; done) | (go_simp; with_reducible rfl))
  simp only [List.setIfInBounds_toArray, List.set_cons_zero, List.set_cons_succ]
  refine onlyD 45 (i := 13) rfl rfl (by kernel_rfl) (by kernel_rfl) (fun K hK => ?_)
  go_simp
  go_at_call 9
  refine (prog_lit HP.out HN1.out _ (H1.out.bel (HB.out.trans ((((Bel.refl WF).drew).trans ha1).trans ha2))) HC.out.1 HC.out.2.2.1).mono ?_
  rintro e u3 ⟨z1, y1, z2, y2, z3, y3, rfl, hpg⟩
  have hS3 := HKEEP.out _ (((((Bel.refl WF).drew).trans ha1).trans ha2).trans hpg.bel)
  refine hK.out _ _ hS3 (fun _ => ?_)
  clear hK K
  simp only [List.setIfInBounds_toArray, List.set_cons_zero, List.set_cons_succ]
  refine onlyD 46 (i := 14) rfl rfl (by kernel_rfl) (by kernel_rfl) (fun K hK => ?_)
  go_simp
  go_at_call 14
  refine (same_lit HQ3.out _ (HA.out.bel (((((Bel.refl WF).drew).trans ha1).trans ha2).trans hpg.bel)) (hpg.prg HRP.out)).mono ?_
  rintro e u4 ⟨rfl, ha4⟩
  have hS4 := HKEEP.out _ ((((((Bel.refl WF).drew).trans ha1).trans ha2).trans hpg.bel).trans ha4)
  refine hK.out _ _ hS4 (fun _ => ?_)
  clear hK K
  simp only [List.setIfInBounds_toArray, List.set_cons_zero, List.set_cons_succ]
  refine takeD 47 (i := 15) (v := ?v12) rfl rfl (by kernel_rfl) (by kernel_rfl) (by kernel_rfl) (fun _ _ _ h => h) (by kernel_rfl) ?hy12 hS4 ?rest12
  case hy12 => (intro w0 hSw; obtain ⟨s0, s1, s2, s3, s4, s5, s6, s7, s8, s9, s10, s11⟩ := hSw; first | (go_simp; done) | (go_simp; with_reducible rfl))
  simp only [List.setIfInBounds_toArray, List.set_cons_zero, List.set_cons_succ]
  refine takeD 48 (i := 16) (v := ?v13) rfl rfl (by kernel_rfl) (by kernel_rfl) (by kernel_rfl) (fun _ _ _ h => h) (by kernel_rfl) ?hy13 hS4 ?rest13
  case hy13 => (intro w0 hSw; obtain ⟨s0, s1, s2, s3, s4, s5, s6, s7, s8, s9, s10, s11⟩ := hSw; first | (go_simp; done) | (go_simp; with_reducible rfl))
  simp only [List.setIfInBounds_toArray, List.set_cons_zero, List.set_cons_succ]
  refine takeD 49 (i := 17) (v := ?v14) rfl rfl (by kernel_rfl) (by kernel_rfl) (by kernel_rfl) (fun _ _ _ h => h) (by kernel_rfl) ?hy14 hS4 ?rest14
  case hy14 => (intro w0 hSw; obtain ⟨s0, s1, s2, s3, s4, s5, s6, s7, s8, s9, s10, s11⟩ := hSw; first | (go_simp; done) | (go_simp; with_reducible rfl))
  simp only [List.setIfInBounds_toArray, List.set_cons_zero, List.set_cons_succ]
  refine takeD 50 (i := 18) (v := ?v15) rfl rfl (by kernel_rfl) (by kernel_rfl) (by kernel_rfl) (fun _ _ _ h => h) (by kernel_rfl) ?hy15 hS4 ?rest15
  case hy15 => (intro w0 hSw; obtain ⟨s0, s1, s2, s3, s4, s5, s6, s7, s8, s9, s10, s11⟩ := hSw; first | (go_simp; done) | (go_simp; with_reducible rfl))
  simp only [List.setIfInBounds_toArray, List.set_cons_zero, List.set_cons_succ]
  refine onlyD 51 (i := 19) rfl rfl (by kernel_rfl) (by kernel_rfl) (fun K hK => ?_)
  go_simp
  go_at_call 14
  refine (same_lit HQ4.out _ (HA.out.bel ((((((Bel.refl WF).drew).trans ha1).trans ha2).trans hpg.bel).trans ha4)) (HMO.out.bel ((((((Bel.refl WF).drew).trans ha1).trans ha2).trans hpg.bel).trans ha4))).mono ?_
  rintro e u5 ⟨rfl, ha5⟩
  have hS5 := HKEEP.out _ (((((((Bel.refl WF).drew).trans ha1).trans ha2).trans hpg.bel).trans ha4).trans ha5)
  refine hK.out _ _ hS5 (fun _ => ?_)
  clear hK K
  simp only [List.setIfInBounds_toArray, List.set_cons_zero, List.set_cons_succ]
  refine takeD 52 (i := 20) (v := ?v16) rfl rfl (by kernel_rfl) (by kernel_rfl) (by kernel_rfl) (fun _ _ _ h => h) (by kernel_rfl) ?hy16 hS5 ?rest16
  case hy16 => (intro w0 hSw; obtain ⟨s0, s1, s2, s3, s4, s5, s6, s7, s8, s9, s10, s11⟩ := hSw; first | (go_simp; done) | (go_simp; with_reducible rfl))
  simp only [List.setIfInBounds_toArray, List.set_cons_zero, List.set_cons_succ]
  refine takeD 53 (i := 21) (v := ?v17) rfl rfl (by kernel_rfl) (by kernel_rfl) (by kernel_rfl) (fun _ _ _ h => h) (by kernel_rfl) ?hy17 hS5 ?rest17
  case hy17 => (intro w0 hSw; obtain ⟨s0, s1, s2, s3, s4, s5, s6, s7, s8, s9, s10, s11⟩ := hSw; first | (go_simp; done) | (go_simp; with_reducible rfl))
  simp only [List.setIfInBounds_toArray, List.set_cons_zero, List.set_cons_succ]
  refine takeD 54 (i := 22) (v := ?v18) rfl rfl (by kernel_rfl) (by kernel_rfl) (by kernel_rfl) (fun _ _ _ h => h) (by kernel_rfl) ?hy18 hS5 ?rest18
  case hy18 => (intro w0 hSw; obtain ⟨s0, s1, s2, s3, s4, s5, s6, s7, s8, s9, s10, s11⟩ := hSw; first | (go_simp; done) | (go_simp; with_reducible rfl))
  simp only [List.setIfInBounds_toArray, List.set_cons_zero, List.set_cons_succ]
  refine takeD 55 (i := 23) (v := ?v19) rfl rfl (by kernel_rfl) (by kernel_rfl) (by kernel_rfl) (fun _ _ _ h => h) (by kernel_rfl) ?hy19 hS5 ?rest19
  case hy19 => (intro w0 hSw; obtain ⟨s0, s1, s2, s3, s4, s5, s6, s7, s8, s9, s10, s11⟩ := hSw; first | (go_simp; done) | (go_simp; with_reducible rfl))
  simp only [List.setIfInBounds_toArray, List.set_cons_zero, List.set_cons_succ]
  refine takeD 56 (i := 24) (v := ?v20) rfl rfl (by kernel_rfl) (by kernel_rfl) (by kernel_rfl) (fun _ _ _ h => h) (by kernel_rfl) ?hy20 hS5 ?rest20
  case hy20 => (intro w0 hSw; obtain ⟨s0, s1, s2, s3, s4, s5, s6, s7, s8, s9, s10, s11⟩ := hSw; first | (go_simp; done) | (go_simp; with_reducible rfl))
  simp only [List.setIfInBounds_toArray, List.set_cons_zero, List.set_cons_succ]
  refine onlyD 57 (i := 25) rfl rfl (by kernel_rfl) (by kernel_rfl) (fun K hK => ?_)
  go_simp
  go_at_call 14
  refine (same_lit HQ5.out _ (HMO.out.bel (((((((Bel.refl WF).drew).trans ha1).trans ha2).trans hpg.bel).trans ha4).trans ha5)) (HA.out.bel (((((((Bel.refl WF).drew).trans ha1).trans ha2).trans hpg.bel).trans ha4).trans ha5))).mono ?_
  rintro e u6 ⟨rfl, ha6⟩
  have hS6 := HKEEP.out _ ((((((((Bel.refl WF).drew).trans ha1).trans ha2).trans hpg.bel).trans ha4).trans ha5).trans ha6)
  refine hK.out _ _ hS6 (fun _ => ?_)
  clear hK K
  simp only [List.setIfInBounds_toArray, List.set_cons_zero, List.set_cons_succ]
  refine takeD 58 (i := 26) (v := ?v21) rfl rfl (by kernel_rfl) (by kernel_rfl) (by kernel_rfl) (fun _ _ _ h => h) (by kernel_rfl) ?hy21 hS6 ?rest21
  case hy21 => (intro w0 hSw; obtain ⟨s0, s1, s2, s3, s4, s5, s6, s7, s8, s9, s10, s11⟩ := hSw; first | (go_simp; done) | (go_simp; with_reducible rfl))
  simp only [List.setIfInBounds_toArray, List.set_cons_zero, List.set_cons_succ]
  refine takeD 59 (i := 27) (v := ?v22) rfl rfl (by kernel_rfl) (by kernel_rfl) (by kernel_rfl) (fun _ _ _ h => h) (by kernel_rfl) ?hy22 hS6 ?rest22
  case hy22 => (intro w0 hSw; obtain ⟨s0, s1, s2, s3, s4, s5, s6, s7, s8, s9, s10, s11⟩ := hSw; first | (go_simp; done) | (go_simp; with_reducible rfl))
  simp only [List.setIfInBounds_toArray, List.set_cons_zero, List.set_cons_succ]
  refine takeD 60 (i := 28) (v := ?v23) rfl rfl (by kernel_rfl) (by kernel_rfl) (by kernel_rfl) (fun _ _ _ h => h) (by kernel_rfl) ?hy23 hS6 ?rest23
  case hy23 => (intro w0 hSw; obtain ⟨s0, s1, s2, s3, s4, s5, s6, s7, s8, s9, s10, s11⟩ := hSw; first | (go_simp; done) | (go_simp; with_reducible rfl))
  simp only [List.setIfInBounds_toArray, List.set_cons_zero, List.set_cons_succ]
  refine takeD 61 (i := 29) (v := ?v24) rfl rfl (by kernel_rfl) (by kernel_rfl) (by kernel_rfl) (fun _ _ _ h => h) (by kernel_rfl) ?hy24 hS6 ?rest24
  case hy24 => (intro w0 hSw; obtain ⟨s0, s1, s2, s3, s4, s5, s6, s7, s8, s9, s10, s11⟩ := hSw; first | (go_simp; done) | (go_simp; with_reducible rfl))
  simp only [List.setIfInBounds_toArray, List.set_cons_zero, List.set_cons_succ]
  refine takeD 63 (i := 31) (v := ?v25) rfl rfl (by kernel_rfl) (by kernel_rfl) (by kernel_rfl) (fun _ _ _ h => h) (by kernel_rfl) ?hy25 hS6 ?rest25
  case hy25 => (intro w0 hSw; obtain ⟨s0, s1, s2, s3, s4, s5, s6, s7, s8, s9, s10, s11⟩ := hSw; first | (go_simp; done) | (go_simp; with_reducible rfl))
  simp only [List.setIfInBounds_toArray, List.set_cons_zero, List.set_cons_succ]
  refine onlyD 62 (i := 30) rfl rfl (by kernel_rfl) (by kernel_rfl) (fun K hK => ?_)
  go_simp
  go_at_call 19
  refine (size_any HV1.out _ (HMO.out.bel ((((((((Bel.refl WF).drew).trans ha1).trans ha2).trans hpg.bel).trans ha4).trans ha5).trans ha6))).mono ?_
  rintro e u7 ⟨rfl, ha7⟩
  have hS7 := HKEEP.out _ (((((((((Bel.refl WF).drew).trans ha1).trans ha2).trans hpg.bel).trans ha4).trans ha5).trans ha6).trans ha7)
  refine hK.out _ _ hS7 (fun _ => ?_)
  clear hK K
  simp only [List.setIfInBounds_toArray, List.set_cons_zero, List.set_cons_succ]
  refine onlyD 64 (i := 32) rfl rfl (by kernel_rfl) (by kernel_rfl) (fun K hK => ?_)
  go_simp
  go_at_call 19
  refine (size_any HV2.out _ (HA.out.bel (((((((((Bel.refl WF).drew).trans ha1).trans ha2).trans hpg.bel).trans ha4).trans ha5).trans ha6).trans ha7))).mono ?_
  rintro e u8 ⟨rfl, ha8⟩
  have hS8 := HKEEP.out _ ((((((((((Bel.refl WF).drew).trans ha1).trans ha2).trans hpg.bel).trans ha4).trans ha5).trans ha6).trans ha7).trans ha8)
  refine hK.out _ _ hS8 (fun _ => ?_)
  clear hK K
  simp only [List.setIfInBounds_toArray, List.set_cons_zero, List.set_cons_succ]
  refine takeD 65 (i := 33) (v := ?v26) rfl rfl (by kernel_rfl) (by kernel_rfl) (by kernel_rfl) (fun _ _ _ h => h) (by kernel_rfl) ?hy26 hS8 ?rest26
  case hy26 => (intro w0 hSw; obtain ⟨s0, s1, s2, s3, s4, s5, s6, s7, s8, s9, s10, s11⟩ := hSw; first | (go_simp; done) | (go_simp; with_reducible rfl))
  simp only [List.setIfInBounds_toArray, List.set_cons_zero, List.set_cons_succ]
  refine takeD 66 (i := 34) (v := ?v27) rfl rfl (by kernel_rfl) (by kernel_rfl) (by kernel_rfl) (fun _ _ _ h => h) (by kernel_rfl) ?hy27 hS8 ?rest27
  case hy27 => (intro w0 hSw; obtain ⟨s0, s1, s2, s3, s4, s5, s6, s7, s8, s9, s10, s11⟩ := hSw; first | (go_simp; done) | (go_simp; with_reducible rfl))
  simp only [List.setIfInBounds_toArray, List.set_cons_zero, List.set_cons_succ]
  refine takeD 67 (i := 35) (v := ?v28) rfl rfl (by kernel_rfl) (by kernel_rfl) (by kernel_rfl) (fun _ _ _ h => h) (by kernel_rfl) ?hy28 hS8 ?rest28
  case hy28 => (intro w0 hSw; obtain ⟨s0, s1, s2, s3, s4, s5, s6, s7, s8, s9, s10, s11⟩ := hSw; first | (go_simp; done) | (go_simp; with_reducible rfl))
  simp only [List.setIfInBounds_toArray, List.set_cons_zero, List.set_cons_succ]
  refine takeD 4 (i := 36) (v := ?v29) rfl rfl (by kernel_rfl) (by kernel_rfl) (by kernel_rfl) (fun _ _ _ h => h) (by kernel_rfl) ?hy29 hS8 ?rest29
  case hy29 => (intro w0 hSw; obtain ⟨s0, s1, s2, s3, s4, s5, s6, s7, s8, s9, s10, s11⟩ := hSw; first | (go_simp; done) | (go_simp; with_reducible rfl))
  simp only [List.setIfInBounds_toArray, List.set_cons_zero, List.set_cons_succ]
  refine wpAnyH_done (by kernel_rfl) ?_ _
  have HB := Lib.hid (HB.out.trans ((((((((((Bel.refl WF).drew).trans ha1).trans ha2).trans hpg.bel).trans ha4).trans ha5).trans ha6).trans ha7).trans ha8))
  clear ha1 ha2 hpg ha4 ha5 ha6 ha7 ha8
  go_wp2_with fail
  go_ret
  exact ⟨rfl, HB.out⟩
end Go.Proofs.YthlnjnmomnpnpaaDoor
