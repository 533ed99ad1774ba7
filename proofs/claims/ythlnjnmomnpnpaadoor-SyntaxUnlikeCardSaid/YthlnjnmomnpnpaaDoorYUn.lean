/- SyntaxUnlike's walk. -/
import Derived.Test.YthlnjnmomnpnpaaDoorYPg
import Derived.Test.YthlnjnmomnpnpaaDoorYPh
import Derived.Test.YthlnjnmomnpnpaaDoorYAwk
import Derived.Test.YthlnjnmomnpnpaaDoorYExpr
import Derived.Test.YthlnjnmomnpnpaaDoorYLenP
import Derived.Test.YthlnjnmomnpnpaaDoorYInj
import Derived.Test.YthlnjnmomnpnpaaDoorYRS
namespace Go.Proofs.YthlnjnmomnpnpaaDoor
section
open Go.RowKit Tk Sy
set_option linter.unusedVariables false
theorem wfT_of {t : Tsk} (h : isTsk t = true) (hb : t.body.length ≤ 3) : WfT t := by
  unfold isTsk within at h
  simp only [Bool.and_eq_true, decide_eq_true_eq] at h
  obtain ⟨h1, ⟨h2, h3⟩, ⟨h4, h5⟩, ⟨h6, h7⟩, _⟩ := h
  have h8 : t.line ≤ 7 := by split at h7 <;> omega
  exact ⟨Nat.le_trans (name_size h1) (by unfold maxLen; decide), ⟨by omega, by omega⟩, ⟨by omega, by omega⟩, ⟨by omega, by omega⟩, Nat.le_trans hb (by decide)⟩
theorem TsksAt.of {w : World} {p : Option Addr} {l : List PT} (h : EncAt encT 6 w p l) (hl : ∀ y ∈ l, WfT y.t ∧ SAt w y.q y.t.body) : TsksAt w p (l.map PT.t) := fun j x hj => by
  rw [List.getElem?_map] at hj
  cases hy : l[j]? with
  | none => rw [hy] at hj; cases hj
  | some y =>
    rw [hy] at hj
    have hs : y.t = x := by simpa using hj
    subst hs
    obtain ⟨b, o, hp, hb, hc⟩ := h j y hy
    obtain ⟨h1, h2⟩ := hl y (List.mem_of_getElem? hy)
    exact ⟨h1, b, o, y.q, y.c, hp, hb, hc 0 _ rfl, hc 1 _ rfl, hc 2 _ rfl, hc 3 _ rfl, hc 4 _ rfl, hc 5 _ rfl, h2⟩
theorem ProgAt.prg {w W : World} {p : Prg} {q1 q2 q3 : Option Addr} {c3 : Nat} (h : ProgAt w W p q1 q2 q3 c3) (hr : right p = true) : PrgAt W q1 q2 q3 p := by
  obtain ⟨B, l, hB, ht, hrow, hok, hd, hs⟩ := h.ex
  obtain ⟨q, c, hv, he, _⟩ := hrow.form tskTy.len
  have hq : q3 = q := by injection hv
  subst hq
  unfold right within at hr
  simp only [Bool.and_eq_true, decide_eq_true_eq] at hr
  obtain ⟨⟨h1, h2⟩, h3, _, h4, _, h5, _⟩ := hr
  refine ⟨hd.sub (maskP_sub _ W), hs.sub (maskP_sub _ W), ?_, ⟨by omega, by omega⟩, by omega, by omega, by omega⟩
  rw [ht]
  exact TsksAt.of he (fun y hy => ⟨wfT_of (hok y hy).wf (hok y hy).len, (hok y hy).body.sub (maskP_sub _ W)⟩)
end
section
open Go.RowKit Tk Sy
set_option linter.unusedVariables false
set_option linter.unusedSimpArgs false
def anyC : Sco := ⟨[], [], 0, [], true⟩
def rawE (raw : List Int) : Ex := (exprV anyC 6 (raw.take 100)).1
theorem anyC_good : GoodC anyC := ⟨fun n hn => (by cases hn), fun n hn => (by cases hn), fun n hn => (by cases hn)⟩
theorem rawE_ok (raw : List Int) : bodyE 30 (rawE raw) = true := expr_30 anyC_good (by decide) _
set_option maxRecDepth 100000 in
set_option maxHeartbeats 8000000 in
theorem raw_lit {raw : List Int} {n : Nat} {x : Ex} (hx : rawE raw = x) (hn : raw.length = n) (w : World) {p : Option Addr} {cp : Nat} (hr : RawAt w p raw) (hcp : n ≤ cp) (hn63 : n ≤ 9223372036854775807) :
    Calls Tryd.prog 11 #[.slice p n cp] w fun e w' => ∃ q cq, e = .returned (exV q cq x) ∧ WfE x ∧ EAt w' q x.args ∧ Bel w w' := by
  obtain ⟨m, hm⟩ : ∃ m, (raw.take 100).length = m := ⟨_, rfl⟩
  have hmn : (n ≤ 100 ∧ m = n) ∨ (100 < n ∧ m = 100) := by rw [List.length_take, hn] at hm; omega
  have hr4 : RawAt w p (raw.take 100) := fun j x hj => by
    rw [List.getElem?_take] at hj
    split at hj
    · exact hr j x hj
    · cases hj
  obtain ⟨r4, hr4e⟩ : ∃ r4, raw.take 100 = r4 := ⟨_, rfl⟩
  obtain ⟨t, hxt⟩ : ∃ t, exprV anyC 6 r4 = (x, t) := ⟨_, Prod.ext (by rw [← hx, ← hr4e]; rfl) rfl⟩
  rw [hr4e] at hr4 hm
  have HM := Lib.hid hm
  have HR := Lib.hid hr4
  have HXT := Lib.hid hxt
  have HCP : Hid (m ≤ cp ∧ m ≤ 100) := Lib.hid (by omega)
  clear hr hr4 hm hn hr4e hx hxt
  have hc4 : 100 < n → 100 ≤ cp := by omega
  go_enter Tryd.func11, Tryd.ntmps11
  go_upto_region 1 with (fail)
  have hb0 := (Bel.refl w).alloc #[.int .i64 0, .int .i64 0, .int .i64 0, .string ⟨#[]⟩, .slice none 0 0] 35
  have hx0 := heap_alloc_new w (.cells #[.int .i64 0, .int .i64 0, .int .i64 0, .string ⟨#[]⟩, .slice none 0 0] 35)
  generalize w.alloc (.cells #[.int .i64 0, .int .i64 0, .int .i64 0, .string ⟨#[]⟩, .slice none 0 0] 35) = W0 at hb0 hx0 ⊢
  generalize hg0 : w.heap.size = g0 at hx0 ⊢
  have HB0 := Lib.hid hb0
  have HX0 := Lib.hid hx0
  have HG0 : Hid (w.heap.size ≤ g0) := Lib.hid (by omega)
  clear hb0 hx0 hg0
  go_upto_if 6 with (fail)
  go_cut [0] (fun v wx => v = .slice p m cp ∧ wx = W0)
  case first =>
    rcases hmn with ⟨h1, h2⟩ | ⟨h1, h2⟩
    · have h3 : ((100 : Int) < (n : Int)) = False := eq_false (by omega)
      go_wp2_with fail
      go_meet
      exact ⟨by rw [h2], rfl⟩
    · have h3 : (100 : Int) < (n : Int) := by omega
      have h4 := hc4 h1
      go_wp2_with fail
      go_meet
      exact ⟨by rw [h2], rfl⟩
  case rest =>
    clear hmn hc4 hcp hn63
    obtain ⟨rfl, hwc0⟩ := hcut
    have hwc := hwc0.symm
    clear hwc0
    subst hwc
    go_upto_region 4 with (fail)
    have hb1 := (Bel.refl W0).alloc #[.slice p m cp] 57
    have hx1 := heap_alloc_new W0 (.cells #[.slice p m cp] 57)
    have hgs : w.heap.size ≤ W0.heap.size ∧ g0 < W0.heap.size := ⟨HB0.out.size, lt_of_heap HX0.out⟩
    generalize W0.alloc (.cells #[.slice p m cp] 57) = W1 at hb1 hx1 ⊢
    generalize W0.heap.size = gS at hx1 hgs ⊢
    have HS : Hid (SrcAt gS W1 r4) := Lib.hid ⟨⟨p, cp, by rw [HM.out]; exact hx1, by rw [HM.out]; exact HCP.out.1, raw_elder (HB0.out.trans hb1) hgs.1 HR.out⟩, by rw [HM.out]; exact Nat.le_trans HCP.out.2 (by decide)⟩
    have HGS := Lib.hid hgs
    have HX0 := Lib.hid (hb1.stays HX0.out)
    have HB1 := Lib.hid (HB0.out.trans hb1)
    clear hb1 hx1 hgs
    go_wp2_with fail
    refine (XAt_lit anyC_good 6 (by decide) gS r4 t x W1 none none none 0 0 0 HXT.out ⟨fun j x hj => (by cases hj), fun j x hj => (by cases hj), fun j x hj => (by cases hj), by decide, by decide, by decide, by decide⟩ HS.out).mono ?_
    rintro e w2 ⟨q, cq, rfl, wf, he, hv, hs⟩
    have hx2 := hv.stays HX0.out (by have := HGS.out; omega)
    have HB2 := Lib.hid (hv.bel HB1.out HGS.out.1)
    have HE := Lib.hid he
    have HG1 : Hid (g0 < W1.heap.size) := Lib.hid (lt_of_heap HX0.out)
    have HWF := Lib.hid wf
    have HX2 := Lib.hid hx2
    clear wf he hv hs hx2
    have k0 : w2.cell? ⟨g0, 0, none⟩ = some (.int .i64 0) := cell_of_heap HX2.out 0
    have k1 : w2.cell? ⟨g0, 1, none⟩ = some (.int .i64 0) := cell_of_heap HX2.out 1
    have k2 : w2.cell? ⟨g0, 2, none⟩ = some (.int .i64 0) := cell_of_heap HX2.out 2
    have k3 : w2.cell? ⟨g0, 3, none⟩ = some (.string ⟨#[]⟩) := cell_of_heap HX2.out 3
    have k4 : w2.cell? ⟨g0, 4, none⟩ = some (.slice none 0 0) := cell_of_heap HX2.out 4
    have f0 := frozen_of_heap HX2.out 0
    have f1 := frozen_of_heap HX2.out 1
    have f2 := frozen_of_heap HX2.out 2
    have f3 := frozen_of_heap HX2.out 3
    have f4 := frozen_of_heap HX2.out 4
    go_wp2_with fail
    clear k0 k1 k2 k3 k4 f0 f1 f2 f3 f4
    have hset := set5 (b0 := .int .i64 x.kind) (b1 := .int .i64 x.op) (b2 := .int .i64 x.n) (b3 := .string x.name) (b4 := .slice q x.args.length cq) HX2.out
    have hsv : Svg g0 w2 (((((w2.setCell ⟨g0, 0, none⟩ (.int .i64 x.kind)).setCell ⟨g0, 1, none⟩ (.int .i64 x.op)).setCell ⟨g0, 2, none⟩ (.int .i64 x.n)).setCell ⟨g0, 3, none⟩ (.string x.name)).setCell ⟨g0, 4, none⟩ (.slice q x.args.length cq)) := ((((Svg.set g0 _ _ _).trans (Svg.set g0 _ _ _)).trans (Svg.set g0 _ _ _)).trans (Svg.set g0 _ _ _)).trans (Svg.set g0 _ _ _)
    generalize ((((w2.setCell ⟨g0, 0, none⟩ (.int .i64 x.kind)).setCell ⟨g0, 1, none⟩ (.int .i64 x.op)).setCell ⟨g0, 2, none⟩ (.int .i64 x.n)).setCell ⟨g0, 3, none⟩ (.string x.name)).setCell ⟨g0, 4, none⟩ (.slice q x.args.length cq) = W3 at hset hsv ⊢
    refine bodyPost_ret (v := exV q cq x) (results_cell_row Tryd.results11 _ _ g0 _ _ _ _ rfl hset Tryd.underlying35 rfl (by kernel_rfl)) rfl ?_
    exact ⟨q, cq, rfl, HWF.out, HE.out.sub ((Bel.sub (Svg.young hsv HG1.out)).trans (maskP_sub _ W3)), hsv.bel HB2.out HG0.out⟩
end
open Go.RowKit Tk Sy
set_option linter.unusedVariables false
set_option linter.unusedSimpArgs false
theorem uprog_lit {raw : List Int} {all : Bool} {n : Nat} {P : Prg} (hP : progV raw all = P) (hn : raw.length = n) (w : World) {p : Option Addr} {cp : Nat} (hr : RawAt w p raw) (hcp : n ≤ cp) (hn63 : n ≤ 9223372036854775807) :
    Calls Tryd.prog 9 #[.slice p n cp, .bool all] w fun e w' => ∃ q1 c1 q2 c2 q3 c3, e = .returned (prgV q1 c1 q2 c2 q3 c3 P) ∧ ProgAt w w' P q1 q2 q3 c3 := by
  subst hP
  exact prog_any hn w hr hcp hn63
theorem ubox_new (W : World) (cs : Array Value) (T : TypeId) : Bel W (W.alloc (.cells cs T)) ∧ (W.alloc (.cells cs T)).heap[W.heap.size]? = some (.cells cs T (0, 0)) := ⟨(Bel.refl W).alloc _ _, heap_alloc_new W _⟩
/-- the texts are alike if the programs are -/
theorem texts_eq {P Q : Prg} (hp : right P = true) (hq : right Q = true) {S U : ByteArray} (hs : str (prgT P) = S) (hu : str (prgT Q) = U) : (S.toList == U.toList) = eqv P Q := by
  rw [str_beq, Bool.eq_iff_iff, eqv_iff, eqv_iff, ← hs, ← hu]
  exact ⟨fun h => prg_inj hp hq (str_inj h), fun h => by rw [h]⟩
theorem exs_eq {x y : Ex} (hx : bodyE 30 x = true) (hy : bodyE 30 y = true) {S U : ByteArray} (hs : str (exT 30 x) = S) (hu : str (exT 30 y) = U) : (S.toList == U.toList) = eqv [x] [y] := by
  rw [str_beq, Bool.eq_iff_iff, eqv_iff, eqv_iff, ← hs, ← hu]
  constructor
  · intro h
    rw [ex_inj hx hy (str_inj h)]
  · intro h
    injection h with h _
    rw [h]
theorem rse_one {x y : Ex} {be : Bool} (h : eqv [x] [y] = be) {w : World} {p q : Option Addr} (ex : EAt w p [x]) (ey : EAt w q [y]) : Calls Tryd.prog 15 #[.slice p 1 1, .slice q 1 1] w fun e w' => e = .returned (.bool be) ∧ Bel w w' := rsE_at (l := [x]) (m := [y]) (c := 1) (c' := 1) h ex ey (by show 1 ≤ _; decide) (by show 1 ≤ _; decide)
def S4 (g8 g9 g14 g15 : Nat) (a1 : Option Addr) (b1 : Nat) (a2 : Option Addr) (b2 : Nat) (a3 : Option Addr) (b3 : Nat) (P : Prg) (d1 : Option Addr) (e1 : Nat) (d2 : Option Addr) (e2 : Nat) (d3 : Option Addr) (e3 : Nat) (Q : Prg) (qx : Option Addr) (cx : Nat) (x : Ex) (qy : Option Addr) (cy : Nat) (y : Ex) (w' : World) : Prop := w'.cell? ⟨g8, 0, none⟩ = some (.int .i64 P.harts) ∧ w'.cell? ⟨g8, 1, none⟩ = some (.slice a1 P.devs.length b1) ∧ w'.cell? ⟨g8, 2, none⟩ = some (.slice a2 P.rscs.length b2) ∧ w'.cell? ⟨g8, 3, none⟩ = some (.slice a3 P.tasks.length b3) ∧ w'.cell? ⟨g9, 0, none⟩ = some (.int .i64 Q.harts) ∧ w'.cell? ⟨g9, 1, none⟩ = some (.slice d1 Q.devs.length e1) ∧ w'.cell? ⟨g9, 2, none⟩ = some (.slice d2 Q.rscs.length e2) ∧ w'.cell? ⟨g9, 3, none⟩ = some (.slice d3 Q.tasks.length e3) ∧ w'.cell? ⟨g14, 0, none⟩ = some (.int .i64 x.kind) ∧ w'.cell? ⟨g14, 1, none⟩ = some (.int .i64 x.op) ∧ w'.cell? ⟨g14, 2, none⟩ = some (.int .i64 x.n) ∧ w'.cell? ⟨g14, 3, none⟩ = some (.string x.name) ∧ w'.cell? ⟨g14, 4, none⟩ = some (.slice qx x.args.length cx) ∧ w'.cell? ⟨g15, 0, none⟩ = some (.int .i64 y.kind) ∧ w'.cell? ⟨g15, 1, none⟩ = some (.int .i64 y.op) ∧ w'.cell? ⟨g15, 2, none⟩ = some (.int .i64 y.n) ∧ w'.cell? ⟨g15, 3, none⟩ = some (.string y.name) ∧ w'.cell? ⟨g15, 4, none⟩ = some (.slice qy y.args.length cy)
set_option maxRecDepth 100000 in
set_option maxHeartbeats 8000000 in
theorem unlike_walk {one two : List Int} {n1 n2 : Nat} {all : Bool} (w : World) {p1 p2 : Option Addr} {c1 c2 : Nat} (hn1 : one.length = n1) (hn2 : two.length = n2) (hr1 : RawAt w p1 one) (hr2 : RawAt w p2 two) (hc1 : n1 ≤ c1) (hc2 : n2 ≤ c2) (h61 : n1 ≤ 9223372036854775807) (h62 : n2 ≤ 9223372036854775807) (hX : Texts w) (hPw : PowAt w) :
    Calls Tryd.prog 3 #[.slice p1 n1 c1, .slice p2 n2 c2, .bool all] w fun e w' => e = .returned (.bool true) ∧ Bel w w' := by
  obtain ⟨P, hP⟩ : ∃ P, progV one all = P := ⟨_, rfl⟩
  obtain ⟨Q, hQ⟩ : ∃ R, progV two all = R := ⟨_, rfl⟩
  obtain ⟨x, hx⟩ : ∃ x, rawE one = x := ⟨_, rfl⟩
  obtain ⟨y, hy⟩ : ∃ x, rawE two = x := ⟨_, rfl⟩
  have hrp : right P = true := by rw [← hP]; exact prog_right _ _
  have hrq : right Q = true := by rw [← hQ]; exact prog_right _ _
  have hbx : bodyE 30 x = true := by rw [← hx]; exact rawE_ok _
  have hby : bodyE 30 y = true := by rw [← hy]; exact rawE_ok _
  have hlp : (prgT P).length ≤ 70368744177664 := by rw [← hP]; exact Nat.le_trans (prog_len _ _) (by decide)
  have hlq : (prgT Q).length ≤ 70368744177664 := by rw [← hQ]; exact Nat.le_trans (prog_len _ _) (by decide)
  obtain ⟨S, hS⟩ : ∃ s, str (prgT P) = s := ⟨_, rfl⟩
  obtain ⟨U, hU⟩ : ∃ s, str (prgT Q) = s := ⟨_, rfl⟩
  obtain ⟨V, hV⟩ : ∃ s, str (exT 30 x) = s := ⟨_, rfl⟩
  obtain ⟨Z, hZ⟩ : ∃ s, str (exT 30 y) = s := ⟨_, rfl⟩
  obtain ⟨bq, hbq⟩ : ∃ b, eqv P Q = b := ⟨_, rfl⟩
  obtain ⟨be, hbe⟩ : ∃ b, eqv [x] [y] = b := ⟨_, rfl⟩
  have HTT := Lib.hid ((texts_eq hrp hrq hS hU).trans hbq)
  have HEE := Lib.hid ((exs_eq hbx hby hV hZ).trans hbe)
  have HP := Lib.hid hP
  have HQ := Lib.hid hQ
  have HXX := Lib.hid hx
  have HYY := Lib.hid hy
  have HRP := Lib.hid hrp
  have HRQ := Lib.hid hrq
  have HBX := Lib.hid hbx
  have HBY := Lib.hid hby
  have HLP := Lib.hid hlp
  have HLQ := Lib.hid hlq
  have HS := Lib.hid hS
  have HU := Lib.hid hU
  have HV := Lib.hid hV
  have HZ := Lib.hid hZ
  have HBQ := Lib.hid hbq
  have HBE := Lib.hid hbe
  have HN1 := Lib.hid hn1
  have HN2 := Lib.hid hn2
  have H1 := Lib.hid hr1
  have H2 := Lib.hid hr2
  have HC := Lib.hid (And.intro hc1 (And.intro hc2 (And.intro h61 h62)))
  have HX := Lib.hid hX
  have HPW := Lib.hid hPw
  clear hP hQ hx hy hrp hrq hbx hby hlp hlq hS hU hV hZ hbq hbe hn1 hn2 hr1 hr2 hc1 hc2 h61 h62 hX hPw
  go_enter Tryd.func3, Tryd.ntmps3
  go_wp2_with fail
  refine (awake_any _ HX.out HPW.out).mono ?_
  rintro e w1 ⟨rfl, hb⟩
  have HB := Lib.hid hb
  clear hb
  go_wp2_with fail
  refine (uprog_lit HP.out HN1.out w1 (H1.out.bel HB.out) HC.out.1 HC.out.2.2.1).mono ?_
  rintro e w2 ⟨a1, b1, a2, b2, a3, b3, rfl, hp⟩
  have HA := Lib.hid (hp.prg HRP.out)
  have HB := Lib.hid (HB.out.trans hp.bel)
  clear hp
  go_upto_region 3 with (fail)
  obtain ⟨nb, nx⟩ := ubox_new w2 (prgA a1 b1 a2 b2 a3 b3 P) 28
  generalize w2.alloc (.cells (prgA a1 b1 a2 b2 a3 b3 P) 28) = W3 at nb nx ⊢
  generalize w2.heap.size = g8 at nx ⊢
  have HK8 := Lib.hid nx
  have HB := Lib.hid (HB.out.trans nb)
  have HA := Lib.hid (HA.out.bel nb)
  clear nb nx
  go_wp2_with fail
  refine (uprog_lit HQ.out HN2.out W3 (H2.out.bel HB.out) HC.out.2.1 HC.out.2.2.2).mono ?_
  rintro e w4 ⟨d1, e1, d2, e2, d3, e3, rfl, hp⟩
  have HD := Lib.hid (hp.prg HRQ.out)
  have HA := Lib.hid (HA.out.bel hp.bel)
  have HK8 := Lib.hid (hp.bel.stays HK8.out)
  have HB := Lib.hid (HB.out.trans hp.bel)
  clear hp
  go_upto_region 4 with (fail)
  obtain ⟨nb, nx⟩ := ubox_new w4 (prgA d1 e1 d2 e2 d3 e3 Q) 28
  generalize w4.alloc (.cells (prgA d1 e1 d2 e2 d3 e3 Q) 28) = W5 at nb nx ⊢
  generalize w4.heap.size = g9 at nx ⊢
  have HK9 := Lib.hid nx
  have HB := Lib.hid (HB.out.trans nb)
  have HA := Lib.hid (HA.out.bel nb)
  have HD := Lib.hid (HD.out.bel nb)
  have HK8 := Lib.hid (nb.stays HK8.out)
  clear nb nx
  have k0 : W5.cell? ⟨g8, 0, none⟩ = some (.int .i64 P.harts) := cell_of_heap HK8.out 0
  have k1 : W5.cell? ⟨g8, 1, none⟩ = some (.slice a1 P.devs.length b1) := cell_of_heap HK8.out 1
  have k2 : W5.cell? ⟨g8, 2, none⟩ = some (.slice a2 P.rscs.length b2) := cell_of_heap HK8.out 2
  have k3 : W5.cell? ⟨g8, 3, none⟩ = some (.slice a3 P.tasks.length b3) := cell_of_heap HK8.out 3
  go_wp2_with fail
  refine (Print_yes (q1 := a1) (c1 := b1) (q2 := a2) (c2 := b2) (q3 := a3) (c3 := b3) HS.out HRP.out _ HA.out (HX.out.bel HB.out) (HPW.out.bel HB.out) HLP.out).mono ?_
  rintro e W6 ⟨rfl, hb⟩
  have HB := Lib.hid (HB.out.trans hb)
  have HA := Lib.hid (HA.out.bel hb)
  have HD := Lib.hid (HD.out.bel hb)
  have HK8 := Lib.hid (hb.stays HK8.out)
  have HK9 := Lib.hid (hb.stays HK9.out)
  clear hb k0 k1 k2 k3
  have k0 : W6.cell? ⟨g9, 0, none⟩ = some (.int .i64 Q.harts) := cell_of_heap HK9.out 0
  have k1 : W6.cell? ⟨g9, 1, none⟩ = some (.slice d1 Q.devs.length e1) := cell_of_heap HK9.out 1
  have k2 : W6.cell? ⟨g9, 2, none⟩ = some (.slice d2 Q.rscs.length e2) := cell_of_heap HK9.out 2
  have k3 : W6.cell? ⟨g9, 3, none⟩ = some (.slice d3 Q.tasks.length e3) := cell_of_heap HK9.out 3
  go_wp2_with fail
  refine (Print_yes (q1 := d1) (c1 := e1) (q2 := d2) (c2 := e2) (q3 := d3) (c3 := e3) HU.out HRQ.out _ HD.out (HX.out.bel HB.out) (HPW.out.bel HB.out) HLQ.out).mono ?_
  rintro e W7 ⟨rfl, hb⟩
  have HB := Lib.hid (HB.out.trans hb)
  have HA := Lib.hid (HA.out.bel hb)
  have HD := Lib.hid (HD.out.bel hb)
  have HK8 := Lib.hid (hb.stays HK8.out)
  have HK9 := Lib.hid (hb.stays HK9.out)
  clear hb k0 k1 k2 k3
  go_wp2_with fail
  refine (raw_lit HXX.out HN1.out W7 (H1.out.bel HB.out) HC.out.1 HC.out.2.2.1).mono ?_
  rintro e W8 ⟨qx, cx, rfl, wf, he, hb⟩
  have HWX := Lib.hid wf
  have HEX := Lib.hid he
  have HB := Lib.hid (HB.out.trans hb)
  have HA := Lib.hid (HA.out.bel hb)
  have HD := Lib.hid (HD.out.bel hb)
  have HK8 := Lib.hid (hb.stays HK8.out)
  have HK9 := Lib.hid (hb.stays HK9.out)
  clear hb wf he
  go_upto_region 7 with (fail)
  obtain ⟨nb, nx⟩ := ubox_new W8 (exA qx cx x) 35
  generalize W8.alloc (.cells (exA qx cx x) 35) = W9 at nb nx ⊢
  generalize W8.heap.size = g14 at nx ⊢
  have HK14 := Lib.hid nx
  have HB := Lib.hid (HB.out.trans nb)
  have HA := Lib.hid (HA.out.bel nb)
  have HD := Lib.hid (HD.out.bel nb)
  have HK8 := Lib.hid (nb.stays HK8.out)
  have HK9 := Lib.hid (nb.stays HK9.out)
  have HEX := Lib.hid (HEX.out.bel nb)
  clear nb nx
  go_wp2_with fail
  refine (raw_lit HYY.out HN2.out W9 (H2.out.bel HB.out) HC.out.2.1 HC.out.2.2.2).mono ?_
  rintro e V8 ⟨qy, cy, rfl, wf, he, hb⟩
  have HWY := Lib.hid wf
  have HEY := Lib.hid he
  have HB := Lib.hid (HB.out.trans hb)
  have HA := Lib.hid (HA.out.bel hb)
  have HD := Lib.hid (HD.out.bel hb)
  have HK8 := Lib.hid (hb.stays HK8.out)
  have HK9 := Lib.hid (hb.stays HK9.out)
  have HEX := Lib.hid (HEX.out.bel hb)
  have HK14 := Lib.hid (hb.stays HK14.out)
  clear hb wf he
  go_upto_region 8 with (fail)
  obtain ⟨nb, nx⟩ := ubox_new V8 (exA qy cy y) 35
  generalize V8.alloc (.cells (exA qy cy y) 35) = V9 at nb nx ⊢
  generalize V8.heap.size = g15 at nx ⊢
  have HK15 := Lib.hid nx
  have HB := Lib.hid (HB.out.trans nb)
  have HA := Lib.hid (HA.out.bel nb)
  have HD := Lib.hid (HD.out.bel nb)
  have HK8 := Lib.hid (nb.stays HK8.out)
  have HK9 := Lib.hid (nb.stays HK9.out)
  have HEX := Lib.hid (HEX.out.bel nb)
  have HK14 := Lib.hid (nb.stays HK14.out)
  have HEY := Lib.hid (HEY.out.bel nb)
  clear nb nx
  have k0 : V9.cell? ⟨g14, 0, none⟩ = some (.int .i64 x.kind) := cell_of_heap HK14.out 0
  have k1 : V9.cell? ⟨g14, 1, none⟩ = some (.int .i64 x.op) := cell_of_heap HK14.out 1
  have k2 : V9.cell? ⟨g14, 2, none⟩ = some (.int .i64 x.n) := cell_of_heap HK14.out 2
  have k3 : V9.cell? ⟨g14, 3, none⟩ = some (.string x.name) := cell_of_heap HK14.out 3
  have k4 : V9.cell? ⟨g14, 4, none⟩ = some (.slice qx x.args.length cx) := cell_of_heap HK14.out 4
  go_wp2_with fail
  refine (Expr_yes (k := 30) rfl (q := qx) (c := cx) HV.out HBX.out _ HEX.out HWX.out (HX.out.bel HB.out) (HPW.out.bel HB.out)).mono ?_
  rintro e V7 ⟨rfl, hb⟩
  have HB := Lib.hid (HB.out.trans hb)
  have HA := Lib.hid (HA.out.bel hb)
  have HD := Lib.hid (HD.out.bel hb)
  have HK8 := Lib.hid (hb.stays HK8.out)
  have HK9 := Lib.hid (hb.stays HK9.out)
  have HEX := Lib.hid (HEX.out.bel hb)
  have HK14 := Lib.hid (hb.stays HK14.out)
  have HEY := Lib.hid (HEY.out.bel hb)
  have HK15 := Lib.hid (hb.stays HK15.out)
  clear hb k0 k1 k2 k3 k4
  have k0 : V7.cell? ⟨g15, 0, none⟩ = some (.int .i64 y.kind) := cell_of_heap HK15.out 0
  have k1 : V7.cell? ⟨g15, 1, none⟩ = some (.int .i64 y.op) := cell_of_heap HK15.out 1
  have k2 : V7.cell? ⟨g15, 2, none⟩ = some (.int .i64 y.n) := cell_of_heap HK15.out 2
  have k3 : V7.cell? ⟨g15, 3, none⟩ = some (.string y.name) := cell_of_heap HK15.out 3
  have k4 : V7.cell? ⟨g15, 4, none⟩ = some (.slice qy y.args.length cy) := cell_of_heap HK15.out 4
  go_wp2_with fail
  refine (Expr_yes (k := 30) rfl (q := qy) (c := cy) HZ.out HBY.out _ HEY.out HWY.out (HX.out.bel HB.out) (HPW.out.bel HB.out)).mono ?_
  rintro e V6 ⟨rfl, hb⟩
  have HB := Lib.hid (HB.out.trans hb)
  have HA := Lib.hid (HA.out.bel hb)
  have HD := Lib.hid (HD.out.bel hb)
  have HK8 := Lib.hid (hb.stays HK8.out)
  have HK9 := Lib.hid (hb.stays HK9.out)
  have HEX := Lib.hid (HEX.out.bel hb)
  have HK14 := Lib.hid (hb.stays HK14.out)
  have HEY := Lib.hid (HEY.out.bel hb)
  have HK15 := Lib.hid (hb.stays HK15.out)
  clear hb k0 k1 k2 k3 k4
  have HKEEP : Hid (∀ w', Bel V6 w' → S4 g8 g9 g14 g15 a1 b1 a2 b2 a3 b3 P d1 e1 d2 e2 d3 e3 Q qx cx x qy cy y w') := Lib.hid (fun w' hb => ⟨cell_of_heap (hb.stays HK8.out) 0, cell_of_heap (hb.stays HK8.out) 1, cell_of_heap (hb.stays HK8.out) 2, cell_of_heap (hb.stays HK8.out) 3, cell_of_heap (hb.stays HK9.out) 0, cell_of_heap (hb.stays HK9.out) 1, cell_of_heap (hb.stays HK9.out) 2, cell_of_heap (hb.stays HK9.out) 3, cell_of_heap (hb.stays HK14.out) 0, cell_of_heap (hb.stays HK14.out) 1, cell_of_heap (hb.stays HK14.out) 2, cell_of_heap (hb.stays HK14.out) 3, cell_of_heap (hb.stays HK14.out) 4, cell_of_heap (hb.stays HK15.out) 0, cell_of_heap (hb.stays HK15.out) 1, cell_of_heap (hb.stays HK15.out) 2, cell_of_heap (hb.stays HK15.out) 3, cell_of_heap (hb.stays HK15.out) 4⟩)
  have hTT := HTT.out
  have hEE := HEE.out
  have hb1 : (bq == bq) = true := by cases bq <;> rfl
  have hb2 : (be == be) = true := by cases be <;> rfl
  go_upto_region 10 with (fail)
  refine wp_region_held_drew (S := (S4 g8 g9 g14 g15 a1 b1 a2 b2 a3 b3 P d1 e1 d2 e2 d3 e3 Q qx cx x qy cy y)) (by kernel_rfl) (HKEEP.out _ (Bel.refl V6).drew) (fun hS0 => ?_)
  refine takeD 51 (i := 0) (v := ?v1) rfl rfl (by kernel_rfl) (by kernel_rfl) (by kernel_rfl) (fun _ _ _ h => h) (by kernel_rfl) ?hy1 hS0 ?rest1
  case hy1 => (intro w0 hSw; obtain ⟨s0, s1, s2, s3, s4, s5, s6, s7, s8, s9, s10, s11, s12, s13, s14, s15, s16, s17⟩ := hSw; first | (go_simp; done) | (go_simp; with_reducible rfl))
  simp only [List.setIfInBounds_toArray, List.set_cons_zero, List.set_cons_succ]
  refine takeD 52 (i := 1) (v := ?v2) rfl rfl (by kernel_rfl) (by kernel_rfl) (by kernel_rfl) (fun _ _ _ h => h) (by kernel_rfl) ?hy2 hS0 ?rest2
  case hy2 => (intro w0 hSw; obtain ⟨s0, s1, s2, s3, s4, s5, s6, s7, s8, s9, s10, s11, s12, s13, s14, s15, s16, s17⟩ := hSw; first | (go_simp; done) | (go_simp; with_reducible rfl))
  simp only [List.setIfInBounds_toArray, List.set_cons_zero, List.set_cons_succ]
  refine takeD 53 (i := 2) (v := ?v3) rfl rfl (by kernel_rfl) (by kernel_rfl) (by kernel_rfl) (fun _ _ _ h => h) (by kernel_rfl) ?hy3 hS0 ?rest3
  case hy3 => (intro w0 hSw; obtain ⟨s0, s1, s2, s3, s4, s5, s6, s7, s8, s9, s10, s11, s12, s13, s14, s15, s16, s17⟩ := hSw; first | (go_simp; done) | (go_simp; with_reducible rfl))
  simp only [List.setIfInBounds_toArray, List.set_cons_zero, List.set_cons_succ]
  refine takeD 54 (i := 3) (v := ?v4) rfl rfl (by kernel_rfl) (by kernel_rfl) (by kernel_rfl) (fun _ _ _ h => h) (by kernel_rfl) ?hy4 hS0 ?rest4
  case hy4 => (intro w0 hSw; obtain ⟨s0, s1, s2, s3, s4, s5, s6, s7, s8, s9, s10, s11, s12, s13, s14, s15, s16, s17⟩ := hSw; first | (go_simp; done) | (go_simp; with_reducible rfl))
  simp only [List.setIfInBounds_toArray, List.set_cons_zero, List.set_cons_succ]
  refine takeD 55 (i := 4) (v := ?v5) rfl rfl (by kernel_rfl) (by kernel_rfl) (by kernel_rfl) (fun _ _ _ h => h) (by kernel_rfl) ?hy5 hS0 ?rest5
  case hy5 => (intro w0 hSw; obtain ⟨s0, s1, s2, s3, s4, s5, s6, s7, s8, s9, s10, s11, s12, s13, s14, s15, s16, s17⟩ := hSw; first | (go_simp; done) | (go_simp; with_reducible rfl))
  simp only [List.setIfInBounds_toArray, List.set_cons_zero, List.set_cons_succ]
  refine takeD 56 (i := 5) (v := ?v6) rfl rfl (by kernel_rfl) (by kernel_rfl) (by kernel_rfl) (fun _ _ _ h => h) (by kernel_rfl) ?hy6 hS0 ?rest6
  case hy6 => (intro w0 hSw; obtain ⟨s0, s1, s2, s3, s4, s5, s6, s7, s8, s9, s10, s11, s12, s13, s14, s15, s16, s17⟩ := hSw; first | (go_simp; done) | (go_simp; with_reducible rfl))
  simp only [List.setIfInBounds_toArray, List.set_cons_zero, List.set_cons_succ]
  refine takeD 57 (i := 6) (v := ?v7) rfl rfl (by kernel_rfl) (by kernel_rfl) (by kernel_rfl) (fun _ _ _ h => h) (by kernel_rfl) ?hy7 hS0 ?rest7
  case hy7 => (intro w0 hSw; obtain ⟨s0, s1, s2, s3, s4, s5, s6, s7, s8, s9, s10, s11, s12, s13, s14, s15, s16, s17⟩ := hSw; first | (go_simp; done) | (go_simp; with_reducible rfl))
  simp only [List.setIfInBounds_toArray, List.set_cons_zero, List.set_cons_succ]
  refine takeD 58 (i := 7) (v := ?v8) rfl rfl (by kernel_rfl) (by kernel_rfl) (by kernel_rfl) (fun _ _ _ h => h) (by kernel_rfl) ?hy8 hS0 ?rest8
  case hy8 => (intro w0 hSw; obtain ⟨s0, s1, s2, s3, s4, s5, s6, s7, s8, s9, s10, s11, s12, s13, s14, s15, s16, s17⟩ := hSw; first | (go_simp; done) | (go_simp; with_reducible rfl))
  simp only [List.setIfInBounds_toArray, List.set_cons_zero, List.set_cons_succ]
  refine takeD 59 (i := 8) (v := ?v9) rfl rfl (by kernel_rfl) (by kernel_rfl) (by kernel_rfl) (fun _ _ _ h => h) (by kernel_rfl) ?hy9 hS0 ?rest9
  case hy9 => (intro w0 hSw; obtain ⟨s0, s1, s2, s3, s4, s5, s6, s7, s8, s9, s10, s11, s12, s13, s14, s15, s16, s17⟩ := hSw; first | (go_simp; done) | (go_simp; with_reducible rfl))
  simp only [List.setIfInBounds_toArray, List.set_cons_zero, List.set_cons_succ]
  refine takeD 60 (i := 9) (v := ?v10) rfl rfl (by kernel_rfl) (by kernel_rfl) (by kernel_rfl) (fun _ _ _ h => h) (by kernel_rfl) ?hy10 hS0 ?rest10
  case hy10 => (intro w0 hSw; obtain ⟨s0, s1, s2, s3, s4, s5, s6, s7, s8, s9, s10, s11, s12, s13, s14, s15, s16, s17⟩ := hSw; first | (go_simp; done) | (go_simp; with_reducible rfl))
  simp only [List.setIfInBounds_toArray, List.set_cons_zero, List.set_cons_succ]
  refine takeD 61 (i := 10) (v := ?v11) rfl rfl (by kernel_rfl) (by kernel_rfl) (by kernel_rfl) (fun _ _ _ h => h) (by kernel_rfl) ?hy11 hS0 ?rest11
  case hy11 => (intro w0 hSw; obtain ⟨s0, s1, s2, s3, s4, s5, s6, s7, s8, s9, s10, s11, s12, s13, s14, s15, s16, s17⟩ := hSw; first | (go_simp; done) | (go_simp; with_reducible rfl))
  simp only [List.setIfInBounds_toArray, List.set_cons_zero, List.set_cons_succ]
  refine takeD 62 (i := 11) (v := ?v12) rfl rfl (by kernel_rfl) (by kernel_rfl) (by kernel_rfl) (fun _ _ _ h => h) (by kernel_rfl) ?hy12 hS0 ?rest12
  case hy12 => (intro w0 hSw; obtain ⟨s0, s1, s2, s3, s4, s5, s6, s7, s8, s9, s10, s11, s12, s13, s14, s15, s16, s17⟩ := hSw; first | (go_simp; done) | (go_simp; with_reducible rfl))
  simp only [List.setIfInBounds_toArray, List.set_cons_zero, List.set_cons_succ]
  refine takeD 63 (i := 12) (v := ?v13) rfl rfl (by kernel_rfl) (by kernel_rfl) (by kernel_rfl) (fun _ _ _ h => h) (by kernel_rfl) ?hy13 hS0 ?rest13
  case hy13 => (intro w0 hSw; obtain ⟨s0, s1, s2, s3, s4, s5, s6, s7, s8, s9, s10, s11, s12, s13, s14, s15, s16, s17⟩ := hSw; first | (go_simp; done) | (go_simp; with_reducible rfl))
  simp only [List.setIfInBounds_toArray, List.set_cons_zero, List.set_cons_succ]
  refine takeD 64 (i := 13) (v := ?v14) rfl rfl (by kernel_rfl) (by kernel_rfl) (by kernel_rfl) (fun _ _ _ h => h) (by kernel_rfl) ?hy14 hS0 ?rest14
  case hy14 => (intro w0 hSw; obtain ⟨s0, s1, s2, s3, s4, s5, s6, s7, s8, s9, s10, s11, s12, s13, s14, s15, s16, s17⟩ := hSw; first | (go_simp; done) | (go_simp; with_reducible rfl))
  simp only [List.setIfInBounds_toArray, List.set_cons_zero, List.set_cons_succ]
  refine takeD 65 (i := 14) (v := ?v15) rfl rfl (by kernel_rfl) (by kernel_rfl) (by kernel_rfl) (fun _ _ _ h => h) (by kernel_rfl) ?hy15 hS0 ?rest15
  case hy15 => (intro w0 hSw; obtain ⟨s0, s1, s2, s3, s4, s5, s6, s7, s8, s9, s10, s11, s12, s13, s14, s15, s16, s17⟩ := hSw; first | (go_simp; done) | (go_simp; with_reducible rfl))
  simp only [List.setIfInBounds_toArray, List.set_cons_zero, List.set_cons_succ]
  refine takeD 66 (i := 15) (v := ?v16) rfl rfl (by kernel_rfl) (by kernel_rfl) (by kernel_rfl) (fun _ _ _ h => h) (by kernel_rfl) ?hy16 hS0 ?rest16
  case hy16 => (intro w0 hSw; obtain ⟨s0, s1, s2, s3, s4, s5, s6, s7, s8, s9, s10, s11, s12, s13, s14, s15, s16, s17⟩ := hSw; first | (go_simp; done) | (go_simp; with_reducible rfl))
  simp only [List.setIfInBounds_toArray, List.set_cons_zero, List.set_cons_succ]
  refine takeD 67 (i := 16) (v := ?v17) rfl rfl (by kernel_rfl) (by kernel_rfl) (by kernel_rfl) (fun _ _ _ h => h) (by kernel_rfl) ?hy17 hS0 ?rest17
  case hy17 => (intro w0 hSw; obtain ⟨s0, s1, s2, s3, s4, s5, s6, s7, s8, s9, s10, s11, s12, s13, s14, s15, s16, s17⟩ := hSw; first | (go_simp; done) | (go_simp; with_reducible rfl))
  simp only [List.setIfInBounds_toArray, List.set_cons_zero, List.set_cons_succ]
  refine takeD 68 (i := 17) (v := ?v18) rfl rfl (by kernel_rfl) (by kernel_rfl) (by kernel_rfl) (fun _ _ _ h => h) (by kernel_rfl) ?hy18 hS0 ?rest18
  case hy18 => (intro w0 hSw; obtain ⟨s0, s1, s2, s3, s4, s5, s6, s7, s8, s9, s10, s11, s12, s13, s14, s15, s16, s17⟩ := hSw; first | (go_simp; done) | (go_simp; with_reducible rfl))
  simp only [List.setIfInBounds_toArray, List.set_cons_zero, List.set_cons_succ]
  refine takeD 69 (i := 18) (v := ?v19) rfl rfl (by kernel_rfl) (by kernel_rfl) (by kernel_rfl) (fun _ _ _ h => h) (by kernel_rfl) ?hy19 hS0 ?rest19
  case hy19 => (intro w0 hSw; obtain ⟨s0, s1, s2, s3, s4, s5, s6, s7, s8, s9, s10, s11, s12, s13, s14, s15, s16, s17⟩ := hSw; first | (go_simp; done) | (go_simp; with_reducible rfl))
  simp only [List.setIfInBounds_toArray, List.set_cons_zero, List.set_cons_succ]
  refine takeD 70 (i := 19) (v := ?v20) rfl rfl (by kernel_rfl) (by kernel_rfl) (by kernel_rfl) (fun _ _ _ h => h) (by kernel_rfl) ?hy20 hS0 ?rest20
  case hy20 => (intro w0 hSw; obtain ⟨s0, s1, s2, s3, s4, s5, s6, s7, s8, s9, s10, s11, s12, s13, s14, s15, s16, s17⟩ := hSw; first | (go_simp; done) | (go_simp; with_reducible rfl))
  simp only [List.setIfInBounds_toArray, List.set_cons_zero, List.set_cons_succ]
  refine takeD 71 (i := 20) (v := ?v21) rfl rfl (by kernel_rfl) (by kernel_rfl) (by kernel_rfl) (fun _ _ _ h => h) (by kernel_rfl) ?hy21 hS0 ?rest21
  case hy21 => (intro w0 hSw; obtain ⟨s0, s1, s2, s3, s4, s5, s6, s7, s8, s9, s10, s11, s12, s13, s14, s15, s16, s17⟩ := hSw; first | (go_simp; done) | (go_simp; with_reducible rfl))
  simp only [List.setIfInBounds_toArray, List.set_cons_zero, List.set_cons_succ]
  refine takeD 72 (i := 21) (v := ?v22) rfl rfl (by kernel_rfl) (by kernel_rfl) (by kernel_rfl) (fun _ _ _ h => h) (by kernel_rfl) ?hy22 hS0 ?rest22
  case hy22 => (intro w0 hSw; obtain ⟨s0, s1, s2, s3, s4, s5, s6, s7, s8, s9, s10, s11, s12, s13, s14, s15, s16, s17⟩ := hSw; first | (go_simp; done) | (go_simp; with_reducible rfl))
  simp only [List.setIfInBounds_toArray, List.set_cons_zero, List.set_cons_succ]
  refine takeD 73 (i := 22) (v := ?v23) rfl rfl (by kernel_rfl) (by kernel_rfl) (by kernel_rfl) (fun _ _ _ h => h) (by kernel_rfl) ?hy23 hS0 ?rest23
  case hy23 => (intro w0 hSw; obtain ⟨s0, s1, s2, s3, s4, s5, s6, s7, s8, s9, s10, s11, s12, s13, s14, s15, s16, s17⟩ := hSw; first | (go_simp; done) | (go_simp; with_reducible rfl))
  simp only [List.setIfInBounds_toArray, List.set_cons_zero, List.set_cons_succ]
  refine onlyD 74 (i := 23) rfl rfl (by kernel_rfl) (by kernel_rfl) (fun K hK => ?_)
  go_simp
  go_at_call 13
  refine (rsame_lit HBQ.out _ (HA.out.bel ((Bel.refl V6).drew)) (HD.out.bel ((Bel.refl V6).drew))).mono ?_
  rintro e u1 ⟨rfl, ha1⟩
  have hS1 := HKEEP.out _ (((Bel.refl V6).drew).trans ha1)
  refine hK.out _ _ hS1 (fun _ => ?_)
  clear hK K
  simp only [List.setIfInBounds_toArray, List.set_cons_zero, List.set_cons_succ]
  refine takeD 75 (i := 24) (v := ?v24) rfl rfl (by kernel_rfl) (by kernel_rfl) (by kernel_rfl) (fun _ _ _ h => h) (by kernel_rfl) ?hy24 hS1 ?rest24
  case hy24 => (intro w0 hSw; obtain ⟨s0, s1, s2, s3, s4, s5, s6, s7, s8, s9, s10, s11, s12, s13, s14, s15, s16, s17⟩ := hSw; first | (go_simp; done) | (go_simp; with_reducible rfl))
  simp only [List.setIfInBounds_toArray, List.set_cons_zero, List.set_cons_succ]
  refine takeD 76 (i := 25) (v := ?v25) rfl rfl (by kernel_rfl) (by kernel_rfl) (by kernel_rfl) (fun _ _ _ h => h) (by kernel_rfl) ?hy25 hS1 ?rest25
  case hy25 => (intro w0 hSw; obtain ⟨s0, s1, s2, s3, s4, s5, s6, s7, s8, s9, s10, s11, s12, s13, s14, s15, s16, s17⟩ := hSw; first | (go_simp; done) | (go_simp; with_reducible rfl))
  simp only [List.setIfInBounds_toArray, List.set_cons_zero, List.set_cons_succ]
  refine takeD 77 (i := 26) (v := ?v26) rfl rfl (by kernel_rfl) (by kernel_rfl) (by kernel_rfl) (fun _ _ _ h => h) (by kernel_rfl) ?hy26 hS1 ?rest26
  case hy26 => (intro w0 hSw; obtain ⟨s0, s1, s2, s3, s4, s5, s6, s7, s8, s9, s10, s11, s12, s13, s14, s15, s16, s17⟩ := hSw; first | (go_simp; done) | (go_simp; with_reducible rfl))
  simp only [List.setIfInBounds_toArray, List.set_cons_zero, List.set_cons_succ]
  refine takeD 78 (i := 27) (v := ?v27) rfl rfl (by kernel_rfl) (by kernel_rfl) (by kernel_rfl) (fun _ _ _ h => h) (by kernel_rfl) ?hy27 hS1 ?rest27
  case hy27 => (intro w0 hSw; obtain ⟨s0, s1, s2, s3, s4, s5, s6, s7, s8, s9, s10, s11, s12, s13, s14, s15, s16, s17⟩ := hSw; first | (go_simp; done) | (go_simp; with_reducible rfl))
  simp only [List.setIfInBounds_toArray, List.set_cons_zero, List.set_cons_succ]
  refine takeD 79 (i := 28) (v := ?v28) rfl rfl (by kernel_rfl) (by kernel_rfl) (by kernel_rfl) (fun _ _ _ h => h) (by kernel_rfl) ?hy28 hS1 ?rest28
  case hy28 => (intro w0 hSw; obtain ⟨s0, s1, s2, s3, s4, s5, s6, s7, s8, s9, s10, s11, s12, s13, s14, s15, s16, s17⟩ := hSw; first | (go_simp; done) | (go_simp; with_reducible rfl))
  simp only [List.setIfInBounds_toArray, List.set_cons_zero, List.set_cons_succ]
  refine takeD 81 (i := 30) (v := ?v29) rfl rfl (by kernel_rfl) (by kernel_rfl) (by kernel_rfl) (fun _ _ _ h => h) (by kernel_rfl) ?hy29 hS1 ?rest29
  case hy29 => (intro w0 hSw; obtain ⟨s0, s1, s2, s3, s4, s5, s6, s7, s8, s9, s10, s11, s12, s13, s14, s15, s16, s17⟩ := hSw; first | (go_simp; done) | (go_simp; with_reducible rfl))
  simp only [List.setIfInBounds_toArray, List.set_cons_zero, List.set_cons_succ]
  refine takeD 82 (i := 31) (v := ?v30) rfl rfl (by kernel_rfl) (by kernel_rfl) (by kernel_rfl) (fun _ _ _ h => h) (by kernel_rfl) ?hy30 hS1 ?rest30
  case hy30 => (intro w0 hSw; obtain ⟨s0, s1, s2, s3, s4, s5, s6, s7, s8, s9, s10, s11, s12, s13, s14, s15, s16, s17⟩ := hSw; first | (go_simp; done) | (go_simp; with_reducible rfl))
  simp only [List.setIfInBounds_toArray, List.set_cons_zero, List.set_cons_succ]
  refine onlyD 80 (i := 29) rfl rfl (by kernel_rfl) (by kernel_rfl) (fun K hK => ?_)
  go_simp
  go_at_call 14
  refine (same_lit HBQ.out _ (HA.out.bel (((Bel.refl V6).drew).trans ha1)) (HD.out.bel (((Bel.refl V6).drew).trans ha1))).mono ?_
  rintro e u2 ⟨rfl, ha2⟩
  have hS2 := HKEEP.out _ ((((Bel.refl V6).drew).trans ha1).trans ha2)
  refine hK.out _ _ hS2 (fun _ => ?_)
  clear hK K
  simp only [List.setIfInBounds_toArray, List.set_cons_zero, List.set_cons_succ]
  refine onlyD 83 (i := 32) rfl rfl (by kernel_rfl) (by kernel_rfl) (fun K hK => ?_)
  go_simp
  go_at_call 13
  refine (rsame_lit HBQ.out _ (HA.out.bel ((((Bel.refl V6).drew).trans ha1).trans ha2)) (HD.out.bel ((((Bel.refl V6).drew).trans ha1).trans ha2))).mono ?_
  rintro e u3 ⟨rfl, ha3⟩
  have hS3 := HKEEP.out _ (((((Bel.refl V6).drew).trans ha1).trans ha2).trans ha3)
  refine hK.out _ _ hS3 (fun _ => ?_)
  clear hK K
  simp only [List.setIfInBounds_toArray, List.set_cons_zero, List.set_cons_succ]
  refine takeD 84 (i := 33) (v := ?v31) rfl rfl (by kernel_rfl) (by kernel_rfl) (by kernel_rfl) (fun _ _ _ h => h) (by kernel_rfl) ?hy31 hS3 ?rest31
  case hy31 => (intro w0 hSw; obtain ⟨s0, s1, s2, s3, s4, s5, s6, s7, s8, s9, s10, s11, s12, s13, s14, s15, s16, s17⟩ := hSw; first | (go_simp; done) | (go_simp; with_reducible rfl))
  simp only [List.setIfInBounds_toArray, List.set_cons_zero, List.set_cons_succ]
  refine takeD 85 (i := 34) (v := ?v32) rfl rfl (by kernel_rfl) (by kernel_rfl) (by kernel_rfl) (fun _ _ _ h => h) (by kernel_rfl) ?hy32 hS3 ?rest32
  case hy32 => (intro w0 hSw; obtain ⟨s0, s1, s2, s3, s4, s5, s6, s7, s8, s9, s10, s11, s12, s13, s14, s15, s16, s17⟩ := hSw; first | (go_simp; done) | (go_simp; with_reducible rfl))
  simp only [List.setIfInBounds_toArray, List.set_cons_zero, List.set_cons_succ]
  refine takeD 86 (i := 35) (v := ?v33) rfl rfl (by kernel_rfl) (by kernel_rfl) (by kernel_rfl) (fun _ _ _ h => h) (by kernel_rfl) ?hy33 hS3 ?rest33
  case hy33 => (intro w0 hSw; obtain ⟨s0, s1, s2, s3, s4, s5, s6, s7, s8, s9, s10, s11, s12, s13, s14, s15, s16, s17⟩ := hSw; first | (go_simp; done) | (go_simp; with_reducible rfl))
  simp only [List.setIfInBounds_toArray, List.set_cons_zero, List.set_cons_succ]
  refine takeD 87 (i := 36) (v := ?v34) rfl rfl (by kernel_rfl) (by kernel_rfl) (by kernel_rfl) (fun _ _ _ h => h) (by kernel_rfl) ?hy34 hS3 ?rest34
  case hy34 => (intro w0 hSw; obtain ⟨s0, s1, s2, s3, s4, s5, s6, s7, s8, s9, s10, s11, s12, s13, s14, s15, s16, s17⟩ := hSw; first | (go_simp; done) | (go_simp; with_reducible rfl))
  simp only [List.setIfInBounds_toArray, List.set_cons_zero, List.set_cons_succ]
  refine takeD 88 (i := 37) (v := ?v35) rfl rfl (by kernel_rfl) (by kernel_rfl) (by kernel_rfl) (fun _ _ _ h => h) (by kernel_rfl) ?hy35 hS3 ?rest35
  case hy35 => (intro w0 hSw; obtain ⟨s0, s1, s2, s3, s4, s5, s6, s7, s8, s9, s10, s11, s12, s13, s14, s15, s16, s17⟩ := hSw; first | (go_simp; done) | (go_simp; with_reducible rfl))
  simp only [List.setIfInBounds_toArray, List.set_cons_zero, List.set_cons_succ]
  refine takeD 89 (i := 38) (v := ?v36) rfl rfl (by kernel_rfl) (by kernel_rfl) (by kernel_rfl) (fun _ _ _ h => h) (by kernel_rfl) ?hy36 hS3 ?rest36
  case hy36 => (intro w0 hSw; obtain ⟨s0, s1, s2, s3, s4, s5, s6, s7, s8, s9, s10, s11, s12, s13, s14, s15, s16, s17⟩ := hSw; first | (go_simp; done) | (go_simp; with_reducible rfl))
  simp only [List.setIfInBounds_toArray, List.set_cons_zero, List.set_cons_succ]
  refine takeD 90 (i := 39) (v := ?v37) rfl rfl (by kernel_rfl) (by kernel_rfl) (by kernel_rfl) (fun _ _ _ h => h) (by kernel_rfl) ?hy37 hS3 ?rest37
  case hy37 => (intro w0 hSw; obtain ⟨s0, s1, s2, s3, s4, s5, s6, s7, s8, s9, s10, s11, s12, s13, s14, s15, s16, s17⟩ := hSw; first | (go_simp; done) | (go_simp; with_reducible rfl))
  simp only [List.setIfInBounds_toArray, List.set_cons_zero, List.set_cons_succ]
  refine takeD 92 (i := 41) (v := ?v38) rfl rfl (by kernel_rfl) (by kernel_rfl) (by kernel_rfl) (fun _ _ _ h => h) (by kernel_rfl) ?hy38 hS3 ?rest38
  case hy38 => (intro w0 hSw; obtain ⟨s0, s1, s2, s3, s4, s5, s6, s7, s8, s9, s10, s11, s12, s13, s14, s15, s16, s17⟩ := hSw; first | (go_simp; done) | (go_simp; with_reducible rfl))
  simp only [List.setIfInBounds_toArray, List.set_cons_zero, List.set_cons_succ]
  refine twoE 91 93 (i1 := 40) (i2 := 42) rfl rfl rfl rfl (by kernel_rfl) (by kernel_rfl) (by kernel_rfl) (fun K hK => ?_) (fun K hK => ?_)
  · go_simp
    refine hK.out _ _ (HKEEP.out _ ((((((Bel.refl V6).drew).trans ha1).trans ha2).trans ha3).alloc _ _)) (fun hM91_38 => ?_)
    clear hK K
    simp only [List.setIfInBounds_toArray, List.set_cons_zero, List.set_cons_succ]
    refine onlyD 93 (i := 42) rfl rfl (by kernel_rfl) (by kernel_rfl) (fun K hK => ?_)
    go_simp
    refine hK.out _ _ (HKEEP.out _ (((((((Bel.refl V6).drew).trans ha1).trans ha2).trans ha3).alloc _ _).alloc _ _)) (fun hM93_38 => ?_)
    clear hK K
    simp only [List.setIfInBounds_toArray, List.set_cons_zero, List.set_cons_succ]
    refine onlyD 94 (i := 43) rfl rfl (by kernel_rfl) (by kernel_rfl) (fun K hK => ?_)
    go_simp
    have z1 := heap_alloc_new u3 (.cells (exA qx cx x) 35)
    have z2 := heap_alloc_new (u3.alloc (.cells (exA qx cx x) 35)) (.cells (exA qy cy y) 35)
    have z3 := ((Bel.refl (u3.alloc (.cells (exA qx cx x) 35))).alloc (exA qy cy y) 35).stays z1
    rw [World.size_alloc] at z2
    have ex1 := EAt.one z3 HWX.out (HEX.out.bel (((((((Bel.refl V6).drew).trans ha1).trans ha2).trans ha3).alloc _ _).alloc _ _))
    have ey1 := EAt.one z2 HWY.out (HEY.out.bel (((((((Bel.refl V6).drew).trans ha1).trans ha2).trans ha3).alloc _ _).alloc _ _))
    go_at_call 15
    refine (rse_one HBE.out ex1 ey1).mono ?_
    rintro e u4 ⟨rfl, ha4⟩
    have hS4 := HKEEP.out _ ((((((((Bel.refl V6).drew).trans ha1).trans ha2).trans ha3).alloc _ _).alloc _ _).trans ha4)
    refine hK.out _ _ hS4 (fun _ => ?_)
    clear hK K
    simp only [List.setIfInBounds_toArray, List.set_cons_zero, List.set_cons_succ]
    refine takeD 95 (i := 44) (v := ?v39) rfl rfl (by kernel_rfl) (by kernel_rfl) (by kernel_rfl) (fun _ _ _ h => h) (by kernel_rfl) ?hy39 hS4 ?rest39
    case hy39 => (intro w0 hSw; obtain ⟨s0, s1, s2, s3, s4, s5, s6, s7, s8, s9, s10, s11, s12, s13, s14, s15, s16, s17⟩ := hSw; first | (go_simp; done) | (go_simp; with_reducible rfl))
    simp only [List.setIfInBounds_toArray, List.set_cons_zero, List.set_cons_succ]
    refine takeD 96 (i := 45) (v := ?v40) rfl rfl (by kernel_rfl) (by kernel_rfl) (by kernel_rfl) (fun _ _ _ h => h) (by kernel_rfl) ?hy40 hS4 ?rest40
    case hy40 => (intro w0 hSw; obtain ⟨s0, s1, s2, s3, s4, s5, s6, s7, s8, s9, s10, s11, s12, s13, s14, s15, s16, s17⟩ := hSw; first | (go_simp; done) | (go_simp; with_reducible rfl))
    simp only [List.setIfInBounds_toArray, List.set_cons_zero, List.set_cons_succ]
    refine takeD 6 (i := 46) (v := ?v41) rfl rfl (by kernel_rfl) (by kernel_rfl) (by kernel_rfl) (fun _ _ _ h => h) (by kernel_rfl) ?hy41 hS4 ?rest41
    case hy41 => (intro w0 hSw; obtain ⟨s0, s1, s2, s3, s4, s5, s6, s7, s8, s9, s10, s11, s12, s13, s14, s15, s16, s17⟩ := hSw; first | (go_simp; done) | (go_simp; with_reducible rfl))
    simp only [List.setIfInBounds_toArray, List.set_cons_zero, List.set_cons_succ]
    refine wpAnyH_done (by kernel_rfl) ?_ _
    have HBF := Lib.hid (HB.out.trans ((((((((Bel.refl V6).drew).trans ha1).trans ha2).trans ha3).alloc _ _).alloc _ _).trans ha4))
    go_wp2_with fail
    go_ret
    exact ⟨rfl, HBF.out⟩
  · go_simp
    refine hK.out _ _ (HKEEP.out _ ((((((Bel.refl V6).drew).trans ha1).trans ha2).trans ha3).alloc _ _)) (fun hM93_41 => ?_)
    clear hK K
    simp only [List.setIfInBounds_toArray, List.set_cons_zero, List.set_cons_succ]
    refine onlyD 91 (i := 40) rfl rfl (by kernel_rfl) (by kernel_rfl) (fun K hK => ?_)
    go_simp
    refine hK.out _ _ (HKEEP.out _ (((((((Bel.refl V6).drew).trans ha1).trans ha2).trans ha3).alloc _ _).alloc _ _)) (fun hM91_41 => ?_)
    clear hK K
    simp only [List.setIfInBounds_toArray, List.set_cons_zero, List.set_cons_succ]
    refine onlyD 94 (i := 43) rfl rfl (by kernel_rfl) (by kernel_rfl) (fun K hK => ?_)
    go_simp
    have z1 := heap_alloc_new u3 (.cells (exA qy cy y) 35)
    have z2 := heap_alloc_new (u3.alloc (.cells (exA qy cy y) 35)) (.cells (exA qx cx x) 35)
    have z3 := ((Bel.refl (u3.alloc (.cells (exA qy cy y) 35))).alloc (exA qx cx x) 35).stays z1
    rw [World.size_alloc] at z2
    have ex1 := EAt.one z2 HWX.out (HEX.out.bel (((((((Bel.refl V6).drew).trans ha1).trans ha2).trans ha3).alloc _ _).alloc _ _))
    have ey1 := EAt.one z3 HWY.out (HEY.out.bel (((((((Bel.refl V6).drew).trans ha1).trans ha2).trans ha3).alloc _ _).alloc _ _))
    go_at_call 15
    refine (rse_one HBE.out ex1 ey1).mono ?_
    rintro e u4 ⟨rfl, ha4⟩
    have hS4 := HKEEP.out _ ((((((((Bel.refl V6).drew).trans ha1).trans ha2).trans ha3).alloc _ _).alloc _ _).trans ha4)
    refine hK.out _ _ hS4 (fun _ => ?_)
    clear hK K
    simp only [List.setIfInBounds_toArray, List.set_cons_zero, List.set_cons_succ]
    refine takeD 95 (i := 44) (v := ?v42) rfl rfl (by kernel_rfl) (by kernel_rfl) (by kernel_rfl) (fun _ _ _ h => h) (by kernel_rfl) ?hy42 hS4 ?rest42
    case hy42 => (intro w0 hSw; obtain ⟨s0, s1, s2, s3, s4, s5, s6, s7, s8, s9, s10, s11, s12, s13, s14, s15, s16, s17⟩ := hSw; first | (go_simp; done) | (go_simp; with_reducible rfl))
    simp only [List.setIfInBounds_toArray, List.set_cons_zero, List.set_cons_succ]
    refine takeD 96 (i := 45) (v := ?v43) rfl rfl (by kernel_rfl) (by kernel_rfl) (by kernel_rfl) (fun _ _ _ h => h) (by kernel_rfl) ?hy43 hS4 ?rest43
    case hy43 => (intro w0 hSw; obtain ⟨s0, s1, s2, s3, s4, s5, s6, s7, s8, s9, s10, s11, s12, s13, s14, s15, s16, s17⟩ := hSw; first | (go_simp; done) | (go_simp; with_reducible rfl))
    simp only [List.setIfInBounds_toArray, List.set_cons_zero, List.set_cons_succ]
    refine takeD 6 (i := 46) (v := ?v44) rfl rfl (by kernel_rfl) (by kernel_rfl) (by kernel_rfl) (fun _ _ _ h => h) (by kernel_rfl) ?hy44 hS4 ?rest44
    case hy44 => (intro w0 hSw; obtain ⟨s0, s1, s2, s3, s4, s5, s6, s7, s8, s9, s10, s11, s12, s13, s14, s15, s16, s17⟩ := hSw; first | (go_simp; done) | (go_simp; with_reducible rfl))
    simp only [List.setIfInBounds_toArray, List.set_cons_zero, List.set_cons_succ]
    refine wpAnyH_done (by kernel_rfl) ?_ _
    have HBF := Lib.hid (HB.out.trans ((((((((Bel.refl V6).drew).trans ha1).trans ha2).trans ha3).alloc _ _).alloc _ _).trans ha4))
    go_wp2_with fail
    go_ret
    exact ⟨rfl, HBF.out⟩
end Go.Proofs.YthlnjnmomnpnpaaDoor
