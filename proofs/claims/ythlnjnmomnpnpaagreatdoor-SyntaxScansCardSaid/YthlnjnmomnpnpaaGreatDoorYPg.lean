/- The law's programs out of raw numbers: the walk. -/
import Derived.Test.YthlnjnmomnpnpaaGreatDoorYPh
namespace Go.Proofs.YthlnjnmomnpnpaaGreatDoor
open Go.RowKit Tk Sy
set_option linter.unusedVariables false
set_option linter.unusedSimpArgs false
set_option maxRecDepth 100000 in
set_option maxHeartbeats 16000000 in
theorem prog_any {raw : List Int} {all : Bool} {n : Nat} (hn : raw.length = n) (w : World) {p : Option Addr} {cp : Nat} (hr : RawAt w p raw) (hcp : n ≤ cp) (hn63 : n ≤ 9223372036854775807) :
    Calls Tryz.prog 7 #[.slice p n cp, .bool all] w fun e w' => ∃ q1 c1 q2 c2 q3 c3, e = .returned (prgV q1 c1 q2 c2 q3 c3 (progV raw all)) ∧ ProgAt w w' (progV raw all) q1 q2 q3 c3 := by
  obtain ⟨m, hm⟩ : ∃ m, (raw.take 400).length = m := ⟨_, rfl⟩
  have hmn : (n ≤ 400 ∧ m = n) ∨ (400 < n ∧ m = 400) := by rw [List.length_take, hn] at hm; omega
  have hr4 : RawAt w p (raw.take 400) := fun j x hj => by
    rw [List.getElem?_take] at hj
    split at hj
    · exact hr j x hj
    · cases hj
  obtain ⟨r4, hr4e⟩ : ∃ r4, raw.take 400 = r4 := ⟨_, rfl⟩
  rw [hr4e] at hr4 hm
  have HM := Lib.hid hm
  have HR := Lib.hid hr4
  have HR4 := Lib.hid hr4e
  have HCP : Hid (m ≤ cp ∧ m ≤ 400) := Lib.hid (by omega)
  obtain ⟨h, hh, hh3⟩ := nx_cases (s := r4) (n := 3) (by omega)
  obtain ⟨r5, hr5⟩ : ∃ r5, nx r4 3 = ((h : Int), r5) := ⟨_, Prod.ext hh rfl⟩
  obtain ⟨k, hk, hk3⟩ := nx_cases (s := r5) (n := 3) (by omega)
  obtain ⟨r6, hr6⟩ : ∃ r6, nx r5 3 = ((k : Int), r6) := ⟨_, Prod.ext hk rfl⟩
  have H5 := Lib.hid hr5
  have H6 := Lib.hid hr6
  have HK3 := Lib.hid hk3
  have HH3 := Lib.hid hh3
  have hw1 : IntKind.i64.wrap (1 + (h : Int)) = 1 + (h : Int) := IntWalk.i64_in _ (by constructor <;> omega)
  clear hr hr4 hm hn hr4e hh hr5 hk hr6 hh3
  have hc4 : 400 < n → 400 ≤ cp := by omega
  go_enter Tryz.func7, Tryz.ntmps7
  go_upto_region 1 with (fail)
  have hb0 := (Bel.refl w).alloc (prC 0 (.slice none 0 0) (.slice none 0 0) (.slice none 0 0)) 28
  have hx0 := heap_alloc_new w (.cells (prC 0 (.slice none 0 0) (.slice none 0 0) (.slice none 0 0)) 28)
  generalize w.alloc (.cells (prC 0 (.slice none 0 0) (.slice none 0 0) (.slice none 0 0)) 28) = W0 at hb0 hx0 ⊢
  generalize hg0 : w.heap.size = g0 at hx0 ⊢
  have HB0 := Lib.hid hb0
  have HX0 := Lib.hid hx0
  have HG0 := Lib.hid hg0
  have HG0L : Hid (w.heap.size ≤ g0) := Lib.hid (by omega)
  clear hb0 hx0 hg0
  go_upto_if 17 with (fail)
  go_cut [0] (fun v wx => v = .slice p m cp ∧ wx = W0)
  case first =>
    rcases hmn with ⟨h1, h2⟩ | ⟨h1, h2⟩
    · have h3 : ((400 : Int) < (n : Int)) = False := eq_false (by omega)
      go_wp2_with fail
      go_meet
      exact ⟨by rw [h2], rfl⟩
    · have h3 : (400 : Int) < (n : Int) := by omega
      have h4 := hc4 h1
      go_wp2_with fail
      go_meet
      exact ⟨by rw [h2], rfl⟩
  case rest =>
    clear hmn hc4 hcp hn63
    obtain ⟨rfl, hwc0⟩ := hcut
    have hwc := hwc0.symm
    clear hwc0
    subst hwc
    go_upto_region 4 with (fail)
    have hb1 := (Bel.refl W0).alloc #[.slice p m cp] 57
    have hx1 := heap_alloc_new W0 (.cells #[.slice p m cp] 57)
    have hgs : w.heap.size ≤ W0.heap.size ∧ g0 < W0.heap.size := ⟨HB0.out.size, lt_of_heap HX0.out⟩
    generalize W0.alloc (.cells #[.slice p m cp] 57) = W1 at hb1 hx1 ⊢
    generalize W0.heap.size = gS at hx1 hgs ⊢
    have HS : Hid (SrcAt gS W1 r4) := Lib.hid ⟨⟨p, cp, by rw [HM.out]; exact hx1, by rw [HM.out]; exact HCP.out.1, raw_elder (HB0.out.trans hb1) hgs.1 HR.out⟩, by rw [HM.out]; exact HCP.out.2⟩
    have HGS := Lib.hid hgs
    have HX0 := Lib.hid (hb1.stays HX0.out)
    have HB1 := Lib.hid (HB0.out.trans hb1)
    clear hb1 hx1 hgs
    go_wp2_with fail
    refine (next_lit H5.out (by decide) _ HS.out).mono ?_
    rintro e w2 ⟨rfl, hv, hs⟩
    have HS := Lib.hid hs
    have HX0 := Lib.hid (hv.stays HX0.out (by have := HGS.out; omega))
    have HB1 := Lib.hid (hv.bel HB1.out HGS.out.1)
    clear hv hs
    go_upto_region 6 with (fail)
    obtain ⟨n0, n1, n2⟩ := new2 w2 (prC (1 + (h : Int)) (.slice none 0 0) (.slice none 0 0) (.slice none 0 0)) (scC (.slice none 0 0) (.slice none 0 0) all) 28 61
    generalize (w2.alloc (.cells (prC (1 + (h : Int)) (.slice none 0 0) (.slice none 0 0) (.slice none 0 0)) 28)).alloc (.cells (scC (.slice none 0 0) (.slice none 0 0) all) 61) = W3 at n0 n1 n2 ⊢
    have hgp : gS < w2.heap.size := HS.out.lt
    generalize hgC : w2.heap.size + 1 = gC at n2 ⊢
    generalize w2.heap.size = gP at n1 hgp hgC ⊢
    have HP := Lib.hid n1
    have HC := Lib.hid n2
    have HS := Lib.hid (HS.out.bel n0)
    have HX0 := Lib.hid (n0.stays HX0.out)
    have HB1 := Lib.hid (HB1.out.trans n0)
    have HGP : Hid (gS < gP ∧ gP < gC ∧ g0 < gS ∧ w.heap.size ≤ gS) := Lib.hid (by have := HGS.out; omega)
    clear n0 n1 n2 hgp hgC hw1
    go_wp2_with fail
    refine (next_lit H6.out (by decide) _ HS.out).mono ?_
    rintro e w4 ⟨rfl, hv, hs⟩
    have HS := Lib.hid hs
    have HX0 := Lib.hid (hv.stays HX0.out (by have := HGP.out; omega))
    have HB1 := Lib.hid (hv.bel HB1.out HGS.out.1)
    have HP := Lib.hid (hv.stays HP.out (by have := HGP.out; omega))
    have HC := Lib.hid (hv.stays HC.out (by have := HGP.out; omega))
    clear hv hs
    go_wp2_with fail
    go_loopg [8, 9] (k + 1) (fun gk ii dd wr => ∃ (l : List Dev) (vd nd : Value) (r : List Int), ii = .int .i64 ((gk : Int) - 1) ∧ Hid (L1 gS gP gC w4.heap.size (1 + (h : Int)) all l vd nd r wr) ∧ Hid (devsV gk l r = dev2 r4) ∧ Hid (l.length + gk = k + 1) ∧ Hid (Bel w wr) ∧ Hid (wr.heap[g0]? = some (.cells (prC 0 (.slice none 0 0) (.slice none 0 0) (.slice none 0 0)) 28 (0, 0))))
    case atStart => exact ⟨[], .slice none 0 0, .slice none 0 0, r6, by rw [show (((k + 1 : Nat) : Int) - 1) = (k : Int) by omega], Lib.hid ⟨HP.out, HC.out, ERow.nil _ _ _ _ _, ERow.nil _ _ _ _ _, HS.out, HGP.out.1, HGP.out.2.1, lt_of_heap HC.out, Nat.le_refl _⟩, Lib.hid (by show devsV (k + 1) [] r6 = devsV (1 + (nx (nx r4 3).2 3).1.toNat) [] (nx (nx r4 3).2 3).2; rw [H5.out]; dsimp only; rw [H6.out]; dsimp only; rw [Int.toNat_natCast, Nat.add_comm]), Lib.hid (by simp), HB1, HX0⟩
    case round =>
      obtain ⟨l, vd, nd, r, rfl, HL, HE, HLN, HBW, HX0⟩ := hrel
      clear HP HC HS HB1
      cases gk with
      | zero =>
        obtain ⟨dl, hdl⟩ : ∃ dl : List Dev, dl = l := ⟨_, rfl⟩
        subst hdl
        have hE : (dl, r) = dev2 r4 := HE.out
        have hdok := dev2_ok r4
        rw [← hE] at hdok
        dsimp only at hdok
        obtain ⟨pD, cD, hvd, hpe, hpg⟩ := HL.out.dv.form devTy.len
        obtain ⟨pN, cN, hvn, hne, hng⟩ := HL.out.nm.form nameTy.len
        subst hvd
        subst hvn
        have hds := row_static devTy.len HL.out.dv (g0 := g0) (gS := gS) (gP := gP) (gC := gC) (B := wr.heap.size) (by have := HGP.out; have := HL.out.sp; have := HL.out.pc; have := HL.out.cB; omega) (by have := HL.out.sp; have := HL.out.pc; have := HL.out.cB; omega) (by have := HL.out.pc; have := HL.out.cB; omega) HL.out.cB (Nat.le_refl _)
        have hns := row_static nameTy.len HL.out.nm (g0 := g0) (gS := gS) (gP := gP) (gC := gC) (B := wr.heap.size) (by have := HGP.out; have := HL.out.sp; have := HL.out.pc; have := HL.out.cB; omega) (by have := HL.out.sp; have := HL.out.pc; have := HL.out.cB; omega) (by have := HL.out.pc; have := HL.out.cB; omega) HL.out.cB (Nat.le_refl _)
        have HDS := Lib.hid (devs_of hds hdok.1)
        have HNS := Lib.hid (EncAt.nms hns (fun x hx => by
          obtain ⟨y, hy, rfl⟩ := List.mem_map.1 hx
          have := hdok.1 y hy
          unfold isDev at this
          rw [Bool.and_eq_true] at this
          exact Nat.le_trans (name_size this.1) (by unfold maxLen; decide)))
        have HDOK := Lib.hid hdok
        have HED := Lib.hid hE
        obtain ⟨k2, hk2, hk23⟩ := nx_cases (s := r) (n := 3) (by omega)
        obtain ⟨r7, hr7⟩ : ∃ r7, nx r 3 = ((k2 : Int), r7) := ⟨_, Prod.ext hk2 rfl⟩
        have H7 := Lib.hid hr7
        have HK23 := Lib.hid hk23
        have hln0 : (dl.map Dev.name).length = dl.length := List.length_map _
        have HP := Lib.hid HL.out.p
        have HC : Hid (wr.heap[gC]? = some (.cells (scC (.slice pN dl.length cN) (.slice none 0 0) all) 61 (0, 0))) := Lib.hid (by have := HL.out.c; rwa [hln0] at this)
        have HNUM : Hid (gS < gP ∧ gP < gC ∧ gC < wr.heap.size ∧ g0 < gS ∧ w.heap.size ≤ gS) := Lib.hid (by have := HGP.out; have := HL.out.sp; have := HL.out.pc; have := HL.out.cB; have := HL.out.bw; omega)
        have HS := Lib.hid HL.out.src
        clear HL HE HLN
        clear hE hdok hpe hpg hne hng hds hns hk2 hr7 hk23 hln0
        go_wp2_with fail
        refine (next_lit H7.out (by decide) _ HS.out).mono ?_
        rintro e w8 ⟨rfl, hv, hs⟩
        have HS := Lib.hid hs
        have HX0 := Lib.hid (hv.stays HX0.out (by have := HNUM.out; omega))
        have HB1 := Lib.hid (hv.bel HBW.out (by have := HNUM.out; omega))
        have HP := Lib.hid (hv.stays HP.out (by have := HNUM.out; omega))
        have HC := Lib.hid (hv.stays HC.out (by have := HNUM.out; omega))
        have HDS := Lib.hid ((HDS.out.sub (oldM_sv hv (fun k hk => .inl hk))).sub (oldM_mono w8 hv.size))
        have HNS := Lib.hid ((HNS.out.sub (oldM_sv hv (fun k hk => .inl hk))).sub (oldM_mono w8 hv.size))
        have HNUM : Hid (gS < gP ∧ gP < gC ∧ gC < w8.heap.size ∧ g0 < gS ∧ w.heap.size ≤ gS) := Lib.hid (by have := HNUM.out; have := hv.size; omega)
        clear hv hs
        go_wp2_with fail
        go_loopg [10, 11] k2 (fun gk ii dd wr => ∃ (l : List Rsc) (vd nd : Value) (r : List Int), ii = .int .i64 (gk : Int) ∧ Hid (L2 g0 gS gP gC w8.heap.size (1 + (h : Int)) all dl pD cD pN cN l vd nd r wr) ∧ Hid (rscsV gk l r = rsc2 r4) ∧ Hid (l.length + gk = k2) ∧ Hid (Bel w wr) ∧ Hid (wr.heap[g0]? = some (.cells (prC 0 (.slice none 0 0) (.slice none 0 0) (.slice none 0 0)) 28 (0, 0))))
        case atStart => exact ⟨[], .slice none 0 0, .slice none 0 0, r7, rfl, Lib.hid ⟨HP.out, HC.out, ERow.nil _ _ _ _ _, ERow.nil _ _ _ _ _, HS.out, HNUM.out.1, HNUM.out.2.1, HNUM.out.2.2.1, Nat.le_refl _, HDS.out, HNS.out⟩, Lib.hid (by show rscsV k2 [] r7 = rscsV (nx (dev2 r4).2 3).1.toNat [] (nx (dev2 r4).2 3).2; rw [← HED.out]; dsimp only; rw [H7.out]; dsimp only; rw [Int.toNat_natCast]), Lib.hid (by simp), HB1, HX0⟩
        case round =>
          obtain ⟨l, vd, nd, r, rfl, HL, HE, HLN, HBW, HX0⟩ := hrel
          clear HP HC HS HB1 HDS HNS HNUM
          cases gk with
          | zero =>
            have h00 : ((0 : Nat) : Int) = 0 := rfl
            rw [h00]
            clear h00
            obtain ⟨rl, hrl⟩ : ∃ rl : List Rsc, rl = l := ⟨_, rfl⟩
            subst hrl
            have hE : (rl, r) = rsc2 r4 := HE.out
            have hrok := rsc2_ok r4
            rw [← hE] at hrok
            dsimp only at hrok
            obtain ⟨pR, cR, hvd, hpe, hpg⟩ := HL.out.dv.form rscTy.len
            obtain ⟨pM, cM, hvn, hne, hng⟩ := HL.out.nm.form nameTy.len
            subst hvd
            subst hvn
            have hn3 : gS < w8.heap.size ∧ gP < w8.heap.size ∧ gC < w8.heap.size := by have := HL.out.sp; have := HL.out.pc; have := HL.out.cB; omega
            have HRS := Lib.hid (rscs_of (row_static rscTy.len HL.out.dv (g0 := g0) (gS := gS) (gP := gP) (gC := gC) (B := wr.heap.size) (by have := HGP.out; omega) hn3.1 hn3.2.1 hn3.2.2 (Nat.le_refl _)) hrok.1)
            have HMS := Lib.hid (EncAt.nms (row_static nameTy.len HL.out.nm (g0 := g0) (gS := gS) (gP := gP) (gC := gC) (B := wr.heap.size) (by have := HGP.out; omega) hn3.1 hn3.2.1 hn3.2.2 (Nat.le_refl _)) (fun x hx => by
              obtain ⟨y, hy, rfl⟩ := List.mem_map.1 hx
              have := hrok.1 y hy
              unfold isRsc at this
              rw [Bool.and_eq_true] at this
              exact Nat.le_trans (name_size this.1) (by unfold maxLen; decide)))
            have HDS := Lib.hid (HL.out.ds.sub (oldM_mono wr HL.out.bw))
            have HNS := Lib.hid (HL.out.ns.sub (oldM_mono wr HL.out.bw))
            obtain ⟨C, hC⟩ : ∃ C, C = scoV r4 all := ⟨_, rfl⟩
            have hCd : C.devs = dl.map Dev.name := by rw [hC]; show (dev2 r4).1.map Dev.name = _; rw [← HED.out]
            have hCr : C.rscs = rl.map Rsc.name := by rw [hC]; show (rsc2 r4).1.map Rsc.name = _; rw [← hE]
            obtain ⟨lD, hlD⟩ : ∃ n, n = C.devs.length := ⟨_, rfl⟩
            obtain ⟨lR, hlR⟩ : ∃ n, n = C.rscs.length := ⟨_, rfl⟩
            have HSQ : Hid (Scq C lD lR all) := Lib.hid ⟨hlD, hlR, by rw [hC]; rfl, by rw [hC]; rfl, by rw [hC]; rfl⟩
            have HGD : Hid (GoodC C) := Lib.hid (by rw [hC]; exact sco_good r4 all)
            have HCC := Lib.hid hC
            have hdl : dl.length = lD := by rw [hlD, hCd, List.length_map]
            have hrl2 : (rl.map Rsc.name).length = lR := by rw [hlR, hCr]
            have HP := Lib.hid HL.out.p
            have HC : Hid (wr.heap[gC]? = some (.cells #[.slice pN lD cN, .slice pM lR cM, .int .i64 0, .slice none 0 0, .bool all] 61 (0, 0))) := Lib.hid (by have := HL.out.c; rw [hrl2, hdl] at this; exact this)
            have HNS : Hid (NmsAt (oldM g0 gS gP gC wr.heap.size wr) pN C.devs) := Lib.hid (by rw [hCd]; exact HNS.out)
            have HMS : Hid (NmsAt (oldM g0 gS gP gC wr.heap.size wr) pM C.rscs) := Lib.hid (by rw [hCr]; exact HMS.out)
            have HROK := Lib.hid hrok
            have HER := Lib.hid hE
            have HS := Lib.hid HL.out.src
            have HSS : Hid (gS < gP ∧ gP < gC ∧ gC < wr.heap.size) := Lib.hid (by have := HL.out.sp; have := HL.out.pc; have := HL.out.cB; have := HL.out.bw; omega)
            have HLE : Hid (lD ≤ 3 ∧ lR ≤ 2) := Lib.hid (by rw [← hdl, ← hrl2, List.length_map]; exact ⟨HDOK.out.2.2, hrok.2⟩)
            clear hE hrok hpe hpg hne hng hn3 hC hCd hCr hlD hlR hdl hrl2 HL HE HLN
            generalize hw9 : wr = w9 at HRS HMS HDS HNS HP HC HS HX0 HBW HSS ⊢
            clear hw9
            go_wp2_with fail
            go_loopg [12] (h + 1) (fun gk ii wr => ∃ (l : List PT) (vt : Value) (r : List Int), ii = .int .i64 (l.length : Int) ∧ Hid (L3 g0 gS gP gC w9.heap.size (1 + (h : Int)) all dl pD cD rl pR cR C lD pN cN lR pM cM l vt r wr) ∧ Hid (tsksV C gk (l.map PT.t) r = tsk2 r4 all) ∧ Hid (l.length + gk = h + 1) ∧ Hid (Bel w wr) ∧ Hid (wr.heap[g0]? = some (.cells (prC 0 (.slice none 0 0) (.slice none 0 0) (.slice none 0 0)) 28 (0, 0))))
            case atStart => exact ⟨[], .slice none 0 0, r, rfl, Lib.hid ⟨HP.out, HC.out, ERow.nil _ _ _ _ _, (fun y hy => by cases hy), HS.out, HSS.out.1, HSS.out.2.1, HSS.out.2.2, Nat.le_refl _, HDS.out, HRS.out, HNS.out, HMS.out, HSQ.out⟩, Lib.hid (by show tsksV C (h + 1) [] r = tsksV (scoV r4 all) (1 + (nx r4 3).1.toNat) [] (rsc2 r4).2; rw [H5.out, ← HER.out, HCC.out]; dsimp only; rw [Int.toNat_natCast, Nat.add_comm]), Lib.hid (by simp), HBW, HX0⟩
            case round =>
              obtain ⟨l, vt, r, rfl, HL, HE, HLN, HBW, HX0⟩ := hrel
              clear HP HC HS HDS HRS HNS HMS
              obtain ⟨pt, ct, hvt, hte, htg⟩ := HL.out.tv.form tskTy.len
              subst hvt
              clear hte htg
              have k0 : wr.cell? ⟨gP, 0, none⟩ = some (.int .i64 (1 + (h : Int))) := cell_of_heap HL.out.p 0
              cases gk with
              | zero =>
                have hlt : ((l.length : Int) < 1 + (h : Int)) = False := eq_false (by have := HLN.out; omega)
                have HE3 := Lib.hid HE.out
                obtain ⟨k4, hk4, hk43⟩ := nx_cases (s := r) (n := 4) (by omega)
                obtain ⟨r8, hr8⟩ : ∃ r8, nx r 4 = ((k4 : Int), r8) := ⟨_, Prod.ext hk4 rfl⟩
                have H8 := Lib.hid hr8
                have HK4 := Lib.hid hk43
                clear hk4 hr8 hk43
                go_wp2_with fail
                clear k0 hlt
                refine (next_lit H8.out (by decide) _ HL.out.src).mono ?_
                rintro e wA ⟨rfl, hv, hs⟩
                have HL := Lib.hid (HL.out.step hv hs)
                have HX0 := Lib.hid (hv.stays HX0.out (by have := HGP.out; omega))
                have HBW := Lib.hid (hv.bel HBW.out (by have := HGP.out; omega))
                clear hv hs
                go_wp2_with fail
                go_loopg [13, 14] k4 (fun gk ii dd wr => ∃ (l : List PT) (vt : Value) (r : List Int), ii = .int .i64 (gk : Int) ∧ Hid (L3 g0 gS gP gC w9.heap.size (1 + (h : Int)) all dl pD cD rl pR cR C lD pN cN lR pM cM l vt r wr) ∧ Hid (hdlsV C (1 + h) gk (l.map PT.t) r = all2 r4 all) ∧ Hid (h + 1 ≤ l.length ∧ l.length + gk ≤ h + 4) ∧ Hid (Bel w wr) ∧ Hid (wr.heap[g0]? = some (.cells (prC 0 (.slice none 0 0) (.slice none 0 0) (.slice none 0 0)) 28 (0, 0))))
                case atStart => exact ⟨l, _, r8, rfl, HL, Lib.hid (by
                  show hdlsV C (1 + h) k4 (l.map PT.t) r8 = hdlsV (scoV r4 all) (1 + (nx r4 3).1.toNat) (nx (tsk2 r4 all).2 4).1.toNat (tsk2 r4 all).1 (nx (tsk2 r4 all).2 4).2
                  rw [← HE3.out, HCC.out, H5.out]
                  show _ = hdlsV (scoV r4 all) (1 + (h : Int).toNat) (nx r 4).1.toNat (l.map PT.t) (nx r 4).2
                  rw [H8.out, Int.toNat_natCast]
                  dsimp only
                  rw [Int.toNat_natCast]), Lib.hid (by have := HLN.out; have := HK4.out; omega), HBW, HX0⟩
                case round =>
                  obtain ⟨l, vt, r, rfl, HL, HE, HLN, HBW, HX0⟩ := hrel
                  obtain ⟨pt, ct, hvt, hte, htg⟩ := HL.out.tv.form tskTy.len
                  subst hvt
                  clear hte htg
                  have k0 : wr.cell? ⟨gP, 0, none⟩ = some (.int .i64 (1 + (h : Int))) := cell_of_heap HL.out.p 0
                  cases gk with
                  | zero =>
                    have hE4 : (l.map PT.t, r) = all2 r4 all := HE.out
                    have hp := HL.out.p
                    have k1 : wr.cell? ⟨gP, 1, none⟩ = some (.slice pD dl.length cD) := cell_of_heap hp 1
                    have k2 : wr.cell? ⟨gP, 2, none⟩ = some (.slice pR rl.length cR) := cell_of_heap hp 2
                    have k3 : wr.cell? ⟨gP, 3, none⟩ = some (.slice pt l.length ct) := cell_of_heap hp 3
                    have z0 : wr.cell? ⟨g0, 0, none⟩ = some (.int .i64 0) := cell_of_heap HX0.out 0
                    have z1 : wr.cell? ⟨g0, 1, none⟩ = some (.slice none 0 0) := cell_of_heap HX0.out 1
                    have z2 : wr.cell? ⟨g0, 2, none⟩ = some (.slice none 0 0) := cell_of_heap HX0.out 2
                    have z3 : wr.cell? ⟨g0, 3, none⟩ = some (.slice none 0 0) := cell_of_heap HX0.out 3
                    have f0 := frozen_of_heap HX0.out 0
                    have f1 := frozen_of_heap HX0.out 1
                    have f2 := frozen_of_heap HX0.out 2
                    have f3 := frozen_of_heap HX0.out 3
                    have HE4 := Lib.hid hE4
                    clear hE4 hp
                    go_wp2_with fail
                    clear k0 k1 k2 k3 z0 z1 z2 z3 f0 f1 f2 f3
                    have hsv := sv4 g0 wr (.int .i64 (1 + (h : Int))) (.slice pD dl.length cD) (.slice pR rl.length cR) (.slice pt l.length ct)
                    have hx := set4 (b0 := .int .i64 (1 + (h : Int))) (b1 := .slice pD dl.length cD) (b2 := .slice pR rl.length cR) (b3 := .slice pt l.length ct) HX0.out
                    refine bodyPost_ret (v := .agg #[.int .i64 (1 + (h : Int)), .slice pD dl.length cD, .slice pR rl.length cR, .slice pt l.length ct]) (results_cell_row Tryz.results7 _ _ g0 _ _ _ _ rfl hx Tryz.underlying28 rfl (by kernel_rfl)) rfl ?_
                    have hgp := HGP.out
                    have h1 := HL.out.sp
                    have h2 := HL.out.pc
                    have h3 := HL.out.cB
                    have eP : progV raw all = ⟨harts r4, dl, rl, l.map PT.t⟩ := by
                      show progS (raw.take 400) all = _
                      rw [HR4.out]
                      show (⟨harts r4, (dev2 r4).1, (rsc2 r4).1, (all2 r4 all).1⟩ : Prg) = _
                      rw [← HED.out, ← HER.out, ← HE4.out]
                    have eh : (harts r4 : Int) = 1 + (h : Int) := by
                      show ((1 + (nx r4 3).1.toNat : Nat) : Int) = _
                      rw [H5.out]
                      show ((1 + (h : Int).toNat : Nat) : Int) = _
                      rw [Int.toNat_natCast]
                      omega
                    have hsub := oldM_last (gS := gS) (gP := gP) (gC := gC) (B := w9.heap.size) hsv
                    rw [eP]
                    refine ⟨pD, cD, pR, cR, pt, ct, ?_, Svg.bel hsv HBW.out HG0L.out, w9.heap.size, l, by have := HGP.out; omega, rfl, HL.out.tv.sv hsv (fun b hb e => by have := own_ge HL.out.tv b hb; omega), fun y hy => (HL.out.tk y hy).sub (keepW_sv hsv (by omega)), HL.out.ds.sub hsub, HL.out.rs.sub hsub⟩
                    show Ending.returned (Value.agg #[.int .i64 (1 + (h : Int)), .slice pD dl.length cD, .slice pR rl.length cR, .slice pt l.length ct]) = .returned (Value.agg #[.int .i64 (harts r4 : Int), .slice pD dl.length cD, .slice pR rl.length cR, .slice pt (l.map PT.t).length ct])
                    rw [List.length_map, eh]
                  | succ mm =>
                    have hee : ((mm + 1 : Nat) : Int) = (mm : Int) + 1 := by omega
                    rw [hee]
                    clear hee
                    have hge : (0 < (mm : Int) + 1) = True := eq_true (by omega)
                    have hmm : IntKind.i64.wrap (mm : Int) = (mm : Int) := IntWalk.i64_in _ (by have := HLN.out; have := HH3.out; constructor <;> omega)
                    obtain ⟨kk, hkk⟩ : ∃ kk, kk = l.length - (h + 1) := ⟨_, rfl⟩
                    have hwk : IntKind.i64.wrap ((l.length : Int) - (1 + (h : Int))) = (kk : Int) := by have h5 := HLN.out; have h6 := HH3.out; rw [show (l.length : Int) - (1 + (h : Int)) = (kk : Int) by omega]; exact IntWalk.i64_in _ (by constructor <;> omega)
                    have HKK : Hid (kk = l.length - (h + 1) ∧ kk < 3) := Lib.hid ⟨hkk, by have h5 := HLN.out; have h6 := HH3.out; omega⟩
                    clear hkk
                    have k3 : wr.cell? ⟨gP, 3, none⟩ = some (.slice pt l.length ct) := cell_of_heap HL.out.p 3
                    go_upto_region 26 with (fail)
                    clear k0 k3 hwk
                    have hnum : gS < gP ∧ gP < gC ∧ gC < w9.heap.size ∧ w9.heap.size ≤ wr.heap.size ∧ l.length < 7 := by have h1 := HL.out.sp; have h2 := HL.out.pc; have h3 := HL.out.cB; have h4 := HL.out.bw; have h5 := HLN.out; have h6 := HH3.out; omega
                    obtain ⟨kp, r1, hkp⟩ : ∃ kp r1, nx r (1 + (h : Int)) = (kp, r1) := ⟨_, _, rfl⟩
                    have hkb := nx_bd r (n := 1 + (h : Int)) (by omega)
                    rw [hkp] at hkb
                    obtain ⟨kb, rb, hkb2⟩ : ∃ kb rb, nx r1 4 = (kb, rb) := ⟨_, _, rfl⟩
                    have hkb3 := nx_bd r1 (n := 4) (by omega)
                    rw [hkb2] at hkb3
                    obtain ⟨ke, re, hke⟩ : ∃ ke re, nx rb 2 = (ke, re) := ⟨_, _, rfl⟩
                    have hke3 := nx_bd rb (n := 2) (by omega)
                    rw [hke] at hke3
                    have HKP2 := Lib.hid hkb2
                    have HKB2 := Lib.hid hkb3
                    have HKP3 := Lib.hid hke
                    have HKB3 := Lib.hid hke3
                    have HONE : Hid (1 ≤ 1 + (h : Int)) := Lib.hid (by omega)
                    have hkk3 := HKK.out.2
                    have hw4 : IntKind.i64.wrap (4 + kb) = 4 + kb := IntWalk.i64_in _ (by constructor <;> omega)
                    have hw5 : IntKind.i64.wrap (ke * 4) = ke * 4 := IntWalk.i64_in _ (by constructor <;> omega)
                    have hw6 : IntKind.i64.wrap ((kk : Int) + ke * 4) = (kk : Int) + ke * 4 := IntWalk.i64_in _ (by constructor <;> omega)
                    clear hkb2 hkb3 hke hke3
                    obtain ⟨bl, r2, hbl⟩ : ∃ bl r2, bodyV 2 C re = (bl, r2) := ⟨_, _, rfl⟩
                    have HKP := Lib.hid hkp
                    have HKB := Lib.hid hkb
                    have HBL := Lib.hid hbl
                    have hll : kk < 3 := hkk3
                    have hi0 : (0 : Int) ≤ (kk : Int) := by omega
                    have hi1 : (kk : Int) < 3 := by omega
                    clear hkk3
                    obtain ⟨nmv, hnmv⟩ : ∃ v, hnames.getD kk ⟨#[]⟩ = v := ⟨_, rfl⟩
                    have HNMV := Lib.hid hnmv
                    have HF : Hid (∀ W', Sv (fun b => b = gS ∨ (Value.slice pt l.length ct).ownBlock = some b) wr W' → W'.cell? ⟨gP, 3, none⟩ = some (.slice pt l.length ct) ∧ W'.cell? ⟨gP, 0, none⟩ = some (.int .i64 (1 + (h : Int))) ∧ W'.cell? ⟨gC, 0, none⟩ = some (.slice pN lD cN) ∧ W'.cell? ⟨gC, 1, none⟩ = some (.slice pM lR cM) ∧ W'.cell? ⟨gC, 2, none⟩ = some (.int .i64 0) ∧ W'.cell? ⟨gC, 3, none⟩ = some (.slice none 0 0) ∧ W'.cell? ⟨gC, 4, none⟩ = some (.bool all)) := Lib.hid (fun W' hv => by
                      have h1 := (hv.block gP (by omega) (by rintro (e | e); omega; have := own_ge HL.out.tv gP e; omega)).trans HL.out.p
                      have h2 := (hv.block gC (by omega) (by rintro (e | e); omega; have := own_ge HL.out.tv gC e; omega)).trans HL.out.c
                      exact ⟨cell_of_heap h1 3, cell_of_heap h1 0, cell_of_heap h2 0, cell_of_heap h2 1, cell_of_heap h2 2, cell_of_heap h2 3, cell_of_heap h2 4⟩)
                    have HSC : Hid (∀ W', Svg gS wr W' → ScAt gS W' pN pM none C) := Lib.hid (fun W' hv => by
                      have h1 : Sub (oldM g0 gS gP gC w9.heap.size wr) (mask gS W') := (oldM_sv hv (fun k hk => .inl hk)).trans (maskP_sub2 W' (fun k hk => by simp only [beq_iff_eq] at hk; simp [hk]))
                      have hq := HL.out.sq
                      exact ⟨HL.out.ns.sub h1, HL.out.ms.sub h1, (by rw [hq.h]; exact fun j x hj => by cases hj), by have := HLE.out; rw [← hq.d]; omega, by have := HLE.out; rw [← hq.r]; omega, by rw [hq.h]; exact Nat.zero_le _, by rw [hq.f]; exact Nat.zero_le _⟩)
                    clear hkp hkb hnmv hbl
                    have hG0 : Svg gS wr (World.drew wr) := (Bel.refl wr).drew.svg gS
                    refine Upto.begin (T := Sv (fun b => b = gS ∨ (Value.slice pt l.length ct).ownBlock = some b) wr) (z := 25) (by kernel_rfl) ?_
                    refine takeU 122 (i := 0) (v := ?v5001) rfl rfl rfl (by kernel_rfl) (by kernel_rfl) (by kernel_rfl) (by kernel_rfl) (fun _ _ _ h => h) (by kernel_rfl) ?hy5001 (Sv.mono hG0 (fun k hk => Or.inl hk)) ?rest5001
                    case hy5001 => (intro w0 hSw; obtain ⟨s0, sH, s1, s2, s3, s4, s5⟩ := HF.out _ hSw; first | (go_simp; done) | (go_simp; with_reducible rfl))
                    simp only [List.setIfInBounds_toArray, List.set_cons_zero, List.set_cons_succ]
                    refine takeU 123 (i := 1) (v := ?v5002) rfl rfl rfl (by kernel_rfl) (by kernel_rfl) (by kernel_rfl) (by kernel_rfl) (fun _ _ _ h => h) (by kernel_rfl) ?hy5002 (Sv.mono hG0 (fun k hk => Or.inl hk)) ?rest5002
                    case hy5002 => (intro w0 hSw; obtain ⟨s0, sH, s1, s2, s3, s4, s5⟩ := HF.out _ hSw; first | (go_simp; done) | (go_simp; with_reducible rfl))
                    simp only [List.setIfInBounds_toArray, List.set_cons_zero, List.set_cons_succ]
                    refine takeU 125 (i := 3) (v := ?v5003) rfl rfl rfl (by kernel_rfl) (by kernel_rfl) (by kernel_rfl) (by kernel_rfl) (fun _ _ _ h => h) (by kernel_rfl) ?hy5003 (Sv.mono hG0 (fun k hk => Or.inl hk)) ?rest5003
                    case hy5003 => (intro w0 hSw; obtain ⟨s0, sH, s1, s2, s3, s4, s5⟩ := HF.out _ hSw; first | (go_simp; done) | (go_simp; with_reducible rfl))
                    simp only [List.setIfInBounds_toArray, List.set_cons_zero, List.set_cons_succ]
                    refine takeU 128 (i := 6) (v := ?v5004) rfl rfl rfl (by kernel_rfl) (by kernel_rfl) (by kernel_rfl) (by kernel_rfl) (fun _ _ _ h => h) (by kernel_rfl) ?hy5004 (Sv.mono hG0 (fun k hk => Or.inl hk)) ?rest5004
                    case hy5004 => (intro w0 hSw; obtain ⟨s0, sH, s1, s2, s3, s4, s5⟩ := HF.out _ hSw; first | (go_simp; done) | (go_simp; with_reducible rfl))
                    simp only [List.setIfInBounds_toArray, List.set_cons_zero, List.set_cons_succ]
                    refine takeU 129 (i := 7) (v := ?v5005) rfl rfl rfl (by kernel_rfl) (by kernel_rfl) (by kernel_rfl) (by kernel_rfl) (fun _ _ _ h => h) (by kernel_rfl) ?hy5005 (Sv.mono hG0 (fun k hk => Or.inl hk)) ?rest5005
                    case hy5005 => (intro w0 hSw; obtain ⟨s0, sH, s1, s2, s3, s4, s5⟩ := HF.out _ hSw; first | (go_simp; done) | (go_simp; with_reducible rfl))
                    simp only [List.setIfInBounds_toArray, List.set_cons_zero, List.set_cons_succ]
                    refine takeU 130 (i := 8) (v := ?v5006) rfl rfl rfl (by kernel_rfl) (by kernel_rfl) (by kernel_rfl) (by kernel_rfl) (fun _ _ _ h => h) (by kernel_rfl) ?hy5006 (Sv.mono hG0 (fun k hk => Or.inl hk)) ?rest5006
                    case hy5006 => (intro w0 hSw; obtain ⟨s0, sH, s1, s2, s3, s4, s5⟩ := HF.out _ hSw; first | (go_simp; done) | (go_simp; with_reducible rfl))
                    simp only [List.setIfInBounds_toArray, List.set_cons_zero, List.set_cons_succ]
                    refine takeU 132 (i := 10) (v := ?v5007) rfl rfl rfl (by kernel_rfl) (by kernel_rfl) (by kernel_rfl) (by kernel_rfl) (fun _ _ _ h => h) (by kernel_rfl) ?hy5007 (Sv.mono hG0 (fun k hk => Or.inl hk)) ?rest5007
                    case hy5007 => (intro w0 hSw; obtain ⟨s0, sH, s1, s2, s3, s4, s5⟩ := HF.out _ hSw; first | (go_simp; done) | (go_simp; with_reducible rfl))
                    simp only [List.setIfInBounds_toArray, List.set_cons_zero, List.set_cons_succ]
                    refine takeU 135 (i := 13) (v := ?v5008) rfl rfl rfl (by kernel_rfl) (by kernel_rfl) (by kernel_rfl) (by kernel_rfl) (fun _ _ _ h => h) (by kernel_rfl) ?hy5008 (Sv.mono hG0 (fun k hk => Or.inl hk)) ?rest5008
                    case hy5008 => (intro w0 hSw; obtain ⟨s0, sH, s1, s2, s3, s4, s5⟩ := HF.out _ hSw; first | (go_simp; done) | (go_simp; with_reducible rfl))
                    simp only [List.setIfInBounds_toArray, List.set_cons_zero, List.set_cons_succ]
                    refine takeU 136 (i := 14) (v := ?v5009) rfl rfl rfl (by kernel_rfl) (by kernel_rfl) (by kernel_rfl) (by kernel_rfl) (fun _ _ _ h => h) (by kernel_rfl) ?hy5009 (Sv.mono hG0 (fun k hk => Or.inl hk)) ?rest5009
                    case hy5009 => (intro w0 hSw; obtain ⟨s0, sH, s1, s2, s3, s4, s5⟩ := HF.out _ hSw; first | (go_simp; done) | (go_simp; with_reducible rfl))
                    simp only [List.setIfInBounds_toArray, List.set_cons_zero, List.set_cons_succ]
                    refine takeU 140 (i := 18) (v := ?v5010) rfl rfl rfl (by kernel_rfl) (by kernel_rfl) (by kernel_rfl) (by kernel_rfl) (fun _ _ _ h => h) (by kernel_rfl) ?hy5010 (Sv.mono hG0 (fun k hk => Or.inl hk)) ?rest5010
                    case hy5010 => (intro w0 hSw; obtain ⟨s0, sH, s1, s2, s3, s4, s5⟩ := HF.out _ hSw; first | (go_simp; done) | (go_simp; with_reducible rfl))
                    simp only [List.setIfInBounds_toArray, List.set_cons_zero, List.set_cons_succ]
                    refine takeU 141 (i := 19) (v := ?v5011) rfl rfl rfl (by kernel_rfl) (by kernel_rfl) (by kernel_rfl) (by kernel_rfl) (fun _ _ _ h => h) (by kernel_rfl) ?hy5011 (Sv.mono hG0 (fun k hk => Or.inl hk)) ?rest5011
                    case hy5011 => (intro w0 hSw; obtain ⟨s0, sH, s1, s2, s3, s4, s5⟩ := HF.out _ hSw; first | (go_simp; done) | (go_simp; with_reducible rfl))
                    simp only [List.setIfInBounds_toArray, List.set_cons_zero, List.set_cons_succ]
                    refine twoU 124 131 (i1 := 2) (i2 := 9) rfl rfl rfl rfl (by kernel_rfl) (by kernel_rfl) (by kernel_rfl) (fun K hK => ?_) (fun K hK => ?_)
                    · go_simp
                      refine hK.out _ _ (Sv.mono (hG0.trans (((Bel.refl (World.drew wr)).alloc #[.string ⟨#[104, 97]⟩, .string ⟨#[104, 98]⟩, .string ⟨#[104, 99]⟩] 9).svg gS)) (fun k hk => Or.inl hk)) (fun hM501 => ?_)
                      clear hK K
                      simp only [List.setIfInBounds_toArray, List.set_cons_zero, List.set_cons_succ]
                      have hG501 := (hG0.trans (((Bel.refl (World.drew wr)).alloc #[.string ⟨#[104, 97]⟩, .string ⟨#[104, 98]⟩, .string ⟨#[104, 99]⟩] 9).svg gS))
                      have hz501 : ((World.alloc (World.drew wr) (.cells #[.string ⟨#[104, 97]⟩, .string ⟨#[104, 98]⟩, .string ⟨#[104, 99]⟩] 9))).heap.size = wr.heap.size + 1 := World.size_alloc _ _
                      have ha501 := alloc_at (w := (World.drew wr)) (n := wr.heap.size) rfl (.cells #[.string ⟨#[104, 97]⟩, .string ⟨#[104, 98]⟩, .string ⟨#[104, 99]⟩] 9)
                      have hq501 : wr.heap.size ≠ gS ∧ wr.heap.size ≤ wr.heap.size := by have h1 : gS < ((World.drew wr)).heap.size := ((HL.out.src.bel (Bel.refl wr).drew)).lt; have h2 : wr.heap.size ≤ ((World.drew wr)).heap.size := (hG0).size; change gS < wr.heap.size at h1; change _ ≤ wr.heap.size at h2; omega
                      refine Upto.mono (U := (fun w' => Sv (fun b => b = gS ∨ (Value.slice pt l.length ct).ownBlock = some b) wr w' ∧ w'.heap[wr.heap.size]? = some (.cells #[.string ⟨#[104, 97]⟩, .string ⟨#[104, 98]⟩, .string ⟨#[104, 99]⟩] 9 (0, 0)))) (fun _ h => h.1) _ _ _ _ ?_
                      refine takeU 126 (i := 4) (v := ?v5012) rfl rfl rfl (by kernel_rfl) (by kernel_rfl) (by kernel_rfl) (by kernel_rfl) (fun _ _ _ h => h) (by kernel_rfl) ?hy5012 ⟨(Sv.mono hG501 (fun k hk => Or.inl hk)), ha501⟩ ?rest5012
                      case hy5012 => (intro w0 hSw; obtain ⟨s0, sH, s1, s2, s3, s4, s5⟩ := HF.out _ hSw.1; have sq := (nm_at HNMV.out hll hSw.2); first | (go_simp; done) | (go_simp; with_reducible rfl))
                      simp only [List.setIfInBounds_toArray, List.set_cons_zero, List.set_cons_succ]
                      refine takeU 127 (i := 5) (v := ?v5013) rfl rfl rfl (by kernel_rfl) (by kernel_rfl) (by kernel_rfl) (by kernel_rfl) (fun _ _ _ h => h) (by kernel_rfl) ?hy5013 ⟨(Sv.mono hG501 (fun k hk => Or.inl hk)), ha501⟩ ?rest5013
                      case hy5013 => (intro w0 hSw; obtain ⟨s0, sH, s1, s2, s3, s4, s5⟩ := HF.out _ hSw.1; have sq := (nm_at HNMV.out hll hSw.2); first | (go_simp; done) | (go_simp; with_reducible rfl))
                      simp only [List.setIfInBounds_toArray, List.set_cons_zero, List.set_cons_succ]
                      refine oneU 131 (i := 9) rfl rfl (by kernel_rfl) (by kernel_rfl) (fun K hK => ?_)
                      go_simp
                      go_at_call 21
                      refine (next_lit HKP.out HONE.out _ ((HL.out.src.bel (Bel.refl wr).drew).bel ((Bel.refl (World.drew wr)).alloc #[.string ⟨#[104, 97]⟩, .string ⟨#[104, 98]⟩, .string ⟨#[104, 99]⟩] 9))).mono ?_
                      rintro e w21 ⟨rfl, hv1, hs1⟩
                      have hG1 := hG501.trans hv1
                      have hvz1 := hv1.size
                      rw [hz501] at hvz1
                      have hN1 := hv1.stays ha501 hq501.1
                      refine hK.out _ _ ⟨(Sv.mono hG1 (fun k hk => Or.inl hk)), hN1⟩ (fun _ => ?_)
                      clear hK K
                      simp only [List.setIfInBounds_toArray, List.set_cons_zero, List.set_cons_succ]
                      refine oneU 133 (i := 11) rfl rfl (by kernel_rfl) (by kernel_rfl) (fun K hK => ?_)
                      go_simp
                      go_at_call 21
                      refine (next_lit HKP2.out (by decide) _ hs1).mono ?_
                      rintro e w22 ⟨rfl, hv2, hs2⟩
                      have hG2 := hG1.trans hv2
                      have hvz2 := hv2.size
                      change w21.heap.size ≤ _ at hvz2
                      have hN2 := hv2.stays hN1 hq501.1
                      refine hK.out _ _ ⟨(Sv.mono hG2 (fun k hk => Or.inl hk)), hN2⟩ (fun _ => ?_)
                      clear hK K
                      simp only [List.setIfInBounds_toArray, List.set_cons_zero, List.set_cons_succ]
                      refine takeU 134 (i := 12) (v := ?v5014) rfl rfl rfl (by kernel_rfl) (by kernel_rfl) (by kernel_rfl) (by kernel_rfl) (fun _ _ _ h => h) (by kernel_rfl) ?hy5014 ⟨(Sv.mono hG2 (fun k hk => Or.inl hk)), hN2⟩ ?rest5014
                      case hy5014 => (intro w0 hSw; obtain ⟨s0, sH, s1, s2, s3, s4, s5⟩ := HF.out _ hSw.1; have sq := (nm_at HNMV.out hll hSw.2); first | (go_simp; done) | (go_simp; with_reducible rfl))
                      simp only [List.setIfInBounds_toArray, List.set_cons_zero, List.set_cons_succ]
                      refine oneU 137 (i := 15) rfl rfl (by kernel_rfl) (by kernel_rfl) (fun K hK => ?_)
                      go_simp
                      go_at_call 21
                      refine (next_lit HKP3.out (by decide) _ hs2).mono ?_
                      rintro e w23 ⟨rfl, hv3, hs3⟩
                      have hG3 := hG2.trans hv3
                      have hvz3 := hv3.size
                      change w22.heap.size ≤ _ at hvz3
                      have hN3 := hv3.stays hN2 hq501.1
                      refine hK.out _ _ ⟨(Sv.mono hG3 (fun k hk => Or.inl hk)), hN3⟩ (fun _ => ?_)
                      clear hK K
                      simp only [List.setIfInBounds_toArray, List.set_cons_zero, List.set_cons_succ]
                      refine takeU 138 (i := 16) (v := ?v5015) rfl rfl rfl (by kernel_rfl) (by kernel_rfl) (by kernel_rfl) (by kernel_rfl) (fun _ _ _ h => h) (by kernel_rfl) ?hy5015 ⟨(Sv.mono hG3 (fun k hk => Or.inl hk)), hN3⟩ ?rest5015
                      case hy5015 => (intro w0 hSw; obtain ⟨s0, sH, s1, s2, s3, s4, s5⟩ := HF.out _ hSw.1; have sq := (nm_at HNMV.out hll hSw.2); first | (go_simp; done) | (go_simp; with_reducible rfl))
                      simp only [List.setIfInBounds_toArray, List.set_cons_zero, List.set_cons_succ]
                      refine takeU 139 (i := 17) (v := ?v5016) rfl rfl rfl (by kernel_rfl) (by kernel_rfl) (by kernel_rfl) (by kernel_rfl) (fun _ _ _ h => h) (by kernel_rfl) ?hy5016 ⟨(Sv.mono hG3 (fun k hk => Or.inl hk)), hN3⟩ ?rest5016
                      case hy5016 => (intro w0 hSw; obtain ⟨s0, sH, s1, s2, s3, s4, s5⟩ := HF.out _ hSw.1; have sq := (nm_at HNMV.out hll hSw.2); first | (go_simp; done) | (go_simp; with_reducible rfl))
                      simp only [List.setIfInBounds_toArray, List.set_cons_zero, List.set_cons_succ]
                      refine oneU 142 (i := 20) rfl rfl (by kernel_rfl) (by kernel_rfl) (fun K hK => ?_)
                      go_simp
                      go_at_call 24
                      refine (blk_lit BAtI2 (by decide) HGD.out HL.out.sq HBL.out (HSC.out _ hG3) hs3).mono ?_
                      rintro e w24 ⟨qb, nb, rfl, hlb, heb, hv4, hs4⟩
                      have hG4 := hG3.trans hv4
                      have hvz4 := hv4.size
                      change w23.heap.size ≤ _ at hvz4
                      have hN4 := hv4.stays hN3 hq501.1
                      refine hK.out _ _ ⟨(Sv.mono hG4 (fun k hk => Or.inl hk)), hN4⟩ (fun _ => ?_)
                      clear hK K
                      simp only [List.setIfInBounds_toArray, List.set_cons_zero, List.set_cons_succ]
                      refine takeU 143 (i := 21) (v := ?v5017) rfl rfl rfl (by kernel_rfl) (by kernel_rfl) (by kernel_rfl) (by kernel_rfl) (fun _ _ _ h => h) (by kernel_rfl) ?hy5017 ⟨(Sv.mono hG4 (fun k hk => Or.inl hk)), hN4⟩ ?rest5017
                      case hy5017 => (intro w0 hSw; obtain ⟨s0, sH, s1, s2, s3, s4, s5⟩ := HF.out _ hSw.1; have sq := (nm_at HNMV.out hll hSw.2); first | (go_simp; done) | (go_simp; with_reducible rfl))
                      simp only [List.setIfInBounds_toArray, List.set_cons_zero, List.set_cons_succ]
                      refine oneU 144 (i := 22) rfl rfl (by kernel_rfl) (by kernel_rfl) (fun K hK => ?_)
                      go_simp
                      refine hK.out _ _ ⟨(Sv.mono (hG4.trans (((Bel.refl w24).alloc #[.string nmv, .bool true, .int .i64 kp, .int .i64 (4 + kb), .int .i64 ((kk : Int) + ke * 4), .slice qb bl.length nb] 54).svg gS)) (fun k hk => Or.inl hk)), ((Bel.refl w24).alloc #[.string nmv, .bool true, .int .i64 kp, .int .i64 (4 + kb), .int .i64 ((kk : Int) + ke * 4), .slice qb bl.length nb] 54).stays hN4⟩ (fun hM502 => ?_)
                      clear hK K
                      simp only [List.setIfInBounds_toArray, List.set_cons_zero, List.set_cons_succ]
                      have hG502 := (hG4.trans (((Bel.refl w24).alloc #[.string nmv, .bool true, .int .i64 kp, .int .i64 (4 + kb), .int .i64 ((kk : Int) + ke * 4), .slice qb bl.length nb] 54).svg gS))
                      have hz502 : ((World.alloc w24 (.cells #[.string nmv, .bool true, .int .i64 kp, .int .i64 (4 + kb), .int .i64 ((kk : Int) + ke * 4), .slice qb bl.length nb] 54))).heap.size = w24.heap.size + 1 := World.size_alloc _ _
                      have ha502 := alloc_at (w := w24) (n := w24.heap.size) rfl (.cells #[.string nmv, .bool true, .int .i64 kp, .int .i64 (4 + kb), .int .i64 ((kk : Int) + ke * 4), .slice qb bl.length nb] 54)
                      have hq502 : w24.heap.size ≠ gS ∧ wr.heap.size ≤ w24.heap.size := by have h1 : gS < (w24).heap.size := (hs4).lt; have h2 : wr.heap.size ≤ (w24).heap.size := (hG4).size; change gS < w24.heap.size at h1; change _ ≤ w24.heap.size at h2; omega
                      refine oneU 145 (i := 23) rfl rfl (by kernel_rfl) (by kernel_rfl) (fun K hK => ?_)
                      have hrow := HL.out.tv.sv hG502 (fun b hb e => by have := own_ge HL.out.tv b hb; have := hnum; omega)
                      have hcs : w = w := rfl
                      obtain ⟨vx, wa, hrun, hoa, hsa, hna⟩ := one_more2 tskTy hrow (⟨⟨nmv, true, kp, 4 + kb, (kk : Int) + ke * 4, bl⟩, qb, nb⟩ : PT) (c := 1) ha502 rfl (by omega) (by have h2 := (hG502).size; have := hnum; omega)
                      obtain ⟨nl, hnl⟩ : ∃ nl, nl = (l ++ [(⟨⟨nmv, true, kp, 4 + kb, (kk : Int) + ke * 4, bl⟩, qb, nb⟩ : PT)]).length := ⟨_, rfl⟩
                      obtain ⟨pt', ct', hvx⟩ := row_form tskTy.len hoa hnl
                      subst hvx
                      have HNL9 := Lib.hid hnl
                      clear hnl
                      have hbk : ∀ b, b < wr.heap.size → (Value.slice pt l.length ct).ownBlock ≠ some b → wa.heap[b]? = ((World.alloc w24 (.cells #[.string nmv, .bool true, .int .i64 kp, .int .i64 (4 + kb), .int .i64 ((kk : Int) + ke * 4), .slice qb bl.length nb] 54))).heap[b]? := fun b hb hn => hsa.block b (Nat.lt_of_lt_of_le hb (hG502).size) hn
                      have hpa := (hbk gP (by have := hnum; omega) (fun e => by have := own_ge HL.out.tv gP e; have := hnum; omega)).trans ((hG502).stays HL.out.p (by have := hnum; omega))
                      have hca := (hbk gC (by have := hnum; omega) (fun e => by have := own_ge HL.out.tv gC e; have := hnum; omega)).trans ((hG502).stays HL.out.c (by have := hnum; omega))
                      have hna2 := (hsa.block _ (lt_of_heap hM502.2) (fun e => by have := own_lt HL.out.tv _ e; have := hq501; omega)).trans hM502.2
                      have z3 : wa.cell? ⟨gP, 3, none⟩ = some (.slice pt l.length ct) := cell_of_heap hpa 3
                      have f3 := frozen_of_heap hpa 3
                      refine appU (.tmp 123) (.tmp 144) 26 rfl _ _ _ (by kernel_rfl) (by kernel_rfl) hrun ?_
                      refine hK.out _ _ ⟨(Sv.trans (Sv.mono hG502 (fun k hk => Or.inl hk)) (Sv.mono hsa (fun k hk => Or.inr hk))), hna2⟩ (fun hMA => ?_)
                      clear hK K
                      simp only [List.setIfInBounds_toArray, List.set_cons_zero, List.set_cons_succ]
                      refine takeU 146 (i := 24) (v := ?v5018) rfl rfl rfl (by kernel_rfl) (by kernel_rfl) (by kernel_rfl) (by kernel_rfl) (fun _ _ _ h => h) (by kernel_rfl) ?hy5018 hMA ?rest5018
                      case hy5018 => (intro w0 hSw; obtain ⟨s0, sH, s1, s2, s3, s4, s5⟩ := HF.out _ hSw.1; have sq := (nm_at HNMV.out hll hSw.2); first | (go_simp; done) | (go_simp; with_reducible rfl))
                      simp only [List.setIfInBounds_toArray, List.set_cons_zero, List.set_cons_succ]
                      refine lastU rfl rfl (by kernel_rfl) (by kernel_rfl) (fun K hK => ?_)
                      go_simp
                      refine hK.out undef _ ?_
                      clear hK K
                      refine Upto.done (by kernel_rfl) ?_ _
                      go_wp2_with fail
                      go_roundg mm
                      case measure => omega
                      case rel =>
                        have hse := Svg.set gP 3 wa (Value.slice pt' nl ct')
                        have hpf : (World.setCell wa ⟨gP, 3, none⟩ (Value.slice pt' nl ct')).heap[gP]? = some (.cells (prC (1 + (h : Int)) (.slice pD dl.length cD) (.slice pR rl.length cR) (Value.slice pt' nl ct')) 28 (0, 0)) := by simp [World.setCell, Array.getElem?_modify, hpa]
                        have hcf := hse.stays hca (by omega)
                        have how := own_ge HL.out.tv
                        have hgp := HGP.out
                        have hcb1 : gS < (w23).heap.size := (hs3).lt
                        have hcb2 : wr.heap.size ≤ (w23).heap.size := (hG3).size
                        have hR : Sub (oldM g0 gS gP gC w9.heap.size wr) (oldM g0 gS gP gC w9.heap.size (World.setCell wa ⟨gP, 3, none⟩ (Value.slice pt' nl ct'))) := ((oldM_sv hG502 (fun k hk => .inl hk)).trans (oldM_sv hsa (fun k hk => .inr (.inr (.inr (how k hk)))))).trans (oldM_sv hse (fun k hk => .inr (.inl hk)))
                        have hK1 : Sub (keepW w9.heap.size (Value.slice pt l.length ct) wr) (keepW w9.heap.size (Value.slice pt' nl ct') (World.setCell wa ⟨gP, 3, none⟩ (Value.slice pt' nl ct'))) := ((keepW_sv hG502 (by omega)).trans (keepW_app hsa hna)).trans (keepW_sv hse (by omega))
                        have hK2 : Sub (young (w23).heap.size w24) (keepW w9.heap.size (Value.slice pt' nl ct') (World.setCell wa ⟨gP, 3, none⟩ (Value.slice pt' nl ct'))) := (((Bel.sub (Svg.young ((Svg.refl gS w24).trans (((Bel.refl w24).alloc #[.string nmv, .bool true, .int .i64 kp, .int .i64 (4 + kb), .int .i64 ((kk : Int) + ke * 4), .slice qb bl.length nb] 54).svg gS)) hcb1)).trans (young_keepW _ (by omega) (fun b hb => Nat.lt_of_lt_of_le (own_lt HL.out.tv b hb) hcb2))).trans (keepW_app hsa hna)).trans (keepW_sv hse (by omega))
                        have hnew : ∀ b, (Value.slice pt' nl ct').ownBlock = some b → w9.heap.size ≤ b := own_ge hoa
                        refine ⟨l ++ [(⟨⟨nmv, true, kp, 4 + kb, (kk : Int) + ke * 4, bl⟩, qb, nb⟩ : PT)], _, r2, rfl, Lib.hid ⟨hpf, hcf, hoa.sv hse (fun b hb e => by have := hnew b hb; omega), ?_, (((hs4.bel ((Bel.refl w24).alloc #[.string nmv, .bool true, .int .i64 kp, .int .i64 (4 + kb), .int .i64 ((kk : Int) + ke * 4), .slice qb bl.length nb] 54))).sv hsa (fun b hb => by have := how b hb; omega)).sv hse (fun b hb => by subst hb; omega), hnum.1, hnum.2.1, hnum.2.2.1, Nat.le_trans (Nat.le_trans (Nat.le_trans hnum.2.2.2.1 (hG502).size) hsa.size) hse.size, HL.out.ds.sub hR, HL.out.rs.sub hR, HL.out.ns.sub hR, HL.out.ms.sub hR, HL.out.sq⟩, Lib.hid ?_, Lib.hid (by have := HLN.out; rw [List.length_append, List.length_singleton]; omega), Lib.hid (Sv.bel hse (Sv.bel hsa (Svg.bel hG502 HBW.out (by omega)) (fun b hb => by have := how b hb; omega)) (fun b hb => by subst hb; omega)), Lib.hid (hse.stays ((hsa.block g0 (lt_of_heap ((hG502).stays HX0.out (by omega))) (fun e => by have := how g0 e; omega)).trans ((hG502).stays HX0.out (by omega))) (by omega))⟩
                        · intro y hy
                          rcases List.mem_append.1 hy with hy | hy
                          · exact (HL.out.tk y hy).sub hK1
                          · rw [List.mem_singleton.1 hy]
                            exact ⟨isTsk_of (by rw [← HNMV.out]; exact hnames_ok _ hll) HKB.out.1 (by have := HKB.out.2; have := HH3.out; omega) (by have := HKB2.out; omega) (by have := HKB2.out; omega) (by have := HKB3.out; omega) (by rw [if_pos rfl]; have := HKB3.out; omega) (by have := body_ok (d := 2) (by decide) HGD.out re; rw [HBL.out] at this; exact this), hlb, heb.sub hK2⟩
                        · rw [← HE.out]
                          show _ = hdlsV C (1 + h) mm (l.map PT.t ++ [(hdlV C (1 + h) ((l.map PT.t).length - (1 + h)) r).1]) (hdlV C (1 + h) ((l.map PT.t).length - (1 + h)) r).2
                          unfold hdlV
                          rw [List.length_map, show (((1 + h : Nat) : Int)) = 1 + (h : Int) by omega, HKP.out]
                          dsimp only
                          rw [HKP2.out]
                          dsimp only
                          rw [HKP3.out]
                          dsimp only
                          rw [HBL.out, show l.length - (1 + h) = kk by have := HKK.out.1; omega, HNMV.out, List.map_append]
                          rfl
                    · go_simp
                      go_at_call 21
                      refine (next_lit HKP.out HONE.out _ (HL.out.src.bel (Bel.refl wr).drew)).mono ?_
                      rintro e w21 ⟨rfl, hv1, hs1⟩
                      have hG1 := hG0.trans hv1
                      have hvz1 := hv1.size
                      change wr.heap.size ≤ _ at hvz1
                      refine hK.out _ _ (Sv.mono hG1 (fun k hk => Or.inl hk)) (fun _ => ?_)
                      clear hK K
                      simp only [List.setIfInBounds_toArray, List.set_cons_zero, List.set_cons_succ]
                      refine twoU 124 133 (i1 := 2) (i2 := 11) rfl rfl rfl rfl (by kernel_rfl) (by kernel_rfl) (by kernel_rfl) (fun K hK => ?_) (fun K hK => ?_)
                      · go_simp
                        refine hK.out _ _ (Sv.mono (hG1.trans (((Bel.refl w21).alloc #[.string ⟨#[104, 97]⟩, .string ⟨#[104, 98]⟩, .string ⟨#[104, 99]⟩] 9).svg gS)) (fun k hk => Or.inl hk)) (fun hM503 => ?_)
                        clear hK K
                        simp only [List.setIfInBounds_toArray, List.set_cons_zero, List.set_cons_succ]
                        have hG503 := (hG1.trans (((Bel.refl w21).alloc #[.string ⟨#[104, 97]⟩, .string ⟨#[104, 98]⟩, .string ⟨#[104, 99]⟩] 9).svg gS))
                        have hz503 : ((World.alloc w21 (.cells #[.string ⟨#[104, 97]⟩, .string ⟨#[104, 98]⟩, .string ⟨#[104, 99]⟩] 9))).heap.size = w21.heap.size + 1 := World.size_alloc _ _
                        have ha503 := alloc_at (w := w21) (n := w21.heap.size) rfl (.cells #[.string ⟨#[104, 97]⟩, .string ⟨#[104, 98]⟩, .string ⟨#[104, 99]⟩] 9)
                        have hq503 : w21.heap.size ≠ gS ∧ wr.heap.size ≤ w21.heap.size := by have h1 : gS < (w21).heap.size := (hs1).lt; have h2 : wr.heap.size ≤ (w21).heap.size := (hG1).size; change gS < w21.heap.size at h1; change _ ≤ w21.heap.size at h2; omega
                        refine Upto.mono (U := (fun w' => Sv (fun b => b = gS ∨ (Value.slice pt l.length ct).ownBlock = some b) wr w' ∧ w'.heap[w21.heap.size]? = some (.cells #[.string ⟨#[104, 97]⟩, .string ⟨#[104, 98]⟩, .string ⟨#[104, 99]⟩] 9 (0, 0)))) (fun _ h => h.1) _ _ _ _ ?_
                        refine takeU 126 (i := 4) (v := ?v5019) rfl rfl rfl (by kernel_rfl) (by kernel_rfl) (by kernel_rfl) (by kernel_rfl) (fun _ _ _ h => h) (by kernel_rfl) ?hy5019 ⟨(Sv.mono hG503 (fun k hk => Or.inl hk)), ha503⟩ ?rest5019
                        case hy5019 => (intro w0 hSw; obtain ⟨s0, sH, s1, s2, s3, s4, s5⟩ := HF.out _ hSw.1; have sq := (nm_at HNMV.out hll hSw.2); first | (go_simp; done) | (go_simp; with_reducible rfl))
                        simp only [List.setIfInBounds_toArray, List.set_cons_zero, List.set_cons_succ]
                        refine takeU 127 (i := 5) (v := ?v5020) rfl rfl rfl (by kernel_rfl) (by kernel_rfl) (by kernel_rfl) (by kernel_rfl) (fun _ _ _ h => h) (by kernel_rfl) ?hy5020 ⟨(Sv.mono hG503 (fun k hk => Or.inl hk)), ha503⟩ ?rest5020
                        case hy5020 => (intro w0 hSw; obtain ⟨s0, sH, s1, s2, s3, s4, s5⟩ := HF.out _ hSw.1; have sq := (nm_at HNMV.out hll hSw.2); first | (go_simp; done) | (go_simp; with_reducible rfl))
                        simp only [List.setIfInBounds_toArray, List.set_cons_zero, List.set_cons_succ]
                        refine oneU 133 (i := 11) rfl rfl (by kernel_rfl) (by kernel_rfl) (fun K hK => ?_)
                        go_simp
                        go_at_call 21
                        refine (next_lit HKP2.out (by decide) _ (hs1.bel ((Bel.refl w21).alloc #[.string ⟨#[104, 97]⟩, .string ⟨#[104, 98]⟩, .string ⟨#[104, 99]⟩] 9))).mono ?_
                        rintro e w22 ⟨rfl, hv2, hs2⟩
                        have hG2 := hG503.trans hv2
                        have hvz2 := hv2.size
                        rw [hz503] at hvz2
                        have hN2 := hv2.stays ha503 hq503.1
                        refine hK.out _ _ ⟨(Sv.mono hG2 (fun k hk => Or.inl hk)), hN2⟩ (fun _ => ?_)
                        clear hK K
                        simp only [List.setIfInBounds_toArray, List.set_cons_zero, List.set_cons_succ]
                        refine takeU 134 (i := 12) (v := ?v5021) rfl rfl rfl (by kernel_rfl) (by kernel_rfl) (by kernel_rfl) (by kernel_rfl) (fun _ _ _ h => h) (by kernel_rfl) ?hy5021 ⟨(Sv.mono hG2 (fun k hk => Or.inl hk)), hN2⟩ ?rest5021
                        case hy5021 => (intro w0 hSw; obtain ⟨s0, sH, s1, s2, s3, s4, s5⟩ := HF.out _ hSw.1; have sq := (nm_at HNMV.out hll hSw.2); first | (go_simp; done) | (go_simp; with_reducible rfl))
                        simp only [List.setIfInBounds_toArray, List.set_cons_zero, List.set_cons_succ]
                        refine oneU 137 (i := 15) rfl rfl (by kernel_rfl) (by kernel_rfl) (fun K hK => ?_)
                        go_simp
                        go_at_call 21
                        refine (next_lit HKP3.out (by decide) _ hs2).mono ?_
                        rintro e w23 ⟨rfl, hv3, hs3⟩
                        have hG3 := hG2.trans hv3
                        have hvz3 := hv3.size
                        change w22.heap.size ≤ _ at hvz3
                        have hN3 := hv3.stays hN2 hq503.1
                        refine hK.out _ _ ⟨(Sv.mono hG3 (fun k hk => Or.inl hk)), hN3⟩ (fun _ => ?_)
                        clear hK K
                        simp only [List.setIfInBounds_toArray, List.set_cons_zero, List.set_cons_succ]
                        refine takeU 138 (i := 16) (v := ?v5022) rfl rfl rfl (by kernel_rfl) (by kernel_rfl) (by kernel_rfl) (by kernel_rfl) (fun _ _ _ h => h) (by kernel_rfl) ?hy5022 ⟨(Sv.mono hG3 (fun k hk => Or.inl hk)), hN3⟩ ?rest5022
                        case hy5022 => (intro w0 hSw; obtain ⟨s0, sH, s1, s2, s3, s4, s5⟩ := HF.out _ hSw.1; have sq := (nm_at HNMV.out hll hSw.2); first | (go_simp; done) | (go_simp; with_reducible rfl))
                        simp only [List.setIfInBounds_toArray, List.set_cons_zero, List.set_cons_succ]
                        refine takeU 139 (i := 17) (v := ?v5023) rfl rfl rfl (by kernel_rfl) (by kernel_rfl) (by kernel_rfl) (by kernel_rfl) (fun _ _ _ h => h) (by kernel_rfl) ?hy5023 ⟨(Sv.mono hG3 (fun k hk => Or.inl hk)), hN3⟩ ?rest5023
                        case hy5023 => (intro w0 hSw; obtain ⟨s0, sH, s1, s2, s3, s4, s5⟩ := HF.out _ hSw.1; have sq := (nm_at HNMV.out hll hSw.2); first | (go_simp; done) | (go_simp; with_reducible rfl))
                        simp only [List.setIfInBounds_toArray, List.set_cons_zero, List.set_cons_succ]
                        refine oneU 142 (i := 20) rfl rfl (by kernel_rfl) (by kernel_rfl) (fun K hK => ?_)
                        go_simp
                        go_at_call 24
                        refine (blk_lit BAtI2 (by decide) HGD.out HL.out.sq HBL.out (HSC.out _ hG3) hs3).mono ?_
                        rintro e w24 ⟨qb, nb, rfl, hlb, heb, hv4, hs4⟩
                        have hG4 := hG3.trans hv4
                        have hvz4 := hv4.size
                        change w23.heap.size ≤ _ at hvz4
                        have hN4 := hv4.stays hN3 hq503.1
                        refine hK.out _ _ ⟨(Sv.mono hG4 (fun k hk => Or.inl hk)), hN4⟩ (fun _ => ?_)
                        clear hK K
                        simp only [List.setIfInBounds_toArray, List.set_cons_zero, List.set_cons_succ]
                        refine takeU 143 (i := 21) (v := ?v5024) rfl rfl rfl (by kernel_rfl) (by kernel_rfl) (by kernel_rfl) (by kernel_rfl) (fun _ _ _ h => h) (by kernel_rfl) ?hy5024 ⟨(Sv.mono hG4 (fun k hk => Or.inl hk)), hN4⟩ ?rest5024
                        case hy5024 => (intro w0 hSw; obtain ⟨s0, sH, s1, s2, s3, s4, s5⟩ := HF.out _ hSw.1; have sq := (nm_at HNMV.out hll hSw.2); first | (go_simp; done) | (go_simp; with_reducible rfl))
                        simp only [List.setIfInBounds_toArray, List.set_cons_zero, List.set_cons_succ]
                        refine oneU 144 (i := 22) rfl rfl (by kernel_rfl) (by kernel_rfl) (fun K hK => ?_)
                        go_simp
                        refine hK.out _ _ ⟨(Sv.mono (hG4.trans (((Bel.refl w24).alloc #[.string nmv, .bool true, .int .i64 kp, .int .i64 (4 + kb), .int .i64 ((kk : Int) + ke * 4), .slice qb bl.length nb] 54).svg gS)) (fun k hk => Or.inl hk)), ((Bel.refl w24).alloc #[.string nmv, .bool true, .int .i64 kp, .int .i64 (4 + kb), .int .i64 ((kk : Int) + ke * 4), .slice qb bl.length nb] 54).stays hN4⟩ (fun hM504 => ?_)
                        clear hK K
                        simp only [List.setIfInBounds_toArray, List.set_cons_zero, List.set_cons_succ]
                        have hG504 := (hG4.trans (((Bel.refl w24).alloc #[.string nmv, .bool true, .int .i64 kp, .int .i64 (4 + kb), .int .i64 ((kk : Int) + ke * 4), .slice qb bl.length nb] 54).svg gS))
                        have hz504 : ((World.alloc w24 (.cells #[.string nmv, .bool true, .int .i64 kp, .int .i64 (4 + kb), .int .i64 ((kk : Int) + ke * 4), .slice qb bl.length nb] 54))).heap.size = w24.heap.size + 1 := World.size_alloc _ _
                        have ha504 := alloc_at (w := w24) (n := w24.heap.size) rfl (.cells #[.string nmv, .bool true, .int .i64 kp, .int .i64 (4 + kb), .int .i64 ((kk : Int) + ke * 4), .slice qb bl.length nb] 54)
                        have hq504 : w24.heap.size ≠ gS ∧ wr.heap.size ≤ w24.heap.size := by have h1 : gS < (w24).heap.size := (hs4).lt; have h2 : wr.heap.size ≤ (w24).heap.size := (hG4).size; change gS < w24.heap.size at h1; change _ ≤ w24.heap.size at h2; omega
                        refine oneU 145 (i := 23) rfl rfl (by kernel_rfl) (by kernel_rfl) (fun K hK => ?_)
                        have hrow := HL.out.tv.sv hG504 (fun b hb e => by have := own_ge HL.out.tv b hb; have := hnum; omega)
                        have hcs : w = w := rfl
                        obtain ⟨vx, wa, hrun, hoa, hsa, hna⟩ := one_more2 tskTy hrow (⟨⟨nmv, true, kp, 4 + kb, (kk : Int) + ke * 4, bl⟩, qb, nb⟩ : PT) (c := 1) ha504 rfl (by omega) (by have h2 := (hG504).size; have := hnum; omega)
                        obtain ⟨nl, hnl⟩ : ∃ nl, nl = (l ++ [(⟨⟨nmv, true, kp, 4 + kb, (kk : Int) + ke * 4, bl⟩, qb, nb⟩ : PT)]).length := ⟨_, rfl⟩
                        obtain ⟨pt', ct', hvx⟩ := row_form tskTy.len hoa hnl
                        subst hvx
                        have HNL9 := Lib.hid hnl
                        clear hnl
                        have hbk : ∀ b, b < wr.heap.size → (Value.slice pt l.length ct).ownBlock ≠ some b → wa.heap[b]? = ((World.alloc w24 (.cells #[.string nmv, .bool true, .int .i64 kp, .int .i64 (4 + kb), .int .i64 ((kk : Int) + ke * 4), .slice qb bl.length nb] 54))).heap[b]? := fun b hb hn => hsa.block b (Nat.lt_of_lt_of_le hb (hG504).size) hn
                        have hpa := (hbk gP (by have := hnum; omega) (fun e => by have := own_ge HL.out.tv gP e; have := hnum; omega)).trans ((hG504).stays HL.out.p (by have := hnum; omega))
                        have hca := (hbk gC (by have := hnum; omega) (fun e => by have := own_ge HL.out.tv gC e; have := hnum; omega)).trans ((hG504).stays HL.out.c (by have := hnum; omega))
                        have hna2 := (hsa.block _ (lt_of_heap hM504.2) (fun e => by have := own_lt HL.out.tv _ e; have := hq503; omega)).trans hM504.2
                        have z3 : wa.cell? ⟨gP, 3, none⟩ = some (.slice pt l.length ct) := cell_of_heap hpa 3
                        have f3 := frozen_of_heap hpa 3
                        refine appU (.tmp 123) (.tmp 144) 26 rfl _ _ _ (by kernel_rfl) (by kernel_rfl) hrun ?_
                        refine hK.out _ _ ⟨(Sv.trans (Sv.mono hG504 (fun k hk => Or.inl hk)) (Sv.mono hsa (fun k hk => Or.inr hk))), hna2⟩ (fun hMA => ?_)
                        clear hK K
                        simp only [List.setIfInBounds_toArray, List.set_cons_zero, List.set_cons_succ]
                        refine takeU 146 (i := 24) (v := ?v5025) rfl rfl rfl (by kernel_rfl) (by kernel_rfl) (by kernel_rfl) (by kernel_rfl) (fun _ _ _ h => h) (by kernel_rfl) ?hy5025 hMA ?rest5025
                        case hy5025 => (intro w0 hSw; obtain ⟨s0, sH, s1, s2, s3, s4, s5⟩ := HF.out _ hSw.1; have sq := (nm_at HNMV.out hll hSw.2); first | (go_simp; done) | (go_simp; with_reducible rfl))
                        simp only [List.setIfInBounds_toArray, List.set_cons_zero, List.set_cons_succ]
                        refine lastU rfl rfl (by kernel_rfl) (by kernel_rfl) (fun K hK => ?_)
                        go_simp
                        refine hK.out undef _ ?_
                        clear hK K
                        refine Upto.done (by kernel_rfl) ?_ _
                        go_wp2_with fail
                        go_roundg mm
                        case measure => omega
                        case rel =>
                          have hse := Svg.set gP 3 wa (Value.slice pt' nl ct')
                          have hpf : (World.setCell wa ⟨gP, 3, none⟩ (Value.slice pt' nl ct')).heap[gP]? = some (.cells (prC (1 + (h : Int)) (.slice pD dl.length cD) (.slice pR rl.length cR) (Value.slice pt' nl ct')) 28 (0, 0)) := by simp [World.setCell, Array.getElem?_modify, hpa]
                          have hcf := hse.stays hca (by omega)
                          have how := own_ge HL.out.tv
                          have hgp := HGP.out
                          have hcb1 : gS < (w23).heap.size := (hs3).lt
                          have hcb2 : wr.heap.size ≤ (w23).heap.size := (hG3).size
                          have hR : Sub (oldM g0 gS gP gC w9.heap.size wr) (oldM g0 gS gP gC w9.heap.size (World.setCell wa ⟨gP, 3, none⟩ (Value.slice pt' nl ct'))) := ((oldM_sv hG504 (fun k hk => .inl hk)).trans (oldM_sv hsa (fun k hk => .inr (.inr (.inr (how k hk)))))).trans (oldM_sv hse (fun k hk => .inr (.inl hk)))
                          have hK1 : Sub (keepW w9.heap.size (Value.slice pt l.length ct) wr) (keepW w9.heap.size (Value.slice pt' nl ct') (World.setCell wa ⟨gP, 3, none⟩ (Value.slice pt' nl ct'))) := ((keepW_sv hG504 (by omega)).trans (keepW_app hsa hna)).trans (keepW_sv hse (by omega))
                          have hK2 : Sub (young (w23).heap.size w24) (keepW w9.heap.size (Value.slice pt' nl ct') (World.setCell wa ⟨gP, 3, none⟩ (Value.slice pt' nl ct'))) := (((Bel.sub (Svg.young ((Svg.refl gS w24).trans (((Bel.refl w24).alloc #[.string nmv, .bool true, .int .i64 kp, .int .i64 (4 + kb), .int .i64 ((kk : Int) + ke * 4), .slice qb bl.length nb] 54).svg gS)) hcb1)).trans (young_keepW _ (by omega) (fun b hb => Nat.lt_of_lt_of_le (own_lt HL.out.tv b hb) hcb2))).trans (keepW_app hsa hna)).trans (keepW_sv hse (by omega))
                          have hnew : ∀ b, (Value.slice pt' nl ct').ownBlock = some b → w9.heap.size ≤ b := own_ge hoa
                          refine ⟨l ++ [(⟨⟨nmv, true, kp, 4 + kb, (kk : Int) + ke * 4, bl⟩, qb, nb⟩ : PT)], _, r2, rfl, Lib.hid ⟨hpf, hcf, hoa.sv hse (fun b hb e => by have := hnew b hb; omega), ?_, (((hs4.bel ((Bel.refl w24).alloc #[.string nmv, .bool true, .int .i64 kp, .int .i64 (4 + kb), .int .i64 ((kk : Int) + ke * 4), .slice qb bl.length nb] 54))).sv hsa (fun b hb => by have := how b hb; omega)).sv hse (fun b hb => by subst hb; omega), hnum.1, hnum.2.1, hnum.2.2.1, Nat.le_trans (Nat.le_trans (Nat.le_trans hnum.2.2.2.1 (hG504).size) hsa.size) hse.size, HL.out.ds.sub hR, HL.out.rs.sub hR, HL.out.ns.sub hR, HL.out.ms.sub hR, HL.out.sq⟩, Lib.hid ?_, Lib.hid (by have := HLN.out; rw [List.length_append, List.length_singleton]; omega), Lib.hid (Sv.bel hse (Sv.bel hsa (Svg.bel hG504 HBW.out (by omega)) (fun b hb => by have := how b hb; omega)) (fun b hb => by subst hb; omega)), Lib.hid (hse.stays ((hsa.block g0 (lt_of_heap ((hG504).stays HX0.out (by omega))) (fun e => by have := how g0 e; omega)).trans ((hG504).stays HX0.out (by omega))) (by omega))⟩
                          · intro y hy
                            rcases List.mem_append.1 hy with hy | hy
                            · exact (HL.out.tk y hy).sub hK1
                            · rw [List.mem_singleton.1 hy]
                              exact ⟨isTsk_of (by rw [← HNMV.out]; exact hnames_ok _ hll) HKB.out.1 (by have := HKB.out.2; have := HH3.out; omega) (by have := HKB2.out; omega) (by have := HKB2.out; omega) (by have := HKB3.out; omega) (by rw [if_pos rfl]; have := HKB3.out; omega) (by have := body_ok (d := 2) (by decide) HGD.out re; rw [HBL.out] at this; exact this), hlb, heb.sub hK2⟩
                          · rw [← HE.out]
                            show _ = hdlsV C (1 + h) mm (l.map PT.t ++ [(hdlV C (1 + h) ((l.map PT.t).length - (1 + h)) r).1]) (hdlV C (1 + h) ((l.map PT.t).length - (1 + h)) r).2
                            unfold hdlV
                            rw [List.length_map, show (((1 + h : Nat) : Int)) = 1 + (h : Int) by omega, HKP.out]
                            dsimp only
                            rw [HKP2.out]
                            dsimp only
                            rw [HKP3.out]
                            dsimp only
                            rw [HBL.out, show l.length - (1 + h) = kk by have := HKK.out.1; omega, HNMV.out, List.map_append]
                            rfl
                      · go_simp
                        go_at_call 21
                        refine (next_lit HKP2.out (by decide) _ hs1).mono ?_
                        rintro e w22 ⟨rfl, hv2, hs2⟩
                        have hG2 := hG1.trans hv2
                        have hvz2 := hv2.size
                        change w21.heap.size ≤ _ at hvz2
                        refine hK.out _ _ (Sv.mono hG2 (fun k hk => Or.inl hk)) (fun _ => ?_)
                        clear hK K
                        simp only [List.setIfInBounds_toArray, List.set_cons_zero, List.set_cons_succ]
                        refine takeU 134 (i := 12) (v := ?v5026) rfl rfl rfl (by kernel_rfl) (by kernel_rfl) (by kernel_rfl) (by kernel_rfl) (fun _ _ _ h => h) (by kernel_rfl) ?hy5026 (Sv.mono hG2 (fun k hk => Or.inl hk)) ?rest5026
                        case hy5026 => (intro w0 hSw; obtain ⟨s0, sH, s1, s2, s3, s4, s5⟩ := HF.out _ hSw; first | (go_simp; done) | (go_simp; with_reducible rfl))
                        simp only [List.setIfInBounds_toArray, List.set_cons_zero, List.set_cons_succ]
                        refine twoU 124 137 (i1 := 2) (i2 := 15) rfl rfl rfl rfl (by kernel_rfl) (by kernel_rfl) (by kernel_rfl) (fun K hK => ?_) (fun K hK => ?_)
                        · go_simp
                          refine hK.out _ _ (Sv.mono (hG2.trans (((Bel.refl w22).alloc #[.string ⟨#[104, 97]⟩, .string ⟨#[104, 98]⟩, .string ⟨#[104, 99]⟩] 9).svg gS)) (fun k hk => Or.inl hk)) (fun hM505 => ?_)
                          clear hK K
                          simp only [List.setIfInBounds_toArray, List.set_cons_zero, List.set_cons_succ]
                          have hG505 := (hG2.trans (((Bel.refl w22).alloc #[.string ⟨#[104, 97]⟩, .string ⟨#[104, 98]⟩, .string ⟨#[104, 99]⟩] 9).svg gS))
                          have hz505 : ((World.alloc w22 (.cells #[.string ⟨#[104, 97]⟩, .string ⟨#[104, 98]⟩, .string ⟨#[104, 99]⟩] 9))).heap.size = w22.heap.size + 1 := World.size_alloc _ _
                          have ha505 := alloc_at (w := w22) (n := w22.heap.size) rfl (.cells #[.string ⟨#[104, 97]⟩, .string ⟨#[104, 98]⟩, .string ⟨#[104, 99]⟩] 9)
                          have hq505 : w22.heap.size ≠ gS ∧ wr.heap.size ≤ w22.heap.size := by have h1 : gS < (w22).heap.size := (hs2).lt; have h2 : wr.heap.size ≤ (w22).heap.size := (hG2).size; change gS < w22.heap.size at h1; change _ ≤ w22.heap.size at h2; omega
                          refine Upto.mono (U := (fun w' => Sv (fun b => b = gS ∨ (Value.slice pt l.length ct).ownBlock = some b) wr w' ∧ w'.heap[w22.heap.size]? = some (.cells #[.string ⟨#[104, 97]⟩, .string ⟨#[104, 98]⟩, .string ⟨#[104, 99]⟩] 9 (0, 0)))) (fun _ h => h.1) _ _ _ _ ?_
                          refine takeU 126 (i := 4) (v := ?v5027) rfl rfl rfl (by kernel_rfl) (by kernel_rfl) (by kernel_rfl) (by kernel_rfl) (fun _ _ _ h => h) (by kernel_rfl) ?hy5027 ⟨(Sv.mono hG505 (fun k hk => Or.inl hk)), ha505⟩ ?rest5027
                          case hy5027 => (intro w0 hSw; obtain ⟨s0, sH, s1, s2, s3, s4, s5⟩ := HF.out _ hSw.1; have sq := (nm_at HNMV.out hll hSw.2); first | (go_simp; done) | (go_simp; with_reducible rfl))
                          simp only [List.setIfInBounds_toArray, List.set_cons_zero, List.set_cons_succ]
                          refine takeU 127 (i := 5) (v := ?v5028) rfl rfl rfl (by kernel_rfl) (by kernel_rfl) (by kernel_rfl) (by kernel_rfl) (fun _ _ _ h => h) (by kernel_rfl) ?hy5028 ⟨(Sv.mono hG505 (fun k hk => Or.inl hk)), ha505⟩ ?rest5028
                          case hy5028 => (intro w0 hSw; obtain ⟨s0, sH, s1, s2, s3, s4, s5⟩ := HF.out _ hSw.1; have sq := (nm_at HNMV.out hll hSw.2); first | (go_simp; done) | (go_simp; with_reducible rfl))
                          simp only [List.setIfInBounds_toArray, List.set_cons_zero, List.set_cons_succ]
                          refine oneU 137 (i := 15) rfl rfl (by kernel_rfl) (by kernel_rfl) (fun K hK => ?_)
                          go_simp
                          go_at_call 21
                          refine (next_lit HKP3.out (by decide) _ (hs2.bel ((Bel.refl w22).alloc #[.string ⟨#[104, 97]⟩, .string ⟨#[104, 98]⟩, .string ⟨#[104, 99]⟩] 9))).mono ?_
                          rintro e w23 ⟨rfl, hv3, hs3⟩
                          have hG3 := hG505.trans hv3
                          have hvz3 := hv3.size
                          rw [hz505] at hvz3
                          have hN3 := hv3.stays ha505 hq505.1
                          refine hK.out _ _ ⟨(Sv.mono hG3 (fun k hk => Or.inl hk)), hN3⟩ (fun _ => ?_)
                          clear hK K
                          simp only [List.setIfInBounds_toArray, List.set_cons_zero, List.set_cons_succ]
                          refine takeU 138 (i := 16) (v := ?v5029) rfl rfl rfl (by kernel_rfl) (by kernel_rfl) (by kernel_rfl) (by kernel_rfl) (fun _ _ _ h => h) (by kernel_rfl) ?hy5029 ⟨(Sv.mono hG3 (fun k hk => Or.inl hk)), hN3⟩ ?rest5029
                          case hy5029 => (intro w0 hSw; obtain ⟨s0, sH, s1, s2, s3, s4, s5⟩ := HF.out _ hSw.1; have sq := (nm_at HNMV.out hll hSw.2); first | (go_simp; done) | (go_simp; with_reducible rfl))
                          simp only [List.setIfInBounds_toArray, List.set_cons_zero, List.set_cons_succ]
                          refine takeU 139 (i := 17) (v := ?v5030) rfl rfl rfl (by kernel_rfl) (by kernel_rfl) (by kernel_rfl) (by kernel_rfl) (fun _ _ _ h => h) (by kernel_rfl) ?hy5030 ⟨(Sv.mono hG3 (fun k hk => Or.inl hk)), hN3⟩ ?rest5030
                          case hy5030 => (intro w0 hSw; obtain ⟨s0, sH, s1, s2, s3, s4, s5⟩ := HF.out _ hSw.1; have sq := (nm_at HNMV.out hll hSw.2); first | (go_simp; done) | (go_simp; with_reducible rfl))
                          simp only [List.setIfInBounds_toArray, List.set_cons_zero, List.set_cons_succ]
                          refine oneU 142 (i := 20) rfl rfl (by kernel_rfl) (by kernel_rfl) (fun K hK => ?_)
                          go_simp
                          go_at_call 24
                          refine (blk_lit BAtI2 (by decide) HGD.out HL.out.sq HBL.out (HSC.out _ hG3) hs3).mono ?_
                          rintro e w24 ⟨qb, nb, rfl, hlb, heb, hv4, hs4⟩
                          have hG4 := hG3.trans hv4
                          have hvz4 := hv4.size
                          change w23.heap.size ≤ _ at hvz4
                          have hN4 := hv4.stays hN3 hq505.1
                          refine hK.out _ _ ⟨(Sv.mono hG4 (fun k hk => Or.inl hk)), hN4⟩ (fun _ => ?_)
                          clear hK K
                          simp only [List.setIfInBounds_toArray, List.set_cons_zero, List.set_cons_succ]
                          refine takeU 143 (i := 21) (v := ?v5031) rfl rfl rfl (by kernel_rfl) (by kernel_rfl) (by kernel_rfl) (by kernel_rfl) (fun _ _ _ h => h) (by kernel_rfl) ?hy5031 ⟨(Sv.mono hG4 (fun k hk => Or.inl hk)), hN4⟩ ?rest5031
                          case hy5031 => (intro w0 hSw; obtain ⟨s0, sH, s1, s2, s3, s4, s5⟩ := HF.out _ hSw.1; have sq := (nm_at HNMV.out hll hSw.2); first | (go_simp; done) | (go_simp; with_reducible rfl))
                          simp only [List.setIfInBounds_toArray, List.set_cons_zero, List.set_cons_succ]
                          refine oneU 144 (i := 22) rfl rfl (by kernel_rfl) (by kernel_rfl) (fun K hK => ?_)
                          go_simp
                          refine hK.out _ _ ⟨(Sv.mono (hG4.trans (((Bel.refl w24).alloc #[.string nmv, .bool true, .int .i64 kp, .int .i64 (4 + kb), .int .i64 ((kk : Int) + ke * 4), .slice qb bl.length nb] 54).svg gS)) (fun k hk => Or.inl hk)), ((Bel.refl w24).alloc #[.string nmv, .bool true, .int .i64 kp, .int .i64 (4 + kb), .int .i64 ((kk : Int) + ke * 4), .slice qb bl.length nb] 54).stays hN4⟩ (fun hM506 => ?_)
                          clear hK K
                          simp only [List.setIfInBounds_toArray, List.set_cons_zero, List.set_cons_succ]
                          have hG506 := (hG4.trans (((Bel.refl w24).alloc #[.string nmv, .bool true, .int .i64 kp, .int .i64 (4 + kb), .int .i64 ((kk : Int) + ke * 4), .slice qb bl.length nb] 54).svg gS))
                          have hz506 : ((World.alloc w24 (.cells #[.string nmv, .bool true, .int .i64 kp, .int .i64 (4 + kb), .int .i64 ((kk : Int) + ke * 4), .slice qb bl.length nb] 54))).heap.size = w24.heap.size + 1 := World.size_alloc _ _
                          have ha506 := alloc_at (w := w24) (n := w24.heap.size) rfl (.cells #[.string nmv, .bool true, .int .i64 kp, .int .i64 (4 + kb), .int .i64 ((kk : Int) + ke * 4), .slice qb bl.length nb] 54)
                          have hq506 : w24.heap.size ≠ gS ∧ wr.heap.size ≤ w24.heap.size := by have h1 : gS < (w24).heap.size := (hs4).lt; have h2 : wr.heap.size ≤ (w24).heap.size := (hG4).size; change gS < w24.heap.size at h1; change _ ≤ w24.heap.size at h2; omega
                          refine oneU 145 (i := 23) rfl rfl (by kernel_rfl) (by kernel_rfl) (fun K hK => ?_)
                          have hrow := HL.out.tv.sv hG506 (fun b hb e => by have := own_ge HL.out.tv b hb; have := hnum; omega)
                          have hcs : w = w := rfl
                          obtain ⟨vx, wa, hrun, hoa, hsa, hna⟩ := one_more2 tskTy hrow (⟨⟨nmv, true, kp, 4 + kb, (kk : Int) + ke * 4, bl⟩, qb, nb⟩ : PT) (c := 1) ha506 rfl (by omega) (by have h2 := (hG506).size; have := hnum; omega)
                          obtain ⟨nl, hnl⟩ : ∃ nl, nl = (l ++ [(⟨⟨nmv, true, kp, 4 + kb, (kk : Int) + ke * 4, bl⟩, qb, nb⟩ : PT)]).length := ⟨_, rfl⟩
                          obtain ⟨pt', ct', hvx⟩ := row_form tskTy.len hoa hnl
                          subst hvx
                          have HNL9 := Lib.hid hnl
                          clear hnl
                          have hbk : ∀ b, b < wr.heap.size → (Value.slice pt l.length ct).ownBlock ≠ some b → wa.heap[b]? = ((World.alloc w24 (.cells #[.string nmv, .bool true, .int .i64 kp, .int .i64 (4 + kb), .int .i64 ((kk : Int) + ke * 4), .slice qb bl.length nb] 54))).heap[b]? := fun b hb hn => hsa.block b (Nat.lt_of_lt_of_le hb (hG506).size) hn
                          have hpa := (hbk gP (by have := hnum; omega) (fun e => by have := own_ge HL.out.tv gP e; have := hnum; omega)).trans ((hG506).stays HL.out.p (by have := hnum; omega))
                          have hca := (hbk gC (by have := hnum; omega) (fun e => by have := own_ge HL.out.tv gC e; have := hnum; omega)).trans ((hG506).stays HL.out.c (by have := hnum; omega))
                          have hna2 := (hsa.block _ (lt_of_heap hM506.2) (fun e => by have := own_lt HL.out.tv _ e; have := hq505; omega)).trans hM506.2
                          have z3 : wa.cell? ⟨gP, 3, none⟩ = some (.slice pt l.length ct) := cell_of_heap hpa 3
                          have f3 := frozen_of_heap hpa 3
                          refine appU (.tmp 123) (.tmp 144) 26 rfl _ _ _ (by kernel_rfl) (by kernel_rfl) hrun ?_
                          refine hK.out _ _ ⟨(Sv.trans (Sv.mono hG506 (fun k hk => Or.inl hk)) (Sv.mono hsa (fun k hk => Or.inr hk))), hna2⟩ (fun hMA => ?_)
                          clear hK K
                          simp only [List.setIfInBounds_toArray, List.set_cons_zero, List.set_cons_succ]
                          refine takeU 146 (i := 24) (v := ?v5032) rfl rfl rfl (by kernel_rfl) (by kernel_rfl) (by kernel_rfl) (by kernel_rfl) (fun _ _ _ h => h) (by kernel_rfl) ?hy5032 hMA ?rest5032
                          case hy5032 => (intro w0 hSw; obtain ⟨s0, sH, s1, s2, s3, s4, s5⟩ := HF.out _ hSw.1; have sq := (nm_at HNMV.out hll hSw.2); first | (go_simp; done) | (go_simp; with_reducible rfl))
                          simp only [List.setIfInBounds_toArray, List.set_cons_zero, List.set_cons_succ]
                          refine lastU rfl rfl (by kernel_rfl) (by kernel_rfl) (fun K hK => ?_)
                          go_simp
                          refine hK.out undef _ ?_
                          clear hK K
                          refine Upto.done (by kernel_rfl) ?_ _
                          go_wp2_with fail
                          go_roundg mm
                          case measure => omega
                          case rel =>
                            have hse := Svg.set gP 3 wa (Value.slice pt' nl ct')
                            have hpf : (World.setCell wa ⟨gP, 3, none⟩ (Value.slice pt' nl ct')).heap[gP]? = some (.cells (prC (1 + (h : Int)) (.slice pD dl.length cD) (.slice pR rl.length cR) (Value.slice pt' nl ct')) 28 (0, 0)) := by simp [World.setCell, Array.getElem?_modify, hpa]
                            have hcf := hse.stays hca (by omega)
                            have how := own_ge HL.out.tv
                            have hgp := HGP.out
                            have hcb1 : gS < (w23).heap.size := (hs3).lt
                            have hcb2 : wr.heap.size ≤ (w23).heap.size := (hG3).size
                            have hR : Sub (oldM g0 gS gP gC w9.heap.size wr) (oldM g0 gS gP gC w9.heap.size (World.setCell wa ⟨gP, 3, none⟩ (Value.slice pt' nl ct'))) := ((oldM_sv hG506 (fun k hk => .inl hk)).trans (oldM_sv hsa (fun k hk => .inr (.inr (.inr (how k hk)))))).trans (oldM_sv hse (fun k hk => .inr (.inl hk)))
                            have hK1 : Sub (keepW w9.heap.size (Value.slice pt l.length ct) wr) (keepW w9.heap.size (Value.slice pt' nl ct') (World.setCell wa ⟨gP, 3, none⟩ (Value.slice pt' nl ct'))) := ((keepW_sv hG506 (by omega)).trans (keepW_app hsa hna)).trans (keepW_sv hse (by omega))
                            have hK2 : Sub (young (w23).heap.size w24) (keepW w9.heap.size (Value.slice pt' nl ct') (World.setCell wa ⟨gP, 3, none⟩ (Value.slice pt' nl ct'))) := (((Bel.sub (Svg.young ((Svg.refl gS w24).trans (((Bel.refl w24).alloc #[.string nmv, .bool true, .int .i64 kp, .int .i64 (4 + kb), .int .i64 ((kk : Int) + ke * 4), .slice qb bl.length nb] 54).svg gS)) hcb1)).trans (young_keepW _ (by omega) (fun b hb => Nat.lt_of_lt_of_le (own_lt HL.out.tv b hb) hcb2))).trans (keepW_app hsa hna)).trans (keepW_sv hse (by omega))
                            have hnew : ∀ b, (Value.slice pt' nl ct').ownBlock = some b → w9.heap.size ≤ b := own_ge hoa
                            refine ⟨l ++ [(⟨⟨nmv, true, kp, 4 + kb, (kk : Int) + ke * 4, bl⟩, qb, nb⟩ : PT)], _, r2, rfl, Lib.hid ⟨hpf, hcf, hoa.sv hse (fun b hb e => by have := hnew b hb; omega), ?_, (((hs4.bel ((Bel.refl w24).alloc #[.string nmv, .bool true, .int .i64 kp, .int .i64 (4 + kb), .int .i64 ((kk : Int) + ke * 4), .slice qb bl.length nb] 54))).sv hsa (fun b hb => by have := how b hb; omega)).sv hse (fun b hb => by subst hb; omega), hnum.1, hnum.2.1, hnum.2.2.1, Nat.le_trans (Nat.le_trans (Nat.le_trans hnum.2.2.2.1 (hG506).size) hsa.size) hse.size, HL.out.ds.sub hR, HL.out.rs.sub hR, HL.out.ns.sub hR, HL.out.ms.sub hR, HL.out.sq⟩, Lib.hid ?_, Lib.hid (by have := HLN.out; rw [List.length_append, List.length_singleton]; omega), Lib.hid (Sv.bel hse (Sv.bel hsa (Svg.bel hG506 HBW.out (by omega)) (fun b hb => by have := how b hb; omega)) (fun b hb => by subst hb; omega)), Lib.hid (hse.stays ((hsa.block g0 (lt_of_heap ((hG506).stays HX0.out (by omega))) (fun e => by have := how g0 e; omega)).trans ((hG506).stays HX0.out (by omega))) (by omega))⟩
                            · intro y hy
                              rcases List.mem_append.1 hy with hy | hy
                              · exact (HL.out.tk y hy).sub hK1
                              · rw [List.mem_singleton.1 hy]
                                exact ⟨isTsk_of (by rw [← HNMV.out]; exact hnames_ok _ hll) HKB.out.1 (by have := HKB.out.2; have := HH3.out; omega) (by have := HKB2.out; omega) (by have := HKB2.out; omega) (by have := HKB3.out; omega) (by rw [if_pos rfl]; have := HKB3.out; omega) (by have := body_ok (d := 2) (by decide) HGD.out re; rw [HBL.out] at this; exact this), hlb, heb.sub hK2⟩
                            · rw [← HE.out]
                              show _ = hdlsV C (1 + h) mm (l.map PT.t ++ [(hdlV C (1 + h) ((l.map PT.t).length - (1 + h)) r).1]) (hdlV C (1 + h) ((l.map PT.t).length - (1 + h)) r).2
                              unfold hdlV
                              rw [List.length_map, show (((1 + h : Nat) : Int)) = 1 + (h : Int) by omega, HKP.out]
                              dsimp only
                              rw [HKP2.out]
                              dsimp only
                              rw [HKP3.out]
                              dsimp only
                              rw [HBL.out, show l.length - (1 + h) = kk by have := HKK.out.1; omega, HNMV.out, List.map_append]
                              rfl
                        · go_simp
                          go_at_call 21
                          refine (next_lit HKP3.out (by decide) _ hs2).mono ?_
                          rintro e w23 ⟨rfl, hv3, hs3⟩
                          have hG3 := hG2.trans hv3
                          have hvz3 := hv3.size
                          change w22.heap.size ≤ _ at hvz3
                          refine hK.out _ _ (Sv.mono hG3 (fun k hk => Or.inl hk)) (fun _ => ?_)
                          clear hK K
                          simp only [List.setIfInBounds_toArray, List.set_cons_zero, List.set_cons_succ]
                          refine takeU 138 (i := 16) (v := ?v5033) rfl rfl rfl (by kernel_rfl) (by kernel_rfl) (by kernel_rfl) (by kernel_rfl) (fun _ _ _ h => h) (by kernel_rfl) ?hy5033 (Sv.mono hG3 (fun k hk => Or.inl hk)) ?rest5033
                          case hy5033 => (intro w0 hSw; obtain ⟨s0, sH, s1, s2, s3, s4, s5⟩ := HF.out _ hSw; first | (go_simp; done) | (go_simp; with_reducible rfl))
                          simp only [List.setIfInBounds_toArray, List.set_cons_zero, List.set_cons_succ]
                          refine takeU 139 (i := 17) (v := ?v5034) rfl rfl rfl (by kernel_rfl) (by kernel_rfl) (by kernel_rfl) (by kernel_rfl) (fun _ _ _ h => h) (by kernel_rfl) ?hy5034 (Sv.mono hG3 (fun k hk => Or.inl hk)) ?rest5034
                          case hy5034 => (intro w0 hSw; obtain ⟨s0, sH, s1, s2, s3, s4, s5⟩ := HF.out _ hSw; first | (go_simp; done) | (go_simp; with_reducible rfl))
                          simp only [List.setIfInBounds_toArray, List.set_cons_zero, List.set_cons_succ]
                          refine twoU 124 142 (i1 := 2) (i2 := 20) rfl rfl rfl rfl (by kernel_rfl) (by kernel_rfl) (by kernel_rfl) (fun K hK => ?_) (fun K hK => ?_)
                          · go_simp
                            refine hK.out _ _ (Sv.mono (hG3.trans (((Bel.refl w23).alloc #[.string ⟨#[104, 97]⟩, .string ⟨#[104, 98]⟩, .string ⟨#[104, 99]⟩] 9).svg gS)) (fun k hk => Or.inl hk)) (fun hM507 => ?_)
                            clear hK K
                            simp only [List.setIfInBounds_toArray, List.set_cons_zero, List.set_cons_succ]
                            have hG507 := (hG3.trans (((Bel.refl w23).alloc #[.string ⟨#[104, 97]⟩, .string ⟨#[104, 98]⟩, .string ⟨#[104, 99]⟩] 9).svg gS))
                            have hz507 : ((World.alloc w23 (.cells #[.string ⟨#[104, 97]⟩, .string ⟨#[104, 98]⟩, .string ⟨#[104, 99]⟩] 9))).heap.size = w23.heap.size + 1 := World.size_alloc _ _
                            have ha507 := alloc_at (w := w23) (n := w23.heap.size) rfl (.cells #[.string ⟨#[104, 97]⟩, .string ⟨#[104, 98]⟩, .string ⟨#[104, 99]⟩] 9)
                            have hq507 : w23.heap.size ≠ gS ∧ wr.heap.size ≤ w23.heap.size := by have h1 : gS < (w23).heap.size := (hs3).lt; have h2 : wr.heap.size ≤ (w23).heap.size := (hG3).size; change gS < w23.heap.size at h1; change _ ≤ w23.heap.size at h2; omega
                            refine Upto.mono (U := (fun w' => Sv (fun b => b = gS ∨ (Value.slice pt l.length ct).ownBlock = some b) wr w' ∧ w'.heap[w23.heap.size]? = some (.cells #[.string ⟨#[104, 97]⟩, .string ⟨#[104, 98]⟩, .string ⟨#[104, 99]⟩] 9 (0, 0)))) (fun _ h => h.1) _ _ _ _ ?_
                            refine takeU 126 (i := 4) (v := ?v5035) rfl rfl rfl (by kernel_rfl) (by kernel_rfl) (by kernel_rfl) (by kernel_rfl) (fun _ _ _ h => h) (by kernel_rfl) ?hy5035 ⟨(Sv.mono hG507 (fun k hk => Or.inl hk)), ha507⟩ ?rest5035
                            case hy5035 => (intro w0 hSw; obtain ⟨s0, sH, s1, s2, s3, s4, s5⟩ := HF.out _ hSw.1; have sq := (nm_at HNMV.out hll hSw.2); first | (go_simp; done) | (go_simp; with_reducible rfl))
                            simp only [List.setIfInBounds_toArray, List.set_cons_zero, List.set_cons_succ]
                            refine takeU 127 (i := 5) (v := ?v5036) rfl rfl rfl (by kernel_rfl) (by kernel_rfl) (by kernel_rfl) (by kernel_rfl) (fun _ _ _ h => h) (by kernel_rfl) ?hy5036 ⟨(Sv.mono hG507 (fun k hk => Or.inl hk)), ha507⟩ ?rest5036
                            case hy5036 => (intro w0 hSw; obtain ⟨s0, sH, s1, s2, s3, s4, s5⟩ := HF.out _ hSw.1; have sq := (nm_at HNMV.out hll hSw.2); first | (go_simp; done) | (go_simp; with_reducible rfl))
                            simp only [List.setIfInBounds_toArray, List.set_cons_zero, List.set_cons_succ]
                            refine oneU 142 (i := 20) rfl rfl (by kernel_rfl) (by kernel_rfl) (fun K hK => ?_)
                            go_simp
                            go_at_call 24
                            refine (blk_lit BAtI2 (by decide) HGD.out HL.out.sq HBL.out (HSC.out _ hG507) (hs3.bel ((Bel.refl w23).alloc #[.string ⟨#[104, 97]⟩, .string ⟨#[104, 98]⟩, .string ⟨#[104, 99]⟩] 9))).mono ?_
                            rintro e w24 ⟨qb, nb, rfl, hlb, heb, hv4, hs4⟩
                            have hG4 := hG507.trans hv4
                            have hvz4 := hv4.size
                            rw [hz507] at hvz4
                            have hN4 := hv4.stays ha507 hq507.1
                            refine hK.out _ _ ⟨(Sv.mono hG4 (fun k hk => Or.inl hk)), hN4⟩ (fun _ => ?_)
                            clear hK K
                            simp only [List.setIfInBounds_toArray, List.set_cons_zero, List.set_cons_succ]
                            refine takeU 143 (i := 21) (v := ?v5037) rfl rfl rfl (by kernel_rfl) (by kernel_rfl) (by kernel_rfl) (by kernel_rfl) (fun _ _ _ h => h) (by kernel_rfl) ?hy5037 ⟨(Sv.mono hG4 (fun k hk => Or.inl hk)), hN4⟩ ?rest5037
                            case hy5037 => (intro w0 hSw; obtain ⟨s0, sH, s1, s2, s3, s4, s5⟩ := HF.out _ hSw.1; have sq := (nm_at HNMV.out hll hSw.2); first | (go_simp; done) | (go_simp; with_reducible rfl))
                            simp only [List.setIfInBounds_toArray, List.set_cons_zero, List.set_cons_succ]
                            refine oneU 144 (i := 22) rfl rfl (by kernel_rfl) (by kernel_rfl) (fun K hK => ?_)
                            go_simp
                            refine hK.out _ _ ⟨(Sv.mono (hG4.trans (((Bel.refl w24).alloc #[.string nmv, .bool true, .int .i64 kp, .int .i64 (4 + kb), .int .i64 ((kk : Int) + ke * 4), .slice qb bl.length nb] 54).svg gS)) (fun k hk => Or.inl hk)), ((Bel.refl w24).alloc #[.string nmv, .bool true, .int .i64 kp, .int .i64 (4 + kb), .int .i64 ((kk : Int) + ke * 4), .slice qb bl.length nb] 54).stays hN4⟩ (fun hM508 => ?_)
                            clear hK K
                            simp only [List.setIfInBounds_toArray, List.set_cons_zero, List.set_cons_succ]
                            have hG508 := (hG4.trans (((Bel.refl w24).alloc #[.string nmv, .bool true, .int .i64 kp, .int .i64 (4 + kb), .int .i64 ((kk : Int) + ke * 4), .slice qb bl.length nb] 54).svg gS))
                            have hz508 : ((World.alloc w24 (.cells #[.string nmv, .bool true, .int .i64 kp, .int .i64 (4 + kb), .int .i64 ((kk : Int) + ke * 4), .slice qb bl.length nb] 54))).heap.size = w24.heap.size + 1 := World.size_alloc _ _
                            have ha508 := alloc_at (w := w24) (n := w24.heap.size) rfl (.cells #[.string nmv, .bool true, .int .i64 kp, .int .i64 (4 + kb), .int .i64 ((kk : Int) + ke * 4), .slice qb bl.length nb] 54)
                            have hq508 : w24.heap.size ≠ gS ∧ wr.heap.size ≤ w24.heap.size := by have h1 : gS < (w24).heap.size := (hs4).lt; have h2 : wr.heap.size ≤ (w24).heap.size := (hG4).size; change gS < w24.heap.size at h1; change _ ≤ w24.heap.size at h2; omega
                            refine oneU 145 (i := 23) rfl rfl (by kernel_rfl) (by kernel_rfl) (fun K hK => ?_)
                            have hrow := HL.out.tv.sv hG508 (fun b hb e => by have := own_ge HL.out.tv b hb; have := hnum; omega)
                            have hcs : w = w := rfl
                            obtain ⟨vx, wa, hrun, hoa, hsa, hna⟩ := one_more2 tskTy hrow (⟨⟨nmv, true, kp, 4 + kb, (kk : Int) + ke * 4, bl⟩, qb, nb⟩ : PT) (c := 1) ha508 rfl (by omega) (by have h2 := (hG508).size; have := hnum; omega)
                            obtain ⟨nl, hnl⟩ : ∃ nl, nl = (l ++ [(⟨⟨nmv, true, kp, 4 + kb, (kk : Int) + ke * 4, bl⟩, qb, nb⟩ : PT)]).length := ⟨_, rfl⟩
                            obtain ⟨pt', ct', hvx⟩ := row_form tskTy.len hoa hnl
                            subst hvx
                            have HNL9 := Lib.hid hnl
                            clear hnl
                            have hbk : ∀ b, b < wr.heap.size → (Value.slice pt l.length ct).ownBlock ≠ some b → wa.heap[b]? = ((World.alloc w24 (.cells #[.string nmv, .bool true, .int .i64 kp, .int .i64 (4 + kb), .int .i64 ((kk : Int) + ke * 4), .slice qb bl.length nb] 54))).heap[b]? := fun b hb hn => hsa.block b (Nat.lt_of_lt_of_le hb (hG508).size) hn
                            have hpa := (hbk gP (by have := hnum; omega) (fun e => by have := own_ge HL.out.tv gP e; have := hnum; omega)).trans ((hG508).stays HL.out.p (by have := hnum; omega))
                            have hca := (hbk gC (by have := hnum; omega) (fun e => by have := own_ge HL.out.tv gC e; have := hnum; omega)).trans ((hG508).stays HL.out.c (by have := hnum; omega))
                            have hna2 := (hsa.block _ (lt_of_heap hM508.2) (fun e => by have := own_lt HL.out.tv _ e; have := hq507; omega)).trans hM508.2
                            have z3 : wa.cell? ⟨gP, 3, none⟩ = some (.slice pt l.length ct) := cell_of_heap hpa 3
                            have f3 := frozen_of_heap hpa 3
                            refine appU (.tmp 123) (.tmp 144) 26 rfl _ _ _ (by kernel_rfl) (by kernel_rfl) hrun ?_
                            refine hK.out _ _ ⟨(Sv.trans (Sv.mono hG508 (fun k hk => Or.inl hk)) (Sv.mono hsa (fun k hk => Or.inr hk))), hna2⟩ (fun hMA => ?_)
                            clear hK K
                            simp only [List.setIfInBounds_toArray, List.set_cons_zero, List.set_cons_succ]
                            refine takeU 146 (i := 24) (v := ?v5038) rfl rfl rfl (by kernel_rfl) (by kernel_rfl) (by kernel_rfl) (by kernel_rfl) (fun _ _ _ h => h) (by kernel_rfl) ?hy5038 hMA ?rest5038
                            case hy5038 => (intro w0 hSw; obtain ⟨s0, sH, s1, s2, s3, s4, s5⟩ := HF.out _ hSw.1; have sq := (nm_at HNMV.out hll hSw.2); first | (go_simp; done) | (go_simp; with_reducible rfl))
                            simp only [List.setIfInBounds_toArray, List.set_cons_zero, List.set_cons_succ]
                            refine lastU rfl rfl (by kernel_rfl) (by kernel_rfl) (fun K hK => ?_)
                            go_simp
                            refine hK.out undef _ ?_
                            clear hK K
                            refine Upto.done (by kernel_rfl) ?_ _
                            go_wp2_with fail
                            go_roundg mm
                            case measure => omega
                            case rel =>
                              have hse := Svg.set gP 3 wa (Value.slice pt' nl ct')
                              have hpf : (World.setCell wa ⟨gP, 3, none⟩ (Value.slice pt' nl ct')).heap[gP]? = some (.cells (prC (1 + (h : Int)) (.slice pD dl.length cD) (.slice pR rl.length cR) (Value.slice pt' nl ct')) 28 (0, 0)) := by simp [World.setCell, Array.getElem?_modify, hpa]
                              have hcf := hse.stays hca (by omega)
                              have how := own_ge HL.out.tv
                              have hgp := HGP.out
                              have hcb1 : gS < ((World.alloc w23 (.cells #[.string ⟨#[104, 97]⟩, .string ⟨#[104, 98]⟩, .string ⟨#[104, 99]⟩] 9))).heap.size := ((hs3.bel ((Bel.refl w23).alloc #[.string ⟨#[104, 97]⟩, .string ⟨#[104, 98]⟩, .string ⟨#[104, 99]⟩] 9))).lt
                              have hcb2 : wr.heap.size ≤ ((World.alloc w23 (.cells #[.string ⟨#[104, 97]⟩, .string ⟨#[104, 98]⟩, .string ⟨#[104, 99]⟩] 9))).heap.size := (hG507).size
                              have hR : Sub (oldM g0 gS gP gC w9.heap.size wr) (oldM g0 gS gP gC w9.heap.size (World.setCell wa ⟨gP, 3, none⟩ (Value.slice pt' nl ct'))) := ((oldM_sv hG508 (fun k hk => .inl hk)).trans (oldM_sv hsa (fun k hk => .inr (.inr (.inr (how k hk)))))).trans (oldM_sv hse (fun k hk => .inr (.inl hk)))
                              have hK1 : Sub (keepW w9.heap.size (Value.slice pt l.length ct) wr) (keepW w9.heap.size (Value.slice pt' nl ct') (World.setCell wa ⟨gP, 3, none⟩ (Value.slice pt' nl ct'))) := ((keepW_sv hG508 (by omega)).trans (keepW_app hsa hna)).trans (keepW_sv hse (by omega))
                              have hK2 : Sub (young ((World.alloc w23 (.cells #[.string ⟨#[104, 97]⟩, .string ⟨#[104, 98]⟩, .string ⟨#[104, 99]⟩] 9))).heap.size w24) (keepW w9.heap.size (Value.slice pt' nl ct') (World.setCell wa ⟨gP, 3, none⟩ (Value.slice pt' nl ct'))) := (((Bel.sub (Svg.young ((Svg.refl gS w24).trans (((Bel.refl w24).alloc #[.string nmv, .bool true, .int .i64 kp, .int .i64 (4 + kb), .int .i64 ((kk : Int) + ke * 4), .slice qb bl.length nb] 54).svg gS)) hcb1)).trans (young_keepW _ (by omega) (fun b hb => Nat.lt_of_lt_of_le (own_lt HL.out.tv b hb) hcb2))).trans (keepW_app hsa hna)).trans (keepW_sv hse (by omega))
                              have hnew : ∀ b, (Value.slice pt' nl ct').ownBlock = some b → w9.heap.size ≤ b := own_ge hoa
                              refine ⟨l ++ [(⟨⟨nmv, true, kp, 4 + kb, (kk : Int) + ke * 4, bl⟩, qb, nb⟩ : PT)], _, r2, rfl, Lib.hid ⟨hpf, hcf, hoa.sv hse (fun b hb e => by have := hnew b hb; omega), ?_, (((hs4.bel ((Bel.refl w24).alloc #[.string nmv, .bool true, .int .i64 kp, .int .i64 (4 + kb), .int .i64 ((kk : Int) + ke * 4), .slice qb bl.length nb] 54))).sv hsa (fun b hb => by have := how b hb; omega)).sv hse (fun b hb => by subst hb; omega), hnum.1, hnum.2.1, hnum.2.2.1, Nat.le_trans (Nat.le_trans (Nat.le_trans hnum.2.2.2.1 (hG508).size) hsa.size) hse.size, HL.out.ds.sub hR, HL.out.rs.sub hR, HL.out.ns.sub hR, HL.out.ms.sub hR, HL.out.sq⟩, Lib.hid ?_, Lib.hid (by have := HLN.out; rw [List.length_append, List.length_singleton]; omega), Lib.hid (Sv.bel hse (Sv.bel hsa (Svg.bel hG508 HBW.out (by omega)) (fun b hb => by have := how b hb; omega)) (fun b hb => by subst hb; omega)), Lib.hid (hse.stays ((hsa.block g0 (lt_of_heap ((hG508).stays HX0.out (by omega))) (fun e => by have := how g0 e; omega)).trans ((hG508).stays HX0.out (by omega))) (by omega))⟩
                              · intro y hy
                                rcases List.mem_append.1 hy with hy | hy
                                · exact (HL.out.tk y hy).sub hK1
                                · rw [List.mem_singleton.1 hy]
                                  exact ⟨isTsk_of (by rw [← HNMV.out]; exact hnames_ok _ hll) HKB.out.1 (by have := HKB.out.2; have := HH3.out; omega) (by have := HKB2.out; omega) (by have := HKB2.out; omega) (by have := HKB3.out; omega) (by rw [if_pos rfl]; have := HKB3.out; omega) (by have := body_ok (d := 2) (by decide) HGD.out re; rw [HBL.out] at this; exact this), hlb, heb.sub hK2⟩
                              · rw [← HE.out]
                                show _ = hdlsV C (1 + h) mm (l.map PT.t ++ [(hdlV C (1 + h) ((l.map PT.t).length - (1 + h)) r).1]) (hdlV C (1 + h) ((l.map PT.t).length - (1 + h)) r).2
                                unfold hdlV
                                rw [List.length_map, show (((1 + h : Nat) : Int)) = 1 + (h : Int) by omega, HKP.out]
                                dsimp only
                                rw [HKP2.out]
                                dsimp only
                                rw [HKP3.out]
                                dsimp only
                                rw [HBL.out, show l.length - (1 + h) = kk by have := HKK.out.1; omega, HNMV.out, List.map_append]
                                rfl
                          · go_simp
                            go_at_call 24
                            refine (blk_lit BAtI2 (by decide) HGD.out HL.out.sq HBL.out (HSC.out _ hG3) hs3).mono ?_
                            rintro e w24 ⟨qb, nb, rfl, hlb, heb, hv4, hs4⟩
                            have hG4 := hG3.trans hv4
                            have hvz4 := hv4.size
                            change w23.heap.size ≤ _ at hvz4
                            refine hK.out _ _ (Sv.mono hG4 (fun k hk => Or.inl hk)) (fun _ => ?_)
                            clear hK K
                            simp only [List.setIfInBounds_toArray, List.set_cons_zero, List.set_cons_succ]
                            refine oneU 124 (i := 2) rfl rfl (by kernel_rfl) (by kernel_rfl) (fun K hK => ?_)
                            go_simp
                            refine hK.out _ _ (Sv.mono (hG4.trans (((Bel.refl w24).alloc #[.string ⟨#[104, 97]⟩, .string ⟨#[104, 98]⟩, .string ⟨#[104, 99]⟩] 9).svg gS)) (fun k hk => Or.inl hk)) (fun hM509 => ?_)
                            clear hK K
                            simp only [List.setIfInBounds_toArray, List.set_cons_zero, List.set_cons_succ]
                            have hG509 := (hG4.trans (((Bel.refl w24).alloc #[.string ⟨#[104, 97]⟩, .string ⟨#[104, 98]⟩, .string ⟨#[104, 99]⟩] 9).svg gS))
                            have hz509 : ((World.alloc w24 (.cells #[.string ⟨#[104, 97]⟩, .string ⟨#[104, 98]⟩, .string ⟨#[104, 99]⟩] 9))).heap.size = w24.heap.size + 1 := World.size_alloc _ _
                            have ha509 := alloc_at (w := w24) (n := w24.heap.size) rfl (.cells #[.string ⟨#[104, 97]⟩, .string ⟨#[104, 98]⟩, .string ⟨#[104, 99]⟩] 9)
                            have hq509 : w24.heap.size ≠ gS ∧ wr.heap.size ≤ w24.heap.size := by have h1 : gS < (w24).heap.size := (hs4).lt; have h2 : wr.heap.size ≤ (w24).heap.size := (hG4).size; change gS < w24.heap.size at h1; change _ ≤ w24.heap.size at h2; omega
                            refine Upto.mono (U := (fun w' => Sv (fun b => b = gS ∨ (Value.slice pt l.length ct).ownBlock = some b) wr w' ∧ w'.heap[w24.heap.size]? = some (.cells #[.string ⟨#[104, 97]⟩, .string ⟨#[104, 98]⟩, .string ⟨#[104, 99]⟩] 9 (0, 0)))) (fun _ h => h.1) _ _ _ _ ?_
                            refine takeU 126 (i := 4) (v := ?v5039) rfl rfl rfl (by kernel_rfl) (by kernel_rfl) (by kernel_rfl) (by kernel_rfl) (fun _ _ _ h => h) (by kernel_rfl) ?hy5039 ⟨(Sv.mono hG509 (fun k hk => Or.inl hk)), ha509⟩ ?rest5039
                            case hy5039 => (intro w0 hSw; obtain ⟨s0, sH, s1, s2, s3, s4, s5⟩ := HF.out _ hSw.1; have sq := (nm_at HNMV.out hll hSw.2); first | (go_simp; done) | (go_simp; with_reducible rfl))
                            simp only [List.setIfInBounds_toArray, List.set_cons_zero, List.set_cons_succ]
                            refine takeU 127 (i := 5) (v := ?v5040) rfl rfl rfl (by kernel_rfl) (by kernel_rfl) (by kernel_rfl) (by kernel_rfl) (fun _ _ _ h => h) (by kernel_rfl) ?hy5040 ⟨(Sv.mono hG509 (fun k hk => Or.inl hk)), ha509⟩ ?rest5040
                            case hy5040 => (intro w0 hSw; obtain ⟨s0, sH, s1, s2, s3, s4, s5⟩ := HF.out _ hSw.1; have sq := (nm_at HNMV.out hll hSw.2); first | (go_simp; done) | (go_simp; with_reducible rfl))
                            simp only [List.setIfInBounds_toArray, List.set_cons_zero, List.set_cons_succ]
                            refine takeU 143 (i := 21) (v := ?v5041) rfl rfl rfl (by kernel_rfl) (by kernel_rfl) (by kernel_rfl) (by kernel_rfl) (fun _ _ _ h => h) (by kernel_rfl) ?hy5041 ⟨(Sv.mono hG509 (fun k hk => Or.inl hk)), ha509⟩ ?rest5041
                            case hy5041 => (intro w0 hSw; obtain ⟨s0, sH, s1, s2, s3, s4, s5⟩ := HF.out _ hSw.1; have sq := (nm_at HNMV.out hll hSw.2); first | (go_simp; done) | (go_simp; with_reducible rfl))
                            simp only [List.setIfInBounds_toArray, List.set_cons_zero, List.set_cons_succ]
                            refine oneU 144 (i := 22) rfl rfl (by kernel_rfl) (by kernel_rfl) (fun K hK => ?_)
                            go_simp
                            refine hK.out _ _ ⟨(Sv.mono (hG509.trans (((Bel.refl (World.alloc w24 (.cells #[.string ⟨#[104, 97]⟩, .string ⟨#[104, 98]⟩, .string ⟨#[104, 99]⟩] 9))).alloc #[.string nmv, .bool true, .int .i64 kp, .int .i64 (4 + kb), .int .i64 ((kk : Int) + ke * 4), .slice qb bl.length nb] 54).svg gS)) (fun k hk => Or.inl hk)), ((Bel.refl (World.alloc w24 (.cells #[.string ⟨#[104, 97]⟩, .string ⟨#[104, 98]⟩, .string ⟨#[104, 99]⟩] 9))).alloc #[.string nmv, .bool true, .int .i64 kp, .int .i64 (4 + kb), .int .i64 ((kk : Int) + ke * 4), .slice qb bl.length nb] 54).stays ha509⟩ (fun hM510 => ?_)
                            clear hK K
                            simp only [List.setIfInBounds_toArray, List.set_cons_zero, List.set_cons_succ]
                            have hG510 := (hG509.trans (((Bel.refl (World.alloc w24 (.cells #[.string ⟨#[104, 97]⟩, .string ⟨#[104, 98]⟩, .string ⟨#[104, 99]⟩] 9))).alloc #[.string nmv, .bool true, .int .i64 kp, .int .i64 (4 + kb), .int .i64 ((kk : Int) + ke * 4), .slice qb bl.length nb] 54).svg gS))
                            have hz510 : ((World.alloc (World.alloc w24 (.cells #[.string ⟨#[104, 97]⟩, .string ⟨#[104, 98]⟩, .string ⟨#[104, 99]⟩] 9)) (.cells #[.string nmv, .bool true, .int .i64 kp, .int .i64 (4 + kb), .int .i64 ((kk : Int) + ke * 4), .slice qb bl.length nb] 54))).heap.size = (w24.heap.size + 1) + 1 := by rw [World.size_alloc, hz509]
                            have ha510 := alloc_at (w := (World.alloc w24 (.cells #[.string ⟨#[104, 97]⟩, .string ⟨#[104, 98]⟩, .string ⟨#[104, 99]⟩] 9))) (n := (w24.heap.size + 1)) hz509 (.cells #[.string nmv, .bool true, .int .i64 kp, .int .i64 (4 + kb), .int .i64 ((kk : Int) + ke * 4), .slice qb bl.length nb] 54)
                            have hq510 : (w24.heap.size + 1) ≠ gS ∧ wr.heap.size ≤ (w24.heap.size + 1) := by have h1 : gS < ((World.alloc w24 (.cells #[.string ⟨#[104, 97]⟩, .string ⟨#[104, 98]⟩, .string ⟨#[104, 99]⟩] 9))).heap.size := ((hs4.bel ((Bel.refl w24).alloc #[.string ⟨#[104, 97]⟩, .string ⟨#[104, 98]⟩, .string ⟨#[104, 99]⟩] 9))).lt; have h2 : wr.heap.size ≤ ((World.alloc w24 (.cells #[.string ⟨#[104, 97]⟩, .string ⟨#[104, 98]⟩, .string ⟨#[104, 99]⟩] 9))).heap.size := (hG509).size; rw [hz509] at h1 h2; omega
                            refine oneU 145 (i := 23) rfl rfl (by kernel_rfl) (by kernel_rfl) (fun K hK => ?_)
                            have hrow := HL.out.tv.sv hG510 (fun b hb e => by have := own_ge HL.out.tv b hb; have := hnum; omega)
                            have hcs : w = w := rfl
                            obtain ⟨vx, wa, hrun, hoa, hsa, hna⟩ := one_more2 tskTy hrow (⟨⟨nmv, true, kp, 4 + kb, (kk : Int) + ke * 4, bl⟩, qb, nb⟩ : PT) (c := 1) ha510 rfl (by omega) (by have h2 := (hG510).size; have := hnum; omega)
                            obtain ⟨nl, hnl⟩ : ∃ nl, nl = (l ++ [(⟨⟨nmv, true, kp, 4 + kb, (kk : Int) + ke * 4, bl⟩, qb, nb⟩ : PT)]).length := ⟨_, rfl⟩
                            obtain ⟨pt', ct', hvx⟩ := row_form tskTy.len hoa hnl
                            subst hvx
                            have HNL9 := Lib.hid hnl
                            clear hnl
                            have hbk : ∀ b, b < wr.heap.size → (Value.slice pt l.length ct).ownBlock ≠ some b → wa.heap[b]? = ((World.alloc (World.alloc w24 (.cells #[.string ⟨#[104, 97]⟩, .string ⟨#[104, 98]⟩, .string ⟨#[104, 99]⟩] 9)) (.cells #[.string nmv, .bool true, .int .i64 kp, .int .i64 (4 + kb), .int .i64 ((kk : Int) + ke * 4), .slice qb bl.length nb] 54))).heap[b]? := fun b hb hn => hsa.block b (Nat.lt_of_lt_of_le hb (hG510).size) hn
                            have hpa := (hbk gP (by have := hnum; omega) (fun e => by have := own_ge HL.out.tv gP e; have := hnum; omega)).trans ((hG510).stays HL.out.p (by have := hnum; omega))
                            have hca := (hbk gC (by have := hnum; omega) (fun e => by have := own_ge HL.out.tv gC e; have := hnum; omega)).trans ((hG510).stays HL.out.c (by have := hnum; omega))
                            have hna2 := (hsa.block _ (lt_of_heap hM510.2) (fun e => by have := own_lt HL.out.tv _ e; have := hq509; omega)).trans hM510.2
                            have z3 : wa.cell? ⟨gP, 3, none⟩ = some (.slice pt l.length ct) := cell_of_heap hpa 3
                            have f3 := frozen_of_heap hpa 3
                            refine appU (.tmp 123) (.tmp 144) 26 rfl _ _ _ (by kernel_rfl) (by kernel_rfl) hrun ?_
                            refine hK.out _ _ ⟨(Sv.trans (Sv.mono hG510 (fun k hk => Or.inl hk)) (Sv.mono hsa (fun k hk => Or.inr hk))), hna2⟩ (fun hMA => ?_)
                            clear hK K
                            simp only [List.setIfInBounds_toArray, List.set_cons_zero, List.set_cons_succ]
                            refine takeU 146 (i := 24) (v := ?v5042) rfl rfl rfl (by kernel_rfl) (by kernel_rfl) (by kernel_rfl) (by kernel_rfl) (fun _ _ _ h => h) (by kernel_rfl) ?hy5042 hMA ?rest5042
                            case hy5042 => (intro w0 hSw; obtain ⟨s0, sH, s1, s2, s3, s4, s5⟩ := HF.out _ hSw.1; have sq := (nm_at HNMV.out hll hSw.2); first | (go_simp; done) | (go_simp; with_reducible rfl))
                            simp only [List.setIfInBounds_toArray, List.set_cons_zero, List.set_cons_succ]
                            refine lastU rfl rfl (by kernel_rfl) (by kernel_rfl) (fun K hK => ?_)
                            go_simp
                            refine hK.out undef _ ?_
                            clear hK K
                            refine Upto.done (by kernel_rfl) ?_ _
                            go_wp2_with fail
                            go_roundg mm
                            case measure => omega
                            case rel =>
                              have hse := Svg.set gP 3 wa (Value.slice pt' nl ct')
                              have hpf : (World.setCell wa ⟨gP, 3, none⟩ (Value.slice pt' nl ct')).heap[gP]? = some (.cells (prC (1 + (h : Int)) (.slice pD dl.length cD) (.slice pR rl.length cR) (Value.slice pt' nl ct')) 28 (0, 0)) := by simp [World.setCell, Array.getElem?_modify, hpa]
                              have hcf := hse.stays hca (by omega)
                              have how := own_ge HL.out.tv
                              have hgp := HGP.out
                              have hcb1 : gS < (w23).heap.size := (hs3).lt
                              have hcb2 : wr.heap.size ≤ (w23).heap.size := (hG3).size
                              have hR : Sub (oldM g0 gS gP gC w9.heap.size wr) (oldM g0 gS gP gC w9.heap.size (World.setCell wa ⟨gP, 3, none⟩ (Value.slice pt' nl ct'))) := ((oldM_sv hG510 (fun k hk => .inl hk)).trans (oldM_sv hsa (fun k hk => .inr (.inr (.inr (how k hk)))))).trans (oldM_sv hse (fun k hk => .inr (.inl hk)))
                              have hK1 : Sub (keepW w9.heap.size (Value.slice pt l.length ct) wr) (keepW w9.heap.size (Value.slice pt' nl ct') (World.setCell wa ⟨gP, 3, none⟩ (Value.slice pt' nl ct'))) := ((keepW_sv hG510 (by omega)).trans (keepW_app hsa hna)).trans (keepW_sv hse (by omega))
                              have hK2 : Sub (young (w23).heap.size w24) (keepW w9.heap.size (Value.slice pt' nl ct') (World.setCell wa ⟨gP, 3, none⟩ (Value.slice pt' nl ct'))) := (((Bel.sub (Svg.young (((Svg.refl gS w24).trans (((Bel.refl w24).alloc #[.string ⟨#[104, 97]⟩, .string ⟨#[104, 98]⟩, .string ⟨#[104, 99]⟩] 9).svg gS)).trans (((Bel.refl (World.alloc w24 (.cells #[.string ⟨#[104, 97]⟩, .string ⟨#[104, 98]⟩, .string ⟨#[104, 99]⟩] 9))).alloc #[.string nmv, .bool true, .int .i64 kp, .int .i64 (4 + kb), .int .i64 ((kk : Int) + ke * 4), .slice qb bl.length nb] 54).svg gS)) hcb1)).trans (young_keepW _ (by omega) (fun b hb => Nat.lt_of_lt_of_le (own_lt HL.out.tv b hb) hcb2))).trans (keepW_app hsa hna)).trans (keepW_sv hse (by omega))
                              have hnew : ∀ b, (Value.slice pt' nl ct').ownBlock = some b → w9.heap.size ≤ b := own_ge hoa
                              refine ⟨l ++ [(⟨⟨nmv, true, kp, 4 + kb, (kk : Int) + ke * 4, bl⟩, qb, nb⟩ : PT)], _, r2, rfl, Lib.hid ⟨hpf, hcf, hoa.sv hse (fun b hb e => by have := hnew b hb; omega), ?_, ((((hs4.bel ((Bel.refl w24).alloc #[.string ⟨#[104, 97]⟩, .string ⟨#[104, 98]⟩, .string ⟨#[104, 99]⟩] 9)).bel ((Bel.refl (World.alloc w24 (.cells #[.string ⟨#[104, 97]⟩, .string ⟨#[104, 98]⟩, .string ⟨#[104, 99]⟩] 9))).alloc #[.string nmv, .bool true, .int .i64 kp, .int .i64 (4 + kb), .int .i64 ((kk : Int) + ke * 4), .slice qb bl.length nb] 54))).sv hsa (fun b hb => by have := how b hb; omega)).sv hse (fun b hb => by subst hb; omega), hnum.1, hnum.2.1, hnum.2.2.1, Nat.le_trans (Nat.le_trans (Nat.le_trans hnum.2.2.2.1 (hG510).size) hsa.size) hse.size, HL.out.ds.sub hR, HL.out.rs.sub hR, HL.out.ns.sub hR, HL.out.ms.sub hR, HL.out.sq⟩, Lib.hid ?_, Lib.hid (by have := HLN.out; rw [List.length_append, List.length_singleton]; omega), Lib.hid (Sv.bel hse (Sv.bel hsa (Svg.bel hG510 HBW.out (by omega)) (fun b hb => by have := how b hb; omega)) (fun b hb => by subst hb; omega)), Lib.hid (hse.stays ((hsa.block g0 (lt_of_heap ((hG510).stays HX0.out (by omega))) (fun e => by have := how g0 e; omega)).trans ((hG510).stays HX0.out (by omega))) (by omega))⟩
                              · intro y hy
                                rcases List.mem_append.1 hy with hy | hy
                                · exact (HL.out.tk y hy).sub hK1
                                · rw [List.mem_singleton.1 hy]
                                  exact ⟨isTsk_of (by rw [← HNMV.out]; exact hnames_ok _ hll) HKB.out.1 (by have := HKB.out.2; have := HH3.out; omega) (by have := HKB2.out; omega) (by have := HKB2.out; omega) (by have := HKB3.out; omega) (by rw [if_pos rfl]; have := HKB3.out; omega) (by have := body_ok (d := 2) (by decide) HGD.out re; rw [HBL.out] at this; exact this), hlb, heb.sub hK2⟩
                              · rw [← HE.out]
                                show _ = hdlsV C (1 + h) mm (l.map PT.t ++ [(hdlV C (1 + h) ((l.map PT.t).length - (1 + h)) r).1]) (hdlV C (1 + h) ((l.map PT.t).length - (1 + h)) r).2
                                unfold hdlV
                                rw [List.length_map, show (((1 + h : Nat) : Int)) = 1 + (h : Int) by omega, HKP.out]
                                dsimp only
                                rw [HKP2.out]
                                dsimp only
                                rw [HKP3.out]
                                dsimp only
                                rw [HBL.out, show l.length - (1 + h) = kk by have := HKK.out.1; omega, HNMV.out, List.map_append]
                                rfl
              | succ mm =>
                have hlt : ((l.length : Int) < 1 + (h : Int)) = True := eq_true (by have := HLN.out; omega)
                go_upto_region 21 with (fail)
                clear k0 hlt
                have hnum : gS < gP ∧ gP < gC ∧ gC < w9.heap.size ∧ w9.heap.size ≤ wr.heap.size ∧ l.length < 3 := by have h1 := HL.out.sp; have h2 := HL.out.pc; have h3 := HL.out.cB; have h4 := HL.out.bw; have h5 := HLN.out; have h6 := HH3.out; omega
                obtain ⟨kp, r1, hkp⟩ : ∃ kp r1, nx r 3 = (kp, r1) := ⟨_, _, rfl⟩
                have hkb := nx_bd r (n := 3) (by omega)
                rw [hkp] at hkb
                obtain ⟨bl, r2, hbl⟩ : ∃ bl r2, bodyV 3 C r1 = (bl, r2) := ⟨_, _, rfl⟩
                have HKP := Lib.hid hkp
                have HKB := Lib.hid hkb
                have HBL := Lib.hid hbl
                have hw2 : IntKind.i64.wrap (1 + kp) = 1 + kp := IntWalk.i64_in _ (by constructor <;> omega)
                have hll : l.length < 3 := hnum.2.2.2.2
                have hi0 : (0 : Int) ≤ (l.length : Int) := by omega
                have hi1 : (l.length : Int) < 3 := by omega
                obtain ⟨nmv, hnmv⟩ : ∃ v, tnames.getD l.length ⟨#[]⟩ = v := ⟨_, rfl⟩
                have HNMV := Lib.hid hnmv
                have HF : Hid (∀ W', Sv (fun b => b = gS ∨ (Value.slice pt l.length ct).ownBlock = some b) wr W' → W'.cell? ⟨gP, 3, none⟩ = some (.slice pt l.length ct) ∧ W'.cell? ⟨gC, 0, none⟩ = some (.slice pN lD cN) ∧ W'.cell? ⟨gC, 1, none⟩ = some (.slice pM lR cM) ∧ W'.cell? ⟨gC, 2, none⟩ = some (.int .i64 0) ∧ W'.cell? ⟨gC, 3, none⟩ = some (.slice none 0 0) ∧ W'.cell? ⟨gC, 4, none⟩ = some (.bool all)) := Lib.hid (fun W' hv => by
                  have h1 := (hv.block gP (by omega) (by rintro (e | e); omega; have := own_ge HL.out.tv gP e; omega)).trans HL.out.p
                  have h2 := (hv.block gC (by omega) (by rintro (e | e); omega; have := own_ge HL.out.tv gC e; omega)).trans HL.out.c
                  exact ⟨cell_of_heap h1 3, cell_of_heap h2 0, cell_of_heap h2 1, cell_of_heap h2 2, cell_of_heap h2 3, cell_of_heap h2 4⟩)
                have HSC : Hid (∀ W', Svg gS wr W' → ScAt gS W' pN pM none C) := Lib.hid (fun W' hv => by
                  have h1 : Sub (oldM g0 gS gP gC w9.heap.size wr) (mask gS W') := (oldM_sv hv (fun k hk => .inl hk)).trans (maskP_sub2 W' (fun k hk => by simp only [beq_iff_eq] at hk; simp [hk]))
                  have hq := HL.out.sq
                  exact ⟨HL.out.ns.sub h1, HL.out.ms.sub h1, (by rw [hq.h]; exact fun j x hj => by cases hj), by have := HLE.out; rw [← hq.d]; omega, by have := HLE.out; rw [← hq.r]; omega, by rw [hq.h]; exact Nat.zero_le _, by rw [hq.f]; exact Nat.zero_le _⟩)
                clear hkp hkb hnmv hbl
                have hw3 : IntKind.i64.wrap ((l.length : Int) + 1) = (l.length : Int) + 1 := IntWalk.i64_in _ (by constructor <;> omega)
                have hG0 : Svg gS wr (World.drew wr) := (Bel.refl wr).drew.svg gS
                refine Upto.begin (T := Sv (fun b => b = gS ∨ (Value.slice pt l.length ct).ownBlock = some b) wr) (z := 17) (by kernel_rfl) ?_
                refine takeU 93 (i := 0) (v := ?v5043) rfl rfl rfl (by kernel_rfl) (by kernel_rfl) (by kernel_rfl) (by kernel_rfl) (fun _ _ _ h => h) (by kernel_rfl) ?hy5043 (Sv.mono hG0 (fun k hk => Or.inl hk)) ?rest5043
                case hy5043 => (intro w0 hSw; obtain ⟨s0, s1, s2, s3, s4, s5⟩ := HF.out _ hSw; first | (go_simp; done) | (go_simp; with_reducible rfl))
                simp only [List.setIfInBounds_toArray, List.set_cons_zero, List.set_cons_succ]
                refine takeU 94 (i := 1) (v := ?v5044) rfl rfl rfl (by kernel_rfl) (by kernel_rfl) (by kernel_rfl) (by kernel_rfl) (fun _ _ _ h => h) (by kernel_rfl) ?hy5044 (Sv.mono hG0 (fun k hk => Or.inl hk)) ?rest5044
                case hy5044 => (intro w0 hSw; obtain ⟨s0, s1, s2, s3, s4, s5⟩ := HF.out _ hSw; first | (go_simp; done) | (go_simp; with_reducible rfl))
                simp only [List.setIfInBounds_toArray, List.set_cons_zero, List.set_cons_succ]
                refine takeU 96 (i := 3) (v := ?v5045) rfl rfl rfl (by kernel_rfl) (by kernel_rfl) (by kernel_rfl) (by kernel_rfl) (fun _ _ _ h => h) (by kernel_rfl) ?hy5045 (Sv.mono hG0 (fun k hk => Or.inl hk)) ?rest5045
                case hy5045 => (intro w0 hSw; obtain ⟨s0, s1, s2, s3, s4, s5⟩ := HF.out _ hSw; first | (go_simp; done) | (go_simp; with_reducible rfl))
                simp only [List.setIfInBounds_toArray, List.set_cons_zero, List.set_cons_succ]
                refine takeU 99 (i := 6) (v := ?v5046) rfl rfl rfl (by kernel_rfl) (by kernel_rfl) (by kernel_rfl) (by kernel_rfl) (fun _ _ _ h => h) (by kernel_rfl) ?hy5046 (Sv.mono hG0 (fun k hk => Or.inl hk)) ?rest5046
                case hy5046 => (intro w0 hSw; obtain ⟨s0, s1, s2, s3, s4, s5⟩ := HF.out _ hSw; first | (go_simp; done) | (go_simp; with_reducible rfl))
                simp only [List.setIfInBounds_toArray, List.set_cons_zero, List.set_cons_succ]
                refine takeU 100 (i := 7) (v := ?v5047) rfl rfl rfl (by kernel_rfl) (by kernel_rfl) (by kernel_rfl) (by kernel_rfl) (fun _ _ _ h => h) (by kernel_rfl) ?hy5047 (Sv.mono hG0 (fun k hk => Or.inl hk)) ?rest5047
                case hy5047 => (intro w0 hSw; obtain ⟨s0, s1, s2, s3, s4, s5⟩ := HF.out _ hSw; first | (go_simp; done) | (go_simp; with_reducible rfl))
                simp only [List.setIfInBounds_toArray, List.set_cons_zero, List.set_cons_succ]
                refine takeU 103 (i := 10) (v := ?v5048) rfl rfl rfl (by kernel_rfl) (by kernel_rfl) (by kernel_rfl) (by kernel_rfl) (fun _ _ _ h => h) (by kernel_rfl) ?hy5048 (Sv.mono hG0 (fun k hk => Or.inl hk)) ?rest5048
                case hy5048 => (intro w0 hSw; obtain ⟨s0, s1, s2, s3, s4, s5⟩ := HF.out _ hSw; first | (go_simp; done) | (go_simp; with_reducible rfl))
                simp only [List.setIfInBounds_toArray, List.set_cons_zero, List.set_cons_succ]
                refine takeU 104 (i := 11) (v := ?v5049) rfl rfl rfl (by kernel_rfl) (by kernel_rfl) (by kernel_rfl) (by kernel_rfl) (fun _ _ _ h => h) (by kernel_rfl) ?hy5049 (Sv.mono hG0 (fun k hk => Or.inl hk)) ?rest5049
                case hy5049 => (intro w0 hSw; obtain ⟨s0, s1, s2, s3, s4, s5⟩ := HF.out _ hSw; first | (go_simp; done) | (go_simp; with_reducible rfl))
                simp only [List.setIfInBounds_toArray, List.set_cons_zero, List.set_cons_succ]
                refine twoU 95 101 (i1 := 2) (i2 := 8) rfl rfl rfl rfl (by kernel_rfl) (by kernel_rfl) (by kernel_rfl) (fun K hK => ?_) (fun K hK => ?_)
                · go_simp
                  refine hK.out _ _ (Sv.mono (hG0.trans (((Bel.refl (World.drew wr)).alloc #[.string ⟨#[116, 97]⟩, .string ⟨#[116, 98]⟩, .string ⟨#[116, 99]⟩] 9).svg gS)) (fun k hk => Or.inl hk)) (fun hM511 => ?_)
                  clear hK K
                  simp only [List.setIfInBounds_toArray, List.set_cons_zero, List.set_cons_succ]
                  have hG511 := (hG0.trans (((Bel.refl (World.drew wr)).alloc #[.string ⟨#[116, 97]⟩, .string ⟨#[116, 98]⟩, .string ⟨#[116, 99]⟩] 9).svg gS))
                  have hz511 : ((World.alloc (World.drew wr) (.cells #[.string ⟨#[116, 97]⟩, .string ⟨#[116, 98]⟩, .string ⟨#[116, 99]⟩] 9))).heap.size = wr.heap.size + 1 := World.size_alloc _ _
                  have ha511 := alloc_at (w := (World.drew wr)) (n := wr.heap.size) rfl (.cells #[.string ⟨#[116, 97]⟩, .string ⟨#[116, 98]⟩, .string ⟨#[116, 99]⟩] 9)
                  have hq511 : wr.heap.size ≠ gS ∧ wr.heap.size ≤ wr.heap.size := by have h1 : gS < ((World.drew wr)).heap.size := ((HL.out.src.bel (Bel.refl wr).drew)).lt; have h2 : wr.heap.size ≤ ((World.drew wr)).heap.size := (hG0).size; change gS < wr.heap.size at h1; change _ ≤ wr.heap.size at h2; omega
                  refine Upto.mono (U := (fun w' => Sv (fun b => b = gS ∨ (Value.slice pt l.length ct).ownBlock = some b) wr w' ∧ w'.heap[wr.heap.size]? = some (.cells #[.string ⟨#[116, 97]⟩, .string ⟨#[116, 98]⟩, .string ⟨#[116, 99]⟩] 9 (0, 0)))) (fun _ h => h.1) _ _ _ _ ?_
                  refine takeU 97 (i := 4) (v := ?v5050) rfl rfl rfl (by kernel_rfl) (by kernel_rfl) (by kernel_rfl) (by kernel_rfl) (fun _ _ _ h => h) (by kernel_rfl) ?hy5050 ⟨(Sv.mono hG511 (fun k hk => Or.inl hk)), ha511⟩ ?rest5050
                  case hy5050 => (intro w0 hSw; obtain ⟨s0, s1, s2, s3, s4, s5⟩ := HF.out _ hSw.1; have sq := (nm_at HNMV.out hll hSw.2); first | (go_simp; done) | (go_simp; with_reducible rfl))
                  simp only [List.setIfInBounds_toArray, List.set_cons_zero, List.set_cons_succ]
                  refine takeU 98 (i := 5) (v := ?v5051) rfl rfl rfl (by kernel_rfl) (by kernel_rfl) (by kernel_rfl) (by kernel_rfl) (fun _ _ _ h => h) (by kernel_rfl) ?hy5051 ⟨(Sv.mono hG511 (fun k hk => Or.inl hk)), ha511⟩ ?rest5051
                  case hy5051 => (intro w0 hSw; obtain ⟨s0, s1, s2, s3, s4, s5⟩ := HF.out _ hSw.1; have sq := (nm_at HNMV.out hll hSw.2); first | (go_simp; done) | (go_simp; with_reducible rfl))
                  simp only [List.setIfInBounds_toArray, List.set_cons_zero, List.set_cons_succ]
                  refine oneU 101 (i := 8) rfl rfl (by kernel_rfl) (by kernel_rfl) (fun K hK => ?_)
                  go_simp
                  go_at_call 21
                  refine (next_lit HKP.out (by decide) _ ((HL.out.src.bel (Bel.refl wr).drew).bel ((Bel.refl (World.drew wr)).alloc #[.string ⟨#[116, 97]⟩, .string ⟨#[116, 98]⟩, .string ⟨#[116, 99]⟩] 9))).mono ?_
                  rintro e w21 ⟨rfl, hv1, hs1⟩
                  have hG1 := hG511.trans hv1
                  have hvz1 := hv1.size
                  rw [hz511] at hvz1
                  have hN1 := hv1.stays ha511 hq511.1
                  refine hK.out _ _ ⟨(Sv.mono hG1 (fun k hk => Or.inl hk)), hN1⟩ (fun _ => ?_)
                  clear hK K
                  simp only [List.setIfInBounds_toArray, List.set_cons_zero, List.set_cons_succ]
                  refine takeU 102 (i := 9) (v := ?v5052) rfl rfl rfl (by kernel_rfl) (by kernel_rfl) (by kernel_rfl) (by kernel_rfl) (fun _ _ _ h => h) (by kernel_rfl) ?hy5052 ⟨(Sv.mono hG1 (fun k hk => Or.inl hk)), hN1⟩ ?rest5052
                  case hy5052 => (intro w0 hSw; obtain ⟨s0, s1, s2, s3, s4, s5⟩ := HF.out _ hSw.1; have sq := (nm_at HNMV.out hll hSw.2); first | (go_simp; done) | (go_simp; with_reducible rfl))
                  simp only [List.setIfInBounds_toArray, List.set_cons_zero, List.set_cons_succ]
                  refine oneU 105 (i := 12) rfl rfl (by kernel_rfl) (by kernel_rfl) (fun K hK => ?_)
                  go_simp
                  go_at_call 24
                  refine (blk_lit BAtI3 (by decide) HGD.out HL.out.sq HBL.out (HSC.out _ hG1) hs1).mono ?_
                  rintro e w22 ⟨qb, nb, rfl, hlb, heb, hv2, hs2⟩
                  have hG2 := hG1.trans hv2
                  have hvz2 := hv2.size
                  change w21.heap.size ≤ _ at hvz2
                  have hN2 := hv2.stays hN1 hq511.1
                  refine hK.out _ _ ⟨(Sv.mono hG2 (fun k hk => Or.inl hk)), hN2⟩ (fun _ => ?_)
                  clear hK K
                  simp only [List.setIfInBounds_toArray, List.set_cons_zero, List.set_cons_succ]
                  refine takeU 106 (i := 13) (v := ?v5053) rfl rfl rfl (by kernel_rfl) (by kernel_rfl) (by kernel_rfl) (by kernel_rfl) (fun _ _ _ h => h) (by kernel_rfl) ?hy5053 ⟨(Sv.mono hG2 (fun k hk => Or.inl hk)), hN2⟩ ?rest5053
                  case hy5053 => (intro w0 hSw; obtain ⟨s0, s1, s2, s3, s4, s5⟩ := HF.out _ hSw.1; have sq := (nm_at HNMV.out hll hSw.2); first | (go_simp; done) | (go_simp; with_reducible rfl))
                  simp only [List.setIfInBounds_toArray, List.set_cons_zero, List.set_cons_succ]
                  refine oneU 107 (i := 14) rfl rfl (by kernel_rfl) (by kernel_rfl) (fun K hK => ?_)
                  go_simp
                  refine hK.out _ _ ⟨(Sv.mono (hG2.trans (((Bel.refl w22).alloc #[.string nmv, .bool false, .int .i64 (l.length : Int), .int .i64 (1 + kp), .int .i64 0, .slice qb bl.length nb] 54).svg gS)) (fun k hk => Or.inl hk)), ((Bel.refl w22).alloc #[.string nmv, .bool false, .int .i64 (l.length : Int), .int .i64 (1 + kp), .int .i64 0, .slice qb bl.length nb] 54).stays hN2⟩ (fun hM512 => ?_)
                  clear hK K
                  simp only [List.setIfInBounds_toArray, List.set_cons_zero, List.set_cons_succ]
                  have hG512 := (hG2.trans (((Bel.refl w22).alloc #[.string nmv, .bool false, .int .i64 (l.length : Int), .int .i64 (1 + kp), .int .i64 0, .slice qb bl.length nb] 54).svg gS))
                  have hz512 : ((World.alloc w22 (.cells #[.string nmv, .bool false, .int .i64 (l.length : Int), .int .i64 (1 + kp), .int .i64 0, .slice qb bl.length nb] 54))).heap.size = w22.heap.size + 1 := World.size_alloc _ _
                  have ha512 := alloc_at (w := w22) (n := w22.heap.size) rfl (.cells #[.string nmv, .bool false, .int .i64 (l.length : Int), .int .i64 (1 + kp), .int .i64 0, .slice qb bl.length nb] 54)
                  have hq512 : w22.heap.size ≠ gS ∧ wr.heap.size ≤ w22.heap.size := by have h1 : gS < (w22).heap.size := (hs2).lt; have h2 : wr.heap.size ≤ (w22).heap.size := (hG2).size; change gS < w22.heap.size at h1; change _ ≤ w22.heap.size at h2; omega
                  refine oneU 108 (i := 15) rfl rfl (by kernel_rfl) (by kernel_rfl) (fun K hK => ?_)
                  have hrow := HL.out.tv.sv hG512 (fun b hb e => by have := own_ge HL.out.tv b hb; have := hnum; omega)
                  have hcs : w = w := rfl
                  obtain ⟨vx, wa, hrun, hoa, hsa, hna⟩ := one_more2 tskTy hrow (⟨⟨nmv, false, (l.length : Int), 1 + kp, 0, bl⟩, qb, nb⟩ : PT) (c := 1) ha512 rfl (by omega) (by have h2 := (hG512).size; have := hnum; omega)
                  obtain ⟨nl, hnl⟩ : ∃ nl, nl = (l ++ [(⟨⟨nmv, false, (l.length : Int), 1 + kp, 0, bl⟩, qb, nb⟩ : PT)]).length := ⟨_, rfl⟩
                  obtain ⟨pt', ct', hvx⟩ := row_form tskTy.len hoa hnl
                  subst hvx
                  have HNL9 := Lib.hid hnl
                  clear hnl
                  have hbk : ∀ b, b < wr.heap.size → (Value.slice pt l.length ct).ownBlock ≠ some b → wa.heap[b]? = ((World.alloc w22 (.cells #[.string nmv, .bool false, .int .i64 (l.length : Int), .int .i64 (1 + kp), .int .i64 0, .slice qb bl.length nb] 54))).heap[b]? := fun b hb hn => hsa.block b (Nat.lt_of_lt_of_le hb (hG512).size) hn
                  have hpa := (hbk gP (by have := hnum; omega) (fun e => by have := own_ge HL.out.tv gP e; have := hnum; omega)).trans ((hG512).stays HL.out.p (by have := hnum; omega))
                  have hca := (hbk gC (by have := hnum; omega) (fun e => by have := own_ge HL.out.tv gC e; have := hnum; omega)).trans ((hG512).stays HL.out.c (by have := hnum; omega))
                  have hna2 := (hsa.block _ (lt_of_heap hM512.2) (fun e => by have := own_lt HL.out.tv _ e; have := hq511; omega)).trans hM512.2
                  have z3 : wa.cell? ⟨gP, 3, none⟩ = some (.slice pt l.length ct) := cell_of_heap hpa 3
                  have f3 := frozen_of_heap hpa 3
                  refine appU (.tmp 94) (.tmp 107) 26 rfl _ _ _ (by kernel_rfl) (by kernel_rfl) hrun ?_
                  refine hK.out _ _ ⟨(Sv.trans (Sv.mono hG512 (fun k hk => Or.inl hk)) (Sv.mono hsa (fun k hk => Or.inr hk))), hna2⟩ (fun hMA => ?_)
                  clear hK K
                  simp only [List.setIfInBounds_toArray, List.set_cons_zero, List.set_cons_succ]
                  refine takeU 109 (i := 16) (v := ?v5054) rfl rfl rfl (by kernel_rfl) (by kernel_rfl) (by kernel_rfl) (by kernel_rfl) (fun _ _ _ h => h) (by kernel_rfl) ?hy5054 hMA ?rest5054
                  case hy5054 => (intro w0 hSw; obtain ⟨s0, s1, s2, s3, s4, s5⟩ := HF.out _ hSw.1; have sq := (nm_at HNMV.out hll hSw.2); first | (go_simp; done) | (go_simp; with_reducible rfl))
                  simp only [List.setIfInBounds_toArray, List.set_cons_zero, List.set_cons_succ]
                  refine lastU rfl rfl (by kernel_rfl) (by kernel_rfl) (fun K hK => ?_)
                  go_simp
                  refine hK.out undef _ ?_
                  clear hK K
                  refine Upto.done (by kernel_rfl) ?_ _
                  go_wp2_with fail
                  go_roundg mm
                  case measure => omega
                  case rel =>
                    have hse := Svg.set gP 3 wa (Value.slice pt' nl ct')
                    have hpf : (World.setCell wa ⟨gP, 3, none⟩ (Value.slice pt' nl ct')).heap[gP]? = some (.cells (prC (1 + (h : Int)) (.slice pD dl.length cD) (.slice pR rl.length cR) (Value.slice pt' nl ct')) 28 (0, 0)) := by simp [World.setCell, Array.getElem?_modify, hpa]
                    have hcf := hse.stays hca (by omega)
                    have how := own_ge HL.out.tv
                    have hgp := HGP.out
                    have hcb1 : gS < (w21).heap.size := (hs1).lt
                    have hcb2 : wr.heap.size ≤ (w21).heap.size := (hG1).size
                    have hR : Sub (oldM g0 gS gP gC w9.heap.size wr) (oldM g0 gS gP gC w9.heap.size (World.setCell wa ⟨gP, 3, none⟩ (Value.slice pt' nl ct'))) := ((oldM_sv hG512 (fun k hk => .inl hk)).trans (oldM_sv hsa (fun k hk => .inr (.inr (.inr (how k hk)))))).trans (oldM_sv hse (fun k hk => .inr (.inl hk)))
                    have hK1 : Sub (keepW w9.heap.size (Value.slice pt l.length ct) wr) (keepW w9.heap.size (Value.slice pt' nl ct') (World.setCell wa ⟨gP, 3, none⟩ (Value.slice pt' nl ct'))) := ((keepW_sv hG512 (by omega)).trans (keepW_app hsa hna)).trans (keepW_sv hse (by omega))
                    have hK2 : Sub (young (w21).heap.size w22) (keepW w9.heap.size (Value.slice pt' nl ct') (World.setCell wa ⟨gP, 3, none⟩ (Value.slice pt' nl ct'))) := (((Bel.sub (Svg.young ((Svg.refl gS w22).trans (((Bel.refl w22).alloc #[.string nmv, .bool false, .int .i64 (l.length : Int), .int .i64 (1 + kp), .int .i64 0, .slice qb bl.length nb] 54).svg gS)) hcb1)).trans (young_keepW _ (by omega) (fun b hb => Nat.lt_of_lt_of_le (own_lt HL.out.tv b hb) hcb2))).trans (keepW_app hsa hna)).trans (keepW_sv hse (by omega))
                    have hnew : ∀ b, (Value.slice pt' nl ct').ownBlock = some b → w9.heap.size ≤ b := own_ge hoa
                    refine ⟨l ++ [(⟨⟨nmv, false, (l.length : Int), 1 + kp, 0, bl⟩, qb, nb⟩ : PT)], _, r2, by rw [List.length_append, List.length_singleton]; rfl, Lib.hid ⟨hpf, hcf, hoa.sv hse (fun b hb e => by have := hnew b hb; omega), ?_, (((hs2.bel ((Bel.refl w22).alloc #[.string nmv, .bool false, .int .i64 (l.length : Int), .int .i64 (1 + kp), .int .i64 0, .slice qb bl.length nb] 54))).sv hsa (fun b hb => by have := how b hb; omega)).sv hse (fun b hb => by subst hb; omega), hnum.1, hnum.2.1, hnum.2.2.1, Nat.le_trans (Nat.le_trans (Nat.le_trans hnum.2.2.2.1 (hG512).size) hsa.size) hse.size, HL.out.ds.sub hR, HL.out.rs.sub hR, HL.out.ns.sub hR, HL.out.ms.sub hR, HL.out.sq⟩, Lib.hid ?_, Lib.hid (by have := HLN.out; rw [List.length_append, List.length_singleton]; omega), Lib.hid (Sv.bel hse (Sv.bel hsa (Svg.bel hG512 HBW.out (by omega)) (fun b hb => by have := how b hb; omega)) (fun b hb => by subst hb; omega)), Lib.hid (hse.stays ((hsa.block g0 (lt_of_heap ((hG512).stays HX0.out (by omega))) (fun e => by have := how g0 e; omega)).trans ((hG512).stays HX0.out (by omega))) (by omega))⟩
                    · intro y hy
                      rcases List.mem_append.1 hy with hy | hy
                      · exact (HL.out.tk y hy).sub hK1
                      · rw [List.mem_singleton.1 hy]
                        exact ⟨isTsk_of (by rw [← HNMV.out]; exact tnames_ok _ hll) (by omega) (by omega) (by have := HKB.out; omega) (by have := HKB.out; omega) (by omega) (by rw [if_neg (by decide)]; omega) (by have := body_ok (d := 3) (by decide) HGD.out r1; rw [HBL.out] at this; exact this), hlb, heb.sub hK2⟩
                    · rw [← HE.out]
                      show _ = tsksV C mm (l.map PT.t ++ [(tskV0 C (l.map PT.t).length r).1]) (tskV0 C (l.map PT.t).length r).2
                      unfold tskV0
                      rw [List.length_map, HKP.out]
                      dsimp only
                      rw [HBL.out, HNMV.out, List.map_append]
                      rfl
                · go_simp
                  go_at_call 21
                  refine (next_lit HKP.out (by decide) _ (HL.out.src.bel (Bel.refl wr).drew)).mono ?_
                  rintro e w21 ⟨rfl, hv1, hs1⟩
                  have hG1 := hG0.trans hv1
                  have hvz1 := hv1.size
                  change wr.heap.size ≤ _ at hvz1
                  refine hK.out _ _ (Sv.mono hG1 (fun k hk => Or.inl hk)) (fun _ => ?_)
                  clear hK K
                  simp only [List.setIfInBounds_toArray, List.set_cons_zero, List.set_cons_succ]
                  refine takeU 102 (i := 9) (v := ?v5055) rfl rfl rfl (by kernel_rfl) (by kernel_rfl) (by kernel_rfl) (by kernel_rfl) (fun _ _ _ h => h) (by kernel_rfl) ?hy5055 (Sv.mono hG1 (fun k hk => Or.inl hk)) ?rest5055
                  case hy5055 => (intro w0 hSw; obtain ⟨s0, s1, s2, s3, s4, s5⟩ := HF.out _ hSw; first | (go_simp; done) | (go_simp; with_reducible rfl))
                  simp only [List.setIfInBounds_toArray, List.set_cons_zero, List.set_cons_succ]
                  refine twoU 95 105 (i1 := 2) (i2 := 12) rfl rfl rfl rfl (by kernel_rfl) (by kernel_rfl) (by kernel_rfl) (fun K hK => ?_) (fun K hK => ?_)
                  · go_simp
                    refine hK.out _ _ (Sv.mono (hG1.trans (((Bel.refl w21).alloc #[.string ⟨#[116, 97]⟩, .string ⟨#[116, 98]⟩, .string ⟨#[116, 99]⟩] 9).svg gS)) (fun k hk => Or.inl hk)) (fun hM513 => ?_)
                    clear hK K
                    simp only [List.setIfInBounds_toArray, List.set_cons_zero, List.set_cons_succ]
                    have hG513 := (hG1.trans (((Bel.refl w21).alloc #[.string ⟨#[116, 97]⟩, .string ⟨#[116, 98]⟩, .string ⟨#[116, 99]⟩] 9).svg gS))
                    have hz513 : ((World.alloc w21 (.cells #[.string ⟨#[116, 97]⟩, .string ⟨#[116, 98]⟩, .string ⟨#[116, 99]⟩] 9))).heap.size = w21.heap.size + 1 := World.size_alloc _ _
                    have ha513 := alloc_at (w := w21) (n := w21.heap.size) rfl (.cells #[.string ⟨#[116, 97]⟩, .string ⟨#[116, 98]⟩, .string ⟨#[116, 99]⟩] 9)
                    have hq513 : w21.heap.size ≠ gS ∧ wr.heap.size ≤ w21.heap.size := by have h1 : gS < (w21).heap.size := (hs1).lt; have h2 : wr.heap.size ≤ (w21).heap.size := (hG1).size; change gS < w21.heap.size at h1; change _ ≤ w21.heap.size at h2; omega
                    refine Upto.mono (U := (fun w' => Sv (fun b => b = gS ∨ (Value.slice pt l.length ct).ownBlock = some b) wr w' ∧ w'.heap[w21.heap.size]? = some (.cells #[.string ⟨#[116, 97]⟩, .string ⟨#[116, 98]⟩, .string ⟨#[116, 99]⟩] 9 (0, 0)))) (fun _ h => h.1) _ _ _ _ ?_
                    refine takeU 97 (i := 4) (v := ?v5056) rfl rfl rfl (by kernel_rfl) (by kernel_rfl) (by kernel_rfl) (by kernel_rfl) (fun _ _ _ h => h) (by kernel_rfl) ?hy5056 ⟨(Sv.mono hG513 (fun k hk => Or.inl hk)), ha513⟩ ?rest5056
                    case hy5056 => (intro w0 hSw; obtain ⟨s0, s1, s2, s3, s4, s5⟩ := HF.out _ hSw.1; have sq := (nm_at HNMV.out hll hSw.2); first | (go_simp; done) | (go_simp; with_reducible rfl))
                    simp only [List.setIfInBounds_toArray, List.set_cons_zero, List.set_cons_succ]
                    refine takeU 98 (i := 5) (v := ?v5057) rfl rfl rfl (by kernel_rfl) (by kernel_rfl) (by kernel_rfl) (by kernel_rfl) (fun _ _ _ h => h) (by kernel_rfl) ?hy5057 ⟨(Sv.mono hG513 (fun k hk => Or.inl hk)), ha513⟩ ?rest5057
                    case hy5057 => (intro w0 hSw; obtain ⟨s0, s1, s2, s3, s4, s5⟩ := HF.out _ hSw.1; have sq := (nm_at HNMV.out hll hSw.2); first | (go_simp; done) | (go_simp; with_reducible rfl))
                    simp only [List.setIfInBounds_toArray, List.set_cons_zero, List.set_cons_succ]
                    refine oneU 105 (i := 12) rfl rfl (by kernel_rfl) (by kernel_rfl) (fun K hK => ?_)
                    go_simp
                    go_at_call 24
                    refine (blk_lit BAtI3 (by decide) HGD.out HL.out.sq HBL.out (HSC.out _ hG513) (hs1.bel ((Bel.refl w21).alloc #[.string ⟨#[116, 97]⟩, .string ⟨#[116, 98]⟩, .string ⟨#[116, 99]⟩] 9))).mono ?_
                    rintro e w22 ⟨qb, nb, rfl, hlb, heb, hv2, hs2⟩
                    have hG2 := hG513.trans hv2
                    have hvz2 := hv2.size
                    rw [hz513] at hvz2
                    have hN2 := hv2.stays ha513 hq513.1
                    refine hK.out _ _ ⟨(Sv.mono hG2 (fun k hk => Or.inl hk)), hN2⟩ (fun _ => ?_)
                    clear hK K
                    simp only [List.setIfInBounds_toArray, List.set_cons_zero, List.set_cons_succ]
                    refine takeU 106 (i := 13) (v := ?v5058) rfl rfl rfl (by kernel_rfl) (by kernel_rfl) (by kernel_rfl) (by kernel_rfl) (fun _ _ _ h => h) (by kernel_rfl) ?hy5058 ⟨(Sv.mono hG2 (fun k hk => Or.inl hk)), hN2⟩ ?rest5058
                    case hy5058 => (intro w0 hSw; obtain ⟨s0, s1, s2, s3, s4, s5⟩ := HF.out _ hSw.1; have sq := (nm_at HNMV.out hll hSw.2); first | (go_simp; done) | (go_simp; with_reducible rfl))
                    simp only [List.setIfInBounds_toArray, List.set_cons_zero, List.set_cons_succ]
                    refine oneU 107 (i := 14) rfl rfl (by kernel_rfl) (by kernel_rfl) (fun K hK => ?_)
                    go_simp
                    refine hK.out _ _ ⟨(Sv.mono (hG2.trans (((Bel.refl w22).alloc #[.string nmv, .bool false, .int .i64 (l.length : Int), .int .i64 (1 + kp), .int .i64 0, .slice qb bl.length nb] 54).svg gS)) (fun k hk => Or.inl hk)), ((Bel.refl w22).alloc #[.string nmv, .bool false, .int .i64 (l.length : Int), .int .i64 (1 + kp), .int .i64 0, .slice qb bl.length nb] 54).stays hN2⟩ (fun hM514 => ?_)
                    clear hK K
                    simp only [List.setIfInBounds_toArray, List.set_cons_zero, List.set_cons_succ]
                    have hG514 := (hG2.trans (((Bel.refl w22).alloc #[.string nmv, .bool false, .int .i64 (l.length : Int), .int .i64 (1 + kp), .int .i64 0, .slice qb bl.length nb] 54).svg gS))
                    have hz514 : ((World.alloc w22 (.cells #[.string nmv, .bool false, .int .i64 (l.length : Int), .int .i64 (1 + kp), .int .i64 0, .slice qb bl.length nb] 54))).heap.size = w22.heap.size + 1 := World.size_alloc _ _
                    have ha514 := alloc_at (w := w22) (n := w22.heap.size) rfl (.cells #[.string nmv, .bool false, .int .i64 (l.length : Int), .int .i64 (1 + kp), .int .i64 0, .slice qb bl.length nb] 54)
                    have hq514 : w22.heap.size ≠ gS ∧ wr.heap.size ≤ w22.heap.size := by have h1 : gS < (w22).heap.size := (hs2).lt; have h2 : wr.heap.size ≤ (w22).heap.size := (hG2).size; change gS < w22.heap.size at h1; change _ ≤ w22.heap.size at h2; omega
                    refine oneU 108 (i := 15) rfl rfl (by kernel_rfl) (by kernel_rfl) (fun K hK => ?_)
                    have hrow := HL.out.tv.sv hG514 (fun b hb e => by have := own_ge HL.out.tv b hb; have := hnum; omega)
                    have hcs : w = w := rfl
                    obtain ⟨vx, wa, hrun, hoa, hsa, hna⟩ := one_more2 tskTy hrow (⟨⟨nmv, false, (l.length : Int), 1 + kp, 0, bl⟩, qb, nb⟩ : PT) (c := 1) ha514 rfl (by omega) (by have h2 := (hG514).size; have := hnum; omega)
                    obtain ⟨nl, hnl⟩ : ∃ nl, nl = (l ++ [(⟨⟨nmv, false, (l.length : Int), 1 + kp, 0, bl⟩, qb, nb⟩ : PT)]).length := ⟨_, rfl⟩
                    obtain ⟨pt', ct', hvx⟩ := row_form tskTy.len hoa hnl
                    subst hvx
                    have HNL9 := Lib.hid hnl
                    clear hnl
                    have hbk : ∀ b, b < wr.heap.size → (Value.slice pt l.length ct).ownBlock ≠ some b → wa.heap[b]? = ((World.alloc w22 (.cells #[.string nmv, .bool false, .int .i64 (l.length : Int), .int .i64 (1 + kp), .int .i64 0, .slice qb bl.length nb] 54))).heap[b]? := fun b hb hn => hsa.block b (Nat.lt_of_lt_of_le hb (hG514).size) hn
                    have hpa := (hbk gP (by have := hnum; omega) (fun e => by have := own_ge HL.out.tv gP e; have := hnum; omega)).trans ((hG514).stays HL.out.p (by have := hnum; omega))
                    have hca := (hbk gC (by have := hnum; omega) (fun e => by have := own_ge HL.out.tv gC e; have := hnum; omega)).trans ((hG514).stays HL.out.c (by have := hnum; omega))
                    have hna2 := (hsa.block _ (lt_of_heap hM514.2) (fun e => by have := own_lt HL.out.tv _ e; have := hq513; omega)).trans hM514.2
                    have z3 : wa.cell? ⟨gP, 3, none⟩ = some (.slice pt l.length ct) := cell_of_heap hpa 3
                    have f3 := frozen_of_heap hpa 3
                    refine appU (.tmp 94) (.tmp 107) 26 rfl _ _ _ (by kernel_rfl) (by kernel_rfl) hrun ?_
                    refine hK.out _ _ ⟨(Sv.trans (Sv.mono hG514 (fun k hk => Or.inl hk)) (Sv.mono hsa (fun k hk => Or.inr hk))), hna2⟩ (fun hMA => ?_)
                    clear hK K
                    simp only [List.setIfInBounds_toArray, List.set_cons_zero, List.set_cons_succ]
                    refine takeU 109 (i := 16) (v := ?v5059) rfl rfl rfl (by kernel_rfl) (by kernel_rfl) (by kernel_rfl) (by kernel_rfl) (fun _ _ _ h => h) (by kernel_rfl) ?hy5059 hMA ?rest5059
                    case hy5059 => (intro w0 hSw; obtain ⟨s0, s1, s2, s3, s4, s5⟩ := HF.out _ hSw.1; have sq := (nm_at HNMV.out hll hSw.2); first | (go_simp; done) | (go_simp; with_reducible rfl))
                    simp only [List.setIfInBounds_toArray, List.set_cons_zero, List.set_cons_succ]
                    refine lastU rfl rfl (by kernel_rfl) (by kernel_rfl) (fun K hK => ?_)
                    go_simp
                    refine hK.out undef _ ?_
                    clear hK K
                    refine Upto.done (by kernel_rfl) ?_ _
                    go_wp2_with fail
                    go_roundg mm
                    case measure => omega
                    case rel =>
                      have hse := Svg.set gP 3 wa (Value.slice pt' nl ct')
                      have hpf : (World.setCell wa ⟨gP, 3, none⟩ (Value.slice pt' nl ct')).heap[gP]? = some (.cells (prC (1 + (h : Int)) (.slice pD dl.length cD) (.slice pR rl.length cR) (Value.slice pt' nl ct')) 28 (0, 0)) := by simp [World.setCell, Array.getElem?_modify, hpa]
                      have hcf := hse.stays hca (by omega)
                      have how := own_ge HL.out.tv
                      have hgp := HGP.out
                      have hcb1 : gS < ((World.alloc w21 (.cells #[.string ⟨#[116, 97]⟩, .string ⟨#[116, 98]⟩, .string ⟨#[116, 99]⟩] 9))).heap.size := ((hs1.bel ((Bel.refl w21).alloc #[.string ⟨#[116, 97]⟩, .string ⟨#[116, 98]⟩, .string ⟨#[116, 99]⟩] 9))).lt
                      have hcb2 : wr.heap.size ≤ ((World.alloc w21 (.cells #[.string ⟨#[116, 97]⟩, .string ⟨#[116, 98]⟩, .string ⟨#[116, 99]⟩] 9))).heap.size := (hG513).size
                      have hR : Sub (oldM g0 gS gP gC w9.heap.size wr) (oldM g0 gS gP gC w9.heap.size (World.setCell wa ⟨gP, 3, none⟩ (Value.slice pt' nl ct'))) := ((oldM_sv hG514 (fun k hk => .inl hk)).trans (oldM_sv hsa (fun k hk => .inr (.inr (.inr (how k hk)))))).trans (oldM_sv hse (fun k hk => .inr (.inl hk)))
                      have hK1 : Sub (keepW w9.heap.size (Value.slice pt l.length ct) wr) (keepW w9.heap.size (Value.slice pt' nl ct') (World.setCell wa ⟨gP, 3, none⟩ (Value.slice pt' nl ct'))) := ((keepW_sv hG514 (by omega)).trans (keepW_app hsa hna)).trans (keepW_sv hse (by omega))
                      have hK2 : Sub (young ((World.alloc w21 (.cells #[.string ⟨#[116, 97]⟩, .string ⟨#[116, 98]⟩, .string ⟨#[116, 99]⟩] 9))).heap.size w22) (keepW w9.heap.size (Value.slice pt' nl ct') (World.setCell wa ⟨gP, 3, none⟩ (Value.slice pt' nl ct'))) := (((Bel.sub (Svg.young ((Svg.refl gS w22).trans (((Bel.refl w22).alloc #[.string nmv, .bool false, .int .i64 (l.length : Int), .int .i64 (1 + kp), .int .i64 0, .slice qb bl.length nb] 54).svg gS)) hcb1)).trans (young_keepW _ (by omega) (fun b hb => Nat.lt_of_lt_of_le (own_lt HL.out.tv b hb) hcb2))).trans (keepW_app hsa hna)).trans (keepW_sv hse (by omega))
                      have hnew : ∀ b, (Value.slice pt' nl ct').ownBlock = some b → w9.heap.size ≤ b := own_ge hoa
                      refine ⟨l ++ [(⟨⟨nmv, false, (l.length : Int), 1 + kp, 0, bl⟩, qb, nb⟩ : PT)], _, r2, by rw [List.length_append, List.length_singleton]; rfl, Lib.hid ⟨hpf, hcf, hoa.sv hse (fun b hb e => by have := hnew b hb; omega), ?_, (((hs2.bel ((Bel.refl w22).alloc #[.string nmv, .bool false, .int .i64 (l.length : Int), .int .i64 (1 + kp), .int .i64 0, .slice qb bl.length nb] 54))).sv hsa (fun b hb => by have := how b hb; omega)).sv hse (fun b hb => by subst hb; omega), hnum.1, hnum.2.1, hnum.2.2.1, Nat.le_trans (Nat.le_trans (Nat.le_trans hnum.2.2.2.1 (hG514).size) hsa.size) hse.size, HL.out.ds.sub hR, HL.out.rs.sub hR, HL.out.ns.sub hR, HL.out.ms.sub hR, HL.out.sq⟩, Lib.hid ?_, Lib.hid (by have := HLN.out; rw [List.length_append, List.length_singleton]; omega), Lib.hid (Sv.bel hse (Sv.bel hsa (Svg.bel hG514 HBW.out (by omega)) (fun b hb => by have := how b hb; omega)) (fun b hb => by subst hb; omega)), Lib.hid (hse.stays ((hsa.block g0 (lt_of_heap ((hG514).stays HX0.out (by omega))) (fun e => by have := how g0 e; omega)).trans ((hG514).stays HX0.out (by omega))) (by omega))⟩
                      · intro y hy
                        rcases List.mem_append.1 hy with hy | hy
                        · exact (HL.out.tk y hy).sub hK1
                        · rw [List.mem_singleton.1 hy]
                          exact ⟨isTsk_of (by rw [← HNMV.out]; exact tnames_ok _ hll) (by omega) (by omega) (by have := HKB.out; omega) (by have := HKB.out; omega) (by omega) (by rw [if_neg (by decide)]; omega) (by have := body_ok (d := 3) (by decide) HGD.out r1; rw [HBL.out] at this; exact this), hlb, heb.sub hK2⟩
                      · rw [← HE.out]
                        show _ = tsksV C mm (l.map PT.t ++ [(tskV0 C (l.map PT.t).length r).1]) (tskV0 C (l.map PT.t).length r).2
                        unfold tskV0
                        rw [List.length_map, HKP.out]
                        dsimp only
                        rw [HBL.out, HNMV.out, List.map_append]
                        rfl
                  · go_simp
                    go_at_call 24
                    refine (blk_lit BAtI3 (by decide) HGD.out HL.out.sq HBL.out (HSC.out _ hG1) hs1).mono ?_
                    rintro e w22 ⟨qb, nb, rfl, hlb, heb, hv2, hs2⟩
                    have hG2 := hG1.trans hv2
                    have hvz2 := hv2.size
                    change w21.heap.size ≤ _ at hvz2
                    refine hK.out _ _ (Sv.mono hG2 (fun k hk => Or.inl hk)) (fun _ => ?_)
                    clear hK K
                    simp only [List.setIfInBounds_toArray, List.set_cons_zero, List.set_cons_succ]
                    refine oneU 95 (i := 2) rfl rfl (by kernel_rfl) (by kernel_rfl) (fun K hK => ?_)
                    go_simp
                    refine hK.out _ _ (Sv.mono (hG2.trans (((Bel.refl w22).alloc #[.string ⟨#[116, 97]⟩, .string ⟨#[116, 98]⟩, .string ⟨#[116, 99]⟩] 9).svg gS)) (fun k hk => Or.inl hk)) (fun hM515 => ?_)
                    clear hK K
                    simp only [List.setIfInBounds_toArray, List.set_cons_zero, List.set_cons_succ]
                    have hG515 := (hG2.trans (((Bel.refl w22).alloc #[.string ⟨#[116, 97]⟩, .string ⟨#[116, 98]⟩, .string ⟨#[116, 99]⟩] 9).svg gS))
                    have hz515 : ((World.alloc w22 (.cells #[.string ⟨#[116, 97]⟩, .string ⟨#[116, 98]⟩, .string ⟨#[116, 99]⟩] 9))).heap.size = w22.heap.size + 1 := World.size_alloc _ _
                    have ha515 := alloc_at (w := w22) (n := w22.heap.size) rfl (.cells #[.string ⟨#[116, 97]⟩, .string ⟨#[116, 98]⟩, .string ⟨#[116, 99]⟩] 9)
                    have hq515 : w22.heap.size ≠ gS ∧ wr.heap.size ≤ w22.heap.size := by have h1 : gS < (w22).heap.size := (hs2).lt; have h2 : wr.heap.size ≤ (w22).heap.size := (hG2).size; change gS < w22.heap.size at h1; change _ ≤ w22.heap.size at h2; omega
                    refine Upto.mono (U := (fun w' => Sv (fun b => b = gS ∨ (Value.slice pt l.length ct).ownBlock = some b) wr w' ∧ w'.heap[w22.heap.size]? = some (.cells #[.string ⟨#[116, 97]⟩, .string ⟨#[116, 98]⟩, .string ⟨#[116, 99]⟩] 9 (0, 0)))) (fun _ h => h.1) _ _ _ _ ?_
                    refine takeU 97 (i := 4) (v := ?v5060) rfl rfl rfl (by kernel_rfl) (by kernel_rfl) (by kernel_rfl) (by kernel_rfl) (fun _ _ _ h => h) (by kernel_rfl) ?hy5060 ⟨(Sv.mono hG515 (fun k hk => Or.inl hk)), ha515⟩ ?rest5060
                    case hy5060 => (intro w0 hSw; obtain ⟨s0, s1, s2, s3, s4, s5⟩ := HF.out _ hSw.1; have sq := (nm_at HNMV.out hll hSw.2); first | (go_simp; done) | (go_simp; with_reducible rfl))
                    simp only [List.setIfInBounds_toArray, List.set_cons_zero, List.set_cons_succ]
                    refine takeU 98 (i := 5) (v := ?v5061) rfl rfl rfl (by kernel_rfl) (by kernel_rfl) (by kernel_rfl) (by kernel_rfl) (fun _ _ _ h => h) (by kernel_rfl) ?hy5061 ⟨(Sv.mono hG515 (fun k hk => Or.inl hk)), ha515⟩ ?rest5061
                    case hy5061 => (intro w0 hSw; obtain ⟨s0, s1, s2, s3, s4, s5⟩ := HF.out _ hSw.1; have sq := (nm_at HNMV.out hll hSw.2); first | (go_simp; done) | (go_simp; with_reducible rfl))
                    simp only [List.setIfInBounds_toArray, List.set_cons_zero, List.set_cons_succ]
                    refine takeU 106 (i := 13) (v := ?v5062) rfl rfl rfl (by kernel_rfl) (by kernel_rfl) (by kernel_rfl) (by kernel_rfl) (fun _ _ _ h => h) (by kernel_rfl) ?hy5062 ⟨(Sv.mono hG515 (fun k hk => Or.inl hk)), ha515⟩ ?rest5062
                    case hy5062 => (intro w0 hSw; obtain ⟨s0, s1, s2, s3, s4, s5⟩ := HF.out _ hSw.1; have sq := (nm_at HNMV.out hll hSw.2); first | (go_simp; done) | (go_simp; with_reducible rfl))
                    simp only [List.setIfInBounds_toArray, List.set_cons_zero, List.set_cons_succ]
                    refine oneU 107 (i := 14) rfl rfl (by kernel_rfl) (by kernel_rfl) (fun K hK => ?_)
                    go_simp
                    refine hK.out _ _ ⟨(Sv.mono (hG515.trans (((Bel.refl (World.alloc w22 (.cells #[.string ⟨#[116, 97]⟩, .string ⟨#[116, 98]⟩, .string ⟨#[116, 99]⟩] 9))).alloc #[.string nmv, .bool false, .int .i64 (l.length : Int), .int .i64 (1 + kp), .int .i64 0, .slice qb bl.length nb] 54).svg gS)) (fun k hk => Or.inl hk)), ((Bel.refl (World.alloc w22 (.cells #[.string ⟨#[116, 97]⟩, .string ⟨#[116, 98]⟩, .string ⟨#[116, 99]⟩] 9))).alloc #[.string nmv, .bool false, .int .i64 (l.length : Int), .int .i64 (1 + kp), .int .i64 0, .slice qb bl.length nb] 54).stays ha515⟩ (fun hM516 => ?_)
                    clear hK K
                    simp only [List.setIfInBounds_toArray, List.set_cons_zero, List.set_cons_succ]
                    have hG516 := (hG515.trans (((Bel.refl (World.alloc w22 (.cells #[.string ⟨#[116, 97]⟩, .string ⟨#[116, 98]⟩, .string ⟨#[116, 99]⟩] 9))).alloc #[.string nmv, .bool false, .int .i64 (l.length : Int), .int .i64 (1 + kp), .int .i64 0, .slice qb bl.length nb] 54).svg gS))
                    have hz516 : ((World.alloc (World.alloc w22 (.cells #[.string ⟨#[116, 97]⟩, .string ⟨#[116, 98]⟩, .string ⟨#[116, 99]⟩] 9)) (.cells #[.string nmv, .bool false, .int .i64 (l.length : Int), .int .i64 (1 + kp), .int .i64 0, .slice qb bl.length nb] 54))).heap.size = (w22.heap.size + 1) + 1 := by rw [World.size_alloc, hz515]
                    have ha516 := alloc_at (w := (World.alloc w22 (.cells #[.string ⟨#[116, 97]⟩, .string ⟨#[116, 98]⟩, .string ⟨#[116, 99]⟩] 9))) (n := (w22.heap.size + 1)) hz515 (.cells #[.string nmv, .bool false, .int .i64 (l.length : Int), .int .i64 (1 + kp), .int .i64 0, .slice qb bl.length nb] 54)
                    have hq516 : (w22.heap.size + 1) ≠ gS ∧ wr.heap.size ≤ (w22.heap.size + 1) := by have h1 : gS < ((World.alloc w22 (.cells #[.string ⟨#[116, 97]⟩, .string ⟨#[116, 98]⟩, .string ⟨#[116, 99]⟩] 9))).heap.size := ((hs2.bel ((Bel.refl w22).alloc #[.string ⟨#[116, 97]⟩, .string ⟨#[116, 98]⟩, .string ⟨#[116, 99]⟩] 9))).lt; have h2 : wr.heap.size ≤ ((World.alloc w22 (.cells #[.string ⟨#[116, 97]⟩, .string ⟨#[116, 98]⟩, .string ⟨#[116, 99]⟩] 9))).heap.size := (hG515).size; rw [hz515] at h1 h2; omega
                    refine oneU 108 (i := 15) rfl rfl (by kernel_rfl) (by kernel_rfl) (fun K hK => ?_)
                    have hrow := HL.out.tv.sv hG516 (fun b hb e => by have := own_ge HL.out.tv b hb; have := hnum; omega)
                    have hcs : w = w := rfl
                    obtain ⟨vx, wa, hrun, hoa, hsa, hna⟩ := one_more2 tskTy hrow (⟨⟨nmv, false, (l.length : Int), 1 + kp, 0, bl⟩, qb, nb⟩ : PT) (c := 1) ha516 rfl (by omega) (by have h2 := (hG516).size; have := hnum; omega)
                    obtain ⟨nl, hnl⟩ : ∃ nl, nl = (l ++ [(⟨⟨nmv, false, (l.length : Int), 1 + kp, 0, bl⟩, qb, nb⟩ : PT)]).length := ⟨_, rfl⟩
                    obtain ⟨pt', ct', hvx⟩ := row_form tskTy.len hoa hnl
                    subst hvx
                    have HNL9 := Lib.hid hnl
                    clear hnl
                    have hbk : ∀ b, b < wr.heap.size → (Value.slice pt l.length ct).ownBlock ≠ some b → wa.heap[b]? = ((World.alloc (World.alloc w22 (.cells #[.string ⟨#[116, 97]⟩, .string ⟨#[116, 98]⟩, .string ⟨#[116, 99]⟩] 9)) (.cells #[.string nmv, .bool false, .int .i64 (l.length : Int), .int .i64 (1 + kp), .int .i64 0, .slice qb bl.length nb] 54))).heap[b]? := fun b hb hn => hsa.block b (Nat.lt_of_lt_of_le hb (hG516).size) hn
                    have hpa := (hbk gP (by have := hnum; omega) (fun e => by have := own_ge HL.out.tv gP e; have := hnum; omega)).trans ((hG516).stays HL.out.p (by have := hnum; omega))
                    have hca := (hbk gC (by have := hnum; omega) (fun e => by have := own_ge HL.out.tv gC e; have := hnum; omega)).trans ((hG516).stays HL.out.c (by have := hnum; omega))
                    have hna2 := (hsa.block _ (lt_of_heap hM516.2) (fun e => by have := own_lt HL.out.tv _ e; have := hq515; omega)).trans hM516.2
                    have z3 : wa.cell? ⟨gP, 3, none⟩ = some (.slice pt l.length ct) := cell_of_heap hpa 3
                    have f3 := frozen_of_heap hpa 3
                    refine appU (.tmp 94) (.tmp 107) 26 rfl _ _ _ (by kernel_rfl) (by kernel_rfl) hrun ?_
                    refine hK.out _ _ ⟨(Sv.trans (Sv.mono hG516 (fun k hk => Or.inl hk)) (Sv.mono hsa (fun k hk => Or.inr hk))), hna2⟩ (fun hMA => ?_)
                    clear hK K
                    simp only [List.setIfInBounds_toArray, List.set_cons_zero, List.set_cons_succ]
                    refine takeU 109 (i := 16) (v := ?v5063) rfl rfl rfl (by kernel_rfl) (by kernel_rfl) (by kernel_rfl) (by kernel_rfl) (fun _ _ _ h => h) (by kernel_rfl) ?hy5063 hMA ?rest5063
                    case hy5063 => (intro w0 hSw; obtain ⟨s0, s1, s2, s3, s4, s5⟩ := HF.out _ hSw.1; have sq := (nm_at HNMV.out hll hSw.2); first | (go_simp; done) | (go_simp; with_reducible rfl))
                    simp only [List.setIfInBounds_toArray, List.set_cons_zero, List.set_cons_succ]
                    refine lastU rfl rfl (by kernel_rfl) (by kernel_rfl) (fun K hK => ?_)
                    go_simp
                    refine hK.out undef _ ?_
                    clear hK K
                    refine Upto.done (by kernel_rfl) ?_ _
                    go_wp2_with fail
                    go_roundg mm
                    case measure => omega
                    case rel =>
                      have hse := Svg.set gP 3 wa (Value.slice pt' nl ct')
                      have hpf : (World.setCell wa ⟨gP, 3, none⟩ (Value.slice pt' nl ct')).heap[gP]? = some (.cells (prC (1 + (h : Int)) (.slice pD dl.length cD) (.slice pR rl.length cR) (Value.slice pt' nl ct')) 28 (0, 0)) := by simp [World.setCell, Array.getElem?_modify, hpa]
                      have hcf := hse.stays hca (by omega)
                      have how := own_ge HL.out.tv
                      have hgp := HGP.out
                      have hcb1 : gS < (w21).heap.size := (hs1).lt
                      have hcb2 : wr.heap.size ≤ (w21).heap.size := (hG1).size
                      have hR : Sub (oldM g0 gS gP gC w9.heap.size wr) (oldM g0 gS gP gC w9.heap.size (World.setCell wa ⟨gP, 3, none⟩ (Value.slice pt' nl ct'))) := ((oldM_sv hG516 (fun k hk => .inl hk)).trans (oldM_sv hsa (fun k hk => .inr (.inr (.inr (how k hk)))))).trans (oldM_sv hse (fun k hk => .inr (.inl hk)))
                      have hK1 : Sub (keepW w9.heap.size (Value.slice pt l.length ct) wr) (keepW w9.heap.size (Value.slice pt' nl ct') (World.setCell wa ⟨gP, 3, none⟩ (Value.slice pt' nl ct'))) := ((keepW_sv hG516 (by omega)).trans (keepW_app hsa hna)).trans (keepW_sv hse (by omega))
                      have hK2 : Sub (young (w21).heap.size w22) (keepW w9.heap.size (Value.slice pt' nl ct') (World.setCell wa ⟨gP, 3, none⟩ (Value.slice pt' nl ct'))) := (((Bel.sub (Svg.young (((Svg.refl gS w22).trans (((Bel.refl w22).alloc #[.string ⟨#[116, 97]⟩, .string ⟨#[116, 98]⟩, .string ⟨#[116, 99]⟩] 9).svg gS)).trans (((Bel.refl (World.alloc w22 (.cells #[.string ⟨#[116, 97]⟩, .string ⟨#[116, 98]⟩, .string ⟨#[116, 99]⟩] 9))).alloc #[.string nmv, .bool false, .int .i64 (l.length : Int), .int .i64 (1 + kp), .int .i64 0, .slice qb bl.length nb] 54).svg gS)) hcb1)).trans (young_keepW _ (by omega) (fun b hb => Nat.lt_of_lt_of_le (own_lt HL.out.tv b hb) hcb2))).trans (keepW_app hsa hna)).trans (keepW_sv hse (by omega))
                      have hnew : ∀ b, (Value.slice pt' nl ct').ownBlock = some b → w9.heap.size ≤ b := own_ge hoa
                      refine ⟨l ++ [(⟨⟨nmv, false, (l.length : Int), 1 + kp, 0, bl⟩, qb, nb⟩ : PT)], _, r2, by rw [List.length_append, List.length_singleton]; rfl, Lib.hid ⟨hpf, hcf, hoa.sv hse (fun b hb e => by have := hnew b hb; omega), ?_, ((((hs2.bel ((Bel.refl w22).alloc #[.string ⟨#[116, 97]⟩, .string ⟨#[116, 98]⟩, .string ⟨#[116, 99]⟩] 9)).bel ((Bel.refl (World.alloc w22 (.cells #[.string ⟨#[116, 97]⟩, .string ⟨#[116, 98]⟩, .string ⟨#[116, 99]⟩] 9))).alloc #[.string nmv, .bool false, .int .i64 (l.length : Int), .int .i64 (1 + kp), .int .i64 0, .slice qb bl.length nb] 54))).sv hsa (fun b hb => by have := how b hb; omega)).sv hse (fun b hb => by subst hb; omega), hnum.1, hnum.2.1, hnum.2.2.1, Nat.le_trans (Nat.le_trans (Nat.le_trans hnum.2.2.2.1 (hG516).size) hsa.size) hse.size, HL.out.ds.sub hR, HL.out.rs.sub hR, HL.out.ns.sub hR, HL.out.ms.sub hR, HL.out.sq⟩, Lib.hid ?_, Lib.hid (by have := HLN.out; rw [List.length_append, List.length_singleton]; omega), Lib.hid (Sv.bel hse (Sv.bel hsa (Svg.bel hG516 HBW.out (by omega)) (fun b hb => by have := how b hb; omega)) (fun b hb => by subst hb; omega)), Lib.hid (hse.stays ((hsa.block g0 (lt_of_heap ((hG516).stays HX0.out (by omega))) (fun e => by have := how g0 e; omega)).trans ((hG516).stays HX0.out (by omega))) (by omega))⟩
                      · intro y hy
                        rcases List.mem_append.1 hy with hy | hy
                        · exact (HL.out.tk y hy).sub hK1
                        · rw [List.mem_singleton.1 hy]
                          exact ⟨isTsk_of (by rw [← HNMV.out]; exact tnames_ok _ hll) (by omega) (by omega) (by have := HKB.out; omega) (by have := HKB.out; omega) (by omega) (by rw [if_neg (by decide)]; omega) (by have := body_ok (d := 3) (by decide) HGD.out r1; rw [HBL.out] at this; exact this), hlb, heb.sub hK2⟩
                      · rw [← HE.out]
                        show _ = tsksV C mm (l.map PT.t ++ [(tskV0 C (l.map PT.t).length r).1]) (tskV0 C (l.map PT.t).length r).2
                        unfold tskV0
                        rw [List.length_map, HKP.out]
                        dsimp only
                        rw [HBL.out, HNMV.out, List.map_append]
                        rfl
          | succ mm =>
            obtain ⟨pd, cd, hvd, hpe, hpg⟩ := HL.out.dv.form rscTy.len
            obtain ⟨pn, cn, hvn, hne, hng⟩ := HL.out.nm.form nameTy.len
            subst hvd
            subst hvn
            obtain ⟨kd, r', hkd⟩ : ∃ kd r', nx r 8 = (kd, r') := ⟨_, _, rfl⟩
            have hkb := nx_bd r (n := 8) (by omega)
            rw [hkd] at hkb
            have HKD := Lib.hid hkd
            have HKB := Lib.hid hkb
            have hll : l.length < 2 := by have := HLN.out; have := HK23.out; omega
            have hi0 : (0 : Int) ≤ (l.length : Int) := by omega
            have hi1 : (l.length : Int) < 2 := by omega
            have hw2 : IntKind.i64.wrap (1 + kd) = 1 + kd := IntWalk.i64_in _ (by constructor <;> omega)
            have hge : (0 < (mm : Int) + 1) = True := eq_true (by omega)
            obtain ⟨nmv, hnmv⟩ : ∃ v, rnames.getD l.length ⟨#[]⟩ = v := ⟨_, rfl⟩
            have HNMV := Lib.hid hnmv
            have HF : Hid (∀ W', Svg gS wr W' → W'.cell? ⟨gP, 2, none⟩ = some (.slice pd l.length cd)) := Lib.hid (fun W' hv => cell_of_heap (hv.stays HL.out.p (by have := HL.out.sp; omega)) 2)
            clear hkd hkb hnmv hpe hpg hne hng
            have hee : ((mm + 1 : Nat) : Int) = (mm : Int) + 1 := by omega
            rw [hee]
            clear hee
            go_upto_region 15 with (fail)
            go_cut [11] from 60 to 86 (fun v wx => ∃ q : Nat, v = .pointer (some ⟨q, 0, none⟩) ∧ Hid (wx.heap[q]? = some (.cells #[.string nmv, .int .i64 (1 + kd)] 67 (0, 0))) ∧ Hid (Svg gS wr wx) ∧ Hid (SrcAt gS wx r') ∧ Hid (wr.heap.size ≤ q))
            case rest =>
              obtain ⟨q, rfl, HQ, HVC, HSC, HQB⟩ := hcut
              have hsp := HL.out.sp
              have hpc := HL.out.pc
              have hcB := HL.out.cB
              have hbw := HL.out.bw
              have hp := HVC.out.stays HL.out.p (by omega)
              have hc := HVC.out.stays HL.out.c (by omega)
              have hown := own_ge HL.out.dv
              have hown2 := own_ge HL.out.nm
              have hdv := HL.out.dv.sv HVC.out (fun b hb e => by have := hown b hb; omega)
              have hnm := HL.out.nm.sv HVC.out (fun b hb e => by have := hown2 b hb; omega)
              have hvz := HVC.out.size
              have hal := (Bel.refl wc).alloc #[.string nmv, .int .i64 (1 + kd)] 67
              have hnew := heap_alloc_new wc (.cells #[.string nmv, .int .i64 (1 + kd)] 67)
              have haz := hal.size
              obtain ⟨vdx, w5, hrun, ho5, hs5, hn5⟩ := one_more2 rscTy (hdv.bel hal) (⟨nmv, 1 + kd⟩ : Rsc) (c := 1) hnew rfl (by omega) (by omega)
              obtain ⟨nl, hnl⟩ : ∃ nl, nl = (l ++ [(⟨nmv, 1 + kd⟩ : Rsc)]).length := ⟨_, rfl⟩
              obtain ⟨pd', cd', hvd'⟩ := row_form rscTy.len ho5 hnl
              subst hvd'
              have HNL := Lib.hid hnl
              clear hnl
              have hp5 := (hs5.block gP (Nat.lt_of_lt_of_le (lt_of_heap hp) haz) (fun e => by have := hown gP e; omega)).trans (hal.stays hp)
              have hc5 := (hs5.block gC (Nat.lt_of_lt_of_le (lt_of_heap hc) haz) (fun e => by have := hown gC e; omega)).trans (hal.stays hc)
              have hq5 := (hs5.block q (Nat.lt_of_lt_of_le (lt_of_heap HQ.out) haz) (fun e => by have := own_lt HL.out.dv q e; have := HQB.out; omega)).trans (hal.stays HQ.out)
              have hnm5 := (hnm.bel hal).sv hs5 (own_unlike hnm hdv (by decide))
              have hsr5 := (HSC.out.bel hal).sv hs5 (fun b hb => by have := hown b hb; omega)
              have hX5 := (hs5.block g0 (Nat.lt_of_lt_of_le (lt_of_heap (HVC.out.stays HX0.out (by have := HGP.out; omega))) haz) (fun e => by have := hown g0 e; have := HGP.out; omega)).trans (hal.stays (HVC.out.stays HX0.out (by have := HGP.out; omega)))
              have hB5 : Bel w w5 := hs5.bel ((HVC.out.bel HBW.out (by have := HGP.out; omega)).trans hal) (fun b hb => by have := hown b hb; have := HGP.out; omega)
              have hz5 := hs5.size
              have hsub5 : Sub (oldM g0 gS gP gC w8.heap.size wr) (oldM g0 gS gP gC w8.heap.size w5) := ((oldM_sv HVC.out (fun k hk => .inl hk)).trans (oldM_sv (hal.svg gS) (fun k hk => .inl hk))).trans (oldM_sv hs5 (fun k hk => .inr (.inr (.inr (hown k hk)))))
              have HSUB5 := Lib.hid hsub5
              clear hsub5
              have k1 : wc.cell? ⟨gP, 2, none⟩ = some (.slice pd l.length cd) := cell_of_heap hp 2
              have q0 : wc.cell? ⟨q, 0, none⟩ = some (.string nmv) := cell_of_heap HQ.out 0
              have q1 : wc.cell? ⟨q, 1, none⟩ = some (.int .i64 (1 + kd)) := cell_of_heap HQ.out 1
              have z1 : w5.cell? ⟨gP, 2, none⟩ = some (.slice pd l.length cd) := cell_of_heap hp5 2
              have f1 := frozen_of_heap hp5 2
              have HRUN := Lib.hid hrun
              have HP5 := Lib.hid hp5
              have HC5 := Lib.hid hc5
              have HQ5 := Lib.hid hq5
              have HNM5 := Lib.hid hnm5
              have HDV5 := Lib.hid ho5
              have HSR5 := Lib.hid hsr5
              have HX5 := Lib.hid hX5
              have HB5 := Lib.hid hB5
              have HN5 : Hid (∀ b, (Value.slice pd' nl cd').ownBlock = some b → w8.heap.size ≤ b) := Lib.hid (own_ge ho5)
              have HNUM : Hid (gS < gP ∧ gP < gC ∧ gC < w8.heap.size ∧ w8.heap.size ≤ w5.heap.size ∧ g0 < gS ∧ w.heap.size ≤ gS) := Lib.hid (by have := HGP.out; omega)
              clear hp5 hc5 hq5 hnm5 ho5 hsr5 hX5 hB5 hrun hs5 hn5 hnew hal hdv hnm hp hc hown hown2 hsp hpc hcB hbw hvz haz hz5
              go_upto_region 17 with (at_builtin; refine wpList_app rfl (.tmp 75) (.tmp 77) 25 rfl _ _ _ (by rfl) (by rfl) HRUN.out ?_)
              clear k1 q0 q1 z1 f1
              have hnum := HNUM.out
              have hse := Svg.set gP 2 w5 (Value.slice pd' nl cd')
              have hp6 : (w5.setCell ⟨gP, 2, none⟩ (Value.slice pd' nl cd')).heap[gP]? = some (.cells (prC (1 + (h : Int)) (.slice pD dl.length cD) (Value.slice pd' nl cd') (.slice none 0 0)) 28 (0, 0)) := by
                have := HP5.out
                simp [World.setCell, Array.getElem?_modify, this]
              have hc6 := hse.stays HC5.out (by omega)
              have hq6 := hse.stays HQ5.out (by have := HQB.out; have := HL.out.bw; omega)
              have hdv6 := HDV5.out.sv hse (fun b hb e => by have := HN5.out b hb; omega)
              have hnm6 := HNM5.out.sv hse (fun b hb e => by have := own_ge HNM5.out b hb; omega)
              have hsr6 := HSR5.out.sv hse (fun b hb => by subst hb; omega)
              have hX6 := hse.stays HX5.out (by omega)
              have hB6 : Bel w (w5.setCell ⟨gP, 2, none⟩ (Value.slice pd' nl cd')) := hse.bel HB5.out (by omega)
              have hz6 := hse.size
              have hsub6 := HSUB5.out.trans (oldM_sv hse (fun k hk => .inr (.inl hk)))
              clear HSUB5
              generalize w5.setCell ⟨gP, 2, none⟩ (Value.slice pd' nl cd') = W6 at hse hp6 hc6 hq6 hdv6 hnm6 hsr6 hX6 hB6 hz6 hsub6 ⊢
              clear HP5 HC5 HQ5 HDV5 HNM5 HSR5 HX5 HB5 hse HRUN
              have hal := (Bel.refl W6).alloc #[.string nmv] 9
              have hnew := heap_alloc_new W6 (.cells #[.string nmv] 9)
              have haz := hal.size
              have hown2 := own_ge hnm6
              have hown := own_ge hdv6
              obtain ⟨ndx, w7, hrun, ho7, hs7, hn7⟩ := one_more2 nameTy (hnm6.bel hal) nmv (c := 1) hnew rfl (by rw [List.length_map]; omega) (by omega)
              obtain ⟨nl2, hnl2⟩ : ∃ nl, nl = (l.map Rsc.name ++ [nmv]).length := ⟨_, rfl⟩
              obtain ⟨pn', cn', hvn'⟩ := row_form nameTy.len ho7 hnl2
              subst hvn'
              have HNL2 := Lib.hid hnl2
              clear hnl2
              have hp7 := (hs7.block gP (Nat.lt_of_lt_of_le (lt_of_heap hp6) haz) (fun e => by have := hown2 gP e; omega)).trans (hal.stays hp6)
              have hc7 := (hs7.block gC (Nat.lt_of_lt_of_le (lt_of_heap hc6) haz) (fun e => by have := hown2 gC e; omega)).trans (hal.stays hc6)
              have hdv7 := (hdv6.bel hal).sv hs7 (own_unlike hdv6 hnm6 (by decide))
              have hsr7 := (hsr6.bel hal).sv hs7 (fun b hb => by have := hown2 b hb; omega)
              have hX7 := (hs7.block g0 (Nat.lt_of_lt_of_le (lt_of_heap hX6) haz) (fun e => by have := hown2 g0 e; omega)).trans (hal.stays hX6)
              have hB7 : Bel w w7 := hs7.bel (hB6.trans hal) (fun b hb => by have := hown2 b hb; omega)
              have hz7 := hs7.size
              have HSUB7 := Lib.hid ((hsub6.trans (oldM_sv (hal.svg gS) (fun k hk => .inl hk))).trans (oldM_sv hs7 (fun k hk => .inr (.inr (.inr (hown2 k hk))))))
              clear hsub6
              have k1 : W6.cell? ⟨gC, 1, none⟩ = some (.slice pn l.length cn) := by rw [← List.length_map (f := Rsc.name)]; exact cell_of_heap hc6 1
              have q0 : W6.cell? ⟨q, 0, none⟩ = some (.string nmv) := cell_of_heap hq6 0
              have z1 : w7.cell? ⟨gC, 1, none⟩ = some (.slice pn l.length cn) := by rw [← List.length_map (f := Rsc.name)]; exact cell_of_heap hc7 1
              have f1 := frozen_of_heap hc7 1
              rw [List.length_map] at hrun
              have HRUN := Lib.hid hrun
              have HP7 := Lib.hid hp7
              have HC7 := Lib.hid hc7
              have HDV7 := Lib.hid hdv7
              have HNM7 := Lib.hid ho7
              have HSR7 := Lib.hid hsr7
              have HX7 := Lib.hid hX7
              have HB7 := Lib.hid hB7
              have HZ7 : Hid (w8.heap.size ≤ w7.heap.size) := Lib.hid (by omega)
              have hmm : IntKind.i64.wrap (mm : Int) = (mm : Int) := IntWalk.i64_in _ (by have := HLN.out; have := HK23.out; constructor <;> omega)
              clear hp7 hc7 ho7 hsr7 hX7 hB7 hrun hs7 hn7 hnew hal hp6 hc6 hq6 hdv6 hnm6 hsr6 hX6 hB6 hz6 hown hown2 haz hz7 hdv7 hnum
              go_wp2_with (at_builtin; refine wpList_app rfl (.tmp 81) (.tmp 84) 59 rfl _ _ _ (by rfl) (by rfl) HRUN.out ?_)
              clear k1 q0 z1 f1
              have hnum := HNUM.out
              have hse := Svg.set gC 1 w7 (Value.slice pn' nl2 cn')
              have hc8 : (w7.setCell ⟨gC, 1, none⟩ (Value.slice pn' nl2 cn')).heap[gC]? = some (.cells (scC (.slice pN dl.length cN) (Value.slice pn' nl2 cn') all) 61 (0, 0)) := by
                have := HC7.out
                simp [World.setCell, Array.getElem?_modify, this]
              go_roundg mm
              case measure => omega
              case rel =>
                refine ⟨l ++ [⟨nmv, 1 + kd⟩], (Value.slice pd' nl cd'), (Value.slice pn' nl2 cn'), r', rfl, Lib.hid ⟨hse.stays HP7.out (by omega), hc8, HDV7.out.sv hse (fun b hb e => by have := own_ge HDV7.out b hb; omega), ?_, HSR7.out.sv hse (fun b hb => by subst hb; omega), hnum.1, hnum.2.1, hnum.2.2.1, Nat.le_trans HZ7.out hse.size, HL.out.ds.sub (HSUB7.out.trans (oldM_sv hse (fun k hk => .inr (.inr (.inl hk))))), HL.out.ns.sub (HSUB7.out.trans (oldM_sv hse (fun k hk => .inr (.inr (.inl hk)))))⟩, Lib.hid ?_, Lib.hid (by have := HLN.out; rw [List.length_append, List.length_singleton]; omega), Lib.hid (hse.bel HB7.out (by omega)), Lib.hid (hse.stays HX7.out (by omega))⟩
                · rw [List.map_append]
                  exact HNM7.out.sv hse (fun b hb e => by have := own_ge HNM7.out b hb; omega)
                · rw [← HE.out]
                  show _ = rscsV mm (l ++ [⟨rnames.getD l.length ⟨#[]⟩, 1 + (nx r 8).1⟩]) (nx r 8).2
                  rw [HKD.out, HNMV.out]
            case first =>
              refine wp_region_held_drew (S := Svg gS wr) (by kernel_rfl) ((Bel.refl wr).drew.svg gS) (fun hS0 => ?_)
              refine takeD 65 (i := 1) (v := ?v26) rfl rfl (by kernel_rfl) (by kernel_rfl) (by kernel_rfl) (fun _ _ _ h => h) (by kernel_rfl) ?hy26 hS0 ?rest26
              case hy26 => (intro w0 hSw; have s0 := HF.out _ hSw; first | (go_simp; done) | (go_simp; with_reducible rfl))
              simp only [List.setIfInBounds_toArray, List.set_cons_zero, List.set_cons_succ]
              refine takeD 66 (i := 2) (v := ?v27) rfl rfl (by kernel_rfl) (by kernel_rfl) (by kernel_rfl) (fun _ _ _ h => h) (by kernel_rfl) ?hy27 hS0 ?rest27
              case hy27 => (intro w0 hSw; have s0 := HF.out _ hSw; first | (go_simp; done) | (go_simp; with_reducible rfl))
              simp only [List.setIfInBounds_toArray, List.set_cons_zero, List.set_cons_succ]
              refine takeD 67 (i := 3) (v := ?v28) rfl rfl (by kernel_rfl) (by kernel_rfl) (by kernel_rfl) (fun _ _ _ h => h) (by kernel_rfl) ?hy28 hS0 ?rest28
              case hy28 => (intro w0 hSw; have s0 := HF.out _ hSw; first | (go_simp; done) | (go_simp; with_reducible rfl))
              simp only [List.setIfInBounds_toArray, List.set_cons_zero, List.set_cons_succ]
              refine takeD 70 (i := 6) (v := ?v29) rfl rfl (by kernel_rfl) (by kernel_rfl) (by kernel_rfl) (fun _ _ _ h => h) (by kernel_rfl) ?hy29 hS0 ?rest29
              case hy29 => (intro w0 hSw; have s0 := HF.out _ hSw; first | (go_simp; done) | (go_simp; with_reducible rfl))
              simp only [List.setIfInBounds_toArray, List.set_cons_zero, List.set_cons_succ]
              refine threeE 64 71 11 (i1 := 0) (i2 := 7) (i3 := 10) rfl rfl rfl rfl rfl rfl (by kernel_rfl) (by kernel_rfl) (by kernel_rfl) (by kernel_rfl) (fun K hK => ?_) (fun K hK => ?_) (fun K hK => ?_)
              · go_simp
                refine hK.out _ _ (hS0.trans (((Bel.refl (World.drew wr)).alloc #[.string ⟨#[114, 97]⟩, .string ⟨#[114, 98]⟩] 9).svg gS)) (fun hM11 => ?_)
                clear hK K
                simp only [List.setIfInBounds_toArray, List.set_cons_zero, List.set_cons_succ]
                have hz11 : ((World.alloc (World.drew wr) (.cells #[.string ⟨#[114, 97]⟩, .string ⟨#[114, 98]⟩] 9))).heap.size = wr.heap.size + 1 := World.size_alloc _ _
                have ha11 := alloc_at (w := (World.drew wr)) (n := wr.heap.size) rfl (.cells #[.string ⟨#[114, 97]⟩, .string ⟨#[114, 98]⟩] 9)
                have hq11 : wr.heap.size ≠ gS ∧ wr.heap.size ≤ wr.heap.size := by have h1 : gS < ((World.drew wr)).heap.size := ((HL.out.src.bel (Bel.refl wr).drew)).lt; have h2 : wr.heap.size ≤ ((World.drew wr)).heap.size := (hS0).size; change gS < wr.heap.size at h1; change _ ≤ wr.heap.size at h2; omega
                refine wpAnyH_mono (S' := (fun w' => Svg gS wr w' ∧ w'.heap[wr.heap.size]? = some (.cells #[.string ⟨#[114, 97]⟩, .string ⟨#[114, 98]⟩] 9 (0, 0)))) (fun _ h => h.1) _ _ _ _ ?_
                refine takeD 68 (i := 4) (v := ?v30) rfl rfl (by kernel_rfl) (by kernel_rfl) (by kernel_rfl) (fun _ _ _ h => h) (by kernel_rfl) ?hy30 ⟨hM11, ha11⟩ ?rest30
                case hy30 => (intro w0 hSw; have s0 := HF.out _ hSw.1; have sq := (nm_at HNMV.out hll hSw.2); first | (go_simp; done) | (go_simp; with_reducible rfl))
                simp only [List.setIfInBounds_toArray, List.set_cons_zero, List.set_cons_succ]
                refine takeD 69 (i := 5) (v := ?v31) rfl rfl (by kernel_rfl) (by kernel_rfl) (by kernel_rfl) (fun _ _ _ h => h) (by kernel_rfl) ?hy31 ⟨hM11, ha11⟩ ?rest31
                case hy31 => (intro w0 hSw; have s0 := HF.out _ hSw.1; have sq := (nm_at HNMV.out hll hSw.2); first | (go_simp; done) | (go_simp; with_reducible rfl))
                simp only [List.setIfInBounds_toArray, List.set_cons_zero, List.set_cons_succ]
                refine twoE 71 11 (i1 := 7) (i2 := 10) rfl rfl rfl rfl (by kernel_rfl) (by kernel_rfl) (by kernel_rfl) (fun K hK => ?_) (fun K hK => ?_)
                · go_simp
                  go_at_call 21
                  refine (next_lit HKD.out (by decide) _ ((HL.out.src.bel (Bel.refl wr).drew).bel ((Bel.refl (World.drew wr)).alloc #[.string ⟨#[114, 97]⟩, .string ⟨#[114, 98]⟩] 9))).mono ?_
                  rintro e w11 ⟨rfl, hv1, hs1⟩
                  have hS1 := hM11.trans hv1
                  have hvz1 := hv1.size
                  rw [hz11] at hvz1
                  have hN1 := hv1.stays ha11 hq11.1
                  refine hK.out _ _ ⟨hS1, hN1⟩ (fun _ => ?_)
                  clear hK K
                  simp only [List.setIfInBounds_toArray, List.set_cons_zero, List.set_cons_succ]
                  refine takeD 72 (i := 8) (v := ?v32) rfl rfl (by kernel_rfl) (by kernel_rfl) (by kernel_rfl) (fun _ _ _ h => h) (by kernel_rfl) ?hy32 ⟨hS1, hN1⟩ ?rest32
                  case hy32 => (intro w0 hSw; have s0 := HF.out _ hSw.1; have sq := (nm_at HNMV.out hll hSw.2); first | (go_simp; done) | (go_simp; with_reducible rfl))
                  simp only [List.setIfInBounds_toArray, List.set_cons_zero, List.set_cons_succ]
                  refine takeD 73 (i := 9) (v := ?v33) rfl rfl (by kernel_rfl) (by kernel_rfl) (by kernel_rfl) (fun _ _ _ h => h) (by kernel_rfl) ?hy33 ⟨hS1, hN1⟩ ?rest33
                  case hy33 => (intro w0 hSw; have s0 := HF.out _ hSw.1; have sq := (nm_at HNMV.out hll hSw.2); first | (go_simp; done) | (go_simp; with_reducible rfl))
                  simp only [List.setIfInBounds_toArray, List.set_cons_zero, List.set_cons_succ]
                  refine onlyD 11 (i := 10) rfl rfl (by kernel_rfl) (by kernel_rfl) (fun K hK => ?_)
                  go_simp
                  refine hK.out _ _ ⟨(hS1.trans (((Bel.refl w11).alloc #[.string ⟨#[]⟩, .int .i64 0] 67).svg gS)), ((Bel.refl w11).alloc #[.string ⟨#[]⟩, .int .i64 0] 67).stays hN1⟩ (fun hM12 => ?_)
                  clear hK K
                  simp only [List.setIfInBounds_toArray, List.set_cons_zero, List.set_cons_succ]
                  have hz12 : ((World.alloc w11 (.cells #[.string ⟨#[]⟩, .int .i64 0] 67))).heap.size = w11.heap.size + 1 := World.size_alloc _ _
                  have ha12 := alloc_at (w := w11) (n := w11.heap.size) rfl (.cells #[.string ⟨#[]⟩, .int .i64 0] 67)
                  have hq12 : w11.heap.size ≠ gS ∧ wr.heap.size ≤ w11.heap.size := by have h1 : gS < (w11).heap.size := (hs1).lt; have h2 : wr.heap.size ≤ (w11).heap.size := (hS1).size; change gS < w11.heap.size at h1; change _ ≤ w11.heap.size at h2; omega
                  refine onlyN (i := 11) rfl rfl (by kernel_rfl) (by kernel_rfl) (fun K hK => ?_)
                  have hst := Svg.stays (Svg.refl gS (World.alloc w11 (.cells #[.string ⟨#[]⟩, .int .i64 0] 67))) ha12 hq12.1
                  refine wp_store_row 67 (.tmp 11) (.tmp 73) rfl w11.heap.size #[.string nmv, .int .i64 (1 + kd)] (by kernel_rfl) (by kernel_rfl) 67 #[.string ⟨#[]⟩, .int .i64 0] hst (by kernel_rfl) (by kernel_rfl) (by kernel_rfl) ?_
                  refine hK.out undef _ ⟨(Svg.later hM12.1 (setRow_svg w11.heap.size (World.alloc w11 (.cells #[.string ⟨#[]⟩, .int .i64 0] 67)) #[.string nmv, .int .i64 (1 + kd)]) (fun b hb => by subst hb; exact hq12.2)), Svg.stays (setRow_svg w11.heap.size (World.alloc w11 (.cells #[.string ⟨#[]⟩, .int .i64 0] 67)) #[.string nmv, .int .i64 (1 + kd)]) hM12.2 (by omega)⟩ (fun hSF => ?_)
                  clear hK K
                  have hnw9 := setRow_heap (World.alloc w11 (.cells #[.string ⟨#[]⟩, .int .i64 0] 67)) w11.heap.size _ #[.string nmv, .int .i64 (1 + kd)] _ _ hst
                  refine wpAnyH_done (by kernel_rfl) ?_ _
                  go_wp2_with fail
                  go_meet
                  exact ⟨_, rfl, Lib.hid hnw9, Lib.hid hSF.1, Lib.hid ((hs1.bel ((Bel.refl w11).alloc #[.string ⟨#[]⟩, .int .i64 0] 67)).sv (setRow_svg w11.heap.size (World.alloc w11 (.cells #[.string ⟨#[]⟩, .int .i64 0] 67)) #[.string nmv, .int .i64 (1 + kd)]) (fun b hb => by subst hb; have := hq12; have := HL.out.src.lt; omega)), Lib.hid hq12.2⟩
                · go_simp
                  refine hK.out _ _ ⟨(hM11.trans (((Bel.refl (World.alloc (World.drew wr) (.cells #[.string ⟨#[114, 97]⟩, .string ⟨#[114, 98]⟩] 9))).alloc #[.string ⟨#[]⟩, .int .i64 0] 67).svg gS)), ((Bel.refl (World.alloc (World.drew wr) (.cells #[.string ⟨#[114, 97]⟩, .string ⟨#[114, 98]⟩] 9))).alloc #[.string ⟨#[]⟩, .int .i64 0] 67).stays ha11⟩ (fun hM13 => ?_)
                  clear hK K
                  simp only [List.setIfInBounds_toArray, List.set_cons_zero, List.set_cons_succ]
                  have hz13 : ((World.alloc (World.alloc (World.drew wr) (.cells #[.string ⟨#[114, 97]⟩, .string ⟨#[114, 98]⟩] 9)) (.cells #[.string ⟨#[]⟩, .int .i64 0] 67))).heap.size = (wr.heap.size + 1) + 1 := by rw [World.size_alloc, hz11]
                  have ha13 := alloc_at (w := (World.alloc (World.drew wr) (.cells #[.string ⟨#[114, 97]⟩, .string ⟨#[114, 98]⟩] 9))) (n := (wr.heap.size + 1)) hz11 (.cells #[.string ⟨#[]⟩, .int .i64 0] 67)
                  have hq13 : (wr.heap.size + 1) ≠ gS ∧ wr.heap.size ≤ (wr.heap.size + 1) := by have h1 : gS < ((World.alloc (World.drew wr) (.cells #[.string ⟨#[114, 97]⟩, .string ⟨#[114, 98]⟩] 9))).heap.size := (((HL.out.src.bel (Bel.refl wr).drew).bel ((Bel.refl (World.drew wr)).alloc #[.string ⟨#[114, 97]⟩, .string ⟨#[114, 98]⟩] 9))).lt; have h2 : wr.heap.size ≤ ((World.alloc (World.drew wr) (.cells #[.string ⟨#[114, 97]⟩, .string ⟨#[114, 98]⟩] 9))).heap.size := (hM11).size; rw [hz11] at h1 h2; omega
                  refine onlyD 71 (i := 7) rfl rfl (by kernel_rfl) (by kernel_rfl) (fun K hK => ?_)
                  go_simp
                  go_at_call 21
                  refine (next_lit HKD.out (by decide) _ (((HL.out.src.bel (Bel.refl wr).drew).bel ((Bel.refl (World.drew wr)).alloc #[.string ⟨#[114, 97]⟩, .string ⟨#[114, 98]⟩] 9)).bel ((Bel.refl (World.alloc (World.drew wr) (.cells #[.string ⟨#[114, 97]⟩, .string ⟨#[114, 98]⟩] 9))).alloc #[.string ⟨#[]⟩, .int .i64 0] 67))).mono ?_
                  rintro e w11 ⟨rfl, hv1, hs1⟩
                  have hS1 := hM13.1.trans hv1
                  have hvz1 := hv1.size
                  rw [hz13] at hvz1
                  have hN1 := hv1.stays hM13.2 hq11.1
                  refine hK.out _ _ ⟨hS1, hN1⟩ (fun _ => ?_)
                  clear hK K
                  simp only [List.setIfInBounds_toArray, List.set_cons_zero, List.set_cons_succ]
                  refine takeD 72 (i := 8) (v := ?v34) rfl rfl (by kernel_rfl) (by kernel_rfl) (by kernel_rfl) (fun _ _ _ h => h) (by kernel_rfl) ?hy34 ⟨hS1, hN1⟩ ?rest34
                  case hy34 => (intro w0 hSw; have s0 := HF.out _ hSw.1; have sq := (nm_at HNMV.out hll hSw.2); first | (go_simp; done) | (go_simp; with_reducible rfl))
                  simp only [List.setIfInBounds_toArray, List.set_cons_zero, List.set_cons_succ]
                  refine takeD 73 (i := 9) (v := ?v35) rfl rfl (by kernel_rfl) (by kernel_rfl) (by kernel_rfl) (fun _ _ _ h => h) (by kernel_rfl) ?hy35 ⟨hS1, hN1⟩ ?rest35
                  case hy35 => (intro w0 hSw; have s0 := HF.out _ hSw.1; have sq := (nm_at HNMV.out hll hSw.2); first | (go_simp; done) | (go_simp; with_reducible rfl))
                  simp only [List.setIfInBounds_toArray, List.set_cons_zero, List.set_cons_succ]
                  refine onlyN (i := 11) rfl rfl (by kernel_rfl) (by kernel_rfl) (fun K hK => ?_)
                  have hst := Svg.stays ((Svg.refl gS (World.alloc (World.alloc (World.drew wr) (.cells #[.string ⟨#[114, 97]⟩, .string ⟨#[114, 98]⟩] 9)) (.cells #[.string ⟨#[]⟩, .int .i64 0] 67))).trans hv1) ha13 hq13.1
                  refine wp_store_row 67 (.tmp 11) (.tmp 73) rfl (wr.heap.size + 1) #[.string nmv, .int .i64 (1 + kd)] (by kernel_rfl) (by kernel_rfl) 67 #[.string ⟨#[]⟩, .int .i64 0] hst (by kernel_rfl) (by kernel_rfl) (by kernel_rfl) ?_
                  refine hK.out undef _ ⟨(Svg.later hS1 (setRow_svg (wr.heap.size + 1) w11 #[.string nmv, .int .i64 (1 + kd)]) (fun b hb => by subst hb; exact hq13.2)), Svg.stays (setRow_svg (wr.heap.size + 1) w11 #[.string nmv, .int .i64 (1 + kd)]) hN1 (by omega)⟩ (fun hSF => ?_)
                  clear hK K
                  have hnw9 := setRow_heap w11 (wr.heap.size + 1) _ #[.string nmv, .int .i64 (1 + kd)] _ _ hst
                  refine wpAnyH_done (by kernel_rfl) ?_ _
                  go_wp2_with fail
                  go_meet
                  exact ⟨_, rfl, Lib.hid hnw9, Lib.hid hSF.1, Lib.hid (hs1.sv (setRow_svg (wr.heap.size + 1) w11 #[.string nmv, .int .i64 (1 + kd)]) (fun b hb => by subst hb; have := hq13; have := HL.out.src.lt; omega)), Lib.hid hq13.2⟩
              · go_simp
                go_at_call 21
                refine (next_lit HKD.out (by decide) _ (HL.out.src.bel (Bel.refl wr).drew)).mono ?_
                rintro e w11 ⟨rfl, hv1, hs1⟩
                have hS1 := hS0.trans hv1
                have hvz1 := hv1.size
                change wr.heap.size ≤ _ at hvz1
                refine hK.out _ _ hS1 (fun _ => ?_)
                clear hK K
                simp only [List.setIfInBounds_toArray, List.set_cons_zero, List.set_cons_succ]
                refine takeD 72 (i := 8) (v := ?v36) rfl rfl (by kernel_rfl) (by kernel_rfl) (by kernel_rfl) (fun _ _ _ h => h) (by kernel_rfl) ?hy36 hS1 ?rest36
                case hy36 => (intro w0 hSw; have s0 := HF.out _ hSw; first | (go_simp; done) | (go_simp; with_reducible rfl))
                simp only [List.setIfInBounds_toArray, List.set_cons_zero, List.set_cons_succ]
                refine twoE 64 11 (i1 := 0) (i2 := 10) rfl rfl rfl rfl (by kernel_rfl) (by kernel_rfl) (by kernel_rfl) (fun K hK => ?_) (fun K hK => ?_)
                · go_simp
                  refine hK.out _ _ (hS1.trans (((Bel.refl w11).alloc #[.string ⟨#[114, 97]⟩, .string ⟨#[114, 98]⟩] 9).svg gS)) (fun hM14 => ?_)
                  clear hK K
                  simp only [List.setIfInBounds_toArray, List.set_cons_zero, List.set_cons_succ]
                  have hz14 : ((World.alloc w11 (.cells #[.string ⟨#[114, 97]⟩, .string ⟨#[114, 98]⟩] 9))).heap.size = w11.heap.size + 1 := World.size_alloc _ _
                  have ha14 := alloc_at (w := w11) (n := w11.heap.size) rfl (.cells #[.string ⟨#[114, 97]⟩, .string ⟨#[114, 98]⟩] 9)
                  have hq14 : w11.heap.size ≠ gS ∧ wr.heap.size ≤ w11.heap.size := by have h1 : gS < (w11).heap.size := (hs1).lt; have h2 : wr.heap.size ≤ (w11).heap.size := (hS1).size; change gS < w11.heap.size at h1; change _ ≤ w11.heap.size at h2; omega
                  refine wpAnyH_mono (S' := (fun w' => Svg gS wr w' ∧ w'.heap[w11.heap.size]? = some (.cells #[.string ⟨#[114, 97]⟩, .string ⟨#[114, 98]⟩] 9 (0, 0)))) (fun _ h => h.1) _ _ _ _ ?_
                  refine takeD 68 (i := 4) (v := ?v37) rfl rfl (by kernel_rfl) (by kernel_rfl) (by kernel_rfl) (fun _ _ _ h => h) (by kernel_rfl) ?hy37 ⟨hM14, ha14⟩ ?rest37
                  case hy37 => (intro w0 hSw; have s0 := HF.out _ hSw.1; have sq := (nm_at HNMV.out hll hSw.2); first | (go_simp; done) | (go_simp; with_reducible rfl))
                  simp only [List.setIfInBounds_toArray, List.set_cons_zero, List.set_cons_succ]
                  refine takeD 69 (i := 5) (v := ?v38) rfl rfl (by kernel_rfl) (by kernel_rfl) (by kernel_rfl) (fun _ _ _ h => h) (by kernel_rfl) ?hy38 ⟨hM14, ha14⟩ ?rest38
                  case hy38 => (intro w0 hSw; have s0 := HF.out _ hSw.1; have sq := (nm_at HNMV.out hll hSw.2); first | (go_simp; done) | (go_simp; with_reducible rfl))
                  simp only [List.setIfInBounds_toArray, List.set_cons_zero, List.set_cons_succ]
                  refine takeD 73 (i := 9) (v := ?v39) rfl rfl (by kernel_rfl) (by kernel_rfl) (by kernel_rfl) (fun _ _ _ h => h) (by kernel_rfl) ?hy39 ⟨hM14, ha14⟩ ?rest39
                  case hy39 => (intro w0 hSw; have s0 := HF.out _ hSw.1; have sq := (nm_at HNMV.out hll hSw.2); first | (go_simp; done) | (go_simp; with_reducible rfl))
                  simp only [List.setIfInBounds_toArray, List.set_cons_zero, List.set_cons_succ]
                  refine onlyD 11 (i := 10) rfl rfl (by kernel_rfl) (by kernel_rfl) (fun K hK => ?_)
                  go_simp
                  refine hK.out _ _ ⟨(hM14.trans (((Bel.refl (World.alloc w11 (.cells #[.string ⟨#[114, 97]⟩, .string ⟨#[114, 98]⟩] 9))).alloc #[.string ⟨#[]⟩, .int .i64 0] 67).svg gS)), ((Bel.refl (World.alloc w11 (.cells #[.string ⟨#[114, 97]⟩, .string ⟨#[114, 98]⟩] 9))).alloc #[.string ⟨#[]⟩, .int .i64 0] 67).stays ha14⟩ (fun hM15 => ?_)
                  clear hK K
                  simp only [List.setIfInBounds_toArray, List.set_cons_zero, List.set_cons_succ]
                  have hz15 : ((World.alloc (World.alloc w11 (.cells #[.string ⟨#[114, 97]⟩, .string ⟨#[114, 98]⟩] 9)) (.cells #[.string ⟨#[]⟩, .int .i64 0] 67))).heap.size = (w11.heap.size + 1) + 1 := by rw [World.size_alloc, hz14]
                  have ha15 := alloc_at (w := (World.alloc w11 (.cells #[.string ⟨#[114, 97]⟩, .string ⟨#[114, 98]⟩] 9))) (n := (w11.heap.size + 1)) hz14 (.cells #[.string ⟨#[]⟩, .int .i64 0] 67)
                  have hq15 : (w11.heap.size + 1) ≠ gS ∧ wr.heap.size ≤ (w11.heap.size + 1) := by have h1 : gS < ((World.alloc w11 (.cells #[.string ⟨#[114, 97]⟩, .string ⟨#[114, 98]⟩] 9))).heap.size := ((hs1.bel ((Bel.refl w11).alloc #[.string ⟨#[114, 97]⟩, .string ⟨#[114, 98]⟩] 9))).lt; have h2 : wr.heap.size ≤ ((World.alloc w11 (.cells #[.string ⟨#[114, 97]⟩, .string ⟨#[114, 98]⟩] 9))).heap.size := (hM14).size; rw [hz14] at h1 h2; omega
                  refine onlyN (i := 11) rfl rfl (by kernel_rfl) (by kernel_rfl) (fun K hK => ?_)
                  have hst := Svg.stays (Svg.refl gS (World.alloc (World.alloc w11 (.cells #[.string ⟨#[114, 97]⟩, .string ⟨#[114, 98]⟩] 9)) (.cells #[.string ⟨#[]⟩, .int .i64 0] 67))) ha15 hq15.1
                  refine wp_store_row 67 (.tmp 11) (.tmp 73) rfl (w11.heap.size + 1) #[.string nmv, .int .i64 (1 + kd)] (by kernel_rfl) (by kernel_rfl) 67 #[.string ⟨#[]⟩, .int .i64 0] hst (by kernel_rfl) (by kernel_rfl) (by kernel_rfl) ?_
                  refine hK.out undef _ ⟨(Svg.later hM15.1 (setRow_svg (w11.heap.size + 1) (World.alloc (World.alloc w11 (.cells #[.string ⟨#[114, 97]⟩, .string ⟨#[114, 98]⟩] 9)) (.cells #[.string ⟨#[]⟩, .int .i64 0] 67)) #[.string nmv, .int .i64 (1 + kd)]) (fun b hb => by subst hb; exact hq15.2)), Svg.stays (setRow_svg (w11.heap.size + 1) (World.alloc (World.alloc w11 (.cells #[.string ⟨#[114, 97]⟩, .string ⟨#[114, 98]⟩] 9)) (.cells #[.string ⟨#[]⟩, .int .i64 0] 67)) #[.string nmv, .int .i64 (1 + kd)]) hM15.2 (by omega)⟩ (fun hSF => ?_)
                  clear hK K
                  have hnw9 := setRow_heap (World.alloc (World.alloc w11 (.cells #[.string ⟨#[114, 97]⟩, .string ⟨#[114, 98]⟩] 9)) (.cells #[.string ⟨#[]⟩, .int .i64 0] 67)) (w11.heap.size + 1) _ #[.string nmv, .int .i64 (1 + kd)] _ _ hst
                  refine wpAnyH_done (by kernel_rfl) ?_ _
                  go_wp2_with fail
                  go_meet
                  exact ⟨_, rfl, Lib.hid hnw9, Lib.hid hSF.1, Lib.hid (((hs1.bel ((Bel.refl w11).alloc #[.string ⟨#[114, 97]⟩, .string ⟨#[114, 98]⟩] 9)).bel ((Bel.refl (World.alloc w11 (.cells #[.string ⟨#[114, 97]⟩, .string ⟨#[114, 98]⟩] 9))).alloc #[.string ⟨#[]⟩, .int .i64 0] 67)).sv (setRow_svg (w11.heap.size + 1) (World.alloc (World.alloc w11 (.cells #[.string ⟨#[114, 97]⟩, .string ⟨#[114, 98]⟩] 9)) (.cells #[.string ⟨#[]⟩, .int .i64 0] 67)) #[.string nmv, .int .i64 (1 + kd)]) (fun b hb => by subst hb; have := hq15; have := HL.out.src.lt; omega)), Lib.hid hq15.2⟩
                · go_simp
                  refine hK.out _ _ (hS1.trans (((Bel.refl w11).alloc #[.string ⟨#[]⟩, .int .i64 0] 67).svg gS)) (fun hM16 => ?_)
                  clear hK K
                  simp only [List.setIfInBounds_toArray, List.set_cons_zero, List.set_cons_succ]
                  have hz16 : ((World.alloc w11 (.cells #[.string ⟨#[]⟩, .int .i64 0] 67))).heap.size = w11.heap.size + 1 := World.size_alloc _ _
                  have ha16 := alloc_at (w := w11) (n := w11.heap.size) rfl (.cells #[.string ⟨#[]⟩, .int .i64 0] 67)
                  have hq16 : w11.heap.size ≠ gS ∧ wr.heap.size ≤ w11.heap.size := by have h1 : gS < (w11).heap.size := (hs1).lt; have h2 : wr.heap.size ≤ (w11).heap.size := (hS1).size; change gS < w11.heap.size at h1; change _ ≤ w11.heap.size at h2; omega
                  refine onlyD 64 (i := 0) rfl rfl (by kernel_rfl) (by kernel_rfl) (fun K hK => ?_)
                  go_simp
                  refine hK.out _ _ (hM16.trans (((Bel.refl (World.alloc w11 (.cells #[.string ⟨#[]⟩, .int .i64 0] 67))).alloc #[.string ⟨#[114, 97]⟩, .string ⟨#[114, 98]⟩] 9).svg gS)) (fun hM17 => ?_)
                  clear hK K
                  simp only [List.setIfInBounds_toArray, List.set_cons_zero, List.set_cons_succ]
                  have hz17 : ((World.alloc (World.alloc w11 (.cells #[.string ⟨#[]⟩, .int .i64 0] 67)) (.cells #[.string ⟨#[114, 97]⟩, .string ⟨#[114, 98]⟩] 9))).heap.size = (w11.heap.size + 1) + 1 := by rw [World.size_alloc, hz16]
                  have ha17 := alloc_at (w := (World.alloc w11 (.cells #[.string ⟨#[]⟩, .int .i64 0] 67))) (n := (w11.heap.size + 1)) hz16 (.cells #[.string ⟨#[114, 97]⟩, .string ⟨#[114, 98]⟩] 9)
                  have hq17 : (w11.heap.size + 1) ≠ gS ∧ wr.heap.size ≤ (w11.heap.size + 1) := by have h1 : gS < ((World.alloc w11 (.cells #[.string ⟨#[]⟩, .int .i64 0] 67))).heap.size := ((hs1.bel ((Bel.refl w11).alloc #[.string ⟨#[]⟩, .int .i64 0] 67))).lt; have h2 : wr.heap.size ≤ ((World.alloc w11 (.cells #[.string ⟨#[]⟩, .int .i64 0] 67))).heap.size := (hM16).size; rw [hz16] at h1 h2; omega
                  refine wpAnyH_mono (S' := (fun w' => Svg gS wr w' ∧ w'.heap[(w11.heap.size + 1)]? = some (.cells #[.string ⟨#[114, 97]⟩, .string ⟨#[114, 98]⟩] 9 (0, 0)))) (fun _ h => h.1) _ _ _ _ ?_
                  refine takeD 68 (i := 4) (v := ?v40) rfl rfl (by kernel_rfl) (by kernel_rfl) (by kernel_rfl) (fun _ _ _ h => h) (by kernel_rfl) ?hy40 ⟨hM17, ha17⟩ ?rest40
                  case hy40 => (intro w0 hSw; have s0 := HF.out _ hSw.1; have sq := (nm_at HNMV.out hll hSw.2); first | (go_simp; done) | (go_simp; with_reducible rfl))
                  simp only [List.setIfInBounds_toArray, List.set_cons_zero, List.set_cons_succ]
                  refine takeD 69 (i := 5) (v := ?v41) rfl rfl (by kernel_rfl) (by kernel_rfl) (by kernel_rfl) (fun _ _ _ h => h) (by kernel_rfl) ?hy41 ⟨hM17, ha17⟩ ?rest41
                  case hy41 => (intro w0 hSw; have s0 := HF.out _ hSw.1; have sq := (nm_at HNMV.out hll hSw.2); first | (go_simp; done) | (go_simp; with_reducible rfl))
                  simp only [List.setIfInBounds_toArray, List.set_cons_zero, List.set_cons_succ]
                  refine takeD 73 (i := 9) (v := ?v42) rfl rfl (by kernel_rfl) (by kernel_rfl) (by kernel_rfl) (fun _ _ _ h => h) (by kernel_rfl) ?hy42 ⟨hM17, ha17⟩ ?rest42
                  case hy42 => (intro w0 hSw; have s0 := HF.out _ hSw.1; have sq := (nm_at HNMV.out hll hSw.2); first | (go_simp; done) | (go_simp; with_reducible rfl))
                  simp only [List.setIfInBounds_toArray, List.set_cons_zero, List.set_cons_succ]
                  refine onlyN (i := 11) rfl rfl (by kernel_rfl) (by kernel_rfl) (fun K hK => ?_)
                  have hst := Svg.stays ((Svg.refl gS (World.alloc w11 (.cells #[.string ⟨#[]⟩, .int .i64 0] 67))).trans (((Bel.refl (World.alloc w11 (.cells #[.string ⟨#[]⟩, .int .i64 0] 67))).alloc #[.string ⟨#[114, 97]⟩, .string ⟨#[114, 98]⟩] 9).svg gS)) ha16 hq16.1
                  refine wp_store_row 67 (.tmp 11) (.tmp 73) rfl w11.heap.size #[.string nmv, .int .i64 (1 + kd)] (by kernel_rfl) (by kernel_rfl) 67 #[.string ⟨#[]⟩, .int .i64 0] hst (by kernel_rfl) (by kernel_rfl) (by kernel_rfl) ?_
                  refine hK.out undef _ ⟨(Svg.later hM17 (setRow_svg w11.heap.size (World.alloc (World.alloc w11 (.cells #[.string ⟨#[]⟩, .int .i64 0] 67)) (.cells #[.string ⟨#[114, 97]⟩, .string ⟨#[114, 98]⟩] 9)) #[.string nmv, .int .i64 (1 + kd)]) (fun b hb => by subst hb; exact hq16.2)), Svg.stays (setRow_svg w11.heap.size (World.alloc (World.alloc w11 (.cells #[.string ⟨#[]⟩, .int .i64 0] 67)) (.cells #[.string ⟨#[114, 97]⟩, .string ⟨#[114, 98]⟩] 9)) #[.string nmv, .int .i64 (1 + kd)]) ha17 (by omega)⟩ (fun hSF => ?_)
                  clear hK K
                  have hnw9 := setRow_heap (World.alloc (World.alloc w11 (.cells #[.string ⟨#[]⟩, .int .i64 0] 67)) (.cells #[.string ⟨#[114, 97]⟩, .string ⟨#[114, 98]⟩] 9)) w11.heap.size _ #[.string nmv, .int .i64 (1 + kd)] _ _ hst
                  refine wpAnyH_done (by kernel_rfl) ?_ _
                  go_wp2_with fail
                  go_meet
                  exact ⟨_, rfl, Lib.hid hnw9, Lib.hid hSF.1, Lib.hid (((hs1.bel ((Bel.refl w11).alloc #[.string ⟨#[]⟩, .int .i64 0] 67)).bel ((Bel.refl (World.alloc w11 (.cells #[.string ⟨#[]⟩, .int .i64 0] 67))).alloc #[.string ⟨#[114, 97]⟩, .string ⟨#[114, 98]⟩] 9)).sv (setRow_svg w11.heap.size (World.alloc (World.alloc w11 (.cells #[.string ⟨#[]⟩, .int .i64 0] 67)) (.cells #[.string ⟨#[114, 97]⟩, .string ⟨#[114, 98]⟩] 9)) #[.string nmv, .int .i64 (1 + kd)]) (fun b hb => by subst hb; have := hq16; have := HL.out.src.lt; omega)), Lib.hid hq16.2⟩
              · go_simp
                refine hK.out _ _ (hS0.trans (((Bel.refl (World.drew wr)).alloc #[.string ⟨#[]⟩, .int .i64 0] 67).svg gS)) (fun hM18 => ?_)
                clear hK K
                simp only [List.setIfInBounds_toArray, List.set_cons_zero, List.set_cons_succ]
                have hz18 : ((World.alloc (World.drew wr) (.cells #[.string ⟨#[]⟩, .int .i64 0] 67))).heap.size = wr.heap.size + 1 := World.size_alloc _ _
                have ha18 := alloc_at (w := (World.drew wr)) (n := wr.heap.size) rfl (.cells #[.string ⟨#[]⟩, .int .i64 0] 67)
                have hq18 : wr.heap.size ≠ gS ∧ wr.heap.size ≤ wr.heap.size := by have h1 : gS < ((World.drew wr)).heap.size := ((HL.out.src.bel (Bel.refl wr).drew)).lt; have h2 : wr.heap.size ≤ ((World.drew wr)).heap.size := (hS0).size; change gS < wr.heap.size at h1; change _ ≤ wr.heap.size at h2; omega
                refine twoE 64 71 (i1 := 0) (i2 := 7) rfl rfl rfl rfl (by kernel_rfl) (by kernel_rfl) (by kernel_rfl) (fun K hK => ?_) (fun K hK => ?_)
                · go_simp
                  refine hK.out _ _ (hM18.trans (((Bel.refl (World.alloc (World.drew wr) (.cells #[.string ⟨#[]⟩, .int .i64 0] 67))).alloc #[.string ⟨#[114, 97]⟩, .string ⟨#[114, 98]⟩] 9).svg gS)) (fun hM19 => ?_)
                  clear hK K
                  simp only [List.setIfInBounds_toArray, List.set_cons_zero, List.set_cons_succ]
                  have hz19 : ((World.alloc (World.alloc (World.drew wr) (.cells #[.string ⟨#[]⟩, .int .i64 0] 67)) (.cells #[.string ⟨#[114, 97]⟩, .string ⟨#[114, 98]⟩] 9))).heap.size = (wr.heap.size + 1) + 1 := by rw [World.size_alloc, hz18]
                  have ha19 := alloc_at (w := (World.alloc (World.drew wr) (.cells #[.string ⟨#[]⟩, .int .i64 0] 67))) (n := (wr.heap.size + 1)) hz18 (.cells #[.string ⟨#[114, 97]⟩, .string ⟨#[114, 98]⟩] 9)
                  have hq19 : (wr.heap.size + 1) ≠ gS ∧ wr.heap.size ≤ (wr.heap.size + 1) := by have h1 : gS < ((World.alloc (World.drew wr) (.cells #[.string ⟨#[]⟩, .int .i64 0] 67))).heap.size := (((HL.out.src.bel (Bel.refl wr).drew).bel ((Bel.refl (World.drew wr)).alloc #[.string ⟨#[]⟩, .int .i64 0] 67))).lt; have h2 : wr.heap.size ≤ ((World.alloc (World.drew wr) (.cells #[.string ⟨#[]⟩, .int .i64 0] 67))).heap.size := (hM18).size; rw [hz18] at h1 h2; omega
                  refine wpAnyH_mono (S' := (fun w' => Svg gS wr w' ∧ w'.heap[(wr.heap.size + 1)]? = some (.cells #[.string ⟨#[114, 97]⟩, .string ⟨#[114, 98]⟩] 9 (0, 0)))) (fun _ h => h.1) _ _ _ _ ?_
                  refine takeD 68 (i := 4) (v := ?v43) rfl rfl (by kernel_rfl) (by kernel_rfl) (by kernel_rfl) (fun _ _ _ h => h) (by kernel_rfl) ?hy43 ⟨hM19, ha19⟩ ?rest43
                  case hy43 => (intro w0 hSw; have s0 := HF.out _ hSw.1; have sq := (nm_at HNMV.out hll hSw.2); first | (go_simp; done) | (go_simp; with_reducible rfl))
                  simp only [List.setIfInBounds_toArray, List.set_cons_zero, List.set_cons_succ]
                  refine takeD 69 (i := 5) (v := ?v44) rfl rfl (by kernel_rfl) (by kernel_rfl) (by kernel_rfl) (fun _ _ _ h => h) (by kernel_rfl) ?hy44 ⟨hM19, ha19⟩ ?rest44
                  case hy44 => (intro w0 hSw; have s0 := HF.out _ hSw.1; have sq := (nm_at HNMV.out hll hSw.2); first | (go_simp; done) | (go_simp; with_reducible rfl))
                  simp only [List.setIfInBounds_toArray, List.set_cons_zero, List.set_cons_succ]
                  refine onlyD 71 (i := 7) rfl rfl (by kernel_rfl) (by kernel_rfl) (fun K hK => ?_)
                  go_simp
                  go_at_call 21
                  refine (next_lit HKD.out (by decide) _ (((HL.out.src.bel (Bel.refl wr).drew).bel ((Bel.refl (World.drew wr)).alloc #[.string ⟨#[]⟩, .int .i64 0] 67)).bel ((Bel.refl (World.alloc (World.drew wr) (.cells #[.string ⟨#[]⟩, .int .i64 0] 67))).alloc #[.string ⟨#[114, 97]⟩, .string ⟨#[114, 98]⟩] 9))).mono ?_
                  rintro e w11 ⟨rfl, hv1, hs1⟩
                  have hS1 := hM19.trans hv1
                  have hvz1 := hv1.size
                  rw [hz19] at hvz1
                  have hN1 := hv1.stays ha19 hq19.1
                  refine hK.out _ _ ⟨hS1, hN1⟩ (fun _ => ?_)
                  clear hK K
                  simp only [List.setIfInBounds_toArray, List.set_cons_zero, List.set_cons_succ]
                  refine takeD 72 (i := 8) (v := ?v45) rfl rfl (by kernel_rfl) (by kernel_rfl) (by kernel_rfl) (fun _ _ _ h => h) (by kernel_rfl) ?hy45 ⟨hS1, hN1⟩ ?rest45
                  case hy45 => (intro w0 hSw; have s0 := HF.out _ hSw.1; have sq := (nm_at HNMV.out hll hSw.2); first | (go_simp; done) | (go_simp; with_reducible rfl))
                  simp only [List.setIfInBounds_toArray, List.set_cons_zero, List.set_cons_succ]
                  refine takeD 73 (i := 9) (v := ?v46) rfl rfl (by kernel_rfl) (by kernel_rfl) (by kernel_rfl) (fun _ _ _ h => h) (by kernel_rfl) ?hy46 ⟨hS1, hN1⟩ ?rest46
                  case hy46 => (intro w0 hSw; have s0 := HF.out _ hSw.1; have sq := (nm_at HNMV.out hll hSw.2); first | (go_simp; done) | (go_simp; with_reducible rfl))
                  simp only [List.setIfInBounds_toArray, List.set_cons_zero, List.set_cons_succ]
                  refine onlyN (i := 11) rfl rfl (by kernel_rfl) (by kernel_rfl) (fun K hK => ?_)
                  have hst := Svg.stays (((Svg.refl gS (World.alloc (World.drew wr) (.cells #[.string ⟨#[]⟩, .int .i64 0] 67))).trans (((Bel.refl (World.alloc (World.drew wr) (.cells #[.string ⟨#[]⟩, .int .i64 0] 67))).alloc #[.string ⟨#[114, 97]⟩, .string ⟨#[114, 98]⟩] 9).svg gS)).trans hv1) ha18 hq18.1
                  refine wp_store_row 67 (.tmp 11) (.tmp 73) rfl wr.heap.size #[.string nmv, .int .i64 (1 + kd)] (by kernel_rfl) (by kernel_rfl) 67 #[.string ⟨#[]⟩, .int .i64 0] hst (by kernel_rfl) (by kernel_rfl) (by kernel_rfl) ?_
                  refine hK.out undef _ ⟨(Svg.later hS1 (setRow_svg wr.heap.size w11 #[.string nmv, .int .i64 (1 + kd)]) (fun b hb => by subst hb; exact hq18.2)), Svg.stays (setRow_svg wr.heap.size w11 #[.string nmv, .int .i64 (1 + kd)]) hN1 (by omega)⟩ (fun hSF => ?_)
                  clear hK K
                  have hnw9 := setRow_heap w11 wr.heap.size _ #[.string nmv, .int .i64 (1 + kd)] _ _ hst
                  refine wpAnyH_done (by kernel_rfl) ?_ _
                  go_wp2_with fail
                  go_meet
                  exact ⟨_, rfl, Lib.hid hnw9, Lib.hid hSF.1, Lib.hid (hs1.sv (setRow_svg wr.heap.size w11 #[.string nmv, .int .i64 (1 + kd)]) (fun b hb => by subst hb; have := hq18; have := HL.out.src.lt; omega)), Lib.hid hq18.2⟩
                · go_simp
                  go_at_call 21
                  refine (next_lit HKD.out (by decide) _ ((HL.out.src.bel (Bel.refl wr).drew).bel ((Bel.refl (World.drew wr)).alloc #[.string ⟨#[]⟩, .int .i64 0] 67))).mono ?_
                  rintro e w11 ⟨rfl, hv1, hs1⟩
                  have hS1 := hM18.trans hv1
                  have hvz1 := hv1.size
                  rw [hz18] at hvz1
                  refine hK.out _ _ hS1 (fun _ => ?_)
                  clear hK K
                  simp only [List.setIfInBounds_toArray, List.set_cons_zero, List.set_cons_succ]
                  refine takeD 72 (i := 8) (v := ?v47) rfl rfl (by kernel_rfl) (by kernel_rfl) (by kernel_rfl) (fun _ _ _ h => h) (by kernel_rfl) ?hy47 hS1 ?rest47
                  case hy47 => (intro w0 hSw; have s0 := HF.out _ hSw; first | (go_simp; done) | (go_simp; with_reducible rfl))
                  simp only [List.setIfInBounds_toArray, List.set_cons_zero, List.set_cons_succ]
                  refine onlyD 64 (i := 0) rfl rfl (by kernel_rfl) (by kernel_rfl) (fun K hK => ?_)
                  go_simp
                  refine hK.out _ _ (hS1.trans (((Bel.refl w11).alloc #[.string ⟨#[114, 97]⟩, .string ⟨#[114, 98]⟩] 9).svg gS)) (fun hM20 => ?_)
                  clear hK K
                  simp only [List.setIfInBounds_toArray, List.set_cons_zero, List.set_cons_succ]
                  have hz20 : ((World.alloc w11 (.cells #[.string ⟨#[114, 97]⟩, .string ⟨#[114, 98]⟩] 9))).heap.size = w11.heap.size + 1 := World.size_alloc _ _
                  have ha20 := alloc_at (w := w11) (n := w11.heap.size) rfl (.cells #[.string ⟨#[114, 97]⟩, .string ⟨#[114, 98]⟩] 9)
                  have hq20 : w11.heap.size ≠ gS ∧ wr.heap.size ≤ w11.heap.size := by have h1 : gS < (w11).heap.size := (hs1).lt; have h2 : wr.heap.size ≤ (w11).heap.size := (hS1).size; change gS < w11.heap.size at h1; change _ ≤ w11.heap.size at h2; omega
                  refine wpAnyH_mono (S' := (fun w' => Svg gS wr w' ∧ w'.heap[w11.heap.size]? = some (.cells #[.string ⟨#[114, 97]⟩, .string ⟨#[114, 98]⟩] 9 (0, 0)))) (fun _ h => h.1) _ _ _ _ ?_
                  refine takeD 68 (i := 4) (v := ?v48) rfl rfl (by kernel_rfl) (by kernel_rfl) (by kernel_rfl) (fun _ _ _ h => h) (by kernel_rfl) ?hy48 ⟨hM20, ha20⟩ ?rest48
                  case hy48 => (intro w0 hSw; have s0 := HF.out _ hSw.1; have sq := (nm_at HNMV.out hll hSw.2); first | (go_simp; done) | (go_simp; with_reducible rfl))
                  simp only [List.setIfInBounds_toArray, List.set_cons_zero, List.set_cons_succ]
                  refine takeD 69 (i := 5) (v := ?v49) rfl rfl (by kernel_rfl) (by kernel_rfl) (by kernel_rfl) (fun _ _ _ h => h) (by kernel_rfl) ?hy49 ⟨hM20, ha20⟩ ?rest49
                  case hy49 => (intro w0 hSw; have s0 := HF.out _ hSw.1; have sq := (nm_at HNMV.out hll hSw.2); first | (go_simp; done) | (go_simp; with_reducible rfl))
                  simp only [List.setIfInBounds_toArray, List.set_cons_zero, List.set_cons_succ]
                  refine takeD 73 (i := 9) (v := ?v50) rfl rfl (by kernel_rfl) (by kernel_rfl) (by kernel_rfl) (fun _ _ _ h => h) (by kernel_rfl) ?hy50 ⟨hM20, ha20⟩ ?rest50
                  case hy50 => (intro w0 hSw; have s0 := HF.out _ hSw.1; have sq := (nm_at HNMV.out hll hSw.2); first | (go_simp; done) | (go_simp; with_reducible rfl))
                  simp only [List.setIfInBounds_toArray, List.set_cons_zero, List.set_cons_succ]
                  refine onlyN (i := 11) rfl rfl (by kernel_rfl) (by kernel_rfl) (fun K hK => ?_)
                  have hst := Svg.stays (((Svg.refl gS (World.alloc (World.drew wr) (.cells #[.string ⟨#[]⟩, .int .i64 0] 67))).trans hv1).trans (((Bel.refl w11).alloc #[.string ⟨#[114, 97]⟩, .string ⟨#[114, 98]⟩] 9).svg gS)) ha18 hq18.1
                  refine wp_store_row 67 (.tmp 11) (.tmp 73) rfl wr.heap.size #[.string nmv, .int .i64 (1 + kd)] (by kernel_rfl) (by kernel_rfl) 67 #[.string ⟨#[]⟩, .int .i64 0] hst (by kernel_rfl) (by kernel_rfl) (by kernel_rfl) ?_
                  refine hK.out undef _ ⟨(Svg.later hM20 (setRow_svg wr.heap.size (World.alloc w11 (.cells #[.string ⟨#[114, 97]⟩, .string ⟨#[114, 98]⟩] 9)) #[.string nmv, .int .i64 (1 + kd)]) (fun b hb => by subst hb; exact hq18.2)), Svg.stays (setRow_svg wr.heap.size (World.alloc w11 (.cells #[.string ⟨#[114, 97]⟩, .string ⟨#[114, 98]⟩] 9)) #[.string nmv, .int .i64 (1 + kd)]) ha20 (by omega)⟩ (fun hSF => ?_)
                  clear hK K
                  have hnw9 := setRow_heap (World.alloc w11 (.cells #[.string ⟨#[114, 97]⟩, .string ⟨#[114, 98]⟩] 9)) wr.heap.size _ #[.string nmv, .int .i64 (1 + kd)] _ _ hst
                  refine wpAnyH_done (by kernel_rfl) ?_ _
                  go_wp2_with fail
                  go_meet
                  exact ⟨_, rfl, Lib.hid hnw9, Lib.hid hSF.1, Lib.hid ((hs1.bel ((Bel.refl w11).alloc #[.string ⟨#[114, 97]⟩, .string ⟨#[114, 98]⟩] 9)).sv (setRow_svg wr.heap.size (World.alloc w11 (.cells #[.string ⟨#[114, 97]⟩, .string ⟨#[114, 98]⟩] 9)) #[.string nmv, .int .i64 (1 + kd)]) (fun b hb => by subst hb; have := hq18; have := HL.out.src.lt; omega)), Lib.hid hq18.2⟩
      | succ mm =>
        obtain ⟨pd, cd, hvd, hpe, hpg⟩ := HL.out.dv.form devTy.len
        obtain ⟨pn, cn, hvn, hne, hng⟩ := HL.out.nm.form nameTy.len
        subst hvd
        subst hvn
        obtain ⟨kd, r', hkd⟩ : ∃ kd r', nx r 3 = (kd, r') := ⟨_, _, rfl⟩
        have hkb := nx_bd r (n := 3) (by omega)
        rw [hkd] at hkb
        have HKD := Lib.hid hkd
        have HKB := Lib.hid hkb
        have hll : l.length < 3 := by have := HLN.out; have := HK3.out; omega
        have hi0 : (0 : Int) ≤ (l.length : Int) := by omega
        have hi1 : (l.length : Int) < 3 := by omega
        have hw2 : IntKind.i64.wrap (1 + kd) = 1 + kd := IntWalk.i64_in _ (by constructor <;> omega)
        have hge : (0 ≤ (mm : Int)) = True := eq_true (by omega)
        obtain ⟨nmv, hnmv⟩ : ∃ v, dnames.getD l.length ⟨#[]⟩ = v := ⟨_, rfl⟩
        have HNMV := Lib.hid hnmv
        have HF : Hid (∀ W', Svg gS wr W' → W'.cell? ⟨gP, 1, none⟩ = some (.slice pd l.length cd)) := Lib.hid (fun W' hv => cell_of_heap (hv.stays HL.out.p (by have := HL.out.sp; omega)) 1)
        clear hkd hkb hnmv hpe hpg hne hng
        have hee : (((mm + 1 : Nat) : Int) - 1) = (mm : Int) := by omega
        rw [hee]
        clear hee
        go_upto_region 9 with (fail)
        go_cut [9] from 31 to 57 (fun v wx => ∃ q : Nat, v = .pointer (some ⟨q, 0, none⟩) ∧ Hid (wx.heap[q]? = some (.cells #[.string nmv, .int .i64 (1 + kd)] 65 (0, 0))) ∧ Hid (Svg gS wr wx) ∧ Hid (SrcAt gS wx r') ∧ Hid (wr.heap.size ≤ q))
        case rest =>
          obtain ⟨q, rfl, HQ, HVC, HSC, HQB⟩ := hcut
          have hsp := HL.out.sp
          have hpc := HL.out.pc
          have hcB := HL.out.cB
          have hbw := HL.out.bw
          have hp := HVC.out.stays HL.out.p (by omega)
          have hc := HVC.out.stays HL.out.c (by omega)
          have hown := own_ge HL.out.dv
          have hown2 := own_ge HL.out.nm
          have hdv := HL.out.dv.sv HVC.out (fun b hb e => by have := hown b hb; omega)
          have hnm := HL.out.nm.sv HVC.out (fun b hb e => by have := hown2 b hb; omega)
          have hvz := HVC.out.size
          have hal := (Bel.refl wc).alloc #[.string nmv, .int .i64 (1 + kd)] 65
          have hnew := heap_alloc_new wc (.cells #[.string nmv, .int .i64 (1 + kd)] 65)
          have haz := hal.size
          obtain ⟨vdx, w5, hrun, ho5, hs5, hn5⟩ := one_more2 devTy (hdv.bel hal) (⟨nmv, 1 + kd⟩ : Dev) (c := 1) hnew rfl (by omega) (by omega)
          obtain ⟨nl, hnl⟩ : ∃ nl, nl = (l ++ [(⟨nmv, 1 + kd⟩ : Dev)]).length := ⟨_, rfl⟩
          obtain ⟨pd', cd', hvd'⟩ := row_form devTy.len ho5 hnl
          subst hvd'
          have HNL := Lib.hid hnl
          clear hnl
          have hp5 := (hs5.block gP (Nat.lt_of_lt_of_le (lt_of_heap hp) haz) (fun e => by have := hown gP e; omega)).trans (hal.stays hp)
          have hc5 := (hs5.block gC (Nat.lt_of_lt_of_le (lt_of_heap hc) haz) (fun e => by have := hown gC e; omega)).trans (hal.stays hc)
          have hq5 := (hs5.block q (Nat.lt_of_lt_of_le (lt_of_heap HQ.out) haz) (fun e => by have := own_lt HL.out.dv q e; have := HQB.out; omega)).trans (hal.stays HQ.out)
          have hnm5 := (hnm.bel hal).sv hs5 (own_unlike hnm hdv (by decide))
          have hsr5 := (HSC.out.bel hal).sv hs5 (fun b hb => by have := hown b hb; omega)
          have hX5 := (hs5.block g0 (Nat.lt_of_lt_of_le (lt_of_heap (HVC.out.stays HX0.out (by have := HGP.out; omega))) haz) (fun e => by have := hown g0 e; have := HGP.out; omega)).trans (hal.stays (HVC.out.stays HX0.out (by have := HGP.out; omega)))
          have hB5 : Bel w w5 := hs5.bel ((HVC.out.bel HBW.out (by have := HGP.out; omega)).trans hal) (fun b hb => by have := hown b hb; have := HGP.out; omega)
          have hz5 := hs5.size
          have k1 : wc.cell? ⟨gP, 1, none⟩ = some (.slice pd l.length cd) := cell_of_heap hp 1
          have q0 : wc.cell? ⟨q, 0, none⟩ = some (.string nmv) := cell_of_heap HQ.out 0
          have q1 : wc.cell? ⟨q, 1, none⟩ = some (.int .i64 (1 + kd)) := cell_of_heap HQ.out 1
          have z1 : w5.cell? ⟨gP, 1, none⟩ = some (.slice pd l.length cd) := cell_of_heap hp5 1
          have f1 := frozen_of_heap hp5 1
          have HRUN := Lib.hid hrun
          have HP5 := Lib.hid hp5
          have HC5 := Lib.hid hc5
          have HQ5 := Lib.hid hq5
          have HNM5 := Lib.hid hnm5
          have HDV5 := Lib.hid ho5
          have HSR5 := Lib.hid hsr5
          have HX5 := Lib.hid hX5
          have HB5 := Lib.hid hB5
          have HN5 : Hid (∀ b, (Value.slice pd' nl cd').ownBlock = some b → w4.heap.size ≤ b) := Lib.hid (own_ge ho5)
          have HNUM : Hid (gS < gP ∧ gP < gC ∧ gC < w4.heap.size ∧ w4.heap.size ≤ w5.heap.size ∧ g0 < gS ∧ w.heap.size ≤ gS) := Lib.hid (by have := HGP.out; omega)
          clear hp5 hc5 hq5 hnm5 ho5 hsr5 hX5 hB5 hrun hs5 hn5 hnew hal hdv hnm hp hc hown hown2 hsp hpc hcB hbw hvz haz hz5
          go_upto_region 11 with (at_builtin; refine wpList_app rfl (.tmp 46) (.tmp 48) 24 rfl _ _ _ (by rfl) (by rfl) HRUN.out ?_)
          clear k1 q0 q1 z1 f1
          have hnum := HNUM.out
          have hse := Svg.set gP 1 w5 (Value.slice pd' nl cd')
          have hp6 : (w5.setCell ⟨gP, 1, none⟩ (Value.slice pd' nl cd')).heap[gP]? = some (.cells (prC (1 + (h : Int)) (Value.slice pd' nl cd') (.slice none 0 0) (.slice none 0 0)) 28 (0, 0)) := by
            have := HP5.out
            simp [World.setCell, Array.getElem?_modify, this]
          have hc6 := hse.stays HC5.out (by omega)
          have hq6 := hse.stays HQ5.out (by have := HQB.out; have := HL.out.bw; omega)
          have hdv6 := HDV5.out.sv hse (fun b hb e => by have := HN5.out b hb; omega)
          have hnm6 := HNM5.out.sv hse (fun b hb e => by have := own_ge HNM5.out b hb; omega)
          have hsr6 := HSR5.out.sv hse (fun b hb => by subst hb; omega)
          have hX6 := hse.stays HX5.out (by omega)
          have hB6 : Bel w (w5.setCell ⟨gP, 1, none⟩ (Value.slice pd' nl cd')) := hse.bel HB5.out (by omega)
          have hz6 := hse.size
          generalize w5.setCell ⟨gP, 1, none⟩ (Value.slice pd' nl cd') = W6 at hse hp6 hc6 hq6 hdv6 hnm6 hsr6 hX6 hB6 hz6 ⊢
          clear HP5 HC5 HQ5 HDV5 HNM5 HSR5 HX5 HB5 hse HRUN
          have hal := (Bel.refl W6).alloc #[.string nmv] 9
          have hnew := heap_alloc_new W6 (.cells #[.string nmv] 9)
          have haz := hal.size
          have hown2 := own_ge hnm6
          have hown := own_ge hdv6
          obtain ⟨ndx, w7, hrun, ho7, hs7, hn7⟩ := one_more2 nameTy (hnm6.bel hal) nmv (c := 1) hnew rfl (by rw [List.length_map]; omega) (by omega)
          obtain ⟨nl2, hnl2⟩ : ∃ nl, nl = (l.map Dev.name ++ [nmv]).length := ⟨_, rfl⟩
          obtain ⟨pn', cn', hvn'⟩ := row_form nameTy.len ho7 hnl2
          subst hvn'
          have HNL2 := Lib.hid hnl2
          clear hnl2
          have hp7 := (hs7.block gP (Nat.lt_of_lt_of_le (lt_of_heap hp6) haz) (fun e => by have := hown2 gP e; omega)).trans (hal.stays hp6)
          have hc7 := (hs7.block gC (Nat.lt_of_lt_of_le (lt_of_heap hc6) haz) (fun e => by have := hown2 gC e; omega)).trans (hal.stays hc6)
          have hdv7 := (hdv6.bel hal).sv hs7 (own_unlike hdv6 hnm6 (by decide))
          have hsr7 := (hsr6.bel hal).sv hs7 (fun b hb => by have := hown2 b hb; omega)
          have hX7 := (hs7.block g0 (Nat.lt_of_lt_of_le (lt_of_heap hX6) haz) (fun e => by have := hown2 g0 e; omega)).trans (hal.stays hX6)
          have hB7 : Bel w w7 := hs7.bel (hB6.trans hal) (fun b hb => by have := hown2 b hb; omega)
          have hz7 := hs7.size
          have k1 : W6.cell? ⟨gC, 0, none⟩ = some (.slice pn l.length cn) := by rw [← List.length_map (f := Dev.name)]; exact cell_of_heap hc6 0
          have q0 : W6.cell? ⟨q, 0, none⟩ = some (.string nmv) := cell_of_heap hq6 0
          have z1 : w7.cell? ⟨gC, 0, none⟩ = some (.slice pn l.length cn) := by rw [← List.length_map (f := Dev.name)]; exact cell_of_heap hc7 0
          have f1 := frozen_of_heap hc7 0
          rw [List.length_map] at hrun
          have HRUN := Lib.hid hrun
          have HP7 := Lib.hid hp7
          have HC7 := Lib.hid hc7
          have HDV7 := Lib.hid hdv7
          have HNM7 := Lib.hid ho7
          have HSR7 := Lib.hid hsr7
          have HX7 := Lib.hid hX7
          have HB7 := Lib.hid hB7
          have HZ7 : Hid (w4.heap.size ≤ w7.heap.size) := Lib.hid (by omega)
          have hmm : IntKind.i64.wrap ((mm : Int) - 1) = (mm : Int) - 1 := IntWalk.i64_in _ (by have := HLN.out; have := HK3.out; constructor <;> omega)
          clear hp7 hc7 ho7 hsr7 hX7 hB7 hrun hs7 hn7 hnew hal hp6 hc6 hq6 hdv6 hnm6 hsr6 hX6 hB6 hz6 hown hown2 haz hz7 hdv7 hnum
          go_wp2_with (at_builtin; refine wpList_app rfl (.tmp 52) (.tmp 55) 59 rfl _ _ _ (by rfl) (by rfl) HRUN.out ?_)
          clear k1 q0 z1 f1
          have hnum := HNUM.out
          have hse := Svg.set gC 0 w7 (Value.slice pn' nl2 cn')
          have hc8 : (w7.setCell ⟨gC, 0, none⟩ (Value.slice pn' nl2 cn')).heap[gC]? = some (.cells (scC (Value.slice pn' nl2 cn') (.slice none 0 0) all) 61 (0, 0)) := by
            have := HC7.out
            simp [World.setCell, Array.getElem?_modify, this]
          go_roundg mm
          case measure => omega
          case rel =>
            refine ⟨l ++ [⟨nmv, 1 + kd⟩], (Value.slice pd' nl cd'), (Value.slice pn' nl2 cn'), r', rfl, Lib.hid ⟨hse.stays HP7.out (by omega), hc8, HDV7.out.sv hse (fun b hb e => by have := own_ge HDV7.out b hb; omega), ?_, HSR7.out.sv hse (fun b hb => by subst hb; omega), hnum.1, hnum.2.1, hnum.2.2.1, Nat.le_trans HZ7.out hse.size⟩, Lib.hid ?_, Lib.hid (by have := HLN.out; rw [List.length_append, List.length_singleton]; omega), Lib.hid (hse.bel HB7.out (by omega)), Lib.hid (hse.stays HX7.out (by omega))⟩
            · rw [List.map_append]
              exact HNM7.out.sv hse (fun b hb e => by have := own_ge HNM7.out b hb; omega)
            · rw [← HE.out]
              show _ = devsV mm (l ++ [⟨dnames.getD l.length ⟨#[]⟩, 1 + (nx r 3).1⟩]) (nx r 3).2
              rw [HKD.out, HNMV.out]
        case first =>
          refine wp_region_held_drew (S := Svg gS wr) (by kernel_rfl) ((Bel.refl wr).drew.svg gS) (fun hS0 => ?_)
          refine takeD 36 (i := 1) (v := ?v1) rfl rfl (by kernel_rfl) (by kernel_rfl) (by kernel_rfl) (fun _ _ _ h => h) (by kernel_rfl) ?hy1 hS0 ?rest1
          case hy1 => (intro w0 hSw; have s0 := HF.out _ hSw; first | (go_simp; done) | (go_simp; with_reducible rfl))
          simp only [List.setIfInBounds_toArray, List.set_cons_zero, List.set_cons_succ]
          refine takeD 37 (i := 2) (v := ?v2) rfl rfl (by kernel_rfl) (by kernel_rfl) (by kernel_rfl) (fun _ _ _ h => h) (by kernel_rfl) ?hy2 hS0 ?rest2
          case hy2 => (intro w0 hSw; have s0 := HF.out _ hSw; first | (go_simp; done) | (go_simp; with_reducible rfl))
          simp only [List.setIfInBounds_toArray, List.set_cons_zero, List.set_cons_succ]
          refine takeD 38 (i := 3) (v := ?v3) rfl rfl (by kernel_rfl) (by kernel_rfl) (by kernel_rfl) (fun _ _ _ h => h) (by kernel_rfl) ?hy3 hS0 ?rest3
          case hy3 => (intro w0 hSw; have s0 := HF.out _ hSw; first | (go_simp; done) | (go_simp; with_reducible rfl))
          simp only [List.setIfInBounds_toArray, List.set_cons_zero, List.set_cons_succ]
          refine takeD 41 (i := 6) (v := ?v4) rfl rfl (by kernel_rfl) (by kernel_rfl) (by kernel_rfl) (fun _ _ _ h => h) (by kernel_rfl) ?hy4 hS0 ?rest4
          case hy4 => (intro w0 hSw; have s0 := HF.out _ hSw; first | (go_simp; done) | (go_simp; with_reducible rfl))
          simp only [List.setIfInBounds_toArray, List.set_cons_zero, List.set_cons_succ]
          refine threeE 35 42 9 (i1 := 0) (i2 := 7) (i3 := 10) rfl rfl rfl rfl rfl rfl (by kernel_rfl) (by kernel_rfl) (by kernel_rfl) (by kernel_rfl) (fun K hK => ?_) (fun K hK => ?_) (fun K hK => ?_)
          · go_simp
            refine hK.out _ _ (hS0.trans (((Bel.refl (World.drew wr)).alloc #[.string ⟨#[100]⟩, .string ⟨#[101]⟩, .string ⟨#[102]⟩] 9).svg gS)) (fun hM1 => ?_)
            clear hK K
            simp only [List.setIfInBounds_toArray, List.set_cons_zero, List.set_cons_succ]
            have hz1 : ((World.alloc (World.drew wr) (.cells #[.string ⟨#[100]⟩, .string ⟨#[101]⟩, .string ⟨#[102]⟩] 9))).heap.size = wr.heap.size + 1 := World.size_alloc _ _
            have ha1 := alloc_at (w := (World.drew wr)) (n := wr.heap.size) rfl (.cells #[.string ⟨#[100]⟩, .string ⟨#[101]⟩, .string ⟨#[102]⟩] 9)
            have hq1 : wr.heap.size ≠ gS ∧ wr.heap.size ≤ wr.heap.size := by have h1 : gS < ((World.drew wr)).heap.size := ((HL.out.src.bel (Bel.refl wr).drew)).lt; have h2 : wr.heap.size ≤ ((World.drew wr)).heap.size := (hS0).size; change gS < wr.heap.size at h1; change _ ≤ wr.heap.size at h2; omega
            refine wpAnyH_mono (S' := (fun w' => Svg gS wr w' ∧ w'.heap[wr.heap.size]? = some (.cells #[.string ⟨#[100]⟩, .string ⟨#[101]⟩, .string ⟨#[102]⟩] 9 (0, 0)))) (fun _ h => h.1) _ _ _ _ ?_
            refine takeD 39 (i := 4) (v := ?v5) rfl rfl (by kernel_rfl) (by kernel_rfl) (by kernel_rfl) (fun _ _ _ h => h) (by kernel_rfl) ?hy5 ⟨hM1, ha1⟩ ?rest5
            case hy5 => (intro w0 hSw; have s0 := HF.out _ hSw.1; have sq := (nm_at HNMV.out hll hSw.2); first | (go_simp; done) | (go_simp; with_reducible rfl))
            simp only [List.setIfInBounds_toArray, List.set_cons_zero, List.set_cons_succ]
            refine takeD 40 (i := 5) (v := ?v6) rfl rfl (by kernel_rfl) (by kernel_rfl) (by kernel_rfl) (fun _ _ _ h => h) (by kernel_rfl) ?hy6 ⟨hM1, ha1⟩ ?rest6
            case hy6 => (intro w0 hSw; have s0 := HF.out _ hSw.1; have sq := (nm_at HNMV.out hll hSw.2); first | (go_simp; done) | (go_simp; with_reducible rfl))
            simp only [List.setIfInBounds_toArray, List.set_cons_zero, List.set_cons_succ]
            refine twoE 42 9 (i1 := 7) (i2 := 10) rfl rfl rfl rfl (by kernel_rfl) (by kernel_rfl) (by kernel_rfl) (fun K hK => ?_) (fun K hK => ?_)
            · go_simp
              go_at_call 21
              refine (next_lit HKD.out (by decide) _ ((HL.out.src.bel (Bel.refl wr).drew).bel ((Bel.refl (World.drew wr)).alloc #[.string ⟨#[100]⟩, .string ⟨#[101]⟩, .string ⟨#[102]⟩] 9))).mono ?_
              rintro e w11 ⟨rfl, hv1, hs1⟩
              have hS1 := hM1.trans hv1
              have hvz1 := hv1.size
              rw [hz1] at hvz1
              have hN1 := hv1.stays ha1 hq1.1
              refine hK.out _ _ ⟨hS1, hN1⟩ (fun _ => ?_)
              clear hK K
              simp only [List.setIfInBounds_toArray, List.set_cons_zero, List.set_cons_succ]
              refine takeD 43 (i := 8) (v := ?v7) rfl rfl (by kernel_rfl) (by kernel_rfl) (by kernel_rfl) (fun _ _ _ h => h) (by kernel_rfl) ?hy7 ⟨hS1, hN1⟩ ?rest7
              case hy7 => (intro w0 hSw; have s0 := HF.out _ hSw.1; have sq := (nm_at HNMV.out hll hSw.2); first | (go_simp; done) | (go_simp; with_reducible rfl))
              simp only [List.setIfInBounds_toArray, List.set_cons_zero, List.set_cons_succ]
              refine takeD 44 (i := 9) (v := ?v8) rfl rfl (by kernel_rfl) (by kernel_rfl) (by kernel_rfl) (fun _ _ _ h => h) (by kernel_rfl) ?hy8 ⟨hS1, hN1⟩ ?rest8
              case hy8 => (intro w0 hSw; have s0 := HF.out _ hSw.1; have sq := (nm_at HNMV.out hll hSw.2); first | (go_simp; done) | (go_simp; with_reducible rfl))
              simp only [List.setIfInBounds_toArray, List.set_cons_zero, List.set_cons_succ]
              refine onlyD 9 (i := 10) rfl rfl (by kernel_rfl) (by kernel_rfl) (fun K hK => ?_)
              go_simp
              refine hK.out _ _ ⟨(hS1.trans (((Bel.refl w11).alloc #[.string ⟨#[]⟩, .int .i64 0] 65).svg gS)), ((Bel.refl w11).alloc #[.string ⟨#[]⟩, .int .i64 0] 65).stays hN1⟩ (fun hM2 => ?_)
              clear hK K
              simp only [List.setIfInBounds_toArray, List.set_cons_zero, List.set_cons_succ]
              have hz2 : ((World.alloc w11 (.cells #[.string ⟨#[]⟩, .int .i64 0] 65))).heap.size = w11.heap.size + 1 := World.size_alloc _ _
              have ha2 := alloc_at (w := w11) (n := w11.heap.size) rfl (.cells #[.string ⟨#[]⟩, .int .i64 0] 65)
              have hq2 : w11.heap.size ≠ gS ∧ wr.heap.size ≤ w11.heap.size := by have h1 : gS < (w11).heap.size := (hs1).lt; have h2 : wr.heap.size ≤ (w11).heap.size := (hS1).size; change gS < w11.heap.size at h1; change _ ≤ w11.heap.size at h2; omega
              refine onlyN (i := 11) rfl rfl (by kernel_rfl) (by kernel_rfl) (fun K hK => ?_)
              have hst := Svg.stays (Svg.refl gS (World.alloc w11 (.cells #[.string ⟨#[]⟩, .int .i64 0] 65))) ha2 hq2.1
              refine wp_store_row 65 (.tmp 9) (.tmp 44) rfl w11.heap.size #[.string nmv, .int .i64 (1 + kd)] (by kernel_rfl) (by kernel_rfl) 65 #[.string ⟨#[]⟩, .int .i64 0] hst (by kernel_rfl) (by kernel_rfl) (by kernel_rfl) ?_
              refine hK.out undef _ ⟨(Svg.later hM2.1 (setRow_svg w11.heap.size (World.alloc w11 (.cells #[.string ⟨#[]⟩, .int .i64 0] 65)) #[.string nmv, .int .i64 (1 + kd)]) (fun b hb => by subst hb; exact hq2.2)), Svg.stays (setRow_svg w11.heap.size (World.alloc w11 (.cells #[.string ⟨#[]⟩, .int .i64 0] 65)) #[.string nmv, .int .i64 (1 + kd)]) hM2.2 (by omega)⟩ (fun hSF => ?_)
              clear hK K
              have hnw9 := setRow_heap (World.alloc w11 (.cells #[.string ⟨#[]⟩, .int .i64 0] 65)) w11.heap.size _ #[.string nmv, .int .i64 (1 + kd)] _ _ hst
              refine wpAnyH_done (by kernel_rfl) ?_ _
              go_wp2_with fail
              go_meet
              exact ⟨_, rfl, Lib.hid hnw9, Lib.hid hSF.1, Lib.hid ((hs1.bel ((Bel.refl w11).alloc #[.string ⟨#[]⟩, .int .i64 0] 65)).sv (setRow_svg w11.heap.size (World.alloc w11 (.cells #[.string ⟨#[]⟩, .int .i64 0] 65)) #[.string nmv, .int .i64 (1 + kd)]) (fun b hb => by subst hb; have := hq2; have := HL.out.src.lt; omega)), Lib.hid hq2.2⟩
            · go_simp
              refine hK.out _ _ ⟨(hM1.trans (((Bel.refl (World.alloc (World.drew wr) (.cells #[.string ⟨#[100]⟩, .string ⟨#[101]⟩, .string ⟨#[102]⟩] 9))).alloc #[.string ⟨#[]⟩, .int .i64 0] 65).svg gS)), ((Bel.refl (World.alloc (World.drew wr) (.cells #[.string ⟨#[100]⟩, .string ⟨#[101]⟩, .string ⟨#[102]⟩] 9))).alloc #[.string ⟨#[]⟩, .int .i64 0] 65).stays ha1⟩ (fun hM3 => ?_)
              clear hK K
              simp only [List.setIfInBounds_toArray, List.set_cons_zero, List.set_cons_succ]
              have hz3 : ((World.alloc (World.alloc (World.drew wr) (.cells #[.string ⟨#[100]⟩, .string ⟨#[101]⟩, .string ⟨#[102]⟩] 9)) (.cells #[.string ⟨#[]⟩, .int .i64 0] 65))).heap.size = (wr.heap.size + 1) + 1 := by rw [World.size_alloc, hz1]
              have ha3 := alloc_at (w := (World.alloc (World.drew wr) (.cells #[.string ⟨#[100]⟩, .string ⟨#[101]⟩, .string ⟨#[102]⟩] 9))) (n := (wr.heap.size + 1)) hz1 (.cells #[.string ⟨#[]⟩, .int .i64 0] 65)
              have hq3 : (wr.heap.size + 1) ≠ gS ∧ wr.heap.size ≤ (wr.heap.size + 1) := by have h1 : gS < ((World.alloc (World.drew wr) (.cells #[.string ⟨#[100]⟩, .string ⟨#[101]⟩, .string ⟨#[102]⟩] 9))).heap.size := (((HL.out.src.bel (Bel.refl wr).drew).bel ((Bel.refl (World.drew wr)).alloc #[.string ⟨#[100]⟩, .string ⟨#[101]⟩, .string ⟨#[102]⟩] 9))).lt; have h2 : wr.heap.size ≤ ((World.alloc (World.drew wr) (.cells #[.string ⟨#[100]⟩, .string ⟨#[101]⟩, .string ⟨#[102]⟩] 9))).heap.size := (hM1).size; rw [hz1] at h1 h2; omega
              refine onlyD 42 (i := 7) rfl rfl (by kernel_rfl) (by kernel_rfl) (fun K hK => ?_)
              go_simp
              go_at_call 21
              refine (next_lit HKD.out (by decide) _ (((HL.out.src.bel (Bel.refl wr).drew).bel ((Bel.refl (World.drew wr)).alloc #[.string ⟨#[100]⟩, .string ⟨#[101]⟩, .string ⟨#[102]⟩] 9)).bel ((Bel.refl (World.alloc (World.drew wr) (.cells #[.string ⟨#[100]⟩, .string ⟨#[101]⟩, .string ⟨#[102]⟩] 9))).alloc #[.string ⟨#[]⟩, .int .i64 0] 65))).mono ?_
              rintro e w11 ⟨rfl, hv1, hs1⟩
              have hS1 := hM3.1.trans hv1
              have hvz1 := hv1.size
              rw [hz3] at hvz1
              have hN1 := hv1.stays hM3.2 hq1.1
              refine hK.out _ _ ⟨hS1, hN1⟩ (fun _ => ?_)
              clear hK K
              simp only [List.setIfInBounds_toArray, List.set_cons_zero, List.set_cons_succ]
              refine takeD 43 (i := 8) (v := ?v9) rfl rfl (by kernel_rfl) (by kernel_rfl) (by kernel_rfl) (fun _ _ _ h => h) (by kernel_rfl) ?hy9 ⟨hS1, hN1⟩ ?rest9
              case hy9 => (intro w0 hSw; have s0 := HF.out _ hSw.1; have sq := (nm_at HNMV.out hll hSw.2); first | (go_simp; done) | (go_simp; with_reducible rfl))
              simp only [List.setIfInBounds_toArray, List.set_cons_zero, List.set_cons_succ]
              refine takeD 44 (i := 9) (v := ?v10) rfl rfl (by kernel_rfl) (by kernel_rfl) (by kernel_rfl) (fun _ _ _ h => h) (by kernel_rfl) ?hy10 ⟨hS1, hN1⟩ ?rest10
              case hy10 => (intro w0 hSw; have s0 := HF.out _ hSw.1; have sq := (nm_at HNMV.out hll hSw.2); first | (go_simp; done) | (go_simp; with_reducible rfl))
              simp only [List.setIfInBounds_toArray, List.set_cons_zero, List.set_cons_succ]
              refine onlyN (i := 11) rfl rfl (by kernel_rfl) (by kernel_rfl) (fun K hK => ?_)
              have hst := Svg.stays ((Svg.refl gS (World.alloc (World.alloc (World.drew wr) (.cells #[.string ⟨#[100]⟩, .string ⟨#[101]⟩, .string ⟨#[102]⟩] 9)) (.cells #[.string ⟨#[]⟩, .int .i64 0] 65))).trans hv1) ha3 hq3.1
              refine wp_store_row 65 (.tmp 9) (.tmp 44) rfl (wr.heap.size + 1) #[.string nmv, .int .i64 (1 + kd)] (by kernel_rfl) (by kernel_rfl) 65 #[.string ⟨#[]⟩, .int .i64 0] hst (by kernel_rfl) (by kernel_rfl) (by kernel_rfl) ?_
              refine hK.out undef _ ⟨(Svg.later hS1 (setRow_svg (wr.heap.size + 1) w11 #[.string nmv, .int .i64 (1 + kd)]) (fun b hb => by subst hb; exact hq3.2)), Svg.stays (setRow_svg (wr.heap.size + 1) w11 #[.string nmv, .int .i64 (1 + kd)]) hN1 (by omega)⟩ (fun hSF => ?_)
              clear hK K
              have hnw9 := setRow_heap w11 (wr.heap.size + 1) _ #[.string nmv, .int .i64 (1 + kd)] _ _ hst
              refine wpAnyH_done (by kernel_rfl) ?_ _
              go_wp2_with fail
              go_meet
              exact ⟨_, rfl, Lib.hid hnw9, Lib.hid hSF.1, Lib.hid (hs1.sv (setRow_svg (wr.heap.size + 1) w11 #[.string nmv, .int .i64 (1 + kd)]) (fun b hb => by subst hb; have := hq3; have := HL.out.src.lt; omega)), Lib.hid hq3.2⟩
          · go_simp
            go_at_call 21
            refine (next_lit HKD.out (by decide) _ (HL.out.src.bel (Bel.refl wr).drew)).mono ?_
            rintro e w11 ⟨rfl, hv1, hs1⟩
            have hS1 := hS0.trans hv1
            have hvz1 := hv1.size
            change wr.heap.size ≤ _ at hvz1
            refine hK.out _ _ hS1 (fun _ => ?_)
            clear hK K
            simp only [List.setIfInBounds_toArray, List.set_cons_zero, List.set_cons_succ]
            refine takeD 43 (i := 8) (v := ?v11) rfl rfl (by kernel_rfl) (by kernel_rfl) (by kernel_rfl) (fun _ _ _ h => h) (by kernel_rfl) ?hy11 hS1 ?rest11
            case hy11 => (intro w0 hSw; have s0 := HF.out _ hSw; first | (go_simp; done) | (go_simp; with_reducible rfl))
            simp only [List.setIfInBounds_toArray, List.set_cons_zero, List.set_cons_succ]
            refine twoE 35 9 (i1 := 0) (i2 := 10) rfl rfl rfl rfl (by kernel_rfl) (by kernel_rfl) (by kernel_rfl) (fun K hK => ?_) (fun K hK => ?_)
            · go_simp
              refine hK.out _ _ (hS1.trans (((Bel.refl w11).alloc #[.string ⟨#[100]⟩, .string ⟨#[101]⟩, .string ⟨#[102]⟩] 9).svg gS)) (fun hM4 => ?_)
              clear hK K
              simp only [List.setIfInBounds_toArray, List.set_cons_zero, List.set_cons_succ]
              have hz4 : ((World.alloc w11 (.cells #[.string ⟨#[100]⟩, .string ⟨#[101]⟩, .string ⟨#[102]⟩] 9))).heap.size = w11.heap.size + 1 := World.size_alloc _ _
              have ha4 := alloc_at (w := w11) (n := w11.heap.size) rfl (.cells #[.string ⟨#[100]⟩, .string ⟨#[101]⟩, .string ⟨#[102]⟩] 9)
              have hq4 : w11.heap.size ≠ gS ∧ wr.heap.size ≤ w11.heap.size := by have h1 : gS < (w11).heap.size := (hs1).lt; have h2 : wr.heap.size ≤ (w11).heap.size := (hS1).size; change gS < w11.heap.size at h1; change _ ≤ w11.heap.size at h2; omega
              refine wpAnyH_mono (S' := (fun w' => Svg gS wr w' ∧ w'.heap[w11.heap.size]? = some (.cells #[.string ⟨#[100]⟩, .string ⟨#[101]⟩, .string ⟨#[102]⟩] 9 (0, 0)))) (fun _ h => h.1) _ _ _ _ ?_
              refine takeD 39 (i := 4) (v := ?v12) rfl rfl (by kernel_rfl) (by kernel_rfl) (by kernel_rfl) (fun _ _ _ h => h) (by kernel_rfl) ?hy12 ⟨hM4, ha4⟩ ?rest12
              case hy12 => (intro w0 hSw; have s0 := HF.out _ hSw.1; have sq := (nm_at HNMV.out hll hSw.2); first | (go_simp; done) | (go_simp; with_reducible rfl))
              simp only [List.setIfInBounds_toArray, List.set_cons_zero, List.set_cons_succ]
              refine takeD 40 (i := 5) (v := ?v13) rfl rfl (by kernel_rfl) (by kernel_rfl) (by kernel_rfl) (fun _ _ _ h => h) (by kernel_rfl) ?hy13 ⟨hM4, ha4⟩ ?rest13
              case hy13 => (intro w0 hSw; have s0 := HF.out _ hSw.1; have sq := (nm_at HNMV.out hll hSw.2); first | (go_simp; done) | (go_simp; with_reducible rfl))
              simp only [List.setIfInBounds_toArray, List.set_cons_zero, List.set_cons_succ]
              refine takeD 44 (i := 9) (v := ?v14) rfl rfl (by kernel_rfl) (by kernel_rfl) (by kernel_rfl) (fun _ _ _ h => h) (by kernel_rfl) ?hy14 ⟨hM4, ha4⟩ ?rest14
              case hy14 => (intro w0 hSw; have s0 := HF.out _ hSw.1; have sq := (nm_at HNMV.out hll hSw.2); first | (go_simp; done) | (go_simp; with_reducible rfl))
              simp only [List.setIfInBounds_toArray, List.set_cons_zero, List.set_cons_succ]
              refine onlyD 9 (i := 10) rfl rfl (by kernel_rfl) (by kernel_rfl) (fun K hK => ?_)
              go_simp
              refine hK.out _ _ ⟨(hM4.trans (((Bel.refl (World.alloc w11 (.cells #[.string ⟨#[100]⟩, .string ⟨#[101]⟩, .string ⟨#[102]⟩] 9))).alloc #[.string ⟨#[]⟩, .int .i64 0] 65).svg gS)), ((Bel.refl (World.alloc w11 (.cells #[.string ⟨#[100]⟩, .string ⟨#[101]⟩, .string ⟨#[102]⟩] 9))).alloc #[.string ⟨#[]⟩, .int .i64 0] 65).stays ha4⟩ (fun hM5 => ?_)
              clear hK K
              simp only [List.setIfInBounds_toArray, List.set_cons_zero, List.set_cons_succ]
              have hz5 : ((World.alloc (World.alloc w11 (.cells #[.string ⟨#[100]⟩, .string ⟨#[101]⟩, .string ⟨#[102]⟩] 9)) (.cells #[.string ⟨#[]⟩, .int .i64 0] 65))).heap.size = (w11.heap.size + 1) + 1 := by rw [World.size_alloc, hz4]
              have ha5 := alloc_at (w := (World.alloc w11 (.cells #[.string ⟨#[100]⟩, .string ⟨#[101]⟩, .string ⟨#[102]⟩] 9))) (n := (w11.heap.size + 1)) hz4 (.cells #[.string ⟨#[]⟩, .int .i64 0] 65)
              have hq5 : (w11.heap.size + 1) ≠ gS ∧ wr.heap.size ≤ (w11.heap.size + 1) := by have h1 : gS < ((World.alloc w11 (.cells #[.string ⟨#[100]⟩, .string ⟨#[101]⟩, .string ⟨#[102]⟩] 9))).heap.size := ((hs1.bel ((Bel.refl w11).alloc #[.string ⟨#[100]⟩, .string ⟨#[101]⟩, .string ⟨#[102]⟩] 9))).lt; have h2 : wr.heap.size ≤ ((World.alloc w11 (.cells #[.string ⟨#[100]⟩, .string ⟨#[101]⟩, .string ⟨#[102]⟩] 9))).heap.size := (hM4).size; rw [hz4] at h1 h2; omega
              refine onlyN (i := 11) rfl rfl (by kernel_rfl) (by kernel_rfl) (fun K hK => ?_)
              have hst := Svg.stays (Svg.refl gS (World.alloc (World.alloc w11 (.cells #[.string ⟨#[100]⟩, .string ⟨#[101]⟩, .string ⟨#[102]⟩] 9)) (.cells #[.string ⟨#[]⟩, .int .i64 0] 65))) ha5 hq5.1
              refine wp_store_row 65 (.tmp 9) (.tmp 44) rfl (w11.heap.size + 1) #[.string nmv, .int .i64 (1 + kd)] (by kernel_rfl) (by kernel_rfl) 65 #[.string ⟨#[]⟩, .int .i64 0] hst (by kernel_rfl) (by kernel_rfl) (by kernel_rfl) ?_
              refine hK.out undef _ ⟨(Svg.later hM5.1 (setRow_svg (w11.heap.size + 1) (World.alloc (World.alloc w11 (.cells #[.string ⟨#[100]⟩, .string ⟨#[101]⟩, .string ⟨#[102]⟩] 9)) (.cells #[.string ⟨#[]⟩, .int .i64 0] 65)) #[.string nmv, .int .i64 (1 + kd)]) (fun b hb => by subst hb; exact hq5.2)), Svg.stays (setRow_svg (w11.heap.size + 1) (World.alloc (World.alloc w11 (.cells #[.string ⟨#[100]⟩, .string ⟨#[101]⟩, .string ⟨#[102]⟩] 9)) (.cells #[.string ⟨#[]⟩, .int .i64 0] 65)) #[.string nmv, .int .i64 (1 + kd)]) hM5.2 (by omega)⟩ (fun hSF => ?_)
              clear hK K
              have hnw9 := setRow_heap (World.alloc (World.alloc w11 (.cells #[.string ⟨#[100]⟩, .string ⟨#[101]⟩, .string ⟨#[102]⟩] 9)) (.cells #[.string ⟨#[]⟩, .int .i64 0] 65)) (w11.heap.size + 1) _ #[.string nmv, .int .i64 (1 + kd)] _ _ hst
              refine wpAnyH_done (by kernel_rfl) ?_ _
              go_wp2_with fail
              go_meet
              exact ⟨_, rfl, Lib.hid hnw9, Lib.hid hSF.1, Lib.hid (((hs1.bel ((Bel.refl w11).alloc #[.string ⟨#[100]⟩, .string ⟨#[101]⟩, .string ⟨#[102]⟩] 9)).bel ((Bel.refl (World.alloc w11 (.cells #[.string ⟨#[100]⟩, .string ⟨#[101]⟩, .string ⟨#[102]⟩] 9))).alloc #[.string ⟨#[]⟩, .int .i64 0] 65)).sv (setRow_svg (w11.heap.size + 1) (World.alloc (World.alloc w11 (.cells #[.string ⟨#[100]⟩, .string ⟨#[101]⟩, .string ⟨#[102]⟩] 9)) (.cells #[.string ⟨#[]⟩, .int .i64 0] 65)) #[.string nmv, .int .i64 (1 + kd)]) (fun b hb => by subst hb; have := hq5; have := HL.out.src.lt; omega)), Lib.hid hq5.2⟩
            · go_simp
              refine hK.out _ _ (hS1.trans (((Bel.refl w11).alloc #[.string ⟨#[]⟩, .int .i64 0] 65).svg gS)) (fun hM6 => ?_)
              clear hK K
              simp only [List.setIfInBounds_toArray, List.set_cons_zero, List.set_cons_succ]
              have hz6 : ((World.alloc w11 (.cells #[.string ⟨#[]⟩, .int .i64 0] 65))).heap.size = w11.heap.size + 1 := World.size_alloc _ _
              have ha6 := alloc_at (w := w11) (n := w11.heap.size) rfl (.cells #[.string ⟨#[]⟩, .int .i64 0] 65)
              have hq6 : w11.heap.size ≠ gS ∧ wr.heap.size ≤ w11.heap.size := by have h1 : gS < (w11).heap.size := (hs1).lt; have h2 : wr.heap.size ≤ (w11).heap.size := (hS1).size; change gS < w11.heap.size at h1; change _ ≤ w11.heap.size at h2; omega
              refine onlyD 35 (i := 0) rfl rfl (by kernel_rfl) (by kernel_rfl) (fun K hK => ?_)
              go_simp
              refine hK.out _ _ (hM6.trans (((Bel.refl (World.alloc w11 (.cells #[.string ⟨#[]⟩, .int .i64 0] 65))).alloc #[.string ⟨#[100]⟩, .string ⟨#[101]⟩, .string ⟨#[102]⟩] 9).svg gS)) (fun hM7 => ?_)
              clear hK K
              simp only [List.setIfInBounds_toArray, List.set_cons_zero, List.set_cons_succ]
              have hz7 : ((World.alloc (World.alloc w11 (.cells #[.string ⟨#[]⟩, .int .i64 0] 65)) (.cells #[.string ⟨#[100]⟩, .string ⟨#[101]⟩, .string ⟨#[102]⟩] 9))).heap.size = (w11.heap.size + 1) + 1 := by rw [World.size_alloc, hz6]
              have ha7 := alloc_at (w := (World.alloc w11 (.cells #[.string ⟨#[]⟩, .int .i64 0] 65))) (n := (w11.heap.size + 1)) hz6 (.cells #[.string ⟨#[100]⟩, .string ⟨#[101]⟩, .string ⟨#[102]⟩] 9)
              have hq7 : (w11.heap.size + 1) ≠ gS ∧ wr.heap.size ≤ (w11.heap.size + 1) := by have h1 : gS < ((World.alloc w11 (.cells #[.string ⟨#[]⟩, .int .i64 0] 65))).heap.size := ((hs1.bel ((Bel.refl w11).alloc #[.string ⟨#[]⟩, .int .i64 0] 65))).lt; have h2 : wr.heap.size ≤ ((World.alloc w11 (.cells #[.string ⟨#[]⟩, .int .i64 0] 65))).heap.size := (hM6).size; rw [hz6] at h1 h2; omega
              refine wpAnyH_mono (S' := (fun w' => Svg gS wr w' ∧ w'.heap[(w11.heap.size + 1)]? = some (.cells #[.string ⟨#[100]⟩, .string ⟨#[101]⟩, .string ⟨#[102]⟩] 9 (0, 0)))) (fun _ h => h.1) _ _ _ _ ?_
              refine takeD 39 (i := 4) (v := ?v15) rfl rfl (by kernel_rfl) (by kernel_rfl) (by kernel_rfl) (fun _ _ _ h => h) (by kernel_rfl) ?hy15 ⟨hM7, ha7⟩ ?rest15
              case hy15 => (intro w0 hSw; have s0 := HF.out _ hSw.1; have sq := (nm_at HNMV.out hll hSw.2); first | (go_simp; done) | (go_simp; with_reducible rfl))
              simp only [List.setIfInBounds_toArray, List.set_cons_zero, List.set_cons_succ]
              refine takeD 40 (i := 5) (v := ?v16) rfl rfl (by kernel_rfl) (by kernel_rfl) (by kernel_rfl) (fun _ _ _ h => h) (by kernel_rfl) ?hy16 ⟨hM7, ha7⟩ ?rest16
              case hy16 => (intro w0 hSw; have s0 := HF.out _ hSw.1; have sq := (nm_at HNMV.out hll hSw.2); first | (go_simp; done) | (go_simp; with_reducible rfl))
              simp only [List.setIfInBounds_toArray, List.set_cons_zero, List.set_cons_succ]
              refine takeD 44 (i := 9) (v := ?v17) rfl rfl (by kernel_rfl) (by kernel_rfl) (by kernel_rfl) (fun _ _ _ h => h) (by kernel_rfl) ?hy17 ⟨hM7, ha7⟩ ?rest17
              case hy17 => (intro w0 hSw; have s0 := HF.out _ hSw.1; have sq := (nm_at HNMV.out hll hSw.2); first | (go_simp; done) | (go_simp; with_reducible rfl))
              simp only [List.setIfInBounds_toArray, List.set_cons_zero, List.set_cons_succ]
              refine onlyN (i := 11) rfl rfl (by kernel_rfl) (by kernel_rfl) (fun K hK => ?_)
              have hst := Svg.stays ((Svg.refl gS (World.alloc w11 (.cells #[.string ⟨#[]⟩, .int .i64 0] 65))).trans (((Bel.refl (World.alloc w11 (.cells #[.string ⟨#[]⟩, .int .i64 0] 65))).alloc #[.string ⟨#[100]⟩, .string ⟨#[101]⟩, .string ⟨#[102]⟩] 9).svg gS)) ha6 hq6.1
              refine wp_store_row 65 (.tmp 9) (.tmp 44) rfl w11.heap.size #[.string nmv, .int .i64 (1 + kd)] (by kernel_rfl) (by kernel_rfl) 65 #[.string ⟨#[]⟩, .int .i64 0] hst (by kernel_rfl) (by kernel_rfl) (by kernel_rfl) ?_
              refine hK.out undef _ ⟨(Svg.later hM7 (setRow_svg w11.heap.size (World.alloc (World.alloc w11 (.cells #[.string ⟨#[]⟩, .int .i64 0] 65)) (.cells #[.string ⟨#[100]⟩, .string ⟨#[101]⟩, .string ⟨#[102]⟩] 9)) #[.string nmv, .int .i64 (1 + kd)]) (fun b hb => by subst hb; exact hq6.2)), Svg.stays (setRow_svg w11.heap.size (World.alloc (World.alloc w11 (.cells #[.string ⟨#[]⟩, .int .i64 0] 65)) (.cells #[.string ⟨#[100]⟩, .string ⟨#[101]⟩, .string ⟨#[102]⟩] 9)) #[.string nmv, .int .i64 (1 + kd)]) ha7 (by omega)⟩ (fun hSF => ?_)
              clear hK K
              have hnw9 := setRow_heap (World.alloc (World.alloc w11 (.cells #[.string ⟨#[]⟩, .int .i64 0] 65)) (.cells #[.string ⟨#[100]⟩, .string ⟨#[101]⟩, .string ⟨#[102]⟩] 9)) w11.heap.size _ #[.string nmv, .int .i64 (1 + kd)] _ _ hst
              refine wpAnyH_done (by kernel_rfl) ?_ _
              go_wp2_with fail
              go_meet
              exact ⟨_, rfl, Lib.hid hnw9, Lib.hid hSF.1, Lib.hid (((hs1.bel ((Bel.refl w11).alloc #[.string ⟨#[]⟩, .int .i64 0] 65)).bel ((Bel.refl (World.alloc w11 (.cells #[.string ⟨#[]⟩, .int .i64 0] 65))).alloc #[.string ⟨#[100]⟩, .string ⟨#[101]⟩, .string ⟨#[102]⟩] 9)).sv (setRow_svg w11.heap.size (World.alloc (World.alloc w11 (.cells #[.string ⟨#[]⟩, .int .i64 0] 65)) (.cells #[.string ⟨#[100]⟩, .string ⟨#[101]⟩, .string ⟨#[102]⟩] 9)) #[.string nmv, .int .i64 (1 + kd)]) (fun b hb => by subst hb; have := hq6; have := HL.out.src.lt; omega)), Lib.hid hq6.2⟩
          · go_simp
            refine hK.out _ _ (hS0.trans (((Bel.refl (World.drew wr)).alloc #[.string ⟨#[]⟩, .int .i64 0] 65).svg gS)) (fun hM8 => ?_)
            clear hK K
            simp only [List.setIfInBounds_toArray, List.set_cons_zero, List.set_cons_succ]
            have hz8 : ((World.alloc (World.drew wr) (.cells #[.string ⟨#[]⟩, .int .i64 0] 65))).heap.size = wr.heap.size + 1 := World.size_alloc _ _
            have ha8 := alloc_at (w := (World.drew wr)) (n := wr.heap.size) rfl (.cells #[.string ⟨#[]⟩, .int .i64 0] 65)
            have hq8 : wr.heap.size ≠ gS ∧ wr.heap.size ≤ wr.heap.size := by have h1 : gS < ((World.drew wr)).heap.size := ((HL.out.src.bel (Bel.refl wr).drew)).lt; have h2 : wr.heap.size ≤ ((World.drew wr)).heap.size := (hS0).size; change gS < wr.heap.size at h1; change _ ≤ wr.heap.size at h2; omega
            refine twoE 35 42 (i1 := 0) (i2 := 7) rfl rfl rfl rfl (by kernel_rfl) (by kernel_rfl) (by kernel_rfl) (fun K hK => ?_) (fun K hK => ?_)
            · go_simp
              refine hK.out _ _ (hM8.trans (((Bel.refl (World.alloc (World.drew wr) (.cells #[.string ⟨#[]⟩, .int .i64 0] 65))).alloc #[.string ⟨#[100]⟩, .string ⟨#[101]⟩, .string ⟨#[102]⟩] 9).svg gS)) (fun hM9 => ?_)
              clear hK K
              simp only [List.setIfInBounds_toArray, List.set_cons_zero, List.set_cons_succ]
              have hz9 : ((World.alloc (World.alloc (World.drew wr) (.cells #[.string ⟨#[]⟩, .int .i64 0] 65)) (.cells #[.string ⟨#[100]⟩, .string ⟨#[101]⟩, .string ⟨#[102]⟩] 9))).heap.size = (wr.heap.size + 1) + 1 := by rw [World.size_alloc, hz8]
              have ha9 := alloc_at (w := (World.alloc (World.drew wr) (.cells #[.string ⟨#[]⟩, .int .i64 0] 65))) (n := (wr.heap.size + 1)) hz8 (.cells #[.string ⟨#[100]⟩, .string ⟨#[101]⟩, .string ⟨#[102]⟩] 9)
              have hq9 : (wr.heap.size + 1) ≠ gS ∧ wr.heap.size ≤ (wr.heap.size + 1) := by have h1 : gS < ((World.alloc (World.drew wr) (.cells #[.string ⟨#[]⟩, .int .i64 0] 65))).heap.size := (((HL.out.src.bel (Bel.refl wr).drew).bel ((Bel.refl (World.drew wr)).alloc #[.string ⟨#[]⟩, .int .i64 0] 65))).lt; have h2 : wr.heap.size ≤ ((World.alloc (World.drew wr) (.cells #[.string ⟨#[]⟩, .int .i64 0] 65))).heap.size := (hM8).size; rw [hz8] at h1 h2; omega
              refine wpAnyH_mono (S' := (fun w' => Svg gS wr w' ∧ w'.heap[(wr.heap.size + 1)]? = some (.cells #[.string ⟨#[100]⟩, .string ⟨#[101]⟩, .string ⟨#[102]⟩] 9 (0, 0)))) (fun _ h => h.1) _ _ _ _ ?_
              refine takeD 39 (i := 4) (v := ?v18) rfl rfl (by kernel_rfl) (by kernel_rfl) (by kernel_rfl) (fun _ _ _ h => h) (by kernel_rfl) ?hy18 ⟨hM9, ha9⟩ ?rest18
              case hy18 => (intro w0 hSw; have s0 := HF.out _ hSw.1; have sq := (nm_at HNMV.out hll hSw.2); first | (go_simp; done) | (go_simp; with_reducible rfl))
              simp only [List.setIfInBounds_toArray, List.set_cons_zero, List.set_cons_succ]
              refine takeD 40 (i := 5) (v := ?v19) rfl rfl (by kernel_rfl) (by kernel_rfl) (by kernel_rfl) (fun _ _ _ h => h) (by kernel_rfl) ?hy19 ⟨hM9, ha9⟩ ?rest19
              case hy19 => (intro w0 hSw; have s0 := HF.out _ hSw.1; have sq := (nm_at HNMV.out hll hSw.2); first | (go_simp; done) | (go_simp; with_reducible rfl))
              simp only [List.setIfInBounds_toArray, List.set_cons_zero, List.set_cons_succ]
              refine onlyD 42 (i := 7) rfl rfl (by kernel_rfl) (by kernel_rfl) (fun K hK => ?_)
              go_simp
              go_at_call 21
              refine (next_lit HKD.out (by decide) _ (((HL.out.src.bel (Bel.refl wr).drew).bel ((Bel.refl (World.drew wr)).alloc #[.string ⟨#[]⟩, .int .i64 0] 65)).bel ((Bel.refl (World.alloc (World.drew wr) (.cells #[.string ⟨#[]⟩, .int .i64 0] 65))).alloc #[.string ⟨#[100]⟩, .string ⟨#[101]⟩, .string ⟨#[102]⟩] 9))).mono ?_
              rintro e w11 ⟨rfl, hv1, hs1⟩
              have hS1 := hM9.trans hv1
              have hvz1 := hv1.size
              rw [hz9] at hvz1
              have hN1 := hv1.stays ha9 hq9.1
              refine hK.out _ _ ⟨hS1, hN1⟩ (fun _ => ?_)
              clear hK K
              simp only [List.setIfInBounds_toArray, List.set_cons_zero, List.set_cons_succ]
              refine takeD 43 (i := 8) (v := ?v20) rfl rfl (by kernel_rfl) (by kernel_rfl) (by kernel_rfl) (fun _ _ _ h => h) (by kernel_rfl) ?hy20 ⟨hS1, hN1⟩ ?rest20
              case hy20 => (intro w0 hSw; have s0 := HF.out _ hSw.1; have sq := (nm_at HNMV.out hll hSw.2); first | (go_simp; done) | (go_simp; with_reducible rfl))
              simp only [List.setIfInBounds_toArray, List.set_cons_zero, List.set_cons_succ]
              refine takeD 44 (i := 9) (v := ?v21) rfl rfl (by kernel_rfl) (by kernel_rfl) (by kernel_rfl) (fun _ _ _ h => h) (by kernel_rfl) ?hy21 ⟨hS1, hN1⟩ ?rest21
              case hy21 => (intro w0 hSw; have s0 := HF.out _ hSw.1; have sq := (nm_at HNMV.out hll hSw.2); first | (go_simp; done) | (go_simp; with_reducible rfl))
              simp only [List.setIfInBounds_toArray, List.set_cons_zero, List.set_cons_succ]
              refine onlyN (i := 11) rfl rfl (by kernel_rfl) (by kernel_rfl) (fun K hK => ?_)
              have hst := Svg.stays (((Svg.refl gS (World.alloc (World.drew wr) (.cells #[.string ⟨#[]⟩, .int .i64 0] 65))).trans (((Bel.refl (World.alloc (World.drew wr) (.cells #[.string ⟨#[]⟩, .int .i64 0] 65))).alloc #[.string ⟨#[100]⟩, .string ⟨#[101]⟩, .string ⟨#[102]⟩] 9).svg gS)).trans hv1) ha8 hq8.1
              refine wp_store_row 65 (.tmp 9) (.tmp 44) rfl wr.heap.size #[.string nmv, .int .i64 (1 + kd)] (by kernel_rfl) (by kernel_rfl) 65 #[.string ⟨#[]⟩, .int .i64 0] hst (by kernel_rfl) (by kernel_rfl) (by kernel_rfl) ?_
              refine hK.out undef _ ⟨(Svg.later hS1 (setRow_svg wr.heap.size w11 #[.string nmv, .int .i64 (1 + kd)]) (fun b hb => by subst hb; exact hq8.2)), Svg.stays (setRow_svg wr.heap.size w11 #[.string nmv, .int .i64 (1 + kd)]) hN1 (by omega)⟩ (fun hSF => ?_)
              clear hK K
              have hnw9 := setRow_heap w11 wr.heap.size _ #[.string nmv, .int .i64 (1 + kd)] _ _ hst
              refine wpAnyH_done (by kernel_rfl) ?_ _
              go_wp2_with fail
              go_meet
              exact ⟨_, rfl, Lib.hid hnw9, Lib.hid hSF.1, Lib.hid (hs1.sv (setRow_svg wr.heap.size w11 #[.string nmv, .int .i64 (1 + kd)]) (fun b hb => by subst hb; have := hq8; have := HL.out.src.lt; omega)), Lib.hid hq8.2⟩
            · go_simp
              go_at_call 21
              refine (next_lit HKD.out (by decide) _ ((HL.out.src.bel (Bel.refl wr).drew).bel ((Bel.refl (World.drew wr)).alloc #[.string ⟨#[]⟩, .int .i64 0] 65))).mono ?_
              rintro e w11 ⟨rfl, hv1, hs1⟩
              have hS1 := hM8.trans hv1
              have hvz1 := hv1.size
              rw [hz8] at hvz1
              refine hK.out _ _ hS1 (fun _ => ?_)
              clear hK K
              simp only [List.setIfInBounds_toArray, List.set_cons_zero, List.set_cons_succ]
              refine takeD 43 (i := 8) (v := ?v22) rfl rfl (by kernel_rfl) (by kernel_rfl) (by kernel_rfl) (fun _ _ _ h => h) (by kernel_rfl) ?hy22 hS1 ?rest22
              case hy22 => (intro w0 hSw; have s0 := HF.out _ hSw; first | (go_simp; done) | (go_simp; with_reducible rfl))
              simp only [List.setIfInBounds_toArray, List.set_cons_zero, List.set_cons_succ]
              refine onlyD 35 (i := 0) rfl rfl (by kernel_rfl) (by kernel_rfl) (fun K hK => ?_)
              go_simp
              refine hK.out _ _ (hS1.trans (((Bel.refl w11).alloc #[.string ⟨#[100]⟩, .string ⟨#[101]⟩, .string ⟨#[102]⟩] 9).svg gS)) (fun hM10 => ?_)
              clear hK K
              simp only [List.setIfInBounds_toArray, List.set_cons_zero, List.set_cons_succ]
              have hz10 : ((World.alloc w11 (.cells #[.string ⟨#[100]⟩, .string ⟨#[101]⟩, .string ⟨#[102]⟩] 9))).heap.size = w11.heap.size + 1 := World.size_alloc _ _
              have ha10 := alloc_at (w := w11) (n := w11.heap.size) rfl (.cells #[.string ⟨#[100]⟩, .string ⟨#[101]⟩, .string ⟨#[102]⟩] 9)
              have hq10 : w11.heap.size ≠ gS ∧ wr.heap.size ≤ w11.heap.size := by have h1 : gS < (w11).heap.size := (hs1).lt; have h2 : wr.heap.size ≤ (w11).heap.size := (hS1).size; change gS < w11.heap.size at h1; change _ ≤ w11.heap.size at h2; omega
              refine wpAnyH_mono (S' := (fun w' => Svg gS wr w' ∧ w'.heap[w11.heap.size]? = some (.cells #[.string ⟨#[100]⟩, .string ⟨#[101]⟩, .string ⟨#[102]⟩] 9 (0, 0)))) (fun _ h => h.1) _ _ _ _ ?_
              refine takeD 39 (i := 4) (v := ?v23) rfl rfl (by kernel_rfl) (by kernel_rfl) (by kernel_rfl) (fun _ _ _ h => h) (by kernel_rfl) ?hy23 ⟨hM10, ha10⟩ ?rest23
              case hy23 => (intro w0 hSw; have s0 := HF.out _ hSw.1; have sq := (nm_at HNMV.out hll hSw.2); first | (go_simp; done) | (go_simp; with_reducible rfl))
              simp only [List.setIfInBounds_toArray, List.set_cons_zero, List.set_cons_succ]
              refine takeD 40 (i := 5) (v := ?v24) rfl rfl (by kernel_rfl) (by kernel_rfl) (by kernel_rfl) (fun _ _ _ h => h) (by kernel_rfl) ?hy24 ⟨hM10, ha10⟩ ?rest24
              case hy24 => (intro w0 hSw; have s0 := HF.out _ hSw.1; have sq := (nm_at HNMV.out hll hSw.2); first | (go_simp; done) | (go_simp; with_reducible rfl))
              simp only [List.setIfInBounds_toArray, List.set_cons_zero, List.set_cons_succ]
              refine takeD 44 (i := 9) (v := ?v25) rfl rfl (by kernel_rfl) (by kernel_rfl) (by kernel_rfl) (fun _ _ _ h => h) (by kernel_rfl) ?hy25 ⟨hM10, ha10⟩ ?rest25
              case hy25 => (intro w0 hSw; have s0 := HF.out _ hSw.1; have sq := (nm_at HNMV.out hll hSw.2); first | (go_simp; done) | (go_simp; with_reducible rfl))
              simp only [List.setIfInBounds_toArray, List.set_cons_zero, List.set_cons_succ]
              refine onlyN (i := 11) rfl rfl (by kernel_rfl) (by kernel_rfl) (fun K hK => ?_)
              have hst := Svg.stays (((Svg.refl gS (World.alloc (World.drew wr) (.cells #[.string ⟨#[]⟩, .int .i64 0] 65))).trans hv1).trans (((Bel.refl w11).alloc #[.string ⟨#[100]⟩, .string ⟨#[101]⟩, .string ⟨#[102]⟩] 9).svg gS)) ha8 hq8.1
              refine wp_store_row 65 (.tmp 9) (.tmp 44) rfl wr.heap.size #[.string nmv, .int .i64 (1 + kd)] (by kernel_rfl) (by kernel_rfl) 65 #[.string ⟨#[]⟩, .int .i64 0] hst (by kernel_rfl) (by kernel_rfl) (by kernel_rfl) ?_
              refine hK.out undef _ ⟨(Svg.later hM10 (setRow_svg wr.heap.size (World.alloc w11 (.cells #[.string ⟨#[100]⟩, .string ⟨#[101]⟩, .string ⟨#[102]⟩] 9)) #[.string nmv, .int .i64 (1 + kd)]) (fun b hb => by subst hb; exact hq8.2)), Svg.stays (setRow_svg wr.heap.size (World.alloc w11 (.cells #[.string ⟨#[100]⟩, .string ⟨#[101]⟩, .string ⟨#[102]⟩] 9)) #[.string nmv, .int .i64 (1 + kd)]) ha10 (by omega)⟩ (fun hSF => ?_)
              clear hK K
              have hnw9 := setRow_heap (World.alloc w11 (.cells #[.string ⟨#[100]⟩, .string ⟨#[101]⟩, .string ⟨#[102]⟩] 9)) wr.heap.size _ #[.string nmv, .int .i64 (1 + kd)] _ _ hst
              refine wpAnyH_done (by kernel_rfl) ?_ _
              go_wp2_with fail
              go_meet
              exact ⟨_, rfl, Lib.hid hnw9, Lib.hid hSF.1, Lib.hid ((hs1.bel ((Bel.refl w11).alloc #[.string ⟨#[100]⟩, .string ⟨#[101]⟩, .string ⟨#[102]⟩] 9)).sv (setRow_svg wr.heap.size (World.alloc w11 (.cells #[.string ⟨#[100]⟩, .string ⟨#[101]⟩, .string ⟨#[102]⟩] 9)) #[.string nmv, .int .i64 (1 + kd)]) (fun b hb => by subst hb; have := hq8; have := HL.out.src.lt; omega)), Lib.hid hq8.2⟩
end Go.Proofs.YthlnjnmomnpnpaaGreatDoor
