/- Stores to unlike words may be drained in any order. -/
import Derived.Test.YtgbcamegidloaaaMOpen
import Derived.Test.YtgbcamegidloaaaMMade
import Derived.Test.YtgbcamegidloaaaMTurnsP
import Derived.Deep.QuietTactic
import Derived.BigQuiet
namespace Go.Proofs.Ytgbcamegidloaaa
open Go.RowKit Mm
set_option linter.unusedVariables false
set_option linter.unusedSimpArgs false
theorem cellsTwo : Try.prog.cellsOf 50 = 2 := by kernel_rfl
set_option maxRecDepth 100000 in
theorem open_two {H : Type} {enc : TypeId × Value → H} {W : World} {base : Nat} {sp : Nat → Bool} {held : Bool} {v : Value} {d : DataW H} {p : List MemPlace}
    (h : DataW.Trod enc Try.prog W base sp held 50 v d p) : ∃ y : Int × Int, v = .agg #[.int .i64 y.1, .int .i64 y.2] ∧ inInt y.1 ∧ inInt y.2 := by
  obtain ⟨fuel, hf⟩ := h
  obtain ⟨xs, n, _, _, hsz, hlen, hel⟩ := DataW.trod_array Try.underlying50 hf
  rw [cellsTwo] at hsz
  generalize hc : v.cells.toList = cs at hsz hel
  match cs, hsz with
  | [a0, a1], _ =>
    have h0 := hel 0 (by omega)
    have h1 := hel 1 (by omega)
    match xs, hlen with
    | [z0, z1], _ =>
      obtain ⟨n0, q0, g0, w0⟩ := DataW.trod_int Try.underlying3 h0
      obtain ⟨n1, q1, g1, w1⟩ := DataW.trod_int Try.underlying3 h1
      simp [cellsInt] at q0 q1
      subst q0 q1
      refine ⟨(n0, n1), ?_, in_of w0, in_of w1⟩
      cases v with
      | agg l =>
        obtain ⟨l⟩ := l
        simp [Value.cells] at hc
        rw [hc]
      | _ => simp [Value.cells] at hc
set_option maxRecDepth 100000 in
set_option maxHeartbeats 8000000 in
theorem turns_walk {w : World} {harts words a1 a2 b1 b2 : Int} {P : Option Addr} {N C : Nat} {raw : List Q4} (hih : inInt harts) (hiw : inInt words) (hn : raw.length = N) (hQ : TrisQ w P raw) (hN : N ≤ 9223372036854775807) (hia1 : inInt a1) (hia2 : inInt a2) (hib1 : inInt b1) (hib2 : inInt b2) :
    Calls Try.prog 6 #[.int .i64 harts, .int .i64 words, .slice P N C, .agg #[.int .i64 a1, .int .i64 a2], .agg #[.int .i64 b1, .int .i64 b2]] w fun e w' => e = .returned (.bool true) ∧ Bel w w' := by
  obtain ⟨m, hmd⟩ : ∃ m, madeM harts words raw = m := ⟨_, rfl⟩
  have hbig := big_made harts words raw
  rw [hmd] at hbig
  obtain ⟨H, hH⟩ : ∃ H, (2 + pick harts 3).toNat = H := ⟨_, rfl⟩
  obtain ⟨NW, hNW⟩ : ∃ NW, (1 + pick words 4).toNat = NW := ⟨_, rfl⟩
  rw [hH, hNW] at hbig
  have h2H : 2 ≤ H := by have := pick_bd harts (n := 3) (by omega); omega
  have h4H : H ≤ 4 := by have := pick_bd harts (n := 3) (by omega); omega
  have h1N : 1 ≤ NW := by have := pick_bd words (n := 4) (by omega); omega
  have h4N : NW ≤ 4 := by have := pick_bd words (n := 4) (by omega); omega
  have HMD := Lib.hid hmd
  have HBIG := Lib.hid hbig
  have H2H := Lib.hid h2H
  have H4H := Lib.hid h4H
  have H1N := Lib.hid h1N
  have H4N := Lib.hid h4N
  have HIH := Lib.hid hih
  have HIW := Lib.hid hiw
  have HQR := Lib.hid hQ
  have HRN := Lib.hid hn
  have HNL := Lib.hid hN
  clear hmd hbig hH hNW h2H h4H h1N h4N hih hiw hQ hn hN
  have HIA1 := Lib.hid hia1
  clear hia1
  have HIA2 := Lib.hid hia2
  clear hia2
  have HIB1 := Lib.hid hib1
  clear hib1
  have HIB2 := Lib.hid hib2
  clear hib2
  have HBW : Hid (Bel w w) := Lib.hid (Bel.refl w)
  have HQ0 := HQR
  go_enter Try.func6, Try.ntmps6
  go_upto_region 1 with (fail)
  obtain ⟨hb, hx1, hx2⟩ := box2 w #[.int .i64 a1, .int .i64 a2] 50 #[.int .i64 b1, .int .i64 b2] 50
  generalize hWW : ((w.alloc (.cells #[.int .i64 a1, .int .i64 a2] 50)).alloc (.cells #[.int .i64 b1, .int .i64 b2] 50)) = W1 at hb hx1 hx2 ⊢
  clear hWW
  generalize hG8 : w.heap.size = g8 at hx1 hx2 ⊢
  generalize hG9 : g8 + 1 = g9 at hx2 ⊢
  have HGE8 : Hid (w.heap.size ≤ g8) := Lib.hid (by omega)
  have HGE9 : Hid (w.heap.size ≤ g9) := Lib.hid (by omega)
  have HN89 : Hid (g8 ≠ g9) := Lib.hid (by omega)
  have HBW := Lib.hid (HBW.out.trans hb)
  have HA8 := Lib.hid hx1
  have HA9 := Lib.hid hx2
  clear hb hx1 hx2 hG8 hG9
  go_wp2_with fail
  refine (awake_any _).mono ?_
  rintro e W2 ⟨rfl, hb⟩
  have HBW := Lib.hid (HBW.out.trans hb)
  have HA8 := Lib.hid (Bel.stays hb HA8.out)
  have HA9 := Lib.hid (Bel.stays hb HA9.out)
  clear hb
  go_wp2_with fail
  refine (made_lit HIH.out HIW.out HRN.out (HQ0.out.bel HBW.out) HNL.out HMD.out).mono ?_
  rintro e W3 ⟨u0, rfl, hb, hq⟩
  have HBW := Lib.hid (HBW.out.trans hb)
  have HA8 := Lib.hid (Bel.stays hb HA8.out)
  have HA9 := Lib.hid (Bel.stays hb HA9.out)
  have HQu0 : Hid (MemAt 0 W3 u0 m) := Lib.hid (hq.mono (Nat.zero_le _))
  clear hb hq
  go_upto_region 3 with (fail)
  have hnew : (W3.alloc (.cells #[.slice u0.w.p u0.w.n u0.w.c, .slice u0.p.p u0.p.n u0.p.c, .slice u0.r.p u0.r.n u0.r.c] 27)).heap[W3.heap.size]? = some (.cells #[.slice u0.w.p u0.w.n u0.w.c, .slice u0.p.p u0.p.n u0.p.c, .slice u0.r.p u0.r.n u0.r.c] 27 (0, 0)) := heap_alloc_new W3 _
  have hb : Bel W3 (W3.alloc (.cells #[.slice u0.w.p u0.w.n u0.w.c, .slice u0.p.p u0.p.n u0.p.c, .slice u0.r.p u0.r.n u0.r.c] 27)) := (Bel.refl W3).alloc _ _
  have hge : w.heap.size ≤ W3.heap.size := HBW.out.size
  have HN812 : Hid (g8 ≠ W3.heap.size) := Lib.hid (by have := lt_of_heap HA8.out; omega)
  have HN912 : Hid (g9 ≠ W3.heap.size) := Lib.hid (by have := lt_of_heap HA9.out; omega)
  generalize hWW : (W3.alloc (.cells #[.slice u0.w.p u0.w.n u0.w.c, .slice u0.p.p u0.p.n u0.p.c, .slice u0.r.p u0.r.n u0.r.c] 27)) = W4 at hnew hb ⊢
  clear hWW
  have HBW := Lib.hid (HBW.out.trans hb)
  have HA8 := Lib.hid (Bel.stays hb HA8.out)
  have HA9 := Lib.hid (Bel.stays hb HA9.out)
  have HQu0 := Lib.hid (HQu0.out.bel hb)
  generalize W3.heap.size = g12 at hnew hge HN812 HN912 ⊢
  have HX12 := Lib.hid hnew
  have HGE12 := Lib.hid hge
  clear hnew hb hge
  have k120 := cell_of_heap HX12.out 0
  have k121 := cell_of_heap HX12.out 1
  have k122 := cell_of_heap HX12.out 2
  simp only [List.getElem?_toArray, List.getElem?_cons_zero, List.getElem?_cons_succ] at k120 k121 k122
  have HPNu0 : Hid (u0.p.n = H) := Lib.hid (HQu0.out.pn.trans HBIG.out.p)
  have HWNu0 : Hid (u0.w.n = NW) := Lib.hid (HQu0.out.wn.trans HBIG.out.w)
  have h1pu0 : (1 : Int) ≤ (u0.p.n : Int) := by have := HPNu0.out; have := H2H.out; omega
  have h1wu0 : (1 : Int) ≤ (u0.w.n : Int) := by have := HWNu0.out; have := H1N.out; omega
  have h2pu0 : ¬ (u0.p.n : Int) < 2 := by have := HPNu0.out; have := H2H.out; omega
  obtain ⟨an, han⟩ : ∃ an : Nat, pick a1 u0.p.n = (an : Int) := ⟨(pick a1 u0.p.n).toNat, by have := pick_bd a1 (n := (u0.p.n : Int)) (by omega); omega⟩
  have HLan : Hid (an < H) := Lib.hid (by have := pick_bd a1 (n := (u0.p.n : Int)) (by omega); have := HPNu0.out; have := HWNu0.out; omega)
  have HPan := Lib.hid han
  have H1an := Lib.hid h1pu0
  clear han
  obtain ⟨bn, hbn⟩ : ∃ bn : Nat, pick b1 u0.p.n = (bn : Int) := ⟨(pick b1 u0.p.n).toNat, by have := pick_bd b1 (n := (u0.p.n : Int)) (by omega); omega⟩
  have HLbn : Hid (bn < H) := Lib.hid (by have := pick_bd b1 (n := (u0.p.n : Int)) (by omega); have := HPNu0.out; have := HWNu0.out; omega)
  have HPbn := Lib.hid hbn
  have H1bn := Lib.hid h1pu0
  clear hbn
  obtain ⟨bp, csp, sa, ep, -, hgp, -, -, cpa, -, -, hra⟩ := HQu0.out.hart (isH_of HBIG.out HLan.out)
  obtain ⟨bp', csp', sb, ep', -, -, -, -, cpb, -, -, hrb⟩ := HQu0.out.hart (isH_of HBIG.out HLbn.out)
  obtain rfl : bp = bp' := by have := ep.symm.trans ep'; simpa using this
  have HEP := Lib.hid ep
  have HLP := Lib.hid (lt_of_heap hgp)
  have HCPa := Lib.hid cpa
  have HCPb := Lib.hid cpb
  have HRa := Lib.hid hra
  have HRb := Lib.hid hrb
  have HNa : Hid (sa.n = (row m an).length) := Lib.hid (hra.n (s := sa))
  have HNb : Hid (sb.n = (row m bn).length) := Lib.hid (hrb.n (s := sb))
  have hap : (an : Int) < (u0.p.n : Int) := by have := HLan.out; have := HPNu0.out; omega
  have hbp : (bn : Int) < (u0.p.n : Int) := by have := HLbn.out; have := HPNu0.out; omega
  have HB0 : Hid (Bel W4 W4) := Lib.hid (Bel.refl _)
  clear ep ep' hgp cpa cpb hra hrb
  rw [HEP.out] at k121
  have a80 := cell_of_heap HA8.out 0
  have a81 := cell_of_heap HA8.out 1
  simp only [List.getElem?_toArray, List.getElem?_cons_zero, List.getElem?_cons_succ] at a80 a81
  have a90 := cell_of_heap HA9.out 0
  have a91 := cell_of_heap HA9.out 1
  simp only [List.getElem?_toArray, List.getElem?_cons_zero, List.getElem?_cons_succ] at a90 a91
  have pa : W4.cell? ⟨bp, an, none⟩ = some (.slice sa.p sa.n sa.c) := (HB0.out.cell (p := ⟨bp, an, none⟩) HLP.out).trans HCPa.out
  have pb : W4.cell? ⟨bp, bn, none⟩ = some (.slice sb.p sb.n sb.c) := (HB0.out.cell (p := ⟨bp, bn, none⟩) HLP.out).trans HCPb.out
  go_upto_region 8 with (first | (go_at_call 15; ((with_reducible refine (pick_lit HPan.out HIA1.out H1an.out _).mono ?_); rintro e wq ⟨rfl, rfl⟩)) | (go_at_call 15; ((with_reducible refine (pick_lit HPbn.out HIB1.out H1bn.out _).mono ?_); rintro e wq ⟨rfl, rfl⟩)))
  by_cases hza : (sa.n : Int) = 0
  · go_wp2
    go_ret
    exact ⟨by simp, HBW.out⟩
  by_cases hzb : (sb.n : Int) = 0
  · go_wp2
    go_ret
    exact ⟨by simp, HBW.out⟩
  have hza2 : ¬ sa.n = 0 := by omega
  have hzb2 : ¬ sb.n = 0 := by omega
  have hza3 : ((sa.n : Int) == 0) = false := by simp; omega
  have hzb3 : ((sb.n : Int) == 0) = false := by simp; omega
  have h1a : (1 : Int) ≤ (sa.n : Int) := by omega
  have h1b : (1 : Int) ≤ (sb.n : Int) := by omega
  obtain ⟨i, hi⟩ : ∃ i : Nat, pick a2 sa.n = (i : Int) := ⟨(pick a2 sa.n).toNat, by have := pick_bd a2 (n := (sa.n : Int)) (by omega); omega⟩
  have hli : (i : Int) < (sa.n : Int) := by have := pick_bd a2 (n := (sa.n : Int)) (by omega); omega
  have HPi := Lib.hid hi
  have H1a := Lib.hid h1a
  clear hi
  obtain ⟨x, hx⟩ : ∃ q, (row m an)[i]? = some q := ⟨_, List.getElem?_eq_getElem (by have := HNa.out; omega)⟩
  obtain ⟨k, hk⟩ : ∃ k : Nat, pick b2 sb.n = (k : Int) := ⟨(pick b2 sb.n).toNat, by have := pick_bd b2 (n := (sb.n : Int)) (by omega); omega⟩
  have hlk : (k : Int) < (sb.n : Int) := by have := pick_bd b2 (n := (sb.n : Int)) (by omega); omega
  have HPk := Lib.hid hk
  have H1b := Lib.hid h1b
  clear hk
  obtain ⟨y, hy⟩ : ∃ q, (row m bn)[k]? = some q := ⟨_, List.getElem?_eq_getElem (by have := HNb.out; omega)⟩
  go_upto_region 10 with (fail)
  obtain ⟨bea, csea, eea, -, hgea, -, -, -, -, hcea⟩ := ERow.at (enc := encE) (k := 2) (s := sa) encE_len HRa.out hx
  have HLEa := Lib.hid (lt_of_heap hgea)
  have c0a := hcea 0 _ rfl
  have c1a := hcea 1 _ rfl
  rw [Nat.add_zero] at c0a
  have HEa0 := Lib.hid c0a
  have HEa1 := Lib.hid c1a
  have EEa := Lib.hid eea
  clear eea hgea hcea c0a c1a
  obtain ⟨beb, cseb, eeb, -, hgeb, -, -, -, -, hceb⟩ := ERow.at (enc := encE) (k := 2) (s := sb) encE_len HRb.out hy
  have HLEb := Lib.hid (lt_of_heap hgeb)
  have c0b := hceb 0 _ rfl
  have c1b := hceb 1 _ rfl
  rw [Nat.add_zero] at c0b
  have HEb0 := Lib.hid c0b
  have HEb1 := Lib.hid c1b
  have EEb := Lib.hid eeb
  clear eeb hgeb hceb c0b c1b
  have HX_ := Lib.hid hx
  have HY_ := Lib.hid hy
  clear hx hy
  go_quiet ((go_at_call 15; exact Calls.quiet_of_same ((pick_lit HPi.out HIA2.out H1a.out _).mono fun e w h => ⟨h.1, h.2.symm⟩)))
  clear k120 k121 k122 a80 a81 a90 a91 pa pb
  have hb : Bel W4 (W4.drewN nq) := (Bel.refl _).drewN _
  generalize hWW : W4.drewN nq = Q1 at hb ⊢
  clear hWW
  have HB0 := Lib.hid (HB0.out.trans hb)
  have HBW := Lib.hid (HBW.out.trans hb)
  have HX12 := Lib.hid (Bel.stays hb HX12.out)
  have HA8 := Lib.hid (Bel.stays hb HA8.out)
  have HA9 := Lib.hid (Bel.stays hb HA9.out)
  have HQu0 := Lib.hid (HQu0.out.bel hb)
  clear hb
  have k120 := cell_of_heap HX12.out 0
  have k121 := cell_of_heap HX12.out 1
  have k122 := cell_of_heap HX12.out 2
  simp only [List.getElem?_toArray, List.getElem?_cons_zero, List.getElem?_cons_succ] at k120 k121 k122
  rw [HEP.out] at k121
  have a90 := cell_of_heap HA9.out 0
  have a91 := cell_of_heap HA9.out 1
  simp only [List.getElem?_toArray, List.getElem?_cons_zero, List.getElem?_cons_succ] at a90 a91
  have pb : Q1.cell? ⟨bp, bn, none⟩ = some (.slice sb.p sb.n sb.c) := (HB0.out.cell (p := ⟨bp, bn, none⟩) HLP.out).trans HCPb.out
  go_upto_region 11 with (fail)
  go_quiet ((go_at_call 15; exact Calls.quiet_of_same ((pick_lit HPk.out HIB2.out H1b.out _).mono fun e w h => ⟨h.1, h.2.symm⟩)))
  clear k120 k121 k122 a90 a91 pb
  have hb : Bel Q1 (Q1.drewN nq) := (Bel.refl _).drewN _
  generalize hWW : Q1.drewN nq = Q2 at hb ⊢
  clear hWW
  have HB0 := Lib.hid (HB0.out.trans hb)
  have HBW := Lib.hid (HBW.out.trans hb)
  have HX12 := Lib.hid (Bel.stays hb HX12.out)
  have HA8 := Lib.hid (Bel.stays hb HA8.out)
  have HA9 := Lib.hid (Bel.stays hb HA9.out)
  have HQu0 := Lib.hid (HQu0.out.bel hb)
  clear hb
  have k120 := cell_of_heap HX12.out 0
  have k121 := cell_of_heap HX12.out 1
  have k122 := cell_of_heap HX12.out 2
  simp only [List.getElem?_toArray, List.getElem?_cons_zero, List.getElem?_cons_succ] at k120 k121 k122
  rw [HEP.out] at k121
  have pa : Q2.cell? ⟨bp, an, none⟩ = some (.slice sa.p sa.n sa.c) := (HB0.out.cell (p := ⟨bp, an, none⟩) HLP.out).trans HCPa.out
  rw [EEa.out] at pa
  have pb : Q2.cell? ⟨bp, bn, none⟩ = some (.slice sb.p sb.n sb.c) := (HB0.out.cell (p := ⟨bp, bn, none⟩) HLP.out).trans HCPb.out
  rw [EEb.out] at pb
  have ea0 := (HB0.out.cell (p := ⟨bea, _, none⟩) HLEa.out).trans HEa0.out
  have ea1 := (HB0.out.cell (p := ⟨bea, _, none⟩) HLEa.out).trans HEa1.out
  have eb0 := (HB0.out.cell (p := ⟨beb, _, none⟩) HLEb.out).trans HEb0.out
  have eb1 := (HB0.out.cell (p := ⟨beb, _, none⟩) HLEb.out).trans HEb1.out
  go_upto_region 13 with (fail)
  clear k120 k121 k122 pa pb ea0 ea1 eb0 eb1
  have hnew : (Q2.alloc (.cells #[.int .i64 x.1, .int .i64 x.2] 52)).heap[Q2.heap.size]? = some (.cells #[.int .i64 x.1, .int .i64 x.2] 52 (0, 0)) := heap_alloc_new Q2 _
  have hb : Bel Q2 (Q2.alloc (.cells #[.int .i64 x.1, .int .i64 x.2] 52)) := (Bel.refl Q2).alloc _ _
  have hge : w.heap.size ≤ Q2.heap.size := HBW.out.size
  have HN1218 : Hid (g12 ≠ Q2.heap.size) := Lib.hid (by have := lt_of_heap HX12.out; omega)
  have HN818 : Hid (g8 ≠ Q2.heap.size) := Lib.hid (by have := lt_of_heap HA8.out; omega)
  have HN918 : Hid (g9 ≠ Q2.heap.size) := Lib.hid (by have := lt_of_heap HA9.out; omega)
  generalize hWW : (Q2.alloc (.cells #[.int .i64 x.1, .int .i64 x.2] 52)) = W5 at hnew hb ⊢
  clear hWW
  have HBW := Lib.hid (HBW.out.trans hb)
  have HX12 := Lib.hid (Bel.stays hb HX12.out)
  have HA8 := Lib.hid (Bel.stays hb HA8.out)
  have HA9 := Lib.hid (Bel.stays hb HA9.out)
  have HQu0 := Lib.hid (HQu0.out.bel hb)
  generalize Q2.heap.size = g18 at hnew hge HN1218 HN818 HN918 ⊢
  have HA18 := Lib.hid hnew
  have HGE18 := Lib.hid hge
  have HB0 := Lib.hid (HB0.out.trans hb)
  clear hnew hb hge
  have k120 := cell_of_heap HX12.out 0
  have k121 := cell_of_heap HX12.out 1
  have k122 := cell_of_heap HX12.out 2
  simp only [List.getElem?_toArray, List.getElem?_cons_zero, List.getElem?_cons_succ] at k120 k121 k122
  rw [HEP.out] at k121
  have pb : W5.cell? ⟨bp, bn, none⟩ = some (.slice sb.p sb.n sb.c) := (HB0.out.cell (p := ⟨bp, bn, none⟩) HLP.out).trans HCPb.out
  rw [EEb.out] at pb
  have eb0 := (HB0.out.cell (p := ⟨beb, _, none⟩) HLEb.out).trans HEb0.out
  have eb1 := (HB0.out.cell (p := ⟨beb, _, none⟩) HLEb.out).trans HEb1.out
  go_upto_region 14 with (fail)
  clear k120 k121 k122 pb eb0 eb1
  have hnew : (W5.alloc (.cells #[.int .i64 y.1, .int .i64 y.2] 52)).heap[W5.heap.size]? = some (.cells #[.int .i64 y.1, .int .i64 y.2] 52 (0, 0)) := heap_alloc_new W5 _
  have hb : Bel W5 (W5.alloc (.cells #[.int .i64 y.1, .int .i64 y.2] 52)) := (Bel.refl W5).alloc _ _
  have hge : w.heap.size ≤ W5.heap.size := HBW.out.size
  have HN1219 : Hid (g12 ≠ W5.heap.size) := Lib.hid (by have := lt_of_heap HX12.out; omega)
  have HN819 : Hid (g8 ≠ W5.heap.size) := Lib.hid (by have := lt_of_heap HA8.out; omega)
  have HN919 : Hid (g9 ≠ W5.heap.size) := Lib.hid (by have := lt_of_heap HA9.out; omega)
  have HN1819 : Hid (g18 ≠ W5.heap.size) := Lib.hid (by have := lt_of_heap HA18.out; omega)
  generalize hWW : (W5.alloc (.cells #[.int .i64 y.1, .int .i64 y.2] 52)) = W6 at hnew hb ⊢
  clear hWW
  have HBW := Lib.hid (HBW.out.trans hb)
  have HX12 := Lib.hid (Bel.stays hb HX12.out)
  have HA8 := Lib.hid (Bel.stays hb HA8.out)
  have HA9 := Lib.hid (Bel.stays hb HA9.out)
  have HA18 := Lib.hid (Bel.stays hb HA18.out)
  have HQu0 := Lib.hid (HQu0.out.bel hb)
  generalize W5.heap.size = g19 at hnew hge HN1219 HN819 HN919 HN1819 ⊢
  have HA19 := Lib.hid hnew
  have HGE19 := Lib.hid hge
  clear hnew hb hge
  have k120 := cell_of_heap HX12.out 0
  have k121 := cell_of_heap HX12.out 1
  have k122 := cell_of_heap HX12.out 2
  simp only [List.getElem?_toArray, List.getElem?_cons_zero, List.getElem?_cons_succ] at k120 k121 k122
  have a180 := cell_of_heap HA18.out 0
  have a181 := cell_of_heap HA18.out 1
  simp only [List.getElem?_toArray, List.getElem?_cons_zero, List.getElem?_cons_succ] at a180 a181
  have a190 := cell_of_heap HA19.out 0
  have a191 := cell_of_heap HA19.out 1
  simp only [List.getElem?_toArray, List.getElem?_cons_zero, List.getElem?_cons_succ] at a190 a191
  by_cases hxy : x.1 = y.1
  · have hxy2 : (x.1 == y.1) = true := by rw [hxy]; simp
    go_wp2
    go_ret
    exact ⟨by simp, HBW.out⟩
  obtain ⟨pm, qm, er, fr, d1, d2, okp, okq, h91, hall⟩ := turns_all HBIG.out HLan.out HLbn.out HX_.out HY_.out hxy
  have D1 := Lib.hid d1
  have D2 := Lib.hid d2
  have OKP := Lib.hid okp
  have OKQ := Lib.hid okq
  have H91 := Lib.hid h91
  have HALL := Lib.hid hall
  have hxy2 : (x.1 == y.1) = false := beq_eq_false_iff_ne.2 hxy
  clear d1 d2 okp okq h91 hall
  go_wp2_with fail
  refine (drain_lit HQu0.out HBIG.out.ok D1.out).mono ?_
  rintro e W7 ⟨u1, rfl, hb, hq⟩
  clear k120 k121 k122 a180 a181 a190 a191
  have HBW := Lib.hid (HBW.out.trans hb)
  have HX12 := Lib.hid (Bel.stays hb HX12.out)
  have HA8 := Lib.hid (Bel.stays hb HA8.out)
  have HA9 := Lib.hid (Bel.stays hb HA9.out)
  have HA18 := Lib.hid (Bel.stays hb HA18.out)
  have HA19 := Lib.hid (Bel.stays hb HA19.out)
  have HQu0 := Lib.hid (HQu0.out.bel hb)
  have HQu1 : Hid (MemAt 0 W7 u1 pm) := Lib.hid (hq.mono (Nat.zero_le _))
  clear hb hq
  have k120 := cell_of_heap HX12.out 0
  have k121 := cell_of_heap HX12.out 1
  have k122 := cell_of_heap HX12.out 2
  simp only [List.getElem?_toArray, List.getElem?_cons_zero, List.getElem?_cons_succ] at k120 k121 k122
  clear hxy hxy2
  go_upto_region 17 with (fail)
  clear k120 k121 k122
  have hnew : (W7.alloc (.cells #[.slice u1.w.p u1.w.n u1.w.c, .slice u1.p.p u1.p.n u1.p.c, .slice u1.r.p u1.r.n u1.r.c] 27)).heap[W7.heap.size]? = some (.cells #[.slice u1.w.p u1.w.n u1.w.c, .slice u1.p.p u1.p.n u1.p.c, .slice u1.r.p u1.r.n u1.r.c] 27 (0, 0)) := heap_alloc_new W7 _
  have hb : Bel W7 (W7.alloc (.cells #[.slice u1.w.p u1.w.n u1.w.c, .slice u1.p.p u1.p.n u1.p.c, .slice u1.r.p u1.r.n u1.r.c] 27)) := (Bel.refl W7).alloc _ _
  have hge : w.heap.size ≤ W7.heap.size := HBW.out.size
  have HN1220 : Hid (g12 ≠ W7.heap.size) := Lib.hid (by have := lt_of_heap HX12.out; omega)
  generalize hWW : (W7.alloc (.cells #[.slice u1.w.p u1.w.n u1.w.c, .slice u1.p.p u1.p.n u1.p.c, .slice u1.r.p u1.r.n u1.r.c] 27)) = W8 at hnew hb ⊢
  clear hWW
  have HBW := Lib.hid (HBW.out.trans hb)
  have HX12 := Lib.hid (Bel.stays hb HX12.out)
  have HQu0 := Lib.hid (HQu0.out.bel hb)
  have HQu1 := Lib.hid (HQu1.out.bel hb)
  generalize W7.heap.size = g20 at hnew hge HN1220 ⊢
  have HX20 := Lib.hid hnew
  have HGE20 := Lib.hid hge
  clear hnew hb hge
  have k120 := cell_of_heap HX12.out 0
  have k121 := cell_of_heap HX12.out 1
  have k122 := cell_of_heap HX12.out 2
  simp only [List.getElem?_toArray, List.getElem?_cons_zero, List.getElem?_cons_succ] at k120 k121 k122
  go_wp2_with fail
  refine (drain_lit HQu0.out HBIG.out.ok D2.out).mono ?_
  rintro e W9 ⟨u2, rfl, hb, hq⟩
  clear k120 k121 k122
  have HBW := Lib.hid (HBW.out.trans hb)
  have HX12 := Lib.hid (Bel.stays hb HX12.out)
  have HX20 := Lib.hid (Bel.stays hb HX20.out)
  have HQu0 := Lib.hid (HQu0.out.bel hb)
  have HQu1 := Lib.hid (HQu1.out.bel hb)
  have HQu2 : Hid (MemAt 0 W9 u2 qm) := Lib.hid (hq.mono (Nat.zero_le _))
  clear hb hq
  go_upto_region 18 with (fail)
  have hnew : (W9.alloc (.cells #[.slice u2.w.p u2.w.n u2.w.c, .slice u2.p.p u2.p.n u2.p.c, .slice u2.r.p u2.r.n u2.r.c] 27)).heap[W9.heap.size]? = some (.cells #[.slice u2.w.p u2.w.n u2.w.c, .slice u2.p.p u2.p.n u2.p.c, .slice u2.r.p u2.r.n u2.r.c] 27 (0, 0)) := heap_alloc_new W9 _
  have hb : Bel W9 (W9.alloc (.cells #[.slice u2.w.p u2.w.n u2.w.c, .slice u2.p.p u2.p.n u2.p.c, .slice u2.r.p u2.r.n u2.r.c] 27)) := (Bel.refl W9).alloc _ _
  have hge : w.heap.size ≤ W9.heap.size := HBW.out.size
  have HN1222 : Hid (g12 ≠ W9.heap.size) := Lib.hid (by have := lt_of_heap HX12.out; omega)
  have HN2022 : Hid (g20 ≠ W9.heap.size) := Lib.hid (by have := lt_of_heap HX20.out; omega)
  generalize hWW : (W9.alloc (.cells #[.slice u2.w.p u2.w.n u2.w.c, .slice u2.p.p u2.p.n u2.p.c, .slice u2.r.p u2.r.n u2.r.c] 27)) = W10 at hnew hb ⊢
  clear hWW
  have HBW := Lib.hid (HBW.out.trans hb)
  have HX12 := Lib.hid (Bel.stays hb HX12.out)
  have HX20 := Lib.hid (Bel.stays hb HX20.out)
  have HQu0 := Lib.hid (HQu0.out.bel hb)
  have HQu1 := Lib.hid (HQu1.out.bel hb)
  have HQu2 := Lib.hid (HQu2.out.bel hb)
  generalize W9.heap.size = g22 at hnew hge HN1222 HN2022 ⊢
  have HX22 := Lib.hid hnew
  have HGE22 := Lib.hid hge
  clear hnew hb hge
  have h91 := H91.out
  by_cases he : er = 91
  · subst he
    go_wp2
    go_ret
    exact ⟨by simp, HBW.out⟩
  by_cases hf : fr = 91
  · subst hf
    by_cases hz : er = 0
    · subst hz
      go_wp2
      go_ret
      exact ⟨by simp, HBW.out⟩
    · have hz2 : (er == 0) = false := beq_eq_false_iff_ne.2 hz
      go_wp2
      go_ret
      exact ⟨by simp, HBW.out⟩
  obtain rfl : er = 0 := Classical.byContradiction fun c => (h91 (.inl c)).elim he hf
  obtain rfl : fr = 0 := Classical.byContradiction fun c => (h91 (.inr c)).elim he hf
  clear he hf h91
  obtain ⟨l, j, r1, hl, hj, d3, d4, okr⟩ := HALL.out rfl rfl
  have D3 := Lib.hid d3
  have D4 := Lib.hid d4
  have OKR := Lib.hid okr
  clear d3 d4 okr
  have HKL := Lib.hid hlk
  have HIL := Lib.hid hli
  by_cases hab : an = bn
  · subst hab
    by_cases hik : i < k
    · have hik2 : (i : Int) < (k : Int) := by omega
      have hki2 : ¬ (k : Int) < (i : Int) := by omega
      rw [if_pos ⟨rfl, hik⟩] at hl
      rw [if_neg (fun c => by omega)] at hj
      subst hl hj
      have hw : wrap64 ((k : Int) - 1) = (k : Int) - 1 := IntWalk.wrap64_in _ (by have := HNb.out; have := (row_at HBIG.out HLan.out).1; constructor <;> omega)
      have D5 : Hid (drainV pm an (wrap64 ((k : Int) - 1)) = (r1, 0)) := Lib.hid (by rw [hw, ← D3.out]; congr 1; omega)
      clear hik hw
      have k200 := cell_of_heap HX20.out 0
      have k201 := cell_of_heap HX20.out 1
      have k202 := cell_of_heap HX20.out 2
      simp only [List.getElem?_toArray, List.getElem?_cons_zero, List.getElem?_cons_succ] at k200 k201 k202
      go_wp2_with fail
      refine (drain_lit HQu1.out OKP.out D5.out).mono ?_
      rintro e W11 ⟨u3, rfl, hb, hq⟩
      clear k200 k201 k202
      have HBW := Lib.hid (HBW.out.trans hb)
      have HX12 := Lib.hid (Bel.stays hb HX12.out)
      have HX20 := Lib.hid (Bel.stays hb HX20.out)
      have HX22 := Lib.hid (Bel.stays hb HX22.out)
      have HQu0 := Lib.hid (HQu0.out.bel hb)
      have HQu1 := Lib.hid (HQu1.out.bel hb)
      have HQu2 := Lib.hid (HQu2.out.bel hb)
      have HQu3 : Hid (MemAt 0 W11 u3 r1) := Lib.hid (hq.mono (Nat.zero_le _))
      clear hb hq
      have k200 := cell_of_heap HX20.out 0
      have y200 := frozen_of_heap HX20.out 0
      have k201 := cell_of_heap HX20.out 1
      have y201 := frozen_of_heap HX20.out 1
      have k202 := cell_of_heap HX20.out 2
      have y202 := frozen_of_heap HX20.out 2
      simp only [List.getElem?_toArray, List.getElem?_cons_zero, List.getElem?_cons_succ] at k200 k201 k202
      go_upto_region 27 with (fail)
      clear y200 y201 y202 k200 k201 k202
      have hs3 : Svg g20 W11 (((W11.setCell ⟨g20, 0, none⟩ (.slice u3.w.p u3.w.n u3.w.c)).setCell ⟨g20, 1, none⟩ (.slice u3.p.p u3.p.n u3.p.c)).setCell ⟨g20, 2, none⟩ (.slice u3.r.p u3.r.n u3.r.c)) := set3_svg W11 g20 (.slice u3.w.p u3.w.n u3.w.c) (.slice u3.p.p u3.p.n u3.p.c) (.slice u3.r.p u3.r.n u3.r.c)
      have hh := set3_heap HX20.out (.slice u3.w.p u3.w.n u3.w.c) (.slice u3.p.p u3.p.n u3.p.c) (.slice u3.r.p u3.r.n u3.r.c)
      generalize hWW : (((W11.setCell ⟨g20, 0, none⟩ (.slice u3.w.p u3.w.n u3.w.c)).setCell ⟨g20, 1, none⟩ (.slice u3.p.p u3.p.n u3.p.c)).setCell ⟨g20, 2, none⟩ (.slice u3.r.p u3.r.n u3.r.c)) = W12 at hs3 hh ⊢
      clear hWW
      have HBW := Lib.hid (hs3.bel HBW.out HGE20.out)
      have HX12 := Lib.hid ((hs3.block _ (lt_of_heap HX12.out) HN1220.out).trans HX12.out)
      have HX22 := Lib.hid ((hs3.block _ (lt_of_heap HX22.out) HN2022.out.symm).trans HX22.out)
      have HQu0 := Lib.hid (HQu0.out.keep hs3 HX20.out (by decide) (by decide) (by decide))
      have HQu1 := Lib.hid (HQu1.out.keep hs3 HX20.out (by decide) (by decide) (by decide))
      have HQu2 := Lib.hid (HQu2.out.keep hs3 HX20.out (by decide) (by decide) (by decide))
      have HQu3 := Lib.hid (HQu3.out.keep hs3 HX20.out (by decide) (by decide) (by decide))
      have HX20 := Lib.hid hh
      clear hs3 hh
      have k220 := cell_of_heap HX22.out 0
      have k221 := cell_of_heap HX22.out 1
      have k222 := cell_of_heap HX22.out 2
      simp only [List.getElem?_toArray, List.getElem?_cons_zero, List.getElem?_cons_succ] at k220 k221 k222
      go_wp2_with fail
      refine (drain_lit HQu2.out OKQ.out D4.out).mono ?_
      rintro e W13 ⟨u4, rfl, hb, hq⟩
      clear k220 k221 k222
      have HBW := Lib.hid (HBW.out.trans hb)
      have HX12 := Lib.hid (Bel.stays hb HX12.out)
      have HX20 := Lib.hid (Bel.stays hb HX20.out)
      have HX22 := Lib.hid (Bel.stays hb HX22.out)
      have HQu0 := Lib.hid (HQu0.out.bel hb)
      have HQu1 := Lib.hid (HQu1.out.bel hb)
      have HQu2 := Lib.hid (HQu2.out.bel hb)
      have HQu3 := Lib.hid (HQu3.out.bel hb)
      have HQu4 : Hid (MemAt 0 W13 u4 r1) := Lib.hid (hq.mono (Nat.zero_le _))
      clear hb hq
      have k220 := cell_of_heap HX22.out 0
      have y220 := frozen_of_heap HX22.out 0
      have k221 := cell_of_heap HX22.out 1
      have y221 := frozen_of_heap HX22.out 1
      have k222 := cell_of_heap HX22.out 2
      have y222 := frozen_of_heap HX22.out 2
      simp only [List.getElem?_toArray, List.getElem?_cons_zero, List.getElem?_cons_succ] at k220 k221 k222
      go_upto_region 28 with (fail)
      clear y220 y221 y222 k220 k221 k222
      have hs3 : Svg g22 W13 (((W13.setCell ⟨g22, 0, none⟩ (.slice u4.w.p u4.w.n u4.w.c)).setCell ⟨g22, 1, none⟩ (.slice u4.p.p u4.p.n u4.p.c)).setCell ⟨g22, 2, none⟩ (.slice u4.r.p u4.r.n u4.r.c)) := set3_svg W13 g22 (.slice u4.w.p u4.w.n u4.w.c) (.slice u4.p.p u4.p.n u4.p.c) (.slice u4.r.p u4.r.n u4.r.c)
      have hh := set3_heap HX22.out (.slice u4.w.p u4.w.n u4.w.c) (.slice u4.p.p u4.p.n u4.p.c) (.slice u4.r.p u4.r.n u4.r.c)
      generalize hWW : (((W13.setCell ⟨g22, 0, none⟩ (.slice u4.w.p u4.w.n u4.w.c)).setCell ⟨g22, 1, none⟩ (.slice u4.p.p u4.p.n u4.p.c)).setCell ⟨g22, 2, none⟩ (.slice u4.r.p u4.r.n u4.r.c)) = W14 at hs3 hh ⊢
      clear hWW
      have HBW := Lib.hid (hs3.bel HBW.out HGE22.out)
      have HX12 := Lib.hid ((hs3.block _ (lt_of_heap HX12.out) HN1222.out).trans HX12.out)
      have HX20 := Lib.hid ((hs3.block _ (lt_of_heap HX20.out) HN2022.out).trans HX20.out)
      have HQu0 := Lib.hid (HQu0.out.keep hs3 HX22.out (by decide) (by decide) (by decide))
      have HQu1 := Lib.hid (HQu1.out.keep hs3 HX22.out (by decide) (by decide) (by decide))
      have HQu2 := Lib.hid (HQu2.out.keep hs3 HX22.out (by decide) (by decide) (by decide))
      have HQu3 := Lib.hid (HQu3.out.keep hs3 HX22.out (by decide) (by decide) (by decide))
      have HQu4 := Lib.hid (HQu4.out.keep hs3 HX22.out (by decide) (by decide) (by decide))
      have HX22 := Lib.hid hh
      clear hs3 hh
      have k200 := cell_of_heap HX20.out 0
      have k201 := cell_of_heap HX20.out 1
      have k202 := cell_of_heap HX20.out 2
      have k220 := cell_of_heap HX22.out 0
      have k221 := cell_of_heap HX22.out 1
      have k222 := cell_of_heap HX22.out 2
      simp only [List.getElem?_toArray, List.getElem?_cons_zero, List.getElem?_cons_succ] at k200 k201 k202 k220 k221 k222
      go_wp2_with fail
      refine (same_lit (sameV_refl r1) HQu3.out HQu4.out OKR.out).mono ?_
      rintro e W15 ⟨rfl, hb⟩
      clear k200 k201 k202 k220 k221 k222
      have HBW := Lib.hid (HBW.out.trans hb)
      have HX12 := Lib.hid (Bel.stays hb HX12.out)
      have HX20 := Lib.hid (Bel.stays hb HX20.out)
      have HX22 := Lib.hid (Bel.stays hb HX22.out)
      have HQu0 := Lib.hid (HQu0.out.bel hb)
      have HQu1 := Lib.hid (HQu1.out.bel hb)
      have HQu2 := Lib.hid (HQu2.out.bel hb)
      have HQu3 := Lib.hid (HQu3.out.bel hb)
      have HQu4 := Lib.hid (HQu4.out.bel hb)
      clear hb
      go_wp2
      go_ret
      exact ⟨by simp, HBW.out⟩
    · by_cases hki : k < i
      · have hik2 : ¬ (i : Int) < (k : Int) := by omega
        have hki2 : (k : Int) < (i : Int) := by omega
        rw [if_neg (fun c => by omega)] at hl
        rw [if_pos ⟨rfl, hki⟩] at hj
        subst hl hj
        have hw : wrap64 ((i : Int) - 1) = (i : Int) - 1 := IntWalk.wrap64_in _ (by have := HNa.out; have := (row_at HBIG.out HLan.out).1; constructor <;> omega)
        have D5 : Hid (drainV qm an (wrap64 ((i : Int) - 1)) = (r1, 0)) := Lib.hid (by rw [hw, ← D4.out]; congr 1; omega)
        clear hki hik hw
        have k200 := cell_of_heap HX20.out 0
        have k201 := cell_of_heap HX20.out 1
        have k202 := cell_of_heap HX20.out 2
        simp only [List.getElem?_toArray, List.getElem?_cons_zero, List.getElem?_cons_succ] at k200 k201 k202
        go_wp2_with fail
        refine (drain_lit HQu1.out OKP.out D3.out).mono ?_
        rintro e W11 ⟨u3, rfl, hb, hq⟩
        clear k200 k201 k202
        have HBW := Lib.hid (HBW.out.trans hb)
        have HX12 := Lib.hid (Bel.stays hb HX12.out)
        have HX20 := Lib.hid (Bel.stays hb HX20.out)
        have HX22 := Lib.hid (Bel.stays hb HX22.out)
        have HQu0 := Lib.hid (HQu0.out.bel hb)
        have HQu1 := Lib.hid (HQu1.out.bel hb)
        have HQu2 := Lib.hid (HQu2.out.bel hb)
        have HQu3 : Hid (MemAt 0 W11 u3 r1) := Lib.hid (hq.mono (Nat.zero_le _))
        clear hb hq
        have k200 := cell_of_heap HX20.out 0
        have y200 := frozen_of_heap HX20.out 0
        have k201 := cell_of_heap HX20.out 1
        have y201 := frozen_of_heap HX20.out 1
        have k202 := cell_of_heap HX20.out 2
        have y202 := frozen_of_heap HX20.out 2
        simp only [List.getElem?_toArray, List.getElem?_cons_zero, List.getElem?_cons_succ] at k200 k201 k202
        go_upto_region 27 with (fail)
        clear y200 y201 y202 k200 k201 k202
        have hs3 : Svg g20 W11 (((W11.setCell ⟨g20, 0, none⟩ (.slice u3.w.p u3.w.n u3.w.c)).setCell ⟨g20, 1, none⟩ (.slice u3.p.p u3.p.n u3.p.c)).setCell ⟨g20, 2, none⟩ (.slice u3.r.p u3.r.n u3.r.c)) := set3_svg W11 g20 (.slice u3.w.p u3.w.n u3.w.c) (.slice u3.p.p u3.p.n u3.p.c) (.slice u3.r.p u3.r.n u3.r.c)
        have hh := set3_heap HX20.out (.slice u3.w.p u3.w.n u3.w.c) (.slice u3.p.p u3.p.n u3.p.c) (.slice u3.r.p u3.r.n u3.r.c)
        generalize hWW : (((W11.setCell ⟨g20, 0, none⟩ (.slice u3.w.p u3.w.n u3.w.c)).setCell ⟨g20, 1, none⟩ (.slice u3.p.p u3.p.n u3.p.c)).setCell ⟨g20, 2, none⟩ (.slice u3.r.p u3.r.n u3.r.c)) = W12 at hs3 hh ⊢
        clear hWW
        have HBW := Lib.hid (hs3.bel HBW.out HGE20.out)
        have HX12 := Lib.hid ((hs3.block _ (lt_of_heap HX12.out) HN1220.out).trans HX12.out)
        have HX22 := Lib.hid ((hs3.block _ (lt_of_heap HX22.out) HN2022.out.symm).trans HX22.out)
        have HQu0 := Lib.hid (HQu0.out.keep hs3 HX20.out (by decide) (by decide) (by decide))
        have HQu1 := Lib.hid (HQu1.out.keep hs3 HX20.out (by decide) (by decide) (by decide))
        have HQu2 := Lib.hid (HQu2.out.keep hs3 HX20.out (by decide) (by decide) (by decide))
        have HQu3 := Lib.hid (HQu3.out.keep hs3 HX20.out (by decide) (by decide) (by decide))
        have HX20 := Lib.hid hh
        clear hs3 hh
        have k220 := cell_of_heap HX22.out 0
        have k221 := cell_of_heap HX22.out 1
        have k222 := cell_of_heap HX22.out 2
        simp only [List.getElem?_toArray, List.getElem?_cons_zero, List.getElem?_cons_succ] at k220 k221 k222
        go_wp2_with fail
        refine (drain_lit HQu2.out OKQ.out D5.out).mono ?_
        rintro e W13 ⟨u4, rfl, hb, hq⟩
        clear k220 k221 k222
        have HBW := Lib.hid (HBW.out.trans hb)
        have HX12 := Lib.hid (Bel.stays hb HX12.out)
        have HX20 := Lib.hid (Bel.stays hb HX20.out)
        have HX22 := Lib.hid (Bel.stays hb HX22.out)
        have HQu0 := Lib.hid (HQu0.out.bel hb)
        have HQu1 := Lib.hid (HQu1.out.bel hb)
        have HQu2 := Lib.hid (HQu2.out.bel hb)
        have HQu3 := Lib.hid (HQu3.out.bel hb)
        have HQu4 : Hid (MemAt 0 W13 u4 r1) := Lib.hid (hq.mono (Nat.zero_le _))
        clear hb hq
        have k220 := cell_of_heap HX22.out 0
        have y220 := frozen_of_heap HX22.out 0
        have k221 := cell_of_heap HX22.out 1
        have y221 := frozen_of_heap HX22.out 1
        have k222 := cell_of_heap HX22.out 2
        have y222 := frozen_of_heap HX22.out 2
        simp only [List.getElem?_toArray, List.getElem?_cons_zero, List.getElem?_cons_succ] at k220 k221 k222
        go_upto_region 28 with (fail)
        clear y220 y221 y222 k220 k221 k222
        have hs3 : Svg g22 W13 (((W13.setCell ⟨g22, 0, none⟩ (.slice u4.w.p u4.w.n u4.w.c)).setCell ⟨g22, 1, none⟩ (.slice u4.p.p u4.p.n u4.p.c)).setCell ⟨g22, 2, none⟩ (.slice u4.r.p u4.r.n u4.r.c)) := set3_svg W13 g22 (.slice u4.w.p u4.w.n u4.w.c) (.slice u4.p.p u4.p.n u4.p.c) (.slice u4.r.p u4.r.n u4.r.c)
        have hh := set3_heap HX22.out (.slice u4.w.p u4.w.n u4.w.c) (.slice u4.p.p u4.p.n u4.p.c) (.slice u4.r.p u4.r.n u4.r.c)
        generalize hWW : (((W13.setCell ⟨g22, 0, none⟩ (.slice u4.w.p u4.w.n u4.w.c)).setCell ⟨g22, 1, none⟩ (.slice u4.p.p u4.p.n u4.p.c)).setCell ⟨g22, 2, none⟩ (.slice u4.r.p u4.r.n u4.r.c)) = W14 at hs3 hh ⊢
        clear hWW
        have HBW := Lib.hid (hs3.bel HBW.out HGE22.out)
        have HX12 := Lib.hid ((hs3.block _ (lt_of_heap HX12.out) HN1222.out).trans HX12.out)
        have HX20 := Lib.hid ((hs3.block _ (lt_of_heap HX20.out) HN2022.out).trans HX20.out)
        have HQu0 := Lib.hid (HQu0.out.keep hs3 HX22.out (by decide) (by decide) (by decide))
        have HQu1 := Lib.hid (HQu1.out.keep hs3 HX22.out (by decide) (by decide) (by decide))
        have HQu2 := Lib.hid (HQu2.out.keep hs3 HX22.out (by decide) (by decide) (by decide))
        have HQu3 := Lib.hid (HQu3.out.keep hs3 HX22.out (by decide) (by decide) (by decide))
        have HQu4 := Lib.hid (HQu4.out.keep hs3 HX22.out (by decide) (by decide) (by decide))
        have HX22 := Lib.hid hh
        clear hs3 hh
        have k200 := cell_of_heap HX20.out 0
        have k201 := cell_of_heap HX20.out 1
        have k202 := cell_of_heap HX20.out 2
        have k220 := cell_of_heap HX22.out 0
        have k221 := cell_of_heap HX22.out 1
        have k222 := cell_of_heap HX22.out 2
        simp only [List.getElem?_toArray, List.getElem?_cons_zero, List.getElem?_cons_succ] at k200 k201 k202 k220 k221 k222
        go_wp2_with fail
        refine (same_lit (sameV_refl r1) HQu3.out HQu4.out OKR.out).mono ?_
        rintro e W15 ⟨rfl, hb⟩
        clear k200 k201 k202 k220 k221 k222
        have HBW := Lib.hid (HBW.out.trans hb)
        have HX12 := Lib.hid (Bel.stays hb HX12.out)
        have HX20 := Lib.hid (Bel.stays hb HX20.out)
        have HX22 := Lib.hid (Bel.stays hb HX22.out)
        have HQu0 := Lib.hid (HQu0.out.bel hb)
        have HQu1 := Lib.hid (HQu1.out.bel hb)
        have HQu2 := Lib.hid (HQu2.out.bel hb)
        have HQu3 := Lib.hid (HQu3.out.bel hb)
        have HQu4 := Lib.hid (HQu4.out.bel hb)
        clear hb
        go_wp2
        go_ret
        exact ⟨by simp, HBW.out⟩
      · have hik2 : ¬ (i : Int) < (k : Int) := by omega
        have hki2 : ¬ (k : Int) < (i : Int) := by omega
        rw [if_neg (fun c => by omega)] at hl
        rw [if_neg (fun c => by omega)] at hj
        subst hl hj
        clear hki hik
        have k200 := cell_of_heap HX20.out 0
        have k201 := cell_of_heap HX20.out 1
        have k202 := cell_of_heap HX20.out 2
        simp only [List.getElem?_toArray, List.getElem?_cons_zero, List.getElem?_cons_succ] at k200 k201 k202
        go_wp2_with fail
        refine (drain_lit HQu1.out OKP.out D3.out).mono ?_
        rintro e W11 ⟨u3, rfl, hb, hq⟩
        clear k200 k201 k202
        have HBW := Lib.hid (HBW.out.trans hb)
        have HX12 := Lib.hid (Bel.stays hb HX12.out)
        have HX20 := Lib.hid (Bel.stays hb HX20.out)
        have HX22 := Lib.hid (Bel.stays hb HX22.out)
        have HQu0 := Lib.hid (HQu0.out.bel hb)
        have HQu1 := Lib.hid (HQu1.out.bel hb)
        have HQu2 := Lib.hid (HQu2.out.bel hb)
        have HQu3 : Hid (MemAt 0 W11 u3 r1) := Lib.hid (hq.mono (Nat.zero_le _))
        clear hb hq
        have k200 := cell_of_heap HX20.out 0
        have y200 := frozen_of_heap HX20.out 0
        have k201 := cell_of_heap HX20.out 1
        have y201 := frozen_of_heap HX20.out 1
        have k202 := cell_of_heap HX20.out 2
        have y202 := frozen_of_heap HX20.out 2
        simp only [List.getElem?_toArray, List.getElem?_cons_zero, List.getElem?_cons_succ] at k200 k201 k202
        go_upto_region 27 with (fail)
        clear y200 y201 y202 k200 k201 k202
        have hs3 : Svg g20 W11 (((W11.setCell ⟨g20, 0, none⟩ (.slice u3.w.p u3.w.n u3.w.c)).setCell ⟨g20, 1, none⟩ (.slice u3.p.p u3.p.n u3.p.c)).setCell ⟨g20, 2, none⟩ (.slice u3.r.p u3.r.n u3.r.c)) := set3_svg W11 g20 (.slice u3.w.p u3.w.n u3.w.c) (.slice u3.p.p u3.p.n u3.p.c) (.slice u3.r.p u3.r.n u3.r.c)
        have hh := set3_heap HX20.out (.slice u3.w.p u3.w.n u3.w.c) (.slice u3.p.p u3.p.n u3.p.c) (.slice u3.r.p u3.r.n u3.r.c)
        generalize hWW : (((W11.setCell ⟨g20, 0, none⟩ (.slice u3.w.p u3.w.n u3.w.c)).setCell ⟨g20, 1, none⟩ (.slice u3.p.p u3.p.n u3.p.c)).setCell ⟨g20, 2, none⟩ (.slice u3.r.p u3.r.n u3.r.c)) = W12 at hs3 hh ⊢
        clear hWW
        have HBW := Lib.hid (hs3.bel HBW.out HGE20.out)
        have HX12 := Lib.hid ((hs3.block _ (lt_of_heap HX12.out) HN1220.out).trans HX12.out)
        have HX22 := Lib.hid ((hs3.block _ (lt_of_heap HX22.out) HN2022.out.symm).trans HX22.out)
        have HQu0 := Lib.hid (HQu0.out.keep hs3 HX20.out (by decide) (by decide) (by decide))
        have HQu1 := Lib.hid (HQu1.out.keep hs3 HX20.out (by decide) (by decide) (by decide))
        have HQu2 := Lib.hid (HQu2.out.keep hs3 HX20.out (by decide) (by decide) (by decide))
        have HQu3 := Lib.hid (HQu3.out.keep hs3 HX20.out (by decide) (by decide) (by decide))
        have HX20 := Lib.hid hh
        clear hs3 hh
        have k220 := cell_of_heap HX22.out 0
        have k221 := cell_of_heap HX22.out 1
        have k222 := cell_of_heap HX22.out 2
        simp only [List.getElem?_toArray, List.getElem?_cons_zero, List.getElem?_cons_succ] at k220 k221 k222
        go_wp2_with fail
        refine (drain_lit HQu2.out OKQ.out D4.out).mono ?_
        rintro e W13 ⟨u4, rfl, hb, hq⟩
        clear k220 k221 k222
        have HBW := Lib.hid (HBW.out.trans hb)
        have HX12 := Lib.hid (Bel.stays hb HX12.out)
        have HX20 := Lib.hid (Bel.stays hb HX20.out)
        have HX22 := Lib.hid (Bel.stays hb HX22.out)
        have HQu0 := Lib.hid (HQu0.out.bel hb)
        have HQu1 := Lib.hid (HQu1.out.bel hb)
        have HQu2 := Lib.hid (HQu2.out.bel hb)
        have HQu3 := Lib.hid (HQu3.out.bel hb)
        have HQu4 : Hid (MemAt 0 W13 u4 r1) := Lib.hid (hq.mono (Nat.zero_le _))
        clear hb hq
        have k220 := cell_of_heap HX22.out 0
        have y220 := frozen_of_heap HX22.out 0
        have k221 := cell_of_heap HX22.out 1
        have y221 := frozen_of_heap HX22.out 1
        have k222 := cell_of_heap HX22.out 2
        have y222 := frozen_of_heap HX22.out 2
        simp only [List.getElem?_toArray, List.getElem?_cons_zero, List.getElem?_cons_succ] at k220 k221 k222
        go_upto_region 28 with (fail)
        clear y220 y221 y222 k220 k221 k222
        have hs3 : Svg g22 W13 (((W13.setCell ⟨g22, 0, none⟩ (.slice u4.w.p u4.w.n u4.w.c)).setCell ⟨g22, 1, none⟩ (.slice u4.p.p u4.p.n u4.p.c)).setCell ⟨g22, 2, none⟩ (.slice u4.r.p u4.r.n u4.r.c)) := set3_svg W13 g22 (.slice u4.w.p u4.w.n u4.w.c) (.slice u4.p.p u4.p.n u4.p.c) (.slice u4.r.p u4.r.n u4.r.c)
        have hh := set3_heap HX22.out (.slice u4.w.p u4.w.n u4.w.c) (.slice u4.p.p u4.p.n u4.p.c) (.slice u4.r.p u4.r.n u4.r.c)
        generalize hWW : (((W13.setCell ⟨g22, 0, none⟩ (.slice u4.w.p u4.w.n u4.w.c)).setCell ⟨g22, 1, none⟩ (.slice u4.p.p u4.p.n u4.p.c)).setCell ⟨g22, 2, none⟩ (.slice u4.r.p u4.r.n u4.r.c)) = W14 at hs3 hh ⊢
        clear hWW
        have HBW := Lib.hid (hs3.bel HBW.out HGE22.out)
        have HX12 := Lib.hid ((hs3.block _ (lt_of_heap HX12.out) HN1222.out).trans HX12.out)
        have HX20 := Lib.hid ((hs3.block _ (lt_of_heap HX20.out) HN2022.out).trans HX20.out)
        have HQu0 := Lib.hid (HQu0.out.keep hs3 HX22.out (by decide) (by decide) (by decide))
        have HQu1 := Lib.hid (HQu1.out.keep hs3 HX22.out (by decide) (by decide) (by decide))
        have HQu2 := Lib.hid (HQu2.out.keep hs3 HX22.out (by decide) (by decide) (by decide))
        have HQu3 := Lib.hid (HQu3.out.keep hs3 HX22.out (by decide) (by decide) (by decide))
        have HQu4 := Lib.hid (HQu4.out.keep hs3 HX22.out (by decide) (by decide) (by decide))
        have HX22 := Lib.hid hh
        clear hs3 hh
        have k200 := cell_of_heap HX20.out 0
        have k201 := cell_of_heap HX20.out 1
        have k202 := cell_of_heap HX20.out 2
        have k220 := cell_of_heap HX22.out 0
        have k221 := cell_of_heap HX22.out 1
        have k222 := cell_of_heap HX22.out 2
        simp only [List.getElem?_toArray, List.getElem?_cons_zero, List.getElem?_cons_succ] at k200 k201 k202 k220 k221 k222
        go_wp2_with fail
        refine (same_lit (sameV_refl r1) HQu3.out HQu4.out OKR.out).mono ?_
        rintro e W15 ⟨rfl, hb⟩
        clear k200 k201 k202 k220 k221 k222
        have HBW := Lib.hid (HBW.out.trans hb)
        have HX12 := Lib.hid (Bel.stays hb HX12.out)
        have HX20 := Lib.hid (Bel.stays hb HX20.out)
        have HX22 := Lib.hid (Bel.stays hb HX22.out)
        have HQu0 := Lib.hid (HQu0.out.bel hb)
        have HQu1 := Lib.hid (HQu1.out.bel hb)
        have HQu2 := Lib.hid (HQu2.out.bel hb)
        have HQu3 := Lib.hid (HQu3.out.bel hb)
        have HQu4 := Lib.hid (HQu4.out.bel hb)
        clear hb
        go_wp2
        go_ret
        exact ⟨by simp, HBW.out⟩
  · have hab2 : ¬ (an : Int) = (bn : Int) := by omega
    rw [if_neg (fun c => hab c.1)] at hl
    rw [if_neg (fun c => hab c.1)] at hj
    subst hl hj
    clear hab
    have k200 := cell_of_heap HX20.out 0
    have k201 := cell_of_heap HX20.out 1
    have k202 := cell_of_heap HX20.out 2
    simp only [List.getElem?_toArray, List.getElem?_cons_zero, List.getElem?_cons_succ] at k200 k201 k202
    go_wp2_with fail
    refine (drain_lit HQu1.out OKP.out D3.out).mono ?_
    rintro e W11 ⟨u3, rfl, hb, hq⟩
    clear k200 k201 k202
    have HBW := Lib.hid (HBW.out.trans hb)
    have HX12 := Lib.hid (Bel.stays hb HX12.out)
    have HX20 := Lib.hid (Bel.stays hb HX20.out)
    have HX22 := Lib.hid (Bel.stays hb HX22.out)
    have HQu0 := Lib.hid (HQu0.out.bel hb)
    have HQu1 := Lib.hid (HQu1.out.bel hb)
    have HQu2 := Lib.hid (HQu2.out.bel hb)
    have HQu3 : Hid (MemAt 0 W11 u3 r1) := Lib.hid (hq.mono (Nat.zero_le _))
    clear hb hq
    have k200 := cell_of_heap HX20.out 0
    have y200 := frozen_of_heap HX20.out 0
    have k201 := cell_of_heap HX20.out 1
    have y201 := frozen_of_heap HX20.out 1
    have k202 := cell_of_heap HX20.out 2
    have y202 := frozen_of_heap HX20.out 2
    simp only [List.getElem?_toArray, List.getElem?_cons_zero, List.getElem?_cons_succ] at k200 k201 k202
    go_upto_region 27 with (fail)
    clear y200 y201 y202 k200 k201 k202
    have hs3 : Svg g20 W11 (((W11.setCell ⟨g20, 0, none⟩ (.slice u3.w.p u3.w.n u3.w.c)).setCell ⟨g20, 1, none⟩ (.slice u3.p.p u3.p.n u3.p.c)).setCell ⟨g20, 2, none⟩ (.slice u3.r.p u3.r.n u3.r.c)) := set3_svg W11 g20 (.slice u3.w.p u3.w.n u3.w.c) (.slice u3.p.p u3.p.n u3.p.c) (.slice u3.r.p u3.r.n u3.r.c)
    have hh := set3_heap HX20.out (.slice u3.w.p u3.w.n u3.w.c) (.slice u3.p.p u3.p.n u3.p.c) (.slice u3.r.p u3.r.n u3.r.c)
    generalize hWW : (((W11.setCell ⟨g20, 0, none⟩ (.slice u3.w.p u3.w.n u3.w.c)).setCell ⟨g20, 1, none⟩ (.slice u3.p.p u3.p.n u3.p.c)).setCell ⟨g20, 2, none⟩ (.slice u3.r.p u3.r.n u3.r.c)) = W12 at hs3 hh ⊢
    clear hWW
    have HBW := Lib.hid (hs3.bel HBW.out HGE20.out)
    have HX12 := Lib.hid ((hs3.block _ (lt_of_heap HX12.out) HN1220.out).trans HX12.out)
    have HX22 := Lib.hid ((hs3.block _ (lt_of_heap HX22.out) HN2022.out.symm).trans HX22.out)
    have HQu0 := Lib.hid (HQu0.out.keep hs3 HX20.out (by decide) (by decide) (by decide))
    have HQu1 := Lib.hid (HQu1.out.keep hs3 HX20.out (by decide) (by decide) (by decide))
    have HQu2 := Lib.hid (HQu2.out.keep hs3 HX20.out (by decide) (by decide) (by decide))
    have HQu3 := Lib.hid (HQu3.out.keep hs3 HX20.out (by decide) (by decide) (by decide))
    have HX20 := Lib.hid hh
    clear hs3 hh
    have k220 := cell_of_heap HX22.out 0
    have k221 := cell_of_heap HX22.out 1
    have k222 := cell_of_heap HX22.out 2
    simp only [List.getElem?_toArray, List.getElem?_cons_zero, List.getElem?_cons_succ] at k220 k221 k222
    go_wp2_with fail
    refine (drain_lit HQu2.out OKQ.out D4.out).mono ?_
    rintro e W13 ⟨u4, rfl, hb, hq⟩
    clear k220 k221 k222
    have HBW := Lib.hid (HBW.out.trans hb)
    have HX12 := Lib.hid (Bel.stays hb HX12.out)
    have HX20 := Lib.hid (Bel.stays hb HX20.out)
    have HX22 := Lib.hid (Bel.stays hb HX22.out)
    have HQu0 := Lib.hid (HQu0.out.bel hb)
    have HQu1 := Lib.hid (HQu1.out.bel hb)
    have HQu2 := Lib.hid (HQu2.out.bel hb)
    have HQu3 := Lib.hid (HQu3.out.bel hb)
    have HQu4 : Hid (MemAt 0 W13 u4 r1) := Lib.hid (hq.mono (Nat.zero_le _))
    clear hb hq
    have k220 := cell_of_heap HX22.out 0
    have y220 := frozen_of_heap HX22.out 0
    have k221 := cell_of_heap HX22.out 1
    have y221 := frozen_of_heap HX22.out 1
    have k222 := cell_of_heap HX22.out 2
    have y222 := frozen_of_heap HX22.out 2
    simp only [List.getElem?_toArray, List.getElem?_cons_zero, List.getElem?_cons_succ] at k220 k221 k222
    go_upto_region 28 with (fail)
    clear y220 y221 y222 k220 k221 k222
    have hs3 : Svg g22 W13 (((W13.setCell ⟨g22, 0, none⟩ (.slice u4.w.p u4.w.n u4.w.c)).setCell ⟨g22, 1, none⟩ (.slice u4.p.p u4.p.n u4.p.c)).setCell ⟨g22, 2, none⟩ (.slice u4.r.p u4.r.n u4.r.c)) := set3_svg W13 g22 (.slice u4.w.p u4.w.n u4.w.c) (.slice u4.p.p u4.p.n u4.p.c) (.slice u4.r.p u4.r.n u4.r.c)
    have hh := set3_heap HX22.out (.slice u4.w.p u4.w.n u4.w.c) (.slice u4.p.p u4.p.n u4.p.c) (.slice u4.r.p u4.r.n u4.r.c)
    generalize hWW : (((W13.setCell ⟨g22, 0, none⟩ (.slice u4.w.p u4.w.n u4.w.c)).setCell ⟨g22, 1, none⟩ (.slice u4.p.p u4.p.n u4.p.c)).setCell ⟨g22, 2, none⟩ (.slice u4.r.p u4.r.n u4.r.c)) = W14 at hs3 hh ⊢
    clear hWW
    have HBW := Lib.hid (hs3.bel HBW.out HGE22.out)
    have HX12 := Lib.hid ((hs3.block _ (lt_of_heap HX12.out) HN1222.out).trans HX12.out)
    have HX20 := Lib.hid ((hs3.block _ (lt_of_heap HX20.out) HN2022.out).trans HX20.out)
    have HQu0 := Lib.hid (HQu0.out.keep hs3 HX22.out (by decide) (by decide) (by decide))
    have HQu1 := Lib.hid (HQu1.out.keep hs3 HX22.out (by decide) (by decide) (by decide))
    have HQu2 := Lib.hid (HQu2.out.keep hs3 HX22.out (by decide) (by decide) (by decide))
    have HQu3 := Lib.hid (HQu3.out.keep hs3 HX22.out (by decide) (by decide) (by decide))
    have HQu4 := Lib.hid (HQu4.out.keep hs3 HX22.out (by decide) (by decide) (by decide))
    have HX22 := Lib.hid hh
    clear hs3 hh
    have k200 := cell_of_heap HX20.out 0
    have k201 := cell_of_heap HX20.out 1
    have k202 := cell_of_heap HX20.out 2
    have k220 := cell_of_heap HX22.out 0
    have k221 := cell_of_heap HX22.out 1
    have k222 := cell_of_heap HX22.out 2
    simp only [List.getElem?_toArray, List.getElem?_cons_zero, List.getElem?_cons_succ] at k200 k201 k202 k220 k221 k222
    go_wp2_with fail
    refine (same_lit (sameV_refl r1) HQu3.out HQu4.out OKR.out).mono ?_
    rintro e W15 ⟨rfl, hb⟩
    clear k200 k201 k202 k220 k221 k222
    have HBW := Lib.hid (HBW.out.trans hb)
    have HX12 := Lib.hid (Bel.stays hb HX12.out)
    have HX20 := Lib.hid (Bel.stays hb HX20.out)
    have HX22 := Lib.hid (Bel.stays hb HX22.out)
    have HQu0 := Lib.hid (HQu0.out.bel hb)
    have HQu1 := Lib.hid (HQu1.out.bel hb)
    have HQu2 := Lib.hid (HQu2.out.bel hb)
    have HQu3 := Lib.hid (HQu3.out.bel hb)
    have HQu4 := Lib.hid (HQu4.out.bel hb)
    clear hb
    go_wp2
    go_ret
    exact ⟨by simp, HBW.out⟩
end Go.Proofs.Ytgbcamegidloaaa
