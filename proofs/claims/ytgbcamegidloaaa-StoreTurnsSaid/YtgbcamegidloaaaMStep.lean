/- The law's own step. -/
import Derived.Test.YtgbcamegidloaaaMOpen
import Derived.Test.YtgbcamegidloaaaMMadeP
namespace Go.Proofs.Ytgbcamegidloaaa
open Go.RowKit Mm
set_option linter.unusedVariables false
set_option linter.unusedSimpArgs false
theorem results_slot_cell {P : Program} {fn : Func} {p q : Tmp} {ty : TypeId} (h : fn.results = #[.tmp q, .cell p ty]) (tmps : Array Value) (w : World) (g : Nat) (t : TypeId) (cs : Array Value) (fr : Nat × Nat) (d : TypeDesc) (v : Value)
    (hp : tmps.getD p undef = .pointer (some ⟨g, 0, none⟩)) (hq : tmps.getD q undef = v) (hg : w.heap[g]? = some (.cells cs t fr))
    (hu : P.underlying ty = some d) (hd : (match d with | .struct _ | .array _ _ => true | _ => false) = true) (hi : (P.info? ty).map (·.size) = some cs.size) :
    (results fn tmps).run P w = .ok (.tuple #[v, .agg cs]) w := by
  have hp' : tmps[p]?.getD undef = .pointer (some ⟨g, 0, none⟩) := by simpa using hp
  have hq' : tmps[q]?.getD undef = v := by simpa using hq
  simp [results, h, hp', hq', asAddr, run_loadVar_row w g t ty cs fr d hg hu hd hi]
def StepTold (m' : Mem) (w : World) (e : Ending) (w' : World) : Prop := ∃ (n : Int) (u : Mv), e = .returned (.tuple #[.int .i64 n, .agg #[.slice u.w.p u.w.n u.w.c, .slice u.p.p u.p.n u.p.c, .slice u.r.p u.r.n u.r.c]]) ∧ Bel w w' ∧ MemAt 0 w' u m'
set_option maxRecDepth 100000 in
set_option maxHeartbeats 4000000 in
theorem step_0 {w : World} {v : Mv} {m : Mem} (hm : MemAt 0 w v m) (ho : Ok m) (hpl : 1 ≤ m.pend.length) (hwl : 1 ≤ m.words.length) {x1 x2 x3 x4 : Int} (hi1 : inInt x1) (hi2 : inInt x2) (hi3 : inInt x3) (hi4 : inInt x4) (hk : pick x1 8 = 0) :
    Calls Try.prog 55 #[.agg #[.slice v.w.p v.w.n v.w.c, .slice v.p.p v.p.n v.p.c, .slice v.r.p v.r.n v.r.c], .agg #[.int .i64 x1, .int .i64 x2, .int .i64 x3, .int .i64 x4]] w (StepTold (stepM m (x1, x2, x3, x4)) w) := by
  obtain ⟨hb, hx2, hx3, hx5⟩ := box3 w #[.slice v.w.p v.w.n v.w.c, .slice v.p.p v.p.n v.p.c, .slice v.r.p v.r.n v.r.c] 27 #[.int .i64 x1, .int .i64 x2, .int .i64 x3, .int .i64 x4] 33 #[.slice none 0 0, .slice none 0 0, .slice none 0 0] 27
  have hm0 : MemAt 0 w v m := hm
  have hpn : v.p.n = m.pend.length := hm.pn
  have hwn : v.w.n = m.words.length := hm.wn
  have h1p : (1 : Int) ≤ (v.p.n : Int) := by omega
  have h1w : (1 : Int) ≤ (v.w.n : Int) := by omega
  obtain ⟨hn, hhn⟩ : ∃ hn : Nat, pick x2 v.p.n = (hn : Int) := ⟨(pick x2 v.p.n).toNat, by have := pick_bd x2 (n := (v.p.n : Int)) (by omega); omega⟩
  obtain ⟨an, han⟩ : ∃ an : Nat, pick x3 v.w.n = (an : Int) := ⟨(pick x3 v.w.n).toNat, by have := pick_bd x3 (n := (v.w.n : Int)) (by omega); omega⟩
  have HPH := Lib.hid hhn
  have HPA := Lib.hid han
  have HHP : Hid (hp m (x1, x2, x3, x4) = (hn : Int)) := Lib.hid (by show pick x2 (m.pend.length : Int) = _; rw [← hpn]; exact hhn)
  have HAP : Hid (ap m (x1, x2, x3, x4) = (an : Int)) := Lib.hid (by show pick x3 (m.words.length : Int) = _; rw [← hwn]; exact han)
  have H1P := Lib.hid h1p
  have H1W := Lib.hid h1w
  have HO := Lib.hid ho
  have HI1 := Lib.hid hi1
  have HI2 := Lib.hid hi2
  have HI3 := Lib.hid hi3
  have HI4 := Lib.hid hi4
  have HK := Lib.hid hk
  have HM := Lib.hid hm0
  clear hm hm0 hhn han hpl hwl hi1 hi2 hi3 hi4 hk ho hpn hwn
  go_enter Try.func55, Try.ntmps55
  go_upto_region 1 with (fail)
  generalize hWW : (((w.alloc (.cells #[.slice v.w.p v.w.n v.w.c, .slice v.p.p v.p.n v.p.c, .slice v.r.p v.r.n v.r.c] 27)).alloc (.cells #[.int .i64 x1, .int .i64 x2, .int .i64 x3, .int .i64 x4] 33)).alloc (.cells #[.slice none 0 0, .slice none 0 0, .slice none 0 0] 27)) = W1 at hb hx2 hx3 hx5 ⊢
  clear hWW
  have HN23 : Hid (w.heap.size ≠ w.heap.size + 1) := Lib.hid (by omega)
  have HN25 : Hid (w.heap.size ≠ w.heap.size + 1 + 1) := Lib.hid (by omega)
  have HN35 : Hid (w.heap.size + 1 ≠ w.heap.size + 1 + 1) := Lib.hid (by omega)
  have HGE5 : Hid (w.heap.size ≤ w.heap.size + 1 + 1) := Lib.hid (by omega)
  generalize w.heap.size + 1 + 1 = g5 at hx5 HN25 HN35 HGE5 ⊢
  generalize w.heap.size + 1 = g3 at hx3 HN23 HN35 ⊢
  obtain ⟨g2, hG⟩ : ∃ G, w.heap.size = G := ⟨_, rfl⟩
  rw [hG] at hx2 HN23 HN25 ⊢
  have HBW := Lib.hid hb
  have HX2 := Lib.hid hx2
  have HA3 := Lib.hid hx3
  have HX5 := Lib.hid hx5
  have HQv := Lib.hid (HM.out.bel hb)
  clear hb hx2 hx3 hx5 hG HM
  have k20 := cell_of_heap HX2.out 0
  have k21 := cell_of_heap HX2.out 1
  have k22 := cell_of_heap HX2.out 2
  simp only [List.getElem?_toArray, List.getElem?_cons_zero, List.getElem?_cons_succ] at k20 k21 k22
  have a30 := cell_of_heap HA3.out 0
  have a31 := cell_of_heap HA3.out 1
  have a32 := cell_of_heap HA3.out 2
  have a33 := cell_of_heap HA3.out 3
  simp only [List.getElem?_toArray, List.getElem?_cons_zero, List.getElem?_cons_succ] at a30 a31 a32 a33
  go_upto_region 4 with (first | (go_at_call 15; ((with_reducible refine (pick_lit HPH.out HI2.out H1P.out _).mono ?_); rintro e w' ⟨rfl, rfl⟩)) | (go_at_call 15; ((with_reducible refine (pick_lit HPA.out HI3.out H1W.out _).mono ?_); rintro e w' ⟨rfl, rfl⟩)))
  go_upto_region 5 with (fail)
  clear k20 k21 k22 a30 a31 a32 a33
  have hnew : (W1.alloc (.cells #[.slice v.w.p v.w.n v.w.c, .slice v.p.p v.p.n v.p.c, .slice v.r.p v.r.n v.r.c] 27)).heap[W1.heap.size]? = some (.cells #[.slice v.w.p v.w.n v.w.c, .slice v.p.p v.p.n v.p.c, .slice v.r.p v.r.n v.r.c] 27 (0, 0)) := heap_alloc_new W1 _
  have hb : Bel W1 (W1.alloc (.cells #[.slice v.w.p v.w.n v.w.c, .slice v.p.p v.p.n v.p.c, .slice v.r.p v.r.n v.r.c] 27)) := (Bel.refl W1).alloc _ _
  have hge : w.heap.size ≤ W1.heap.size := HBW.out.size
  have HN29 : Hid (g2 ≠ W1.heap.size) := Lib.hid (by have := lt_of_heap HX2.out; omega)
  have HN59 : Hid (g5 ≠ W1.heap.size) := Lib.hid (by have := lt_of_heap HX5.out; omega)
  have HN39 : Hid (g3 ≠ W1.heap.size) := Lib.hid (by have := lt_of_heap HA3.out; omega)
  generalize hWW : (W1.alloc (.cells #[.slice v.w.p v.w.n v.w.c, .slice v.p.p v.p.n v.p.c, .slice v.r.p v.r.n v.r.c] 27)) = W2 at hnew hb ⊢
  clear hWW
  have HBW := Lib.hid (HBW.out.trans hb)
  have HX2 := Lib.hid (Bel.stays hb HX2.out)
  have HX5 := Lib.hid (Bel.stays hb HX5.out)
  have HA3 := Lib.hid (Bel.stays hb HA3.out)
  have HQv := Lib.hid (HQv.out.bel hb)
  generalize W1.heap.size = g9 at hnew hge HN29 HN59 HN39 ⊢
  have HX9 := Lib.hid hnew
  have HGE9 := Lib.hid hge
  clear hnew hb hge
  have k20 := cell_of_heap HX2.out 0
  have k21 := cell_of_heap HX2.out 1
  have k22 := cell_of_heap HX2.out 2
  have k50 := cell_of_heap HX5.out 0
  have k51 := cell_of_heap HX5.out 1
  have k52 := cell_of_heap HX5.out 2
  have k90 := cell_of_heap HX9.out 0
  have y90 := frozen_of_heap HX9.out 0
  have k91 := cell_of_heap HX9.out 1
  have y91 := frozen_of_heap HX9.out 1
  have k92 := cell_of_heap HX9.out 2
  have y92 := frozen_of_heap HX9.out 2
  simp only [List.getElem?_toArray, List.getElem?_cons_zero, List.getElem?_cons_succ] at k20 k21 k22 k50 k51 k52 k90 k91 k92
  have a30 := cell_of_heap HA3.out 0
  have a31 := cell_of_heap HA3.out 1
  have a32 := cell_of_heap HA3.out 2
  have a33 := cell_of_heap HA3.out 3
  simp only [List.getElem?_toArray, List.getElem?_cons_zero, List.getElem?_cons_succ] at a30 a31 a32 a33
  obtain ⟨kn, hkn⟩ : ∃ kn : Nat, pick x3 8 = (kn : Int) := ⟨(pick x3 8).toNat, by have := pick_bd x3 (n := 8) (by omega); omega⟩
  have HKN := Lib.hid hkn
  clear hkn
  obtain ⟨q, r, hr⟩ : ∃ q r, loadV m hn an = (q, r) := ⟨_, _, rfl⟩
  have HS : Hid (stepM m (x1, x2, x3, x4) = m) := Lib.hid (by unfold stepM; rw [if_pos HK.out])
  have HR := Lib.hid hr
  clear hr
  go_wp2_with (go_at_call 15; ((with_reducible refine (pick_lit HK.out HI1.out (by decide) _).mono ?_); rintro e w' ⟨rfl, rfl⟩))
  refine (load_lit HQv.out HO.out HR.out).mono ?_
  rintro e W3 ⟨rfl, hb⟩
  clear y90 y91 y92 k20 k21 k22 k50 k51 k52 k90 k91 k92 a30 a31 a32 a33
  have HBW := Lib.hid (HBW.out.trans hb)
  have HX2 := Lib.hid (Bel.stays hb HX2.out)
  have HX5 := Lib.hid (Bel.stays hb HX5.out)
  have HX9 := Lib.hid (Bel.stays hb HX9.out)
  have HA3 := Lib.hid (Bel.stays hb HA3.out)
  have HQv := Lib.hid (HQv.out.bel hb)
  clear hb
  have k20 := cell_of_heap HX2.out 0
  have k21 := cell_of_heap HX2.out 1
  have k22 := cell_of_heap HX2.out 2
  have k50 := cell_of_heap HX5.out 0
  have y50 := frozen_of_heap HX5.out 0
  have k51 := cell_of_heap HX5.out 1
  have y51 := frozen_of_heap HX5.out 1
  have k52 := cell_of_heap HX5.out 2
  have y52 := frozen_of_heap HX5.out 2
  have k90 := cell_of_heap HX9.out 0
  have y90 := frozen_of_heap HX9.out 0
  have k91 := cell_of_heap HX9.out 1
  have y91 := frozen_of_heap HX9.out 1
  have k92 := cell_of_heap HX9.out 2
  have y92 := frozen_of_heap HX9.out 2
  simp only [List.getElem?_toArray, List.getElem?_cons_zero, List.getElem?_cons_succ] at k20 k21 k22 k50 k51 k52 k90 k91 k92
  have a30 := cell_of_heap HA3.out 0
  have a31 := cell_of_heap HA3.out 1
  have a32 := cell_of_heap HA3.out 2
  have a33 := cell_of_heap HA3.out 3
  simp only [List.getElem?_toArray, List.getElem?_cons_zero, List.getElem?_cons_succ] at a30 a31 a32 a33
  clear y50 y51 y52 y90 y91 y92 k20 k21 k22 k50 k51 k52 k90 k91 k92 a30 a31 a32 a33
  by_cases hz : r = 0
  · have hrz : (r != 0) = false := by rw [hz]; rfl
    have HZ := Lib.hid hz
    clear hz
    have k90 := cell_of_heap HX9.out 0
    have k91 := cell_of_heap HX9.out 1
    have k92 := cell_of_heap HX9.out 2
    have k50 := cell_of_heap HX5.out 0
    have y50 := frozen_of_heap HX5.out 0
    have k51 := cell_of_heap HX5.out 1
    have y51 := frozen_of_heap HX5.out 1
    have k52 := cell_of_heap HX5.out 2
    have y52 := frozen_of_heap HX5.out 2
    simp only [List.getElem?_toArray, List.getElem?_cons_zero, List.getElem?_cons_succ] at k90 k91 k92 k50 k51 k52
    go_upto_region 25 with (fail)
    go_region
    go_wp2_with fail
    have hs3 : Svg g5 W3 (((W3.setCell ⟨g5, 0, none⟩ (.slice v.w.p v.w.n v.w.c)).setCell ⟨g5, 1, none⟩ (.slice v.p.p v.p.n v.p.c)).setCell ⟨g5, 2, none⟩ (.slice v.r.p v.r.n v.r.c)).drew := (set3_svg W3 g5 (.slice v.w.p v.w.n v.w.c) (.slice v.p.p v.p.n v.p.c) (.slice v.r.p v.r.n v.r.c)).trans ((Bel.refl _).drew.svg g5)
    have hh : (((W3.setCell ⟨g5, 0, none⟩ (.slice v.w.p v.w.n v.w.c)).setCell ⟨g5, 1, none⟩ (.slice v.p.p v.p.n v.p.c)).setCell ⟨g5, 2, none⟩ (.slice v.r.p v.r.n v.r.c)).drew.heap[g5]? = some (.cells #[.slice v.w.p v.w.n v.w.c, .slice v.p.p v.p.n v.p.c, .slice v.r.p v.r.n v.r.c] 27 (0, 0)) := set3_heap HX5.out _ _ _
    exact bodyPost_ret (results_slot_cell Try.results55 _ _ g5 _ _ _ _ _ rfl rfl hh Try.underlying27 rfl (by kernel_rfl)) rfl ⟨_, v, rfl, hs3.bel HBW.out HGE5.out, by rw [HS.out]; exact HQv.out.keep hs3 HX5.out (by decide) (by decide) (by decide)⟩
  · have hrz : (r != 0) = true := by exact bne_iff_ne.2 hz
    have HZ := Lib.hid hz
    clear hz
    have k20 := cell_of_heap HX2.out 0
    have k21 := cell_of_heap HX2.out 1
    have k22 := cell_of_heap HX2.out 2
    have k50 := cell_of_heap HX5.out 0
    have y50 := frozen_of_heap HX5.out 0
    have k51 := cell_of_heap HX5.out 1
    have y51 := frozen_of_heap HX5.out 1
    have k52 := cell_of_heap HX5.out 2
    have y52 := frozen_of_heap HX5.out 2
    simp only [List.getElem?_toArray, List.getElem?_cons_zero, List.getElem?_cons_succ] at k20 k21 k22 k50 k51 k52
    go_upto_region 24 with (fail)
    go_region
    go_wp2_with fail
    have hs3 : Svg g5 W3 (((W3.setCell ⟨g5, 0, none⟩ (.slice v.w.p v.w.n v.w.c)).setCell ⟨g5, 1, none⟩ (.slice v.p.p v.p.n v.p.c)).setCell ⟨g5, 2, none⟩ (.slice v.r.p v.r.n v.r.c)).drew := (set3_svg W3 g5 (.slice v.w.p v.w.n v.w.c) (.slice v.p.p v.p.n v.p.c) (.slice v.r.p v.r.n v.r.c)).trans ((Bel.refl _).drew.svg g5)
    have hh : (((W3.setCell ⟨g5, 0, none⟩ (.slice v.w.p v.w.n v.w.c)).setCell ⟨g5, 1, none⟩ (.slice v.p.p v.p.n v.p.c)).setCell ⟨g5, 2, none⟩ (.slice v.r.p v.r.n v.r.c)).drew.heap[g5]? = some (.cells #[.slice v.w.p v.w.n v.w.c, .slice v.p.p v.p.n v.p.c, .slice v.r.p v.r.n v.r.c] 27 (0, 0)) := set3_heap HX5.out _ _ _
    exact bodyPost_ret (results_slot_cell Try.results55 _ _ g5 _ _ _ _ _ rfl rfl hh Try.underlying27 rfl (by kernel_rfl)) rfl ⟨_, v, rfl, hs3.bel HBW.out HGE5.out, by rw [HS.out]; exact HQv.out.keep hs3 HX5.out (by decide) (by decide) (by decide)⟩
set_option maxRecDepth 100000 in
set_option maxHeartbeats 4000000 in
theorem step_1 {w : World} {v : Mv} {m : Mem} (hm : MemAt 0 w v m) (ho : Ok m) (hpl : 1 ≤ m.pend.length) (hwl : 1 ≤ m.words.length) {x1 x2 x3 x4 : Int} (hi1 : inInt x1) (hi2 : inInt x2) (hi3 : inInt x3) (hi4 : inInt x4) (hk : pick x1 8 = 1) :
    Calls Try.prog 55 #[.agg #[.slice v.w.p v.w.n v.w.c, .slice v.p.p v.p.n v.p.c, .slice v.r.p v.r.n v.r.c], .agg #[.int .i64 x1, .int .i64 x2, .int .i64 x3, .int .i64 x4]] w (StepTold (stepM m (x1, x2, x3, x4)) w) := by
  obtain ⟨hb, hx2, hx3, hx5⟩ := box3 w #[.slice v.w.p v.w.n v.w.c, .slice v.p.p v.p.n v.p.c, .slice v.r.p v.r.n v.r.c] 27 #[.int .i64 x1, .int .i64 x2, .int .i64 x3, .int .i64 x4] 33 #[.slice none 0 0, .slice none 0 0, .slice none 0 0] 27
  have hm0 : MemAt 0 w v m := hm
  have hpn : v.p.n = m.pend.length := hm.pn
  have hwn : v.w.n = m.words.length := hm.wn
  have h1p : (1 : Int) ≤ (v.p.n : Int) := by omega
  have h1w : (1 : Int) ≤ (v.w.n : Int) := by omega
  obtain ⟨hn, hhn⟩ : ∃ hn : Nat, pick x2 v.p.n = (hn : Int) := ⟨(pick x2 v.p.n).toNat, by have := pick_bd x2 (n := (v.p.n : Int)) (by omega); omega⟩
  obtain ⟨an, han⟩ : ∃ an : Nat, pick x3 v.w.n = (an : Int) := ⟨(pick x3 v.w.n).toNat, by have := pick_bd x3 (n := (v.w.n : Int)) (by omega); omega⟩
  have HPH := Lib.hid hhn
  have HPA := Lib.hid han
  have HHP : Hid (hp m (x1, x2, x3, x4) = (hn : Int)) := Lib.hid (by show pick x2 (m.pend.length : Int) = _; rw [← hpn]; exact hhn)
  have HAP : Hid (ap m (x1, x2, x3, x4) = (an : Int)) := Lib.hid (by show pick x3 (m.words.length : Int) = _; rw [← hwn]; exact han)
  have H1P := Lib.hid h1p
  have H1W := Lib.hid h1w
  have HO := Lib.hid ho
  have HI1 := Lib.hid hi1
  have HI2 := Lib.hid hi2
  have HI3 := Lib.hid hi3
  have HI4 := Lib.hid hi4
  have HK := Lib.hid hk
  have HM := Lib.hid hm0
  clear hm hm0 hhn han hpl hwl hi1 hi2 hi3 hi4 hk ho hpn hwn
  go_enter Try.func55, Try.ntmps55
  go_upto_region 1 with (fail)
  generalize hWW : (((w.alloc (.cells #[.slice v.w.p v.w.n v.w.c, .slice v.p.p v.p.n v.p.c, .slice v.r.p v.r.n v.r.c] 27)).alloc (.cells #[.int .i64 x1, .int .i64 x2, .int .i64 x3, .int .i64 x4] 33)).alloc (.cells #[.slice none 0 0, .slice none 0 0, .slice none 0 0] 27)) = W1 at hb hx2 hx3 hx5 ⊢
  clear hWW
  have HN23 : Hid (w.heap.size ≠ w.heap.size + 1) := Lib.hid (by omega)
  have HN25 : Hid (w.heap.size ≠ w.heap.size + 1 + 1) := Lib.hid (by omega)
  have HN35 : Hid (w.heap.size + 1 ≠ w.heap.size + 1 + 1) := Lib.hid (by omega)
  have HGE5 : Hid (w.heap.size ≤ w.heap.size + 1 + 1) := Lib.hid (by omega)
  generalize w.heap.size + 1 + 1 = g5 at hx5 HN25 HN35 HGE5 ⊢
  generalize w.heap.size + 1 = g3 at hx3 HN23 HN35 ⊢
  obtain ⟨g2, hG⟩ : ∃ G, w.heap.size = G := ⟨_, rfl⟩
  rw [hG] at hx2 HN23 HN25 ⊢
  have HBW := Lib.hid hb
  have HX2 := Lib.hid hx2
  have HA3 := Lib.hid hx3
  have HX5 := Lib.hid hx5
  have HQv := Lib.hid (HM.out.bel hb)
  clear hb hx2 hx3 hx5 hG HM
  have k20 := cell_of_heap HX2.out 0
  have k21 := cell_of_heap HX2.out 1
  have k22 := cell_of_heap HX2.out 2
  simp only [List.getElem?_toArray, List.getElem?_cons_zero, List.getElem?_cons_succ] at k20 k21 k22
  have a30 := cell_of_heap HA3.out 0
  have a31 := cell_of_heap HA3.out 1
  have a32 := cell_of_heap HA3.out 2
  have a33 := cell_of_heap HA3.out 3
  simp only [List.getElem?_toArray, List.getElem?_cons_zero, List.getElem?_cons_succ] at a30 a31 a32 a33
  go_upto_region 4 with (first | (go_at_call 15; ((with_reducible refine (pick_lit HPH.out HI2.out H1P.out _).mono ?_); rintro e w' ⟨rfl, rfl⟩)) | (go_at_call 15; ((with_reducible refine (pick_lit HPA.out HI3.out H1W.out _).mono ?_); rintro e w' ⟨rfl, rfl⟩)))
  go_upto_region 5 with (fail)
  clear k20 k21 k22 a30 a31 a32 a33
  have hnew : (W1.alloc (.cells #[.slice v.w.p v.w.n v.w.c, .slice v.p.p v.p.n v.p.c, .slice v.r.p v.r.n v.r.c] 27)).heap[W1.heap.size]? = some (.cells #[.slice v.w.p v.w.n v.w.c, .slice v.p.p v.p.n v.p.c, .slice v.r.p v.r.n v.r.c] 27 (0, 0)) := heap_alloc_new W1 _
  have hb : Bel W1 (W1.alloc (.cells #[.slice v.w.p v.w.n v.w.c, .slice v.p.p v.p.n v.p.c, .slice v.r.p v.r.n v.r.c] 27)) := (Bel.refl W1).alloc _ _
  have hge : w.heap.size ≤ W1.heap.size := HBW.out.size
  have HN29 : Hid (g2 ≠ W1.heap.size) := Lib.hid (by have := lt_of_heap HX2.out; omega)
  have HN59 : Hid (g5 ≠ W1.heap.size) := Lib.hid (by have := lt_of_heap HX5.out; omega)
  have HN39 : Hid (g3 ≠ W1.heap.size) := Lib.hid (by have := lt_of_heap HA3.out; omega)
  generalize hWW : (W1.alloc (.cells #[.slice v.w.p v.w.n v.w.c, .slice v.p.p v.p.n v.p.c, .slice v.r.p v.r.n v.r.c] 27)) = W2 at hnew hb ⊢
  clear hWW
  have HBW := Lib.hid (HBW.out.trans hb)
  have HX2 := Lib.hid (Bel.stays hb HX2.out)
  have HX5 := Lib.hid (Bel.stays hb HX5.out)
  have HA3 := Lib.hid (Bel.stays hb HA3.out)
  have HQv := Lib.hid (HQv.out.bel hb)
  generalize W1.heap.size = g9 at hnew hge HN29 HN59 HN39 ⊢
  have HX9 := Lib.hid hnew
  have HGE9 := Lib.hid hge
  clear hnew hb hge
  have k20 := cell_of_heap HX2.out 0
  have k21 := cell_of_heap HX2.out 1
  have k22 := cell_of_heap HX2.out 2
  have k50 := cell_of_heap HX5.out 0
  have k51 := cell_of_heap HX5.out 1
  have k52 := cell_of_heap HX5.out 2
  have k90 := cell_of_heap HX9.out 0
  have y90 := frozen_of_heap HX9.out 0
  have k91 := cell_of_heap HX9.out 1
  have y91 := frozen_of_heap HX9.out 1
  have k92 := cell_of_heap HX9.out 2
  have y92 := frozen_of_heap HX9.out 2
  simp only [List.getElem?_toArray, List.getElem?_cons_zero, List.getElem?_cons_succ] at k20 k21 k22 k50 k51 k52 k90 k91 k92
  have a30 := cell_of_heap HA3.out 0
  have a31 := cell_of_heap HA3.out 1
  have a32 := cell_of_heap HA3.out 2
  have a33 := cell_of_heap HA3.out 3
  simp only [List.getElem?_toArray, List.getElem?_cons_zero, List.getElem?_cons_succ] at a30 a31 a32 a33
  obtain ⟨kn, hkn⟩ : ∃ kn : Nat, pick x3 8 = (kn : Int) := ⟨(pick x3 8).toNat, by have := pick_bd x3 (n := 8) (by omega); omega⟩
  have HKN := Lib.hid hkn
  clear hkn
  obtain ⟨m2, r, hr⟩ : ∃ m2 r, storeV m hn an x4 = (m2, r) := ⟨_, _, rfl⟩
  have HS : Hid (stepM m (x1, x2, x3, x4) = if r = 0 then m2 else m) := Lib.hid (by unfold stepM; rw [if_neg (show ¬ pick x1 8 = 0 by rw [HK.out]; decide), if_pos (show pick x1 8 = 1 ∨ pick x1 8 = 2 by rw [HK.out]; decide), HHP.out, HAP.out]; unfold sel; (try simp only [and_self]); rw [hr])
  have HR := Lib.hid hr
  clear hr
  go_wp2_with (go_at_call 15; ((with_reducible refine (pick_lit HK.out HI1.out (by decide) _).mono ?_); rintro e w' ⟨rfl, rfl⟩))
  refine (store_lit HQv.out HO.out HR.out).mono ?_
  rintro e W3 ⟨u, rfl, hb, hq⟩
  clear y90 y91 y92 k20 k21 k22 k50 k51 k52 k90 k91 k92 a30 a31 a32 a33
  have HBW := Lib.hid (HBW.out.trans hb)
  have HX2 := Lib.hid (Bel.stays hb HX2.out)
  have HX5 := Lib.hid (Bel.stays hb HX5.out)
  have HX9 := Lib.hid (Bel.stays hb HX9.out)
  have HA3 := Lib.hid (Bel.stays hb HA3.out)
  have HQv := Lib.hid (HQv.out.bel hb)
  have HQu : Hid (MemAt 0 W3 u m2) := Lib.hid (hq.mono (Nat.zero_le _))
  clear hb hq
  have k20 := cell_of_heap HX2.out 0
  have k21 := cell_of_heap HX2.out 1
  have k22 := cell_of_heap HX2.out 2
  have k50 := cell_of_heap HX5.out 0
  have y50 := frozen_of_heap HX5.out 0
  have k51 := cell_of_heap HX5.out 1
  have y51 := frozen_of_heap HX5.out 1
  have k52 := cell_of_heap HX5.out 2
  have y52 := frozen_of_heap HX5.out 2
  have k90 := cell_of_heap HX9.out 0
  have y90 := frozen_of_heap HX9.out 0
  have k91 := cell_of_heap HX9.out 1
  have y91 := frozen_of_heap HX9.out 1
  have k92 := cell_of_heap HX9.out 2
  have y92 := frozen_of_heap HX9.out 2
  simp only [List.getElem?_toArray, List.getElem?_cons_zero, List.getElem?_cons_succ] at k20 k21 k22 k50 k51 k52 k90 k91 k92
  have a30 := cell_of_heap HA3.out 0
  have a31 := cell_of_heap HA3.out 1
  have a32 := cell_of_heap HA3.out 2
  have a33 := cell_of_heap HA3.out 3
  simp only [List.getElem?_toArray, List.getElem?_cons_zero, List.getElem?_cons_succ] at a30 a31 a32 a33
  go_upto_region 23 with (fail)
  clear y50 y51 y52 y90 y91 y92 k20 k21 k22 k50 k51 k52 k90 k91 k92 a30 a31 a32 a33
  have hs3 : Svg g9 W3 (((W3.setCell ⟨g9, 0, none⟩ (.slice u.w.p u.w.n u.w.c)).setCell ⟨g9, 1, none⟩ (.slice u.p.p u.p.n u.p.c)).setCell ⟨g9, 2, none⟩ (.slice u.r.p u.r.n u.r.c)) := set3_svg W3 g9 (.slice u.w.p u.w.n u.w.c) (.slice u.p.p u.p.n u.p.c) (.slice u.r.p u.r.n u.r.c)
  have hh := set3_heap HX9.out (.slice u.w.p u.w.n u.w.c) (.slice u.p.p u.p.n u.p.c) (.slice u.r.p u.r.n u.r.c)
  generalize hWW : (((W3.setCell ⟨g9, 0, none⟩ (.slice u.w.p u.w.n u.w.c)).setCell ⟨g9, 1, none⟩ (.slice u.p.p u.p.n u.p.c)).setCell ⟨g9, 2, none⟩ (.slice u.r.p u.r.n u.r.c)) = W4 at hs3 hh ⊢
  clear hWW
  have HBW := Lib.hid (hs3.bel HBW.out HGE9.out)
  have HX2 := Lib.hid ((hs3.block _ (lt_of_heap HX2.out) HN29.out).trans HX2.out)
  have HX5 := Lib.hid ((hs3.block _ (lt_of_heap HX5.out) HN59.out).trans HX5.out)
  have HA3 := Lib.hid ((hs3.block _ (lt_of_heap HA3.out) HN39.out).trans HA3.out)
  have HQv := Lib.hid (HQv.out.keep hs3 HX9.out (by decide) (by decide) (by decide))
  have HQu := Lib.hid (HQu.out.keep hs3 HX9.out (by decide) (by decide) (by decide))
  have HX9 := Lib.hid hh
  clear hs3 hh
  have k20 := cell_of_heap HX2.out 0
  have k21 := cell_of_heap HX2.out 1
  have k22 := cell_of_heap HX2.out 2
  have k50 := cell_of_heap HX5.out 0
  have y50 := frozen_of_heap HX5.out 0
  have k51 := cell_of_heap HX5.out 1
  have y51 := frozen_of_heap HX5.out 1
  have k52 := cell_of_heap HX5.out 2
  have y52 := frozen_of_heap HX5.out 2
  have k90 := cell_of_heap HX9.out 0
  have y90 := frozen_of_heap HX9.out 0
  have k91 := cell_of_heap HX9.out 1
  have y91 := frozen_of_heap HX9.out 1
  have k92 := cell_of_heap HX9.out 2
  have y92 := frozen_of_heap HX9.out 2
  simp only [List.getElem?_toArray, List.getElem?_cons_zero, List.getElem?_cons_succ] at k20 k21 k22 k50 k51 k52 k90 k91 k92
  clear y50 y51 y52 y90 y91 y92 k20 k21 k22 k50 k51 k52 k90 k91 k92
  by_cases hz : r = 0
  · have hrz : (r != 0) = false := by rw [hz]; rfl
    have HZ := Lib.hid hz
    clear hz
    have k90 := cell_of_heap HX9.out 0
    have k91 := cell_of_heap HX9.out 1
    have k92 := cell_of_heap HX9.out 2
    have k50 := cell_of_heap HX5.out 0
    have y50 := frozen_of_heap HX5.out 0
    have k51 := cell_of_heap HX5.out 1
    have y51 := frozen_of_heap HX5.out 1
    have k52 := cell_of_heap HX5.out 2
    have y52 := frozen_of_heap HX5.out 2
    simp only [List.getElem?_toArray, List.getElem?_cons_zero, List.getElem?_cons_succ] at k90 k91 k92 k50 k51 k52
    go_upto_region 25 with (fail)
    go_region
    go_wp2_with fail
    have hs3 : Svg g5 W4 (((W4.setCell ⟨g5, 0, none⟩ (.slice u.w.p u.w.n u.w.c)).setCell ⟨g5, 1, none⟩ (.slice u.p.p u.p.n u.p.c)).setCell ⟨g5, 2, none⟩ (.slice u.r.p u.r.n u.r.c)).drew := (set3_svg W4 g5 (.slice u.w.p u.w.n u.w.c) (.slice u.p.p u.p.n u.p.c) (.slice u.r.p u.r.n u.r.c)).trans ((Bel.refl _).drew.svg g5)
    have hh : (((W4.setCell ⟨g5, 0, none⟩ (.slice u.w.p u.w.n u.w.c)).setCell ⟨g5, 1, none⟩ (.slice u.p.p u.p.n u.p.c)).setCell ⟨g5, 2, none⟩ (.slice u.r.p u.r.n u.r.c)).drew.heap[g5]? = some (.cells #[.slice u.w.p u.w.n u.w.c, .slice u.p.p u.p.n u.p.c, .slice u.r.p u.r.n u.r.c] 27 (0, 0)) := set3_heap HX5.out _ _ _
    exact bodyPost_ret (results_slot_cell Try.results55 _ _ g5 _ _ _ _ _ rfl rfl hh Try.underlying27 rfl (by kernel_rfl)) rfl ⟨_, u, rfl, hs3.bel HBW.out HGE5.out, by rw [HS.out, if_pos HZ.out]; exact HQu.out.keep hs3 HX5.out (by decide) (by decide) (by decide)⟩
  · have hrz : (r != 0) = true := by exact bne_iff_ne.2 hz
    have HZ := Lib.hid hz
    clear hz
    have k20 := cell_of_heap HX2.out 0
    have k21 := cell_of_heap HX2.out 1
    have k22 := cell_of_heap HX2.out 2
    have k50 := cell_of_heap HX5.out 0
    have y50 := frozen_of_heap HX5.out 0
    have k51 := cell_of_heap HX5.out 1
    have y51 := frozen_of_heap HX5.out 1
    have k52 := cell_of_heap HX5.out 2
    have y52 := frozen_of_heap HX5.out 2
    simp only [List.getElem?_toArray, List.getElem?_cons_zero, List.getElem?_cons_succ] at k20 k21 k22 k50 k51 k52
    go_upto_region 24 with (fail)
    go_region
    go_wp2_with fail
    have hs3 : Svg g5 W4 (((W4.setCell ⟨g5, 0, none⟩ (.slice v.w.p v.w.n v.w.c)).setCell ⟨g5, 1, none⟩ (.slice v.p.p v.p.n v.p.c)).setCell ⟨g5, 2, none⟩ (.slice v.r.p v.r.n v.r.c)).drew := (set3_svg W4 g5 (.slice v.w.p v.w.n v.w.c) (.slice v.p.p v.p.n v.p.c) (.slice v.r.p v.r.n v.r.c)).trans ((Bel.refl _).drew.svg g5)
    have hh : (((W4.setCell ⟨g5, 0, none⟩ (.slice v.w.p v.w.n v.w.c)).setCell ⟨g5, 1, none⟩ (.slice v.p.p v.p.n v.p.c)).setCell ⟨g5, 2, none⟩ (.slice v.r.p v.r.n v.r.c)).drew.heap[g5]? = some (.cells #[.slice v.w.p v.w.n v.w.c, .slice v.p.p v.p.n v.p.c, .slice v.r.p v.r.n v.r.c] 27 (0, 0)) := set3_heap HX5.out _ _ _
    exact bodyPost_ret (results_slot_cell Try.results55 _ _ g5 _ _ _ _ _ rfl rfl hh Try.underlying27 rfl (by kernel_rfl)) rfl ⟨_, v, rfl, hs3.bel HBW.out HGE5.out, by rw [HS.out, if_neg HZ.out]; exact HQv.out.keep hs3 HX5.out (by decide) (by decide) (by decide)⟩
set_option maxRecDepth 100000 in
set_option maxHeartbeats 4000000 in
theorem step_2 {w : World} {v : Mv} {m : Mem} (hm : MemAt 0 w v m) (ho : Ok m) (hpl : 1 ≤ m.pend.length) (hwl : 1 ≤ m.words.length) {x1 x2 x3 x4 : Int} (hi1 : inInt x1) (hi2 : inInt x2) (hi3 : inInt x3) (hi4 : inInt x4) (hk : pick x1 8 = 2) :
    Calls Try.prog 55 #[.agg #[.slice v.w.p v.w.n v.w.c, .slice v.p.p v.p.n v.p.c, .slice v.r.p v.r.n v.r.c], .agg #[.int .i64 x1, .int .i64 x2, .int .i64 x3, .int .i64 x4]] w (StepTold (stepM m (x1, x2, x3, x4)) w) := by
  obtain ⟨hb, hx2, hx3, hx5⟩ := box3 w #[.slice v.w.p v.w.n v.w.c, .slice v.p.p v.p.n v.p.c, .slice v.r.p v.r.n v.r.c] 27 #[.int .i64 x1, .int .i64 x2, .int .i64 x3, .int .i64 x4] 33 #[.slice none 0 0, .slice none 0 0, .slice none 0 0] 27
  have hm0 : MemAt 0 w v m := hm
  have hpn : v.p.n = m.pend.length := hm.pn
  have hwn : v.w.n = m.words.length := hm.wn
  have h1p : (1 : Int) ≤ (v.p.n : Int) := by omega
  have h1w : (1 : Int) ≤ (v.w.n : Int) := by omega
  obtain ⟨hn, hhn⟩ : ∃ hn : Nat, pick x2 v.p.n = (hn : Int) := ⟨(pick x2 v.p.n).toNat, by have := pick_bd x2 (n := (v.p.n : Int)) (by omega); omega⟩
  obtain ⟨an, han⟩ : ∃ an : Nat, pick x3 v.w.n = (an : Int) := ⟨(pick x3 v.w.n).toNat, by have := pick_bd x3 (n := (v.w.n : Int)) (by omega); omega⟩
  have HPH := Lib.hid hhn
  have HPA := Lib.hid han
  have HHP : Hid (hp m (x1, x2, x3, x4) = (hn : Int)) := Lib.hid (by show pick x2 (m.pend.length : Int) = _; rw [← hpn]; exact hhn)
  have HAP : Hid (ap m (x1, x2, x3, x4) = (an : Int)) := Lib.hid (by show pick x3 (m.words.length : Int) = _; rw [← hwn]; exact han)
  have H1P := Lib.hid h1p
  have H1W := Lib.hid h1w
  have HO := Lib.hid ho
  have HI1 := Lib.hid hi1
  have HI2 := Lib.hid hi2
  have HI3 := Lib.hid hi3
  have HI4 := Lib.hid hi4
  have HK := Lib.hid hk
  have HM := Lib.hid hm0
  clear hm hm0 hhn han hpl hwl hi1 hi2 hi3 hi4 hk ho hpn hwn
  go_enter Try.func55, Try.ntmps55
  go_upto_region 1 with (fail)
  generalize hWW : (((w.alloc (.cells #[.slice v.w.p v.w.n v.w.c, .slice v.p.p v.p.n v.p.c, .slice v.r.p v.r.n v.r.c] 27)).alloc (.cells #[.int .i64 x1, .int .i64 x2, .int .i64 x3, .int .i64 x4] 33)).alloc (.cells #[.slice none 0 0, .slice none 0 0, .slice none 0 0] 27)) = W1 at hb hx2 hx3 hx5 ⊢
  clear hWW
  have HN23 : Hid (w.heap.size ≠ w.heap.size + 1) := Lib.hid (by omega)
  have HN25 : Hid (w.heap.size ≠ w.heap.size + 1 + 1) := Lib.hid (by omega)
  have HN35 : Hid (w.heap.size + 1 ≠ w.heap.size + 1 + 1) := Lib.hid (by omega)
  have HGE5 : Hid (w.heap.size ≤ w.heap.size + 1 + 1) := Lib.hid (by omega)
  generalize w.heap.size + 1 + 1 = g5 at hx5 HN25 HN35 HGE5 ⊢
  generalize w.heap.size + 1 = g3 at hx3 HN23 HN35 ⊢
  obtain ⟨g2, hG⟩ : ∃ G, w.heap.size = G := ⟨_, rfl⟩
  rw [hG] at hx2 HN23 HN25 ⊢
  have HBW := Lib.hid hb
  have HX2 := Lib.hid hx2
  have HA3 := Lib.hid hx3
  have HX5 := Lib.hid hx5
  have HQv := Lib.hid (HM.out.bel hb)
  clear hb hx2 hx3 hx5 hG HM
  have k20 := cell_of_heap HX2.out 0
  have k21 := cell_of_heap HX2.out 1
  have k22 := cell_of_heap HX2.out 2
  simp only [List.getElem?_toArray, List.getElem?_cons_zero, List.getElem?_cons_succ] at k20 k21 k22
  have a30 := cell_of_heap HA3.out 0
  have a31 := cell_of_heap HA3.out 1
  have a32 := cell_of_heap HA3.out 2
  have a33 := cell_of_heap HA3.out 3
  simp only [List.getElem?_toArray, List.getElem?_cons_zero, List.getElem?_cons_succ] at a30 a31 a32 a33
  go_upto_region 4 with (first | (go_at_call 15; ((with_reducible refine (pick_lit HPH.out HI2.out H1P.out _).mono ?_); rintro e w' ⟨rfl, rfl⟩)) | (go_at_call 15; ((with_reducible refine (pick_lit HPA.out HI3.out H1W.out _).mono ?_); rintro e w' ⟨rfl, rfl⟩)))
  go_upto_region 5 with (fail)
  clear k20 k21 k22 a30 a31 a32 a33
  have hnew : (W1.alloc (.cells #[.slice v.w.p v.w.n v.w.c, .slice v.p.p v.p.n v.p.c, .slice v.r.p v.r.n v.r.c] 27)).heap[W1.heap.size]? = some (.cells #[.slice v.w.p v.w.n v.w.c, .slice v.p.p v.p.n v.p.c, .slice v.r.p v.r.n v.r.c] 27 (0, 0)) := heap_alloc_new W1 _
  have hb : Bel W1 (W1.alloc (.cells #[.slice v.w.p v.w.n v.w.c, .slice v.p.p v.p.n v.p.c, .slice v.r.p v.r.n v.r.c] 27)) := (Bel.refl W1).alloc _ _
  have hge : w.heap.size ≤ W1.heap.size := HBW.out.size
  have HN29 : Hid (g2 ≠ W1.heap.size) := Lib.hid (by have := lt_of_heap HX2.out; omega)
  have HN59 : Hid (g5 ≠ W1.heap.size) := Lib.hid (by have := lt_of_heap HX5.out; omega)
  have HN39 : Hid (g3 ≠ W1.heap.size) := Lib.hid (by have := lt_of_heap HA3.out; omega)
  generalize hWW : (W1.alloc (.cells #[.slice v.w.p v.w.n v.w.c, .slice v.p.p v.p.n v.p.c, .slice v.r.p v.r.n v.r.c] 27)) = W2 at hnew hb ⊢
  clear hWW
  have HBW := Lib.hid (HBW.out.trans hb)
  have HX2 := Lib.hid (Bel.stays hb HX2.out)
  have HX5 := Lib.hid (Bel.stays hb HX5.out)
  have HA3 := Lib.hid (Bel.stays hb HA3.out)
  have HQv := Lib.hid (HQv.out.bel hb)
  generalize W1.heap.size = g9 at hnew hge HN29 HN59 HN39 ⊢
  have HX9 := Lib.hid hnew
  have HGE9 := Lib.hid hge
  clear hnew hb hge
  have k20 := cell_of_heap HX2.out 0
  have k21 := cell_of_heap HX2.out 1
  have k22 := cell_of_heap HX2.out 2
  have k50 := cell_of_heap HX5.out 0
  have k51 := cell_of_heap HX5.out 1
  have k52 := cell_of_heap HX5.out 2
  have k90 := cell_of_heap HX9.out 0
  have y90 := frozen_of_heap HX9.out 0
  have k91 := cell_of_heap HX9.out 1
  have y91 := frozen_of_heap HX9.out 1
  have k92 := cell_of_heap HX9.out 2
  have y92 := frozen_of_heap HX9.out 2
  simp only [List.getElem?_toArray, List.getElem?_cons_zero, List.getElem?_cons_succ] at k20 k21 k22 k50 k51 k52 k90 k91 k92
  have a30 := cell_of_heap HA3.out 0
  have a31 := cell_of_heap HA3.out 1
  have a32 := cell_of_heap HA3.out 2
  have a33 := cell_of_heap HA3.out 3
  simp only [List.getElem?_toArray, List.getElem?_cons_zero, List.getElem?_cons_succ] at a30 a31 a32 a33
  obtain ⟨kn, hkn⟩ : ∃ kn : Nat, pick x3 8 = (kn : Int) := ⟨(pick x3 8).toNat, by have := pick_bd x3 (n := 8) (by omega); omega⟩
  have HKN := Lib.hid hkn
  clear hkn
  obtain ⟨m2, r, hr⟩ : ∃ m2 r, storeV m hn an x4 = (m2, r) := ⟨_, _, rfl⟩
  have HS : Hid (stepM m (x1, x2, x3, x4) = if r = 0 then m2 else m) := Lib.hid (by unfold stepM; rw [if_neg (show ¬ pick x1 8 = 0 by rw [HK.out]; decide), if_pos (show pick x1 8 = 1 ∨ pick x1 8 = 2 by rw [HK.out]; decide), HHP.out, HAP.out]; unfold sel; (try simp only [and_self]); rw [hr])
  have HR := Lib.hid hr
  clear hr
  go_wp2_with (go_at_call 15; ((with_reducible refine (pick_lit HK.out HI1.out (by decide) _).mono ?_); rintro e w' ⟨rfl, rfl⟩))
  refine (store_lit HQv.out HO.out HR.out).mono ?_
  rintro e W3 ⟨u, rfl, hb, hq⟩
  clear y90 y91 y92 k20 k21 k22 k50 k51 k52 k90 k91 k92 a30 a31 a32 a33
  have HBW := Lib.hid (HBW.out.trans hb)
  have HX2 := Lib.hid (Bel.stays hb HX2.out)
  have HX5 := Lib.hid (Bel.stays hb HX5.out)
  have HX9 := Lib.hid (Bel.stays hb HX9.out)
  have HA3 := Lib.hid (Bel.stays hb HA3.out)
  have HQv := Lib.hid (HQv.out.bel hb)
  have HQu : Hid (MemAt 0 W3 u m2) := Lib.hid (hq.mono (Nat.zero_le _))
  clear hb hq
  have k20 := cell_of_heap HX2.out 0
  have k21 := cell_of_heap HX2.out 1
  have k22 := cell_of_heap HX2.out 2
  have k50 := cell_of_heap HX5.out 0
  have y50 := frozen_of_heap HX5.out 0
  have k51 := cell_of_heap HX5.out 1
  have y51 := frozen_of_heap HX5.out 1
  have k52 := cell_of_heap HX5.out 2
  have y52 := frozen_of_heap HX5.out 2
  have k90 := cell_of_heap HX9.out 0
  have y90 := frozen_of_heap HX9.out 0
  have k91 := cell_of_heap HX9.out 1
  have y91 := frozen_of_heap HX9.out 1
  have k92 := cell_of_heap HX9.out 2
  have y92 := frozen_of_heap HX9.out 2
  simp only [List.getElem?_toArray, List.getElem?_cons_zero, List.getElem?_cons_succ] at k20 k21 k22 k50 k51 k52 k90 k91 k92
  have a30 := cell_of_heap HA3.out 0
  have a31 := cell_of_heap HA3.out 1
  have a32 := cell_of_heap HA3.out 2
  have a33 := cell_of_heap HA3.out 3
  simp only [List.getElem?_toArray, List.getElem?_cons_zero, List.getElem?_cons_succ] at a30 a31 a32 a33
  go_upto_region 23 with (fail)
  clear y50 y51 y52 y90 y91 y92 k20 k21 k22 k50 k51 k52 k90 k91 k92 a30 a31 a32 a33
  have hs3 : Svg g9 W3 (((W3.setCell ⟨g9, 0, none⟩ (.slice u.w.p u.w.n u.w.c)).setCell ⟨g9, 1, none⟩ (.slice u.p.p u.p.n u.p.c)).setCell ⟨g9, 2, none⟩ (.slice u.r.p u.r.n u.r.c)) := set3_svg W3 g9 (.slice u.w.p u.w.n u.w.c) (.slice u.p.p u.p.n u.p.c) (.slice u.r.p u.r.n u.r.c)
  have hh := set3_heap HX9.out (.slice u.w.p u.w.n u.w.c) (.slice u.p.p u.p.n u.p.c) (.slice u.r.p u.r.n u.r.c)
  generalize hWW : (((W3.setCell ⟨g9, 0, none⟩ (.slice u.w.p u.w.n u.w.c)).setCell ⟨g9, 1, none⟩ (.slice u.p.p u.p.n u.p.c)).setCell ⟨g9, 2, none⟩ (.slice u.r.p u.r.n u.r.c)) = W4 at hs3 hh ⊢
  clear hWW
  have HBW := Lib.hid (hs3.bel HBW.out HGE9.out)
  have HX2 := Lib.hid ((hs3.block _ (lt_of_heap HX2.out) HN29.out).trans HX2.out)
  have HX5 := Lib.hid ((hs3.block _ (lt_of_heap HX5.out) HN59.out).trans HX5.out)
  have HA3 := Lib.hid ((hs3.block _ (lt_of_heap HA3.out) HN39.out).trans HA3.out)
  have HQv := Lib.hid (HQv.out.keep hs3 HX9.out (by decide) (by decide) (by decide))
  have HQu := Lib.hid (HQu.out.keep hs3 HX9.out (by decide) (by decide) (by decide))
  have HX9 := Lib.hid hh
  clear hs3 hh
  have k20 := cell_of_heap HX2.out 0
  have k21 := cell_of_heap HX2.out 1
  have k22 := cell_of_heap HX2.out 2
  have k50 := cell_of_heap HX5.out 0
  have y50 := frozen_of_heap HX5.out 0
  have k51 := cell_of_heap HX5.out 1
  have y51 := frozen_of_heap HX5.out 1
  have k52 := cell_of_heap HX5.out 2
  have y52 := frozen_of_heap HX5.out 2
  have k90 := cell_of_heap HX9.out 0
  have y90 := frozen_of_heap HX9.out 0
  have k91 := cell_of_heap HX9.out 1
  have y91 := frozen_of_heap HX9.out 1
  have k92 := cell_of_heap HX9.out 2
  have y92 := frozen_of_heap HX9.out 2
  simp only [List.getElem?_toArray, List.getElem?_cons_zero, List.getElem?_cons_succ] at k20 k21 k22 k50 k51 k52 k90 k91 k92
  clear y50 y51 y52 y90 y91 y92 k20 k21 k22 k50 k51 k52 k90 k91 k92
  by_cases hz : r = 0
  · have hrz : (r != 0) = false := by rw [hz]; rfl
    have HZ := Lib.hid hz
    clear hz
    have k90 := cell_of_heap HX9.out 0
    have k91 := cell_of_heap HX9.out 1
    have k92 := cell_of_heap HX9.out 2
    have k50 := cell_of_heap HX5.out 0
    have y50 := frozen_of_heap HX5.out 0
    have k51 := cell_of_heap HX5.out 1
    have y51 := frozen_of_heap HX5.out 1
    have k52 := cell_of_heap HX5.out 2
    have y52 := frozen_of_heap HX5.out 2
    simp only [List.getElem?_toArray, List.getElem?_cons_zero, List.getElem?_cons_succ] at k90 k91 k92 k50 k51 k52
    go_upto_region 25 with (fail)
    go_region
    go_wp2_with fail
    have hs3 : Svg g5 W4 (((W4.setCell ⟨g5, 0, none⟩ (.slice u.w.p u.w.n u.w.c)).setCell ⟨g5, 1, none⟩ (.slice u.p.p u.p.n u.p.c)).setCell ⟨g5, 2, none⟩ (.slice u.r.p u.r.n u.r.c)).drew := (set3_svg W4 g5 (.slice u.w.p u.w.n u.w.c) (.slice u.p.p u.p.n u.p.c) (.slice u.r.p u.r.n u.r.c)).trans ((Bel.refl _).drew.svg g5)
    have hh : (((W4.setCell ⟨g5, 0, none⟩ (.slice u.w.p u.w.n u.w.c)).setCell ⟨g5, 1, none⟩ (.slice u.p.p u.p.n u.p.c)).setCell ⟨g5, 2, none⟩ (.slice u.r.p u.r.n u.r.c)).drew.heap[g5]? = some (.cells #[.slice u.w.p u.w.n u.w.c, .slice u.p.p u.p.n u.p.c, .slice u.r.p u.r.n u.r.c] 27 (0, 0)) := set3_heap HX5.out _ _ _
    exact bodyPost_ret (results_slot_cell Try.results55 _ _ g5 _ _ _ _ _ rfl rfl hh Try.underlying27 rfl (by kernel_rfl)) rfl ⟨_, u, rfl, hs3.bel HBW.out HGE5.out, by rw [HS.out, if_pos HZ.out]; exact HQu.out.keep hs3 HX5.out (by decide) (by decide) (by decide)⟩
  · have hrz : (r != 0) = true := by exact bne_iff_ne.2 hz
    have HZ := Lib.hid hz
    clear hz
    have k20 := cell_of_heap HX2.out 0
    have k21 := cell_of_heap HX2.out 1
    have k22 := cell_of_heap HX2.out 2
    have k50 := cell_of_heap HX5.out 0
    have y50 := frozen_of_heap HX5.out 0
    have k51 := cell_of_heap HX5.out 1
    have y51 := frozen_of_heap HX5.out 1
    have k52 := cell_of_heap HX5.out 2
    have y52 := frozen_of_heap HX5.out 2
    simp only [List.getElem?_toArray, List.getElem?_cons_zero, List.getElem?_cons_succ] at k20 k21 k22 k50 k51 k52
    go_upto_region 24 with (fail)
    go_region
    go_wp2_with fail
    have hs3 : Svg g5 W4 (((W4.setCell ⟨g5, 0, none⟩ (.slice v.w.p v.w.n v.w.c)).setCell ⟨g5, 1, none⟩ (.slice v.p.p v.p.n v.p.c)).setCell ⟨g5, 2, none⟩ (.slice v.r.p v.r.n v.r.c)).drew := (set3_svg W4 g5 (.slice v.w.p v.w.n v.w.c) (.slice v.p.p v.p.n v.p.c) (.slice v.r.p v.r.n v.r.c)).trans ((Bel.refl _).drew.svg g5)
    have hh : (((W4.setCell ⟨g5, 0, none⟩ (.slice v.w.p v.w.n v.w.c)).setCell ⟨g5, 1, none⟩ (.slice v.p.p v.p.n v.p.c)).setCell ⟨g5, 2, none⟩ (.slice v.r.p v.r.n v.r.c)).drew.heap[g5]? = some (.cells #[.slice v.w.p v.w.n v.w.c, .slice v.p.p v.p.n v.p.c, .slice v.r.p v.r.n v.r.c] 27 (0, 0)) := set3_heap HX5.out _ _ _
    exact bodyPost_ret (results_slot_cell Try.results55 _ _ g5 _ _ _ _ _ rfl rfl hh Try.underlying27 rfl (by kernel_rfl)) rfl ⟨_, v, rfl, hs3.bel HBW.out HGE5.out, by rw [HS.out, if_neg HZ.out]; exact HQv.out.keep hs3 HX5.out (by decide) (by decide) (by decide)⟩
set_option maxRecDepth 100000 in
set_option maxHeartbeats 4000000 in
theorem step_3 {w : World} {v : Mv} {m : Mem} (hm : MemAt 0 w v m) (ho : Ok m) (hpl : 1 ≤ m.pend.length) (hwl : 1 ≤ m.words.length) {x1 x2 x3 x4 : Int} (hi1 : inInt x1) (hi2 : inInt x2) (hi3 : inInt x3) (hi4 : inInt x4) (hk : pick x1 8 = 3) :
    Calls Try.prog 55 #[.agg #[.slice v.w.p v.w.n v.w.c, .slice v.p.p v.p.n v.p.c, .slice v.r.p v.r.n v.r.c], .agg #[.int .i64 x1, .int .i64 x2, .int .i64 x3, .int .i64 x4]] w (StepTold (stepM m (x1, x2, x3, x4)) w) := by
  obtain ⟨hb, hx2, hx3, hx5⟩ := box3 w #[.slice v.w.p v.w.n v.w.c, .slice v.p.p v.p.n v.p.c, .slice v.r.p v.r.n v.r.c] 27 #[.int .i64 x1, .int .i64 x2, .int .i64 x3, .int .i64 x4] 33 #[.slice none 0 0, .slice none 0 0, .slice none 0 0] 27
  have hm0 : MemAt 0 w v m := hm
  have hpn : v.p.n = m.pend.length := hm.pn
  have hwn : v.w.n = m.words.length := hm.wn
  have h1p : (1 : Int) ≤ (v.p.n : Int) := by omega
  have h1w : (1 : Int) ≤ (v.w.n : Int) := by omega
  obtain ⟨hn, hhn⟩ : ∃ hn : Nat, pick x2 v.p.n = (hn : Int) := ⟨(pick x2 v.p.n).toNat, by have := pick_bd x2 (n := (v.p.n : Int)) (by omega); omega⟩
  obtain ⟨an, han⟩ : ∃ an : Nat, pick x3 v.w.n = (an : Int) := ⟨(pick x3 v.w.n).toNat, by have := pick_bd x3 (n := (v.w.n : Int)) (by omega); omega⟩
  have HPH := Lib.hid hhn
  have HPA := Lib.hid han
  have HHP : Hid (hp m (x1, x2, x3, x4) = (hn : Int)) := Lib.hid (by show pick x2 (m.pend.length : Int) = _; rw [← hpn]; exact hhn)
  have HAP : Hid (ap m (x1, x2, x3, x4) = (an : Int)) := Lib.hid (by show pick x3 (m.words.length : Int) = _; rw [← hwn]; exact han)
  have H1P := Lib.hid h1p
  have H1W := Lib.hid h1w
  have HO := Lib.hid ho
  have HI1 := Lib.hid hi1
  have HI2 := Lib.hid hi2
  have HI3 := Lib.hid hi3
  have HI4 := Lib.hid hi4
  have HK := Lib.hid hk
  have HM := Lib.hid hm0
  clear hm hm0 hhn han hpl hwl hi1 hi2 hi3 hi4 hk ho hpn hwn
  go_enter Try.func55, Try.ntmps55
  go_upto_region 1 with (fail)
  generalize hWW : (((w.alloc (.cells #[.slice v.w.p v.w.n v.w.c, .slice v.p.p v.p.n v.p.c, .slice v.r.p v.r.n v.r.c] 27)).alloc (.cells #[.int .i64 x1, .int .i64 x2, .int .i64 x3, .int .i64 x4] 33)).alloc (.cells #[.slice none 0 0, .slice none 0 0, .slice none 0 0] 27)) = W1 at hb hx2 hx3 hx5 ⊢
  clear hWW
  have HN23 : Hid (w.heap.size ≠ w.heap.size + 1) := Lib.hid (by omega)
  have HN25 : Hid (w.heap.size ≠ w.heap.size + 1 + 1) := Lib.hid (by omega)
  have HN35 : Hid (w.heap.size + 1 ≠ w.heap.size + 1 + 1) := Lib.hid (by omega)
  have HGE5 : Hid (w.heap.size ≤ w.heap.size + 1 + 1) := Lib.hid (by omega)
  generalize w.heap.size + 1 + 1 = g5 at hx5 HN25 HN35 HGE5 ⊢
  generalize w.heap.size + 1 = g3 at hx3 HN23 HN35 ⊢
  obtain ⟨g2, hG⟩ : ∃ G, w.heap.size = G := ⟨_, rfl⟩
  rw [hG] at hx2 HN23 HN25 ⊢
  have HBW := Lib.hid hb
  have HX2 := Lib.hid hx2
  have HA3 := Lib.hid hx3
  have HX5 := Lib.hid hx5
  have HQv := Lib.hid (HM.out.bel hb)
  clear hb hx2 hx3 hx5 hG HM
  have k20 := cell_of_heap HX2.out 0
  have k21 := cell_of_heap HX2.out 1
  have k22 := cell_of_heap HX2.out 2
  simp only [List.getElem?_toArray, List.getElem?_cons_zero, List.getElem?_cons_succ] at k20 k21 k22
  have a30 := cell_of_heap HA3.out 0
  have a31 := cell_of_heap HA3.out 1
  have a32 := cell_of_heap HA3.out 2
  have a33 := cell_of_heap HA3.out 3
  simp only [List.getElem?_toArray, List.getElem?_cons_zero, List.getElem?_cons_succ] at a30 a31 a32 a33
  go_upto_region 4 with (first | (go_at_call 15; ((with_reducible refine (pick_lit HPH.out HI2.out H1P.out _).mono ?_); rintro e w' ⟨rfl, rfl⟩)) | (go_at_call 15; ((with_reducible refine (pick_lit HPA.out HI3.out H1W.out _).mono ?_); rintro e w' ⟨rfl, rfl⟩)))
  go_upto_region 5 with (fail)
  clear k20 k21 k22 a30 a31 a32 a33
  have hnew : (W1.alloc (.cells #[.slice v.w.p v.w.n v.w.c, .slice v.p.p v.p.n v.p.c, .slice v.r.p v.r.n v.r.c] 27)).heap[W1.heap.size]? = some (.cells #[.slice v.w.p v.w.n v.w.c, .slice v.p.p v.p.n v.p.c, .slice v.r.p v.r.n v.r.c] 27 (0, 0)) := heap_alloc_new W1 _
  have hb : Bel W1 (W1.alloc (.cells #[.slice v.w.p v.w.n v.w.c, .slice v.p.p v.p.n v.p.c, .slice v.r.p v.r.n v.r.c] 27)) := (Bel.refl W1).alloc _ _
  have hge : w.heap.size ≤ W1.heap.size := HBW.out.size
  have HN29 : Hid (g2 ≠ W1.heap.size) := Lib.hid (by have := lt_of_heap HX2.out; omega)
  have HN59 : Hid (g5 ≠ W1.heap.size) := Lib.hid (by have := lt_of_heap HX5.out; omega)
  have HN39 : Hid (g3 ≠ W1.heap.size) := Lib.hid (by have := lt_of_heap HA3.out; omega)
  generalize hWW : (W1.alloc (.cells #[.slice v.w.p v.w.n v.w.c, .slice v.p.p v.p.n v.p.c, .slice v.r.p v.r.n v.r.c] 27)) = W2 at hnew hb ⊢
  clear hWW
  have HBW := Lib.hid (HBW.out.trans hb)
  have HX2 := Lib.hid (Bel.stays hb HX2.out)
  have HX5 := Lib.hid (Bel.stays hb HX5.out)
  have HA3 := Lib.hid (Bel.stays hb HA3.out)
  have HQv := Lib.hid (HQv.out.bel hb)
  generalize W1.heap.size = g9 at hnew hge HN29 HN59 HN39 ⊢
  have HX9 := Lib.hid hnew
  have HGE9 := Lib.hid hge
  clear hnew hb hge
  have k20 := cell_of_heap HX2.out 0
  have k21 := cell_of_heap HX2.out 1
  have k22 := cell_of_heap HX2.out 2
  have k50 := cell_of_heap HX5.out 0
  have k51 := cell_of_heap HX5.out 1
  have k52 := cell_of_heap HX5.out 2
  have k90 := cell_of_heap HX9.out 0
  have y90 := frozen_of_heap HX9.out 0
  have k91 := cell_of_heap HX9.out 1
  have y91 := frozen_of_heap HX9.out 1
  have k92 := cell_of_heap HX9.out 2
  have y92 := frozen_of_heap HX9.out 2
  simp only [List.getElem?_toArray, List.getElem?_cons_zero, List.getElem?_cons_succ] at k20 k21 k22 k50 k51 k52 k90 k91 k92
  have a30 := cell_of_heap HA3.out 0
  have a31 := cell_of_heap HA3.out 1
  have a32 := cell_of_heap HA3.out 2
  have a33 := cell_of_heap HA3.out 3
  simp only [List.getElem?_toArray, List.getElem?_cons_zero, List.getElem?_cons_succ] at a30 a31 a32 a33
  obtain ⟨kn, hkn⟩ : ∃ kn : Nat, pick x3 8 = (kn : Int) := ⟨(pick x3 8).toNat, by have := pick_bd x3 (n := 8) (by omega); omega⟩
  have HKN := Lib.hid hkn
  clear hkn
  obtain ⟨m2, r, hr⟩ : ∃ m2 r, drainV m hn kn = (m2, r) := ⟨_, _, rfl⟩
  have HS : Hid (stepM m (x1, x2, x3, x4) = if r = 0 then m2 else m) := Lib.hid (by unfold stepM; rw [if_neg (show ¬ pick x1 8 = 0 by rw [HK.out]; decide), if_neg (show ¬ (pick x1 8 = 1 ∨ pick x1 8 = 2) by rw [HK.out]; decide), if_pos (show pick x1 8 = 3 ∨ pick x1 8 = 4 by rw [HK.out]; decide), HHP.out]; unfold sel; (try simp only [HKN.out]); rw [hr])
  have HR := Lib.hid hr
  clear hr
  go_upto_region 15 with (go_at_call 15; ((with_reducible refine (pick_lit HK.out HI1.out (by decide) _).mono ?_); rintro e w' ⟨rfl, rfl⟩))
  clear y90 y91 y92 k20 k21 k22 k50 k51 k52 k90 k91 k92 a30 a31 a32 a33
  have HKEEP : Hid (∀ w', Bel W2 w' → w'.cell? ⟨g2, 0, none⟩ = some (.slice v.w.p v.w.n v.w.c) ∧ w'.cell? ⟨g2, 1, none⟩ = some (.slice v.p.p v.p.n v.p.c) ∧ w'.cell? ⟨g2, 2, none⟩ = some (.slice v.r.p v.r.n v.r.c) ∧ w'.cell? ⟨g3, 2, none⟩ = some (.int .i64 x3) ∧ w'.cell? ⟨g3, 3, none⟩ = some (.int .i64 x4)) := Lib.hid (fun w' h => by
    have h1 := h.stays HX2.out
    have h2 := h.stays HA3.out
    exact ⟨cell_of_heap h1 0, cell_of_heap h1 1, cell_of_heap h1 2, cell_of_heap h2 2, cell_of_heap h2 3⟩)
  have HKEEP2 : Hid (∀ w' w'', Bel W2 w' → Svg g9 w' w'' → w''.cell? ⟨g2, 0, none⟩ = some (.slice v.w.p v.w.n v.w.c) ∧ w''.cell? ⟨g2, 1, none⟩ = some (.slice v.p.p v.p.n v.p.c) ∧ w''.cell? ⟨g2, 2, none⟩ = some (.slice v.r.p v.r.n v.r.c) ∧ w''.cell? ⟨g3, 2, none⟩ = some (.int .i64 x3) ∧ w''.cell? ⟨g3, 3, none⟩ = some (.int .i64 x4)) := Lib.hid (fun w' w'' h hs => by
    have h1 := (hs.block _ (lt_of_heap (h.stays HX2.out)) HN29.out).trans (h.stays HX2.out)
    have h2 := (hs.block _ (lt_of_heap (h.stays HA3.out)) HN39.out).trans (h.stays HA3.out)
    exact ⟨cell_of_heap h1 0, cell_of_heap h1 1, cell_of_heap h1 2, cell_of_heap h2 2, cell_of_heap h2 3⟩)
  have HBC : Hid (Bel W2 W2.drew) := Lib.hid (Bel.refl W2).drew
  go_region_held3 (fun w' => w'.cell? ⟨g2, 0, none⟩ = some (.slice v.w.p v.w.n v.w.c) ∧ w'.cell? ⟨g2, 1, none⟩ = some (.slice v.p.p v.p.n v.p.c) ∧ w'.cell? ⟨g2, 2, none⟩ = some (.slice v.r.p v.r.n v.r.c) ∧ w'.cell? ⟨g3, 2, none⟩ = some (.int .i64 x3) ∧ w'.cell? ⟨g3, 3, none⟩ = some (.int .i64 x4))
    (first | exact HKEEP.out _ HBC.out | exact HKEEP.out _ (Bel.refl _) | exact HKEEP2.out _ _ HBC.out (((Svg.set _ _ _ _).trans (Svg.set _ _ _ _)).trans (Svg.set _ _ _ _)))
    (first | (go_at_call 15; ((with_reducible refine (pick_lit HKN.out HI3.out (by decide) _).mono ?_); rintro e w' ⟨rfl, rfl⟩)) | (go_at_call 20; ((with_reducible refine (drain_lit (HQv.out.bel HBC.out) HO.out HR.out).mono ?_); rintro e wz ⟨u, rfl, hbz, hmz⟩; have HMZ := Lib.hid (hmz.mono (Nat.zero_le _)); have y90 := frozen_of_heap (hbz.stays (HBC.out.stays HX9.out)) 0; have k90 := cell_of_heap (hbz.stays (HBC.out.stays HX9.out)) 0; have y91 := frozen_of_heap (hbz.stays (HBC.out.stays HX9.out)) 1; have k91 := cell_of_heap (hbz.stays (HBC.out.stays HX9.out)) 1; have y92 := frozen_of_heap (hbz.stays (HBC.out.stays HX9.out)) 2; have k92 := cell_of_heap (hbz.stays (HBC.out.stays HX9.out)) 2; simp only [List.getElem?_toArray, List.getElem?_cons_zero, List.getElem?_cons_succ] at k90 k91 k92; have HBC := Lib.hid (HBC.out.trans hbz); clear hbz hmz)))
  go_upto_region 23 with (fail)
  clear y90 y91 y92 k90 k91 k92 HKEEP HKEEP2
  have hb := HBC.out
  have HBW := Lib.hid (HBW.out.trans hb)
  have HX2 := Lib.hid (Bel.stays hb HX2.out)
  have HX5 := Lib.hid (Bel.stays hb HX5.out)
  have HX9 := Lib.hid (Bel.stays hb HX9.out)
  have HA3 := Lib.hid (Bel.stays hb HA3.out)
  have HQv := Lib.hid (HQv.out.bel hb)
  have HQu := HMZ
  clear hb
  have k20 := cell_of_heap HX2.out 0
  have k21 := cell_of_heap HX2.out 1
  have k22 := cell_of_heap HX2.out 2
  have k50 := cell_of_heap HX5.out 0
  have y50 := frozen_of_heap HX5.out 0
  have k51 := cell_of_heap HX5.out 1
  have y51 := frozen_of_heap HX5.out 1
  have k52 := cell_of_heap HX5.out 2
  have y52 := frozen_of_heap HX5.out 2
  have k90 := cell_of_heap HX9.out 0
  have y90 := frozen_of_heap HX9.out 0
  have k91 := cell_of_heap HX9.out 1
  have y91 := frozen_of_heap HX9.out 1
  have k92 := cell_of_heap HX9.out 2
  have y92 := frozen_of_heap HX9.out 2
  simp only [List.getElem?_toArray, List.getElem?_cons_zero, List.getElem?_cons_succ] at k20 k21 k22 k50 k51 k52 k90 k91 k92
  clear y50 y51 y52 y90 y91 y92 k20 k21 k22 k50 k51 k52 k90 k91 k92
  have hs3 : Svg g9 wz (((wz.setCell ⟨g9, 0, none⟩ (.slice u.w.p u.w.n u.w.c)).setCell ⟨g9, 1, none⟩ (.slice u.p.p u.p.n u.p.c)).setCell ⟨g9, 2, none⟩ (.slice u.r.p u.r.n u.r.c)) := set3_svg wz g9 (.slice u.w.p u.w.n u.w.c) (.slice u.p.p u.p.n u.p.c) (.slice u.r.p u.r.n u.r.c)
  have hh := set3_heap HX9.out (.slice u.w.p u.w.n u.w.c) (.slice u.p.p u.p.n u.p.c) (.slice u.r.p u.r.n u.r.c)
  generalize hWW : (((wz.setCell ⟨g9, 0, none⟩ (.slice u.w.p u.w.n u.w.c)).setCell ⟨g9, 1, none⟩ (.slice u.p.p u.p.n u.p.c)).setCell ⟨g9, 2, none⟩ (.slice u.r.p u.r.n u.r.c)) = W3 at hs3 hh ⊢
  clear hWW
  have HBW := Lib.hid (hs3.bel HBW.out HGE9.out)
  have HX2 := Lib.hid ((hs3.block _ (lt_of_heap HX2.out) HN29.out).trans HX2.out)
  have HX5 := Lib.hid ((hs3.block _ (lt_of_heap HX5.out) HN59.out).trans HX5.out)
  have HA3 := Lib.hid ((hs3.block _ (lt_of_heap HA3.out) HN39.out).trans HA3.out)
  have HQv := Lib.hid (HQv.out.keep hs3 HX9.out (by decide) (by decide) (by decide))
  have HQu := Lib.hid (HQu.out.keep hs3 HX9.out (by decide) (by decide) (by decide))
  have HX9 := Lib.hid hh
  clear hs3 hh
  have k20 := cell_of_heap HX2.out 0
  have k21 := cell_of_heap HX2.out 1
  have k22 := cell_of_heap HX2.out 2
  have k50 := cell_of_heap HX5.out 0
  have y50 := frozen_of_heap HX5.out 0
  have k51 := cell_of_heap HX5.out 1
  have y51 := frozen_of_heap HX5.out 1
  have k52 := cell_of_heap HX5.out 2
  have y52 := frozen_of_heap HX5.out 2
  have k90 := cell_of_heap HX9.out 0
  have y90 := frozen_of_heap HX9.out 0
  have k91 := cell_of_heap HX9.out 1
  have y91 := frozen_of_heap HX9.out 1
  have k92 := cell_of_heap HX9.out 2
  have y92 := frozen_of_heap HX9.out 2
  simp only [List.getElem?_toArray, List.getElem?_cons_zero, List.getElem?_cons_succ] at k20 k21 k22 k50 k51 k52 k90 k91 k92
  clear y50 y51 y52 y90 y91 y92 k20 k21 k22 k50 k51 k52 k90 k91 k92
  by_cases hz : r = 0
  · have hrz : (r != 0) = false := by rw [hz]; rfl
    have HZ := Lib.hid hz
    clear hz
    have k90 := cell_of_heap HX9.out 0
    have k91 := cell_of_heap HX9.out 1
    have k92 := cell_of_heap HX9.out 2
    have k50 := cell_of_heap HX5.out 0
    have y50 := frozen_of_heap HX5.out 0
    have k51 := cell_of_heap HX5.out 1
    have y51 := frozen_of_heap HX5.out 1
    have k52 := cell_of_heap HX5.out 2
    have y52 := frozen_of_heap HX5.out 2
    simp only [List.getElem?_toArray, List.getElem?_cons_zero, List.getElem?_cons_succ] at k90 k91 k92 k50 k51 k52
    go_upto_region 25 with (fail)
    go_region
    go_wp2_with fail
    have hs3 : Svg g5 W3 (((W3.setCell ⟨g5, 0, none⟩ (.slice u.w.p u.w.n u.w.c)).setCell ⟨g5, 1, none⟩ (.slice u.p.p u.p.n u.p.c)).setCell ⟨g5, 2, none⟩ (.slice u.r.p u.r.n u.r.c)).drew := (set3_svg W3 g5 (.slice u.w.p u.w.n u.w.c) (.slice u.p.p u.p.n u.p.c) (.slice u.r.p u.r.n u.r.c)).trans ((Bel.refl _).drew.svg g5)
    have hh : (((W3.setCell ⟨g5, 0, none⟩ (.slice u.w.p u.w.n u.w.c)).setCell ⟨g5, 1, none⟩ (.slice u.p.p u.p.n u.p.c)).setCell ⟨g5, 2, none⟩ (.slice u.r.p u.r.n u.r.c)).drew.heap[g5]? = some (.cells #[.slice u.w.p u.w.n u.w.c, .slice u.p.p u.p.n u.p.c, .slice u.r.p u.r.n u.r.c] 27 (0, 0)) := set3_heap HX5.out _ _ _
    exact bodyPost_ret (results_slot_cell Try.results55 _ _ g5 _ _ _ _ _ rfl rfl hh Try.underlying27 rfl (by kernel_rfl)) rfl ⟨_, u, rfl, hs3.bel HBW.out HGE5.out, by rw [HS.out, if_pos HZ.out]; exact HQu.out.keep hs3 HX5.out (by decide) (by decide) (by decide)⟩
  · have hrz : (r != 0) = true := by exact bne_iff_ne.2 hz
    have HZ := Lib.hid hz
    clear hz
    have k20 := cell_of_heap HX2.out 0
    have k21 := cell_of_heap HX2.out 1
    have k22 := cell_of_heap HX2.out 2
    have k50 := cell_of_heap HX5.out 0
    have y50 := frozen_of_heap HX5.out 0
    have k51 := cell_of_heap HX5.out 1
    have y51 := frozen_of_heap HX5.out 1
    have k52 := cell_of_heap HX5.out 2
    have y52 := frozen_of_heap HX5.out 2
    simp only [List.getElem?_toArray, List.getElem?_cons_zero, List.getElem?_cons_succ] at k20 k21 k22 k50 k51 k52
    go_upto_region 24 with (fail)
    go_region
    go_wp2_with fail
    have hs3 : Svg g5 W3 (((W3.setCell ⟨g5, 0, none⟩ (.slice v.w.p v.w.n v.w.c)).setCell ⟨g5, 1, none⟩ (.slice v.p.p v.p.n v.p.c)).setCell ⟨g5, 2, none⟩ (.slice v.r.p v.r.n v.r.c)).drew := (set3_svg W3 g5 (.slice v.w.p v.w.n v.w.c) (.slice v.p.p v.p.n v.p.c) (.slice v.r.p v.r.n v.r.c)).trans ((Bel.refl _).drew.svg g5)
    have hh : (((W3.setCell ⟨g5, 0, none⟩ (.slice v.w.p v.w.n v.w.c)).setCell ⟨g5, 1, none⟩ (.slice v.p.p v.p.n v.p.c)).setCell ⟨g5, 2, none⟩ (.slice v.r.p v.r.n v.r.c)).drew.heap[g5]? = some (.cells #[.slice v.w.p v.w.n v.w.c, .slice v.p.p v.p.n v.p.c, .slice v.r.p v.r.n v.r.c] 27 (0, 0)) := set3_heap HX5.out _ _ _
    exact bodyPost_ret (results_slot_cell Try.results55 _ _ g5 _ _ _ _ _ rfl rfl hh Try.underlying27 rfl (by kernel_rfl)) rfl ⟨_, v, rfl, hs3.bel HBW.out HGE5.out, by rw [HS.out, if_neg HZ.out]; exact HQv.out.keep hs3 HX5.out (by decide) (by decide) (by decide)⟩
set_option maxRecDepth 100000 in
set_option maxHeartbeats 4000000 in
theorem step_4 {w : World} {v : Mv} {m : Mem} (hm : MemAt 0 w v m) (ho : Ok m) (hpl : 1 ≤ m.pend.length) (hwl : 1 ≤ m.words.length) {x1 x2 x3 x4 : Int} (hi1 : inInt x1) (hi2 : inInt x2) (hi3 : inInt x3) (hi4 : inInt x4) (hk : pick x1 8 = 4) :
    Calls Try.prog 55 #[.agg #[.slice v.w.p v.w.n v.w.c, .slice v.p.p v.p.n v.p.c, .slice v.r.p v.r.n v.r.c], .agg #[.int .i64 x1, .int .i64 x2, .int .i64 x3, .int .i64 x4]] w (StepTold (stepM m (x1, x2, x3, x4)) w) := by
  obtain ⟨hb, hx2, hx3, hx5⟩ := box3 w #[.slice v.w.p v.w.n v.w.c, .slice v.p.p v.p.n v.p.c, .slice v.r.p v.r.n v.r.c] 27 #[.int .i64 x1, .int .i64 x2, .int .i64 x3, .int .i64 x4] 33 #[.slice none 0 0, .slice none 0 0, .slice none 0 0] 27
  have hm0 : MemAt 0 w v m := hm
  have hpn : v.p.n = m.pend.length := hm.pn
  have hwn : v.w.n = m.words.length := hm.wn
  have h1p : (1 : Int) ≤ (v.p.n : Int) := by omega
  have h1w : (1 : Int) ≤ (v.w.n : Int) := by omega
  obtain ⟨hn, hhn⟩ : ∃ hn : Nat, pick x2 v.p.n = (hn : Int) := ⟨(pick x2 v.p.n).toNat, by have := pick_bd x2 (n := (v.p.n : Int)) (by omega); omega⟩
  obtain ⟨an, han⟩ : ∃ an : Nat, pick x3 v.w.n = (an : Int) := ⟨(pick x3 v.w.n).toNat, by have := pick_bd x3 (n := (v.w.n : Int)) (by omega); omega⟩
  have HPH := Lib.hid hhn
  have HPA := Lib.hid han
  have HHP : Hid (hp m (x1, x2, x3, x4) = (hn : Int)) := Lib.hid (by show pick x2 (m.pend.length : Int) = _; rw [← hpn]; exact hhn)
  have HAP : Hid (ap m (x1, x2, x3, x4) = (an : Int)) := Lib.hid (by show pick x3 (m.words.length : Int) = _; rw [← hwn]; exact han)
  have H1P := Lib.hid h1p
  have H1W := Lib.hid h1w
  have HO := Lib.hid ho
  have HI1 := Lib.hid hi1
  have HI2 := Lib.hid hi2
  have HI3 := Lib.hid hi3
  have HI4 := Lib.hid hi4
  have HK := Lib.hid hk
  have HM := Lib.hid hm0
  clear hm hm0 hhn han hpl hwl hi1 hi2 hi3 hi4 hk ho hpn hwn
  go_enter Try.func55, Try.ntmps55
  go_upto_region 1 with (fail)
  generalize hWW : (((w.alloc (.cells #[.slice v.w.p v.w.n v.w.c, .slice v.p.p v.p.n v.p.c, .slice v.r.p v.r.n v.r.c] 27)).alloc (.cells #[.int .i64 x1, .int .i64 x2, .int .i64 x3, .int .i64 x4] 33)).alloc (.cells #[.slice none 0 0, .slice none 0 0, .slice none 0 0] 27)) = W1 at hb hx2 hx3 hx5 ⊢
  clear hWW
  have HN23 : Hid (w.heap.size ≠ w.heap.size + 1) := Lib.hid (by omega)
  have HN25 : Hid (w.heap.size ≠ w.heap.size + 1 + 1) := Lib.hid (by omega)
  have HN35 : Hid (w.heap.size + 1 ≠ w.heap.size + 1 + 1) := Lib.hid (by omega)
  have HGE5 : Hid (w.heap.size ≤ w.heap.size + 1 + 1) := Lib.hid (by omega)
  generalize w.heap.size + 1 + 1 = g5 at hx5 HN25 HN35 HGE5 ⊢
  generalize w.heap.size + 1 = g3 at hx3 HN23 HN35 ⊢
  obtain ⟨g2, hG⟩ : ∃ G, w.heap.size = G := ⟨_, rfl⟩
  rw [hG] at hx2 HN23 HN25 ⊢
  have HBW := Lib.hid hb
  have HX2 := Lib.hid hx2
  have HA3 := Lib.hid hx3
  have HX5 := Lib.hid hx5
  have HQv := Lib.hid (HM.out.bel hb)
  clear hb hx2 hx3 hx5 hG HM
  have k20 := cell_of_heap HX2.out 0
  have k21 := cell_of_heap HX2.out 1
  have k22 := cell_of_heap HX2.out 2
  simp only [List.getElem?_toArray, List.getElem?_cons_zero, List.getElem?_cons_succ] at k20 k21 k22
  have a30 := cell_of_heap HA3.out 0
  have a31 := cell_of_heap HA3.out 1
  have a32 := cell_of_heap HA3.out 2
  have a33 := cell_of_heap HA3.out 3
  simp only [List.getElem?_toArray, List.getElem?_cons_zero, List.getElem?_cons_succ] at a30 a31 a32 a33
  go_upto_region 4 with (first | (go_at_call 15; ((with_reducible refine (pick_lit HPH.out HI2.out H1P.out _).mono ?_); rintro e w' ⟨rfl, rfl⟩)) | (go_at_call 15; ((with_reducible refine (pick_lit HPA.out HI3.out H1W.out _).mono ?_); rintro e w' ⟨rfl, rfl⟩)))
  go_upto_region 5 with (fail)
  clear k20 k21 k22 a30 a31 a32 a33
  have hnew : (W1.alloc (.cells #[.slice v.w.p v.w.n v.w.c, .slice v.p.p v.p.n v.p.c, .slice v.r.p v.r.n v.r.c] 27)).heap[W1.heap.size]? = some (.cells #[.slice v.w.p v.w.n v.w.c, .slice v.p.p v.p.n v.p.c, .slice v.r.p v.r.n v.r.c] 27 (0, 0)) := heap_alloc_new W1 _
  have hb : Bel W1 (W1.alloc (.cells #[.slice v.w.p v.w.n v.w.c, .slice v.p.p v.p.n v.p.c, .slice v.r.p v.r.n v.r.c] 27)) := (Bel.refl W1).alloc _ _
  have hge : w.heap.size ≤ W1.heap.size := HBW.out.size
  have HN29 : Hid (g2 ≠ W1.heap.size) := Lib.hid (by have := lt_of_heap HX2.out; omega)
  have HN59 : Hid (g5 ≠ W1.heap.size) := Lib.hid (by have := lt_of_heap HX5.out; omega)
  have HN39 : Hid (g3 ≠ W1.heap.size) := Lib.hid (by have := lt_of_heap HA3.out; omega)
  generalize hWW : (W1.alloc (.cells #[.slice v.w.p v.w.n v.w.c, .slice v.p.p v.p.n v.p.c, .slice v.r.p v.r.n v.r.c] 27)) = W2 at hnew hb ⊢
  clear hWW
  have HBW := Lib.hid (HBW.out.trans hb)
  have HX2 := Lib.hid (Bel.stays hb HX2.out)
  have HX5 := Lib.hid (Bel.stays hb HX5.out)
  have HA3 := Lib.hid (Bel.stays hb HA3.out)
  have HQv := Lib.hid (HQv.out.bel hb)
  generalize W1.heap.size = g9 at hnew hge HN29 HN59 HN39 ⊢
  have HX9 := Lib.hid hnew
  have HGE9 := Lib.hid hge
  clear hnew hb hge
  have k20 := cell_of_heap HX2.out 0
  have k21 := cell_of_heap HX2.out 1
  have k22 := cell_of_heap HX2.out 2
  have k50 := cell_of_heap HX5.out 0
  have k51 := cell_of_heap HX5.out 1
  have k52 := cell_of_heap HX5.out 2
  have k90 := cell_of_heap HX9.out 0
  have y90 := frozen_of_heap HX9.out 0
  have k91 := cell_of_heap HX9.out 1
  have y91 := frozen_of_heap HX9.out 1
  have k92 := cell_of_heap HX9.out 2
  have y92 := frozen_of_heap HX9.out 2
  simp only [List.getElem?_toArray, List.getElem?_cons_zero, List.getElem?_cons_succ] at k20 k21 k22 k50 k51 k52 k90 k91 k92
  have a30 := cell_of_heap HA3.out 0
  have a31 := cell_of_heap HA3.out 1
  have a32 := cell_of_heap HA3.out 2
  have a33 := cell_of_heap HA3.out 3
  simp only [List.getElem?_toArray, List.getElem?_cons_zero, List.getElem?_cons_succ] at a30 a31 a32 a33
  obtain ⟨kn, hkn⟩ : ∃ kn : Nat, pick x3 8 = (kn : Int) := ⟨(pick x3 8).toNat, by have := pick_bd x3 (n := 8) (by omega); omega⟩
  have HKN := Lib.hid hkn
  clear hkn
  obtain ⟨m2, r, hr⟩ : ∃ m2 r, drainV m hn kn = (m2, r) := ⟨_, _, rfl⟩
  have HS : Hid (stepM m (x1, x2, x3, x4) = if r = 0 then m2 else m) := Lib.hid (by unfold stepM; rw [if_neg (show ¬ pick x1 8 = 0 by rw [HK.out]; decide), if_neg (show ¬ (pick x1 8 = 1 ∨ pick x1 8 = 2) by rw [HK.out]; decide), if_pos (show pick x1 8 = 3 ∨ pick x1 8 = 4 by rw [HK.out]; decide), HHP.out]; unfold sel; (try simp only [HKN.out]); rw [hr])
  have HR := Lib.hid hr
  clear hr
  go_upto_region 15 with (go_at_call 15; ((with_reducible refine (pick_lit HK.out HI1.out (by decide) _).mono ?_); rintro e w' ⟨rfl, rfl⟩))
  clear y90 y91 y92 k20 k21 k22 k50 k51 k52 k90 k91 k92 a30 a31 a32 a33
  have HKEEP : Hid (∀ w', Bel W2 w' → w'.cell? ⟨g2, 0, none⟩ = some (.slice v.w.p v.w.n v.w.c) ∧ w'.cell? ⟨g2, 1, none⟩ = some (.slice v.p.p v.p.n v.p.c) ∧ w'.cell? ⟨g2, 2, none⟩ = some (.slice v.r.p v.r.n v.r.c) ∧ w'.cell? ⟨g3, 2, none⟩ = some (.int .i64 x3) ∧ w'.cell? ⟨g3, 3, none⟩ = some (.int .i64 x4)) := Lib.hid (fun w' h => by
    have h1 := h.stays HX2.out
    have h2 := h.stays HA3.out
    exact ⟨cell_of_heap h1 0, cell_of_heap h1 1, cell_of_heap h1 2, cell_of_heap h2 2, cell_of_heap h2 3⟩)
  have HKEEP2 : Hid (∀ w' w'', Bel W2 w' → Svg g9 w' w'' → w''.cell? ⟨g2, 0, none⟩ = some (.slice v.w.p v.w.n v.w.c) ∧ w''.cell? ⟨g2, 1, none⟩ = some (.slice v.p.p v.p.n v.p.c) ∧ w''.cell? ⟨g2, 2, none⟩ = some (.slice v.r.p v.r.n v.r.c) ∧ w''.cell? ⟨g3, 2, none⟩ = some (.int .i64 x3) ∧ w''.cell? ⟨g3, 3, none⟩ = some (.int .i64 x4)) := Lib.hid (fun w' w'' h hs => by
    have h1 := (hs.block _ (lt_of_heap (h.stays HX2.out)) HN29.out).trans (h.stays HX2.out)
    have h2 := (hs.block _ (lt_of_heap (h.stays HA3.out)) HN39.out).trans (h.stays HA3.out)
    exact ⟨cell_of_heap h1 0, cell_of_heap h1 1, cell_of_heap h1 2, cell_of_heap h2 2, cell_of_heap h2 3⟩)
  have HBC : Hid (Bel W2 W2.drew) := Lib.hid (Bel.refl W2).drew
  go_region_held3 (fun w' => w'.cell? ⟨g2, 0, none⟩ = some (.slice v.w.p v.w.n v.w.c) ∧ w'.cell? ⟨g2, 1, none⟩ = some (.slice v.p.p v.p.n v.p.c) ∧ w'.cell? ⟨g2, 2, none⟩ = some (.slice v.r.p v.r.n v.r.c) ∧ w'.cell? ⟨g3, 2, none⟩ = some (.int .i64 x3) ∧ w'.cell? ⟨g3, 3, none⟩ = some (.int .i64 x4))
    (first | exact HKEEP.out _ HBC.out | exact HKEEP.out _ (Bel.refl _) | exact HKEEP2.out _ _ HBC.out (((Svg.set _ _ _ _).trans (Svg.set _ _ _ _)).trans (Svg.set _ _ _ _)))
    (first | (go_at_call 15; ((with_reducible refine (pick_lit HKN.out HI3.out (by decide) _).mono ?_); rintro e w' ⟨rfl, rfl⟩)) | (go_at_call 20; ((with_reducible refine (drain_lit (HQv.out.bel HBC.out) HO.out HR.out).mono ?_); rintro e wz ⟨u, rfl, hbz, hmz⟩; have HMZ := Lib.hid (hmz.mono (Nat.zero_le _)); have y90 := frozen_of_heap (hbz.stays (HBC.out.stays HX9.out)) 0; have k90 := cell_of_heap (hbz.stays (HBC.out.stays HX9.out)) 0; have y91 := frozen_of_heap (hbz.stays (HBC.out.stays HX9.out)) 1; have k91 := cell_of_heap (hbz.stays (HBC.out.stays HX9.out)) 1; have y92 := frozen_of_heap (hbz.stays (HBC.out.stays HX9.out)) 2; have k92 := cell_of_heap (hbz.stays (HBC.out.stays HX9.out)) 2; simp only [List.getElem?_toArray, List.getElem?_cons_zero, List.getElem?_cons_succ] at k90 k91 k92; have HBC := Lib.hid (HBC.out.trans hbz); clear hbz hmz)))
  go_upto_region 23 with (fail)
  clear y90 y91 y92 k90 k91 k92 HKEEP HKEEP2
  have hb := HBC.out
  have HBW := Lib.hid (HBW.out.trans hb)
  have HX2 := Lib.hid (Bel.stays hb HX2.out)
  have HX5 := Lib.hid (Bel.stays hb HX5.out)
  have HX9 := Lib.hid (Bel.stays hb HX9.out)
  have HA3 := Lib.hid (Bel.stays hb HA3.out)
  have HQv := Lib.hid (HQv.out.bel hb)
  have HQu := HMZ
  clear hb
  have k20 := cell_of_heap HX2.out 0
  have k21 := cell_of_heap HX2.out 1
  have k22 := cell_of_heap HX2.out 2
  have k50 := cell_of_heap HX5.out 0
  have y50 := frozen_of_heap HX5.out 0
  have k51 := cell_of_heap HX5.out 1
  have y51 := frozen_of_heap HX5.out 1
  have k52 := cell_of_heap HX5.out 2
  have y52 := frozen_of_heap HX5.out 2
  have k90 := cell_of_heap HX9.out 0
  have y90 := frozen_of_heap HX9.out 0
  have k91 := cell_of_heap HX9.out 1
  have y91 := frozen_of_heap HX9.out 1
  have k92 := cell_of_heap HX9.out 2
  have y92 := frozen_of_heap HX9.out 2
  simp only [List.getElem?_toArray, List.getElem?_cons_zero, List.getElem?_cons_succ] at k20 k21 k22 k50 k51 k52 k90 k91 k92
  clear y50 y51 y52 y90 y91 y92 k20 k21 k22 k50 k51 k52 k90 k91 k92
  have hs3 : Svg g9 wz (((wz.setCell ⟨g9, 0, none⟩ (.slice u.w.p u.w.n u.w.c)).setCell ⟨g9, 1, none⟩ (.slice u.p.p u.p.n u.p.c)).setCell ⟨g9, 2, none⟩ (.slice u.r.p u.r.n u.r.c)) := set3_svg wz g9 (.slice u.w.p u.w.n u.w.c) (.slice u.p.p u.p.n u.p.c) (.slice u.r.p u.r.n u.r.c)
  have hh := set3_heap HX9.out (.slice u.w.p u.w.n u.w.c) (.slice u.p.p u.p.n u.p.c) (.slice u.r.p u.r.n u.r.c)
  generalize hWW : (((wz.setCell ⟨g9, 0, none⟩ (.slice u.w.p u.w.n u.w.c)).setCell ⟨g9, 1, none⟩ (.slice u.p.p u.p.n u.p.c)).setCell ⟨g9, 2, none⟩ (.slice u.r.p u.r.n u.r.c)) = W3 at hs3 hh ⊢
  clear hWW
  have HBW := Lib.hid (hs3.bel HBW.out HGE9.out)
  have HX2 := Lib.hid ((hs3.block _ (lt_of_heap HX2.out) HN29.out).trans HX2.out)
  have HX5 := Lib.hid ((hs3.block _ (lt_of_heap HX5.out) HN59.out).trans HX5.out)
  have HA3 := Lib.hid ((hs3.block _ (lt_of_heap HA3.out) HN39.out).trans HA3.out)
  have HQv := Lib.hid (HQv.out.keep hs3 HX9.out (by decide) (by decide) (by decide))
  have HQu := Lib.hid (HQu.out.keep hs3 HX9.out (by decide) (by decide) (by decide))
  have HX9 := Lib.hid hh
  clear hs3 hh
  have k20 := cell_of_heap HX2.out 0
  have k21 := cell_of_heap HX2.out 1
  have k22 := cell_of_heap HX2.out 2
  have k50 := cell_of_heap HX5.out 0
  have y50 := frozen_of_heap HX5.out 0
  have k51 := cell_of_heap HX5.out 1
  have y51 := frozen_of_heap HX5.out 1
  have k52 := cell_of_heap HX5.out 2
  have y52 := frozen_of_heap HX5.out 2
  have k90 := cell_of_heap HX9.out 0
  have y90 := frozen_of_heap HX9.out 0
  have k91 := cell_of_heap HX9.out 1
  have y91 := frozen_of_heap HX9.out 1
  have k92 := cell_of_heap HX9.out 2
  have y92 := frozen_of_heap HX9.out 2
  simp only [List.getElem?_toArray, List.getElem?_cons_zero, List.getElem?_cons_succ] at k20 k21 k22 k50 k51 k52 k90 k91 k92
  clear y50 y51 y52 y90 y91 y92 k20 k21 k22 k50 k51 k52 k90 k91 k92
  by_cases hz : r = 0
  · have hrz : (r != 0) = false := by rw [hz]; rfl
    have HZ := Lib.hid hz
    clear hz
    have k90 := cell_of_heap HX9.out 0
    have k91 := cell_of_heap HX9.out 1
    have k92 := cell_of_heap HX9.out 2
    have k50 := cell_of_heap HX5.out 0
    have y50 := frozen_of_heap HX5.out 0
    have k51 := cell_of_heap HX5.out 1
    have y51 := frozen_of_heap HX5.out 1
    have k52 := cell_of_heap HX5.out 2
    have y52 := frozen_of_heap HX5.out 2
    simp only [List.getElem?_toArray, List.getElem?_cons_zero, List.getElem?_cons_succ] at k90 k91 k92 k50 k51 k52
    go_upto_region 25 with (fail)
    go_region
    go_wp2_with fail
    have hs3 : Svg g5 W3 (((W3.setCell ⟨g5, 0, none⟩ (.slice u.w.p u.w.n u.w.c)).setCell ⟨g5, 1, none⟩ (.slice u.p.p u.p.n u.p.c)).setCell ⟨g5, 2, none⟩ (.slice u.r.p u.r.n u.r.c)).drew := (set3_svg W3 g5 (.slice u.w.p u.w.n u.w.c) (.slice u.p.p u.p.n u.p.c) (.slice u.r.p u.r.n u.r.c)).trans ((Bel.refl _).drew.svg g5)
    have hh : (((W3.setCell ⟨g5, 0, none⟩ (.slice u.w.p u.w.n u.w.c)).setCell ⟨g5, 1, none⟩ (.slice u.p.p u.p.n u.p.c)).setCell ⟨g5, 2, none⟩ (.slice u.r.p u.r.n u.r.c)).drew.heap[g5]? = some (.cells #[.slice u.w.p u.w.n u.w.c, .slice u.p.p u.p.n u.p.c, .slice u.r.p u.r.n u.r.c] 27 (0, 0)) := set3_heap HX5.out _ _ _
    exact bodyPost_ret (results_slot_cell Try.results55 _ _ g5 _ _ _ _ _ rfl rfl hh Try.underlying27 rfl (by kernel_rfl)) rfl ⟨_, u, rfl, hs3.bel HBW.out HGE5.out, by rw [HS.out, if_pos HZ.out]; exact HQu.out.keep hs3 HX5.out (by decide) (by decide) (by decide)⟩
  · have hrz : (r != 0) = true := by exact bne_iff_ne.2 hz
    have HZ := Lib.hid hz
    clear hz
    have k20 := cell_of_heap HX2.out 0
    have k21 := cell_of_heap HX2.out 1
    have k22 := cell_of_heap HX2.out 2
    have k50 := cell_of_heap HX5.out 0
    have y50 := frozen_of_heap HX5.out 0
    have k51 := cell_of_heap HX5.out 1
    have y51 := frozen_of_heap HX5.out 1
    have k52 := cell_of_heap HX5.out 2
    have y52 := frozen_of_heap HX5.out 2
    simp only [List.getElem?_toArray, List.getElem?_cons_zero, List.getElem?_cons_succ] at k20 k21 k22 k50 k51 k52
    go_upto_region 24 with (fail)
    go_region
    go_wp2_with fail
    have hs3 : Svg g5 W3 (((W3.setCell ⟨g5, 0, none⟩ (.slice v.w.p v.w.n v.w.c)).setCell ⟨g5, 1, none⟩ (.slice v.p.p v.p.n v.p.c)).setCell ⟨g5, 2, none⟩ (.slice v.r.p v.r.n v.r.c)).drew := (set3_svg W3 g5 (.slice v.w.p v.w.n v.w.c) (.slice v.p.p v.p.n v.p.c) (.slice v.r.p v.r.n v.r.c)).trans ((Bel.refl _).drew.svg g5)
    have hh : (((W3.setCell ⟨g5, 0, none⟩ (.slice v.w.p v.w.n v.w.c)).setCell ⟨g5, 1, none⟩ (.slice v.p.p v.p.n v.p.c)).setCell ⟨g5, 2, none⟩ (.slice v.r.p v.r.n v.r.c)).drew.heap[g5]? = some (.cells #[.slice v.w.p v.w.n v.w.c, .slice v.p.p v.p.n v.p.c, .slice v.r.p v.r.n v.r.c] 27 (0, 0)) := set3_heap HX5.out _ _ _
    exact bodyPost_ret (results_slot_cell Try.results55 _ _ g5 _ _ _ _ _ rfl rfl hh Try.underlying27 rfl (by kernel_rfl)) rfl ⟨_, v, rfl, hs3.bel HBW.out HGE5.out, by rw [HS.out, if_neg HZ.out]; exact HQv.out.keep hs3 HX5.out (by decide) (by decide) (by decide)⟩
set_option maxRecDepth 100000 in
set_option maxHeartbeats 4000000 in
theorem step_5 {w : World} {v : Mv} {m : Mem} (hm : MemAt 0 w v m) (ho : Ok m) (hpl : 1 ≤ m.pend.length) (hwl : 1 ≤ m.words.length) {x1 x2 x3 x4 : Int} (hi1 : inInt x1) (hi2 : inInt x2) (hi3 : inInt x3) (hi4 : inInt x4) (hk : pick x1 8 = 5) :
    Calls Try.prog 55 #[.agg #[.slice v.w.p v.w.n v.w.c, .slice v.p.p v.p.n v.p.c, .slice v.r.p v.r.n v.r.c], .agg #[.int .i64 x1, .int .i64 x2, .int .i64 x3, .int .i64 x4]] w (StepTold (stepM m (x1, x2, x3, x4)) w) := by
  obtain ⟨hb, hx2, hx3, hx5⟩ := box3 w #[.slice v.w.p v.w.n v.w.c, .slice v.p.p v.p.n v.p.c, .slice v.r.p v.r.n v.r.c] 27 #[.int .i64 x1, .int .i64 x2, .int .i64 x3, .int .i64 x4] 33 #[.slice none 0 0, .slice none 0 0, .slice none 0 0] 27
  have hm0 : MemAt 0 w v m := hm
  have hpn : v.p.n = m.pend.length := hm.pn
  have hwn : v.w.n = m.words.length := hm.wn
  have h1p : (1 : Int) ≤ (v.p.n : Int) := by omega
  have h1w : (1 : Int) ≤ (v.w.n : Int) := by omega
  obtain ⟨hn, hhn⟩ : ∃ hn : Nat, pick x2 v.p.n = (hn : Int) := ⟨(pick x2 v.p.n).toNat, by have := pick_bd x2 (n := (v.p.n : Int)) (by omega); omega⟩
  obtain ⟨an, han⟩ : ∃ an : Nat, pick x3 v.w.n = (an : Int) := ⟨(pick x3 v.w.n).toNat, by have := pick_bd x3 (n := (v.w.n : Int)) (by omega); omega⟩
  have HPH := Lib.hid hhn
  have HPA := Lib.hid han
  have HHP : Hid (hp m (x1, x2, x3, x4) = (hn : Int)) := Lib.hid (by show pick x2 (m.pend.length : Int) = _; rw [← hpn]; exact hhn)
  have HAP : Hid (ap m (x1, x2, x3, x4) = (an : Int)) := Lib.hid (by show pick x3 (m.words.length : Int) = _; rw [← hwn]; exact han)
  have H1P := Lib.hid h1p
  have H1W := Lib.hid h1w
  have HO := Lib.hid ho
  have HI1 := Lib.hid hi1
  have HI2 := Lib.hid hi2
  have HI3 := Lib.hid hi3
  have HI4 := Lib.hid hi4
  have HK := Lib.hid hk
  have HM := Lib.hid hm0
  clear hm hm0 hhn han hpl hwl hi1 hi2 hi3 hi4 hk ho hpn hwn
  go_enter Try.func55, Try.ntmps55
  go_upto_region 1 with (fail)
  generalize hWW : (((w.alloc (.cells #[.slice v.w.p v.w.n v.w.c, .slice v.p.p v.p.n v.p.c, .slice v.r.p v.r.n v.r.c] 27)).alloc (.cells #[.int .i64 x1, .int .i64 x2, .int .i64 x3, .int .i64 x4] 33)).alloc (.cells #[.slice none 0 0, .slice none 0 0, .slice none 0 0] 27)) = W1 at hb hx2 hx3 hx5 ⊢
  clear hWW
  have HN23 : Hid (w.heap.size ≠ w.heap.size + 1) := Lib.hid (by omega)
  have HN25 : Hid (w.heap.size ≠ w.heap.size + 1 + 1) := Lib.hid (by omega)
  have HN35 : Hid (w.heap.size + 1 ≠ w.heap.size + 1 + 1) := Lib.hid (by omega)
  have HGE5 : Hid (w.heap.size ≤ w.heap.size + 1 + 1) := Lib.hid (by omega)
  generalize w.heap.size + 1 + 1 = g5 at hx5 HN25 HN35 HGE5 ⊢
  generalize w.heap.size + 1 = g3 at hx3 HN23 HN35 ⊢
  obtain ⟨g2, hG⟩ : ∃ G, w.heap.size = G := ⟨_, rfl⟩
  rw [hG] at hx2 HN23 HN25 ⊢
  have HBW := Lib.hid hb
  have HX2 := Lib.hid hx2
  have HA3 := Lib.hid hx3
  have HX5 := Lib.hid hx5
  have HQv := Lib.hid (HM.out.bel hb)
  clear hb hx2 hx3 hx5 hG HM
  have k20 := cell_of_heap HX2.out 0
  have k21 := cell_of_heap HX2.out 1
  have k22 := cell_of_heap HX2.out 2
  simp only [List.getElem?_toArray, List.getElem?_cons_zero, List.getElem?_cons_succ] at k20 k21 k22
  have a30 := cell_of_heap HA3.out 0
  have a31 := cell_of_heap HA3.out 1
  have a32 := cell_of_heap HA3.out 2
  have a33 := cell_of_heap HA3.out 3
  simp only [List.getElem?_toArray, List.getElem?_cons_zero, List.getElem?_cons_succ] at a30 a31 a32 a33
  go_upto_region 4 with (first | (go_at_call 15; ((with_reducible refine (pick_lit HPH.out HI2.out H1P.out _).mono ?_); rintro e w' ⟨rfl, rfl⟩)) | (go_at_call 15; ((with_reducible refine (pick_lit HPA.out HI3.out H1W.out _).mono ?_); rintro e w' ⟨rfl, rfl⟩)))
  go_upto_region 5 with (fail)
  clear k20 k21 k22 a30 a31 a32 a33
  have hnew : (W1.alloc (.cells #[.slice v.w.p v.w.n v.w.c, .slice v.p.p v.p.n v.p.c, .slice v.r.p v.r.n v.r.c] 27)).heap[W1.heap.size]? = some (.cells #[.slice v.w.p v.w.n v.w.c, .slice v.p.p v.p.n v.p.c, .slice v.r.p v.r.n v.r.c] 27 (0, 0)) := heap_alloc_new W1 _
  have hb : Bel W1 (W1.alloc (.cells #[.slice v.w.p v.w.n v.w.c, .slice v.p.p v.p.n v.p.c, .slice v.r.p v.r.n v.r.c] 27)) := (Bel.refl W1).alloc _ _
  have hge : w.heap.size ≤ W1.heap.size := HBW.out.size
  have HN29 : Hid (g2 ≠ W1.heap.size) := Lib.hid (by have := lt_of_heap HX2.out; omega)
  have HN59 : Hid (g5 ≠ W1.heap.size) := Lib.hid (by have := lt_of_heap HX5.out; omega)
  have HN39 : Hid (g3 ≠ W1.heap.size) := Lib.hid (by have := lt_of_heap HA3.out; omega)
  generalize hWW : (W1.alloc (.cells #[.slice v.w.p v.w.n v.w.c, .slice v.p.p v.p.n v.p.c, .slice v.r.p v.r.n v.r.c] 27)) = W2 at hnew hb ⊢
  clear hWW
  have HBW := Lib.hid (HBW.out.trans hb)
  have HX2 := Lib.hid (Bel.stays hb HX2.out)
  have HX5 := Lib.hid (Bel.stays hb HX5.out)
  have HA3 := Lib.hid (Bel.stays hb HA3.out)
  have HQv := Lib.hid (HQv.out.bel hb)
  generalize W1.heap.size = g9 at hnew hge HN29 HN59 HN39 ⊢
  have HX9 := Lib.hid hnew
  have HGE9 := Lib.hid hge
  clear hnew hb hge
  have k20 := cell_of_heap HX2.out 0
  have k21 := cell_of_heap HX2.out 1
  have k22 := cell_of_heap HX2.out 2
  have k50 := cell_of_heap HX5.out 0
  have k51 := cell_of_heap HX5.out 1
  have k52 := cell_of_heap HX5.out 2
  have k90 := cell_of_heap HX9.out 0
  have y90 := frozen_of_heap HX9.out 0
  have k91 := cell_of_heap HX9.out 1
  have y91 := frozen_of_heap HX9.out 1
  have k92 := cell_of_heap HX9.out 2
  have y92 := frozen_of_heap HX9.out 2
  simp only [List.getElem?_toArray, List.getElem?_cons_zero, List.getElem?_cons_succ] at k20 k21 k22 k50 k51 k52 k90 k91 k92
  have a30 := cell_of_heap HA3.out 0
  have a31 := cell_of_heap HA3.out 1
  have a32 := cell_of_heap HA3.out 2
  have a33 := cell_of_heap HA3.out 3
  simp only [List.getElem?_toArray, List.getElem?_cons_zero, List.getElem?_cons_succ] at a30 a31 a32 a33
  obtain ⟨kn, hkn⟩ : ∃ kn : Nat, pick x3 8 = (kn : Int) := ⟨(pick x3 8).toNat, by have := pick_bd x3 (n := 8) (by omega); omega⟩
  have HKN := Lib.hid hkn
  clear hkn
  obtain ⟨q, m2, r, hr⟩ : ∃ q m2 r, reserveV m hn an = (q, m2, r) := ⟨_, _, _, rfl⟩
  have HS : Hid (stepM m (x1, x2, x3, x4) = if r = 0 then m2 else m) := Lib.hid (by unfold stepM; rw [if_neg (show ¬ pick x1 8 = 0 by rw [HK.out]; decide), if_neg (show ¬ (pick x1 8 = 1 ∨ pick x1 8 = 2) by rw [HK.out]; decide), if_neg (show ¬ (pick x1 8 = 3 ∨ pick x1 8 = 4) by rw [HK.out]; decide), if_pos HK.out, HHP.out, HAP.out]; unfold sel; (try simp only [and_self]); rw [hr])
  have HR := Lib.hid hr
  clear hr
  go_wp2_with (go_at_call 15; ((with_reducible refine (pick_lit HK.out HI1.out (by decide) _).mono ?_); rintro e w' ⟨rfl, rfl⟩))
  refine (reserve_lit HQv.out HO.out HR.out).mono ?_
  rintro e W3 ⟨u, rfl, hb, hq⟩
  clear y90 y91 y92 k20 k21 k22 k50 k51 k52 k90 k91 k92 a30 a31 a32 a33
  have HBW := Lib.hid (HBW.out.trans hb)
  have HX2 := Lib.hid (Bel.stays hb HX2.out)
  have HX5 := Lib.hid (Bel.stays hb HX5.out)
  have HX9 := Lib.hid (Bel.stays hb HX9.out)
  have HA3 := Lib.hid (Bel.stays hb HA3.out)
  have HQv := Lib.hid (HQv.out.bel hb)
  have HQu : Hid (MemAt 0 W3 u m2) := Lib.hid (hq.mono (Nat.zero_le _))
  clear hb hq
  have k20 := cell_of_heap HX2.out 0
  have k21 := cell_of_heap HX2.out 1
  have k22 := cell_of_heap HX2.out 2
  have k50 := cell_of_heap HX5.out 0
  have y50 := frozen_of_heap HX5.out 0
  have k51 := cell_of_heap HX5.out 1
  have y51 := frozen_of_heap HX5.out 1
  have k52 := cell_of_heap HX5.out 2
  have y52 := frozen_of_heap HX5.out 2
  have k90 := cell_of_heap HX9.out 0
  have y90 := frozen_of_heap HX9.out 0
  have k91 := cell_of_heap HX9.out 1
  have y91 := frozen_of_heap HX9.out 1
  have k92 := cell_of_heap HX9.out 2
  have y92 := frozen_of_heap HX9.out 2
  simp only [List.getElem?_toArray, List.getElem?_cons_zero, List.getElem?_cons_succ] at k20 k21 k22 k50 k51 k52 k90 k91 k92
  have a30 := cell_of_heap HA3.out 0
  have a31 := cell_of_heap HA3.out 1
  have a32 := cell_of_heap HA3.out 2
  have a33 := cell_of_heap HA3.out 3
  simp only [List.getElem?_toArray, List.getElem?_cons_zero, List.getElem?_cons_succ] at a30 a31 a32 a33
  go_upto_region 23 with (fail)
  clear y50 y51 y52 y90 y91 y92 k20 k21 k22 k50 k51 k52 k90 k91 k92 a30 a31 a32 a33
  have hs3 : Svg g9 W3 (((W3.setCell ⟨g9, 0, none⟩ (.slice u.w.p u.w.n u.w.c)).setCell ⟨g9, 1, none⟩ (.slice u.p.p u.p.n u.p.c)).setCell ⟨g9, 2, none⟩ (.slice u.r.p u.r.n u.r.c)) := set3_svg W3 g9 (.slice u.w.p u.w.n u.w.c) (.slice u.p.p u.p.n u.p.c) (.slice u.r.p u.r.n u.r.c)
  have hh := set3_heap HX9.out (.slice u.w.p u.w.n u.w.c) (.slice u.p.p u.p.n u.p.c) (.slice u.r.p u.r.n u.r.c)
  generalize hWW : (((W3.setCell ⟨g9, 0, none⟩ (.slice u.w.p u.w.n u.w.c)).setCell ⟨g9, 1, none⟩ (.slice u.p.p u.p.n u.p.c)).setCell ⟨g9, 2, none⟩ (.slice u.r.p u.r.n u.r.c)) = W4 at hs3 hh ⊢
  clear hWW
  have HBW := Lib.hid (hs3.bel HBW.out HGE9.out)
  have HX2 := Lib.hid ((hs3.block _ (lt_of_heap HX2.out) HN29.out).trans HX2.out)
  have HX5 := Lib.hid ((hs3.block _ (lt_of_heap HX5.out) HN59.out).trans HX5.out)
  have HA3 := Lib.hid ((hs3.block _ (lt_of_heap HA3.out) HN39.out).trans HA3.out)
  have HQv := Lib.hid (HQv.out.keep hs3 HX9.out (by decide) (by decide) (by decide))
  have HQu := Lib.hid (HQu.out.keep hs3 HX9.out (by decide) (by decide) (by decide))
  have HX9 := Lib.hid hh
  clear hs3 hh
  have k20 := cell_of_heap HX2.out 0
  have k21 := cell_of_heap HX2.out 1
  have k22 := cell_of_heap HX2.out 2
  have k50 := cell_of_heap HX5.out 0
  have y50 := frozen_of_heap HX5.out 0
  have k51 := cell_of_heap HX5.out 1
  have y51 := frozen_of_heap HX5.out 1
  have k52 := cell_of_heap HX5.out 2
  have y52 := frozen_of_heap HX5.out 2
  have k90 := cell_of_heap HX9.out 0
  have y90 := frozen_of_heap HX9.out 0
  have k91 := cell_of_heap HX9.out 1
  have y91 := frozen_of_heap HX9.out 1
  have k92 := cell_of_heap HX9.out 2
  have y92 := frozen_of_heap HX9.out 2
  simp only [List.getElem?_toArray, List.getElem?_cons_zero, List.getElem?_cons_succ] at k20 k21 k22 k50 k51 k52 k90 k91 k92
  clear y50 y51 y52 y90 y91 y92 k20 k21 k22 k50 k51 k52 k90 k91 k92
  by_cases hz : r = 0
  · have hrz : (r != 0) = false := by rw [hz]; rfl
    have HZ := Lib.hid hz
    clear hz
    have k90 := cell_of_heap HX9.out 0
    have k91 := cell_of_heap HX9.out 1
    have k92 := cell_of_heap HX9.out 2
    have k50 := cell_of_heap HX5.out 0
    have y50 := frozen_of_heap HX5.out 0
    have k51 := cell_of_heap HX5.out 1
    have y51 := frozen_of_heap HX5.out 1
    have k52 := cell_of_heap HX5.out 2
    have y52 := frozen_of_heap HX5.out 2
    simp only [List.getElem?_toArray, List.getElem?_cons_zero, List.getElem?_cons_succ] at k90 k91 k92 k50 k51 k52
    go_upto_region 25 with (fail)
    go_region
    go_wp2_with fail
    have hs3 : Svg g5 W4 (((W4.setCell ⟨g5, 0, none⟩ (.slice u.w.p u.w.n u.w.c)).setCell ⟨g5, 1, none⟩ (.slice u.p.p u.p.n u.p.c)).setCell ⟨g5, 2, none⟩ (.slice u.r.p u.r.n u.r.c)).drew := (set3_svg W4 g5 (.slice u.w.p u.w.n u.w.c) (.slice u.p.p u.p.n u.p.c) (.slice u.r.p u.r.n u.r.c)).trans ((Bel.refl _).drew.svg g5)
    have hh : (((W4.setCell ⟨g5, 0, none⟩ (.slice u.w.p u.w.n u.w.c)).setCell ⟨g5, 1, none⟩ (.slice u.p.p u.p.n u.p.c)).setCell ⟨g5, 2, none⟩ (.slice u.r.p u.r.n u.r.c)).drew.heap[g5]? = some (.cells #[.slice u.w.p u.w.n u.w.c, .slice u.p.p u.p.n u.p.c, .slice u.r.p u.r.n u.r.c] 27 (0, 0)) := set3_heap HX5.out _ _ _
    exact bodyPost_ret (results_slot_cell Try.results55 _ _ g5 _ _ _ _ _ rfl rfl hh Try.underlying27 rfl (by kernel_rfl)) rfl ⟨_, u, rfl, hs3.bel HBW.out HGE5.out, by rw [HS.out, if_pos HZ.out]; exact HQu.out.keep hs3 HX5.out (by decide) (by decide) (by decide)⟩
  · have hrz : (r != 0) = true := by exact bne_iff_ne.2 hz
    have HZ := Lib.hid hz
    clear hz
    have k20 := cell_of_heap HX2.out 0
    have k21 := cell_of_heap HX2.out 1
    have k22 := cell_of_heap HX2.out 2
    have k50 := cell_of_heap HX5.out 0
    have y50 := frozen_of_heap HX5.out 0
    have k51 := cell_of_heap HX5.out 1
    have y51 := frozen_of_heap HX5.out 1
    have k52 := cell_of_heap HX5.out 2
    have y52 := frozen_of_heap HX5.out 2
    simp only [List.getElem?_toArray, List.getElem?_cons_zero, List.getElem?_cons_succ] at k20 k21 k22 k50 k51 k52
    go_upto_region 24 with (fail)
    go_region
    go_wp2_with fail
    have hs3 : Svg g5 W4 (((W4.setCell ⟨g5, 0, none⟩ (.slice v.w.p v.w.n v.w.c)).setCell ⟨g5, 1, none⟩ (.slice v.p.p v.p.n v.p.c)).setCell ⟨g5, 2, none⟩ (.slice v.r.p v.r.n v.r.c)).drew := (set3_svg W4 g5 (.slice v.w.p v.w.n v.w.c) (.slice v.p.p v.p.n v.p.c) (.slice v.r.p v.r.n v.r.c)).trans ((Bel.refl _).drew.svg g5)
    have hh : (((W4.setCell ⟨g5, 0, none⟩ (.slice v.w.p v.w.n v.w.c)).setCell ⟨g5, 1, none⟩ (.slice v.p.p v.p.n v.p.c)).setCell ⟨g5, 2, none⟩ (.slice v.r.p v.r.n v.r.c)).drew.heap[g5]? = some (.cells #[.slice v.w.p v.w.n v.w.c, .slice v.p.p v.p.n v.p.c, .slice v.r.p v.r.n v.r.c] 27 (0, 0)) := set3_heap HX5.out _ _ _
    exact bodyPost_ret (results_slot_cell Try.results55 _ _ g5 _ _ _ _ _ rfl rfl hh Try.underlying27 rfl (by kernel_rfl)) rfl ⟨_, v, rfl, hs3.bel HBW.out HGE5.out, by rw [HS.out, if_neg HZ.out]; exact HQv.out.keep hs3 HX5.out (by decide) (by decide) (by decide)⟩
set_option maxRecDepth 100000 in
set_option maxHeartbeats 4000000 in
theorem step_6 {w : World} {v : Mv} {m : Mem} (hm : MemAt 0 w v m) (ho : Ok m) (hpl : 1 ≤ m.pend.length) (hwl : 1 ≤ m.words.length) {x1 x2 x3 x4 : Int} (hi1 : inInt x1) (hi2 : inInt x2) (hi3 : inInt x3) (hi4 : inInt x4) (hk : pick x1 8 = 6) :
    Calls Try.prog 55 #[.agg #[.slice v.w.p v.w.n v.w.c, .slice v.p.p v.p.n v.p.c, .slice v.r.p v.r.n v.r.c], .agg #[.int .i64 x1, .int .i64 x2, .int .i64 x3, .int .i64 x4]] w (StepTold (stepM m (x1, x2, x3, x4)) w) := by
  obtain ⟨hb, hx2, hx3, hx5⟩ := box3 w #[.slice v.w.p v.w.n v.w.c, .slice v.p.p v.p.n v.p.c, .slice v.r.p v.r.n v.r.c] 27 #[.int .i64 x1, .int .i64 x2, .int .i64 x3, .int .i64 x4] 33 #[.slice none 0 0, .slice none 0 0, .slice none 0 0] 27
  have hm0 : MemAt 0 w v m := hm
  have hpn : v.p.n = m.pend.length := hm.pn
  have hwn : v.w.n = m.words.length := hm.wn
  have h1p : (1 : Int) ≤ (v.p.n : Int) := by omega
  have h1w : (1 : Int) ≤ (v.w.n : Int) := by omega
  obtain ⟨hn, hhn⟩ : ∃ hn : Nat, pick x2 v.p.n = (hn : Int) := ⟨(pick x2 v.p.n).toNat, by have := pick_bd x2 (n := (v.p.n : Int)) (by omega); omega⟩
  obtain ⟨an, han⟩ : ∃ an : Nat, pick x3 v.w.n = (an : Int) := ⟨(pick x3 v.w.n).toNat, by have := pick_bd x3 (n := (v.w.n : Int)) (by omega); omega⟩
  have HPH := Lib.hid hhn
  have HPA := Lib.hid han
  have HHP : Hid (hp m (x1, x2, x3, x4) = (hn : Int)) := Lib.hid (by show pick x2 (m.pend.length : Int) = _; rw [← hpn]; exact hhn)
  have HAP : Hid (ap m (x1, x2, x3, x4) = (an : Int)) := Lib.hid (by show pick x3 (m.words.length : Int) = _; rw [← hwn]; exact han)
  have H1P := Lib.hid h1p
  have H1W := Lib.hid h1w
  have HO := Lib.hid ho
  have HI1 := Lib.hid hi1
  have HI2 := Lib.hid hi2
  have HI3 := Lib.hid hi3
  have HI4 := Lib.hid hi4
  have HK := Lib.hid hk
  have HM := Lib.hid hm0
  clear hm hm0 hhn han hpl hwl hi1 hi2 hi3 hi4 hk ho hpn hwn
  go_enter Try.func55, Try.ntmps55
  go_upto_region 1 with (fail)
  generalize hWW : (((w.alloc (.cells #[.slice v.w.p v.w.n v.w.c, .slice v.p.p v.p.n v.p.c, .slice v.r.p v.r.n v.r.c] 27)).alloc (.cells #[.int .i64 x1, .int .i64 x2, .int .i64 x3, .int .i64 x4] 33)).alloc (.cells #[.slice none 0 0, .slice none 0 0, .slice none 0 0] 27)) = W1 at hb hx2 hx3 hx5 ⊢
  clear hWW
  have HN23 : Hid (w.heap.size ≠ w.heap.size + 1) := Lib.hid (by omega)
  have HN25 : Hid (w.heap.size ≠ w.heap.size + 1 + 1) := Lib.hid (by omega)
  have HN35 : Hid (w.heap.size + 1 ≠ w.heap.size + 1 + 1) := Lib.hid (by omega)
  have HGE5 : Hid (w.heap.size ≤ w.heap.size + 1 + 1) := Lib.hid (by omega)
  generalize w.heap.size + 1 + 1 = g5 at hx5 HN25 HN35 HGE5 ⊢
  generalize w.heap.size + 1 = g3 at hx3 HN23 HN35 ⊢
  obtain ⟨g2, hG⟩ : ∃ G, w.heap.size = G := ⟨_, rfl⟩
  rw [hG] at hx2 HN23 HN25 ⊢
  have HBW := Lib.hid hb
  have HX2 := Lib.hid hx2
  have HA3 := Lib.hid hx3
  have HX5 := Lib.hid hx5
  have HQv := Lib.hid (HM.out.bel hb)
  clear hb hx2 hx3 hx5 hG HM
  have k20 := cell_of_heap HX2.out 0
  have k21 := cell_of_heap HX2.out 1
  have k22 := cell_of_heap HX2.out 2
  simp only [List.getElem?_toArray, List.getElem?_cons_zero, List.getElem?_cons_succ] at k20 k21 k22
  have a30 := cell_of_heap HA3.out 0
  have a31 := cell_of_heap HA3.out 1
  have a32 := cell_of_heap HA3.out 2
  have a33 := cell_of_heap HA3.out 3
  simp only [List.getElem?_toArray, List.getElem?_cons_zero, List.getElem?_cons_succ] at a30 a31 a32 a33
  go_upto_region 4 with (first | (go_at_call 15; ((with_reducible refine (pick_lit HPH.out HI2.out H1P.out _).mono ?_); rintro e w' ⟨rfl, rfl⟩)) | (go_at_call 15; ((with_reducible refine (pick_lit HPA.out HI3.out H1W.out _).mono ?_); rintro e w' ⟨rfl, rfl⟩)))
  go_upto_region 5 with (fail)
  clear k20 k21 k22 a30 a31 a32 a33
  have hnew : (W1.alloc (.cells #[.slice v.w.p v.w.n v.w.c, .slice v.p.p v.p.n v.p.c, .slice v.r.p v.r.n v.r.c] 27)).heap[W1.heap.size]? = some (.cells #[.slice v.w.p v.w.n v.w.c, .slice v.p.p v.p.n v.p.c, .slice v.r.p v.r.n v.r.c] 27 (0, 0)) := heap_alloc_new W1 _
  have hb : Bel W1 (W1.alloc (.cells #[.slice v.w.p v.w.n v.w.c, .slice v.p.p v.p.n v.p.c, .slice v.r.p v.r.n v.r.c] 27)) := (Bel.refl W1).alloc _ _
  have hge : w.heap.size ≤ W1.heap.size := HBW.out.size
  have HN29 : Hid (g2 ≠ W1.heap.size) := Lib.hid (by have := lt_of_heap HX2.out; omega)
  have HN59 : Hid (g5 ≠ W1.heap.size) := Lib.hid (by have := lt_of_heap HX5.out; omega)
  have HN39 : Hid (g3 ≠ W1.heap.size) := Lib.hid (by have := lt_of_heap HA3.out; omega)
  generalize hWW : (W1.alloc (.cells #[.slice v.w.p v.w.n v.w.c, .slice v.p.p v.p.n v.p.c, .slice v.r.p v.r.n v.r.c] 27)) = W2 at hnew hb ⊢
  clear hWW
  have HBW := Lib.hid (HBW.out.trans hb)
  have HX2 := Lib.hid (Bel.stays hb HX2.out)
  have HX5 := Lib.hid (Bel.stays hb HX5.out)
  have HA3 := Lib.hid (Bel.stays hb HA3.out)
  have HQv := Lib.hid (HQv.out.bel hb)
  generalize W1.heap.size = g9 at hnew hge HN29 HN59 HN39 ⊢
  have HX9 := Lib.hid hnew
  have HGE9 := Lib.hid hge
  clear hnew hb hge
  have k20 := cell_of_heap HX2.out 0
  have k21 := cell_of_heap HX2.out 1
  have k22 := cell_of_heap HX2.out 2
  have k50 := cell_of_heap HX5.out 0
  have k51 := cell_of_heap HX5.out 1
  have k52 := cell_of_heap HX5.out 2
  have k90 := cell_of_heap HX9.out 0
  have y90 := frozen_of_heap HX9.out 0
  have k91 := cell_of_heap HX9.out 1
  have y91 := frozen_of_heap HX9.out 1
  have k92 := cell_of_heap HX9.out 2
  have y92 := frozen_of_heap HX9.out 2
  simp only [List.getElem?_toArray, List.getElem?_cons_zero, List.getElem?_cons_succ] at k20 k21 k22 k50 k51 k52 k90 k91 k92
  have a30 := cell_of_heap HA3.out 0
  have a31 := cell_of_heap HA3.out 1
  have a32 := cell_of_heap HA3.out 2
  have a33 := cell_of_heap HA3.out 3
  simp only [List.getElem?_toArray, List.getElem?_cons_zero, List.getElem?_cons_succ] at a30 a31 a32 a33
  obtain ⟨kn, hkn⟩ : ∃ kn : Nat, pick x3 8 = (kn : Int) := ⟨(pick x3 8).toNat, by have := pick_bd x3 (n := 8) (by omega); omega⟩
  have HKN := Lib.hid hkn
  clear hkn
  obtain ⟨q, m2, r, hr⟩ : ∃ q m2 r, condV m hn an x4 = (q, m2, r) := ⟨_, _, _, rfl⟩
  have HS : Hid (stepM m (x1, x2, x3, x4) = if r = 0 then m2 else m) := Lib.hid (by unfold stepM; rw [if_neg (show ¬ pick x1 8 = 0 by rw [HK.out]; decide), if_neg (show ¬ (pick x1 8 = 1 ∨ pick x1 8 = 2) by rw [HK.out]; decide), if_neg (show ¬ (pick x1 8 = 3 ∨ pick x1 8 = 4) by rw [HK.out]; decide), if_neg (show ¬ pick x1 8 = 5 by rw [HK.out]; decide), if_pos HK.out, HHP.out, HAP.out]; unfold sel; (try simp only [and_self]); rw [hr])
  have HR := Lib.hid hr
  clear hr
  go_wp2_with (go_at_call 15; ((with_reducible refine (pick_lit HK.out HI1.out (by decide) _).mono ?_); rintro e w' ⟨rfl, rfl⟩))
  refine (cond_lit HQv.out HO.out HR.out).mono ?_
  rintro e W3 ⟨u, rfl, hb, hq⟩
  clear y90 y91 y92 k20 k21 k22 k50 k51 k52 k90 k91 k92 a30 a31 a32 a33
  have HBW := Lib.hid (HBW.out.trans hb)
  have HX2 := Lib.hid (Bel.stays hb HX2.out)
  have HX5 := Lib.hid (Bel.stays hb HX5.out)
  have HX9 := Lib.hid (Bel.stays hb HX9.out)
  have HA3 := Lib.hid (Bel.stays hb HA3.out)
  have HQv := Lib.hid (HQv.out.bel hb)
  have HQu : Hid (MemAt 0 W3 u m2) := Lib.hid (hq.mono (Nat.zero_le _))
  clear hb hq
  have k20 := cell_of_heap HX2.out 0
  have k21 := cell_of_heap HX2.out 1
  have k22 := cell_of_heap HX2.out 2
  have k50 := cell_of_heap HX5.out 0
  have y50 := frozen_of_heap HX5.out 0
  have k51 := cell_of_heap HX5.out 1
  have y51 := frozen_of_heap HX5.out 1
  have k52 := cell_of_heap HX5.out 2
  have y52 := frozen_of_heap HX5.out 2
  have k90 := cell_of_heap HX9.out 0
  have y90 := frozen_of_heap HX9.out 0
  have k91 := cell_of_heap HX9.out 1
  have y91 := frozen_of_heap HX9.out 1
  have k92 := cell_of_heap HX9.out 2
  have y92 := frozen_of_heap HX9.out 2
  simp only [List.getElem?_toArray, List.getElem?_cons_zero, List.getElem?_cons_succ] at k20 k21 k22 k50 k51 k52 k90 k91 k92
  have a30 := cell_of_heap HA3.out 0
  have a31 := cell_of_heap HA3.out 1
  have a32 := cell_of_heap HA3.out 2
  have a33 := cell_of_heap HA3.out 3
  simp only [List.getElem?_toArray, List.getElem?_cons_zero, List.getElem?_cons_succ] at a30 a31 a32 a33
  go_upto_region 21 with (fail)
  clear y50 y51 y52 y90 y91 y92 k20 k21 k22 k50 k51 k52 k90 k91 k92 a30 a31 a32 a33
  have hs3 : Svg g9 W3 (((W3.setCell ⟨g9, 0, none⟩ (.slice u.w.p u.w.n u.w.c)).setCell ⟨g9, 1, none⟩ (.slice u.p.p u.p.n u.p.c)).setCell ⟨g9, 2, none⟩ (.slice u.r.p u.r.n u.r.c)) := set3_svg W3 g9 (.slice u.w.p u.w.n u.w.c) (.slice u.p.p u.p.n u.p.c) (.slice u.r.p u.r.n u.r.c)
  have hh := set3_heap HX9.out (.slice u.w.p u.w.n u.w.c) (.slice u.p.p u.p.n u.p.c) (.slice u.r.p u.r.n u.r.c)
  generalize hWW : (((W3.setCell ⟨g9, 0, none⟩ (.slice u.w.p u.w.n u.w.c)).setCell ⟨g9, 1, none⟩ (.slice u.p.p u.p.n u.p.c)).setCell ⟨g9, 2, none⟩ (.slice u.r.p u.r.n u.r.c)) = W4 at hs3 hh ⊢
  clear hWW
  have HBW := Lib.hid (hs3.bel HBW.out HGE9.out)
  have HX2 := Lib.hid ((hs3.block _ (lt_of_heap HX2.out) HN29.out).trans HX2.out)
  have HX5 := Lib.hid ((hs3.block _ (lt_of_heap HX5.out) HN59.out).trans HX5.out)
  have HA3 := Lib.hid ((hs3.block _ (lt_of_heap HA3.out) HN39.out).trans HA3.out)
  have HQv := Lib.hid (HQv.out.keep hs3 HX9.out (by decide) (by decide) (by decide))
  have HQu := Lib.hid (HQu.out.keep hs3 HX9.out (by decide) (by decide) (by decide))
  have HX9 := Lib.hid hh
  clear hs3 hh
  have k20 := cell_of_heap HX2.out 0
  have k21 := cell_of_heap HX2.out 1
  have k22 := cell_of_heap HX2.out 2
  have k50 := cell_of_heap HX5.out 0
  have y50 := frozen_of_heap HX5.out 0
  have k51 := cell_of_heap HX5.out 1
  have y51 := frozen_of_heap HX5.out 1
  have k52 := cell_of_heap HX5.out 2
  have y52 := frozen_of_heap HX5.out 2
  have k90 := cell_of_heap HX9.out 0
  have y90 := frozen_of_heap HX9.out 0
  have k91 := cell_of_heap HX9.out 1
  have y91 := frozen_of_heap HX9.out 1
  have k92 := cell_of_heap HX9.out 2
  have y92 := frozen_of_heap HX9.out 2
  simp only [List.getElem?_toArray, List.getElem?_cons_zero, List.getElem?_cons_succ] at k20 k21 k22 k50 k51 k52 k90 k91 k92
  clear y50 y51 y52 y90 y91 y92 k20 k21 k22 k50 k51 k52 k90 k91 k92
  cases q
  · by_cases hz : r = 0
    · have hrz : (r != 0) = false := by rw [hz]; rfl
      have HZ := Lib.hid hz
      clear hz
      have k90 := cell_of_heap HX9.out 0
      have k91 := cell_of_heap HX9.out 1
      have k92 := cell_of_heap HX9.out 2
      have k50 := cell_of_heap HX5.out 0
      have y50 := frozen_of_heap HX5.out 0
      have k51 := cell_of_heap HX5.out 1
      have y51 := frozen_of_heap HX5.out 1
      have k52 := cell_of_heap HX5.out 2
      have y52 := frozen_of_heap HX5.out 2
      simp only [List.getElem?_toArray, List.getElem?_cons_zero, List.getElem?_cons_succ] at k90 k91 k92 k50 k51 k52
      go_upto_region 25 with (fail)
      go_region
      go_wp2_with fail
      have hs3 : Svg g5 W4 (((W4.setCell ⟨g5, 0, none⟩ (.slice u.w.p u.w.n u.w.c)).setCell ⟨g5, 1, none⟩ (.slice u.p.p u.p.n u.p.c)).setCell ⟨g5, 2, none⟩ (.slice u.r.p u.r.n u.r.c)).drew := (set3_svg W4 g5 (.slice u.w.p u.w.n u.w.c) (.slice u.p.p u.p.n u.p.c) (.slice u.r.p u.r.n u.r.c)).trans ((Bel.refl _).drew.svg g5)
      have hh : (((W4.setCell ⟨g5, 0, none⟩ (.slice u.w.p u.w.n u.w.c)).setCell ⟨g5, 1, none⟩ (.slice u.p.p u.p.n u.p.c)).setCell ⟨g5, 2, none⟩ (.slice u.r.p u.r.n u.r.c)).drew.heap[g5]? = some (.cells #[.slice u.w.p u.w.n u.w.c, .slice u.p.p u.p.n u.p.c, .slice u.r.p u.r.n u.r.c] 27 (0, 0)) := set3_heap HX5.out _ _ _
      exact bodyPost_ret (results_slot_cell Try.results55 _ _ g5 _ _ _ _ _ rfl rfl hh Try.underlying27 rfl (by kernel_rfl)) rfl ⟨_, u, rfl, hs3.bel HBW.out HGE5.out, by rw [HS.out, if_pos HZ.out]; exact HQu.out.keep hs3 HX5.out (by decide) (by decide) (by decide)⟩
    · have hrz : (r != 0) = true := by exact bne_iff_ne.2 hz
      have HZ := Lib.hid hz
      clear hz
      have k20 := cell_of_heap HX2.out 0
      have k21 := cell_of_heap HX2.out 1
      have k22 := cell_of_heap HX2.out 2
      have k50 := cell_of_heap HX5.out 0
      have y50 := frozen_of_heap HX5.out 0
      have k51 := cell_of_heap HX5.out 1
      have y51 := frozen_of_heap HX5.out 1
      have k52 := cell_of_heap HX5.out 2
      have y52 := frozen_of_heap HX5.out 2
      simp only [List.getElem?_toArray, List.getElem?_cons_zero, List.getElem?_cons_succ] at k20 k21 k22 k50 k51 k52
      go_upto_region 24 with (fail)
      go_region
      go_wp2_with fail
      have hs3 : Svg g5 W4 (((W4.setCell ⟨g5, 0, none⟩ (.slice v.w.p v.w.n v.w.c)).setCell ⟨g5, 1, none⟩ (.slice v.p.p v.p.n v.p.c)).setCell ⟨g5, 2, none⟩ (.slice v.r.p v.r.n v.r.c)).drew := (set3_svg W4 g5 (.slice v.w.p v.w.n v.w.c) (.slice v.p.p v.p.n v.p.c) (.slice v.r.p v.r.n v.r.c)).trans ((Bel.refl _).drew.svg g5)
      have hh : (((W4.setCell ⟨g5, 0, none⟩ (.slice v.w.p v.w.n v.w.c)).setCell ⟨g5, 1, none⟩ (.slice v.p.p v.p.n v.p.c)).setCell ⟨g5, 2, none⟩ (.slice v.r.p v.r.n v.r.c)).drew.heap[g5]? = some (.cells #[.slice v.w.p v.w.n v.w.c, .slice v.p.p v.p.n v.p.c, .slice v.r.p v.r.n v.r.c] 27 (0, 0)) := set3_heap HX5.out _ _ _
      exact bodyPost_ret (results_slot_cell Try.results55 _ _ g5 _ _ _ _ _ rfl rfl hh Try.underlying27 rfl (by kernel_rfl)) rfl ⟨_, v, rfl, hs3.bel HBW.out HGE5.out, by rw [HS.out, if_neg HZ.out]; exact HQv.out.keep hs3 HX5.out (by decide) (by decide) (by decide)⟩
  · by_cases hz : r = 0
    · have hrz : (r != 0) = false := by rw [hz]; rfl
      have HZ := Lib.hid hz
      clear hz
      have k90 := cell_of_heap HX9.out 0
      have k91 := cell_of_heap HX9.out 1
      have k92 := cell_of_heap HX9.out 2
      have k50 := cell_of_heap HX5.out 0
      have y50 := frozen_of_heap HX5.out 0
      have k51 := cell_of_heap HX5.out 1
      have y51 := frozen_of_heap HX5.out 1
      have k52 := cell_of_heap HX5.out 2
      have y52 := frozen_of_heap HX5.out 2
      simp only [List.getElem?_toArray, List.getElem?_cons_zero, List.getElem?_cons_succ] at k90 k91 k92 k50 k51 k52
      go_upto_region 25 with (fail)
      go_region
      go_wp2_with fail
      have hs3 : Svg g5 W4 (((W4.setCell ⟨g5, 0, none⟩ (.slice u.w.p u.w.n u.w.c)).setCell ⟨g5, 1, none⟩ (.slice u.p.p u.p.n u.p.c)).setCell ⟨g5, 2, none⟩ (.slice u.r.p u.r.n u.r.c)).drew := (set3_svg W4 g5 (.slice u.w.p u.w.n u.w.c) (.slice u.p.p u.p.n u.p.c) (.slice u.r.p u.r.n u.r.c)).trans ((Bel.refl _).drew.svg g5)
      have hh : (((W4.setCell ⟨g5, 0, none⟩ (.slice u.w.p u.w.n u.w.c)).setCell ⟨g5, 1, none⟩ (.slice u.p.p u.p.n u.p.c)).setCell ⟨g5, 2, none⟩ (.slice u.r.p u.r.n u.r.c)).drew.heap[g5]? = some (.cells #[.slice u.w.p u.w.n u.w.c, .slice u.p.p u.p.n u.p.c, .slice u.r.p u.r.n u.r.c] 27 (0, 0)) := set3_heap HX5.out _ _ _
      exact bodyPost_ret (results_slot_cell Try.results55 _ _ g5 _ _ _ _ _ rfl rfl hh Try.underlying27 rfl (by kernel_rfl)) rfl ⟨_, u, rfl, hs3.bel HBW.out HGE5.out, by rw [HS.out, if_pos HZ.out]; exact HQu.out.keep hs3 HX5.out (by decide) (by decide) (by decide)⟩
    · have hrz : (r != 0) = true := by exact bne_iff_ne.2 hz
      have HZ := Lib.hid hz
      clear hz
      have k20 := cell_of_heap HX2.out 0
      have k21 := cell_of_heap HX2.out 1
      have k22 := cell_of_heap HX2.out 2
      have k50 := cell_of_heap HX5.out 0
      have y50 := frozen_of_heap HX5.out 0
      have k51 := cell_of_heap HX5.out 1
      have y51 := frozen_of_heap HX5.out 1
      have k52 := cell_of_heap HX5.out 2
      have y52 := frozen_of_heap HX5.out 2
      simp only [List.getElem?_toArray, List.getElem?_cons_zero, List.getElem?_cons_succ] at k20 k21 k22 k50 k51 k52
      go_upto_region 24 with (fail)
      go_region
      go_wp2_with fail
      have hs3 : Svg g5 W4 (((W4.setCell ⟨g5, 0, none⟩ (.slice v.w.p v.w.n v.w.c)).setCell ⟨g5, 1, none⟩ (.slice v.p.p v.p.n v.p.c)).setCell ⟨g5, 2, none⟩ (.slice v.r.p v.r.n v.r.c)).drew := (set3_svg W4 g5 (.slice v.w.p v.w.n v.w.c) (.slice v.p.p v.p.n v.p.c) (.slice v.r.p v.r.n v.r.c)).trans ((Bel.refl _).drew.svg g5)
      have hh : (((W4.setCell ⟨g5, 0, none⟩ (.slice v.w.p v.w.n v.w.c)).setCell ⟨g5, 1, none⟩ (.slice v.p.p v.p.n v.p.c)).setCell ⟨g5, 2, none⟩ (.slice v.r.p v.r.n v.r.c)).drew.heap[g5]? = some (.cells #[.slice v.w.p v.w.n v.w.c, .slice v.p.p v.p.n v.p.c, .slice v.r.p v.r.n v.r.c] 27 (0, 0)) := set3_heap HX5.out _ _ _
      exact bodyPost_ret (results_slot_cell Try.results55 _ _ g5 _ _ _ _ _ rfl rfl hh Try.underlying27 rfl (by kernel_rfl)) rfl ⟨_, v, rfl, hs3.bel HBW.out HGE5.out, by rw [HS.out, if_neg HZ.out]; exact HQv.out.keep hs3 HX5.out (by decide) (by decide) (by decide)⟩
set_option maxRecDepth 100000 in
set_option maxHeartbeats 4000000 in
theorem step_7 {w : World} {v : Mv} {m : Mem} (hm : MemAt 0 w v m) (ho : Ok m) (hpl : 1 ≤ m.pend.length) (hwl : 1 ≤ m.words.length) {x1 x2 x3 x4 : Int} (hi1 : inInt x1) (hi2 : inInt x2) (hi3 : inInt x3) (hi4 : inInt x4) (hk : pick x1 8 = 7) :
    Calls Try.prog 55 #[.agg #[.slice v.w.p v.w.n v.w.c, .slice v.p.p v.p.n v.p.c, .slice v.r.p v.r.n v.r.c], .agg #[.int .i64 x1, .int .i64 x2, .int .i64 x3, .int .i64 x4]] w (StepTold (stepM m (x1, x2, x3, x4)) w) := by
  obtain ⟨hb, hx2, hx3, hx5⟩ := box3 w #[.slice v.w.p v.w.n v.w.c, .slice v.p.p v.p.n v.p.c, .slice v.r.p v.r.n v.r.c] 27 #[.int .i64 x1, .int .i64 x2, .int .i64 x3, .int .i64 x4] 33 #[.slice none 0 0, .slice none 0 0, .slice none 0 0] 27
  have hm0 : MemAt 0 w v m := hm
  have hpn : v.p.n = m.pend.length := hm.pn
  have hwn : v.w.n = m.words.length := hm.wn
  have h1p : (1 : Int) ≤ (v.p.n : Int) := by omega
  have h1w : (1 : Int) ≤ (v.w.n : Int) := by omega
  obtain ⟨hn, hhn⟩ : ∃ hn : Nat, pick x2 v.p.n = (hn : Int) := ⟨(pick x2 v.p.n).toNat, by have := pick_bd x2 (n := (v.p.n : Int)) (by omega); omega⟩
  obtain ⟨an, han⟩ : ∃ an : Nat, pick x3 v.w.n = (an : Int) := ⟨(pick x3 v.w.n).toNat, by have := pick_bd x3 (n := (v.w.n : Int)) (by omega); omega⟩
  have HPH := Lib.hid hhn
  have HPA := Lib.hid han
  have HHP : Hid (hp m (x1, x2, x3, x4) = (hn : Int)) := Lib.hid (by show pick x2 (m.pend.length : Int) = _; rw [← hpn]; exact hhn)
  have HAP : Hid (ap m (x1, x2, x3, x4) = (an : Int)) := Lib.hid (by show pick x3 (m.words.length : Int) = _; rw [← hwn]; exact han)
  have H1P := Lib.hid h1p
  have H1W := Lib.hid h1w
  have HO := Lib.hid ho
  have HI1 := Lib.hid hi1
  have HI2 := Lib.hid hi2
  have HI3 := Lib.hid hi3
  have HI4 := Lib.hid hi4
  have HK := Lib.hid hk
  have HM := Lib.hid hm0
  clear hm hm0 hhn han hpl hwl hi1 hi2 hi3 hi4 hk ho hpn hwn
  go_enter Try.func55, Try.ntmps55
  go_upto_region 1 with (fail)
  generalize hWW : (((w.alloc (.cells #[.slice v.w.p v.w.n v.w.c, .slice v.p.p v.p.n v.p.c, .slice v.r.p v.r.n v.r.c] 27)).alloc (.cells #[.int .i64 x1, .int .i64 x2, .int .i64 x3, .int .i64 x4] 33)).alloc (.cells #[.slice none 0 0, .slice none 0 0, .slice none 0 0] 27)) = W1 at hb hx2 hx3 hx5 ⊢
  clear hWW
  have HN23 : Hid (w.heap.size ≠ w.heap.size + 1) := Lib.hid (by omega)
  have HN25 : Hid (w.heap.size ≠ w.heap.size + 1 + 1) := Lib.hid (by omega)
  have HN35 : Hid (w.heap.size + 1 ≠ w.heap.size + 1 + 1) := Lib.hid (by omega)
  have HGE5 : Hid (w.heap.size ≤ w.heap.size + 1 + 1) := Lib.hid (by omega)
  generalize w.heap.size + 1 + 1 = g5 at hx5 HN25 HN35 HGE5 ⊢
  generalize w.heap.size + 1 = g3 at hx3 HN23 HN35 ⊢
  obtain ⟨g2, hG⟩ : ∃ G, w.heap.size = G := ⟨_, rfl⟩
  rw [hG] at hx2 HN23 HN25 ⊢
  have HBW := Lib.hid hb
  have HX2 := Lib.hid hx2
  have HA3 := Lib.hid hx3
  have HX5 := Lib.hid hx5
  have HQv := Lib.hid (HM.out.bel hb)
  clear hb hx2 hx3 hx5 hG HM
  have k20 := cell_of_heap HX2.out 0
  have k21 := cell_of_heap HX2.out 1
  have k22 := cell_of_heap HX2.out 2
  simp only [List.getElem?_toArray, List.getElem?_cons_zero, List.getElem?_cons_succ] at k20 k21 k22
  have a30 := cell_of_heap HA3.out 0
  have a31 := cell_of_heap HA3.out 1
  have a32 := cell_of_heap HA3.out 2
  have a33 := cell_of_heap HA3.out 3
  simp only [List.getElem?_toArray, List.getElem?_cons_zero, List.getElem?_cons_succ] at a30 a31 a32 a33
  go_upto_region 4 with (first | (go_at_call 15; ((with_reducible refine (pick_lit HPH.out HI2.out H1P.out _).mono ?_); rintro e w' ⟨rfl, rfl⟩)) | (go_at_call 15; ((with_reducible refine (pick_lit HPA.out HI3.out H1W.out _).mono ?_); rintro e w' ⟨rfl, rfl⟩)))
  go_upto_region 5 with (fail)
  clear k20 k21 k22 a30 a31 a32 a33
  have hnew : (W1.alloc (.cells #[.slice v.w.p v.w.n v.w.c, .slice v.p.p v.p.n v.p.c, .slice v.r.p v.r.n v.r.c] 27)).heap[W1.heap.size]? = some (.cells #[.slice v.w.p v.w.n v.w.c, .slice v.p.p v.p.n v.p.c, .slice v.r.p v.r.n v.r.c] 27 (0, 0)) := heap_alloc_new W1 _
  have hb : Bel W1 (W1.alloc (.cells #[.slice v.w.p v.w.n v.w.c, .slice v.p.p v.p.n v.p.c, .slice v.r.p v.r.n v.r.c] 27)) := (Bel.refl W1).alloc _ _
  have hge : w.heap.size ≤ W1.heap.size := HBW.out.size
  have HN29 : Hid (g2 ≠ W1.heap.size) := Lib.hid (by have := lt_of_heap HX2.out; omega)
  have HN59 : Hid (g5 ≠ W1.heap.size) := Lib.hid (by have := lt_of_heap HX5.out; omega)
  have HN39 : Hid (g3 ≠ W1.heap.size) := Lib.hid (by have := lt_of_heap HA3.out; omega)
  generalize hWW : (W1.alloc (.cells #[.slice v.w.p v.w.n v.w.c, .slice v.p.p v.p.n v.p.c, .slice v.r.p v.r.n v.r.c] 27)) = W2 at hnew hb ⊢
  clear hWW
  have HBW := Lib.hid (HBW.out.trans hb)
  have HX2 := Lib.hid (Bel.stays hb HX2.out)
  have HX5 := Lib.hid (Bel.stays hb HX5.out)
  have HA3 := Lib.hid (Bel.stays hb HA3.out)
  have HQv := Lib.hid (HQv.out.bel hb)
  generalize W1.heap.size = g9 at hnew hge HN29 HN59 HN39 ⊢
  have HX9 := Lib.hid hnew
  have HGE9 := Lib.hid hge
  clear hnew hb hge
  have k20 := cell_of_heap HX2.out 0
  have k21 := cell_of_heap HX2.out 1
  have k22 := cell_of_heap HX2.out 2
  have k50 := cell_of_heap HX5.out 0
  have k51 := cell_of_heap HX5.out 1
  have k52 := cell_of_heap HX5.out 2
  have k90 := cell_of_heap HX9.out 0
  have y90 := frozen_of_heap HX9.out 0
  have k91 := cell_of_heap HX9.out 1
  have y91 := frozen_of_heap HX9.out 1
  have k92 := cell_of_heap HX9.out 2
  have y92 := frozen_of_heap HX9.out 2
  simp only [List.getElem?_toArray, List.getElem?_cons_zero, List.getElem?_cons_succ] at k20 k21 k22 k50 k51 k52 k90 k91 k92
  have a30 := cell_of_heap HA3.out 0
  have a31 := cell_of_heap HA3.out 1
  have a32 := cell_of_heap HA3.out 2
  have a33 := cell_of_heap HA3.out 3
  simp only [List.getElem?_toArray, List.getElem?_cons_zero, List.getElem?_cons_succ] at a30 a31 a32 a33
  obtain ⟨kn, hkn⟩ : ∃ kn : Nat, pick x3 8 = (kn : Int) := ⟨(pick x3 8).toNat, by have := pick_bd x3 (n := 8) (by omega); omega⟩
  have HKN := Lib.hid hkn
  clear hkn
  obtain ⟨on, hon⟩ : ∃ on : Int, pick x3 3 = on := ⟨_, rfl⟩
  have HON := Lib.hid hon
  clear hon
  obtain ⟨q, m2, r, hr⟩ : ∃ q m2 r, changeV m hn an on x4 = (q, m2, r) := ⟨_, _, _, rfl⟩
  have HS : Hid (stepM m (x1, x2, x3, x4) = if r = 0 then m2 else m) := Lib.hid (by unfold stepM; rw [if_neg (show ¬ pick x1 8 = 0 by rw [HK.out]; decide), if_neg (show ¬ (pick x1 8 = 1 ∨ pick x1 8 = 2) by rw [HK.out]; decide), if_neg (show ¬ (pick x1 8 = 3 ∨ pick x1 8 = 4) by rw [HK.out]; decide), if_neg (show ¬ pick x1 8 = 5 by rw [HK.out]; decide), if_neg (show ¬ pick x1 8 = 6 by rw [HK.out]; decide), HHP.out, HAP.out]; unfold sel; (try simp only [HON.out]); rw [hr])
  have HR := Lib.hid hr
  clear hr
  go_upto_region 7 with (go_at_call 15; ((with_reducible refine (pick_lit HK.out HI1.out (by decide) _).mono ?_); rintro e w' ⟨rfl, rfl⟩))
  clear y90 y91 y92 k20 k21 k22 k50 k51 k52 k90 k91 k92 a30 a31 a32 a33
  have HKEEP : Hid (∀ w', Bel W2 w' → w'.cell? ⟨g2, 0, none⟩ = some (.slice v.w.p v.w.n v.w.c) ∧ w'.cell? ⟨g2, 1, none⟩ = some (.slice v.p.p v.p.n v.p.c) ∧ w'.cell? ⟨g2, 2, none⟩ = some (.slice v.r.p v.r.n v.r.c) ∧ w'.cell? ⟨g3, 2, none⟩ = some (.int .i64 x3) ∧ w'.cell? ⟨g3, 3, none⟩ = some (.int .i64 x4)) := Lib.hid (fun w' h => by
    have h1 := h.stays HX2.out
    have h2 := h.stays HA3.out
    exact ⟨cell_of_heap h1 0, cell_of_heap h1 1, cell_of_heap h1 2, cell_of_heap h2 2, cell_of_heap h2 3⟩)
  have HKEEP2 : Hid (∀ w' w'', Bel W2 w' → Svg g9 w' w'' → w''.cell? ⟨g2, 0, none⟩ = some (.slice v.w.p v.w.n v.w.c) ∧ w''.cell? ⟨g2, 1, none⟩ = some (.slice v.p.p v.p.n v.p.c) ∧ w''.cell? ⟨g2, 2, none⟩ = some (.slice v.r.p v.r.n v.r.c) ∧ w''.cell? ⟨g3, 2, none⟩ = some (.int .i64 x3) ∧ w''.cell? ⟨g3, 3, none⟩ = some (.int .i64 x4)) := Lib.hid (fun w' w'' h hs => by
    have h1 := (hs.block _ (lt_of_heap (h.stays HX2.out)) HN29.out).trans (h.stays HX2.out)
    have h2 := (hs.block _ (lt_of_heap (h.stays HA3.out)) HN39.out).trans (h.stays HA3.out)
    exact ⟨cell_of_heap h1 0, cell_of_heap h1 1, cell_of_heap h1 2, cell_of_heap h2 2, cell_of_heap h2 3⟩)
  have HBC : Hid (Bel W2 W2.drew) := Lib.hid (Bel.refl W2).drew
  go_region_held3 (fun w' => w'.cell? ⟨g2, 0, none⟩ = some (.slice v.w.p v.w.n v.w.c) ∧ w'.cell? ⟨g2, 1, none⟩ = some (.slice v.p.p v.p.n v.p.c) ∧ w'.cell? ⟨g2, 2, none⟩ = some (.slice v.r.p v.r.n v.r.c) ∧ w'.cell? ⟨g3, 2, none⟩ = some (.int .i64 x3) ∧ w'.cell? ⟨g3, 3, none⟩ = some (.int .i64 x4))
    (first | exact HKEEP.out _ HBC.out | exact HKEEP.out _ (Bel.refl _) | exact HKEEP2.out _ _ HBC.out (((Svg.set _ _ _ _).trans (Svg.set _ _ _ _)).trans (Svg.set _ _ _ _)))
    (first | (go_at_call 15; ((with_reducible refine (pick_lit HON.out HI3.out (by decide) _).mono ?_); rintro e w' ⟨rfl, rfl⟩)) | (go_at_call 28; ((with_reducible refine (change_lit (HQv.out.bel HBC.out) HO.out HR.out).mono ?_); rintro e wz ⟨u, rfl, hbz, hmz⟩; have HMZ := Lib.hid (hmz.mono (Nat.zero_le _)); have y90 := frozen_of_heap (hbz.stays (HBC.out.stays HX9.out)) 0; have k90 := cell_of_heap (hbz.stays (HBC.out.stays HX9.out)) 0; have y91 := frozen_of_heap (hbz.stays (HBC.out.stays HX9.out)) 1; have k91 := cell_of_heap (hbz.stays (HBC.out.stays HX9.out)) 1; have y92 := frozen_of_heap (hbz.stays (HBC.out.stays HX9.out)) 2; have k92 := cell_of_heap (hbz.stays (HBC.out.stays HX9.out)) 2; simp only [List.getElem?_toArray, List.getElem?_cons_zero, List.getElem?_cons_succ] at k90 k91 k92; have HBC := Lib.hid (HBC.out.trans hbz); clear hbz hmz)))
  go_upto_region 23 with (fail)
  clear y90 y91 y92 k90 k91 k92 HKEEP HKEEP2
  have hb := HBC.out
  have HBW := Lib.hid (HBW.out.trans hb)
  have HX2 := Lib.hid (Bel.stays hb HX2.out)
  have HX5 := Lib.hid (Bel.stays hb HX5.out)
  have HX9 := Lib.hid (Bel.stays hb HX9.out)
  have HA3 := Lib.hid (Bel.stays hb HA3.out)
  have HQv := Lib.hid (HQv.out.bel hb)
  have HQu := HMZ
  clear hb
  have k20 := cell_of_heap HX2.out 0
  have k21 := cell_of_heap HX2.out 1
  have k22 := cell_of_heap HX2.out 2
  have k50 := cell_of_heap HX5.out 0
  have y50 := frozen_of_heap HX5.out 0
  have k51 := cell_of_heap HX5.out 1
  have y51 := frozen_of_heap HX5.out 1
  have k52 := cell_of_heap HX5.out 2
  have y52 := frozen_of_heap HX5.out 2
  have k90 := cell_of_heap HX9.out 0
  have y90 := frozen_of_heap HX9.out 0
  have k91 := cell_of_heap HX9.out 1
  have y91 := frozen_of_heap HX9.out 1
  have k92 := cell_of_heap HX9.out 2
  have y92 := frozen_of_heap HX9.out 2
  simp only [List.getElem?_toArray, List.getElem?_cons_zero, List.getElem?_cons_succ] at k20 k21 k22 k50 k51 k52 k90 k91 k92
  clear y50 y51 y52 y90 y91 y92 k20 k21 k22 k50 k51 k52 k90 k91 k92
  have hs3 : Svg g9 wz (((wz.setCell ⟨g9, 0, none⟩ (.slice u.w.p u.w.n u.w.c)).setCell ⟨g9, 1, none⟩ (.slice u.p.p u.p.n u.p.c)).setCell ⟨g9, 2, none⟩ (.slice u.r.p u.r.n u.r.c)) := set3_svg wz g9 (.slice u.w.p u.w.n u.w.c) (.slice u.p.p u.p.n u.p.c) (.slice u.r.p u.r.n u.r.c)
  have hh := set3_heap HX9.out (.slice u.w.p u.w.n u.w.c) (.slice u.p.p u.p.n u.p.c) (.slice u.r.p u.r.n u.r.c)
  generalize hWW : (((wz.setCell ⟨g9, 0, none⟩ (.slice u.w.p u.w.n u.w.c)).setCell ⟨g9, 1, none⟩ (.slice u.p.p u.p.n u.p.c)).setCell ⟨g9, 2, none⟩ (.slice u.r.p u.r.n u.r.c)) = W3 at hs3 hh ⊢
  clear hWW
  have HBW := Lib.hid (hs3.bel HBW.out HGE9.out)
  have HX2 := Lib.hid ((hs3.block _ (lt_of_heap HX2.out) HN29.out).trans HX2.out)
  have HX5 := Lib.hid ((hs3.block _ (lt_of_heap HX5.out) HN59.out).trans HX5.out)
  have HA3 := Lib.hid ((hs3.block _ (lt_of_heap HA3.out) HN39.out).trans HA3.out)
  have HQv := Lib.hid (HQv.out.keep hs3 HX9.out (by decide) (by decide) (by decide))
  have HQu := Lib.hid (HQu.out.keep hs3 HX9.out (by decide) (by decide) (by decide))
  have HX9 := Lib.hid hh
  clear hs3 hh
  have k20 := cell_of_heap HX2.out 0
  have k21 := cell_of_heap HX2.out 1
  have k22 := cell_of_heap HX2.out 2
  have k50 := cell_of_heap HX5.out 0
  have y50 := frozen_of_heap HX5.out 0
  have k51 := cell_of_heap HX5.out 1
  have y51 := frozen_of_heap HX5.out 1
  have k52 := cell_of_heap HX5.out 2
  have y52 := frozen_of_heap HX5.out 2
  have k90 := cell_of_heap HX9.out 0
  have y90 := frozen_of_heap HX9.out 0
  have k91 := cell_of_heap HX9.out 1
  have y91 := frozen_of_heap HX9.out 1
  have k92 := cell_of_heap HX9.out 2
  have y92 := frozen_of_heap HX9.out 2
  simp only [List.getElem?_toArray, List.getElem?_cons_zero, List.getElem?_cons_succ] at k20 k21 k22 k50 k51 k52 k90 k91 k92
  clear y50 y51 y52 y90 y91 y92 k20 k21 k22 k50 k51 k52 k90 k91 k92
  by_cases hz : r = 0
  · have hrz : (r != 0) = false := by rw [hz]; rfl
    have HZ := Lib.hid hz
    clear hz
    have k90 := cell_of_heap HX9.out 0
    have k91 := cell_of_heap HX9.out 1
    have k92 := cell_of_heap HX9.out 2
    have k50 := cell_of_heap HX5.out 0
    have y50 := frozen_of_heap HX5.out 0
    have k51 := cell_of_heap HX5.out 1
    have y51 := frozen_of_heap HX5.out 1
    have k52 := cell_of_heap HX5.out 2
    have y52 := frozen_of_heap HX5.out 2
    simp only [List.getElem?_toArray, List.getElem?_cons_zero, List.getElem?_cons_succ] at k90 k91 k92 k50 k51 k52
    go_upto_region 25 with (fail)
    go_region
    go_wp2_with fail
    have hs3 : Svg g5 W3 (((W3.setCell ⟨g5, 0, none⟩ (.slice u.w.p u.w.n u.w.c)).setCell ⟨g5, 1, none⟩ (.slice u.p.p u.p.n u.p.c)).setCell ⟨g5, 2, none⟩ (.slice u.r.p u.r.n u.r.c)).drew := (set3_svg W3 g5 (.slice u.w.p u.w.n u.w.c) (.slice u.p.p u.p.n u.p.c) (.slice u.r.p u.r.n u.r.c)).trans ((Bel.refl _).drew.svg g5)
    have hh : (((W3.setCell ⟨g5, 0, none⟩ (.slice u.w.p u.w.n u.w.c)).setCell ⟨g5, 1, none⟩ (.slice u.p.p u.p.n u.p.c)).setCell ⟨g5, 2, none⟩ (.slice u.r.p u.r.n u.r.c)).drew.heap[g5]? = some (.cells #[.slice u.w.p u.w.n u.w.c, .slice u.p.p u.p.n u.p.c, .slice u.r.p u.r.n u.r.c] 27 (0, 0)) := set3_heap HX5.out _ _ _
    exact bodyPost_ret (results_slot_cell Try.results55 _ _ g5 _ _ _ _ _ rfl rfl hh Try.underlying27 rfl (by kernel_rfl)) rfl ⟨_, u, rfl, hs3.bel HBW.out HGE5.out, by rw [HS.out, if_pos HZ.out]; exact HQu.out.keep hs3 HX5.out (by decide) (by decide) (by decide)⟩
  · have hrz : (r != 0) = true := by exact bne_iff_ne.2 hz
    have HZ := Lib.hid hz
    clear hz
    have k20 := cell_of_heap HX2.out 0
    have k21 := cell_of_heap HX2.out 1
    have k22 := cell_of_heap HX2.out 2
    have k50 := cell_of_heap HX5.out 0
    have y50 := frozen_of_heap HX5.out 0
    have k51 := cell_of_heap HX5.out 1
    have y51 := frozen_of_heap HX5.out 1
    have k52 := cell_of_heap HX5.out 2
    have y52 := frozen_of_heap HX5.out 2
    simp only [List.getElem?_toArray, List.getElem?_cons_zero, List.getElem?_cons_succ] at k20 k21 k22 k50 k51 k52
    go_upto_region 24 with (fail)
    go_region
    go_wp2_with fail
    have hs3 : Svg g5 W3 (((W3.setCell ⟨g5, 0, none⟩ (.slice v.w.p v.w.n v.w.c)).setCell ⟨g5, 1, none⟩ (.slice v.p.p v.p.n v.p.c)).setCell ⟨g5, 2, none⟩ (.slice v.r.p v.r.n v.r.c)).drew := (set3_svg W3 g5 (.slice v.w.p v.w.n v.w.c) (.slice v.p.p v.p.n v.p.c) (.slice v.r.p v.r.n v.r.c)).trans ((Bel.refl _).drew.svg g5)
    have hh : (((W3.setCell ⟨g5, 0, none⟩ (.slice v.w.p v.w.n v.w.c)).setCell ⟨g5, 1, none⟩ (.slice v.p.p v.p.n v.p.c)).setCell ⟨g5, 2, none⟩ (.slice v.r.p v.r.n v.r.c)).drew.heap[g5]? = some (.cells #[.slice v.w.p v.w.n v.w.c, .slice v.p.p v.p.n v.p.c, .slice v.r.p v.r.n v.r.c] 27 (0, 0)) := set3_heap HX5.out _ _ _
    exact bodyPost_ret (results_slot_cell Try.results55 _ _ g5 _ _ _ _ _ rfl rfl hh Try.underlying27 rfl (by kernel_rfl)) rfl ⟨_, v, rfl, hs3.bel HBW.out HGE5.out, by rw [HS.out, if_neg HZ.out]; exact HQv.out.keep hs3 HX5.out (by decide) (by decide) (by decide)⟩
theorem step_lit {w : World} {v : Mv} {m : Mem} (hm : MemAt 0 w v m) (ho : Ok m) (hpl : 1 ≤ m.pend.length) (hwl : 1 ≤ m.words.length) {x : Q4} (hi1 : inInt x.1) (hi2 : inInt x.2.1) (hi3 : inInt x.2.2.1) (hi4 : inInt x.2.2.2) {m' : Mem} (hr : stepM m x = m') :
    Calls Try.prog 55 #[.agg #[.slice v.w.p v.w.n v.w.c, .slice v.p.p v.p.n v.p.c, .slice v.r.p v.r.n v.r.c], .agg #[.int .i64 x.1, .int .i64 x.2.1, .int .i64 x.2.2.1, .int .i64 x.2.2.2]] w (StepTold m' w) := by
  subst hr
  obtain ⟨x1, x2, x3, x4⟩ := x
  have := pick_bd x1 (n := 8) (by omega)
  have h : pick x1 8 = 0 ∨ pick x1 8 = 1 ∨ pick x1 8 = 2 ∨ pick x1 8 = 3 ∨ pick x1 8 = 4 ∨ pick x1 8 = 5 ∨ pick x1 8 = 6 ∨ pick x1 8 = 7 := by omega
  rcases h with h | h | h | h | h | h | h | h
  · exact step_0 hm ho hpl hwl hi1 hi2 hi3 hi4 h
  · exact step_1 hm ho hpl hwl hi1 hi2 hi3 hi4 h
  · exact step_2 hm ho hpl hwl hi1 hi2 hi3 hi4 h
  · exact step_3 hm ho hpl hwl hi1 hi2 hi3 hi4 h
  · exact step_4 hm ho hpl hwl hi1 hi2 hi3 hi4 h
  · exact step_5 hm ho hpl hwl hi1 hi2 hi3 hi4 h
  · exact step_6 hm ho hpl hwl hi1 hi2 hi3 hi4 h
  · exact step_7 hm ho hpl hwl hi1 hi2 hi3 hi4 h
end Go.Proofs.Ytgbcamegidloaaa
