/- The law's own step. -/
import Derived.Test.YtbhpnoodpicdkaaGLit
namespace Go.Proofs.Ytbhpnoodpicdkaa
open Go.RowKit Dv
set_option linter.unusedVariables false
set_option linter.unusedSimpArgs false
set_option maxRecDepth 100000 in
theorem step0 {w : World} {d d' : Dev} {r a b x : Int} {p : Option Addr} {n c : Nat} (hq : QAt w (.slice p n c) d.q) (hd : Ok d) (ha : inInt a) (hb : inInt b) (hpa : pick a 3 = 0) (hr : stepV d (a, b, x) = (r, d')) :
    Calls Try.prog 20 #[.agg #[.int .i64 (d.kind : Int), .int .i64 d.r0, .int .i64 d.r1, .int .i64 d.r2, .int .i64 d.r3, .slice p n c, .int .i64 d.sent, .bool d.up], .agg #[.int .i64 a, .int .i64 b, .int .i64 x]] w (ReadLit r d' w) := by
  have hb1 : Bel w (((w.alloc (.cells #[.int .i64 (d.kind : Int), .int .i64 d.r0, .int .i64 d.r1, .int .i64 d.r2, .int .i64 d.r3, .slice p n c, .int .i64 d.sent, .bool d.up] 27)).alloc (.cells #[.int .i64 a, .int .i64 b, .int .i64 x] 43)).alloc (.cells #[.int .i64 0, .int .i64 0, .int .i64 0, .int .i64 0, .int .i64 0, .slice none 0 0, .int .i64 0, .bool false] 27)) := (((Bel.refl w).alloc _ _).alloc _ _).alloc _ _
  have hx1 : (((w.alloc (.cells #[.int .i64 (d.kind : Int), .int .i64 d.r0, .int .i64 d.r1, .int .i64 d.r2, .int .i64 d.r3, .slice p n c, .int .i64 d.sent, .bool d.up] 27)).alloc (.cells #[.int .i64 a, .int .i64 b, .int .i64 x] 43)).alloc (.cells #[.int .i64 0, .int .i64 0, .int .i64 0, .int .i64 0, .int .i64 0, .slice none 0 0, .int .i64 0, .bool false] 27)).heap[w.heap.size]? = some (.cells #[.int .i64 (d.kind : Int), .int .i64 d.r0, .int .i64 d.r1, .int .i64 d.r2, .int .i64 d.r3, .slice p n c, .int .i64 d.sent, .bool d.up] 27 (0, 0)) := (((Bel.refl _).alloc _ _).alloc _ _).stays (heap_alloc_new w _)
  have hx2 : (((w.alloc (.cells #[.int .i64 (d.kind : Int), .int .i64 d.r0, .int .i64 d.r1, .int .i64 d.r2, .int .i64 d.r3, .slice p n c, .int .i64 d.sent, .bool d.up] 27)).alloc (.cells #[.int .i64 a, .int .i64 b, .int .i64 x] 43)).alloc (.cells #[.int .i64 0, .int .i64 0, .int .i64 0, .int .i64 0, .int .i64 0, .slice none 0 0, .int .i64 0, .bool false] 27)).heap[w.heap.size + 1]? = some (.cells #[.int .i64 a, .int .i64 b, .int .i64 x] 43 (0, 0)) := by
    have h1 := heap_alloc_new (w.alloc (.cells #[.int .i64 (d.kind : Int), .int .i64 d.r0, .int .i64 d.r1, .int .i64 d.r2, .int .i64 d.r3, .slice p n c, .int .i64 d.sent, .bool d.up] 27)) (.cells #[.int .i64 a, .int .i64 b, .int .i64 x] 43)
    rw [World.size_alloc] at h1
    exact ((Bel.refl _).alloc _ _).stays h1
  have hx3 : (((w.alloc (.cells #[.int .i64 (d.kind : Int), .int .i64 d.r0, .int .i64 d.r1, .int .i64 d.r2, .int .i64 d.r3, .slice p n c, .int .i64 d.sent, .bool d.up] 27)).alloc (.cells #[.int .i64 a, .int .i64 b, .int .i64 x] 43)).alloc (.cells #[.int .i64 0, .int .i64 0, .int .i64 0, .int .i64 0, .int .i64 0, .slice none 0 0, .int .i64 0, .bool false] 27)).heap[w.heap.size + 1 + 1]? = some (.cells #[.int .i64 0, .int .i64 0, .int .i64 0, .int .i64 0, .int .i64 0, .slice none 0 0, .int .i64 0, .bool false] 27 (0, 0)) := by
    have h1 := heap_alloc_new ((w.alloc (.cells #[.int .i64 (d.kind : Int), .int .i64 d.r0, .int .i64 d.r1, .int .i64 d.r2, .int .i64 d.r3, .slice p n c, .int .i64 d.sent, .bool d.up] 27)).alloc (.cells #[.int .i64 a, .int .i64 b, .int .i64 x] 43)) (.cells #[.int .i64 0, .int .i64 0, .int .i64 0, .int .i64 0, .int .i64 0, .slice none 0 0, .int .i64 0, .bool false] 27)
    rw [World.size_alloc, World.size_alloc] at h1
    exact h1
  have hqq := hq.bel hb1
  obtain ⟨rn, hrn⟩ : ∃ rn : Nat, pick b 4 = (rn : Int) := ⟨(pick b 4).toNat, by have := pick_bd b (n := 4) (by omega); omega⟩
  have hrl : rn < 4 := by have := pick_bd b (n := 4) (by omega); omega
  have hst : rdV d rn = (r, d') := by
    rw [← hr]
    unfold stepV
    simp only [hrn, Int.toNat_natCast]
    rw [if_pos hpa]
  have HST := Lib.hid hst
  have HPA := Lib.hid hpa
  have HPB := Lib.hid hrn
  have HRL := Lib.hid hrl
  have HA := Lib.hid ha
  have HB := Lib.hid hb
  have HD := Lib.hid hd
  clear hq hd ha hb hpa hr hrn hrl hst
  go_enter Try.func20, Try.ntmps20
  go_upto_region 1 with (fail)
  generalize (((w.alloc (.cells #[.int .i64 (d.kind : Int), .int .i64 d.r0, .int .i64 d.r1, .int .i64 d.r2, .int .i64 d.r3, .slice p n c, .int .i64 d.sent, .bool d.up] 27)).alloc (.cells #[.int .i64 a, .int .i64 b, .int .i64 x] 43)).alloc (.cells #[.int .i64 0, .int .i64 0, .int .i64 0, .int .i64 0, .int .i64 0, .slice none 0 0, .int .i64 0, .bool false] 27)) = W1 at hb1 hx1 hx2 hx3 hqq ⊢
  have hlt := hb1.size
  have hge : w.heap.size ≤ w.heap.size + 1 + 1 := by omega
  have HGE := Lib.hid hge
  generalize w.heap.size + 1 + 1 = g3 at hx3 HGE ⊢
  generalize w.heap.size + 1 = g2 at hx2 ⊢
  have hy1 : BoxAt W1 w.heap.size 27 d (.slice p n c) := hx1
  obtain ⟨G, hG⟩ : ∃ G, w.heap.size = G := ⟨_, rfl⟩
  rw [hG] at hy1 ⊢
  have HG := Lib.hid hG
  obtain ⟨k0, k1, k2, k3, k4, k5, k6, k7⟩ := hy1.cells
  have q0 := cell_of_heap hx2 0
  have q1 := cell_of_heap hx2 1
  have q2 := cell_of_heap hx2 2
  simp only [List.getElem?_toArray, List.getElem?_cons_zero, List.getElem?_cons_succ] at q0 q1 q2
  have HB1 := Lib.hid hb1
  have HX3 := Lib.hid hx3
  have HQ1 := Lib.hid hqq
  clear hb1 hx1 hx2 hx3 hqq hlt hge hG hy1
  go_wp2_with (first
    | (go_at_call 12; ((with_reducible refine (pick_lit HPB.out HB.out (by decide) _).mono ?_); rintro e w' ⟨rfl, rfl⟩))
    | (go_at_call 12; ((with_reducible refine (pick_lit HPA.out HA.out (by decide) _).mono ?_); rintro e w' ⟨rfl, rfl⟩)))
  refine (read_lit HQ1.out HD.out HRL.out HST.out).mono ?_
  rintro e W2 ⟨p2, n2, c2, rfl, hb2, hq2⟩
  have hx4 := hb2.stays HX3.out
  have HX4 := Lib.hid hx4
  have z0 := cell_of_heap hx4 0
  have z1 := cell_of_heap hx4 1
  have z2 := cell_of_heap hx4 2
  have z3 := cell_of_heap hx4 3
  have z4 := cell_of_heap hx4 4
  have z5 := cell_of_heap hx4 5
  have z6 := cell_of_heap hx4 6
  have z7 := cell_of_heap hx4 7
  have y0 := frozen_of_heap hx4 0
  have y1 := frozen_of_heap hx4 1
  have y2 := frozen_of_heap hx4 2
  have y3 := frozen_of_heap hx4 3
  have y4 := frozen_of_heap hx4 4
  have y5 := frozen_of_heap hx4 5
  have y6 := frozen_of_heap hx4 6
  have y7 := frozen_of_heap hx4 7
  simp only [List.getElem?_toArray, List.getElem?_cons_zero, List.getElem?_cons_succ] at z0 z1 z2 z3 z4 z5 z6 z7
  have HB2 := Lib.hid hb2
  have HQ2 := Lib.hid hq2
  clear hb2 hq2 hx4 k0 k1 k2 k3 k4 k5 k6 k7 q0 q1 q2
  go_wp2
  have hh := set8_heap HX4.out (.int .i64 (d'.kind : Int)) (.int .i64 d'.r0) (.int .i64 d'.r1) (.int .i64 d'.r2) (.int .i64 d'.r3) (.slice p2 n2 c2) (.int .i64 d'.sent) (.bool d'.up)
  have hs8 := set8_svg W2 g3 (.int .i64 (d'.kind : Int)) (.int .i64 d'.r0) (.int .i64 d'.r1) (.int .i64 d'.r2) (.int .i64 d'.r3) (.slice p2 n2 c2) (.int .i64 d'.sent) (.bool d'.up)
  refine bodyPost_ret (results_slot_cell Try.results20 _ _ g3 _ _ _ _ _ rfl rfl hh Try.underlying27 rfl (by kernel_rfl)) rfl ⟨p2, n2, c2, rfl, hs8.bel (HB1.out.trans HB2.out) HGE.out, HQ2.out.keep hs8 HX4.out (by decide)⟩
set_option maxRecDepth 100000 in
theorem step1 {w : World} {d d' : Dev} {r a b x : Int} {p : Option Addr} {n c : Nat} (hq : QAt w (.slice p n c) d.q) (hd : Ok d) (ha : inInt a) (hb : inInt b) (hpa : pick a 3 = 1) (hr : stepV d (a, b, x) = (r, d')) :
    Calls Try.prog 20 #[.agg #[.int .i64 (d.kind : Int), .int .i64 d.r0, .int .i64 d.r1, .int .i64 d.r2, .int .i64 d.r3, .slice p n c, .int .i64 d.sent, .bool d.up], .agg #[.int .i64 a, .int .i64 b, .int .i64 x]] w (ReadLit r d' w) := by
  have hb1 : Bel w (((w.alloc (.cells #[.int .i64 (d.kind : Int), .int .i64 d.r0, .int .i64 d.r1, .int .i64 d.r2, .int .i64 d.r3, .slice p n c, .int .i64 d.sent, .bool d.up] 27)).alloc (.cells #[.int .i64 a, .int .i64 b, .int .i64 x] 43)).alloc (.cells #[.int .i64 0, .int .i64 0, .int .i64 0, .int .i64 0, .int .i64 0, .slice none 0 0, .int .i64 0, .bool false] 27)) := (((Bel.refl w).alloc _ _).alloc _ _).alloc _ _
  have hx1 : (((w.alloc (.cells #[.int .i64 (d.kind : Int), .int .i64 d.r0, .int .i64 d.r1, .int .i64 d.r2, .int .i64 d.r3, .slice p n c, .int .i64 d.sent, .bool d.up] 27)).alloc (.cells #[.int .i64 a, .int .i64 b, .int .i64 x] 43)).alloc (.cells #[.int .i64 0, .int .i64 0, .int .i64 0, .int .i64 0, .int .i64 0, .slice none 0 0, .int .i64 0, .bool false] 27)).heap[w.heap.size]? = some (.cells #[.int .i64 (d.kind : Int), .int .i64 d.r0, .int .i64 d.r1, .int .i64 d.r2, .int .i64 d.r3, .slice p n c, .int .i64 d.sent, .bool d.up] 27 (0, 0)) := (((Bel.refl _).alloc _ _).alloc _ _).stays (heap_alloc_new w _)
  have hx2 : (((w.alloc (.cells #[.int .i64 (d.kind : Int), .int .i64 d.r0, .int .i64 d.r1, .int .i64 d.r2, .int .i64 d.r3, .slice p n c, .int .i64 d.sent, .bool d.up] 27)).alloc (.cells #[.int .i64 a, .int .i64 b, .int .i64 x] 43)).alloc (.cells #[.int .i64 0, .int .i64 0, .int .i64 0, .int .i64 0, .int .i64 0, .slice none 0 0, .int .i64 0, .bool false] 27)).heap[w.heap.size + 1]? = some (.cells #[.int .i64 a, .int .i64 b, .int .i64 x] 43 (0, 0)) := by
    have h1 := heap_alloc_new (w.alloc (.cells #[.int .i64 (d.kind : Int), .int .i64 d.r0, .int .i64 d.r1, .int .i64 d.r2, .int .i64 d.r3, .slice p n c, .int .i64 d.sent, .bool d.up] 27)) (.cells #[.int .i64 a, .int .i64 b, .int .i64 x] 43)
    rw [World.size_alloc] at h1
    exact ((Bel.refl _).alloc _ _).stays h1
  have hx3 : (((w.alloc (.cells #[.int .i64 (d.kind : Int), .int .i64 d.r0, .int .i64 d.r1, .int .i64 d.r2, .int .i64 d.r3, .slice p n c, .int .i64 d.sent, .bool d.up] 27)).alloc (.cells #[.int .i64 a, .int .i64 b, .int .i64 x] 43)).alloc (.cells #[.int .i64 0, .int .i64 0, .int .i64 0, .int .i64 0, .int .i64 0, .slice none 0 0, .int .i64 0, .bool false] 27)).heap[w.heap.size + 1 + 1]? = some (.cells #[.int .i64 0, .int .i64 0, .int .i64 0, .int .i64 0, .int .i64 0, .slice none 0 0, .int .i64 0, .bool false] 27 (0, 0)) := by
    have h1 := heap_alloc_new ((w.alloc (.cells #[.int .i64 (d.kind : Int), .int .i64 d.r0, .int .i64 d.r1, .int .i64 d.r2, .int .i64 d.r3, .slice p n c, .int .i64 d.sent, .bool d.up] 27)).alloc (.cells #[.int .i64 a, .int .i64 b, .int .i64 x] 43)) (.cells #[.int .i64 0, .int .i64 0, .int .i64 0, .int .i64 0, .int .i64 0, .slice none 0 0, .int .i64 0, .bool false] 27)
    rw [World.size_alloc, World.size_alloc] at h1
    exact h1
  have hqq := hq.bel hb1
  obtain ⟨rn, hrn⟩ : ∃ rn : Nat, pick b 4 = (rn : Int) := ⟨(pick b 4).toNat, by have := pick_bd b (n := 4) (by omega); omega⟩
  have hrl : rn < 4 := by have := pick_bd b (n := 4) (by omega); omega
  have hst : (0, wrV d rn x) = (r, d') := by
    rw [← hr]
    unfold stepV
    simp only [hrn, Int.toNat_natCast]
    rw [if_neg (by omega), if_pos hpa]
  injection hst with h0 hst
  subst h0
  have HST := Lib.hid hst
  have HPA := Lib.hid hpa
  have HPB := Lib.hid hrn
  have HRL := Lib.hid hrl
  have HA := Lib.hid ha
  have HB := Lib.hid hb
  have HD := Lib.hid hd
  clear hq hd ha hb hpa hr hrn hrl hst
  go_enter Try.func20, Try.ntmps20
  go_upto_region 1 with (fail)
  generalize (((w.alloc (.cells #[.int .i64 (d.kind : Int), .int .i64 d.r0, .int .i64 d.r1, .int .i64 d.r2, .int .i64 d.r3, .slice p n c, .int .i64 d.sent, .bool d.up] 27)).alloc (.cells #[.int .i64 a, .int .i64 b, .int .i64 x] 43)).alloc (.cells #[.int .i64 0, .int .i64 0, .int .i64 0, .int .i64 0, .int .i64 0, .slice none 0 0, .int .i64 0, .bool false] 27)) = W1 at hb1 hx1 hx2 hx3 hqq ⊢
  have hlt := hb1.size
  have hge : w.heap.size ≤ w.heap.size + 1 + 1 := by omega
  have HGE := Lib.hid hge
  generalize w.heap.size + 1 + 1 = g3 at hx3 HGE ⊢
  generalize w.heap.size + 1 = g2 at hx2 ⊢
  have hy1 : BoxAt W1 w.heap.size 27 d (.slice p n c) := hx1
  obtain ⟨G, hG⟩ : ∃ G, w.heap.size = G := ⟨_, rfl⟩
  rw [hG] at hy1 ⊢
  have HG := Lib.hid hG
  obtain ⟨k0, k1, k2, k3, k4, k5, k6, k7⟩ := hy1.cells
  have q0 := cell_of_heap hx2 0
  have q1 := cell_of_heap hx2 1
  have q2 := cell_of_heap hx2 2
  simp only [List.getElem?_toArray, List.getElem?_cons_zero, List.getElem?_cons_succ] at q0 q1 q2
  have HB1 := Lib.hid hb1
  have HX3 := Lib.hid hx3
  have HQ1 := Lib.hid hqq
  clear hb1 hx1 hx2 hx3 hqq hlt hge hG hy1
  go_wp2_with (first
    | (go_at_call 12; ((with_reducible refine (pick_lit HPB.out HB.out (by decide) _).mono ?_); rintro e w' ⟨rfl, rfl⟩))
    | (go_at_call 12; ((with_reducible refine (pick_lit HPA.out HA.out (by decide) _).mono ?_); rintro e w' ⟨rfl, rfl⟩)))
  refine (write_lit HQ1.out HD.out HRL.out HST.out).mono ?_
  rintro e W2 ⟨p2, n2, c2, rfl, hb2, hq2⟩
  have hx4 := hb2.stays HX3.out
  have HX4 := Lib.hid hx4
  have z0 := cell_of_heap hx4 0
  have z1 := cell_of_heap hx4 1
  have z2 := cell_of_heap hx4 2
  have z3 := cell_of_heap hx4 3
  have z4 := cell_of_heap hx4 4
  have z5 := cell_of_heap hx4 5
  have z6 := cell_of_heap hx4 6
  have z7 := cell_of_heap hx4 7
  have y0 := frozen_of_heap hx4 0
  have y1 := frozen_of_heap hx4 1
  have y2 := frozen_of_heap hx4 2
  have y3 := frozen_of_heap hx4 3
  have y4 := frozen_of_heap hx4 4
  have y5 := frozen_of_heap hx4 5
  have y6 := frozen_of_heap hx4 6
  have y7 := frozen_of_heap hx4 7
  simp only [List.getElem?_toArray, List.getElem?_cons_zero, List.getElem?_cons_succ] at z0 z1 z2 z3 z4 z5 z6 z7
  have HB2 := Lib.hid hb2
  have HQ2 := Lib.hid hq2
  clear hb2 hq2 hx4 k0 k1 k2 k3 k4 k5 k6 k7 q0 q1 q2
  go_wp2
  have hh := set8_heap HX4.out (.int .i64 (d'.kind : Int)) (.int .i64 d'.r0) (.int .i64 d'.r1) (.int .i64 d'.r2) (.int .i64 d'.r3) (.slice p2 n2 c2) (.int .i64 d'.sent) (.bool d'.up)
  have hs8 := set8_svg W2 g3 (.int .i64 (d'.kind : Int)) (.int .i64 d'.r0) (.int .i64 d'.r1) (.int .i64 d'.r2) (.int .i64 d'.r3) (.slice p2 n2 c2) (.int .i64 d'.sent) (.bool d'.up)
  refine bodyPost_ret (results_slot_cell Try.results20 _ _ g3 _ _ _ _ _ rfl rfl hh Try.underlying27 rfl (by kernel_rfl)) rfl ⟨p2, n2, c2, rfl, hs8.bel (HB1.out.trans HB2.out) HGE.out, HQ2.out.keep hs8 HX4.out (by decide)⟩
set_option maxRecDepth 100000 in
theorem step2 {w : World} {d d' : Dev} {r a b x : Int} {p : Option Addr} {n c : Nat} (hq : QAt w (.slice p n c) d.q) (hd : Ok d) (ha : inInt a) (hb : inInt b) (hpa : pick a 3 = 2) (hr : stepV d (a, b, x) = (r, d')) :
    Calls Try.prog 20 #[.agg #[.int .i64 (d.kind : Int), .int .i64 d.r0, .int .i64 d.r1, .int .i64 d.r2, .int .i64 d.r3, .slice p n c, .int .i64 d.sent, .bool d.up], .agg #[.int .i64 a, .int .i64 b, .int .i64 x]] w (ReadLit r d' w) := by
  have hb1 : Bel w (((w.alloc (.cells #[.int .i64 (d.kind : Int), .int .i64 d.r0, .int .i64 d.r1, .int .i64 d.r2, .int .i64 d.r3, .slice p n c, .int .i64 d.sent, .bool d.up] 27)).alloc (.cells #[.int .i64 a, .int .i64 b, .int .i64 x] 43)).alloc (.cells #[.int .i64 0, .int .i64 0, .int .i64 0, .int .i64 0, .int .i64 0, .slice none 0 0, .int .i64 0, .bool false] 27)) := (((Bel.refl w).alloc _ _).alloc _ _).alloc _ _
  have hx1 : (((w.alloc (.cells #[.int .i64 (d.kind : Int), .int .i64 d.r0, .int .i64 d.r1, .int .i64 d.r2, .int .i64 d.r3, .slice p n c, .int .i64 d.sent, .bool d.up] 27)).alloc (.cells #[.int .i64 a, .int .i64 b, .int .i64 x] 43)).alloc (.cells #[.int .i64 0, .int .i64 0, .int .i64 0, .int .i64 0, .int .i64 0, .slice none 0 0, .int .i64 0, .bool false] 27)).heap[w.heap.size]? = some (.cells #[.int .i64 (d.kind : Int), .int .i64 d.r0, .int .i64 d.r1, .int .i64 d.r2, .int .i64 d.r3, .slice p n c, .int .i64 d.sent, .bool d.up] 27 (0, 0)) := (((Bel.refl _).alloc _ _).alloc _ _).stays (heap_alloc_new w _)
  have hx2 : (((w.alloc (.cells #[.int .i64 (d.kind : Int), .int .i64 d.r0, .int .i64 d.r1, .int .i64 d.r2, .int .i64 d.r3, .slice p n c, .int .i64 d.sent, .bool d.up] 27)).alloc (.cells #[.int .i64 a, .int .i64 b, .int .i64 x] 43)).alloc (.cells #[.int .i64 0, .int .i64 0, .int .i64 0, .int .i64 0, .int .i64 0, .slice none 0 0, .int .i64 0, .bool false] 27)).heap[w.heap.size + 1]? = some (.cells #[.int .i64 a, .int .i64 b, .int .i64 x] 43 (0, 0)) := by
    have h1 := heap_alloc_new (w.alloc (.cells #[.int .i64 (d.kind : Int), .int .i64 d.r0, .int .i64 d.r1, .int .i64 d.r2, .int .i64 d.r3, .slice p n c, .int .i64 d.sent, .bool d.up] 27)) (.cells #[.int .i64 a, .int .i64 b, .int .i64 x] 43)
    rw [World.size_alloc] at h1
    exact ((Bel.refl _).alloc _ _).stays h1
  have hx3 : (((w.alloc (.cells #[.int .i64 (d.kind : Int), .int .i64 d.r0, .int .i64 d.r1, .int .i64 d.r2, .int .i64 d.r3, .slice p n c, .int .i64 d.sent, .bool d.up] 27)).alloc (.cells #[.int .i64 a, .int .i64 b, .int .i64 x] 43)).alloc (.cells #[.int .i64 0, .int .i64 0, .int .i64 0, .int .i64 0, .int .i64 0, .slice none 0 0, .int .i64 0, .bool false] 27)).heap[w.heap.size + 1 + 1]? = some (.cells #[.int .i64 0, .int .i64 0, .int .i64 0, .int .i64 0, .int .i64 0, .slice none 0 0, .int .i64 0, .bool false] 27 (0, 0)) := by
    have h1 := heap_alloc_new ((w.alloc (.cells #[.int .i64 (d.kind : Int), .int .i64 d.r0, .int .i64 d.r1, .int .i64 d.r2, .int .i64 d.r3, .slice p n c, .int .i64 d.sent, .bool d.up] 27)).alloc (.cells #[.int .i64 a, .int .i64 b, .int .i64 x] 43)) (.cells #[.int .i64 0, .int .i64 0, .int .i64 0, .int .i64 0, .int .i64 0, .slice none 0 0, .int .i64 0, .bool false] 27)
    rw [World.size_alloc, World.size_alloc] at h1
    exact h1
  have hqq := hq.bel hb1
  obtain ⟨rn, hrn⟩ : ∃ rn : Nat, pick b 4 = (rn : Int) := ⟨(pick b 4).toNat, by have := pick_bd b (n := 4) (by omega); omega⟩
  have hrl : rn < 4 := by have := pick_bd b (n := 4) (by omega); omega
  have hst : (0, inV d x) = (r, d') := by
    rw [← hr]
    unfold stepV
    simp only [hrn, Int.toNat_natCast]
    rw [if_neg (by omega), if_neg (by omega)]
  injection hst with h0 hst
  subst h0
  have HST := Lib.hid hst
  have HPA := Lib.hid hpa
  have HPB := Lib.hid hrn
  have HRL := Lib.hid hrl
  have HA := Lib.hid ha
  have HB := Lib.hid hb
  have HD := Lib.hid hd
  clear hq hd ha hb hpa hr hrn hrl hst
  go_enter Try.func20, Try.ntmps20
  go_upto_region 1 with (fail)
  generalize (((w.alloc (.cells #[.int .i64 (d.kind : Int), .int .i64 d.r0, .int .i64 d.r1, .int .i64 d.r2, .int .i64 d.r3, .slice p n c, .int .i64 d.sent, .bool d.up] 27)).alloc (.cells #[.int .i64 a, .int .i64 b, .int .i64 x] 43)).alloc (.cells #[.int .i64 0, .int .i64 0, .int .i64 0, .int .i64 0, .int .i64 0, .slice none 0 0, .int .i64 0, .bool false] 27)) = W1 at hb1 hx1 hx2 hx3 hqq ⊢
  have hlt := hb1.size
  have hge : w.heap.size ≤ w.heap.size + 1 + 1 := by omega
  have HGE := Lib.hid hge
  generalize w.heap.size + 1 + 1 = g3 at hx3 HGE ⊢
  generalize w.heap.size + 1 = g2 at hx2 ⊢
  have hy1 : BoxAt W1 w.heap.size 27 d (.slice p n c) := hx1
  obtain ⟨G, hG⟩ : ∃ G, w.heap.size = G := ⟨_, rfl⟩
  rw [hG] at hy1 ⊢
  have HG := Lib.hid hG
  obtain ⟨k0, k1, k2, k3, k4, k5, k6, k7⟩ := hy1.cells
  have q0 := cell_of_heap hx2 0
  have q1 := cell_of_heap hx2 1
  have q2 := cell_of_heap hx2 2
  simp only [List.getElem?_toArray, List.getElem?_cons_zero, List.getElem?_cons_succ] at q0 q1 q2
  have HB1 := Lib.hid hb1
  have HX3 := Lib.hid hx3
  have HQ1 := Lib.hid hqq
  clear hb1 hx1 hx2 hx3 hqq hlt hge hG hy1
  go_wp2_with (first
    | (go_at_call 12; ((with_reducible refine (pick_lit HPB.out HB.out (by decide) _).mono ?_); rintro e w' ⟨rfl, rfl⟩))
    | (go_at_call 12; ((with_reducible refine (pick_lit HPA.out HA.out (by decide) _).mono ?_); rintro e w' ⟨rfl, rfl⟩)))
  refine (input_lit HQ1.out HD.out HST.out).mono ?_
  rintro e W2 ⟨p2, n2, c2, rfl, hb2, hq2⟩
  have hx4 := hb2.stays HX3.out
  have HX4 := Lib.hid hx4
  have z0 := cell_of_heap hx4 0
  have z1 := cell_of_heap hx4 1
  have z2 := cell_of_heap hx4 2
  have z3 := cell_of_heap hx4 3
  have z4 := cell_of_heap hx4 4
  have z5 := cell_of_heap hx4 5
  have z6 := cell_of_heap hx4 6
  have z7 := cell_of_heap hx4 7
  have y0 := frozen_of_heap hx4 0
  have y1 := frozen_of_heap hx4 1
  have y2 := frozen_of_heap hx4 2
  have y3 := frozen_of_heap hx4 3
  have y4 := frozen_of_heap hx4 4
  have y5 := frozen_of_heap hx4 5
  have y6 := frozen_of_heap hx4 6
  have y7 := frozen_of_heap hx4 7
  simp only [List.getElem?_toArray, List.getElem?_cons_zero, List.getElem?_cons_succ] at z0 z1 z2 z3 z4 z5 z6 z7
  have HB2 := Lib.hid hb2
  have HQ2 := Lib.hid hq2
  clear hb2 hq2 hx4 k0 k1 k2 k3 k4 k5 k6 k7 q0 q1 q2
  go_wp2
  have hh := set8_heap HX4.out (.int .i64 (d'.kind : Int)) (.int .i64 d'.r0) (.int .i64 d'.r1) (.int .i64 d'.r2) (.int .i64 d'.r3) (.slice p2 n2 c2) (.int .i64 d'.sent) (.bool d'.up)
  have hs8 := set8_svg W2 g3 (.int .i64 (d'.kind : Int)) (.int .i64 d'.r0) (.int .i64 d'.r1) (.int .i64 d'.r2) (.int .i64 d'.r3) (.slice p2 n2 c2) (.int .i64 d'.sent) (.bool d'.up)
  refine bodyPost_ret (results_slot_cell Try.results20 _ _ g3 _ _ _ _ _ rfl rfl hh Try.underlying27 rfl (by kernel_rfl)) rfl ⟨p2, n2, c2, rfl, hs8.bel (HB1.out.trans HB2.out) HGE.out, HQ2.out.keep hs8 HX4.out (by decide)⟩
theorem step_lit {w : World} {d d' : Dev} {r a b x : Int} {p : Option Addr} {n c : Nat} (hq : QAt w (.slice p n c) d.q) (hd : Ok d) (ha : inInt a) (hb : inInt b) (hr : stepV d (a, b, x) = (r, d')) :
    Calls Try.prog 20 #[.agg #[.int .i64 (d.kind : Int), .int .i64 d.r0, .int .i64 d.r1, .int .i64 d.r2, .int .i64 d.r3, .slice p n c, .int .i64 d.sent, .bool d.up], .agg #[.int .i64 a, .int .i64 b, .int .i64 x]] w (ReadLit r d' w) := by
  have := pick_bd a (n := 3) (by omega)
  have h : pick a 3 = 0 ∨ pick a 3 = 1 ∨ pick a 3 = 2 := by omega
  rcases h with h | h | h
  · exact step0 hq hd ha hb h hr
  · exact step1 hq hd ha hb h hr
  · exact step2 hq hd ha hb h hr
end Go.Proofs.Ytbhpnoodpicdkaa
