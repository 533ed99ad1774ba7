/- A device of a raw kind, behind raw steps. -/
import Derived.Test.YtbhpnoodpicdkaaGStep
import Derived.Deep.LoopGhost
namespace Go.Proofs.Ytbhpnoodpicdkaa
open Go.RowKit Dv
set_option linter.unusedVariables false
set_option linter.unusedSimpArgs false
/-- raw steps lie at a place -/
def TrisQ (w : World) (p : Option Addr) (l : List (Int × Int × Int)) : Prop := ∀ (j : Nat) (x : Int × Int × Int), l[j]? = some x → inInt x.1 ∧ inInt x.2.1 ∧ inInt x.2.2 ∧ ∃ b o, p = some ⟨b, o, none⟩ ∧ b < w.heap.size ∧ w.cell? ⟨b, o + j * 3, none⟩ = some (.int .i64 x.1) ∧ w.cell? ⟨b, o + j * 3 + 1, none⟩ = some (.int .i64 x.2.1) ∧ w.cell? ⟨b, o + j * 3 + 2, none⟩ = some (.int .i64 x.2.2)
theorem TrisQ.bel {w w' : World} {p : Option Addr} {l : List (Int × Int × Int)} (h : TrisQ w p l) (hb : Bel w w') : TrisQ w' p l := fun j x hj => by
  obtain ⟨i1, i2, i3, b, o, h1, h2, c0, c1, c2⟩ := h j x hj
  exact ⟨i1, i2, i3, b, o, h1, Nat.lt_of_lt_of_le h2 hb.size, (hb.cell (p := ⟨b, _, none⟩) h2).trans c0, (hb.cell (p := ⟨b, _, none⟩) h2).trans c1, (hb.cell (p := ⟨b, _, none⟩) h2).trans c2⟩
def fd (s : Dev) (raw : List (Int × Int × Int)) (k : Nat) : Dev := (raw.take k).foldl (fun d x => (stepV d x).2) s
theorem fd_succ {s : Dev} {raw : List (Int × Int × Int)} {k : Nat} {x : Int × Int × Int} (h : raw[k]? = some x) : (stepV (fd s raw k) x).2 = fd s raw (k + 1) := by
  unfold fd
  rw [List.take_add_one, h, List.foldl_append]
  rfl
theorem fd_ok {s : Dev} (h : Ok s) (raw : List (Int × Int × Int)) (k : Nat) : Ok (fd s raw k) := (fold_ok (raw.take k) h).1
theorem fd_zero (s : Dev) (raw : List (Int × Int × Int)) : fd s raw 0 = s := rfl
theorem fd_end {s : Dev} {raw : List (Int × Int × Int)} {k : Nat} (h : k = raw.length ∨ k = 50) (h2 : k ≤ 50) (h3 : k ≤ raw.length) : fd s raw k = fd s raw 50 := by
  unfold fd
  rcases h with rfl | rfl
  · rw [List.take_of_length_le (Nat.le_refl _), List.take_of_length_le h2]
  · rfl
set_option maxRecDepth 100000 in
set_option maxHeartbeats 2000000 in
theorem made_lit {w : World} {d' : Dev} {kind : Int} {P : Option Addr} {N C : Nat} {raw : List (Int × Int × Int)} (hk : inInt kind) (hn : raw.length = N) (hQ : TrisQ w P raw) (hN : N ≤ 9223372036854775807) (hr : madeV kind raw = d') :
    Calls Try.prog 11 #[.int .i64 kind, .slice P N C] w (OneLit d' w) := by
  have hb1 : Bel w (w.alloc (.cells #[.int .i64 0, .int .i64 0, .int .i64 0, .int .i64 0, .int .i64 0, .slice none 0 0, .int .i64 0, .bool false] 27)) := (Bel.refl w).alloc _ _
  have hx1 : (w.alloc (.cells #[.int .i64 0, .int .i64 0, .int .i64 0, .int .i64 0, .int .i64 0, .slice none 0 0, .int .i64 0, .bool false] 27)).heap[w.heap.size]? = some (.cells #[.int .i64 0, .int .i64 0, .int .i64 0, .int .i64 0, .int .i64 0, .slice none 0 0, .int .i64 0, .bool false] 27 (0, 0)) := heap_alloc_new w _
  obtain ⟨kn, hkn⟩ : ∃ kn : Nat, pick kind 3 = (kn : Int) := ⟨(pick kind 3).toNat, by have := pick_bd kind (n := 3) (by omega); omega⟩
  have hkl : kn < 3 := by have := pick_bd kind (n := 3) (by omega); omega
  obtain ⟨s0, hs0⟩ : ∃ s0, newD (1 + kn) = s0 := ⟨_, rfl⟩
  have hs : Ok s0 := by rw [← hs0]; exact ok_new (by omega)
  have hrr : fd s0 raw 50 = d' := by rw [← hr, ← hs0]; unfold madeV fd; rw [hkn, Int.toNat_natCast]
  have HR := Lib.hid hrr
  have HK := Lib.hid hk
  have HPK := Lib.hid hkn
  have HKL : Hid (1 ≤ 1 + kn ∧ 1 + kn ≤ 3) := Lib.hid (by omega)
  have HS0 := Lib.hid hs0
  have HOK := Lib.hid hs
  have HQ := Lib.hid hQ
  have HN := Lib.hid hn
  have hkw : (1 : Int) + (kn : Int) = ((1 + kn : Nat) : Int) := by omega
  have HKW := Lib.hid hkw
  clear hr hrr hk hkn hs0 hs hQ hn hkw
  go_enter Try.func11, Try.ntmps11
  go_upto_region 1 with (fail)
  generalize (w.alloc (.cells #[.int .i64 0, .int .i64 0, .int .i64 0, .int .i64 0, .int .i64 0, .slice none 0 0, .int .i64 0, .bool false] 27)) = W1 at hb1 hx1 ⊢
  obtain ⟨G, hG⟩ : ∃ G, w.heap.size = G := ⟨_, rfl⟩
  rw [hG] at hx1 ⊢
  have HB1 := Lib.hid hb1
  have HX1 := Lib.hid hx1
  have HG := Lib.hid hG
  clear hb1 hx1 hG
  go_wp2_with (first
    | (go_at_call 12; ((with_reducible refine (pick_lit HPK.out HK.out (by decide) _).mono ?_); rintro e w' ⟨rfl, rfl⟩)))
  rw [HKW.out]
  refine (new_lit _ HKL.out HS0.out).mono ?_
  rintro e W2 ⟨p0, n0, c0, rfl, hb2, hq2⟩
  have HB2 := Lib.hid hb2
  have HQ2 := Lib.hid hq2
  clear hb2 hq2
  go_upto_region 2 with (fail)
  have hnew : BoxAt (W2.alloc (.cells #[.int .i64 (s0.kind : Int), .int .i64 s0.r0, .int .i64 s0.r1, .int .i64 s0.r2, .int .i64 s0.r3, .slice p0 n0 c0, .int .i64 s0.sent, .bool s0.up] 27)) W2.heap.size 27 s0 (.slice p0 n0 c0) := heap_alloc_new W2 _
  have hb3 : Bel W2 (W2.alloc (.cells #[.int .i64 (s0.kind : Int), .int .i64 s0.r0, .int .i64 s0.r1, .int .i64 s0.r2, .int .i64 s0.r3, .slice p0 n0 c0, .int .i64 s0.sent, .bool s0.up] 27)) := (Bel.refl W2).alloc _ _
  have hq3 := HQ2.out.bel hb3
  have hx3 := (HB2.out.trans hb3).stays HX1.out
  have hbel3 : Bel w (W2.alloc (.cells #[.int .i64 (s0.kind : Int), .int .i64 s0.r0, .int .i64 s0.r1, .int .i64 s0.r2, .int .i64 s0.r3, .slice p0 n0 c0, .int .i64 s0.sent, .bool s0.up] 27)) := (HB1.out.trans HB2.out).trans hb3
  generalize (W2.alloc (.cells #[.int .i64 (s0.kind : Int), .int .i64 s0.r0, .int .i64 s0.r1, .int .i64 s0.r2, .int .i64 s0.r3, .slice p0 n0 c0, .int .i64 s0.sent, .bool s0.up] 27)) = W3 at hnew hb3 hq3 hx3 hbel3 ⊢
  have hge : w.heap.size ≤ W2.heap.size := (HB1.out.trans HB2.out).size
  have hne : G ≠ W2.heap.size := by have := lt_of_heap (HB2.out.stays HX1.out); omega
  generalize W2.heap.size = g2 at hnew hge hne ⊢
  have HGE := Lib.hid hge
  have HNE := Lib.hid hne
  have HNEW := Lib.hid hnew
  have HQ3 := Lib.hid hq3
  have HX3 := Lib.hid hx3
  have HBEL := Lib.hid hbel3
  clear hnew hb3 hq3 hx3 hbel3 hge hne
  go_wp2
  go_loopw [6] (fun i wr => ∃ (k : Nat) (p : Option Addr) (n c : Nat), k ≤ N ∧ k ≤ 50 ∧ i = .int .i64 k ∧ Hid (BoxAt wr g2 27 (fd s0 raw k) (.slice p n c)) ∧ Hid (QAt wr (.slice p n c) (fd s0 raw k).q) ∧ Hid (Bel w wr) ∧ Hid (wr.heap[G]? = some (.cells #[.int .i64 0, .int .i64 0, .int .i64 0, .int .i64 0, .int .i64 0, .slice none 0 0, .int .i64 0, .bool false] 27 (0, 0)))) (fun i _ => 50 - (intOf i).toNat)
  case atStart => exact ⟨0, p0, n0, c0, Nat.zero_le _, by omega, rfl, Lib.hid (by rw [fd_zero]; exact HNEW.out), Lib.hid (by rw [fd_zero]; exact HQ3.out), HBEL, HX3⟩
  case round =>
    obtain ⟨k, p, n, c, hk1, hk2, rfl, HX, HQQ, HBW, HXG⟩ := hrel
    by_cases hlt : k < N ∧ k < 50
    · obtain ⟨l1, l2⟩ := hlt
      have hlk : k < raw.length := by have := HN.out; omega
      obtain ⟨⟨a, b, x⟩, hx⟩ : ∃ x, raw[k]? = some x := ⟨_, List.getElem?_eq_getElem hlk⟩
      obtain ⟨ia, ib, ix, B, O, rfl, hB, m0, m1, m2⟩ := (HQ.out.bel HBW.out) k _ hx
      obtain ⟨r1, d1, hst⟩ : ∃ r1 d1, stepV (fd s0 raw k) (a, b, x) = (r1, d1) := ⟨_, _, rfl⟩
      have hd1 : d1 = fd s0 raw (k + 1) := by rw [← fd_succ hx, hst]
      have HST := Lib.hid hst
      have HD1 := Lib.hid hd1
      have HOK2 := Lib.hid (fd_ok HOK.out raw k)
      have HIA := Lib.hid ia
      have HIB := Lib.hid ib
      generalize hfd : fd s0 raw k = d0 at HX HQQ HST HOK2
      clear hx hst hd1 ia ib ix hlk hfd
      obtain ⟨k0, k1, k2, k3, k4, k5, k6, k7⟩ := HX.out.cells
      have f0 := HX.out.frozen 0
      have l3 : (k : Int) < N := by omega
      have l4 : (k : Int) < 50 := by omega
      go_upto_region 5 with (fail)
      have HXD : Hid (BoxAt wr.drew g2 27 d0 (.slice p n c)) := Lib.hid HX.out
      have HQD : Hid (QAt wr.drew (.slice p n c) d0.q) := Lib.hid (HQQ.out.bel (Bel.refl wr).drew)
      go_region_with ((go_at_call 20; ((refine (step_lit HQD.out HOK2.out HIA.out HIB.out HST.out).mono ?_); rintro e W4 ⟨p4, n4, c4, rfl, hb4, hq4⟩; have hx4 := hb4.stays HXD.out; have HX4 := Lib.hid hx4; obtain ⟨z0, z1, z2, z3, z4, z5, z6, z7⟩ := BoxAt.cells hx4; have y0 := BoxAt.frozen hx4 0; have y1 := BoxAt.frozen hx4 1; have y2 := BoxAt.frozen hx4 2; have y3 := BoxAt.frozen hx4 3; have y4 := BoxAt.frozen hx4 4; have y5 := BoxAt.frozen hx4 5; have y6 := BoxAt.frozen hx4 6; have y7 := BoxAt.frozen hx4 7; have HB4 := Lib.hid hb4; have HQ4 := Lib.hid hq4; clear hb4 hq4 hx4 k0 k1 k2 k3 k4 k5 k6 k7 m0 m1 m2)))
      all_goals
        have HS8 := Lib.hid (set8_svg W4 g2 (.int .i64 (d1.kind : Int)) (.int .i64 d1.r0) (.int .i64 d1.r1) (.int .i64 d1.r2) (.int .i64 d1.r3) (.slice p4 n4 c4) (.int .i64 d1.sent) (.bool d1.up))
        have HH := Lib.hid (set8_heap (show W4.heap[g2]? = some (.cells #[.int .i64 (d0.kind : Int), .int .i64 d0.r0, .int .i64 d0.r1, .int .i64 d0.r2, .int .i64 d0.r3, .slice p n c, .int .i64 d0.sent, .bool d0.up] 27 (0, 0)) from HX4.out) (.int .i64 (d1.kind : Int)) (.int .i64 d1.r0) (.int .i64 d1.r1) (.int .i64 d1.r2) (.int .i64 d1.r3) (.slice p4 n4 c4) (.int .i64 d1.sent) (.bool d1.up))
        go_wp2
        exact ⟨⟨k + 1, p4, n4, c4, by omega, by omega, by go_num, Lib.hid (by rw [← HD1.out]; exact HH.out), Lib.hid (by rw [← HD1.out]; exact HQ4.out.keep HS8.out HX4.out (by decide)), Lib.hid (HS8.out.bel (HBW.out.drew.trans HB4.out) HGE.out), Lib.hid ((HS8.out.block G (lt_of_heap (HB4.out.stays (show wr.drew.heap[G]? = _ from HXG.out))) HNE.out).trans (HB4.out.stays (show wr.drew.heap[G]? = _ from HXG.out)))⟩, by simp [intOf]; omega⟩
    · have hfin : fd s0 raw k = d' := by
        rw [← HR.out]
        exact fd_end (by have := HN.out; omega) hk2 (by have := HN.out; omega)
      have HY : Hid (BoxAt wr g2 27 d' (.slice p n c)) := Lib.hid (by rw [← hfin]; exact HX.out)
      have HQY : Hid (QAt wr (.slice p n c) d'.q) := Lib.hid (by rw [← hfin]; exact HQQ.out)
      clear hfin HX HQQ
      obtain ⟨k0, k1, k2', k3, k4, k5, k6, k7⟩ := HY.out.cells
      have z0 := cell_of_heap HXG.out 0
      have z1 := cell_of_heap HXG.out 1
      have z2 := cell_of_heap HXG.out 2
      have z3 := cell_of_heap HXG.out 3
      have z4 := cell_of_heap HXG.out 4
      have z5 := cell_of_heap HXG.out 5
      have z6 := cell_of_heap HXG.out 6
      have z7 := cell_of_heap HXG.out 7
      have y0 := frozen_of_heap HXG.out 0
      have y1 := frozen_of_heap HXG.out 1
      have y2 := frozen_of_heap HXG.out 2
      have y3 := frozen_of_heap HXG.out 3
      have y4 := frozen_of_heap HXG.out 4
      have y5 := frozen_of_heap HXG.out 5
      have y6 := frozen_of_heap HXG.out 6
      have y7 := frozen_of_heap HXG.out 7
      simp only [List.getElem?_toArray, List.getElem?_cons_zero, List.getElem?_cons_succ] at z0 z1 z2 z3 z4 z5 z6 z7
      have HS8 := Lib.hid (set8_svg wr G (.int .i64 (d'.kind : Int)) (.int .i64 d'.r0) (.int .i64 d'.r1) (.int .i64 d'.r2) (.int .i64 d'.r3) (.slice p n c) (.int .i64 d'.sent) (.bool d'.up))
      have HH := Lib.hid (set8_heap HXG.out (.int .i64 (d'.kind : Int)) (.int .i64 d'.r0) (.int .i64 d'.r1) (.int .i64 d'.r2) (.int .i64 d'.r3) (.slice p n c) (.int .i64 d'.sent) (.bool d'.up))
      have HGW : Hid (w.heap.size ≤ G) := Lib.hid (by have := HG.out; omega)
      by_cases l3 : k < N
      · have l5 : ¬ (k : Int) < 50 := by omega
        clear hlt hk1 hk2
        go_wp2
        exact bodyPost_ret (results_cell1 Try.results11 _ _ G _ _ _ _ rfl HH.out Try.underlying27 rfl (by kernel_rfl)) rfl ⟨p, n, c, rfl, HS8.out.bel HBW.out HGW.out, HQY.out.keep HS8.out HXG.out (by decide)⟩
      · clear hlt hk1 hk2
        go_wp2
        exact bodyPost_ret (results_cell1 Try.results11 _ _ G _ _ _ _ rfl HH.out Try.underlying27 rfl (by kernel_rfl)) rfl ⟨p, n, c, rfl, HS8.out.bel HBW.out HGW.out, HQY.out.keep HS8.out HXG.out (by decide)⟩
end Go.Proofs.Ytbhpnoodpicdkaa
