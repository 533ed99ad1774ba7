/- A model of a state: the state in a box of its own, its queue cloned. -/
import Derived.Test.YtbhpnoodpicdkaaGTg
namespace Go.Proofs.Ytbhpnoodpicdkaa
open Go.RowKit Dv
open Plain (w32_lo w32_hi w32_w32 w32_in)
set_option linter.unusedVariables false
set_option linter.unusedSimpArgs false
theorem erow_base {w : World} {B C : Nat} {v : Value} {q : List Int} (h : ERow encI 3 1 w B v q) (hC : C ≤ B) : ERow encI 3 1 w C v q := by
  refine ⟨h.1, ?_⟩
  rcases h.2 with hn | ⟨g, cap, cur, hv, hb, hr⟩
  · exact .inl hn
  · exact .inr ⟨g, cap, cur, hv, Nat.le_trans hC hb, hr⟩
theorem two_boxes (w : World) (d : Dev) (p : Option Addr) (n c : Nat) : Bel w ((w.alloc (.cells #[.int .i64 (d.kind : Int), .int .i64 d.r0, .int .i64 d.r1, .int .i64 d.r2, .int .i64 d.r3, .slice p n c, .int .i64 d.sent, .bool d.up] 27)).alloc (.cells #[.int .i64 (d.kind : Int), .int .i64 d.r0, .int .i64 d.r1, .int .i64 d.r2, .int .i64 d.r3, .slice p n c, .int .i64 d.sent, .bool d.up] 56)) ∧
    ((w.alloc (.cells #[.int .i64 (d.kind : Int), .int .i64 d.r0, .int .i64 d.r1, .int .i64 d.r2, .int .i64 d.r3, .slice p n c, .int .i64 d.sent, .bool d.up] 27)).alloc (.cells #[.int .i64 (d.kind : Int), .int .i64 d.r0, .int .i64 d.r1, .int .i64 d.r2, .int .i64 d.r3, .slice p n c, .int .i64 d.sent, .bool d.up] 56)).heap[w.heap.size]? = some (.cells #[.int .i64 (d.kind : Int), .int .i64 d.r0, .int .i64 d.r1, .int .i64 d.r2, .int .i64 d.r3, .slice p n c, .int .i64 d.sent, .bool d.up] 27 (0, 0)) ∧
    ((w.alloc (.cells #[.int .i64 (d.kind : Int), .int .i64 d.r0, .int .i64 d.r1, .int .i64 d.r2, .int .i64 d.r3, .slice p n c, .int .i64 d.sent, .bool d.up] 27)).alloc (.cells #[.int .i64 (d.kind : Int), .int .i64 d.r0, .int .i64 d.r1, .int .i64 d.r2, .int .i64 d.r3, .slice p n c, .int .i64 d.sent, .bool d.up] 56)).heap[w.heap.size + 1]? = some (.cells #[.int .i64 (d.kind : Int), .int .i64 d.r0, .int .i64 d.r1, .int .i64 d.r2, .int .i64 d.r3, .slice p n c, .int .i64 d.sent, .bool d.up] 56 (0, 0)) := by
  have h0 := heap_alloc_new w (.cells #[.int .i64 (d.kind : Int), .int .i64 d.r0, .int .i64 d.r1, .int .i64 d.r2, .int .i64 d.r3, .slice p n c, .int .i64 d.sent, .bool d.up] 27)
  have h1 := heap_alloc_new (w.alloc (.cells #[.int .i64 (d.kind : Int), .int .i64 d.r0, .int .i64 d.r1, .int .i64 d.r2, .int .i64 d.r3, .slice p n c, .int .i64 d.sent, .bool d.up] 27)) (.cells #[.int .i64 (d.kind : Int), .int .i64 d.r0, .int .i64 d.r1, .int .i64 d.r2, .int .i64 d.r3, .slice p n c, .int .i64 d.sent, .bool d.up] 56)
  rw [World.size_alloc] at h1
  exact ⟨((Bel.refl w).alloc _ _).alloc _ _, ((Bel.refl _).alloc _ _).stays h0, h1⟩
theorem qat_slice {w : World} {v : Value} {q : List Int} (h : QAt w v q) : ∃ p n c, v = .slice p n c := by
  rcases h with ⟨h, _⟩ | ⟨b, o, c, h, _⟩
  · exact ⟨_, _, _, h⟩
  · exact ⟨_, _, _, h⟩
/-- a device's model -/
def Model (pt t : TypeId) (d : Dev) (w : World) (e : Ending) (w' : World) : Prop := ∃ g, e = .returned (.iface pt (.pointer (some ⟨g, 0, none⟩))) ∧ Bel w w' ∧ w.heap.size ≤ g ∧ Fresh w.heap.size g t d w'
set_option maxRecDepth 100000 in
theorem model1 {w : World} {d : Dev} {v : Value} (hQ : QAt w v d.q) (hl : d.q.length ≤ 16) (hk : d.kind = 1) :
    Calls Try.prog 21 #[dval d v] w (Model 58 60 d w) := by
  obtain ⟨p, n, c, rfl⟩ := qat_slice hQ
  obtain ⟨hb1, hx1, hx2⟩ := two_boxes w d p n c
  have hq1 := hQ.bel hb1
  have HL := Lib.hid hl
  have HK := Lib.hid hk
  clear hQ hl hk
  show Calls Try.prog 21 #[.agg #[.int .i64 (d.kind : Int), .int .i64 d.r0, .int .i64 d.r1, .int .i64 d.r2, .int .i64 d.r3, .slice p n c, .int .i64 d.sent, .bool d.up]] w (Model 58 60 d w)
  go_enter Try.func21, Try.ntmps21
  go_upto_region 2 with (fail)
  generalize ((w.alloc (.cells #[.int .i64 (d.kind : Int), .int .i64 d.r0, .int .i64 d.r1, .int .i64 d.r2, .int .i64 d.r3, .slice p n c, .int .i64 d.sent, .bool d.up] 27)).alloc (.cells #[.int .i64 (d.kind : Int), .int .i64 d.r0, .int .i64 d.r1, .int .i64 d.r2, .int .i64 d.r3, .slice p n c, .int .i64 d.sent, .bool d.up] 56)) = W1 at hb1 hx1 hx2 hq1 ⊢
  have hs1 := lt_of_heap hx2
  have hy1 : BoxAt W1 w.heap.size 27 d (.slice p n c) := hx1
  have hy2 : BoxAt W1 (w.heap.size + 1) 56 d (.slice p n c) := hx2
  have HB1 := Lib.hid hb1
  have HQ1 := Lib.hid hq1
  obtain ⟨G, hG⟩ : ∃ G, w.heap.size = G := ⟨_, rfl⟩
  obtain ⟨G2, hG2⟩ : ∃ G2, w.heap.size + 1 = G2 := ⟨_, rfl⟩
  rw [hG2] at hy2 hs1 ⊢
  rw [hG] at hy1 ⊢
  have HG := Lib.hid hG
  have HG2 := Lib.hid hG2
  have HY2 := Lib.hid hy2
  obtain ⟨k0, k1, k2, k3, k4, k5, k6, k7⟩ := hy1.cells
  have HY1 := Lib.hid hy1
  clear hx1 hx2 hb1 hq1 hy2 hG hG2 hy1
  go_wp2_with fail
  refine (clone_any HQ1.out HL.out).mono ?_
  rintro e W2 ⟨p2, n2, c2, rfl, hE2, hb2⟩
  have hy3 := HY2.out.bel hb2
  have f5 := hy3.frozen 5
  obtain ⟨j0, j1, j2, j3, j4, j5, j6, j7⟩ := hy3.cells
  have hy4 := HY1.out.bel hb2
  have HE2 := Lib.hid hE2
  have HB2 := Lib.hid hb2
  have HY3 := Lib.hid hy3
  have HY4 := Lib.hid hy4
  clear k0 k1 k2 k3 k4 k5 k6 k7 hE2 hb2 hy3 hy4
  go_upto_region 3 with (fail)
  have hsv := Svg.set G2 5 W2 (.slice p2 n2 c2)
  have hz2 : BoxAt (W2.setCell ⟨G2, 5, none⟩ (.slice p2 n2 c2)) G2 56 d (.slice p2 n2 c2) := HY3.out.queue d.q _
  have hrow : ERow encI 3 1 (W2.setCell ⟨G2, 5, none⟩ (.slice p2 n2 c2)) w.heap.size (.slice p2 n2 c2) d.q :=
    erow_base (ERow.sv HE2.out hsv (fun k hk hkg => (erow_off HE2.out HY3.out (by decide)).2 (by rw [hk, hkg]))) HB1.out.size
  have hbel : Bel w (W2.setCell ⟨G2, 5, none⟩ (.slice p2 n2 c2)) := hsv.bel (HB1.out.trans HB2.out) (by have := HG2.out; omega)
  have hz1 : BoxAt (W2.setCell ⟨G2, 5, none⟩ (.slice p2 n2 c2)) G 27 d (.slice p n c) := (hsv.block G (lt_of_heap HY4.out) (by have := HG.out; have := HG2.out; omega)).trans HY4.out
  generalize W2.setCell ⟨G2, 5, none⟩ (.slice p2 n2 c2) = W3 at hz1 hz2 hrow hbel ⊢
  clear hsv j0 j1 j2 j3 j4 j5 j6 j7 f5
  obtain ⟨j0, j1, j2, j3, j4, j5, j6, j7⟩ := hz2.cells
  have i0 : W3.cell? ⟨G, 0, none⟩ = some (.int .i64 1) := by rw [hz1.cells.1, HK.out]; rfl
  have HROW := Lib.hid hrow
  have HBEL := Lib.hid hbel
  clear hz1 hz2 hrow hbel
  go_wp2
  go_ret
  have hnew := heap_alloc_new W3 (.cells (dcells d (.slice p2 n2 c2)) 60)
  have hb3 : Bel W3 (W3.alloc (.cells (dcells d (.slice p2 n2 c2)) 60)) := (Bel.refl W3).alloc _ _
  have hr3 := HROW.out.bel hb3
  exact ⟨W3.heap.size, rfl, HBEL.out.trans hb3, HBEL.out.size, p2, n2, c2, hnew, hr3, (erow_off hr3 hnew (by decide)).1, Nat.le_trans HBEL.out.size hb3.size⟩
set_option maxRecDepth 100000 in
theorem model2 {w : World} {d : Dev} {v : Value} (hQ : QAt w v d.q) (hl : d.q.length ≤ 16) (hk : d.kind = 2) :
    Calls Try.prog 21 #[dval d v] w (Model 61 62 d w) := by
  obtain ⟨p, n, c, rfl⟩ := qat_slice hQ
  obtain ⟨hb1, hx1, hx2⟩ := two_boxes w d p n c
  have hq1 := hQ.bel hb1
  have HL := Lib.hid hl
  have HK := Lib.hid hk
  clear hQ hl hk
  show Calls Try.prog 21 #[.agg #[.int .i64 (d.kind : Int), .int .i64 d.r0, .int .i64 d.r1, .int .i64 d.r2, .int .i64 d.r3, .slice p n c, .int .i64 d.sent, .bool d.up]] w (Model 61 62 d w)
  go_enter Try.func21, Try.ntmps21
  go_upto_region 2 with (fail)
  generalize ((w.alloc (.cells #[.int .i64 (d.kind : Int), .int .i64 d.r0, .int .i64 d.r1, .int .i64 d.r2, .int .i64 d.r3, .slice p n c, .int .i64 d.sent, .bool d.up] 27)).alloc (.cells #[.int .i64 (d.kind : Int), .int .i64 d.r0, .int .i64 d.r1, .int .i64 d.r2, .int .i64 d.r3, .slice p n c, .int .i64 d.sent, .bool d.up] 56)) = W1 at hb1 hx1 hx2 hq1 ⊢
  have hs1 := lt_of_heap hx2
  have hy1 : BoxAt W1 w.heap.size 27 d (.slice p n c) := hx1
  have hy2 : BoxAt W1 (w.heap.size + 1) 56 d (.slice p n c) := hx2
  have HB1 := Lib.hid hb1
  have HQ1 := Lib.hid hq1
  obtain ⟨G, hG⟩ : ∃ G, w.heap.size = G := ⟨_, rfl⟩
  obtain ⟨G2, hG2⟩ : ∃ G2, w.heap.size + 1 = G2 := ⟨_, rfl⟩
  rw [hG2] at hy2 hs1 ⊢
  rw [hG] at hy1 ⊢
  have HG := Lib.hid hG
  have HG2 := Lib.hid hG2
  have HY2 := Lib.hid hy2
  obtain ⟨k0, k1, k2, k3, k4, k5, k6, k7⟩ := hy1.cells
  have HY1 := Lib.hid hy1
  clear hx1 hx2 hb1 hq1 hy2 hG hG2 hy1
  go_wp2_with fail
  refine (clone_any HQ1.out HL.out).mono ?_
  rintro e W2 ⟨p2, n2, c2, rfl, hE2, hb2⟩
  have hy3 := HY2.out.bel hb2
  have f5 := hy3.frozen 5
  obtain ⟨j0, j1, j2, j3, j4, j5, j6, j7⟩ := hy3.cells
  have hy4 := HY1.out.bel hb2
  have HE2 := Lib.hid hE2
  have HB2 := Lib.hid hb2
  have HY3 := Lib.hid hy3
  have HY4 := Lib.hid hy4
  clear k0 k1 k2 k3 k4 k5 k6 k7 hE2 hb2 hy3 hy4
  go_upto_region 3 with (fail)
  have hsv := Svg.set G2 5 W2 (.slice p2 n2 c2)
  have hz2 : BoxAt (W2.setCell ⟨G2, 5, none⟩ (.slice p2 n2 c2)) G2 56 d (.slice p2 n2 c2) := HY3.out.queue d.q _
  have hrow : ERow encI 3 1 (W2.setCell ⟨G2, 5, none⟩ (.slice p2 n2 c2)) w.heap.size (.slice p2 n2 c2) d.q :=
    erow_base (ERow.sv HE2.out hsv (fun k hk hkg => (erow_off HE2.out HY3.out (by decide)).2 (by rw [hk, hkg]))) HB1.out.size
  have hbel : Bel w (W2.setCell ⟨G2, 5, none⟩ (.slice p2 n2 c2)) := hsv.bel (HB1.out.trans HB2.out) (by have := HG2.out; omega)
  have hz1 : BoxAt (W2.setCell ⟨G2, 5, none⟩ (.slice p2 n2 c2)) G 27 d (.slice p n c) := (hsv.block G (lt_of_heap HY4.out) (by have := HG.out; have := HG2.out; omega)).trans HY4.out
  generalize W2.setCell ⟨G2, 5, none⟩ (.slice p2 n2 c2) = W3 at hz1 hz2 hrow hbel ⊢
  clear hsv j0 j1 j2 j3 j4 j5 j6 j7 f5
  obtain ⟨j0, j1, j2, j3, j4, j5, j6, j7⟩ := hz2.cells
  have i0 : W3.cell? ⟨G, 0, none⟩ = some (.int .i64 2) := by rw [hz1.cells.1, HK.out]; rfl
  have HROW := Lib.hid hrow
  have HBEL := Lib.hid hbel
  clear hz1 hz2 hrow hbel
  go_wp2
  go_ret
  have hnew := heap_alloc_new W3 (.cells (dcells d (.slice p2 n2 c2)) 62)
  have hb3 : Bel W3 (W3.alloc (.cells (dcells d (.slice p2 n2 c2)) 62)) := (Bel.refl W3).alloc _ _
  have hr3 := HROW.out.bel hb3
  exact ⟨W3.heap.size, rfl, HBEL.out.trans hb3, HBEL.out.size, p2, n2, c2, hnew, hr3, (erow_off hr3 hnew (by decide)).1, Nat.le_trans HBEL.out.size hb3.size⟩
set_option maxRecDepth 100000 in
theorem model3 {w : World} {d : Dev} {v : Value} (hQ : QAt w v d.q) (hl : d.q.length ≤ 16) (hk : d.kind = 3) :
    Calls Try.prog 21 #[dval d v] w (Model 63 64 d w) := by
  obtain ⟨p, n, c, rfl⟩ := qat_slice hQ
  obtain ⟨hb1, hx1, hx2⟩ := two_boxes w d p n c
  have hq1 := hQ.bel hb1
  have HL := Lib.hid hl
  have HK := Lib.hid hk
  clear hQ hl hk
  show Calls Try.prog 21 #[.agg #[.int .i64 (d.kind : Int), .int .i64 d.r0, .int .i64 d.r1, .int .i64 d.r2, .int .i64 d.r3, .slice p n c, .int .i64 d.sent, .bool d.up]] w (Model 63 64 d w)
  go_enter Try.func21, Try.ntmps21
  go_upto_region 2 with (fail)
  generalize ((w.alloc (.cells #[.int .i64 (d.kind : Int), .int .i64 d.r0, .int .i64 d.r1, .int .i64 d.r2, .int .i64 d.r3, .slice p n c, .int .i64 d.sent, .bool d.up] 27)).alloc (.cells #[.int .i64 (d.kind : Int), .int .i64 d.r0, .int .i64 d.r1, .int .i64 d.r2, .int .i64 d.r3, .slice p n c, .int .i64 d.sent, .bool d.up] 56)) = W1 at hb1 hx1 hx2 hq1 ⊢
  have hs1 := lt_of_heap hx2
  have hy1 : BoxAt W1 w.heap.size 27 d (.slice p n c) := hx1
  have hy2 : BoxAt W1 (w.heap.size + 1) 56 d (.slice p n c) := hx2
  have HB1 := Lib.hid hb1
  have HQ1 := Lib.hid hq1
  obtain ⟨G, hG⟩ : ∃ G, w.heap.size = G := ⟨_, rfl⟩
  obtain ⟨G2, hG2⟩ : ∃ G2, w.heap.size + 1 = G2 := ⟨_, rfl⟩
  rw [hG2] at hy2 hs1 ⊢
  rw [hG] at hy1 ⊢
  have HG := Lib.hid hG
  have HG2 := Lib.hid hG2
  have HY2 := Lib.hid hy2
  obtain ⟨k0, k1, k2, k3, k4, k5, k6, k7⟩ := hy1.cells
  have HY1 := Lib.hid hy1
  clear hx1 hx2 hb1 hq1 hy2 hG hG2 hy1
  go_wp2_with fail
  refine (clone_any HQ1.out HL.out).mono ?_
  rintro e W2 ⟨p2, n2, c2, rfl, hE2, hb2⟩
  have hy3 := HY2.out.bel hb2
  have f5 := hy3.frozen 5
  obtain ⟨j0, j1, j2, j3, j4, j5, j6, j7⟩ := hy3.cells
  have hy4 := HY1.out.bel hb2
  have HE2 := Lib.hid hE2
  have HB2 := Lib.hid hb2
  have HY3 := Lib.hid hy3
  have HY4 := Lib.hid hy4
  clear k0 k1 k2 k3 k4 k5 k6 k7 hE2 hb2 hy3 hy4
  go_upto_region 3 with (fail)
  have hsv := Svg.set G2 5 W2 (.slice p2 n2 c2)
  have hz2 : BoxAt (W2.setCell ⟨G2, 5, none⟩ (.slice p2 n2 c2)) G2 56 d (.slice p2 n2 c2) := HY3.out.queue d.q _
  have hrow : ERow encI 3 1 (W2.setCell ⟨G2, 5, none⟩ (.slice p2 n2 c2)) w.heap.size (.slice p2 n2 c2) d.q :=
    erow_base (ERow.sv HE2.out hsv (fun k hk hkg => (erow_off HE2.out HY3.out (by decide)).2 (by rw [hk, hkg]))) HB1.out.size
  have hbel : Bel w (W2.setCell ⟨G2, 5, none⟩ (.slice p2 n2 c2)) := hsv.bel (HB1.out.trans HB2.out) (by have := HG2.out; omega)
  have hz1 : BoxAt (W2.setCell ⟨G2, 5, none⟩ (.slice p2 n2 c2)) G 27 d (.slice p n c) := (hsv.block G (lt_of_heap HY4.out) (by have := HG.out; have := HG2.out; omega)).trans HY4.out
  generalize W2.setCell ⟨G2, 5, none⟩ (.slice p2 n2 c2) = W3 at hz1 hz2 hrow hbel ⊢
  clear hsv j0 j1 j2 j3 j4 j5 j6 j7 f5
  obtain ⟨j0, j1, j2, j3, j4, j5, j6, j7⟩ := hz2.cells
  have i0 : W3.cell? ⟨G, 0, none⟩ = some (.int .i64 3) := by rw [hz1.cells.1, HK.out]; rfl
  have HROW := Lib.hid hrow
  have HBEL := Lib.hid hbel
  clear hz1 hz2 hrow hbel
  go_wp2
  go_ret
  have hnew := heap_alloc_new W3 (.cells (dcells d (.slice p2 n2 c2)) 64)
  have hb3 : Bel W3 (W3.alloc (.cells (dcells d (.slice p2 n2 c2)) 64)) := (Bel.refl W3).alloc _ _
  have hr3 := HROW.out.bel hb3
  exact ⟨W3.heap.size, rfl, HBEL.out.trans hb3, HBEL.out.size, p2, n2, c2, hnew, hr3, (erow_off hr3 hnew (by decide)).1, Nat.le_trans HBEL.out.size hb3.size⟩
end Go.Proofs.Ytbhpnoodpicdkaa
