/- keeps: must an event be ahead of another one? -/
import Derived.Test.YtigefdoejcggpaaNFn3
import Derived.Deep.DeepCutAuto
namespace Go.Proofs.Ytigefdoejcggpaa
open Go.RowKit Ax
set_option linter.unusedVariables false
set_option linter.unusedSimpArgs false
theorem EncAt.sub {α : Type} {enc : α → List Value} {k : Nat} {w : World} {b o : Nat} {l : List α} (h : EncAt enc k w (some ⟨b, o, none⟩) l) (i m : Nat) : EncAt enc k w (some ⟨b, o + i * k, none⟩) ((l.take m).drop i) := fun j x hj => by
  rw [List.getElem?_drop, List.getElem?_take] at hj
  split at hj
  · obtain ⟨b', o', e, h1, h2⟩ := h (i + j) x hj
    injection e with e
    injection e with e1 e2
    subst e1
    subst e2
    refine ⟨b, o + i * k, rfl, h1, fun q v hq => ?_⟩
    have := h2 q v hq
    rwa [Nat.add_mul, ← Nat.add_assoc] at this
  · cases hj
theorem LAt.bel {w w' : World} {p : Option Addr} {l : List Ev} (h : LAt w p l) (hb : Bel w w') : LAt w' p l := EncAt.bel h hb
theorem IAt.bel {w w' : World} {p : Option Addr} {l : List Int} (h : IAt w p l) (hb : Bel w w') : IAt w' p l := EncAt.bel h hb
set_option maxRecDepth 100000 in
theorem keeps1_lit {w : World} {p : Option Addr} {l : List Ev} {n c : Nat} {g1 g2 i : Nat} {h : Int} (hx1 : w.heap[g1]? = some (.cells #[.slice p n c] 22 (0, 0))) (hx2 : w.heap[g2]? = some (.cells #[.int .i64 (i : Int)] 3 (0, 0))) (hl : LAt w p l) (hn : l.length = n) (hi : i < n) (hh : (ev l i).1 = h) {x0 x1 x2 x3 : Int} {r : Bool} (hr : isFen h (x0, x1, x2, x3) = r) :
    Calls Try.prog 46 #[.agg #[.int .i64 x0, .int .i64 x1, .int .i64 x2, .int .i64 x3], .pointer (some ⟨g1, 0, none⟩), .pointer (some ⟨g2, 0, none⟩)] w (OneB r w) := by
  have hb := (box1 w #[.int .i64 x0, .int .i64 x1, .int .i64 x2, .int .i64 x3] 26).1
  obtain ⟨b, o, rfl, hlt, hc⟩ := hl.get (i0 := i) (by omega)
  obtain ⟨c0, -, -, -⟩ := hc i (by omega)
  rw [hh] at c0
  have c0 := (hb.cell (p := ⟨b, _, none⟩) hlt).trans c0
  have k1 := cell_of_heap (hb.stays hx1) 0
  have k2 := cell_of_heap (hb.stays hx2) 0
  simp only [List.getElem?_toArray, List.getElem?_cons_zero] at k1 k2
  have HB := Lib.hid hb
  have hi2 : (i : Int) < n := by omega
  unfold isFen at hr
  simp only at hr
  by_cases h3 : x1 = 3
  · have e3 : (x1 == 3) = true := by simp [h3]
    have e2 : (x0 == h) = r := by rw [← hr]; by_cases h : x0 = h <;> simp [h, h3]
    clear hr h3 hb hx1 hx2 hl hn hi hh hc hlt
    go_enter Try.func46, Try.ntmps46
    go_wp2
    go_quiet (fail)
    go_wp2
    go_ret
    exact ⟨rfl, HB.out.drewN _⟩
  · obtain rfl : r = false := by rw [← hr]; simp [h3]
    have e3 : (x1 == 3) = false := by simp [h3]
    clear hr h3 hb hx1 hx2 hl hn hi hh hc hlt
    go_enter Try.func46, Try.ntmps46
    go_wp2
    go_quiet (fail)
    go_wp2
    go_ret
    exact ⟨rfl, HB.out.drewN _⟩
set_option maxRecDepth 100000 in
theorem keeps1_index {w : World} {p : Option Addr} {l : List Ev} {n c : Nat} (hl : LAt w p l) (hn : l.length = n) (hmax : n ≤ 5000) {P : Option Addr} {L : List Ev} {N C g1 g2 i : Nat} {h : Int} (hx1 : w.heap[g1]? = some (.cells #[.slice P N C] 22 (0, 0))) (hx2 : w.heap[g2]? = some (.cells #[.int .i64 (i : Int)] 3 (0, 0))) (hL : LAt w P L) (hN : L.length = N) (hi : i < N) (hh : (ev L i).1 = h) :
    Calls Try.prog 48 #[.slice p n c, .func (.func 46) #[] #[.pointer (some ⟨g1, 0, none⟩), .pointer (some ⟨g2, 0, none⟩)]] w fun e w' => ∃ r : Int, e = .returned (.int .i64 r) ∧ decide (0 ≤ r) = l.any (fun x => isFen h x) ∧ Bel w w' := by
  have HL := Lib.hid hl
  have HN := Lib.hid hn
  have HX1 := Lib.hid hx1; have HX2 := Lib.hid hx2; have HLL := Lib.hid hL; have HNN := Lib.hid hN; have HI := Lib.hid hi; have HHH := Lib.hid hh; clear hx1 hx2 hL hN hi hh
  clear hl hn
  go_enter Try.func48, Try.ntmps48
  go_wp2
  go_loopw [8] (fun i wr => ∃ j : Nat, j ≤ n ∧ i = .int .i64 j ∧ Hid (Bel w wr) ∧ Hid (∀ x ∈ l.take j, (isFen h x) = false)) (fun i _ => n - (intOf i).toNat)
  case atStart => exact ⟨0, Nat.zero_le _, rfl, Lib.hid (Bel.refl _), Lib.hid (fun x hx => by simp at hx)⟩
  case round =>
    obtain ⟨j, hj, rfl, HB, HNO⟩ := hrel
    by_cases hlt : j < n
    · obtain ⟨b, o, rfl, hb, hc⟩ := LAt.get (EncAt.bel HL.out HB.out) (i0 := j) (by have := HN.out; omega)
      obtain ⟨c0, c1, c2, c3⟩ := hc j (by have := HN.out; omega)
      have HXJ : Hid (l[j]? = some ((ev l j).1, (ev l j).2.1, (ev l j).2.2.1, (ev l j).2.2.2)) := Lib.hid (get_ev (by have := HN.out; omega))
      generalize (ev l j).1 = x0 at c0 HXJ
      generalize (ev l j).2.1 = x1 at c1 HXJ
      generalize (ev l j).2.2.1 = x2 at c2 HXJ
      generalize (ev l j).2.2.2 = x3 at c3 HXJ
      have hlt2 : (j : Int) < n := by omega
      have HTK : Hid (l.take (j + 1) = l.take j ++ [(x0, x1, x2, x3)]) := Lib.hid (by rw [List.take_add_one, HXJ.out]; rfl)
      obtain ⟨s, hs⟩ : ∃ s, (isFen h (x0, x1, x2, x3)) = s := ⟨_, rfl⟩
      have HS := Lib.hid hs
      clear hc hb hs
      cases s
      · go_wp2_with (go_at_call 46; ((with_reducible refine (keeps1_lit (HB.out.stays HX1.out) (HB.out.stays HX2.out) (LAt.bel HLL.out HB.out) HNN.out HI.out HHH.out HS.out).mono ?_); rintro e w2 ⟨rfl, hbz⟩; have HBZ := Lib.hid hbz; clear hbz))
        exact ⟨⟨j + 1, by omega, by go_num, Lib.hid (HB.out.trans HBZ.out), Lib.hid (fun x hx => by
          rw [HTK.out] at hx
          rcases List.mem_append.1 hx with h | h
          · exact HNO.out x h
          · rw [List.mem_singleton.1 h]; exact HS.out)⟩, by simp [intOf]; omega⟩
      · go_wp2_with (go_at_call 46; ((with_reducible refine (keeps1_lit (HB.out.stays HX1.out) (HB.out.stays HX2.out) (LAt.bel HLL.out HB.out) HNN.out HI.out HHH.out HS.out).mono ?_); rintro e w2 ⟨rfl, hbz⟩; have HBZ := Lib.hid hbz; clear hbz))
        go_ret
        refine ⟨_, rfl, ?_, HB.out.trans HBZ.out⟩
        rw [decide_eq_true (by omega : (0 : Int) ≤ (j : Int))]
        symm
        exact List.any_eq_true.2 ⟨(x0, x1, x2, x3), List.mem_of_getElem? HXJ.out, HS.out⟩
    · obtain rfl : j = n := by omega
      go_wp2
      go_ret
      refine ⟨-1, rfl, ?_, HB.out⟩
      rw [decide_eq_false (by omega : ¬ (0 : Int) ≤ -1)]
      symm
      refine List.any_eq_false.2 fun x hx => ?_
      rw [HNO.out x (by rw [List.take_of_length_le (by have := HN.out; omega)]; exact hx)]
      exact Bool.false_ne_true
set_option maxRecDepth 100000 in
theorem keeps1_contains {w : World} {p : Option Addr} {l : List Ev} {n c : Nat} (hl : LAt w p l) (hn : l.length = n) (hmax : n ≤ 5000) {P : Option Addr} {L : List Ev} {N C g1 g2 i : Nat} {h : Int} (hx1 : w.heap[g1]? = some (.cells #[.slice P N C] 22 (0, 0))) (hx2 : w.heap[g2]? = some (.cells #[.int .i64 (i : Int)] 3 (0, 0))) (hL : LAt w P L) (hN : L.length = N) (hi : i < N) (hh : (ev L i).1 = h) {r : Bool} (hr : l.any (fun x => isFen h x) = r) :
    Calls Try.prog 38 #[.slice p n c, .func (.func 46) #[] #[.pointer (some ⟨g1, 0, none⟩), .pointer (some ⟨g2, 0, none⟩)]] w (OneB r w) := by
  have HC := Lib.hid (keeps1_index (c := c) hl hn hmax hx1 hx2 hL hN hi hh)
  have HR := Lib.hid hr
  clear hl hn hmax hr hx1 hx2 hL hN hi hh
  go_enter Try.func38, Try.ntmps38
  go_wp2_with (go_at_call 48; ((with_reducible refine HC.out.mono ?_); rintro e w2 ⟨q, rfl, hq, hbz⟩; have HQ := Lib.hid hq; have HBZ := Lib.hid hbz; clear hq hbz))
  go_ret
  exact ⟨rb (by have := HQ.out; rw [HR.out] at this; exact this), HBZ.out⟩
theorem box2 (w : World) (c : Array Value) (t : TypeId) (c' : Array Value) (t' : TypeId) : Bel w ((w.alloc (.cells c t)).alloc (.cells c' t')) ∧ ((w.alloc (.cells c t)).alloc (.cells c' t')).heap[w.heap.size]? = some (.cells c t (0, 0)) ∧ ((w.alloc (.cells c t)).alloc (.cells c' t')).heap[w.heap.size + 1]? = some (.cells c' t' (0, 0)) := by
  refine ⟨((Bel.refl w).alloc _ _).alloc _ _, ((Bel.refl _).alloc _ _).stays (heap_alloc_new w (.cells c t)), ?_⟩
  have h1 := heap_alloc_new (w.alloc (.cells c t)) (.cells c' t')
  rw [World.size_alloc] at h1
  exact h1
set_option maxRecDepth 100000 in
set_option maxHeartbeats 1000000 in
theorem keeps_lit {w : World} {p : Option Addr} {l : List Ev} {n c : Nat} (hl : LAt w p l) (hn : l.length = n) (hnc : n ≤ c) (hmax : n ≤ 5000) {i k : Nat} (hi : i < n) (hk : k < n) {r : Bool} (hr : kp l i k = r) : Calls Try.prog 32 #[.slice p n c, .int .i64 (i : Int), .int .i64 (k : Int)] w (OneB r w) := by
  obtain ⟨hb, hx1, hx2⟩ := box2 w #[.slice p n c] 22 #[.int .i64 (i : Int)] 3
  have HL1 := Lib.hid (LAt.bel hl hb)
  obtain ⟨b, o, rfl, hlt, hc⟩ := LAt.get HL1.out (i0 := i) (by omega)
  obtain ⟨-, d1, d2, -⟩ := hc i (by omega)
  obtain ⟨c0, c1, c2, c3⟩ := hc k (by omega)
  have HN := Lib.hid hn
  have HI := Lib.hid hi
  have HK := Lib.hid hk
  have HNC := Lib.hid hnc
  have HMX := Lib.hid hmax
  unfold kp at hr
  obtain ⟨u, hu⟩ : ∃ u, ahd l i k = u := ⟨_, rfl⟩
  obtain ⟨v, hv⟩ : ∃ v, isSt (ev l k) (ev l i).2.2.1 = v := ⟨_, rfl⟩
  obtain ⟨f, hf⟩ : ∃ f, fen l i k = f := ⟨_, rfl⟩
  rw [hu, hv, hf] at hr
  have HU := Lib.hid hu
  have HV : Hid (isSt ((ev l k).1, (ev l k).2.1, (ev l k).2.2.1, (ev l k).2.2.2) (ev l i).2.2.1 = v) := Lib.hid hv
  have HF := Lib.hid hf
  clear hu hv hf
  generalize (ev l i).2.1 = y1 at d1 hr
  generalize (ev l i).2.2.1 = y2 at d2 HV
  generalize (ev l k).1 = x0 at c0 HV
  generalize (ev l k).2.1 = x1 at c1 HV
  generalize (ev l k).2.2.1 = x2 at c2 HV
  generalize (ev l k).2.2.2 = x3 at c3 HV
  generalize hWW : ((w.alloc (.cells #[.slice (some ⟨b, o, none⟩) n c] 22)).alloc (.cells #[.int .i64 (i : Int)] 3)) = W1 at *
  have HD1 := Lib.hid d1
  have HD2 := Lib.hid d2
  have HC0 := Lib.hid c0
  have HC1 := Lib.hid c1
  have HC2 := Lib.hid c2
  have HC3 := Lib.hid c3
  have HX1 := Lib.hid hx1
  have HX2 := Lib.hid hx2
  have HLT := Lib.hid hlt
  have HB1 := Lib.hid hb
  have HWW := Lib.hid hWW
  clear d1 d2 c0 c1 c2 c3 hx1 hx2 hb hlt hc hl hWW hn hnc
  go_enter Try.func32, Try.ntmps32
  go_upto_region 1 with (fail)
  rw [HWW.out]
  generalize w.heap.size + 1 = g2 at HX2 ⊢
  generalize w.heap.size = g1 at HX1 ⊢
  have k1 := cell_of_heap HX1.out 0
  have k2 := cell_of_heap HX2.out 0
  simp only [List.getElem?_toArray, List.getElem?_cons_zero] at k1 k2
  go_wp2_with fail
  refine (ahd_lit HL1.out HN.out HI.out HK.out HU.out).mono ?_
  rintro e W2 ⟨rfl, hb⟩
  clear k1 k2
  have HX1 := Lib.hid (Bel.stays hb HX1.out)
  have HX2 := Lib.hid (Bel.stays hb HX2.out)
  have HL1 := Lib.hid (LAt.bel HL1.out hb)
  have HD1 := Lib.hid ((hb.cell (p := ⟨b, _, none⟩) HLT.out).trans HD1.out)
  have HD2 := Lib.hid ((hb.cell (p := ⟨b, _, none⟩) HLT.out).trans HD2.out)
  have HC0 := Lib.hid ((hb.cell (p := ⟨b, _, none⟩) HLT.out).trans HC0.out)
  have HC1 := Lib.hid ((hb.cell (p := ⟨b, _, none⟩) HLT.out).trans HC1.out)
  have HC2 := Lib.hid ((hb.cell (p := ⟨b, _, none⟩) HLT.out).trans HC2.out)
  have HC3 := Lib.hid ((hb.cell (p := ⟨b, _, none⟩) HLT.out).trans HC3.out)
  have HLT := Lib.hid (Nat.lt_of_lt_of_le HLT.out hb.size)
  have HB1 := Lib.hid (HB1.out.trans hb)
  clear hb
  cases u
  · obtain rfl : r = false := by rw [← hr]; rfl
    go_wp2
    go_ret
    exact ⟨rfl, HB1.out⟩
  rw [Bool.true_and] at hr
  have HIK : Hid (i < k) := Lib.hid (by have := ahd_lt HU.out; omega)
  have hi2 : (i : Int) < n := by have := HI.out; omega
  have hk2 : (k : Int) < n := by have := HK.out; omega
  have hikZ : (i : Int) ≤ k := by have := HIK.out; omega
  have hkc : (k : Int) ≤ c := by have := HK.out; have := HNC.out; omega
  have HKEEP : Hid (∀ w', Bel W2 w' → w'.cell? ⟨g1, 0, none⟩ = some (.slice (some ⟨b, o, none⟩) n c) ∧ w'.cell? ⟨g2, 0, none⟩ = some (.int .i64 (i : Int)) ∧ w'.cell? ⟨b, o + i * 4 + 1, none⟩ = some (.int .i64 y1) ∧ w'.cell? ⟨b, o + i * 4 + 2, none⟩ = some (.int .i64 y2) ∧ w'.cell? ⟨b, o + k * 4, none⟩ = some (.int .i64 x0) ∧ w'.cell? ⟨b, o + k * 4 + 1, none⟩ = some (.int .i64 x1) ∧ w'.cell? ⟨b, o + k * 4 + 2, none⟩ = some (.int .i64 x2) ∧ w'.cell? ⟨b, o + k * 4 + 3, none⟩ = some (.int .i64 x3)) := Lib.hid (fun w' h => ⟨cell_of_heap (h.stays HX1.out) 0, cell_of_heap (h.stays HX2.out) 0, (h.cell (p := ⟨b, _, none⟩) HLT.out).trans HD1.out, (h.cell (p := ⟨b, _, none⟩) HLT.out).trans HD2.out, (h.cell (p := ⟨b, _, none⟩) HLT.out).trans HC0.out, (h.cell (p := ⟨b, _, none⟩) HLT.out).trans HC1.out, (h.cell (p := ⟨b, _, none⟩) HLT.out).trans HC2.out, (h.cell (p := ⟨b, _, none⟩) HLT.out).trans HC3.out⟩)
  have HBC : Hid (Bel W2 W2.drew) := Lib.hid (Bel.refl W2).drew
  by_cases hy : y1 = 1
  · obtain rfl : r = true := by rw [← hr]; simp [hy]
    have ey : (y1 == 1) = true := by simp [hy]
    clear hr hy
    go_upto_region 4 with (fail)
    refine wp_region_held_drew (S := (fun w' => w'.cell? ⟨g1, 0, none⟩ = some (.slice (some ⟨b, o, none⟩) n c) ∧ w'.cell? ⟨g2, 0, none⟩ = some (.int .i64 (i : Int)) ∧ w'.cell? ⟨b, o + i * 4 + 1, none⟩ = some (.int .i64 y1) ∧ w'.cell? ⟨b, o + i * 4 + 2, none⟩ = some (.int .i64 y2) ∧ w'.cell? ⟨b, o + k * 4, none⟩ = some (.int .i64 x0) ∧ w'.cell? ⟨b, o + k * 4 + 1, none⟩ = some (.int .i64 x1) ∧ w'.cell? ⟨b, o + k * 4 + 2, none⟩ = some (.int .i64 x2) ∧ w'.cell? ⟨b, o + k * 4 + 3, none⟩ = some (.int .i64 x3))) (by kernel_rfl) (HKEEP.out _ ((Bel.refl W2).drew)) (fun hS0 => ?_)
    refine takeD 14 (i := 0) (v := ?v1) rfl rfl (by kernel_rfl) (by kernel_rfl) (by kernel_rfl) (fun _ _ _ h => h) (by kernel_rfl) ?hy1 hS0 ?rest1
    case hy1 => (intro w0 hSw; obtain ⟨s0, s1, s2, s3, s4, s5, s6, s7⟩ := hSw; first | (go_simp; done) | (go_simp; with_reducible rfl))
    simp only [List.setIfInBounds_toArray, List.set_cons_zero, List.set_cons_succ]
    refine takeD 15 (i := 1) (v := ?v2) rfl rfl (by kernel_rfl) (by kernel_rfl) (by kernel_rfl) (fun _ _ _ h => h) (by kernel_rfl) ?hy2 hS0 ?rest2
    case hy2 => (intro w0 hSw; obtain ⟨s0, s1, s2, s3, s4, s5, s6, s7⟩ := hSw; first | (go_simp; done) | (go_simp; with_reducible rfl))
    simp only [List.setIfInBounds_toArray, List.set_cons_zero, List.set_cons_succ]
    refine takeD 16 (i := 2) (v := ?v3) rfl rfl (by kernel_rfl) (by kernel_rfl) (by kernel_rfl) (fun _ _ _ h => h) (by kernel_rfl) ?hy3 hS0 ?rest3
    case hy3 => (intro w0 hSw; obtain ⟨s0, s1, s2, s3, s4, s5, s6, s7⟩ := hSw; first | (go_simp; done) | (go_simp; with_reducible rfl))
    simp only [List.setIfInBounds_toArray, List.set_cons_zero, List.set_cons_succ]
    refine takeD 17 (i := 3) (v := ?v4) rfl rfl (by kernel_rfl) (by kernel_rfl) (by kernel_rfl) (fun _ _ _ h => h) (by kernel_rfl) ?hy4 hS0 ?rest4
    case hy4 => (intro w0 hSw; obtain ⟨s0, s1, s2, s3, s4, s5, s6, s7⟩ := hSw; first | (go_simp; done) | (go_simp; with_reducible rfl))
    simp only [List.setIfInBounds_toArray, List.set_cons_zero, List.set_cons_succ]
    refine takeD 18 (i := 4) (v := ?v5) rfl rfl (by kernel_rfl) (by kernel_rfl) (by kernel_rfl) (fun _ _ _ h => h) (by kernel_rfl) ?hy5 hS0 ?rest5
    case hy5 => (intro w0 hSw; obtain ⟨s0, s1, s2, s3, s4, s5, s6, s7⟩ := hSw; first | (go_simp; done) | (go_simp; with_reducible rfl))
    simp only [List.setIfInBounds_toArray, List.set_cons_zero, List.set_cons_succ]
    refine takeD 19 (i := 5) (v := ?v6) rfl rfl (by kernel_rfl) (by kernel_rfl) (by kernel_rfl) (fun _ _ _ h => h) (by kernel_rfl) ?hy6 hS0 ?rest6
    case hy6 => (intro w0 hSw; obtain ⟨s0, s1, s2, s3, s4, s5, s6, s7⟩ := hSw; first | (go_simp; done) | (go_simp; with_reducible rfl))
    simp only [List.setIfInBounds_toArray, List.set_cons_zero, List.set_cons_succ]
    refine takeD 20 (i := 6) (v := ?v7) rfl rfl (by kernel_rfl) (by kernel_rfl) (by kernel_rfl) (fun _ _ _ h => h) (by kernel_rfl) ?hy7 hS0 ?rest7
    case hy7 => (intro w0 hSw; obtain ⟨s0, s1, s2, s3, s4, s5, s6, s7⟩ := hSw; first | (go_simp; done) | (go_simp; with_reducible rfl))
    simp only [List.setIfInBounds_toArray, List.set_cons_zero, List.set_cons_succ]
    refine skipD 21 (i := 7) rfl rfl (by kernel_rfl) (by kernel_rfl) (by kernel_rfl) (fun _ _ _ h => h) (by kernel_rfl) hS0 ?_
    simp only [List.setIfInBounds_toArray, List.set_cons_zero, List.set_cons_succ]
    refine skipD 22 (i := 8) rfl rfl (by kernel_rfl) (by kernel_rfl) (by kernel_rfl) (fun _ _ _ h => h) (by kernel_rfl) hS0 ?_
    simp only [List.setIfInBounds_toArray, List.set_cons_zero, List.set_cons_succ]
    refine skipD 23 (i := 9) rfl rfl (by kernel_rfl) (by kernel_rfl) (by kernel_rfl) (fun _ _ _ h => h) (by kernel_rfl) hS0 ?_
    simp only [List.setIfInBounds_toArray, List.set_cons_zero, List.set_cons_succ]
    refine skipD 24 (i := 10) rfl rfl (by kernel_rfl) (by kernel_rfl) (by kernel_rfl) (fun _ _ _ h => h) (by kernel_rfl) hS0 ?_
    simp only [List.setIfInBounds_toArray, List.set_cons_zero, List.set_cons_succ]
    refine skipD 25 (i := 11) rfl rfl (by kernel_rfl) (by kernel_rfl) (by kernel_rfl) (fun _ _ _ h => h) (by kernel_rfl) hS0 ?_
    simp only [List.setIfInBounds_toArray, List.set_cons_zero, List.set_cons_succ]
    refine skipD 26 (i := 12) rfl rfl (by kernel_rfl) (by kernel_rfl) (by kernel_rfl) (fun _ _ _ h => h) (by kernel_rfl) hS0 ?_
    simp only [List.setIfInBounds_toArray, List.set_cons_zero, List.set_cons_succ]
    refine skipD 27 (i := 13) rfl rfl (by kernel_rfl) (by kernel_rfl) (by kernel_rfl) (fun _ _ _ h => h) (by kernel_rfl) hS0 ?_
    simp only [List.setIfInBounds_toArray, List.set_cons_zero, List.set_cons_succ]
    refine skipD 28 (i := 14) rfl rfl (by kernel_rfl) (by kernel_rfl) (by kernel_rfl) (fun _ _ _ h => h) (by kernel_rfl) hS0 ?_
    simp only [List.setIfInBounds_toArray, List.set_cons_zero, List.set_cons_succ]
    refine skipD 29 (i := 15) rfl rfl (by kernel_rfl) (by kernel_rfl) (by kernel_rfl) (fun _ _ _ h => h) (by kernel_rfl) hS0 ?_
    simp only [List.setIfInBounds_toArray, List.set_cons_zero, List.set_cons_succ]
    refine skipD 30 (i := 16) rfl rfl (by kernel_rfl) (by kernel_rfl) (by kernel_rfl) (fun _ _ _ h => h) (by kernel_rfl) hS0 ?_
    simp only [List.setIfInBounds_toArray, List.set_cons_zero, List.set_cons_succ]
    refine takeD 31 (i := 17) (v := ?v8) rfl rfl (by kernel_rfl) (by kernel_rfl) (by kernel_rfl) (fun _ _ _ h => h) (by kernel_rfl) ?hy8 hS0 ?rest8
    case hy8 => (intro w0 hSw; obtain ⟨s0, s1, s2, s3, s4, s5, s6, s7⟩ := hSw; first | (go_simp; done) | (go_simp; with_reducible rfl))
    simp only [List.setIfInBounds_toArray, List.set_cons_zero, List.set_cons_succ]
    refine takeD 32 (i := 18) (v := ?v9) rfl rfl (by kernel_rfl) (by kernel_rfl) (by kernel_rfl) (fun _ _ _ h => h) (by kernel_rfl) ?hy9 hS0 ?rest9
    case hy9 => (intro w0 hSw; obtain ⟨s0, s1, s2, s3, s4, s5, s6, s7⟩ := hSw; first | (go_simp; done) | (go_simp; with_reducible rfl))
    simp only [List.setIfInBounds_toArray, List.set_cons_zero, List.set_cons_succ]
    refine skipD 33 (i := 19) rfl rfl (by kernel_rfl) (by kernel_rfl) (by kernel_rfl) (fun _ _ _ h => h) (by kernel_rfl) hS0 ?_
    simp only [List.setIfInBounds_toArray, List.set_cons_zero, List.set_cons_succ]
    refine skipD 34 (i := 20) rfl rfl (by kernel_rfl) (by kernel_rfl) (by kernel_rfl) (fun _ _ _ h => h) (by kernel_rfl) hS0 ?_
    simp only [List.setIfInBounds_toArray, List.set_cons_zero, List.set_cons_succ]
    refine skipD 35 (i := 21) rfl rfl (by kernel_rfl) (by kernel_rfl) (by kernel_rfl) (fun _ _ _ h => h) (by kernel_rfl) hS0 ?_
    simp only [List.setIfInBounds_toArray, List.set_cons_zero, List.set_cons_succ]
    refine skipD 36 (i := 22) rfl rfl (by kernel_rfl) (by kernel_rfl) (by kernel_rfl) (fun _ _ _ h => h) (by kernel_rfl) hS0 ?_
    simp only [List.setIfInBounds_toArray, List.set_cons_zero, List.set_cons_succ]
    refine skipD 37 (i := 23) rfl rfl (by kernel_rfl) (by kernel_rfl) (by kernel_rfl) (fun _ _ _ h => h) (by kernel_rfl) hS0 ?_
    simp only [List.setIfInBounds_toArray, List.set_cons_zero, List.set_cons_succ]
    refine skipD 38 (i := 24) rfl rfl (by kernel_rfl) (by kernel_rfl) (by kernel_rfl) (fun _ _ _ h => h) (by kernel_rfl) hS0 ?_
    simp only [List.setIfInBounds_toArray, List.set_cons_zero, List.set_cons_succ]
    refine takeD 39 (i := 25) (v := ?v10) rfl rfl (by kernel_rfl) (by kernel_rfl) (by kernel_rfl) (fun _ _ _ h => h) (by kernel_rfl) ?hy10 hS0 ?rest10
    case hy10 => (intro w0 hSw; obtain ⟨s0, s1, s2, s3, s4, s5, s6, s7⟩ := hSw; first | (go_simp; done) | (go_simp; with_reducible rfl))
    simp only [List.setIfInBounds_toArray, List.set_cons_zero, List.set_cons_succ]
    refine takeD 6 (i := 26) (v := ?v11) rfl rfl (by kernel_rfl) (by kernel_rfl) (by kernel_rfl) (fun _ _ _ h => h) (by kernel_rfl) ?hy11 hS0 ?rest11
    case hy11 => (intro w0 hSw; obtain ⟨s0, s1, s2, s3, s4, s5, s6, s7⟩ := hSw; first | (go_simp; done) | (go_simp; with_reducible rfl))
    simp only [List.setIfInBounds_toArray, List.set_cons_zero, List.set_cons_succ]
    refine wpAnyH_done (by kernel_rfl) ?_ _
    have HBC := Lib.hid ((Bel.refl W2).drew)
    clear hS0
    go_wp2
    go_ret
    exact ⟨rfl, HB1.out.trans HBC.out⟩
  have ey : (y1 == 1) = false := by simp [hy]
  rw [decide_eq_false hy, Bool.false_or] at hr
  clear hy
  cases v
  · rw [Bool.false_or] at hr
    subst hr
    have HS1 : Hid (((l.take k).drop i).length = k - i) := Lib.hid (by rw [List.length_drop, List.length_take, HN.out]; have := HK.out; omega)
    have HF2 : Hid (((l.take k).drop i).any (fun x => isFen (ev l i).1 x) = f) := Lib.hid (by have := HF.out; unfold fen at this; rwa [Int.toNat_natCast, Int.toNat_natCast] at this)
    have hci : (c = i) = False := eq_false (by have := HIK.out; have := HK.out; have := HNC.out; omega)
    have HS2 : Hid (k - i ≤ 5000) := Lib.hid (by have := HMX.out; have := HK.out; omega)
    go_upto_region 4 with (fail)
    refine wp_region_held_drew (S := (fun w' => w'.cell? ⟨g1, 0, none⟩ = some (.slice (some ⟨b, o, none⟩) n c) ∧ w'.cell? ⟨g2, 0, none⟩ = some (.int .i64 (i : Int)) ∧ w'.cell? ⟨b, o + i * 4 + 1, none⟩ = some (.int .i64 y1) ∧ w'.cell? ⟨b, o + i * 4 + 2, none⟩ = some (.int .i64 y2) ∧ w'.cell? ⟨b, o + k * 4, none⟩ = some (.int .i64 x0) ∧ w'.cell? ⟨b, o + k * 4 + 1, none⟩ = some (.int .i64 x1) ∧ w'.cell? ⟨b, o + k * 4 + 2, none⟩ = some (.int .i64 x2) ∧ w'.cell? ⟨b, o + k * 4 + 3, none⟩ = some (.int .i64 x3))) (by kernel_rfl) (HKEEP.out _ ((Bel.refl W2).drew)) (fun hS0 => ?_)
    refine takeD 14 (i := 0) (v := ?v12) rfl rfl (by kernel_rfl) (by kernel_rfl) (by kernel_rfl) (fun _ _ _ h => h) (by kernel_rfl) ?hy12 hS0 ?rest12
    case hy12 => (intro w0 hSw; obtain ⟨s0, s1, s2, s3, s4, s5, s6, s7⟩ := hSw; first | (go_simp; done) | (go_simp; with_reducible rfl))
    simp only [List.setIfInBounds_toArray, List.set_cons_zero, List.set_cons_succ]
    refine takeD 15 (i := 1) (v := ?v13) rfl rfl (by kernel_rfl) (by kernel_rfl) (by kernel_rfl) (fun _ _ _ h => h) (by kernel_rfl) ?hy13 hS0 ?rest13
    case hy13 => (intro w0 hSw; obtain ⟨s0, s1, s2, s3, s4, s5, s6, s7⟩ := hSw; first | (go_simp; done) | (go_simp; with_reducible rfl))
    simp only [List.setIfInBounds_toArray, List.set_cons_zero, List.set_cons_succ]
    refine takeD 16 (i := 2) (v := ?v14) rfl rfl (by kernel_rfl) (by kernel_rfl) (by kernel_rfl) (fun _ _ _ h => h) (by kernel_rfl) ?hy14 hS0 ?rest14
    case hy14 => (intro w0 hSw; obtain ⟨s0, s1, s2, s3, s4, s5, s6, s7⟩ := hSw; first | (go_simp; done) | (go_simp; with_reducible rfl))
    simp only [List.setIfInBounds_toArray, List.set_cons_zero, List.set_cons_succ]
    refine takeD 17 (i := 3) (v := ?v15) rfl rfl (by kernel_rfl) (by kernel_rfl) (by kernel_rfl) (fun _ _ _ h => h) (by kernel_rfl) ?hy15 hS0 ?rest15
    case hy15 => (intro w0 hSw; obtain ⟨s0, s1, s2, s3, s4, s5, s6, s7⟩ := hSw; first | (go_simp; done) | (go_simp; with_reducible rfl))
    simp only [List.setIfInBounds_toArray, List.set_cons_zero, List.set_cons_succ]
    refine takeD 18 (i := 4) (v := ?v16) rfl rfl (by kernel_rfl) (by kernel_rfl) (by kernel_rfl) (fun _ _ _ h => h) (by kernel_rfl) ?hy16 hS0 ?rest16
    case hy16 => (intro w0 hSw; obtain ⟨s0, s1, s2, s3, s4, s5, s6, s7⟩ := hSw; first | (go_simp; done) | (go_simp; with_reducible rfl))
    simp only [List.setIfInBounds_toArray, List.set_cons_zero, List.set_cons_succ]
    refine takeD 19 (i := 5) (v := ?v17) rfl rfl (by kernel_rfl) (by kernel_rfl) (by kernel_rfl) (fun _ _ _ h => h) (by kernel_rfl) ?hy17 hS0 ?rest17
    case hy17 => (intro w0 hSw; obtain ⟨s0, s1, s2, s3, s4, s5, s6, s7⟩ := hSw; first | (go_simp; done) | (go_simp; with_reducible rfl))
    simp only [List.setIfInBounds_toArray, List.set_cons_zero, List.set_cons_succ]
    refine takeD 20 (i := 6) (v := ?v18) rfl rfl (by kernel_rfl) (by kernel_rfl) (by kernel_rfl) (fun _ _ _ h => h) (by kernel_rfl) ?hy18 hS0 ?rest18
    case hy18 => (intro w0 hSw; obtain ⟨s0, s1, s2, s3, s4, s5, s6, s7⟩ := hSw; first | (go_simp; done) | (go_simp; with_reducible rfl))
    simp only [List.setIfInBounds_toArray, List.set_cons_zero, List.set_cons_succ]
    refine takeD 21 (i := 7) (v := ?v19) rfl rfl (by kernel_rfl) (by kernel_rfl) (by kernel_rfl) (fun _ _ _ h => h) (by kernel_rfl) ?hy19 hS0 ?rest19
    case hy19 => (intro w0 hSw; obtain ⟨s0, s1, s2, s3, s4, s5, s6, s7⟩ := hSw; first | (go_simp; done) | (go_simp; with_reducible rfl))
    simp only [List.setIfInBounds_toArray, List.set_cons_zero, List.set_cons_succ]
    refine takeD 22 (i := 8) (v := ?v20) rfl rfl (by kernel_rfl) (by kernel_rfl) (by kernel_rfl) (fun _ _ _ h => h) (by kernel_rfl) ?hy20 hS0 ?rest20
    case hy20 => (intro w0 hSw; obtain ⟨s0, s1, s2, s3, s4, s5, s6, s7⟩ := hSw; first | (go_simp; done) | (go_simp; with_reducible rfl))
    simp only [List.setIfInBounds_toArray, List.set_cons_zero, List.set_cons_succ]
    refine takeD 23 (i := 9) (v := ?v21) rfl rfl (by kernel_rfl) (by kernel_rfl) (by kernel_rfl) (fun _ _ _ h => h) (by kernel_rfl) ?hy21 hS0 ?rest21
    case hy21 => (intro w0 hSw; obtain ⟨s0, s1, s2, s3, s4, s5, s6, s7⟩ := hSw; first | (go_simp; done) | (go_simp; with_reducible rfl))
    simp only [List.setIfInBounds_toArray, List.set_cons_zero, List.set_cons_succ]
    refine takeD 24 (i := 10) (v := ?v22) rfl rfl (by kernel_rfl) (by kernel_rfl) (by kernel_rfl) (fun _ _ _ h => h) (by kernel_rfl) ?hy22 hS0 ?rest22
    case hy22 => (intro w0 hSw; obtain ⟨s0, s1, s2, s3, s4, s5, s6, s7⟩ := hSw; first | (go_simp; done) | (go_simp; with_reducible rfl))
    simp only [List.setIfInBounds_toArray, List.set_cons_zero, List.set_cons_succ]
    refine takeD 25 (i := 11) (v := ?v23) rfl rfl (by kernel_rfl) (by kernel_rfl) (by kernel_rfl) (fun _ _ _ h => h) (by kernel_rfl) ?hy23 hS0 ?rest23
    case hy23 => (intro w0 hSw; obtain ⟨s0, s1, s2, s3, s4, s5, s6, s7⟩ := hSw; first | (go_simp; done) | (go_simp; with_reducible rfl))
    simp only [List.setIfInBounds_toArray, List.set_cons_zero, List.set_cons_succ]
    refine takeD 26 (i := 12) (v := ?v24) rfl rfl (by kernel_rfl) (by kernel_rfl) (by kernel_rfl) (fun _ _ _ h => h) (by kernel_rfl) ?hy24 hS0 ?rest24
    case hy24 => (intro w0 hSw; obtain ⟨s0, s1, s2, s3, s4, s5, s6, s7⟩ := hSw; first | (go_simp; done) | (go_simp; with_reducible rfl))
    simp only [List.setIfInBounds_toArray, List.set_cons_zero, List.set_cons_succ]
    refine takeD 27 (i := 13) (v := ?v25) rfl rfl (by kernel_rfl) (by kernel_rfl) (by kernel_rfl) (fun _ _ _ h => h) (by kernel_rfl) ?hy25 hS0 ?rest25
    case hy25 => (intro w0 hSw; obtain ⟨s0, s1, s2, s3, s4, s5, s6, s7⟩ := hSw; first | (go_simp; done) | (go_simp; with_reducible rfl))
    simp only [List.setIfInBounds_toArray, List.set_cons_zero, List.set_cons_succ]
    refine takeD 28 (i := 14) (v := ?v26) rfl rfl (by kernel_rfl) (by kernel_rfl) (by kernel_rfl) (fun _ _ _ h => h) (by kernel_rfl) ?hy26 hS0 ?rest26
    case hy26 => (intro w0 hSw; obtain ⟨s0, s1, s2, s3, s4, s5, s6, s7⟩ := hSw; first | (go_simp; done) | (go_simp; with_reducible rfl))
    simp only [List.setIfInBounds_toArray, List.set_cons_zero, List.set_cons_succ]
    refine takeD 29 (i := 15) (v := ?v27) rfl rfl (by kernel_rfl) (by kernel_rfl) (by kernel_rfl) (fun _ _ _ h => h) (by kernel_rfl) ?hy27 hS0 ?rest27
    case hy27 => (intro w0 hSw; obtain ⟨s0, s1, s2, s3, s4, s5, s6, s7⟩ := hSw; first | (go_simp; done) | (go_simp; with_reducible rfl))
    simp only [List.setIfInBounds_toArray, List.set_cons_zero, List.set_cons_succ]
    refine onlyD 30 (i := 16) rfl rfl (by kernel_rfl) (by kernel_rfl) (fun K hK => ?_)
    go_simp
    go_at_call 43
    refine (isSt_lit HV.out _).mono ?_
    rintro e whb11 ⟨rfl, hb11⟩
    have hS1 := HKEEP.out _ (((Bel.refl W2).drew).trans hb11)
    refine hK.out _ _ hS1 (fun _ => ?_)
    clear hK K
    simp only [List.setIfInBounds_toArray, List.set_cons_zero, List.set_cons_succ]
    refine takeD 31 (i := 17) (v := ?v28) rfl rfl (by kernel_rfl) (by kernel_rfl) (by kernel_rfl) (fun _ _ _ h => h) (by kernel_rfl) ?hy28 hS1 ?rest28
    case hy28 => (intro w0 hSw; obtain ⟨s0, s1, s2, s3, s4, s5, s6, s7⟩ := hSw; first | (go_simp; done) | (go_simp; with_reducible rfl))
    simp only [List.setIfInBounds_toArray, List.set_cons_zero, List.set_cons_succ]
    refine takeD 32 (i := 18) (v := ?v29) rfl rfl (by kernel_rfl) (by kernel_rfl) (by kernel_rfl) (fun _ _ _ h => h) (by kernel_rfl) ?hy29 hS1 ?rest29
    case hy29 => (intro w0 hSw; obtain ⟨s0, s1, s2, s3, s4, s5, s6, s7⟩ := hSw; first | (go_simp; done) | (go_simp; with_reducible rfl))
    simp only [List.setIfInBounds_toArray, List.set_cons_zero, List.set_cons_succ]
    refine takeD 33 (i := 19) (v := ?v30) rfl rfl (by kernel_rfl) (by kernel_rfl) (by kernel_rfl) (fun _ _ _ h => h) (by kernel_rfl) ?hy30 hS1 ?rest30
    case hy30 => (intro w0 hSw; obtain ⟨s0, s1, s2, s3, s4, s5, s6, s7⟩ := hSw; first | (go_simp; done) | (go_simp; with_reducible rfl))
    simp only [List.setIfInBounds_toArray, List.set_cons_zero, List.set_cons_succ]
    refine takeD 34 (i := 20) (v := ?v31) rfl rfl (by kernel_rfl) (by kernel_rfl) (by kernel_rfl) (fun _ _ _ h => h) (by kernel_rfl) ?hy31 hS1 ?rest31
    case hy31 => (intro w0 hSw; obtain ⟨s0, s1, s2, s3, s4, s5, s6, s7⟩ := hSw; first | (go_simp; done) | (go_simp; with_reducible rfl))
    simp only [List.setIfInBounds_toArray, List.set_cons_zero, List.set_cons_succ]
    refine takeD 35 (i := 21) (v := ?v32) rfl rfl (by kernel_rfl) (by kernel_rfl) (by kernel_rfl) (fun _ _ _ h => h) (by kernel_rfl) ?hy32 hS1 ?rest32
    case hy32 => (intro w0 hSw; obtain ⟨s0, s1, s2, s3, s4, s5, s6, s7⟩ := hSw; first | (go_simp; done) | (go_simp; with_reducible rfl))
    simp only [List.setIfInBounds_toArray, List.set_cons_zero, List.set_cons_succ]
    refine takeD 36 (i := 22) (v := ?v33) rfl rfl (by kernel_rfl) (by kernel_rfl) (by kernel_rfl) (fun _ _ _ h => h) (by kernel_rfl) ?hy33 hS1 ?rest33
    case hy33 => (intro w0 hSw; obtain ⟨s0, s1, s2, s3, s4, s5, s6, s7⟩ := hSw; first | (go_simp; done) | (go_simp; with_reducible rfl))
    simp only [List.setIfInBounds_toArray, List.set_cons_zero, List.set_cons_succ]
    refine takeD 37 (i := 23) (v := ?v34) rfl rfl (by kernel_rfl) (by kernel_rfl) (by kernel_rfl) (fun _ _ _ h => h) (by kernel_rfl) ?hy34 hS1 ?rest34
    case hy34 => (intro w0 hSw; obtain ⟨s0, s1, s2, s3, s4, s5, s6, s7⟩ := hSw; first | (go_simp; done) | (go_simp; with_reducible rfl))
    simp only [List.setIfInBounds_toArray, List.set_cons_zero, List.set_cons_succ]
    refine onlyD 38 (i := 24) rfl rfl (by kernel_rfl) (by kernel_rfl) (fun K hK => ?_)
    go_simp
    go_at_call 38
    refine (keeps1_contains (EncAt.sub (LAt.bel HL1.out (((Bel.refl W2).drew).trans hb11)) i k) HS1.out HS2.out (Bel.stays (((Bel.refl W2).drew).trans hb11) HX1.out) (Bel.stays (((Bel.refl W2).drew).trans hb11) HX2.out) (LAt.bel HL1.out (((Bel.refl W2).drew).trans hb11)) HN.out HI.out rfl HF2.out).mono ?_
    rintro e whb12 ⟨rfl, hb12⟩
    have hS2 := HKEEP.out _ ((((Bel.refl W2).drew).trans hb11).trans hb12)
    refine hK.out _ _ hS2 (fun _ => ?_)
    clear hK K
    simp only [List.setIfInBounds_toArray, List.set_cons_zero, List.set_cons_succ]
    refine takeD 39 (i := 25) (v := ?v35) rfl rfl (by kernel_rfl) (by kernel_rfl) (by kernel_rfl) (fun _ _ _ h => h) (by kernel_rfl) ?hy35 hS2 ?rest35
    case hy35 => (intro w0 hSw; obtain ⟨s0, s1, s2, s3, s4, s5, s6, s7⟩ := hSw; first | (go_simp; done) | (go_simp; with_reducible rfl))
    simp only [List.setIfInBounds_toArray, List.set_cons_zero, List.set_cons_succ]
    refine takeD 6 (i := 26) (v := ?v36) rfl rfl (by kernel_rfl) (by kernel_rfl) (by kernel_rfl) (fun _ _ _ h => h) (by kernel_rfl) ?hy36 hS2 ?rest36
    case hy36 => (intro w0 hSw; obtain ⟨s0, s1, s2, s3, s4, s5, s6, s7⟩ := hSw; first | (go_simp; done) | (go_simp; with_reducible rfl))
    simp only [List.setIfInBounds_toArray, List.set_cons_zero, List.set_cons_succ]
    refine wpAnyH_done (by kernel_rfl) ?_ _
    have HBC := Lib.hid ((((Bel.refl W2).drew).trans hb11).trans hb12)
    clear hb11 hb12 hS0 hS1 hS2
    go_wp2
    go_ret
    exact ⟨rfl, HB1.out.trans HBC.out⟩
  · obtain rfl : r = true := by rw [← hr]; rfl
    clear hr
    go_upto_region 4 with (fail)
    refine wp_region_held_drew (S := (fun w' => w'.cell? ⟨g1, 0, none⟩ = some (.slice (some ⟨b, o, none⟩) n c) ∧ w'.cell? ⟨g2, 0, none⟩ = some (.int .i64 (i : Int)) ∧ w'.cell? ⟨b, o + i * 4 + 1, none⟩ = some (.int .i64 y1) ∧ w'.cell? ⟨b, o + i * 4 + 2, none⟩ = some (.int .i64 y2) ∧ w'.cell? ⟨b, o + k * 4, none⟩ = some (.int .i64 x0) ∧ w'.cell? ⟨b, o + k * 4 + 1, none⟩ = some (.int .i64 x1) ∧ w'.cell? ⟨b, o + k * 4 + 2, none⟩ = some (.int .i64 x2) ∧ w'.cell? ⟨b, o + k * 4 + 3, none⟩ = some (.int .i64 x3))) (by kernel_rfl) (HKEEP.out _ ((Bel.refl W2).drew)) (fun hS0 => ?_)
    refine takeD 14 (i := 0) (v := ?v37) rfl rfl (by kernel_rfl) (by kernel_rfl) (by kernel_rfl) (fun _ _ _ h => h) (by kernel_rfl) ?hy37 hS0 ?rest37
    case hy37 => (intro w0 hSw; obtain ⟨s0, s1, s2, s3, s4, s5, s6, s7⟩ := hSw; first | (go_simp; done) | (go_simp; with_reducible rfl))
    simp only [List.setIfInBounds_toArray, List.set_cons_zero, List.set_cons_succ]
    refine takeD 15 (i := 1) (v := ?v38) rfl rfl (by kernel_rfl) (by kernel_rfl) (by kernel_rfl) (fun _ _ _ h => h) (by kernel_rfl) ?hy38 hS0 ?rest38
    case hy38 => (intro w0 hSw; obtain ⟨s0, s1, s2, s3, s4, s5, s6, s7⟩ := hSw; first | (go_simp; done) | (go_simp; with_reducible rfl))
    simp only [List.setIfInBounds_toArray, List.set_cons_zero, List.set_cons_succ]
    refine takeD 16 (i := 2) (v := ?v39) rfl rfl (by kernel_rfl) (by kernel_rfl) (by kernel_rfl) (fun _ _ _ h => h) (by kernel_rfl) ?hy39 hS0 ?rest39
    case hy39 => (intro w0 hSw; obtain ⟨s0, s1, s2, s3, s4, s5, s6, s7⟩ := hSw; first | (go_simp; done) | (go_simp; with_reducible rfl))
    simp only [List.setIfInBounds_toArray, List.set_cons_zero, List.set_cons_succ]
    refine takeD 17 (i := 3) (v := ?v40) rfl rfl (by kernel_rfl) (by kernel_rfl) (by kernel_rfl) (fun _ _ _ h => h) (by kernel_rfl) ?hy40 hS0 ?rest40
    case hy40 => (intro w0 hSw; obtain ⟨s0, s1, s2, s3, s4, s5, s6, s7⟩ := hSw; first | (go_simp; done) | (go_simp; with_reducible rfl))
    simp only [List.setIfInBounds_toArray, List.set_cons_zero, List.set_cons_succ]
    refine takeD 18 (i := 4) (v := ?v41) rfl rfl (by kernel_rfl) (by kernel_rfl) (by kernel_rfl) (fun _ _ _ h => h) (by kernel_rfl) ?hy41 hS0 ?rest41
    case hy41 => (intro w0 hSw; obtain ⟨s0, s1, s2, s3, s4, s5, s6, s7⟩ := hSw; first | (go_simp; done) | (go_simp; with_reducible rfl))
    simp only [List.setIfInBounds_toArray, List.set_cons_zero, List.set_cons_succ]
    refine takeD 19 (i := 5) (v := ?v42) rfl rfl (by kernel_rfl) (by kernel_rfl) (by kernel_rfl) (fun _ _ _ h => h) (by kernel_rfl) ?hy42 hS0 ?rest42
    case hy42 => (intro w0 hSw; obtain ⟨s0, s1, s2, s3, s4, s5, s6, s7⟩ := hSw; first | (go_simp; done) | (go_simp; with_reducible rfl))
    simp only [List.setIfInBounds_toArray, List.set_cons_zero, List.set_cons_succ]
    refine takeD 20 (i := 6) (v := ?v43) rfl rfl (by kernel_rfl) (by kernel_rfl) (by kernel_rfl) (fun _ _ _ h => h) (by kernel_rfl) ?hy43 hS0 ?rest43
    case hy43 => (intro w0 hSw; obtain ⟨s0, s1, s2, s3, s4, s5, s6, s7⟩ := hSw; first | (go_simp; done) | (go_simp; with_reducible rfl))
    simp only [List.setIfInBounds_toArray, List.set_cons_zero, List.set_cons_succ]
    refine takeD 21 (i := 7) (v := ?v44) rfl rfl (by kernel_rfl) (by kernel_rfl) (by kernel_rfl) (fun _ _ _ h => h) (by kernel_rfl) ?hy44 hS0 ?rest44
    case hy44 => (intro w0 hSw; obtain ⟨s0, s1, s2, s3, s4, s5, s6, s7⟩ := hSw; first | (go_simp; done) | (go_simp; with_reducible rfl))
    simp only [List.setIfInBounds_toArray, List.set_cons_zero, List.set_cons_succ]
    refine takeD 22 (i := 8) (v := ?v45) rfl rfl (by kernel_rfl) (by kernel_rfl) (by kernel_rfl) (fun _ _ _ h => h) (by kernel_rfl) ?hy45 hS0 ?rest45
    case hy45 => (intro w0 hSw; obtain ⟨s0, s1, s2, s3, s4, s5, s6, s7⟩ := hSw; first | (go_simp; done) | (go_simp; with_reducible rfl))
    simp only [List.setIfInBounds_toArray, List.set_cons_zero, List.set_cons_succ]
    refine takeD 23 (i := 9) (v := ?v46) rfl rfl (by kernel_rfl) (by kernel_rfl) (by kernel_rfl) (fun _ _ _ h => h) (by kernel_rfl) ?hy46 hS0 ?rest46
    case hy46 => (intro w0 hSw; obtain ⟨s0, s1, s2, s3, s4, s5, s6, s7⟩ := hSw; first | (go_simp; done) | (go_simp; with_reducible rfl))
    simp only [List.setIfInBounds_toArray, List.set_cons_zero, List.set_cons_succ]
    refine takeD 24 (i := 10) (v := ?v47) rfl rfl (by kernel_rfl) (by kernel_rfl) (by kernel_rfl) (fun _ _ _ h => h) (by kernel_rfl) ?hy47 hS0 ?rest47
    case hy47 => (intro w0 hSw; obtain ⟨s0, s1, s2, s3, s4, s5, s6, s7⟩ := hSw; first | (go_simp; done) | (go_simp; with_reducible rfl))
    simp only [List.setIfInBounds_toArray, List.set_cons_zero, List.set_cons_succ]
    refine takeD 25 (i := 11) (v := ?v48) rfl rfl (by kernel_rfl) (by kernel_rfl) (by kernel_rfl) (fun _ _ _ h => h) (by kernel_rfl) ?hy48 hS0 ?rest48
    case hy48 => (intro w0 hSw; obtain ⟨s0, s1, s2, s3, s4, s5, s6, s7⟩ := hSw; first | (go_simp; done) | (go_simp; with_reducible rfl))
    simp only [List.setIfInBounds_toArray, List.set_cons_zero, List.set_cons_succ]
    refine takeD 26 (i := 12) (v := ?v49) rfl rfl (by kernel_rfl) (by kernel_rfl) (by kernel_rfl) (fun _ _ _ h => h) (by kernel_rfl) ?hy49 hS0 ?rest49
    case hy49 => (intro w0 hSw; obtain ⟨s0, s1, s2, s3, s4, s5, s6, s7⟩ := hSw; first | (go_simp; done) | (go_simp; with_reducible rfl))
    simp only [List.setIfInBounds_toArray, List.set_cons_zero, List.set_cons_succ]
    refine takeD 27 (i := 13) (v := ?v50) rfl rfl (by kernel_rfl) (by kernel_rfl) (by kernel_rfl) (fun _ _ _ h => h) (by kernel_rfl) ?hy50 hS0 ?rest50
    case hy50 => (intro w0 hSw; obtain ⟨s0, s1, s2, s3, s4, s5, s6, s7⟩ := hSw; first | (go_simp; done) | (go_simp; with_reducible rfl))
    simp only [List.setIfInBounds_toArray, List.set_cons_zero, List.set_cons_succ]
    refine takeD 28 (i := 14) (v := ?v51) rfl rfl (by kernel_rfl) (by kernel_rfl) (by kernel_rfl) (fun _ _ _ h => h) (by kernel_rfl) ?hy51 hS0 ?rest51
    case hy51 => (intro w0 hSw; obtain ⟨s0, s1, s2, s3, s4, s5, s6, s7⟩ := hSw; first | (go_simp; done) | (go_simp; with_reducible rfl))
    simp only [List.setIfInBounds_toArray, List.set_cons_zero, List.set_cons_succ]
    refine takeD 29 (i := 15) (v := ?v52) rfl rfl (by kernel_rfl) (by kernel_rfl) (by kernel_rfl) (fun _ _ _ h => h) (by kernel_rfl) ?hy52 hS0 ?rest52
    case hy52 => (intro w0 hSw; obtain ⟨s0, s1, s2, s3, s4, s5, s6, s7⟩ := hSw; first | (go_simp; done) | (go_simp; with_reducible rfl))
    simp only [List.setIfInBounds_toArray, List.set_cons_zero, List.set_cons_succ]
    refine onlyD 30 (i := 16) rfl rfl (by kernel_rfl) (by kernel_rfl) (fun K hK => ?_)
    go_simp
    go_at_call 43
    refine (isSt_lit HV.out _).mono ?_
    rintro e whb11 ⟨rfl, hb11⟩
    have hS1 := HKEEP.out _ (((Bel.refl W2).drew).trans hb11)
    refine hK.out _ _ hS1 (fun _ => ?_)
    clear hK K
    simp only [List.setIfInBounds_toArray, List.set_cons_zero, List.set_cons_succ]
    refine takeD 31 (i := 17) (v := ?v53) rfl rfl (by kernel_rfl) (by kernel_rfl) (by kernel_rfl) (fun _ _ _ h => h) (by kernel_rfl) ?hy53 hS1 ?rest53
    case hy53 => (intro w0 hSw; obtain ⟨s0, s1, s2, s3, s4, s5, s6, s7⟩ := hSw; first | (go_simp; done) | (go_simp; with_reducible rfl))
    simp only [List.setIfInBounds_toArray, List.set_cons_zero, List.set_cons_succ]
    refine takeD 32 (i := 18) (v := ?v54) rfl rfl (by kernel_rfl) (by kernel_rfl) (by kernel_rfl) (fun _ _ _ h => h) (by kernel_rfl) ?hy54 hS1 ?rest54
    case hy54 => (intro w0 hSw; obtain ⟨s0, s1, s2, s3, s4, s5, s6, s7⟩ := hSw; first | (go_simp; done) | (go_simp; with_reducible rfl))
    simp only [List.setIfInBounds_toArray, List.set_cons_zero, List.set_cons_succ]
    refine skipD 33 (i := 19) rfl rfl (by kernel_rfl) (by kernel_rfl) (by kernel_rfl) (fun _ _ _ h => h) (by kernel_rfl) hS1 ?_
    simp only [List.setIfInBounds_toArray, List.set_cons_zero, List.set_cons_succ]
    refine skipD 34 (i := 20) rfl rfl (by kernel_rfl) (by kernel_rfl) (by kernel_rfl) (fun _ _ _ h => h) (by kernel_rfl) hS1 ?_
    simp only [List.setIfInBounds_toArray, List.set_cons_zero, List.set_cons_succ]
    refine skipD 35 (i := 21) rfl rfl (by kernel_rfl) (by kernel_rfl) (by kernel_rfl) (fun _ _ _ h => h) (by kernel_rfl) hS1 ?_
    simp only [List.setIfInBounds_toArray, List.set_cons_zero, List.set_cons_succ]
    refine skipD 36 (i := 22) rfl rfl (by kernel_rfl) (by kernel_rfl) (by kernel_rfl) (fun _ _ _ h => h) (by kernel_rfl) hS1 ?_
    simp only [List.setIfInBounds_toArray, List.set_cons_zero, List.set_cons_succ]
    refine skipD 37 (i := 23) rfl rfl (by kernel_rfl) (by kernel_rfl) (by kernel_rfl) (fun _ _ _ h => h) (by kernel_rfl) hS1 ?_
    simp only [List.setIfInBounds_toArray, List.set_cons_zero, List.set_cons_succ]
    refine skipD 38 (i := 24) rfl rfl (by kernel_rfl) (by kernel_rfl) (by kernel_rfl) (fun _ _ _ h => h) (by kernel_rfl) hS1 ?_
    simp only [List.setIfInBounds_toArray, List.set_cons_zero, List.set_cons_succ]
    refine takeD 39 (i := 25) (v := ?v55) rfl rfl (by kernel_rfl) (by kernel_rfl) (by kernel_rfl) (fun _ _ _ h => h) (by kernel_rfl) ?hy55 hS1 ?rest55
    case hy55 => (intro w0 hSw; obtain ⟨s0, s1, s2, s3, s4, s5, s6, s7⟩ := hSw; first | (go_simp; done) | (go_simp; with_reducible rfl))
    simp only [List.setIfInBounds_toArray, List.set_cons_zero, List.set_cons_succ]
    refine takeD 6 (i := 26) (v := ?v56) rfl rfl (by kernel_rfl) (by kernel_rfl) (by kernel_rfl) (fun _ _ _ h => h) (by kernel_rfl) ?hy56 hS1 ?rest56
    case hy56 => (intro w0 hSw; obtain ⟨s0, s1, s2, s3, s4, s5, s6, s7⟩ := hSw; first | (go_simp; done) | (go_simp; with_reducible rfl))
    simp only [List.setIfInBounds_toArray, List.set_cons_zero, List.set_cons_succ]
    refine wpAnyH_done (by kernel_rfl) ?_ _
    have HBC := Lib.hid (((Bel.refl W2).drew).trans hb11)
    clear hb11 hS0 hS1
    go_wp2
    go_ret
    exact ⟨rfl, HB1.out.trans HBC.out⟩
end Go.Proofs.Ytigefdoejcggpaa
