/- The document's own New. -/
import Derived.Test.YtobpoghophhphaaMRo
import Derived.Test.YtobpoghophhphaaMSt
namespace Go.Proofs.Ytobpoghophhphaa
open Go.RowKit Mm
set_option linter.unusedVariables false
set_option linter.unusedSimpArgs false
/-- one thing more, out of a row of one that has just been made -/
theorem pushed {α : Type} {enc : α → List Value} {k : Nat} {t T : TypeId} {bytes : Nat} (H : RowTy enc k t T bytes) {w : World} {base : Nat} {s : Sl} {l : List α} (h : ERow enc T k w base s.val l) {x : α} {vx : Array Value} (hv : vx.toList = enc x) (hL : l.length + 1 ≤ 100000) (hb : base ≤ w.heap.size) :
    ∃ (s' : Sl) (w' : World), (Builtin.append_ #[t, t] t #[.slice s.p s.n s.c, .slice (some ⟨w.heap.size, 0, none⟩) 1 1]).run Try.prog (w.alloc (.cells vx T)) = .ok (.slice s'.p s'.n s'.c) w' ∧ ERow enc T k w' base s'.val (l ++ [x]) ∧ Sv (fun b => s.val.ownBlock = some b) w w' ∧ (∀ b, s'.val.ownBlock = some b → s.val.ownBlock = some b ∨ w.heap.size ≤ b) := by
  have hba : Bel w (w.alloc (.cells vx T)) := (Bel.refl w).alloc _ _
  obtain ⟨s', w', h1, h2, h3, h4⟩ := push_sl H (h.bel hba) (x := x) (heap_alloc_new w (.cells vx T)) hv hL (by have := hba.size; omega) (c1 := 1)
  exact ⟨s', w', h1, h2, (hba.sv _).trans h3, fun b hb => (h4 b hb).imp id fun c => by have := hba.size; omega⟩
theorem off_blk {α : Type} {enc : α → List Value} {t : TypeId} {k : Nat} {w w' : World} {base : Nat} {s : Sl} {l : List α} (h : ERow enc t k w base s.val l) (hs : Sv (fun b => s.val.ownBlock = some b) w w') {g : Nat} {cs : Array Value} {t' : TypeId} {fr : Nat × Nat} (hg : w.heap[g]? = some (.cells cs t' fr)) (ht : t' ≠ t) : w'.heap[g]? = some (.cells cs t' fr) :=
  (hs.block g (lt_of_heap hg) (fun c => by
    obtain ⟨_, cs2, h2⟩ := h.blk c
    rw [hg] at h2
    injection h2 with h2
    injection h2 with _ h2 _
    exact absurd h2 ht)).trans hg
set_option maxRecDepth 100000 in
theorem rnew_err {h n : Int} (hc : h < 1 ∨ 4 < h ∨ n < 0 ∨ 4096 < n) (w : World) : Calls Try.prog 6 #[.int .i64 h, .int .i64 n] w (Told zero 1 w) := by
  have hcases : h < 1 ∨ (1 ≤ h ∧ 4 < h) ∨ (1 ≤ h ∧ h ≤ 4 ∧ n < 0) ∨ (1 ≤ h ∧ h ≤ 4 ∧ 0 ≤ n ∧ 4096 < n) := by omega
  obtain ⟨hb, hx⟩ := box1 w #[.slice none 0 0, .slice none 0 0, .slice none 0 0] 27
  have HB := Lib.hid hb
  have HX2 := Lib.hid hx
  clear hc hb hx
  rcases hcases with h1 | ⟨h1, h2⟩ | ⟨h1, h2, h3⟩ | ⟨h1, h2, h3, h4⟩
  all_goals
    go_enter Try.func6, Try.ntmps6
    go_wp2
    exact bodyPost_ret (results_cell_slot Try.results6 _ _ w.heap.size _ _ _ _ _ rfl rfl HX2.out Try.underlying27 rfl (by kernel_rfl)) rfl ⟨nilM, rfl, HB.out, MemAt.zero _ _⟩
set_option maxRecDepth 100000 in
set_option maxHeartbeats 2000000 in
theorem rnew_yes {h n : Nat} (h1 : 1 ≤ h) (h4 : h ≤ 4) (hn : n ≤ 4096) (w : World) : Calls Try.prog 6 #[.int .i64 (h : Int), .int .i64 (n : Int)] w (Told ⟨List.replicate n 0, List.replicate h [], List.replicate h (-1)⟩ 0 w) := by
  obtain ⟨hb1, hx1, hx2⟩ := box2 w #[.slice none 0 0, .slice none 0 0, .slice none 0 0] 27 #[.slice none 0 0, .slice none 0 0, .slice none 0 0] 27
  have c1 : (1 : Int) ≤ (h : Int) := by omega
  have c2 : (h : Int) ≤ 4 := by omega
  have c3 : (n : Int) ≤ 4096 := by omega
  have c0 : (0 : Int) ≤ (n : Int) := by omega
  go_enter Try.func6, Try.ntmps6
  go_upto_region 4 with (fail)
  generalize hW1 : ((w.alloc (.cells #[.slice none 0 0, .slice none 0 0, .slice none 0 0] 27)).alloc (.cells #[.slice none 0 0, .slice none 0 0, .slice none 0 0] 27)) = W1 at hb1 hx1 hx2 ⊢
  clear hW1
  have HN46 : Hid (w.heap.size ≠ w.heap.size + 1) := Lib.hid (by omega)
  have HG6 : Hid (w.heap.size ≤ w.heap.size + 1) := Lib.hid (by omega)
  generalize w.heap.size + 1 = g6 at hx2 HN46 HG6 ⊢
  obtain ⟨g4, hG⟩ : ∃ G, w.heap.size = G := ⟨_, rfl⟩
  rw [hG] at hx1 HN46 HG6 ⊢
  have HG4 := Lib.hid hG
  have HB := Lib.hid hb1
  have HX4 := Lib.hid hx1
  have HI : Hid (∃ sp sr : Sl, W1.heap[g6]? = some (.cells #[.slice none 0 0, .slice sp.p sp.n sp.c, .slice sr.p sr.n sr.c] 27 (0, 0)) ∧ ERow encS 46 1 W1 g4 sp.val (List.replicate 0 nilS) ∧ ERow encI 3 1 W1 g4 sr.val (List.replicate 0 (-1))) := Lib.hid ⟨nilS, nilS, hx2, ERow.nil _ _ _ _ _, ERow.nil _ _ _ _ _⟩
  clear hb1 hx1 hx2 hG
  go_wp2
  go_loopw [7] (fun i wr => ∃ k : Nat, k ≤ h ∧ i = .int .i64 k ∧ Hid (Bel w wr) ∧ Hid (wr.heap[g4]? = some (.cells #[.slice none 0 0, .slice none 0 0, .slice none 0 0] 27 (0, 0))) ∧ Hid (∃ sp sr : Sl, wr.heap[g6]? = some (.cells #[.slice none 0 0, .slice sp.p sp.n sp.c, .slice sr.p sr.n sr.c] 27 (0, 0)) ∧ ERow encS 46 1 wr g4 sp.val (List.replicate k nilS) ∧ ERow encI 3 1 wr g4 sr.val (List.replicate k (-1)))) (fun i _ => h - (intOf i).toNat)
  case atStart => exact ⟨0, Nat.zero_le _, rfl, HB, HX4, HI⟩
  case round =>
    clear HB HX4 HI
    obtain ⟨k, hk, rfl, HB, HX4, HI⟩ := hrel
    obtain ⟨sp, sr, hx6, hsp, hsr⟩ := HI.out
    have HX6 := Lib.hid hx6
    have HSP := Lib.hid hsp
    have HSR := Lib.hid hsr
    clear hx6 hsp hsr HI
    by_cases hlt : k < h
    · have hlt2 : (k : Int) < h := by omega
      obtain ⟨s1, w1, hr1, ho1, hs1, -⟩ := pushed slTy HSP.out (x := nilS) (vx := #[.slice none 0 0]) rfl (by rw [List.length_replicate]; omega) (by have := HB.out.size; have := HG4.out; omega)
      have hx61 := off_blk (s := sp) HSP.out hs1 HX6.out (by decide)
      have hx41 := off_blk (s := sp) HSP.out hs1 HX4.out (by decide)
      have hsr1 : ERow encI 3 1 w1 g4 sr.val (List.replicate k (-1)) := HSR.out.sv hs1 (nse HSR.out HSP.out (by decide))
      have hbw1 : Bel w w1 := Sv.bel hs1 HB.out (fun b hb => by have := (HSP.out.blk hb).1; have := HG4.out; omega)
      have k1 := cell_of_heap HX6.out 1
      have z1 := cell_of_heap hx61 1
      have zf1 := frozen_of_heap hx61 1
      simp only [List.getElem?_toArray, List.getElem?_cons_zero, List.getElem?_cons_succ] at k1 z1
      have HR1 := Lib.hid hr1
      have HX61 := Lib.hid hx61
      have HX41 := Lib.hid hx41
      have HSR1 := Lib.hid hsr1
      have HO1 := Lib.hid ho1
      have HBW1 := Lib.hid hbw1
      clear hr1 hx61 hx41 hsr1 ho1 hbw1 hs1
      go_upto_region 8 with (at_builtin; refine wpList_app rfl (.tmp 30) (.tmp 31) 25 rfl _ _ _ (by rfl) (by rfl) HR1.out ?_)
      have hst1 : Svg g6 w1 (w1.setCell ⟨g6, 1, none⟩ (.slice s1.p s1.n s1.c)) := Svg.set _ _ _ _
      have hx62 := heap_set HX61.out 1 (.slice s1.p s1.n s1.c)
      have hx42 := (hst1.block g4 (lt_of_heap HX41.out) HN46.out).trans HX41.out
      have hsr2 := HSR1.out.keep hst1 HX61.out (by decide)
      have hsp2 := HO1.out.keep hst1 HX61.out (by decide)
      have hbw2 := hst1.bel HBW1.out (by have := HG4.out; have := HG6.out; omega)
      generalize w1.setCell ⟨g6, 1, none⟩ (.slice s1.p s1.n s1.c) = W2 at hst1 hx62 hx42 hsr2 hsp2 hbw2 ⊢
      clear k1 z1 zf1 hst1
      obtain ⟨s2, w2, hr2, ho2, hs2, -⟩ := pushed intTy hsr2 (x := (-1 : Int)) (vx := #[.int .i64 (-1)]) rfl (by rw [List.length_replicate]; omega) (by have := hbw2.size; have := HG4.out; omega)
      have hx63 := off_blk (s := sr) hsr2 hs2 hx62 (by decide)
      have hx43 := off_blk (s := sr) hsr2 hs2 hx42 (by decide)
      have hsp3 : ERow encS 46 1 w2 g4 s1.val (List.replicate k nilS ++ [nilS]) := hsp2.sv hs2 (nse hsp2 hsr2 (by decide))
      have hbw3 : Bel w w2 := Sv.bel hs2 hbw2 (fun b hb => by have := (hsr2.blk hb).1; have := HG4.out; omega)
      have k2 := cell_of_heap hx62 2
      have z2 := cell_of_heap hx63 2
      have zf2 := frozen_of_heap hx63 2
      simp only [List.getElem?_toArray, List.setIfInBounds_toArray, List.set_cons_zero, List.set_cons_succ, List.getElem?_cons_zero, List.getElem?_cons_succ] at k2 z2
      have HR2 := Lib.hid hr2
      have HX63 := Lib.hid hx63
      have HX43 := Lib.hid hx43
      have HSP3 := Lib.hid hsp3
      have HO2 := Lib.hid ho2
      have HBW3 := Lib.hid hbw3
      clear hr2 hx63 hx43 hsp3 ho2 hbw3 hs2 hx62 hx42 hsr2 hsp2 hbw2
      go_wp2_with (at_builtin; refine wpList_app rfl (.tmp 35) (.tmp 36) 24 rfl _ _ _ (by rfl) (by rfl) HR2.out ?_)
      have hst2 : Svg g6 w2 (w2.setCell ⟨g6, 2, none⟩ (.slice s2.p s2.n s2.c)) := Svg.set _ _ _ _
      exact ⟨⟨k + 1, by omega, by go_num, Lib.hid (hst2.bel HBW3.out (by have := HG4.out; have := HG6.out; omega)), Lib.hid ((hst2.block g4 (lt_of_heap HX43.out) HN46.out).trans HX43.out),
        Lib.hid ⟨s1, s2, heap_set HX63.out 2 _, by rw [List.replicate_succ']; exact HSP3.out.keep hst2 HX63.out (by decide), by rw [List.replicate_succ']; exact HO2.out.keep hst2 HX63.out (by decide)⟩⟩, by simp [intOf]; omega⟩
    · obtain rfl : k = h := by omega
      have HI2 : Hid (∃ sw : Sl, wr.heap[g6]? = some (.cells #[.slice sw.p sw.n sw.c, .slice sp.p sp.n sp.c, .slice sr.p sr.n sr.c] 27 (0, 0)) ∧ ERow encI 3 1 wr g4 sw.val (List.replicate 0 0) ∧ ∀ b, sw.val.ownBlock = some b → sr.val.ownBlock ≠ some b) := Lib.hid ⟨nilS, HX6.out, ERow.nil _ _ _ _ _, fun b hb => (by cases hb)⟩
      have HX4' := HX4
      have HB' := HB
      clear HX6 HX4 HB
      obtain ⟨wq, hwq⟩ : ∃ W, W = wr := ⟨_, rfl⟩
      rw [← hwq] at HI2 HX4' HB' HSP HSR ⊢
      clear hwq
      go_wp2
      go_loopw [8] (fun i wr => ∃ j : Nat, j ≤ n ∧ i = .int .i64 j ∧ Hid (Bel w wr) ∧ Hid (wr.heap[g4]? = some (.cells #[.slice none 0 0, .slice none 0 0, .slice none 0 0] 27 (0, 0))) ∧ Hid (∃ sw : Sl, wr.heap[g6]? = some (.cells #[.slice sw.p sw.n sw.c, .slice sp.p sp.n sp.c, .slice sr.p sr.n sr.c] 27 (0, 0)) ∧ ERow encI 3 1 wr g4 sw.val (List.replicate j 0) ∧ ∀ b, sw.val.ownBlock = some b → sr.val.ownBlock ≠ some b) ∧ Hid (ERow encS 46 1 wr g4 sp.val (List.replicate k nilS)) ∧ Hid (ERow encI 3 1 wr g4 sr.val (List.replicate k (-1)))) (fun i _ => n - (intOf i).toNat)
      case atStart => exact ⟨0, Nat.zero_le _, rfl, HB', HX4', HI2, HSP, HSR⟩
      case round =>
        clear HB' HX4' HI2 HSP HSR
        obtain ⟨j, hj, rfl, HB, HX4, HI, HSP, HSR⟩ := hrel
        obtain ⟨sw, hx6, hsw, hnb⟩ := HI.out
        have HX6 := Lib.hid hx6
        have HSW := Lib.hid hsw
        have HNB := Lib.hid hnb
        clear hx6 hsw hnb HI
        by_cases hlt3 : j < n
        · have hlt4 : (j : Int) < n := by omega
          obtain ⟨s1, w1, hr1, ho1, hs1, hn1⟩ := pushed intTy HSW.out (x := (0 : Int)) (vx := #[.int .i64 0]) rfl (by rw [List.length_replicate]; omega) (by have := HB.out.size; have := HG4.out; omega)
          have hx61 := off_blk (s := sw) HSW.out hs1 HX6.out (by decide)
          have hx41 := off_blk (s := sw) HSW.out hs1 HX4.out (by decide)
          have hsr1 : ERow encI 3 1 w1 g4 sr.val (List.replicate k (-1)) := HSR.out.sv hs1 (fun b hb c => HNB.out b c hb)
          have hsp1 : ERow encS 46 1 w1 g4 sp.val (List.replicate k nilS) := HSP.out.sv hs1 (nse HSP.out HSW.out (by decide))
          have hbw1 : Bel w w1 := Sv.bel hs1 HB.out (fun b hb => by have := (HSW.out.blk hb).1; have := HG4.out; omega)
          have hnb1 : ∀ b, s1.val.ownBlock = some b → sr.val.ownBlock ≠ some b := fun b hb c => by
            rcases hn1 b hb with h | h
            · exact HNB.out b h c
            · obtain ⟨_, cs, h2⟩ := HSR.out.blk c
              have := lt_of_heap h2
              omega
          have k1 := cell_of_heap HX6.out 0
          have z1 := cell_of_heap hx61 0
          have zf1 := frozen_of_heap hx61 0
          simp only [List.getElem?_toArray, List.getElem?_cons_zero, List.getElem?_cons_succ] at k1 z1
          have HR1 := Lib.hid hr1
          have HX61 := Lib.hid hx61
          have HX41 := Lib.hid hx41
          have HSR1 := Lib.hid hsr1
          have HSP1 := Lib.hid hsp1
          have HO1 := Lib.hid ho1
          have HBW1 := Lib.hid hbw1
          have HNB1 := Lib.hid hnb1
          clear hr1 hx61 hx41 hsr1 hsp1 ho1 hbw1 hs1 hn1 hnb1
          go_wp2_with (at_builtin; refine wpList_app rfl (.tmp 45) (.tmp 46) 24 rfl _ _ _ (by rfl) (by rfl) HR1.out ?_)
          have hst2 : Svg g6 w1 (w1.setCell ⟨g6, 0, none⟩ (.slice s1.p s1.n s1.c)) := Svg.set _ _ _ _
          exact ⟨⟨j + 1, by omega, by go_num, Lib.hid (hst2.bel HBW1.out (by have := HG4.out; have := HG6.out; omega)), Lib.hid ((hst2.block g4 (lt_of_heap HX41.out) HN46.out).trans HX41.out),
            Lib.hid ⟨s1, heap_set HX61.out 0 _, by rw [List.replicate_succ']; exact HO1.out.keep hst2 HX61.out (by decide), HNB1.out⟩, Lib.hid (HSP1.out.keep hst2 HX61.out (by decide)), Lib.hid (HSR1.out.keep hst2 HX61.out (by decide))⟩, by simp [intOf]; omega⟩
        · obtain rfl : j = n := by omega
          have k0 := cell_of_heap HX6.out 0
          have k1 := cell_of_heap HX6.out 1
          have k2 := cell_of_heap HX6.out 2
          have z0 := cell_of_heap HX4.out 0
          have z1 := cell_of_heap HX4.out 1
          have z2 := cell_of_heap HX4.out 2
          have zf0 := frozen_of_heap HX4.out 0
          have zf1 := frozen_of_heap HX4.out 1
          have zf2 := frozen_of_heap HX4.out 2
          simp only [List.getElem?_toArray, List.getElem?_cons_zero, List.getElem?_cons_succ] at k0 k1 k2 z0 z1 z2
          go_wp2
          have hs3 := set3_svg wr g4 (.slice sw.p sw.n sw.c) (.slice sp.p sp.n sp.c) (.slice sr.p sr.n sr.c)
          have hh := set3_heap HX4.out (.slice sw.p sw.n sw.c) (.slice sp.p sp.n sp.c) (.slice sr.p sr.n sr.c)
          have hm : MemAt g4 wr ⟨sw, sp, sr, List.replicate k nilS⟩ ⟨List.replicate j 0, List.replicate k [], List.replicate k (-1)⟩ :=
            ⟨HSW.out, HSP.out, by rw [List.length_replicate, List.length_replicate], fun i s l h1 h2 => by
              rw [List.eq_of_mem_replicate (List.mem_of_getElem? h1), List.eq_of_mem_replicate (List.mem_of_getElem? h2)]
              exact ERow.nil _ _ _ _ _, HSR.out, HNB.out, fun i j s t b h1 h2 _ hb => by
              rw [List.eq_of_mem_replicate (List.mem_of_getElem? h1)] at hb
              cases hb⟩
          exact bodyPost_ret (results_cell_slot Try.results6 _ _ g4 _ _ _ _ _ rfl rfl hh Try.underlying27 rfl (by kernel_rfl)) rfl ⟨⟨sw, sp, sr, List.replicate k nilS⟩, rfl, hs3.bel HB.out (by have := HG4.out; omega), by rw [HG4.out]; exact hm.keep hs3 HX4.out (by decide) (by decide) (by decide)⟩
theorem rnew_lit {h n : Int} {m' : Mem} {r : Int} (hr : newV h n = (m', r)) (w : World) : Calls Try.prog 6 #[.int .i64 h, .int .i64 n] w (Told m' r w) := by
  unfold newV at hr
  by_cases hc : 1 ≤ h ∧ h ≤ 4 ∧ 0 ≤ n ∧ n ≤ 4096
  · rw [decide_eq_true hc.1, decide_eq_true hc.2.1, decide_eq_true hc.2.2.1, decide_eq_true hc.2.2.2, if_pos (by rfl)] at hr
    obtain ⟨hN, rfl⟩ : ∃ hN : Nat, h = hN := ⟨h.toNat, by omega⟩
    obtain ⟨nN, rfl⟩ : ∃ nN : Nat, n = nN := ⟨n.toNat, by omega⟩
    injection hr with h1 h2
    rw [← h1, ← h2, Int.toNat_natCast, Int.toNat_natCast]
    exact rnew_yes (by omega) (by omega) (by omega) w
  · rw [if_neg (by simp only [Bool.and_eq_true, decide_eq_true_eq]; omega)] at hr
    injection hr with h1 h2
    rw [← h1, ← h2]
    exact rnew_err (by omega) w
end Go.Proofs.Ytobpoghophhphaa
