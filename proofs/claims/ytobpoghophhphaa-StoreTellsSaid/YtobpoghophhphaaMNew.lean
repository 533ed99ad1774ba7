/- store.New. -/
import Derived.Test.YtobpoghophhphaaMFlush
namespace Go.Proofs.Ytobpoghophhphaa
open Go.RowKit Mm
set_option linter.unusedVariables false
set_option linter.unusedSimpArgs false
theorem make_ints (n : Nat) (hn : n ≤ 5000) (w : World) :
    (Instr.makeSlice 24 (.int .i64 (n : Int)) (.int .i64 (n : Int))).run Try.prog w = .ok (.slice (some ⟨w.heap.size, 0, none⟩) n n) (w.alloc (.cells (Array.replicate n (.int .i64 0)) 3)) := by
  obtain ⟨i, z, hi, hz, hs, hb, hc⟩ := intTy.info
  obtain ⟨hz0, hb0⟩ : z = .int .i64 0 ∧ i.bytes = 8 := by
    have e : Try.prog.info? 3 = some ((Try.prog.info? 3).get (by kernel_rfl)) := by kernel_rfl
    rw [e] at hi
    injection hi with hi
    subst hi
    have e2 : ((Try.prog.info? 3).get (by kernel_rfl)).zero = some (.int .i64 0) := by kernel_rfl
    rw [e2] at hz
    injection hz with hz
    exact ⟨hz.symm, hb⟩
  subst hz0
  have := run_make (P := Try.prog) w 24 3 i (.int .i64 0) Try.underlying24 hi hz .i64 .i64 n n (by omega) (by omega) (by rw [hb0]; omega) (by omega)
  rw [hs, Nat.mul_one, Int.toNat_natCast] at this
  rw [this]
  have e : madeCells (Value.cells (.int .i64 0)) n = Array.replicate n (.int .i64 0) := by
    apply Array.ext'
    rw [show Value.cells (.int .i64 0) = #[.int .i64 0] from rfl, toList_madeCells_one, Array.toList_replicate]
  rw [e]
def nilB : Array Value := #[.slice none 0 0, .slice none 0 0, .slice none 0 0]
set_option maxRecDepth 100000 in
theorem new_err {h n : Int} (hc : h < 1 ∨ 4 < h ∨ n < 0 ∨ 4096 < n) (w : World) : Calls Try.prog 5 #[.int .i64 h, .int .i64 n] w (Told zero 1 w) := by
  have hcases : h < 1 ∨ (1 ≤ h ∧ 4 < h) ∨ (1 ≤ h ∧ h ≤ 4 ∧ n < 0) ∨ (1 ≤ h ∧ h ≤ 4 ∧ 0 ≤ n ∧ 4096 < n) := by omega
  obtain ⟨hb, hx⟩ := box1 w #[.slice none 0 0, .slice none 0 0, .slice none 0 0] 27
  have HB := Lib.hid hb
  have HX2 := Lib.hid hx
  clear hc hb hx
  rcases hcases with h1 | ⟨h1, h2⟩ | ⟨h1, h2, h3⟩ | ⟨h1, h2, h3, h4⟩
  all_goals
    go_enter Try.func5, Try.ntmps5
    go_wp2
    exact bodyPost_ret (results_cell_slot Try.results5 _ _ w.heap.size _ _ _ _ _ rfl rfl HX2.out Try.underlying27 rfl (by kernel_rfl)) rfl ⟨nilM, rfl, HB.out, MemAt.zero _ _⟩
set_option maxRecDepth 100000 in
theorem new_yes {h n : Nat} (h1 : 1 ≤ h) (h4 : h ≤ 4) (hn : n ≤ 4096) (w : World) : Calls Try.prog 5 #[.int .i64 (h : Int), .int .i64 (n : Int)] w (Told ⟨List.replicate n 0, List.replicate h [], List.replicate h (-1)⟩ 0 w) := by
  have hmi := fun w => make_ints n (by omega) w
  have hmr := fun w => make_rows h (by omega) w
  obtain ⟨hb, hx⟩ := box1 w #[.slice none 0 0, .slice none 0 0, .slice none 0 0] 27
  have HB := Lib.hid hb
  have HX2 := Lib.hid hx
  clear hb hx
  have c1 : (1 : Int) ≤ (h : Int) := by omega
  have c2 : (h : Int) ≤ 4 := by omega
  have c3 : (n : Int) ≤ 4096 := by omega
  have c0 : (0 : Int) ≤ (n : Int) := by omega
  go_enter Try.func5, Try.ntmps5
  go_upto_region 3 with (fail)
  go_cut [6] (fun v wx => ∃ (g6 gw gp : Nat), v = .pointer (some ⟨g6, 0, none⟩) ∧ Hid (Bel w wx) ∧ Hid (wx.heap[w.heap.size]? = some (.cells #[.slice none 0 0, .slice none 0 0, .slice none 0 0] 27 (0, 0))) ∧ Hid (wx.heap[g6]? = some (.cells #[.slice (some ⟨gw, 0, none⟩) n n, .slice (some ⟨gp, 0, none⟩) h h, .slice none 0 0] 27 (0, 0))) ∧
      Hid (ERow encI 3 1 wx w.heap.size (.slice (some ⟨gw, 0, none⟩) n n) (List.replicate n 0)) ∧ Hid (ERow encS 46 1 wx w.heap.size (.slice (some ⟨gp, 0, none⟩) h h) (List.replicate h nilS)) ∧ Hid (w.heap.size ≠ g6) ∧ Hid (w.heap.size ≤ g6))
  case first =>
    clear HX2 HB
    go_region
    all_goals
      go_wp2_with fail
      go_meet
      first
      | (obtain ⟨b0, b1, b2, b3, b4⟩ := box4 w #[.slice none 0 0, .slice none 0 0, .slice none 0 0] 27 (Array.replicate n (.int .i64 0)) 3 (Array.replicate h (.slice none 0 0)) 46 #[.slice (some ⟨w.heap.size + 1, 0, none⟩) n n, .slice (some ⟨w.heap.size + 1 + 1, 0, none⟩) h h, .slice none 0 0] 27; exact ⟨w.heap.size + 1 + 1 + 1, w.heap.size + 1, w.heap.size + 1 + 1, rfl, Lib.hid (b0.drew), Lib.hid b1, Lib.hid b4, Lib.hid (rep_row (enc := encI) (x := 0) (u := .int .i64 0) rfl (by omega) (by unfold maxLen; omega) (w := (World.drew _)) b2), Lib.hid (rep_row (enc := encS) (x := nilS) (u := .slice none 0 0) rfl (by omega) (by unfold maxLen; omega) (w := (World.drew _)) b3), Lib.hid (by omega), Lib.hid (by omega)⟩)
      | (obtain ⟨b0, b1, b2, b3, b4⟩ := box4 w #[.slice none 0 0, .slice none 0 0, .slice none 0 0] 27 (Array.replicate n (.int .i64 0)) 3 #[.slice (some ⟨w.heap.size + 1, 0, none⟩) n n, .slice (some ⟨w.heap.size + 1 + 1 + 1, 0, none⟩) h h, .slice none 0 0] 27 (Array.replicate h (.slice none 0 0)) 46; exact ⟨w.heap.size + 1 + 1, w.heap.size + 1, w.heap.size + 1 + 1 + 1, rfl, Lib.hid (b0.drew), Lib.hid b1, Lib.hid b3, Lib.hid (rep_row (enc := encI) (x := 0) (u := .int .i64 0) rfl (by omega) (by unfold maxLen; omega) (w := (World.drew _)) b2), Lib.hid (rep_row (enc := encS) (x := nilS) (u := .slice none 0 0) rfl (by omega) (by unfold maxLen; omega) (w := (World.drew _)) b4), Lib.hid (by omega), Lib.hid (by omega)⟩)
      | (obtain ⟨b0, b1, b2, b3, b4⟩ := box4 w #[.slice none 0 0, .slice none 0 0, .slice none 0 0] 27 (Array.replicate h (.slice none 0 0)) 46 (Array.replicate n (.int .i64 0)) 3 #[.slice (some ⟨w.heap.size + 1 + 1, 0, none⟩) n n, .slice (some ⟨w.heap.size + 1, 0, none⟩) h h, .slice none 0 0] 27; exact ⟨w.heap.size + 1 + 1 + 1, w.heap.size + 1 + 1, w.heap.size + 1, rfl, Lib.hid (b0.drew), Lib.hid b1, Lib.hid b4, Lib.hid (rep_row (enc := encI) (x := 0) (u := .int .i64 0) rfl (by omega) (by unfold maxLen; omega) (w := (World.drew _)) b3), Lib.hid (rep_row (enc := encS) (x := nilS) (u := .slice none 0 0) rfl (by omega) (by unfold maxLen; omega) (w := (World.drew _)) b2), Lib.hid (by omega), Lib.hid (by omega)⟩)
      | (obtain ⟨b0, b1, b2, b3, b4⟩ := box4 w #[.slice none 0 0, .slice none 0 0, .slice none 0 0] 27 (Array.replicate h (.slice none 0 0)) 46 #[.slice (some ⟨w.heap.size + 1 + 1 + 1, 0, none⟩) n n, .slice (some ⟨w.heap.size + 1, 0, none⟩) h h, .slice none 0 0] 27 (Array.replicate n (.int .i64 0)) 3; exact ⟨w.heap.size + 1 + 1, w.heap.size + 1 + 1 + 1, w.heap.size + 1, rfl, Lib.hid (b0.drew), Lib.hid b1, Lib.hid b3, Lib.hid (rep_row (enc := encI) (x := 0) (u := .int .i64 0) rfl (by omega) (by unfold maxLen; omega) (w := (World.drew _)) b4), Lib.hid (rep_row (enc := encS) (x := nilS) (u := .slice none 0 0) rfl (by omega) (by unfold maxLen; omega) (w := (World.drew _)) b2), Lib.hid (by omega), Lib.hid (by omega)⟩)
      | (obtain ⟨b0, b1, b2, b3, b4⟩ := box4 w #[.slice none 0 0, .slice none 0 0, .slice none 0 0] 27 #[.slice (some ⟨w.heap.size + 1 + 1, 0, none⟩) n n, .slice (some ⟨w.heap.size + 1 + 1 + 1, 0, none⟩) h h, .slice none 0 0] 27 (Array.replicate n (.int .i64 0)) 3 (Array.replicate h (.slice none 0 0)) 46; exact ⟨w.heap.size + 1, w.heap.size + 1 + 1, w.heap.size + 1 + 1 + 1, rfl, Lib.hid (b0.drew), Lib.hid b1, Lib.hid b2, Lib.hid (rep_row (enc := encI) (x := 0) (u := .int .i64 0) rfl (by omega) (by unfold maxLen; omega) (w := (World.drew _)) b3), Lib.hid (rep_row (enc := encS) (x := nilS) (u := .slice none 0 0) rfl (by omega) (by unfold maxLen; omega) (w := (World.drew _)) b4), Lib.hid (by omega), Lib.hid (by omega)⟩)
      | (obtain ⟨b0, b1, b2, b3, b4⟩ := box4 w #[.slice none 0 0, .slice none 0 0, .slice none 0 0] 27 #[.slice (some ⟨w.heap.size + 1 + 1 + 1, 0, none⟩) n n, .slice (some ⟨w.heap.size + 1 + 1, 0, none⟩) h h, .slice none 0 0] 27 (Array.replicate h (.slice none 0 0)) 46 (Array.replicate n (.int .i64 0)) 3; exact ⟨w.heap.size + 1, w.heap.size + 1 + 1 + 1, w.heap.size + 1 + 1, rfl, Lib.hid (b0.drew), Lib.hid b1, Lib.hid b2, Lib.hid (rep_row (enc := encI) (x := 0) (u := .int .i64 0) rfl (by omega) (by unfold maxLen; omega) (w := (World.drew _)) b4), Lib.hid (rep_row (enc := encS) (x := nilS) (u := .slice none 0 0) rfl (by omega) (by unfold maxLen; omega) (w := (World.drew _)) b3), Lib.hid (by omega), Lib.hid (by omega)⟩)
  case rest =>
    obtain ⟨g6, gw, gp, rfl, HB, HX4, HX6, HRI, HRS, HN46, HLE6⟩ := hcut
    clear hmi hmr HX2
    have k6 : Hid (∃ sr : Sl, wc.heap[g6]? = some (.cells #[.slice (some ⟨gw, 0, none⟩) n n, .slice (some ⟨gp, 0, none⟩) h h, .slice sr.p sr.n sr.c] 27 (0, 0)) ∧ ERow encI 3 1 wc w.heap.size sr.val (List.replicate 0 (-1)) ∧ (∀ b, sr.val.ownBlock = some b → b ≠ gw)) := Lib.hid ⟨nilS, HX6.out, ERow.nil _ _ _ _ _, fun b hb => (by cases hb)⟩
    obtain ⟨g4, hg4⟩ : ∃ g4, w.heap.size = g4 := ⟨_, rfl⟩
    have HG4 := Lib.hid hg4
    rw [hg4] at HX4 HN46 HLE6 HRI HRS k6 ⊢
    clear hg4 HX6
    go_wp2
    go_loopw [28] (fun i wr => ∃ k : Nat, k ≤ h ∧ i = .int .i64 k ∧ Hid (Bel w wr) ∧ Hid (wr.heap[g4]? = some (.cells #[.slice none 0 0, .slice none 0 0, .slice none 0 0] 27 (0, 0))) ∧ Hid (∃ sr : Sl, wr.heap[g6]? = some (.cells #[.slice (some ⟨gw, 0, none⟩) n n, .slice (some ⟨gp, 0, none⟩) h h, .slice sr.p sr.n sr.c] 27 (0, 0)) ∧ ERow encI 3 1 wr g4 sr.val (List.replicate k (-1)) ∧ (∀ b, sr.val.ownBlock = some b → b ≠ gw)) ∧
        Hid (ERow encI 3 1 wr g4 (.slice (some ⟨gw, 0, none⟩) n n) (List.replicate n 0)) ∧ Hid (ERow encS 46 1 wr g4 (.slice (some ⟨gp, 0, none⟩) h h) (List.replicate h nilS))) (fun i _ => h - (intOf i).toNat)
    case atStart => exact ⟨0, Nat.zero_le _, rfl, HB, HX4, k6, HRI, HRS⟩
    case round =>
      clear HB HX4 k6 HRI HRS
      obtain ⟨k, hk, rfl, HB, HX4, K6, HRI, HRS⟩ := hrel
      obtain ⟨sr, hx6, hsr, hnb⟩ := K6.out
      have HX6 := Lib.hid hx6
      have HSR := Lib.hid hsr
      have HNB := Lib.hid hnb
      clear hsr hnb K6
      by_cases hlt : k < h
      · have hlt2 : (k : Int) < h := by omega
        have hba : Bel wr (wr.alloc (.cells #[.int .i64 (-1)] 3)) := (Bel.refl wr).alloc _ _
        have hnew := heap_alloc_new wr (.cells #[.int .i64 (-1)] 3)
        obtain ⟨v', w', hrun, hown, hsv, hv, hob⟩ := app_more (w := wr.alloc (.cells #[.int .i64 (-1)] 3)) intTy (HSR.out.bel hba) (b := wr.heap.size) (o := 0) (m := 1) (c := 1) (r := [-1]) rfl (fun j x hj i u hu => by
          cases j with
          | succ j => simp at hj
          | zero =>
            have hxx : (-1 : Int) = x := by simpa using hj
            subst hxx
            cases i with
            | succ i => simp at hu
            | zero =>
              have hu' : Value.int .i64 (-1) = u := by simpa using hu
              rw [← hu']
              exact cell_of_heap hnew 0) (.inl (by omega)) (by rw [List.length_replicate]; omega) (by have := HB.out.size; have := hba.size; have := HG4.out; omega)
        obtain ⟨p', c', hve, _⟩ := ERow.form (enc := encI) (k := 1) (fun _ => rfl) hown
        obtain ⟨nl, hnl⟩ : ∃ nl, (List.replicate k (-1 : Int) ++ [-1]).length = nl := ⟨_, rfl⟩
        rw [hnl] at hve
        subst hve
        have hx6a := hba.stays hx6
        have hoff : ∀ {g : Nat} {cs : Array Value} {t' : TypeId}, (wr.alloc (.cells #[.int .i64 (-1)] 3)).heap[g]? = some (.cells cs t' (0, 0)) → t' ≠ 3 → sr.val.ownBlock ≠ some g := fun hg ht c => by
          obtain ⟨_, cs', h'⟩ := (HSR.out.bel hba).blk c
          rw [hg] at h'
          injection h' with h'
          injection h' with _ h' _
          exact ht h'
        have hx6b := (hsv.block g6 (lt_of_heap hx6a) (hoff hx6a (by decide))).trans hx6a
        have hx4a := hba.stays HX4.out
        have hx4b := (hsv.block g4 (lt_of_heap hx4a) (hoff hx4a (by decide))).trans hx4a
        have HRUN := Lib.hid hrun
        have HX6B := Lib.hid hx6b
        have HX4B := Lib.hid hx4b
        have HOWN := Lib.hid hown
        have HSV := Lib.hid hsv
        have HOB := Lib.hid hob
        have HBA := Lib.hid hba
        have k2 := cell_of_heap hx6 2
        have z2 := cell_of_heap hx6b 2
        have zf2 := frozen_of_heap hx6b 2
        simp only [List.getElem?_toArray, List.getElem?_cons_zero, List.getElem?_cons_succ] at k2 z2
        have hoff2 := Lib.hid (fun b hb => HNB.out b hb)
        clear hrun hown hsv hv hob hx6 hx6a hx6b hx4a hx4b hnew hba hnl hoff
        go_wp2_with (at_builtin; refine wpList_app rfl (.tmp 31) (.tmp 32) 24 rfl _ _ _ (by rfl) (by rfl) HRUN.out ?_)
        have hst : Svg g6 w' (w'.setCell ⟨g6, 2, none⟩ (.slice p' nl c')) := Svg.set _ _ _ _
        have hbw : Bel w w' := Sv.bel HSV.out (HB.out.trans HBA.out) (fun b hb => by have := (HSR.out.blk hb).1; have := HG4.out; omega)
        have hgwn : ∀ b, sr.val.ownBlock = some b → ¬ (some gw = some b) := fun b hb c => by injection c with c; exact HNB.out b hb c.symm
        exact ⟨⟨k + 1, by omega, by go_num, Lib.hid (hst.bel hbw (by have := HG4.out; have := HLE6.out; omega)), Lib.hid ((hst.block g4 (lt_of_heap HX4B.out) HN46.out).trans HX4B.out),
          Lib.hid ⟨⟨p', nl, c'⟩, heap_set HX6B.out 2 _, by
            have h1 := HOWN.out.keep hst HX6B.out (by decide)
            have e : List.replicate k (-1 : Int) ++ [-1] = List.replicate (k + 1) (-1) := by rw [List.replicate_succ']
            rw [← e]
            exact h1, fun b hb c => by
            subst c
            rcases HOB.out _ hb with h1 | h1
            · exact HNB.out _ h1 rfl
            · obtain ⟨_, cs9, h9⟩ := HRI.out.blk (b := b) rfl
              have h2 := lt_of_heap h9
              have h3 := HBA.out.size
              omega⟩,
          Lib.hid (((HRI.out.bel HBA.out).sv HSV.out (fun b hb c => HNB.out b c (by cases hb; rfl))).keep hst HX6B.out (by decide)), Lib.hid (((HRS.out.bel HBA.out).sv HSV.out (fun b hb c => by
            obtain ⟨_, cs1, h1⟩ := HRS.out.blk hb
            obtain ⟨_, cs2, h2⟩ := HSR.out.blk c
            exact absurd rfl (ne_of_heap h1 h2 (by decide)))).keep hst HX6B.out (by decide))⟩, by simp [intOf]; omega⟩
      · obtain rfl : k = h := by omega
        have k0 := cell_of_heap HX6.out 0
        have k1 := cell_of_heap HX6.out 1
        have k2 := cell_of_heap HX6.out 2
        have z0 := cell_of_heap HX4.out 0
        have z1 := cell_of_heap HX4.out 1
        have z2 := cell_of_heap HX4.out 2
        have zf0 := frozen_of_heap HX4.out 0
        have zf1 := frozen_of_heap HX4.out 1
        have zf2 := frozen_of_heap HX4.out 2
        simp only [List.getElem?_toArray, List.getElem?_cons_zero, List.getElem?_cons_succ] at k0 k1 k2 z0 z1 z2
        clear hx6
        go_wp2
        have hs3 := set3_svg wr g4 (.slice (some ⟨gw, 0, none⟩) n n) (.slice (some ⟨gp, 0, none⟩) k k) (.slice sr.p sr.n sr.c)
        have hh := set3_heap HX4.out (.slice (some ⟨gw, 0, none⟩) n n) (.slice (some ⟨gp, 0, none⟩) k k) (.slice sr.p sr.n sr.c)
        have hm : MemAt g4 wr ⟨⟨some ⟨gw, 0, none⟩, n, n⟩, ⟨some ⟨gp, 0, none⟩, k, k⟩, sr, List.replicate k nilS⟩ ⟨List.replicate n 0, List.replicate k [], List.replicate k (-1)⟩ :=
          ⟨HRI.out, HRS.out, by rw [List.length_replicate, List.length_replicate], fun i s l h1 h2 => by
            rw [List.eq_of_mem_replicate (List.mem_of_getElem? h1), List.eq_of_mem_replicate (List.mem_of_getElem? h2)]
            exact ERow.nil _ _ _ _ _, HSR.out, fun b hb c => by cases hb; exact HNB.out _ c rfl, fun i j s t b h1 h2 _ hb => by
            rw [List.eq_of_mem_replicate (List.mem_of_getElem? h1)] at hb
            cases hb⟩
        exact bodyPost_ret (results_cell_slot Try.results5 _ _ g4 _ _ _ _ _ rfl rfl hh Try.underlying27 rfl (by kernel_rfl)) rfl ⟨⟨⟨some ⟨gw, 0, none⟩, n, n⟩, ⟨some ⟨gp, 0, none⟩, k, k⟩, sr, List.replicate k nilS⟩, rfl, hs3.bel HB.out (by have := HG4.out; omega), by rw [HG4.out]; exact hm.keep hs3 HX4.out (by decide) (by decide) (by decide)⟩
theorem new_lit {h n : Int} {m' : Mem} {r : Int} (hr : newV h n = (m', r)) (w : World) : Calls Try.prog 5 #[.int .i64 h, .int .i64 n] w (Told m' r w) := by
  unfold newV at hr
  by_cases hc : 1 ≤ h ∧ h ≤ 4 ∧ 0 ≤ n ∧ n ≤ 4096
  · rw [decide_eq_true hc.1, decide_eq_true hc.2.1, decide_eq_true hc.2.2.1, decide_eq_true hc.2.2.2, if_pos (by rfl)] at hr
    obtain ⟨hN, rfl⟩ : ∃ hN : Nat, h = hN := ⟨h.toNat, by omega⟩
    obtain ⟨nN, rfl⟩ : ∃ nN : Nat, n = nN := ⟨n.toNat, by omega⟩
    injection hr with h1 h2
    rw [← h1, ← h2, Int.toNat_natCast, Int.toNat_natCast]
    exact new_yes (by omega) (by omega) (by omega) w
  · rw [if_neg (by simp only [Bool.and_eq_true, decide_eq_true_eq]; omega)] at hr
    injection hr with h1 h2
    rw [← h1, ← h2]
    exact new_err (by omega) w
end Go.Proofs.Ytobpoghophhphaa
