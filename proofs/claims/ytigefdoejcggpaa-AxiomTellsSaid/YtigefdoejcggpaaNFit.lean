/- Fit: of raw numbers, events that may be. -/
import Derived.Test.YtigefdoejcggpaaNOpen
namespace Go.Proofs.Ytigefdoejcggpaa
open Go.RowKit Ax
set_option linter.unusedVariables false
set_option linter.unusedSimpArgs false
def fitEv (x : Q4) : Ev := if pick x.1 7 = 6 then (pick x.2.1 3, 3, 0, 0) else (pick x.2.1 3, 1 + pick x.1 2, pick x.2.2.1 3, pick x.2.2.2 3)
def fitV (raw : List Q4) : List Ev := (raw.take 6).map fitEv
theorem fit_step {raw : List Q4} {j : Nat} {x : Q4} (hx : raw[j]? = some x) : (raw.take (j + 1)).map fitEv = (raw.take j).map fitEv ++ [fitEv x] := by
  rw [List.take_add_one, hx, List.map_append]
  rfl
theorem ofHeap4 {w : World} {g : Nat} {cs : Array Value} {t : TypeId} {fr : Nat × Nat} {a b c d : Value} (h : w.heap[g]? = some (.cells cs t fr)) (hc : cs = #[a, b, c, d]) : w.cell? ⟨g, 0, none⟩ = some a ∧ w.cell? ⟨g, 1, none⟩ = some b ∧ w.cell? ⟨g, 2, none⟩ = some c ∧ w.cell? ⟨g, 3, none⟩ = some d := by
  subst hc
  exact ⟨cell_of_heap h 0, cell_of_heap h 1, cell_of_heap h 2, cell_of_heap h 3⟩
/-- one thing more, of a slice literal of one -/
theorem push_one {α : Type} {enc : α → List Value} {k : Nat} {t T : TypeId} {bytes : Nat} (H : RowTy enc k t T bytes) {W : World} {base : Nat} {s : Sl} {l : List α} (h : ERow enc T k W base s.val l) {x : α} {cs : Array Value} (hcs : cs.toList = enc x) (hL : l.length + 1 ≤ 100000) (hb : base ≤ W.heap.size) {c : Nat} :
    ∃ (s' : Sl) (w' : World), (Builtin.append_ #[t, t] t #[s.val, .slice (some ⟨W.heap.size, 0, none⟩) 1 c]).run Try.prog (W.alloc (.cells cs T)) = .ok s'.val w' ∧ ERow enc T k w' base s'.val (l ++ [x]) ∧ Sv (fun b => s.val.ownBlock = some b) (W.alloc (.cells cs T)) w' ∧ (∀ w0, Bel w0 W → base = w0.heap.size → Bel w0 w') ∧ (∀ b, s'.val.ownBlock = some b → s.val.ownBlock = some b ∨ W.heap.size ≤ b) := by
  have hh := heap_alloc_new W (.cells cs T)
  have h2 : ERow enc T k (W.alloc (.cells cs T)) base s.val l := h.bel ((Bel.refl W).alloc _ _)
  obtain ⟨v', w', hrun, hown, hsv, hne, hob⟩ := app_more H h2 (b := W.heap.size) (o := 0) (m := 1) (c := c) (r := [x]) rfl (fun j y hj i v hv => by
    cases j with
    | zero =>
      cases hj
      rw [cell_of_heap hh, Nat.zero_mul, Nat.zero_add, ← Array.getElem?_toList, hcs]
      exact hv
    | succ j => simp at hj) (.inl (by omega)) hL (by rw [World.size_alloc]; omega)
  obtain ⟨p, c', hv, -, -⟩ := ERow.form H.len hown
  refine ⟨⟨p, (l ++ [x]).length, c'⟩, w', by rw [hrun, hv], by rw [show (Sl.val ⟨p, (l ++ [x]).length, c'⟩) = v' from hv.symm]; exact hown, hsv, fun w0 h0 he => ?_, fun b hb' => ?_⟩
  · refine Sv.bel hsv (h0.alloc _ _) fun b hb' => ?_
    obtain ⟨h3, -⟩ := ERow.blk h hb'
    omega
  · rw [show (Sl.val ⟨p, (l ++ [x]).length, c'⟩) = v' from hv.symm] at hb'
    rcases hob b hb' with h | h
    · exact .inl h
    · rw [World.size_alloc] at h
      exact .inr (by omega)
set_option maxRecDepth 100000 in
set_option maxHeartbeats 4000000 in
theorem fit_any {w : World} {p : Option Addr} {raw : List Q4} {n c : Nat} (hl : LAt w p raw) (hn : raw.length = n) (hw : ∀ x ∈ raw, in4 x) :
    Calls Try.prog 12 #[.slice p n c] w fun e w' => ∃ s : Sl, e = .returned s.val ∧ Bel w w' ∧ ERow encQ 26 4 w' w.heap.size s.val (fitV raw) := by
  have HL := Lib.hid hl
  have HN := Lib.hid hn
  have HW := Lib.hid hw
  clear hl hn hw
  go_enter Try.func12, Try.ntmps12
  go_wp2
  go_loopw [4, 3] (fun i v wr => ∃ (j : Nat) (s : Sl), j ≤ n ∧ j ≤ 6 ∧ i = .int .i64 j ∧ v = s.val ∧ Hid (Bel w wr) ∧ Hid (ERow encQ 26 4 wr w.heap.size s.val ((raw.take j).map fitEv))) (fun i _ _ => 6 - (intOf i).toNat)
  case atStart => exact ⟨0, ⟨none, 0, 0⟩, Nat.zero_le _, Nat.zero_le _, rfl, rfl, Lib.hid (Bel.refl _), Lib.hid (ERow.nil _ _ _ _ _)⟩
  case round =>
    obtain ⟨j, s, hj, hj6, rfl, rfl, HB, HE⟩ := hrel
    by_cases hlt : j < n
    · by_cases h6 : j < 6
      · obtain ⟨b, o, rfl, hb, hc⟩ := LAt.get (LAt.bel HL.out HB.out) (i0 := j) (by have := HN.out; omega)
        obtain ⟨c0, c1, c2, c3⟩ := hc j (by have := HN.out; omega)
        have HX : Hid (raw[j]? = some (ev raw j)) := Lib.hid (get_ev (by have := HN.out; omega))
        obtain ⟨w0, w1, w2, w3⟩ := HW.out _ (List.mem_of_getElem? HX.out)
        generalize ev raw j = x at c0 c1 c2 c3 HX w0 w1 w2 w3
        obtain ⟨x0, x1, x2, x3⟩ := x
        simp only at c0 c1 c2 c3 w0 w1 w2 w3
        obtain ⟨y0, h0⟩ : ∃ y, pick x1 3 = y := ⟨_, rfl⟩
        obtain ⟨y1, h1⟩ : ∃ y, pick x0 2 = y := ⟨_, rfl⟩
        obtain ⟨y2, h2⟩ : ∃ y, pick x2 3 = y := ⟨_, rfl⟩
        obtain ⟨y3, h3⟩ : ∃ y, pick x3 3 = y := ⟨_, rfl⟩
        obtain ⟨y7, h7⟩ : ∃ y, pick x0 7 = y := ⟨_, rfl⟩
        have b1 := pick_bd x0 (n := 2) (by decide)
        rw [h1] at b1
        have hwr : IntKind.i64.wrap (1 + y1) = 1 + y1 := IntWalk.i64_in _ (by omega)
        clear b1
        have HS := Lib.hid (fit_step HX.out)
        have HF : Hid (fitEv (x0, x1, x2, x3) = if y7 = 6 then (y0, 3, 0, 0) else (y0, 1 + y1, y2, y3)) := Lib.hid (by rw [← h0, ← h1, ← h2, ← h3, ← h7]; rfl)
        have H0 := Lib.hid h0
        have H1 := Lib.hid h1
        have H2 := Lib.hid h2
        have H3 := Lib.hid h3
        have H7 := Lib.hid h7
        have W0 := Lib.hid w0
        have W1 := Lib.hid w1
        have W2 := Lib.hid w2
        have W3 := Lib.hid w3
        have HC0 := Lib.hid c0
        have HC1 := Lib.hid c1
        have HC2 := Lib.hid c2
        have HC3 := Lib.hid c3
        have HLT := Lib.hid hb
        have hjn : (j : Int) < n := by omega
        have hj6' : (j : Int) < 6 := by omega
        clear h0 h1 h2 h3 h7 w0 w1 w2 w3 hc hb c0 c1 c2 c3
        have HKEEP : Hid (∀ w', Bel wr w' → w'.cell? ⟨b, o + j * 4, none⟩ = some (.int .i64 x0) ∧ w'.cell? ⟨b, o + j * 4 + 1, none⟩ = some (.int .i64 x1) ∧ w'.cell? ⟨b, o + j * 4 + 2, none⟩ = some (.int .i64 x2) ∧ w'.cell? ⟨b, o + j * 4 + 3, none⟩ = some (.int .i64 x3)) := Lib.hid (fun w' h => ⟨(h.cell (p := ⟨b, _, none⟩) HLT.out).trans HC0.out, (h.cell (p := ⟨b, _, none⟩) HLT.out).trans HC1.out, (h.cell (p := ⟨b, _, none⟩) HLT.out).trans HC2.out, (h.cell (p := ⟨b, _, none⟩) HLT.out).trans HC3.out⟩)
        go_upto_region 5 with (fail)
        go_region_held3 (fun w' => w'.cell? ⟨b, o + j * 4, none⟩ = some (.int .i64 x0) ∧ w'.cell? ⟨b, o + j * 4 + 1, none⟩ = some (.int .i64 x1) ∧ w'.cell? ⟨b, o + j * 4 + 2, none⟩ = some (.int .i64 x2) ∧ w'.cell? ⟨b, o + j * 4 + 3, none⟩ = some (.int .i64 x3))
          (first | exact HKEEP.out _ (Bel.refl wr).drew | exact HKEEP.out _ (Bel.refl wr) | exact HKEEP.out _ ((Bel.refl wr).alloc _ _) | exact HKEEP.out _ ((Bel.refl wr).alloc _ _).drew)
          (first | (go_at_call 14; ((with_reducible refine (pick_lit H0.out W1.out (by decide) _).mono ?_); rintro e wq ⟨rfl, rfl⟩)) | (go_at_call 14; ((with_reducible refine (pick_lit H1.out W0.out (by decide) _).mono ?_); rintro e wq ⟨rfl, rfl⟩)) | (go_at_call 14; ((with_reducible refine (pick_lit H2.out W2.out (by decide) _).mono ?_); rintro e wq ⟨rfl, rfl⟩)) | (go_at_call 14; ((with_reducible refine (pick_lit H3.out W3.out (by decide) _).mono ?_); rintro e wq ⟨rfl, rfl⟩)))
        all_goals
          have hb5 := ((Bel.refl wr).alloc #[.int .i64 y0, .int .i64 (1 + y1), .int .i64 y2, .int .i64 y3] 26).drew
          obtain ⟨m0, -, -, -⟩ := HKEEP.out _ hb5
          go_upto_region 6 with (fail)
          by_cases hy : y7 = 6
          · have ey : (y7 == 6) = true := by simp [hy]
            have HF2 : Hid (fitEv (x0, x1, x2, x3) = (y0, 3, 0, 0)) := Lib.hid (by rw [HF.out, if_pos hy])
            clear hy
            go_upto_region 8 with (go_at_call 14; ((with_reducible refine (pick_lit H7.out W0.out (by decide) _).mono ?_); rintro e wq ⟨rfl, rfl⟩))
            have hb6 : Bel wr (wr.alloc (.cells #[.int .i64 y0, .int .i64 3, .int .i64 0, .int .i64 0] 26)).drew := ((Bel.refl wr).alloc _ _).drew
            have hx6 : (wr.alloc (.cells #[.int .i64 y0, .int .i64 3, .int .i64 0, .int .i64 0] 26)).drew.heap[wr.heap.size]? = some (.cells #[.int .i64 y0, .int .i64 3, .int .i64 0, .int .i64 0] 26 (0, 0)) := heap_alloc_new wr _
            generalize hWW : (wr.alloc (.cells #[.int .i64 y0, .int .i64 3, .int .i64 0, .int .i64 0] 26)).drew = W6 at hb6 hx6 ⊢
            clear hWW m0
            generalize wr.heap.size = g5 at hx6 ⊢
            have q0 := cell_of_heap hx6 0
            have q1 := cell_of_heap hx6 1
            have q2 := cell_of_heap hx6 2
            have q3 := cell_of_heap hx6 3
            simp only [List.getElem?_toArray, List.getElem?_cons_zero, List.getElem?_cons_succ] at q0 q1 q2 q3
            obtain ⟨s', w9, hrun, hown, -, hbel, -⟩ := push_one evTy (HE.out.bel hb6) (x := fitEv (x0, x1, x2, x3)) (cs := #[.int .i64 y0, .int .i64 3, .int .i64 0, .int .i64 0]) (by rw [HF2.out]) (c := 1) (by rw [List.length_map, List.length_take]; omega) ((HB.out.trans hb6).size)
            have HRUN := Lib.hid hrun
            have HE9 : Hid (ERow encQ 26 4 w9 w.heap.size s'.val ((raw.take (j + 1)).map fitEv)) := Lib.hid (by rw [HS.out]; exact hown)
            have HB9 := Lib.hid (hbel _ (HB.out.trans hb6) rfl)
            clear hrun hown hbel hx6 hb6
            go_wp2_with (at_builtin; refine wpList_app rfl (.tmp 52) (.tmp 54) 22 rfl _ _ _ (by rfl) (by rfl) HRUN.out ?_)
            exact ⟨⟨j + 1, s', by omega, by omega, by go_num, rfl, HB9, HE9⟩, by simp [intOf]; omega⟩
          · have ey : (y7 == 6) = false := by simp [hy]
            have HF2 : Hid (fitEv (x0, x1, x2, x3) = (y0, 1 + y1, y2, y3)) := Lib.hid (by rw [HF.out, if_neg hy])
            clear hy
            go_upto_region 8 with (go_at_call 14; ((with_reducible refine (pick_lit H7.out W0.out (by decide) _).mono ?_); rintro e wq ⟨rfl, rfl⟩))
            have hb6 : Bel wr (wr.alloc (.cells #[.int .i64 y0, .int .i64 (1 + y1), .int .i64 y2, .int .i64 y3] 26)).drew := ((Bel.refl wr).alloc _ _).drew
            have hx6 : (wr.alloc (.cells #[.int .i64 y0, .int .i64 (1 + y1), .int .i64 y2, .int .i64 y3] 26)).drew.heap[wr.heap.size]? = some (.cells #[.int .i64 y0, .int .i64 (1 + y1), .int .i64 y2, .int .i64 y3] 26 (0, 0)) := heap_alloc_new wr _
            generalize hWW : (wr.alloc (.cells #[.int .i64 y0, .int .i64 (1 + y1), .int .i64 y2, .int .i64 y3] 26)).drew = W6 at hb6 hx6 ⊢
            clear hWW m0
            generalize wr.heap.size = g5 at hx6 ⊢
            have q0 := cell_of_heap hx6 0
            have q1 := cell_of_heap hx6 1
            have q2 := cell_of_heap hx6 2
            have q3 := cell_of_heap hx6 3
            simp only [List.getElem?_toArray, List.getElem?_cons_zero, List.getElem?_cons_succ] at q0 q1 q2 q3
            obtain ⟨s', w9, hrun, hown, -, hbel, -⟩ := push_one evTy (HE.out.bel hb6) (x := fitEv (x0, x1, x2, x3)) (cs := #[.int .i64 y0, .int .i64 (1 + y1), .int .i64 y2, .int .i64 y3]) (by rw [HF2.out]) (c := 1) (by rw [List.length_map, List.length_take]; omega) ((HB.out.trans hb6).size)
            have HRUN := Lib.hid hrun
            have HE9 : Hid (ERow encQ 26 4 w9 w.heap.size s'.val ((raw.take (j + 1)).map fitEv)) := Lib.hid (by rw [HS.out]; exact hown)
            have HB9 := Lib.hid (hbel _ (HB.out.trans hb6) rfl)
            clear hrun hown hbel hx6 hb6
            go_wp2_with (at_builtin; refine wpList_app rfl (.tmp 52) (.tmp 54) 22 rfl _ _ _ (by rfl) (by rfl) HRUN.out ?_)
            exact ⟨⟨j + 1, s', by omega, by omega, by go_num, rfl, HB9, HE9⟩, by simp [intOf]; omega⟩
      · have hjn : (j : Int) < n := by omega
        have hj6' : ¬ (j : Int) < 6 := by omega
        go_wp2
        go_ret
        have HZ : Hid (fitV raw = (raw.take j).map fitEv) := Lib.hid (show (raw.take 6).map fitEv = _ by rw [show j = 6 by omega])
        exact ⟨s, rfl, HB.out, by rw [HZ.out]; exact HE.out⟩
    · have hjn : ¬ (j : Int) < n := by omega
      go_wp2
      go_ret
      have HZ : Hid (fitV raw = (raw.take j).map fitEv) := Lib.hid (by unfold fitV; rw [List.take_of_length_le (by have := HN.out; omega), List.take_of_length_le (by have := HN.out; omega)])
      exact ⟨s, rfl, HB.out, by rw [HZ.out]; exact HE.out⟩
end Go.Proofs.Ytigefdoejcggpaa
