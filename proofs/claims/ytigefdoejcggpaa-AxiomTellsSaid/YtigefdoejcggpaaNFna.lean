/- loaded, mayBeNext. -/
import Derived.Test.YtigefdoejcggpaaNFn9
namespace Go.Proofs.Ytigefdoejcggpaa
open Go.RowKit Ax
set_option linter.unusedVariables false
set_option linter.unusedSimpArgs false
theorem ldk_succ (l : List Ev) (s : St) (i k : Nat) : ldk l s i (k + 1) = if ahd l k i && pw l i k && !(bit s k) then (ev l k).2.2.2 else ldk l s i k := by
  unfold ldk
  rw [List.range_succ, List.foldl_append]
  rfl
set_option maxRecDepth 100000 in
set_option maxHeartbeats 2000000 in
theorem loaded_lit {w : World} {p : Option Addr} {l : List Ev} {n c gm : Nat} (hl : LAt w p l) (hn : l.length = n) (hmax : n ≤ 8) {h : Nat} {a0 a1 a2 a3 : Int} (hh : h < 256) {i : Nat} (hi : i < n) (hat : 0 ≤ (ev l i).2.2.1 ∧ (ev l i).2.2.1 < 4) {r : Int} (hr : loadV l ⟨h, a0, a1, a2, a3⟩ i = r) :
    Calls Try.prog 53 #[.agg #[.slice p n c, .map (some gm)], .agg #[.int .i64 (h : Int), .int .i64 a0, .int .i64 a1, .int .i64 a2, .int .i64 a3], .int .i64 (i : Int)] w (OneI r w) := by
  obtain ⟨hb, hx3, hx4⟩ := box2 w #[.slice p n c, .map (some gm)] 55 #[.int .i64 (h : Int), .int .i64 a0, .int .i64 a1, .int .i64 a2, .int .i64 a3] 58
  have HL := Lib.hid (LAt.bel hl hb)
  obtain ⟨b, ol, rfl, hbl, hcl⟩ := LAt.get HL.out (i0 := i) (by omega)
  obtain ⟨-, -, d2, -⟩ := hcl i (by omega)
  obtain ⟨t, ht⟩ : ∃ t : Nat, (ev l i).2.2.1 = t := ⟨(ev l i).2.2.1.toNat, by omega⟩
  have ht4 : t < 4 := by omega
  have HT := Lib.hid ht
  rw [ht] at d2
  have hwd : (#[.int .i64 (h : Int), .int .i64 a0, .int .i64 a1, .int .i64 a2, .int .i64 a3] : Array Value)[1 + t]? = some (.int .i64 (wat (a0, a1, a2, a3) (ev l i).2.2.1)) := by
    rw [ht]
    have : t = 0 ∨ t = 1 ∨ t = 2 ∨ t = 3 := by omega
    rcases this with rfl | rfl | rfl | rfl <;> rfl
  have H0 : Hid (ldk l ⟨h, a0, a1, a2, a3⟩ i 0 = wat (a0, a1, a2, a3) (ev l i).2.2.1) := Lib.hid rfl
  generalize wat (a0, a1, a2, a3) (ev l i).2.2.1 = y0 at hwd H0
  have HWD := Lib.hid hwd
  have HR := Lib.hid hr
  have HN := Lib.hid hn
  have HI := Lib.hid hi
  have HHH := Lib.hid hh
  have HX3 := Lib.hid hx3
  have HX4 := Lib.hid hx4
  have HB := Lib.hid hb
  have HD2 := Lib.hid d2
  have HLT := Lib.hid hbl
  have hi2 : (i : Int) < n := by omega
  have ht0 : (t : Int) < 4 := by omega
  have HLTW := HLT
  clear hl hn hi hh hx3 hx4 hb d2 hbl hcl hat hr hwd ht
  go_enter Try.func53, Try.ntmps53
  go_upto_region 1 with (fail)
  generalize hWW : ((w.alloc (.cells #[.slice (some ⟨b, ol, none⟩) n c, .map (some gm)] 55)).alloc (.cells #[.int .i64 (h : Int), .int .i64 a0, .int .i64 a1, .int .i64 a2, .int .i64 a3] 58)) = W1 at *
  clear hWW
  generalize w.heap.size + 1 = g4 at HX4 ⊢
  generalize w.heap.size = g3 at HX3 ⊢
  have k30 := cell_of_heap HX3.out 0
  simp only [List.getElem?_toArray, List.getElem?_cons_zero] at k30
  have k4t := (cell_of_heap HX4.out (1 + t)).trans HWD.out
  have d2 := HD2.out
  go_wp2
  clear k30 k4t d2
  go_loopw [19, 7] (fun j v wr => ∃ k : Nat, k ≤ i ∧ j = .int .i64 k ∧ v = .int .i64 (ldk l ⟨h, a0, a1, a2, a3⟩ i k) ∧ Hid (Bel W1 wr)) (fun j _ _ => i - (intOf j).toNat)
  case atStart => exact ⟨0, Nat.zero_le _, rfl, by rw [H0.out], Lib.hid (Bel.refl _)⟩
  case round =>
    obtain ⟨k, hk, rfl, rfl, HBR⟩ := hrel
    by_cases hlt : k < i
    · have HLR := Lib.hid (LAt.bel HL.out HBR.out)
      obtain ⟨b', ol', e, -, hcl⟩ := LAt.get HLR.out (i0 := k) (by have := HN.out; have := HI.out; omega)
      injection e with e
      injection e with e1 e2
      subst e1
      subst e2
      obtain ⟨c0, c1, c2, c3⟩ := hcl k (by have := HN.out; have := HI.out; omega)
      have HKN : Hid (k < n) := Lib.hid (by have := HI.out; omega)
      have HK8 : Hid (k < 8) := Lib.hid (by have := HI.out; omega)
      have hk2 : (k : Int) < n := by have := HI.out; omega
      have hki : (k : Int) < i := by omega
      have hst := ldk_succ l ⟨h, a0, a1, a2, a3⟩ i k
      obtain ⟨u, hu⟩ : ∃ u, ahd l k i = u := ⟨_, rfl⟩
      obtain ⟨s, hs⟩ : ∃ s, pw l i k = s := ⟨_, rfl⟩
      obtain ⟨z, hz⟩ : ∃ z, h.testBit k = z := ⟨_, rfl⟩
      rw [hu, hs, show bit ⟨h, a0, a1, a2, a3⟩ k = z from hz] at hst
      have HU := Lib.hid hu
      have HZ := Lib.hid hz
      have HS : Hid (isSt ((ev l k).1, (ev l k).2.1, (ev l k).2.2.1, (ev l k).2.2.2) (t : Int) = s) := Lib.hid (by rw [← hs, ← HT.out]; rfl)
      generalize (ev l k).1 = x0 at c0 HS
      generalize (ev l k).2.1 = x1 at c1 HS
      generalize (ev l k).2.2.1 = x2 at c2 HS
      generalize (ev l k).2.2.2 = x3 at c3 HS hst
      have HST := Lib.hid hst
      generalize ldk l ⟨h, a0, a1, a2, a3⟩ i k = y at HST ⊢
      have HC0 := Lib.hid c0
      have HC1 := Lib.hid c1
      have HC2 := Lib.hid c2
      have HC3 := Lib.hid c3
      have HLT := Lib.hid (Nat.lt_of_lt_of_le HLT.out HBR.out.size)
      have HX3 := Lib.hid (HBR.out.stays HX3.out)
      have HX4 := Lib.hid (HBR.out.stays HX4.out)
      have HD2 := Lib.hid ((HBR.out.cell (p := ⟨b, _, none⟩) HLTW.out).trans HD2.out)
      clear c0 c1 c2 c3 hcl hu hs hz hst
      have HKEEP : Hid (∀ w', Bel wr w' → w'.cell? ⟨g3, 0, none⟩ = some (.slice (some ⟨b, ol, none⟩) n c) ∧ w'.cell? ⟨g4, 0, none⟩ = some (.int .i64 (h : Int)) ∧ w'.cell? ⟨g4, 1, none⟩ = some (.int .i64 a0) ∧ w'.cell? ⟨g4, 2, none⟩ = some (.int .i64 a1) ∧ w'.cell? ⟨g4, 3, none⟩ = some (.int .i64 a2) ∧ w'.cell? ⟨g4, 4, none⟩ = some (.int .i64 a3) ∧ w'.cell? ⟨b, ol + k * 4, none⟩ = some (.int .i64 x0) ∧ w'.cell? ⟨b, ol + k * 4 + 1, none⟩ = some (.int .i64 x1) ∧ w'.cell? ⟨b, ol + k * 4 + 2, none⟩ = some (.int .i64 x2) ∧ w'.cell? ⟨b, ol + k * 4 + 3, none⟩ = some (.int .i64 x3) ∧ w'.cell? ⟨b, ol + i * 4 + 2, none⟩ = some (.int .i64 (t : Int))) := Lib.hid (fun w' hk => ⟨cell_of_heap (hk.stays HX3.out) 0, cell_of_heap (hk.stays HX4.out) 0, cell_of_heap (hk.stays HX4.out) 1, cell_of_heap (hk.stays HX4.out) 2, cell_of_heap (hk.stays HX4.out) 3, cell_of_heap (hk.stays HX4.out) 4, (hk.cell (p := ⟨b, _, none⟩) HLT.out).trans HC0.out, (hk.cell (p := ⟨b, _, none⟩) HLT.out).trans HC1.out, (hk.cell (p := ⟨b, _, none⟩) HLT.out).trans HC2.out, (hk.cell (p := ⟨b, _, none⟩) HLT.out).trans HC3.out, (hk.cell (p := ⟨b, _, none⟩) HLT.out).trans HD2.out⟩)
      have HBC : Hid (Bel wr wr.drew) := Lib.hid (Bel.refl wr).drew
      cases u
      · go_upto_region 5 with (fail)
        refine wp_region_held_drew (S := (fun w' => w'.cell? ⟨g3, 0, none⟩ = some (.slice (some ⟨b, ol, none⟩) n c) ∧ w'.cell? ⟨g4, 0, none⟩ = some (.int .i64 (h : Int)) ∧ w'.cell? ⟨g4, 1, none⟩ = some (.int .i64 a0) ∧ w'.cell? ⟨g4, 2, none⟩ = some (.int .i64 a1) ∧ w'.cell? ⟨g4, 3, none⟩ = some (.int .i64 a2) ∧ w'.cell? ⟨g4, 4, none⟩ = some (.int .i64 a3) ∧ w'.cell? ⟨b, ol + k * 4, none⟩ = some (.int .i64 x0) ∧ w'.cell? ⟨b, ol + k * 4 + 1, none⟩ = some (.int .i64 x1) ∧ w'.cell? ⟨b, ol + k * 4 + 2, none⟩ = some (.int .i64 x2) ∧ w'.cell? ⟨b, ol + k * 4 + 3, none⟩ = some (.int .i64 x3) ∧ w'.cell? ⟨b, ol + i * 4 + 2, none⟩ = some (.int .i64 (t : Int)))) (by kernel_rfl) (HKEEP.out _ ((Bel.refl wr).drew)) (fun hS0 => ?_)
        refine takeD 22 (i := 0) (v := ?v1) rfl rfl (by kernel_rfl) (by kernel_rfl) (by kernel_rfl) (fun _ _ _ h => h) (by kernel_rfl) ?hy1 hS0 ?rest1
        case hy1 => (intro w0 hSw; obtain ⟨s0, s1, s2, s3, s4, s5, s6, s7, s8, s9, s10⟩ := hSw; first | (go_simp; done) | (go_simp; with_reducible rfl))
        simp only [List.setIfInBounds_toArray, List.set_cons_zero, List.set_cons_succ]
        refine takeD 23 (i := 1) (v := ?v2) rfl rfl (by kernel_rfl) (by kernel_rfl) (by kernel_rfl) (fun _ _ _ h => h) (by kernel_rfl) ?hy2 hS0 ?rest2
        case hy2 => (intro w0 hSw; obtain ⟨s0, s1, s2, s3, s4, s5, s6, s7, s8, s9, s10⟩ := hSw; first | (go_simp; done) | (go_simp; with_reducible rfl))
        simp only [List.setIfInBounds_toArray, List.set_cons_zero, List.set_cons_succ]
        refine takeD 24 (i := 2) (v := ?v3) rfl rfl (by kernel_rfl) (by kernel_rfl) (by kernel_rfl) (fun _ _ _ h => h) (by kernel_rfl) ?hy3 hS0 ?rest3
        case hy3 => (intro w0 hSw; obtain ⟨s0, s1, s2, s3, s4, s5, s6, s7, s8, s9, s10⟩ := hSw; first | (go_simp; done) | (go_simp; with_reducible rfl))
        simp only [List.setIfInBounds_toArray, List.set_cons_zero, List.set_cons_succ]
        refine takeD 25 (i := 3) (v := ?v4) rfl rfl (by kernel_rfl) (by kernel_rfl) (by kernel_rfl) (fun _ _ _ h => h) (by kernel_rfl) ?hy4 hS0 ?rest4
        case hy4 => (intro w0 hSw; obtain ⟨s0, s1, s2, s3, s4, s5, s6, s7, s8, s9, s10⟩ := hSw; first | (go_simp; done) | (go_simp; with_reducible rfl))
        simp only [List.setIfInBounds_toArray, List.set_cons_zero, List.set_cons_succ]
        refine onlyD 26 (i := 4) rfl rfl (by kernel_rfl) (by kernel_rfl) (fun K hK => ?_)
        go_simp
        go_at_call 44
        refine (ahd_lit (LAt.bel HLR.out ((Bel.refl wr).drew)) HN.out HKN.out HI.out HU.out).mono ?_
        rintro e whb11 ⟨rfl, hb11⟩
        have hS1 := HKEEP.out _ (((Bel.refl wr).drew).trans hb11)
        refine hK.out _ _ hS1 (fun _ => ?_)
        clear hK K
        simp only [List.setIfInBounds_toArray, List.set_cons_zero, List.set_cons_succ]
        refine takeD 27 (i := 5) (v := ?v5) rfl rfl (by kernel_rfl) (by kernel_rfl) (by kernel_rfl) (fun _ _ _ h => h) (by kernel_rfl) ?hy5 hS1 ?rest5
        case hy5 => (intro w0 hSw; obtain ⟨s0, s1, s2, s3, s4, s5, s6, s7, s8, s9, s10⟩ := hSw; first | (go_simp; done) | (go_simp; with_reducible rfl))
        simp only [List.setIfInBounds_toArray, List.set_cons_zero, List.set_cons_succ]
        refine skipD 28 (i := 6) rfl rfl (by kernel_rfl) (by kernel_rfl) (by kernel_rfl) (fun _ _ _ h => h) (by kernel_rfl) hS1 ?_
        simp only [List.setIfInBounds_toArray, List.set_cons_zero, List.set_cons_succ]
        refine skipD 29 (i := 7) rfl rfl (by kernel_rfl) (by kernel_rfl) (by kernel_rfl) (fun _ _ _ h => h) (by kernel_rfl) hS1 ?_
        simp only [List.setIfInBounds_toArray, List.set_cons_zero, List.set_cons_succ]
        refine skipD 30 (i := 8) rfl rfl (by kernel_rfl) (by kernel_rfl) (by kernel_rfl) (fun _ _ _ h => h) (by kernel_rfl) hS1 ?_
        simp only [List.setIfInBounds_toArray, List.set_cons_zero, List.set_cons_succ]
        refine skipD 31 (i := 9) rfl rfl (by kernel_rfl) (by kernel_rfl) (by kernel_rfl) (fun _ _ _ h => h) (by kernel_rfl) hS1 ?_
        simp only [List.setIfInBounds_toArray, List.set_cons_zero, List.set_cons_succ]
        refine skipD 32 (i := 10) rfl rfl (by kernel_rfl) (by kernel_rfl) (by kernel_rfl) (fun _ _ _ h => h) (by kernel_rfl) hS1 ?_
        simp only [List.setIfInBounds_toArray, List.set_cons_zero, List.set_cons_succ]
        refine skipD 33 (i := 11) rfl rfl (by kernel_rfl) (by kernel_rfl) (by kernel_rfl) (fun _ _ _ h => h) (by kernel_rfl) hS1 ?_
        simp only [List.setIfInBounds_toArray, List.set_cons_zero, List.set_cons_succ]
        refine skipD 34 (i := 12) rfl rfl (by kernel_rfl) (by kernel_rfl) (by kernel_rfl) (fun _ _ _ h => h) (by kernel_rfl) hS1 ?_
        simp only [List.setIfInBounds_toArray, List.set_cons_zero, List.set_cons_succ]
        refine skipD 35 (i := 13) rfl rfl (by kernel_rfl) (by kernel_rfl) (by kernel_rfl) (fun _ _ _ h => h) (by kernel_rfl) hS1 ?_
        simp only [List.setIfInBounds_toArray, List.set_cons_zero, List.set_cons_succ]
        refine skipD 36 (i := 14) rfl rfl (by kernel_rfl) (by kernel_rfl) (by kernel_rfl) (fun _ _ _ h => h) (by kernel_rfl) hS1 ?_
        simp only [List.setIfInBounds_toArray, List.set_cons_zero, List.set_cons_succ]
        refine skipD 37 (i := 15) rfl rfl (by kernel_rfl) (by kernel_rfl) (by kernel_rfl) (fun _ _ _ h => h) (by kernel_rfl) hS1 ?_
        simp only [List.setIfInBounds_toArray, List.set_cons_zero, List.set_cons_succ]
        refine skipD 38 (i := 16) rfl rfl (by kernel_rfl) (by kernel_rfl) (by kernel_rfl) (fun _ _ _ h => h) (by kernel_rfl) hS1 ?_
        simp only [List.setIfInBounds_toArray, List.set_cons_zero, List.set_cons_succ]
        refine skipD 39 (i := 17) rfl rfl (by kernel_rfl) (by kernel_rfl) (by kernel_rfl) (fun _ _ _ h => h) (by kernel_rfl) hS1 ?_
        simp only [List.setIfInBounds_toArray, List.set_cons_zero, List.set_cons_succ]
        refine takeD 40 (i := 18) (v := ?v6) rfl rfl (by kernel_rfl) (by kernel_rfl) (by kernel_rfl) (fun _ _ _ h => h) (by kernel_rfl) ?hy6 hS1 ?rest6
        case hy6 => (intro w0 hSw; obtain ⟨s0, s1, s2, s3, s4, s5, s6, s7, s8, s9, s10⟩ := hSw; first | (go_simp; done) | (go_simp; with_reducible rfl))
        simp only [List.setIfInBounds_toArray, List.set_cons_zero, List.set_cons_succ]
        refine takeD 41 (i := 19) (v := ?v7) rfl rfl (by kernel_rfl) (by kernel_rfl) (by kernel_rfl) (fun _ _ _ h => h) (by kernel_rfl) ?hy7 hS1 ?rest7
        case hy7 => (intro w0 hSw; obtain ⟨s0, s1, s2, s3, s4, s5, s6, s7, s8, s9, s10⟩ := hSw; first | (go_simp; done) | (go_simp; with_reducible rfl))
        simp only [List.setIfInBounds_toArray, List.set_cons_zero, List.set_cons_succ]
        refine skipD 42 (i := 20) rfl rfl (by kernel_rfl) (by kernel_rfl) (by kernel_rfl) (fun _ _ _ h => h) (by kernel_rfl) hS1 ?_
        simp only [List.setIfInBounds_toArray, List.set_cons_zero, List.set_cons_succ]
        refine skipD 43 (i := 21) rfl rfl (by kernel_rfl) (by kernel_rfl) (by kernel_rfl) (fun _ _ _ h => h) (by kernel_rfl) hS1 ?_
        simp only [List.setIfInBounds_toArray, List.set_cons_zero, List.set_cons_succ]
        refine skipD 44 (i := 22) rfl rfl (by kernel_rfl) (by kernel_rfl) (by kernel_rfl) (fun _ _ _ h => h) (by kernel_rfl) hS1 ?_
        simp only [List.setIfInBounds_toArray, List.set_cons_zero, List.set_cons_succ]
        refine skipD 45 (i := 23) rfl rfl (by kernel_rfl) (by kernel_rfl) (by kernel_rfl) (fun _ _ _ h => h) (by kernel_rfl) hS1 ?_
        simp only [List.setIfInBounds_toArray, List.set_cons_zero, List.set_cons_succ]
        refine takeD 46 (i := 24) (v := ?v8) rfl rfl (by kernel_rfl) (by kernel_rfl) (by kernel_rfl) (fun _ _ _ h => h) (by kernel_rfl) ?hy8 hS1 ?rest8
        case hy8 => (intro w0 hSw; obtain ⟨s0, s1, s2, s3, s4, s5, s6, s7, s8, s9, s10⟩ := hSw; first | (go_simp; done) | (go_simp; with_reducible rfl))
        simp only [List.setIfInBounds_toArray, List.set_cons_zero, List.set_cons_succ]
        refine wpAnyH_done (by kernel_rfl) ?_ _
        have HBC := Lib.hid (((Bel.refl wr).drew).trans hb11)
        clear hb11 hS0 hS1
        obtain ⟨s30, -, -, -, -, -, -, -, -, s3, -⟩ := HKEEP.out _ HBC.out
        go_wp2
        exact ⟨⟨k + 1, by omega, by go_num, by rw [HST.out]; rfl, Lib.hid (HBR.out.trans HBC.out)⟩, by simp [intOf]; omega⟩
      cases s
      · go_upto_region 5 with (fail)
        refine wp_region_held_drew (S := (fun w' => w'.cell? ⟨g3, 0, none⟩ = some (.slice (some ⟨b, ol, none⟩) n c) ∧ w'.cell? ⟨g4, 0, none⟩ = some (.int .i64 (h : Int)) ∧ w'.cell? ⟨g4, 1, none⟩ = some (.int .i64 a0) ∧ w'.cell? ⟨g4, 2, none⟩ = some (.int .i64 a1) ∧ w'.cell? ⟨g4, 3, none⟩ = some (.int .i64 a2) ∧ w'.cell? ⟨g4, 4, none⟩ = some (.int .i64 a3) ∧ w'.cell? ⟨b, ol + k * 4, none⟩ = some (.int .i64 x0) ∧ w'.cell? ⟨b, ol + k * 4 + 1, none⟩ = some (.int .i64 x1) ∧ w'.cell? ⟨b, ol + k * 4 + 2, none⟩ = some (.int .i64 x2) ∧ w'.cell? ⟨b, ol + k * 4 + 3, none⟩ = some (.int .i64 x3) ∧ w'.cell? ⟨b, ol + i * 4 + 2, none⟩ = some (.int .i64 (t : Int)))) (by kernel_rfl) (HKEEP.out _ ((Bel.refl wr).drew)) (fun hS0 => ?_)
        refine takeD 22 (i := 0) (v := ?v9) rfl rfl (by kernel_rfl) (by kernel_rfl) (by kernel_rfl) (fun _ _ _ h => h) (by kernel_rfl) ?hy9 hS0 ?rest9
        case hy9 => (intro w0 hSw; obtain ⟨s0, s1, s2, s3, s4, s5, s6, s7, s8, s9, s10⟩ := hSw; first | (go_simp; done) | (go_simp; with_reducible rfl))
        simp only [List.setIfInBounds_toArray, List.set_cons_zero, List.set_cons_succ]
        refine takeD 23 (i := 1) (v := ?v10) rfl rfl (by kernel_rfl) (by kernel_rfl) (by kernel_rfl) (fun _ _ _ h => h) (by kernel_rfl) ?hy10 hS0 ?rest10
        case hy10 => (intro w0 hSw; obtain ⟨s0, s1, s2, s3, s4, s5, s6, s7, s8, s9, s10⟩ := hSw; first | (go_simp; done) | (go_simp; with_reducible rfl))
        simp only [List.setIfInBounds_toArray, List.set_cons_zero, List.set_cons_succ]
        refine takeD 24 (i := 2) (v := ?v11) rfl rfl (by kernel_rfl) (by kernel_rfl) (by kernel_rfl) (fun _ _ _ h => h) (by kernel_rfl) ?hy11 hS0 ?rest11
        case hy11 => (intro w0 hSw; obtain ⟨s0, s1, s2, s3, s4, s5, s6, s7, s8, s9, s10⟩ := hSw; first | (go_simp; done) | (go_simp; with_reducible rfl))
        simp only [List.setIfInBounds_toArray, List.set_cons_zero, List.set_cons_succ]
        refine takeD 25 (i := 3) (v := ?v12) rfl rfl (by kernel_rfl) (by kernel_rfl) (by kernel_rfl) (fun _ _ _ h => h) (by kernel_rfl) ?hy12 hS0 ?rest12
        case hy12 => (intro w0 hSw; obtain ⟨s0, s1, s2, s3, s4, s5, s6, s7, s8, s9, s10⟩ := hSw; first | (go_simp; done) | (go_simp; with_reducible rfl))
        simp only [List.setIfInBounds_toArray, List.set_cons_zero, List.set_cons_succ]
        refine onlyD 26 (i := 4) rfl rfl (by kernel_rfl) (by kernel_rfl) (fun K hK => ?_)
        go_simp
        go_at_call 44
        refine (ahd_lit (LAt.bel HLR.out ((Bel.refl wr).drew)) HN.out HKN.out HI.out HU.out).mono ?_
        rintro e whb11 ⟨rfl, hb11⟩
        have hS1 := HKEEP.out _ (((Bel.refl wr).drew).trans hb11)
        refine hK.out _ _ hS1 (fun _ => ?_)
        clear hK K
        simp only [List.setIfInBounds_toArray, List.set_cons_zero, List.set_cons_succ]
        refine takeD 27 (i := 5) (v := ?v13) rfl rfl (by kernel_rfl) (by kernel_rfl) (by kernel_rfl) (fun _ _ _ h => h) (by kernel_rfl) ?hy13 hS1 ?rest13
        case hy13 => (intro w0 hSw; obtain ⟨s0, s1, s2, s3, s4, s5, s6, s7, s8, s9, s10⟩ := hSw; first | (go_simp; done) | (go_simp; with_reducible rfl))
        simp only [List.setIfInBounds_toArray, List.set_cons_zero, List.set_cons_succ]
        refine takeD 28 (i := 6) (v := ?v14) rfl rfl (by kernel_rfl) (by kernel_rfl) (by kernel_rfl) (fun _ _ _ h => h) (by kernel_rfl) ?hy14 hS1 ?rest14
        case hy14 => (intro w0 hSw; obtain ⟨s0, s1, s2, s3, s4, s5, s6, s7, s8, s9, s10⟩ := hSw; first | (go_simp; done) | (go_simp; with_reducible rfl))
        simp only [List.setIfInBounds_toArray, List.set_cons_zero, List.set_cons_succ]
        refine takeD 29 (i := 7) (v := ?v15) rfl rfl (by kernel_rfl) (by kernel_rfl) (by kernel_rfl) (fun _ _ _ h => h) (by kernel_rfl) ?hy15 hS1 ?rest15
        case hy15 => (intro w0 hSw; obtain ⟨s0, s1, s2, s3, s4, s5, s6, s7, s8, s9, s10⟩ := hSw; first | (go_simp; done) | (go_simp; with_reducible rfl))
        simp only [List.setIfInBounds_toArray, List.set_cons_zero, List.set_cons_succ]
        refine takeD 30 (i := 8) (v := ?v16) rfl rfl (by kernel_rfl) (by kernel_rfl) (by kernel_rfl) (fun _ _ _ h => h) (by kernel_rfl) ?hy16 hS1 ?rest16
        case hy16 => (intro w0 hSw; obtain ⟨s0, s1, s2, s3, s4, s5, s6, s7, s8, s9, s10⟩ := hSw; first | (go_simp; done) | (go_simp; with_reducible rfl))
        simp only [List.setIfInBounds_toArray, List.set_cons_zero, List.set_cons_succ]
        refine takeD 31 (i := 9) (v := ?v17) rfl rfl (by kernel_rfl) (by kernel_rfl) (by kernel_rfl) (fun _ _ _ h => h) (by kernel_rfl) ?hy17 hS1 ?rest17
        case hy17 => (intro w0 hSw; obtain ⟨s0, s1, s2, s3, s4, s5, s6, s7, s8, s9, s10⟩ := hSw; first | (go_simp; done) | (go_simp; with_reducible rfl))
        simp only [List.setIfInBounds_toArray, List.set_cons_zero, List.set_cons_succ]
        refine takeD 32 (i := 10) (v := ?v18) rfl rfl (by kernel_rfl) (by kernel_rfl) (by kernel_rfl) (fun _ _ _ h => h) (by kernel_rfl) ?hy18 hS1 ?rest18
        case hy18 => (intro w0 hSw; obtain ⟨s0, s1, s2, s3, s4, s5, s6, s7, s8, s9, s10⟩ := hSw; first | (go_simp; done) | (go_simp; with_reducible rfl))
        simp only [List.setIfInBounds_toArray, List.set_cons_zero, List.set_cons_succ]
        refine takeD 33 (i := 11) (v := ?v19) rfl rfl (by kernel_rfl) (by kernel_rfl) (by kernel_rfl) (fun _ _ _ h => h) (by kernel_rfl) ?hy19 hS1 ?rest19
        case hy19 => (intro w0 hSw; obtain ⟨s0, s1, s2, s3, s4, s5, s6, s7, s8, s9, s10⟩ := hSw; first | (go_simp; done) | (go_simp; with_reducible rfl))
        simp only [List.setIfInBounds_toArray, List.set_cons_zero, List.set_cons_succ]
        refine takeD 34 (i := 12) (v := ?v20) rfl rfl (by kernel_rfl) (by kernel_rfl) (by kernel_rfl) (fun _ _ _ h => h) (by kernel_rfl) ?hy20 hS1 ?rest20
        case hy20 => (intro w0 hSw; obtain ⟨s0, s1, s2, s3, s4, s5, s6, s7, s8, s9, s10⟩ := hSw; first | (go_simp; done) | (go_simp; with_reducible rfl))
        simp only [List.setIfInBounds_toArray, List.set_cons_zero, List.set_cons_succ]
        refine takeD 35 (i := 13) (v := ?v21) rfl rfl (by kernel_rfl) (by kernel_rfl) (by kernel_rfl) (fun _ _ _ h => h) (by kernel_rfl) ?hy21 hS1 ?rest21
        case hy21 => (intro w0 hSw; obtain ⟨s0, s1, s2, s3, s4, s5, s6, s7, s8, s9, s10⟩ := hSw; first | (go_simp; done) | (go_simp; with_reducible rfl))
        simp only [List.setIfInBounds_toArray, List.set_cons_zero, List.set_cons_succ]
        refine takeD 36 (i := 14) (v := ?v22) rfl rfl (by kernel_rfl) (by kernel_rfl) (by kernel_rfl) (fun _ _ _ h => h) (by kernel_rfl) ?hy22 hS1 ?rest22
        case hy22 => (intro w0 hSw; obtain ⟨s0, s1, s2, s3, s4, s5, s6, s7, s8, s9, s10⟩ := hSw; first | (go_simp; done) | (go_simp; with_reducible rfl))
        simp only [List.setIfInBounds_toArray, List.set_cons_zero, List.set_cons_succ]
        refine takeD 37 (i := 15) (v := ?v23) rfl rfl (by kernel_rfl) (by kernel_rfl) (by kernel_rfl) (fun _ _ _ h => h) (by kernel_rfl) ?hy23 hS1 ?rest23
        case hy23 => (intro w0 hSw; obtain ⟨s0, s1, s2, s3, s4, s5, s6, s7, s8, s9, s10⟩ := hSw; first | (go_simp; done) | (go_simp; with_reducible rfl))
        simp only [List.setIfInBounds_toArray, List.set_cons_zero, List.set_cons_succ]
        refine takeD 38 (i := 16) (v := ?v24) rfl rfl (by kernel_rfl) (by kernel_rfl) (by kernel_rfl) (fun _ _ _ h => h) (by kernel_rfl) ?hy24 hS1 ?rest24
        case hy24 => (intro w0 hSw; obtain ⟨s0, s1, s2, s3, s4, s5, s6, s7, s8, s9, s10⟩ := hSw; first | (go_simp; done) | (go_simp; with_reducible rfl))
        simp only [List.setIfInBounds_toArray, List.set_cons_zero, List.set_cons_succ]
        refine onlyD 39 (i := 17) rfl rfl (by kernel_rfl) (by kernel_rfl) (fun K hK => ?_)
        go_simp
        go_at_call 43
        refine (isSt_lit HS.out _).mono ?_
        rintro e whb12 ⟨rfl, hb12⟩
        have hS2 := HKEEP.out _ ((((Bel.refl wr).drew).trans hb11).trans hb12)
        refine hK.out _ _ hS2 (fun _ => ?_)
        clear hK K
        simp only [List.setIfInBounds_toArray, List.set_cons_zero, List.set_cons_succ]
        refine takeD 40 (i := 18) (v := ?v25) rfl rfl (by kernel_rfl) (by kernel_rfl) (by kernel_rfl) (fun _ _ _ h => h) (by kernel_rfl) ?hy25 hS2 ?rest25
        case hy25 => (intro w0 hSw; obtain ⟨s0, s1, s2, s3, s4, s5, s6, s7, s8, s9, s10⟩ := hSw; first | (go_simp; done) | (go_simp; with_reducible rfl))
        simp only [List.setIfInBounds_toArray, List.set_cons_zero, List.set_cons_succ]
        refine takeD 41 (i := 19) (v := ?v26) rfl rfl (by kernel_rfl) (by kernel_rfl) (by kernel_rfl) (fun _ _ _ h => h) (by kernel_rfl) ?hy26 hS2 ?rest26
        case hy26 => (intro w0 hSw; obtain ⟨s0, s1, s2, s3, s4, s5, s6, s7, s8, s9, s10⟩ := hSw; first | (go_simp; done) | (go_simp; with_reducible rfl))
        simp only [List.setIfInBounds_toArray, List.set_cons_zero, List.set_cons_succ]
        refine skipD 42 (i := 20) rfl rfl (by kernel_rfl) (by kernel_rfl) (by kernel_rfl) (fun _ _ _ h => h) (by kernel_rfl) hS2 ?_
        simp only [List.setIfInBounds_toArray, List.set_cons_zero, List.set_cons_succ]
        refine skipD 43 (i := 21) rfl rfl (by kernel_rfl) (by kernel_rfl) (by kernel_rfl) (fun _ _ _ h => h) (by kernel_rfl) hS2 ?_
        simp only [List.setIfInBounds_toArray, List.set_cons_zero, List.set_cons_succ]
        refine skipD 44 (i := 22) rfl rfl (by kernel_rfl) (by kernel_rfl) (by kernel_rfl) (fun _ _ _ h => h) (by kernel_rfl) hS2 ?_
        simp only [List.setIfInBounds_toArray, List.set_cons_zero, List.set_cons_succ]
        refine skipD 45 (i := 23) rfl rfl (by kernel_rfl) (by kernel_rfl) (by kernel_rfl) (fun _ _ _ h => h) (by kernel_rfl) hS2 ?_
        simp only [List.setIfInBounds_toArray, List.set_cons_zero, List.set_cons_succ]
        refine takeD 46 (i := 24) (v := ?v27) rfl rfl (by kernel_rfl) (by kernel_rfl) (by kernel_rfl) (fun _ _ _ h => h) (by kernel_rfl) ?hy27 hS2 ?rest27
        case hy27 => (intro w0 hSw; obtain ⟨s0, s1, s2, s3, s4, s5, s6, s7, s8, s9, s10⟩ := hSw; first | (go_simp; done) | (go_simp; with_reducible rfl))
        simp only [List.setIfInBounds_toArray, List.set_cons_zero, List.set_cons_succ]
        refine wpAnyH_done (by kernel_rfl) ?_ _
        have HBC := Lib.hid ((((Bel.refl wr).drew).trans hb11).trans hb12)
        clear hb11 hb12 hS0 hS1 hS2
        obtain ⟨s30, -, -, -, -, -, -, -, -, s3, -⟩ := HKEEP.out _ HBC.out
        go_wp2
        exact ⟨⟨k + 1, by omega, by go_num, by rw [HST.out]; rfl, Lib.hid (HBR.out.trans HBC.out)⟩, by simp [intOf]; omega⟩
      cases z
      · go_upto_region 5 with (fail)
        refine wp_region_held_drew (S := (fun w' => w'.cell? ⟨g3, 0, none⟩ = some (.slice (some ⟨b, ol, none⟩) n c) ∧ w'.cell? ⟨g4, 0, none⟩ = some (.int .i64 (h : Int)) ∧ w'.cell? ⟨g4, 1, none⟩ = some (.int .i64 a0) ∧ w'.cell? ⟨g4, 2, none⟩ = some (.int .i64 a1) ∧ w'.cell? ⟨g4, 3, none⟩ = some (.int .i64 a2) ∧ w'.cell? ⟨g4, 4, none⟩ = some (.int .i64 a3) ∧ w'.cell? ⟨b, ol + k * 4, none⟩ = some (.int .i64 x0) ∧ w'.cell? ⟨b, ol + k * 4 + 1, none⟩ = some (.int .i64 x1) ∧ w'.cell? ⟨b, ol + k * 4 + 2, none⟩ = some (.int .i64 x2) ∧ w'.cell? ⟨b, ol + k * 4 + 3, none⟩ = some (.int .i64 x3) ∧ w'.cell? ⟨b, ol + i * 4 + 2, none⟩ = some (.int .i64 (t : Int)))) (by kernel_rfl) (HKEEP.out _ ((Bel.refl wr).drew)) (fun hS0 => ?_)
        refine takeD 22 (i := 0) (v := ?v28) rfl rfl (by kernel_rfl) (by kernel_rfl) (by kernel_rfl) (fun _ _ _ h => h) (by kernel_rfl) ?hy28 hS0 ?rest28
        case hy28 => (intro w0 hSw; obtain ⟨s0, s1, s2, s3, s4, s5, s6, s7, s8, s9, s10⟩ := hSw; first | (go_simp; done) | (go_simp; with_reducible rfl))
        simp only [List.setIfInBounds_toArray, List.set_cons_zero, List.set_cons_succ]
        refine takeD 23 (i := 1) (v := ?v29) rfl rfl (by kernel_rfl) (by kernel_rfl) (by kernel_rfl) (fun _ _ _ h => h) (by kernel_rfl) ?hy29 hS0 ?rest29
        case hy29 => (intro w0 hSw; obtain ⟨s0, s1, s2, s3, s4, s5, s6, s7, s8, s9, s10⟩ := hSw; first | (go_simp; done) | (go_simp; with_reducible rfl))
        simp only [List.setIfInBounds_toArray, List.set_cons_zero, List.set_cons_succ]
        refine takeD 24 (i := 2) (v := ?v30) rfl rfl (by kernel_rfl) (by kernel_rfl) (by kernel_rfl) (fun _ _ _ h => h) (by kernel_rfl) ?hy30 hS0 ?rest30
        case hy30 => (intro w0 hSw; obtain ⟨s0, s1, s2, s3, s4, s5, s6, s7, s8, s9, s10⟩ := hSw; first | (go_simp; done) | (go_simp; with_reducible rfl))
        simp only [List.setIfInBounds_toArray, List.set_cons_zero, List.set_cons_succ]
        refine takeD 25 (i := 3) (v := ?v31) rfl rfl (by kernel_rfl) (by kernel_rfl) (by kernel_rfl) (fun _ _ _ h => h) (by kernel_rfl) ?hy31 hS0 ?rest31
        case hy31 => (intro w0 hSw; obtain ⟨s0, s1, s2, s3, s4, s5, s6, s7, s8, s9, s10⟩ := hSw; first | (go_simp; done) | (go_simp; with_reducible rfl))
        simp only [List.setIfInBounds_toArray, List.set_cons_zero, List.set_cons_succ]
        refine onlyD 26 (i := 4) rfl rfl (by kernel_rfl) (by kernel_rfl) (fun K hK => ?_)
        go_simp
        go_at_call 44
        refine (ahd_lit (LAt.bel HLR.out ((Bel.refl wr).drew)) HN.out HKN.out HI.out HU.out).mono ?_
        rintro e whb11 ⟨rfl, hb11⟩
        have hS1 := HKEEP.out _ (((Bel.refl wr).drew).trans hb11)
        refine hK.out _ _ hS1 (fun _ => ?_)
        clear hK K
        simp only [List.setIfInBounds_toArray, List.set_cons_zero, List.set_cons_succ]
        refine takeD 27 (i := 5) (v := ?v32) rfl rfl (by kernel_rfl) (by kernel_rfl) (by kernel_rfl) (fun _ _ _ h => h) (by kernel_rfl) ?hy32 hS1 ?rest32
        case hy32 => (intro w0 hSw; obtain ⟨s0, s1, s2, s3, s4, s5, s6, s7, s8, s9, s10⟩ := hSw; first | (go_simp; done) | (go_simp; with_reducible rfl))
        simp only [List.setIfInBounds_toArray, List.set_cons_zero, List.set_cons_succ]
        refine takeD 28 (i := 6) (v := ?v33) rfl rfl (by kernel_rfl) (by kernel_rfl) (by kernel_rfl) (fun _ _ _ h => h) (by kernel_rfl) ?hy33 hS1 ?rest33
        case hy33 => (intro w0 hSw; obtain ⟨s0, s1, s2, s3, s4, s5, s6, s7, s8, s9, s10⟩ := hSw; first | (go_simp; done) | (go_simp; with_reducible rfl))
        simp only [List.setIfInBounds_toArray, List.set_cons_zero, List.set_cons_succ]
        refine takeD 29 (i := 7) (v := ?v34) rfl rfl (by kernel_rfl) (by kernel_rfl) (by kernel_rfl) (fun _ _ _ h => h) (by kernel_rfl) ?hy34 hS1 ?rest34
        case hy34 => (intro w0 hSw; obtain ⟨s0, s1, s2, s3, s4, s5, s6, s7, s8, s9, s10⟩ := hSw; first | (go_simp; done) | (go_simp; with_reducible rfl))
        simp only [List.setIfInBounds_toArray, List.set_cons_zero, List.set_cons_succ]
        refine takeD 30 (i := 8) (v := ?v35) rfl rfl (by kernel_rfl) (by kernel_rfl) (by kernel_rfl) (fun _ _ _ h => h) (by kernel_rfl) ?hy35 hS1 ?rest35
        case hy35 => (intro w0 hSw; obtain ⟨s0, s1, s2, s3, s4, s5, s6, s7, s8, s9, s10⟩ := hSw; first | (go_simp; done) | (go_simp; with_reducible rfl))
        simp only [List.setIfInBounds_toArray, List.set_cons_zero, List.set_cons_succ]
        refine takeD 31 (i := 9) (v := ?v36) rfl rfl (by kernel_rfl) (by kernel_rfl) (by kernel_rfl) (fun _ _ _ h => h) (by kernel_rfl) ?hy36 hS1 ?rest36
        case hy36 => (intro w0 hSw; obtain ⟨s0, s1, s2, s3, s4, s5, s6, s7, s8, s9, s10⟩ := hSw; first | (go_simp; done) | (go_simp; with_reducible rfl))
        simp only [List.setIfInBounds_toArray, List.set_cons_zero, List.set_cons_succ]
        refine takeD 32 (i := 10) (v := ?v37) rfl rfl (by kernel_rfl) (by kernel_rfl) (by kernel_rfl) (fun _ _ _ h => h) (by kernel_rfl) ?hy37 hS1 ?rest37
        case hy37 => (intro w0 hSw; obtain ⟨s0, s1, s2, s3, s4, s5, s6, s7, s8, s9, s10⟩ := hSw; first | (go_simp; done) | (go_simp; with_reducible rfl))
        simp only [List.setIfInBounds_toArray, List.set_cons_zero, List.set_cons_succ]
        refine takeD 33 (i := 11) (v := ?v38) rfl rfl (by kernel_rfl) (by kernel_rfl) (by kernel_rfl) (fun _ _ _ h => h) (by kernel_rfl) ?hy38 hS1 ?rest38
        case hy38 => (intro w0 hSw; obtain ⟨s0, s1, s2, s3, s4, s5, s6, s7, s8, s9, s10⟩ := hSw; first | (go_simp; done) | (go_simp; with_reducible rfl))
        simp only [List.setIfInBounds_toArray, List.set_cons_zero, List.set_cons_succ]
        refine takeD 34 (i := 12) (v := ?v39) rfl rfl (by kernel_rfl) (by kernel_rfl) (by kernel_rfl) (fun _ _ _ h => h) (by kernel_rfl) ?hy39 hS1 ?rest39
        case hy39 => (intro w0 hSw; obtain ⟨s0, s1, s2, s3, s4, s5, s6, s7, s8, s9, s10⟩ := hSw; first | (go_simp; done) | (go_simp; with_reducible rfl))
        simp only [List.setIfInBounds_toArray, List.set_cons_zero, List.set_cons_succ]
        refine takeD 35 (i := 13) (v := ?v40) rfl rfl (by kernel_rfl) (by kernel_rfl) (by kernel_rfl) (fun _ _ _ h => h) (by kernel_rfl) ?hy40 hS1 ?rest40
        case hy40 => (intro w0 hSw; obtain ⟨s0, s1, s2, s3, s4, s5, s6, s7, s8, s9, s10⟩ := hSw; first | (go_simp; done) | (go_simp; with_reducible rfl))
        simp only [List.setIfInBounds_toArray, List.set_cons_zero, List.set_cons_succ]
        refine takeD 36 (i := 14) (v := ?v41) rfl rfl (by kernel_rfl) (by kernel_rfl) (by kernel_rfl) (fun _ _ _ h => h) (by kernel_rfl) ?hy41 hS1 ?rest41
        case hy41 => (intro w0 hSw; obtain ⟨s0, s1, s2, s3, s4, s5, s6, s7, s8, s9, s10⟩ := hSw; first | (go_simp; done) | (go_simp; with_reducible rfl))
        simp only [List.setIfInBounds_toArray, List.set_cons_zero, List.set_cons_succ]
        refine takeD 37 (i := 15) (v := ?v42) rfl rfl (by kernel_rfl) (by kernel_rfl) (by kernel_rfl) (fun _ _ _ h => h) (by kernel_rfl) ?hy42 hS1 ?rest42
        case hy42 => (intro w0 hSw; obtain ⟨s0, s1, s2, s3, s4, s5, s6, s7, s8, s9, s10⟩ := hSw; first | (go_simp; done) | (go_simp; with_reducible rfl))
        simp only [List.setIfInBounds_toArray, List.set_cons_zero, List.set_cons_succ]
        refine takeD 38 (i := 16) (v := ?v43) rfl rfl (by kernel_rfl) (by kernel_rfl) (by kernel_rfl) (fun _ _ _ h => h) (by kernel_rfl) ?hy43 hS1 ?rest43
        case hy43 => (intro w0 hSw; obtain ⟨s0, s1, s2, s3, s4, s5, s6, s7, s8, s9, s10⟩ := hSw; first | (go_simp; done) | (go_simp; with_reducible rfl))
        simp only [List.setIfInBounds_toArray, List.set_cons_zero, List.set_cons_succ]
        refine onlyD 39 (i := 17) rfl rfl (by kernel_rfl) (by kernel_rfl) (fun K hK => ?_)
        go_simp
        go_at_call 43
        refine (isSt_lit HS.out _).mono ?_
        rintro e whb12 ⟨rfl, hb12⟩
        have hS2 := HKEEP.out _ ((((Bel.refl wr).drew).trans hb11).trans hb12)
        refine hK.out _ _ hS2 (fun _ => ?_)
        clear hK K
        simp only [List.setIfInBounds_toArray, List.set_cons_zero, List.set_cons_succ]
        refine takeD 40 (i := 18) (v := ?v44) rfl rfl (by kernel_rfl) (by kernel_rfl) (by kernel_rfl) (fun _ _ _ h => h) (by kernel_rfl) ?hy44 hS2 ?rest44
        case hy44 => (intro w0 hSw; obtain ⟨s0, s1, s2, s3, s4, s5, s6, s7, s8, s9, s10⟩ := hSw; first | (go_simp; done) | (go_simp; with_reducible rfl))
        simp only [List.setIfInBounds_toArray, List.set_cons_zero, List.set_cons_succ]
        refine takeD 41 (i := 19) (v := ?v45) rfl rfl (by kernel_rfl) (by kernel_rfl) (by kernel_rfl) (fun _ _ _ h => h) (by kernel_rfl) ?hy45 hS2 ?rest45
        case hy45 => (intro w0 hSw; obtain ⟨s0, s1, s2, s3, s4, s5, s6, s7, s8, s9, s10⟩ := hSw; first | (go_simp; done) | (go_simp; with_reducible rfl))
        simp only [List.setIfInBounds_toArray, List.set_cons_zero, List.set_cons_succ]
        refine takeD 42 (i := 20) (v := ?v46) rfl rfl (by kernel_rfl) (by kernel_rfl) (by kernel_rfl) (fun _ _ _ h => h) (by kernel_rfl) ?hy46 hS2 ?rest46
        case hy46 => (intro w0 hSw; obtain ⟨s0, s1, s2, s3, s4, s5, s6, s7, s8, s9, s10⟩ := hSw; first | (go_simp; done) | (go_simp; with_reducible rfl))
        simp only [List.setIfInBounds_toArray, List.set_cons_zero, List.set_cons_succ]
        refine takeD 43 (i := 21) (v := ?v47) rfl rfl (by kernel_rfl) (by kernel_rfl) (by kernel_rfl) (fun _ _ _ h => h) (by kernel_rfl) ?hy47 hS2 ?rest47
        case hy47 => (intro w0 hSw; obtain ⟨s0, s1, s2, s3, s4, s5, s6, s7, s8, s9, s10⟩ := hSw; first | (go_simp; done) | (go_simp; with_reducible rfl))
        simp only [List.setIfInBounds_toArray, List.set_cons_zero, List.set_cons_succ]
        refine onlyD 44 (i := 22) rfl rfl (by kernel_rfl) (by kernel_rfl) (fun K hK => ?_)
        go_simp
        go_at_call 49
        refine (is_lit HHH.out HK8.out HZ.out _).mono ?_
        rintro e whb13 ⟨rfl, hb13⟩
        have hS3 := HKEEP.out _ (((((Bel.refl wr).drew).trans hb11).trans hb12).trans hb13)
        refine hK.out _ _ hS3 (fun _ => ?_)
        clear hK K
        simp only [List.setIfInBounds_toArray, List.set_cons_zero, List.set_cons_succ]
        refine takeD 45 (i := 23) (v := ?v48) rfl rfl (by kernel_rfl) (by kernel_rfl) (by kernel_rfl) (fun _ _ _ h => h) (by kernel_rfl) ?hy48 hS3 ?rest48
        case hy48 => (intro w0 hSw; obtain ⟨s0, s1, s2, s3, s4, s5, s6, s7, s8, s9, s10⟩ := hSw; first | (go_simp; done) | (go_simp; with_reducible rfl))
        simp only [List.setIfInBounds_toArray, List.set_cons_zero, List.set_cons_succ]
        refine takeD 46 (i := 24) (v := ?v49) rfl rfl (by kernel_rfl) (by kernel_rfl) (by kernel_rfl) (fun _ _ _ h => h) (by kernel_rfl) ?hy49 hS3 ?rest49
        case hy49 => (intro w0 hSw; obtain ⟨s0, s1, s2, s3, s4, s5, s6, s7, s8, s9, s10⟩ := hSw; first | (go_simp; done) | (go_simp; with_reducible rfl))
        simp only [List.setIfInBounds_toArray, List.set_cons_zero, List.set_cons_succ]
        refine wpAnyH_done (by kernel_rfl) ?_ _
        have HBC := Lib.hid (((((Bel.refl wr).drew).trans hb11).trans hb12).trans hb13)
        clear hb11 hb12 hb13 hS0 hS1 hS2 hS3
        obtain ⟨s30, -, -, -, -, -, -, -, -, s3, -⟩ := HKEEP.out _ HBC.out
        go_wp2
        exact ⟨⟨k + 1, by omega, by go_num, by rw [HST.out]; rfl, Lib.hid (HBR.out.trans HBC.out)⟩, by simp [intOf]; omega⟩
      · go_upto_region 5 with (fail)
        refine wp_region_held_drew (S := (fun w' => w'.cell? ⟨g3, 0, none⟩ = some (.slice (some ⟨b, ol, none⟩) n c) ∧ w'.cell? ⟨g4, 0, none⟩ = some (.int .i64 (h : Int)) ∧ w'.cell? ⟨g4, 1, none⟩ = some (.int .i64 a0) ∧ w'.cell? ⟨g4, 2, none⟩ = some (.int .i64 a1) ∧ w'.cell? ⟨g4, 3, none⟩ = some (.int .i64 a2) ∧ w'.cell? ⟨g4, 4, none⟩ = some (.int .i64 a3) ∧ w'.cell? ⟨b, ol + k * 4, none⟩ = some (.int .i64 x0) ∧ w'.cell? ⟨b, ol + k * 4 + 1, none⟩ = some (.int .i64 x1) ∧ w'.cell? ⟨b, ol + k * 4 + 2, none⟩ = some (.int .i64 x2) ∧ w'.cell? ⟨b, ol + k * 4 + 3, none⟩ = some (.int .i64 x3) ∧ w'.cell? ⟨b, ol + i * 4 + 2, none⟩ = some (.int .i64 (t : Int)))) (by kernel_rfl) (HKEEP.out _ ((Bel.refl wr).drew)) (fun hS0 => ?_)
        refine takeD 22 (i := 0) (v := ?v50) rfl rfl (by kernel_rfl) (by kernel_rfl) (by kernel_rfl) (fun _ _ _ h => h) (by kernel_rfl) ?hy50 hS0 ?rest50
        case hy50 => (intro w0 hSw; obtain ⟨s0, s1, s2, s3, s4, s5, s6, s7, s8, s9, s10⟩ := hSw; first | (go_simp; done) | (go_simp; with_reducible rfl))
        simp only [List.setIfInBounds_toArray, List.set_cons_zero, List.set_cons_succ]
        refine takeD 23 (i := 1) (v := ?v51) rfl rfl (by kernel_rfl) (by kernel_rfl) (by kernel_rfl) (fun _ _ _ h => h) (by kernel_rfl) ?hy51 hS0 ?rest51
        case hy51 => (intro w0 hSw; obtain ⟨s0, s1, s2, s3, s4, s5, s6, s7, s8, s9, s10⟩ := hSw; first | (go_simp; done) | (go_simp; with_reducible rfl))
        simp only [List.setIfInBounds_toArray, List.set_cons_zero, List.set_cons_succ]
        refine takeD 24 (i := 2) (v := ?v52) rfl rfl (by kernel_rfl) (by kernel_rfl) (by kernel_rfl) (fun _ _ _ h => h) (by kernel_rfl) ?hy52 hS0 ?rest52
        case hy52 => (intro w0 hSw; obtain ⟨s0, s1, s2, s3, s4, s5, s6, s7, s8, s9, s10⟩ := hSw; first | (go_simp; done) | (go_simp; with_reducible rfl))
        simp only [List.setIfInBounds_toArray, List.set_cons_zero, List.set_cons_succ]
        refine takeD 25 (i := 3) (v := ?v53) rfl rfl (by kernel_rfl) (by kernel_rfl) (by kernel_rfl) (fun _ _ _ h => h) (by kernel_rfl) ?hy53 hS0 ?rest53
        case hy53 => (intro w0 hSw; obtain ⟨s0, s1, s2, s3, s4, s5, s6, s7, s8, s9, s10⟩ := hSw; first | (go_simp; done) | (go_simp; with_reducible rfl))
        simp only [List.setIfInBounds_toArray, List.set_cons_zero, List.set_cons_succ]
        refine onlyD 26 (i := 4) rfl rfl (by kernel_rfl) (by kernel_rfl) (fun K hK => ?_)
        go_simp
        go_at_call 44
        refine (ahd_lit (LAt.bel HLR.out ((Bel.refl wr).drew)) HN.out HKN.out HI.out HU.out).mono ?_
        rintro e whb11 ⟨rfl, hb11⟩
        have hS1 := HKEEP.out _ (((Bel.refl wr).drew).trans hb11)
        refine hK.out _ _ hS1 (fun _ => ?_)
        clear hK K
        simp only [List.setIfInBounds_toArray, List.set_cons_zero, List.set_cons_succ]
        refine takeD 27 (i := 5) (v := ?v54) rfl rfl (by kernel_rfl) (by kernel_rfl) (by kernel_rfl) (fun _ _ _ h => h) (by kernel_rfl) ?hy54 hS1 ?rest54
        case hy54 => (intro w0 hSw; obtain ⟨s0, s1, s2, s3, s4, s5, s6, s7, s8, s9, s10⟩ := hSw; first | (go_simp; done) | (go_simp; with_reducible rfl))
        simp only [List.setIfInBounds_toArray, List.set_cons_zero, List.set_cons_succ]
        refine takeD 28 (i := 6) (v := ?v55) rfl rfl (by kernel_rfl) (by kernel_rfl) (by kernel_rfl) (fun _ _ _ h => h) (by kernel_rfl) ?hy55 hS1 ?rest55
        case hy55 => (intro w0 hSw; obtain ⟨s0, s1, s2, s3, s4, s5, s6, s7, s8, s9, s10⟩ := hSw; first | (go_simp; done) | (go_simp; with_reducible rfl))
        simp only [List.setIfInBounds_toArray, List.set_cons_zero, List.set_cons_succ]
        refine takeD 29 (i := 7) (v := ?v56) rfl rfl (by kernel_rfl) (by kernel_rfl) (by kernel_rfl) (fun _ _ _ h => h) (by kernel_rfl) ?hy56 hS1 ?rest56
        case hy56 => (intro w0 hSw; obtain ⟨s0, s1, s2, s3, s4, s5, s6, s7, s8, s9, s10⟩ := hSw; first | (go_simp; done) | (go_simp; with_reducible rfl))
        simp only [List.setIfInBounds_toArray, List.set_cons_zero, List.set_cons_succ]
        refine takeD 30 (i := 8) (v := ?v57) rfl rfl (by kernel_rfl) (by kernel_rfl) (by kernel_rfl) (fun _ _ _ h => h) (by kernel_rfl) ?hy57 hS1 ?rest57
        case hy57 => (intro w0 hSw; obtain ⟨s0, s1, s2, s3, s4, s5, s6, s7, s8, s9, s10⟩ := hSw; first | (go_simp; done) | (go_simp; with_reducible rfl))
        simp only [List.setIfInBounds_toArray, List.set_cons_zero, List.set_cons_succ]
        refine takeD 31 (i := 9) (v := ?v58) rfl rfl (by kernel_rfl) (by kernel_rfl) (by kernel_rfl) (fun _ _ _ h => h) (by kernel_rfl) ?hy58 hS1 ?rest58
        case hy58 => (intro w0 hSw; obtain ⟨s0, s1, s2, s3, s4, s5, s6, s7, s8, s9, s10⟩ := hSw; first | (go_simp; done) | (go_simp; with_reducible rfl))
        simp only [List.setIfInBounds_toArray, List.set_cons_zero, List.set_cons_succ]
        refine takeD 32 (i := 10) (v := ?v59) rfl rfl (by kernel_rfl) (by kernel_rfl) (by kernel_rfl) (fun _ _ _ h => h) (by kernel_rfl) ?hy59 hS1 ?rest59
        case hy59 => (intro w0 hSw; obtain ⟨s0, s1, s2, s3, s4, s5, s6, s7, s8, s9, s10⟩ := hSw; first | (go_simp; done) | (go_simp; with_reducible rfl))
        simp only [List.setIfInBounds_toArray, List.set_cons_zero, List.set_cons_succ]
        refine takeD 33 (i := 11) (v := ?v60) rfl rfl (by kernel_rfl) (by kernel_rfl) (by kernel_rfl) (fun _ _ _ h => h) (by kernel_rfl) ?hy60 hS1 ?rest60
        case hy60 => (intro w0 hSw; obtain ⟨s0, s1, s2, s3, s4, s5, s6, s7, s8, s9, s10⟩ := hSw; first | (go_simp; done) | (go_simp; with_reducible rfl))
        simp only [List.setIfInBounds_toArray, List.set_cons_zero, List.set_cons_succ]
        refine takeD 34 (i := 12) (v := ?v61) rfl rfl (by kernel_rfl) (by kernel_rfl) (by kernel_rfl) (fun _ _ _ h => h) (by kernel_rfl) ?hy61 hS1 ?rest61
        case hy61 => (intro w0 hSw; obtain ⟨s0, s1, s2, s3, s4, s5, s6, s7, s8, s9, s10⟩ := hSw; first | (go_simp; done) | (go_simp; with_reducible rfl))
        simp only [List.setIfInBounds_toArray, List.set_cons_zero, List.set_cons_succ]
        refine takeD 35 (i := 13) (v := ?v62) rfl rfl (by kernel_rfl) (by kernel_rfl) (by kernel_rfl) (fun _ _ _ h => h) (by kernel_rfl) ?hy62 hS1 ?rest62
        case hy62 => (intro w0 hSw; obtain ⟨s0, s1, s2, s3, s4, s5, s6, s7, s8, s9, s10⟩ := hSw; first | (go_simp; done) | (go_simp; with_reducible rfl))
        simp only [List.setIfInBounds_toArray, List.set_cons_zero, List.set_cons_succ]
        refine takeD 36 (i := 14) (v := ?v63) rfl rfl (by kernel_rfl) (by kernel_rfl) (by kernel_rfl) (fun _ _ _ h => h) (by kernel_rfl) ?hy63 hS1 ?rest63
        case hy63 => (intro w0 hSw; obtain ⟨s0, s1, s2, s3, s4, s5, s6, s7, s8, s9, s10⟩ := hSw; first | (go_simp; done) | (go_simp; with_reducible rfl))
        simp only [List.setIfInBounds_toArray, List.set_cons_zero, List.set_cons_succ]
        refine takeD 37 (i := 15) (v := ?v64) rfl rfl (by kernel_rfl) (by kernel_rfl) (by kernel_rfl) (fun _ _ _ h => h) (by kernel_rfl) ?hy64 hS1 ?rest64
        case hy64 => (intro w0 hSw; obtain ⟨s0, s1, s2, s3, s4, s5, s6, s7, s8, s9, s10⟩ := hSw; first | (go_simp; done) | (go_simp; with_reducible rfl))
        simp only [List.setIfInBounds_toArray, List.set_cons_zero, List.set_cons_succ]
        refine takeD 38 (i := 16) (v := ?v65) rfl rfl (by kernel_rfl) (by kernel_rfl) (by kernel_rfl) (fun _ _ _ h => h) (by kernel_rfl) ?hy65 hS1 ?rest65
        case hy65 => (intro w0 hSw; obtain ⟨s0, s1, s2, s3, s4, s5, s6, s7, s8, s9, s10⟩ := hSw; first | (go_simp; done) | (go_simp; with_reducible rfl))
        simp only [List.setIfInBounds_toArray, List.set_cons_zero, List.set_cons_succ]
        refine onlyD 39 (i := 17) rfl rfl (by kernel_rfl) (by kernel_rfl) (fun K hK => ?_)
        go_simp
        go_at_call 43
        refine (isSt_lit HS.out _).mono ?_
        rintro e whb12 ⟨rfl, hb12⟩
        have hS2 := HKEEP.out _ ((((Bel.refl wr).drew).trans hb11).trans hb12)
        refine hK.out _ _ hS2 (fun _ => ?_)
        clear hK K
        simp only [List.setIfInBounds_toArray, List.set_cons_zero, List.set_cons_succ]
        refine takeD 40 (i := 18) (v := ?v66) rfl rfl (by kernel_rfl) (by kernel_rfl) (by kernel_rfl) (fun _ _ _ h => h) (by kernel_rfl) ?hy66 hS2 ?rest66
        case hy66 => (intro w0 hSw; obtain ⟨s0, s1, s2, s3, s4, s5, s6, s7, s8, s9, s10⟩ := hSw; first | (go_simp; done) | (go_simp; with_reducible rfl))
        simp only [List.setIfInBounds_toArray, List.set_cons_zero, List.set_cons_succ]
        refine takeD 41 (i := 19) (v := ?v67) rfl rfl (by kernel_rfl) (by kernel_rfl) (by kernel_rfl) (fun _ _ _ h => h) (by kernel_rfl) ?hy67 hS2 ?rest67
        case hy67 => (intro w0 hSw; obtain ⟨s0, s1, s2, s3, s4, s5, s6, s7, s8, s9, s10⟩ := hSw; first | (go_simp; done) | (go_simp; with_reducible rfl))
        simp only [List.setIfInBounds_toArray, List.set_cons_zero, List.set_cons_succ]
        refine takeD 42 (i := 20) (v := ?v68) rfl rfl (by kernel_rfl) (by kernel_rfl) (by kernel_rfl) (fun _ _ _ h => h) (by kernel_rfl) ?hy68 hS2 ?rest68
        case hy68 => (intro w0 hSw; obtain ⟨s0, s1, s2, s3, s4, s5, s6, s7, s8, s9, s10⟩ := hSw; first | (go_simp; done) | (go_simp; with_reducible rfl))
        simp only [List.setIfInBounds_toArray, List.set_cons_zero, List.set_cons_succ]
        refine takeD 43 (i := 21) (v := ?v69) rfl rfl (by kernel_rfl) (by kernel_rfl) (by kernel_rfl) (fun _ _ _ h => h) (by kernel_rfl) ?hy69 hS2 ?rest69
        case hy69 => (intro w0 hSw; obtain ⟨s0, s1, s2, s3, s4, s5, s6, s7, s8, s9, s10⟩ := hSw; first | (go_simp; done) | (go_simp; with_reducible rfl))
        simp only [List.setIfInBounds_toArray, List.set_cons_zero, List.set_cons_succ]
        refine onlyD 44 (i := 22) rfl rfl (by kernel_rfl) (by kernel_rfl) (fun K hK => ?_)
        go_simp
        go_at_call 49
        refine (is_lit HHH.out HK8.out HZ.out _).mono ?_
        rintro e whb13 ⟨rfl, hb13⟩
        have hS3 := HKEEP.out _ (((((Bel.refl wr).drew).trans hb11).trans hb12).trans hb13)
        refine hK.out _ _ hS3 (fun _ => ?_)
        clear hK K
        simp only [List.setIfInBounds_toArray, List.set_cons_zero, List.set_cons_succ]
        refine takeD 45 (i := 23) (v := ?v70) rfl rfl (by kernel_rfl) (by kernel_rfl) (by kernel_rfl) (fun _ _ _ h => h) (by kernel_rfl) ?hy70 hS3 ?rest70
        case hy70 => (intro w0 hSw; obtain ⟨s0, s1, s2, s3, s4, s5, s6, s7, s8, s9, s10⟩ := hSw; first | (go_simp; done) | (go_simp; with_reducible rfl))
        simp only [List.setIfInBounds_toArray, List.set_cons_zero, List.set_cons_succ]
        refine takeD 46 (i := 24) (v := ?v71) rfl rfl (by kernel_rfl) (by kernel_rfl) (by kernel_rfl) (fun _ _ _ h => h) (by kernel_rfl) ?hy71 hS3 ?rest71
        case hy71 => (intro w0 hSw; obtain ⟨s0, s1, s2, s3, s4, s5, s6, s7, s8, s9, s10⟩ := hSw; first | (go_simp; done) | (go_simp; with_reducible rfl))
        simp only [List.setIfInBounds_toArray, List.set_cons_zero, List.set_cons_succ]
        refine wpAnyH_done (by kernel_rfl) ?_ _
        have HBC := Lib.hid (((((Bel.refl wr).drew).trans hb11).trans hb12).trans hb13)
        clear hb11 hb12 hb13 hS0 hS1 hS2 hS3
        obtain ⟨s30, -, -, -, -, -, -, -, -, s3, -⟩ := HKEEP.out _ HBC.out
        go_wp2
        exact ⟨⟨k + 1, by omega, by go_num, by rw [HST.out]; rfl, Lib.hid (HBR.out.trans HBC.out)⟩, by simp [intOf]; omega⟩
    · obtain rfl : k = i := by omega
      go_wp2
      go_ret
      exact ⟨ri2 HR.out, HB.out.trans HBR.out⟩
end Go.Proofs.Ytigefdoejcggpaa
