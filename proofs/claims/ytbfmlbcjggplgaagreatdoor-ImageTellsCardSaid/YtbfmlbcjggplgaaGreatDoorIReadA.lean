/- read at any text: what it tells; of a right image's text that image. -/
import Derived.Test.YtbfmlbcjggplgaaGreatDoorIReadS
import Derived.Test.YtbfmlbcjggplgaaGreatDoorIParse2
import Derived.Test.YtbfmlbcjggplgaaGreatDoorIReadP
namespace Go.Proofs.YtbfmlbcjggplgaaGreatDoor
open Go.RowKit Im
set_option linter.unusedVariables false
theorem atoi_bounds {l : Bs} {v : Int} (h : Lib.atoiAll l = .ok v) : -9223372036854775808 ≤ v ∧ v ≤ 9223372036854775807 := by
  unfold Lib.atoiAll at h
  split at h
  · cases h
  · simp only at h
    split at h
    · cases h
    · cases h
    · rename_i u hu
      split at h
      · cases h
      · rename_i h1
        split at h
        · cases h
        · rename_i h2
          injection h with h
          subst h
          split <;> rename_i h3
          · simp only [h3, true_and] at h2
            omega
          · simp only [h3, not_false_eq_true, true_and] at h1
            omega
theorem atoi_any (s : ByteArray) (hs : s.size ≤ 1000000) (w : World) (hE : ErrsAt w) :
    Calls Tryz.prog 49 #[.string s] w fun e w' => ∃ v er, e = .returned (.tuple #[.int .i64 v, er]) ∧ (-9223372036854775808 ≤ v ∧ v ≤ 9223372036854775807) ∧ (∀ x, Lib.atoiAll s.data.toList = .ok x → v = x) ∧ Bel w w' := by
  obtain ⟨⟨ev, h1, h2⟩, ⟨ev', h3, h4⟩, _⟩ := hE
  rcases h : Lib.atoiAll s.data.toList with v | _ | _
  · refine (atoi_lit h (by omega) w).mono ?_
    rintro e w' ⟨rfl, hb⟩
    exact ⟨v, _, rfl, atoi_bounds h, fun x hx => by injection hx, hb⟩
  · refine (Tryz.strconv_Atoi_syntax s (by omega) h ev w h1 h2).mono ?_
    rintro e w' ⟨N, rfl, _, _, hb⟩
    exact ⟨0, _, rfl, ⟨by omega, by omega⟩, fun x hx => (by cases hx), hb⟩
  · refine (Tryz.strconv_Atoi_range s (by omega) h ev' w h3 h4).mono ?_
    rintro e w' ⟨N, rfl, _, _, hb⟩
    exact ⟨_, _, rfl, by unfold Lib.atoiSat; split <;> omega, fun x hx => (by cases hx), hb⟩
theorem trim_size (s p : Bs) : (Lib.trimPrefix s p).length ≤ s.length := by
  unfold Lib.trimPrefix
  split
  · rw [List.length_drop]; omega
  · exact Nat.le_refl _
set_option maxHeartbeats 4000000 in
theorem read_any {t : ByteArray} (ht : t.size ≤ 1000000) (w : World) (hL : LibAt w) (hS : SpAt w) :
    Calls Tryz.prog 34 #[.string t] w (ReadPost (ReadOf t.data.toList) w) := by
  obtain ⟨⟨a, b, ok1⟩, hc1⟩ : ∃ p, Lib.cut t.data.toList SEP = p := ⟨_, rfl⟩
  obtain ⟨⟨f, g, ok2⟩, hc2⟩ : ∃ p, Lib.cut a [10] = p := ⟨_, rfl⟩
  obtain ⟨A, hA⟩ : ∃ x, str a = x := ⟨_, rfl⟩
  obtain ⟨B, hB⟩ : ∃ x, str b = x := ⟨_, rfl⟩
  obtain ⟨F, hF⟩ : ∃ x, str f = x := ⟨_, rfl⟩
  obtain ⟨G, hG⟩ : ∃ x, str g = x := ⟨_, rfl⟩
  obtain ⟨Z, hZ⟩ : ∃ x, str (Lib.trimPrefix f [105, 109, 97, 103, 101, 32]) = x := ⟨_, rfl⟩
  have s1 := cut_sizes hc1
  have s2 := cut_sizes hc2
  have s3 := trim_size f [105, 109, 97, 103, 101, 32]
  rw [size_list] at s1
  have z1 : A.size ≤ 1000000 := by rw [← hA, str_size]; omega
  have z2 : B.size ≤ 1000000 := by rw [← hB, str_size]; omega
  have z3 : G.size ≤ 1000000 := by rw [← hG, str_size]; omega
  have z4 : Z.size ≤ 1000000 := by rw [← hZ, str_size]; omega
  have HZ := Lib.hid (⟨ht, z1, z2, z3, z4⟩ : _ ∧ _ ∧ _ ∧ _ ∧ _)
  have H1 : Hid (Lib.cut t.data.toList (⟨#[10, 99, 111, 100, 101, 10]⟩ : ByteArray).data.toList = (a, b, ok1)) := Lib.hid hc1
  have H2 : Hid (Lib.cut A.data.toList (⟨#[10]⟩ : ByteArray).data.toList = (f, g, ok2)) := Lib.hid (by rw [← hA, str_list]; exact hc2)
  have H3 : Hid (str (Lib.trimPrefix F.data.toList (⟨#[105, 109, 97, 103, 101, 32]⟩ : ByteArray).data.toList) = Z) := Lib.hid (by rw [← hF, str_list]; exact hZ)
  have HRD : Hid (∀ (W : List Int) (M : Int) (S : List Sym), (asc B.data.toList → W = (fieldsG [] B.data.toList).map numV) → (∀ x, Lib.atoiAll Z.data.toList = .ok x → M = x) → (S = if ok2 = true then (splitV 10 G.data.toList).map symV else []) → ReadOf t.data.toList ⟨W, M, S⟩) := Lib.hid (fun W M S h1 h2 h3 => by
    rw [← hB, str_list] at h1
    rw [← hZ, str_list] at h2
    rw [← hG, str_list] at h3
    refine ⟨?_, ?_, ?_⟩
    · rw [hc1]; exact h1
    · rw [hc1]
      show ∀ x, Lib.atoiAll (Lib.trimPrefix (Lib.cut a [10]).1 _) = _ → _
      rw [hc2]; exact h2
    · rw [hc1]
      show S = if (Lib.cut a [10]).2.2 = true then _ else _
      rw [hc2]; exact h3)
  have HA := Lib.hid hA
  have HB0 := Lib.hid hB
  have HF := Lib.hid hF
  have HG := Lib.hid hG
  have HL := Lib.hid hL
  have HS := Lib.hid hS
  clear hc1 hc2 hA hB hF hG hZ s1 s2 s3 z1 z2 z3 z4 ht hL hS
  go_enter Tryz.func34, Tryz.ntmps34
  go_wp2_with fail
  have hb0 := (Bel.refl w).alloc #[.slice none 0 0, .int .i64 0, .slice none 0 0] 25
  have hx0 := heap_alloc_new w (.cells #[.slice none 0 0, .int .i64 0, .slice none 0 0] 25)
  generalize w.alloc (.cells #[.slice none 0 0, .int .i64 0, .slice none 0 0] 25) = W0 at hb0 hx0 ⊢
  obtain ⟨bx, hbx⟩ : ∃ b, b = w.heap.size := ⟨_, rfl⟩
  rw [← hbx] at hx0 ⊢
  have HX := Lib.hid hx0
  have HB := Lib.hid hb0
  have HBX := Lib.hid hbx
  clear hb0 hx0 hbx
  refine (cut_lit H1.out HA.out HB0.out (by have := HZ.out.1; omega) _ (HL.out.bel HB.out).2.2).mono ?_
  rintro e w1 ⟨rfl, hb⟩
  have HX := Lib.hid (hb.stays HX.out)
  have HB := Lib.hid (HB.out.trans hb)
  clear hb
  go_wp2_with fail
  refine (cut_lit H2.out HF.out HG.out (by have := HZ.out.2.1; omega) _ (HL.out.bel HB.out).2.2).mono ?_
  rintro e w2 ⟨rfl, hb⟩
  have HX := Lib.hid (hb.stays HX.out)
  have HB := Lib.hid (HB.out.trans hb)
  clear hb
  go_wp2_with fail
  refine (readWords_any B HZ.out.2.2.1 _ (HL.out.bel HB.out) (HS.out.bel HB.out)).mono ?_
  rintro e w3 ⟨wp, wc, L, rfl, hL1, hL2, hL3, hL4, hL5, hb⟩
  have HW := Lib.hid (⟨hL1, fun q hq => (hL2 q hq).2, fun q hq => Nat.lt_of_lt_of_le (lt_of_heap HX.out) (hL2 q hq).1, hL3, hL4, hL5⟩ : EncAt icell 1 w3 wp L ∧ (∀ q, wp = some q → q.block < w3.heap.size) ∧ (∀ q, wp = some q → bx < q.block) ∧ _ ∧ _ ∧ _)
  have HX := Lib.hid (hb.stays HX.out)
  have HB := Lib.hid (HB.out.trans hb)
  clear hb hL1 hL2 hL3 hL4 hL5
  go_wp2_with fail
  have hb4 := (Bel.refl w3).alloc #[.slice wp L.length wc, .int .i64 0, .slice none 0 0] 25
  have hx4 := heap_alloc_new w3 (.cells #[.slice wp L.length wc, .int .i64 0, .slice none 0 0] 25)
  generalize w3.alloc (.cells #[.slice wp L.length wc, .int .i64 0, .slice none 0 0] 25) = W4 at hb4 hx4 ⊢
  obtain ⟨b2, hb2⟩ : ∃ b, b = w3.heap.size := ⟨_, rfl⟩
  rw [← hb2] at hx4 ⊢
  have hlt : bx < b2 := by rw [hb2]; exact lt_of_heap HX.out
  have HWB : Hid (∀ q, wp = some q → q.block ≠ b2 ∧ q.block ≠ bx) := Lib.hid (fun q hq => by
    have h1 := HW.out.2.1 q hq
    have h2 := HW.out.2.2.1 q hq
    omega)
  have HX := Lib.hid (hb4.stays HX.out)
  have HX4 := Lib.hid hx4
  have HB := Lib.hid (HB.out.trans hb4)
  have HE := Lib.hid (HW.out.1.bel hb4)
  have HLT := Lib.hid hlt
  clear hb4 hx4 hb2 hlt
  refine (trimP_lit H3.out _).mono ?_
  rintro e w5 ⟨rfl, rfl⟩
  go_wp2_with fail
  refine (atoi_any Z HZ.out.2.2.2.2 _ (HL.out.bel HB.out).1).mono ?_
  rintro e w5 ⟨M, er, rfl, hM1, hM2, hb⟩
  have HM := Lib.hid (⟨hM1, hM2⟩ : _ ∧ _)
  have HX := Lib.hid (hb.stays HX.out)
  have HX4 := Lib.hid (hb.stays HX4.out)
  have HB := Lib.hid (HB.out.trans hb)
  have HE := Lib.hid (HE.out.bel hb)
  have f1 := frozen_of_heap HX4.out 1
  clear hb hM1 hM2
  have n1 : ¬ bx = b2 := by have := HLT.out; omega
  have n2 : ¬ b2 = bx := by have := HLT.out; omega
  cases ok2 with
  | false =>
    have hx := HX.out
    have hx4 := HX4.out
    have c0 : w5.cell? ⟨b2, 0, none⟩ = some (.slice wp L.length wc) := cell_of_heap hx4 0
    have c1 : w5.cell? ⟨b2, 1, none⟩ = some (.int .i64 0) := cell_of_heap hx4 1
    have c2 : w5.cell? ⟨b2, 2, none⟩ = some (.slice none 0 0) := cell_of_heap hx4 2
    have d0 : w5.cell? ⟨bx, 0, none⟩ = some (.slice none 0 0) := cell_of_heap hx 0
    have d1 : w5.cell? ⟨bx, 1, none⟩ = some (.int .i64 0) := cell_of_heap hx 1
    have d2 : w5.cell? ⟨bx, 2, none⟩ = some (.slice none 0 0) := cell_of_heap hx 2
    have g0 := frozen_of_heap hx 0
    have g1 := frozen_of_heap hx 1
    have g2 := frozen_of_heap hx 2
    clear hx hx4
    go_wp2_with fail
    have HX6 : (w5.setCell ⟨b2, 1, none⟩ (.int .i64 M)).heap[bx]? = some (.cells #[.slice none 0 0, .int .i64 0, .slice none 0 0] 25 (0, 0)) := by rw [heap_setCell_other _ _ _ _ (show bx ≠ b2 from n1)]; exact HX.out
    have HB6 : Bel w (w5.setCell ⟨b2, 1, none⟩ (.int .i64 M)) := HB.out.setCell (p := ⟨b2, 1, none⟩) (by have := HBX.out; have := HLT.out; simp; omega) _
    have hI : ImgAt w5 wp none ⟨L, M, []⟩ := ⟨HE.out, EncAt.nil _ _ _ _, fun x hx => by have := HW.out.2.2.2.1 x hx; omega, by simp, HM.out.1, by have := HW.out.2.2.2.2.1; show L.length ≤ _; omega, by simp⟩
    have n3 : ∀ q, wp = some q → q.block ≠ b2 := fun q hq => (HWB.out q hq).1
    have n4 : ∀ q, wp = some q → q.block ≠ bx := fun q hq => (HWB.out q hq).2
    have n5 : ∀ g : Nat, ∀ q : Addr, (none : Option Addr) = some q → q.block ≠ g := fun g q hq => by cases hq
    exact bodyPost_ret (v := imgV wp none wc 0 ⟨L, M, []⟩) (results_cell_row Tryz.results34 _ _ bx _ _ _ _ rfl (set3 HX6 _ _ _) Tryz.underlying25 rfl img_size) rfl
      ⟨wp, none, wc, 0, ⟨L, M, []⟩, rfl, (((hI.set n3 (n5 _) _).set n4 (n5 _) _).set n4 (n5 _) _).set n4 (n5 _) _, HRD.out _ _ _ HW.out.2.2.2.2.2 HM.out.2 rfl, bel3 HB6 (by rw [HBX.out]; exact Nat.le_refl _) _ _ _, fun q hq => by have := HW.out.2.2.1 q hq; have := HBX.out; omega, fun q hq => by cases hq⟩
  | true =>
    have hx4 := HX4.out
    have c1 : w5.cell? ⟨b2, 1, none⟩ = some (.int .i64 0) := cell_of_heap hx4 1
    clear hx4
    go_wp2_with fail
    have HX6 : (w5.setCell ⟨b2, 1, none⟩ (.int .i64 M)).heap[bx]? = some (.cells #[.slice none 0 0, .int .i64 0, .slice none 0 0] 25 (0, 0)) := by rw [heap_setCell_other _ _ _ _ (show bx ≠ b2 from n1)]; exact HX.out
    have HB6 : Bel w (w5.setCell ⟨b2, 1, none⟩ (.int .i64 M)) := HB.out.setCell (p := ⟨b2, 1, none⟩) (by have := HBX.out; have := HLT.out; simp; omega) _
    have HX7 : (w5.setCell ⟨b2, 1, none⟩ (.int .i64 M)).heap[b2]? = some (.cells #[.slice wp L.length wc, .int .i64 M, .slice none 0 0] 25 (0, 0)) := heap_setCell_same _ _ _ _ _ _ HX4.out
    have n3 : ∀ q, wp = some q → q.block ≠ b2 := fun q hq => (HWB.out q hq).1
    have n4 : ∀ q, wp = some q → q.block ≠ bx := fun q hq => (HWB.out q hq).2
    have HE6 := HE.out.set (i := 1) n3 (.int .i64 M)
    generalize w5.setCell ⟨b2, 1, none⟩ (.int .i64 M) = w6 at HX6 HB6 HX7 HE6 ⊢
    have HX := Lib.hid HX6
    have HX4 := Lib.hid HX7
    have HB := Lib.hid HB6
    have HE := Lib.hid HE6
    clear HX6 HX7 HB6 HE6 c1 f1
    refine (readSymbols_any G HZ.out.2.2.2.1 _ (HL.out.bel HB.out)).mono ?_
    rintro e w7 ⟨sp, sc, S, rfl, hS1, hS2, hS3, hS4, hS5, hb⟩
    have HSB : Hid (∀ q, sp = some q → q.block ≠ b2 ∧ q.block ≠ bx ∧ w.heap.size ≤ q.block) := Lib.hid (fun q hq => by
      have h1 := (hS2 q hq).1
      have h2 := lt_of_heap HX.out
      have h3 := lt_of_heap HX4.out
      have h4 := HBX.out
      omega)
    have HSY := Lib.hid (⟨hS1, hS3, hS4, hS5⟩ : _ ∧ _ ∧ _ ∧ _)
    have HX := Lib.hid (hb.stays HX.out)
    have HX4 := Lib.hid (hb.stays HX4.out)
    have HB := Lib.hid (HB.out.trans hb)
    have HE := Lib.hid (HE.out.bel hb)
    clear hb hS1 hS2 hS3 hS4 hS5
    have hx := HX.out
    have hx4 := HX4.out
    have c0 : w7.cell? ⟨b2, 0, none⟩ = some (.slice wp L.length wc) := cell_of_heap hx4 0
    have c1 : w7.cell? ⟨b2, 1, none⟩ = some (.int .i64 M) := cell_of_heap hx4 1
    have c2 : w7.cell? ⟨b2, 2, none⟩ = some (.slice none 0 0) := cell_of_heap hx4 2
    have f2 := frozen_of_heap hx4 2
    have d0 : w7.cell? ⟨bx, 0, none⟩ = some (.slice none 0 0) := cell_of_heap hx 0
    have d1 : w7.cell? ⟨bx, 1, none⟩ = some (.int .i64 0) := cell_of_heap hx 1
    have d2 : w7.cell? ⟨bx, 2, none⟩ = some (.slice none 0 0) := cell_of_heap hx 2
    have g0 := frozen_of_heap hx 0
    have g1 := frozen_of_heap hx 1
    have g2 := frozen_of_heap hx 2
    clear hx hx4
    go_wp2_with fail
    have HX6 : (w7.setCell ⟨b2, 2, none⟩ (.slice sp S.length sc)).heap[bx]? = some (.cells #[.slice none 0 0, .int .i64 0, .slice none 0 0] 25 (0, 0)) := by rw [heap_setCell_other _ _ _ _ (show bx ≠ b2 from n1)]; exact HX.out
    have HB6 : Bel w (w7.setCell ⟨b2, 2, none⟩ (.slice sp S.length sc)) := HB.out.setCell (p := ⟨b2, 2, none⟩) (by have := HBX.out; have := HLT.out; simp; omega) _
    have hI : ImgAt w7 wp sp ⟨L, M, S⟩ := ⟨HE.out, HSY.out.1, fun x hx => by have := HW.out.2.2.2.1 x hx; omega, fun x hx => by have := HSY.out.2.1 x hx; unfold maxLen; omega, HM.out.1, by have := HW.out.2.2.2.2.1; show L.length ≤ _; omega, by have := HSY.out.2.2.1; show S.length ≤ _; omega⟩
    have m3 : ∀ q, sp = some q → q.block ≠ b2 := fun q hq => (HSB.out q hq).1
    have m4 : ∀ q, sp = some q → q.block ≠ bx := fun q hq => (HSB.out q hq).2.1
    exact bodyPost_ret (v := imgV wp sp wc sc ⟨L, M, S⟩) (results_cell_row Tryz.results34 _ _ bx _ _ _ _ rfl (set3 HX6 _ _ _) Tryz.underlying25 rfl img_size) rfl
      ⟨wp, sp, wc, sc, ⟨L, M, S⟩, rfl, (((hI.set n3 m3 _).set n4 m4 _).set n4 m4 _).set n4 m4 _, HRD.out _ _ _ HW.out.2.2.2.2.2 HM.out.2 (by simpa using HSY.out.2.2.2), bel3 HB6 (by rw [HBX.out]; exact Nat.le_refl _) _ _ _, fun q hq => by have := HW.out.2.2.1 q hq; have := HBX.out; omega, fun q hq => (HSB.out q hq).2.2⟩
end Go.Proofs.YtbfmlbcjggplgaaGreatDoor
