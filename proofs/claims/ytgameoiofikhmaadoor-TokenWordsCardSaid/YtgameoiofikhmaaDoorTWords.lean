/- Words, names, numbers and signs with blanks or comments between are scanned to tokens of their kinds, at their lines. -/
import Derived.Test.YtgameoiofikhmaaDoorTItems
namespace Go.Proofs.YtgameoiofikhmaaDoor
open Go.RowKit Tk
set_option linter.unusedVariables false
set_option maxRecDepth 100000 in
set_option maxHeartbeats 8000000 in
theorem words_walk (p q : Option Addr) (n c m d : Nat) (raw : List (Int × Int)) (L : List Int) (w : World) (hn : raw.length = n) (hn2 : n ≤ 9223372036854775807) (hm : L.length = m) (hm2 : m ≤ 9223372036854775807)
    (HP : Hid (PairsQ w p raw)) (HQ : Hid (IntsQ w q L)) (hT : SignsAt w) :
    Calls Tryd.prog 4 #[.slice p n c, .slice q m d] w fun e w' => e = .returned (.bool true) ∧ Bel w w' := by
  have ex0 : ∀ (x y z : Value) (W : World), (Instr.extract (.tuple #[x, y, z]) 0).run Tryd.prog W = .ok x W := fun x y z W => by kernel_rfl
  have ex1 : ∀ (x y z : Value) (W : World), (Instr.extract (.tuple #[x, y, z]) 1).run Tryd.prog W = .ok y W := fun x y z W => by kernel_rfl
  have ex2 : ∀ (x y z : Value) (W : World), (Instr.extract (.tuple #[x, y, z]) 2).run Tryd.prog W = .ok z W := fun x y z W => by kernel_rfl
  have HT := Lib.hid hT
  have HN := Lib.hid hn
  have HM := Lib.hid hm
  obtain ⟨N, hN⟩ : ∃ N, min n 40 = N := ⟨_, rfl⟩
  have hN1 : N ≤ 40 := by omega
  have hN2 : N ≤ n := by omega
  have hN3 : N = n ∨ N = 40 := by omega
  clear hT hn hm hN
  go_enter Tryd.func4, Tryd.ntmps4
  go_wp2_with fail
  refine (awake_any _ HT.out).mono ?_
  rintro e w1 ⟨rfl, hb1⟩
  have HB1 := Lib.hid hb1
  clear hb1
  go_wp2_with fail
  go_loopg [6, 7, 8, 9] N (fun gk s ln wt i wr => ∃ k L0 : Nat, ∃ T : Bs, k + gk = N ∧ s = .string (str T) ∧ ln = .int .i64 L0 ∧ i = .int .i64 k ∧ L0 ≤ 1 + 20 * k ∧ T.length ≤ 20 * k ∧ Hid (T = textOf (its raw L 0 k)) ∧ Hid (L0 = 1 + feeds T) ∧ Hid (TRow wr w.heap.size wt (toksOf (its raw L 0 k) 1)) ∧ Hid (Bel w wr))
  case atStart => exact ⟨0, 1, [], by omega, rfl, rfl, rfl, by omega, by simp, Lib.hid rfl, Lib.hid rfl, Lib.hid (TRow.nil _ _), HB1⟩
  case round =>
    obtain ⟨k, L0, T, hkg, rfl, rfl, rfl, hL0, hTl, HTX, HL0, HRow, HB⟩ := hrel
    by_cases hlt : k < N
    · obtain ⟨⟨x, y⟩, hxy⟩ : ∃ xy, raw[k]? = some xy := ⟨_, List.getElem?_eq_getElem (by have := HN.out; omega)⟩
      obtain ⟨ix, iy, b, o, rfl, hbl, c0, c1⟩ := (HP.out.bel HB.out) k _ hxy
      have hk1 : (k : Int) < n := by omega
      have hk2 : (k : Int) < 40 := by omega
      obtain ⟨P, hP⟩ : ∃ P, pieceV x y = P := ⟨_, rfl⟩
      have hPl : P.length ≤ 10 := by rw [← hP]; exact piece_len x y
      have HPX : Hid (str (pieceV x y) = str P) := Lib.hid (by rw [hP])
      obtain ⟨kd, hkd⟩ : ∃ kd, kindOf x = kd := ⟨_, rfl⟩
      have HKX := Lib.hid hkd
      obtain ⟨B, hB⟩ : ∃ B, blankV L k = B := ⟨_, rfl⟩
      have hBl : B.length ≤ 10 := by rw [← hB]; exact (blanks_len _ (blank_mem L k)).2
      have HBX : Hid (str (blankV L k) = str B) := Lib.hid (by rw [hB])
      have htoks := toks_succ raw L 0 k 1 hxy
      have htext := text_succ raw L 0 k hxy
      have hT0 := HTX.out
      have hF := HL0.out
      simp only [Nat.add_zero] at htoks htext
      rw [hP, hkd, ← hT0, ← hF] at htoks
      rw [hP, hB, ← hT0] at htext
      have HTK := Lib.hid htoks
      have HTX2 : Hid (T ++ (P ++ B) = textOf (its raw L 0 (k + 1))) := Lib.hid htext.symm
      have HF2 : Hid (L0 + feeds B = 1 + feeds (T ++ (P ++ B))) := Lib.hid (by rw [feeds_app, feeds_app, ← hP, good_feeds (piece_good x y), hF]; omega)
      have hfB : feeds B ≤ 10 := Nat.le_trans (feeds_le B) hBl
      have hkeep : ∀ w', Bel wr w' → w'.cell? ⟨b, o + k * 2, none⟩ = some (.int .i64 x) ∧ w'.cell? ⟨b, o + k * 2 + 1, none⟩ = some (.int .i64 y) := fun w' h =>
        ⟨(h.cell (p := ⟨b, o + k * 2, none⟩) hbl).trans c0, (h.cell (p := ⟨b, o + k * 2 + 1, none⟩) hbl).trans c1⟩
      have HKEEP := Lib.hid hkeep
      have hcat1 := str_app T P
      have hcat2 := str_app (T ++ P) B
      rw [List.append_assoc] at hcat2
      have hz1 : (str T).size + (str P).size ≤ 9223372036854775807 := by rw [str_size, str_size]; omega
      have hz2 : (str (T ++ P)).size + (str B).size ≤ 9223372036854775807 := by rw [str_size, str_size, List.length_append]; omega
      have hz3 : (T ++ (P ++ B)).length ≤ 20 * (k + 1) := by rw [List.length_append, List.length_append]; omega
      have HZ3 := Lib.hid hz3
      clear hkeep hP hkd hB htoks htext hT0 hF hz3 HTX HL0 hxy
      go_wp2_with fail
      go_region_held3 (fun w' => w'.cell? ⟨b, o + k * 2, none⟩ = some (.int .i64 x) ∧ w'.cell? ⟨b, o + k * 2 + 1, none⟩ = some (.int .i64 y))
        (first | exact HKEEP.out _ ((Bel.refl _).drew.trans hb3) | exact HKEEP.out _ (Bel.refl _).drew)
        (first | (go_at_call 11; refine (piece_lit HPX.out HKX.out ix iy _).mono ?_; rintro e w' ⟨rfl, hb3⟩))
      rename_i hh
      clear hh
      have HB3 : Hid (Bel w w') := Lib.hid (HB.out.drew.trans hb3)
      have HRow3 : Hid (TRow w' w.heap.size u8 (toksOf (its raw L 0 k) 1)) := Lib.hid (HRow.out.bel ((Bel.refl _).drew.trans hb3))
      have d1 : w'.cell? ⟨b, o + k * 2 + 1, none⟩ = some (.int .i64 y) := (HKEEP.out _ ((Bel.refl _).drew.trans hb3)).2
      clear c0 c1 HRow HB hb3 HKEEP hbl
      obtain ⟨nn, hnn⟩ : ∃ nn, numOf x y = nn := ⟨_, rfl⟩
      rw [hnn] at HTK
      have HSZ : Hid (w.heap.size ≤ (w'.alloc (.cells #[.int .i64 kd, .string (str P), .int .i64 nn, .int .i64 L0] 41)).heap.size) := Lib.hid (Nat.le_trans HB3.out.size ((Bel.refl _).alloc _ _).size)
      have HLN : Hid ((toksOf (its raw L 0 k) 1).length + 1 ≤ 1099511627776) := Lib.hid (by rw [toks_len, its_len]; omega)
      by_cases h3 : kd = 3
      · subst h3
        have HPK : Hid (pick y 4294967296 = nn) := Lib.hid (by rw [← hnn, num_yes HKX.out])
        clear hnn
        go_wp2_with (first | (go_at_call 17; ((with_reducible refine (pick_lit HPK.out iy (by omega) _).mono ?_); rintro e w2 ⟨rfl, rfl⟩)) | (at_builtin; refine wpList_trow rfl (.tmp 50) (.tmp 56) rfl w.heap.size u8 _ rfl (TRow.bel HRow3.out ((Bel.refl _).alloc _ _)) _ rfl 3 nn L0 (str P) _ _ (new_heap (by simp) _) HLN.out HSZ.out ?_; intro v' w4 h1 h2 h3))
        have HB4 : Hid (Bel w w4) := Lib.hid (h2.bel (HB3.out.alloc _ _) (fun k hk => ownBlock_ge HRow3.out k hk))
        have HRow4 : Hid (TRow w4 w.heap.size v' (toksOf (its raw L 0 (k + 1)) 1)) := Lib.hid (by rw [HTK.out]; exact h1)
        clear h1 h2 HB3 HRow3 HSZ HLN d1
        refine (blank_two HBX.out HM.out (HQ.out.bel HB4.out) hm2 (by omega)).mono ?_
        rintro e w5 ⟨rfl, hb5⟩
        have HB5 := Lib.hid (HB4.out.trans hb5)
        have HRow5 := Lib.hid (HRow4.out.bel hb5)
        clear hb5 HB4 HRow4
        go_wp2_with (go_at_call 23; ((with_reducible refine (feeds_lit (s := str B) (r := feeds B) rfl (by rw [str_size]; unfold maxLen; omega) _).mono ?_); rintro e w6 ⟨rfl, rfl⟩))
        go_roundg (gk - 1)
        case measure => omega
        case rel => exact ⟨k + 1, L0 + feeds B, T ++ (P ++ B), by omega, by first | rfl | rw [hcat1, hcat2], by go_num, by go_num, by omega, HZ3.out, HTX2, HF2, HRow5, HB5⟩
      · obtain rfl : nn = 0 := by rw [← hnn]; exact num_no (fun c => h3 (HKX.out.symm.trans c))
        have hk3 : (kd == 3) = false := by simpa using h3
        clear hnn h3
        go_wp2_with ((at_builtin; refine wpList_trow rfl (.tmp 50) (.tmp 56) rfl w.heap.size u8 _ rfl (TRow.bel HRow3.out ((Bel.refl _).alloc _ _)) _ rfl kd 0 L0 (str P) _ _ (new_heap (by simp) _) HLN.out HSZ.out ?_; intro v' w4 h1 h2 h3))
        have HB4 : Hid (Bel w w4) := Lib.hid (h2.bel (HB3.out.alloc _ _) (fun k hk => ownBlock_ge HRow3.out k hk))
        have HRow4 : Hid (TRow w4 w.heap.size v' (toksOf (its raw L 0 (k + 1)) 1)) := Lib.hid (by rw [HTK.out]; exact h1)
        clear h1 h2 HB3 HRow3 HSZ HLN d1
        refine (blank_two HBX.out HM.out (HQ.out.bel HB4.out) hm2 (by omega)).mono ?_
        rintro e w5 ⟨rfl, hb5⟩
        have HB5 := Lib.hid (HB4.out.trans hb5)
        have HRow5 := Lib.hid (HRow4.out.bel hb5)
        clear hb5 HB4 HRow4
        go_wp2_with (go_at_call 23; ((with_reducible refine (feeds_lit (s := str B) (r := feeds B) rfl (by rw [str_size]; unfold maxLen; omega) _).mono ?_); rintro e w6 ⟨rfl, rfl⟩))
        go_roundg (gk - 1)
        case measure => omega
        case rel => exact ⟨k + 1, L0 + feeds B, T ++ (P ++ B), by omega, by first | rfl | rw [hcat1, hcat2], by go_num, by go_num, by omega, HZ3.out, HTX2, HF2, HRow5, HB5⟩
    · obtain rfl : k = N := by omega
      obtain rfl : gk = 0 := by omega
      have hsc := scan_its raw L 0 k 1
      have hT0 := HTX.out
      have hF := HL0.out
      rw [← hT0, ← hF] at hsc
      obtain ⟨tk, htk⟩ : ∃ tk, toksOf (its raw L 0 k) 1 = tk := ⟨_, rfl⟩
      have htl : (tk ++ [(⟨5, [], 0, (L0 : Int)⟩ : Tok)]).length = k + 1 := by rw [← htk, List.length_append, toks_len, its_len]; rfl
      rw [htk] at hsc HRow
      have HLN : Hid (tk.length + 1 ≤ 1099511627776) := Lib.hid (by rw [← htk, toks_len, its_len]; omega)
      have HTL := Lib.hid htl
      have HSC : Hid (scan (str T).data.toList 1 = .ok (tk ++ [⟨5, [], 0, (L0 : Int)⟩])) := Lib.hid hsc
      have HSS : Hid ((str T).size ≤ 20000) := Lib.hid (by rw [str_size]; omega)
      have HSZ : Hid (w.heap.size ≤ (wr.alloc (.cells #[.int .i64 5, .string ⟨#[]⟩, .int .i64 0, .int .i64 L0] 41)).heap.size) := Lib.hid (Nat.le_trans HB.out.size ((Bel.refl _).alloc _ _).size)
      have hends : ¬ (k : Int) < n ∨ ((k : Int) < n ∧ ¬ (k : Int) < 40) := by omega
      clear hsc hT0 hF htk htl HTX HL0 hlt hkg hN2 hN3
      rcases hends with hk1 | ⟨hk1, hk2⟩
      all_goals
        go_wp2_with (at_builtin; refine wpList_trow rfl (.tmp 70) (.tmp 73) rfl w.heap.size u8 _ rfl (TRow.bel HRow.out ((Bel.refl _).alloc _ _)) _ rfl 5 0 L0 ⟨#[]⟩ _ _ (new_heap (by simp) _) HLN.out HSZ.out ?_; intro v' w4 h1 h2 h3)
        have HB4 : Hid (Bel w w4) := Lib.hid (h2.bel (HB.out.alloc _ _) (fun k hk => ownBlock_ge HRow.out k hk))
        have HT4 := Lib.hid (HT.out.bel HB4.out)
        obtain ⟨BW, cW, rfl, hbw, hcw, hatw⟩ := h1.form h3
        rw [HTL.out]
        have HW4 := Lib.hid hatw
        clear h1 h2 h3 hatw hcw hbw HB HRow HSZ
        go_wp2_with fail
        refine (scan_ok (n := k + 1) HSC.out HTL.out HSS.out _ HT4.out).mono ?_
        rintro e w5 ⟨B5, c5, rfl, hz5, hc5, hat5, hb5⟩
        have HB5 := Lib.hid (HB4.out.trans hb5)
        have HW5 := Lib.hid (HW4.out.bel hb5)
        have HA5 := Lib.hid hat5
        clear hb5 hat5 hz5 hc5 HB4 HT4 HW4
        go_wp2_with fail
        refine (same_lit (decide_eq_true rfl) HTL.out HTL.out HA5.out.q HW5.out.q (by omega) (by omega)).mono ?_
        rintro e w6 ⟨rfl, hb6⟩
        have HB6 := Lib.hid (HB5.out.trans hb6)
        clear hb6 HB5 HW5 HA5
        go_wp2_with fail
        go_ret
        exact ⟨rfl, HB6.out⟩
end Go.Proofs.YtgameoiofikhmaaDoor
