/- Two texts with a line feed between are scanned to the tokens of both, the second one's lines behind the first one's. -/
import Derived.Test.YtgameoiofikhmaaDoorTJoinP
import Derived.Deep.DeepCutAuto
import Derived.Deep.CutBlock
import Derived.StillTailTactics
namespace Go.Proofs.YtgameoiofikhmaaDoor
open Go.RowKit Tk
set_option linter.unusedVariables false
set_option maxRecDepth 100000 in
set_option maxHeartbeats 16000000 in
theorem join_walk (p p2 q : Option Addr) (n c n2 c2 m d : Nat) (raw raw2 : List (Int × Int)) (L : List Int) (w : World) (hn : raw.length = n) (hn2 : n ≤ 9223372036854775807) (hnb : raw2.length = n2) (hnb2 : n2 ≤ 9223372036854775807) (hm : L.length = m) (hm2 : m ≤ 9223372036854775807)
    (HP : Hid (PairsQ w p raw)) (HP2 : Hid (PairsQ w p2 raw2)) (HQ : Hid (IntsQ w q L)) (hT : SignsAt w) :
    Calls Tryd.prog 5 #[.slice p n c, .slice p2 n2 c2, .slice q m d] w fun e w' => e = .returned (.bool true) ∧ Bel w w' := by
  have ex0 : ∀ (x y z : Value) (W : World), (Instr.extract (.tuple #[x, y, z]) 0).run Tryd.prog W = .ok x W := fun x y z W => by kernel_rfl
  have ex1 : ∀ (x y z : Value) (W : World), (Instr.extract (.tuple #[x, y, z]) 1).run Tryd.prog W = .ok y W := fun x y z W => by kernel_rfl
  have ex2 : ∀ (x y z : Value) (W : World), (Instr.extract (.tuple #[x, y, z]) 2).run Tryd.prog W = .ok z W := fun x y z W => by kernel_rfl
  have HT := Lib.hid hT
  have HN := Lib.hid hn
  have HNb := Lib.hid hnb
  have HM := Lib.hid hm
  obtain ⟨N, hN⟩ : ∃ N, min n 20 = N := ⟨_, rfl⟩
  have hN1 : N ≤ 20 := by omega
  have hN2 : N ≤ n := by omega
  have hN3 : N = n ∨ N = 20 := by omega
  obtain ⟨M, hM⟩ : ∃ M, min n2 20 = M := ⟨_, rfl⟩
  have hM1 : M ≤ 20 := by omega
  have hM2 : M ≤ n2 := by omega
  have hM3 : M = n2 ∨ M = 20 := by omega
  clear hT hn hm hN hM hnb
  go_enter Tryd.func5, Tryd.ntmps5
  go_wp2_with fail
  refine (awake_any _ HT.out).mono ?_
  rintro e w1 ⟨rfl, hb1⟩
  have HB1 := Lib.hid hb1
  clear hb1
  go_upto_block 0 with (fail)
  go_cut [8] (fun ss wx => ∃ i : Nat, ∃ A : Bs, ss = .string (str A) ∧ A.length ≤ 400 ∧ i ≤ 20 ∧ Hid (A = textOf (its raw L 0 i)) ∧ Hid (Bel w wx))
  case first =>
    go_wp2_with fail
    go_loopg [8, 9] N (fun gk ss ii wr => ∃ i : Nat, ∃ T : Bs, i + gk = N ∧ ss = .string (str T) ∧ ii = .int .i64 i ∧ T.length ≤ 20 * i ∧ Hid (T = textOf (its raw L 0 i)) ∧ Hid (Bel w wr))
    case atStart => exact ⟨0, [], by omega, rfl, rfl, by simp, Lib.hid rfl, HB1⟩
    case round =>
      clear HB1
      obtain ⟨i, T, hkg, rfl, rfl, hTl, HTX, HB⟩ := hrel
      by_cases hlt : i < N
      · obtain ⟨⟨x, y⟩, hxy⟩ : ∃ xy, raw[i]? = some xy := ⟨_, List.getElem?_eq_getElem (by have := HN.out; omega)⟩
        obtain ⟨ix, iy, b, o, rfl, hbl, c0, c1⟩ := (HP.out.bel HB.out) i _ hxy
        have hk1 : (i : Int) < n := by omega
        have hk2 : (i : Int) < 20 := by omega
        obtain ⟨P, hP⟩ : ∃ P, pieceV x y = P := ⟨_, rfl⟩
        have hPl : P.length ≤ 10 := by rw [← hP]; exact piece_len x y
        have HPX : Hid (str (pieceV x y) = str P) := Lib.hid (by rw [hP])
        obtain ⟨B, hB⟩ : ∃ B, blankV L i = B := ⟨_, rfl⟩
        have hBl : B.length ≤ 10 := by rw [← hB]; exact (blanks_len _ (blank_mem L i)).2
        have HBX : Hid (str (blankV L i) = str B) := Lib.hid (by rw [hB])
        have HTX2 : Hid (T ++ (P ++ B) = textOf (its raw L 0 (i + 1))) := Lib.hid (by
          have htext := text_succ raw L 0 i hxy
          simp only [Nat.add_zero] at htext
          rw [htext, ← HTX.out, hP, hB])
        have hkeep : ∀ w', Bel wr w' → w'.cell? ⟨b, o + i * 2, none⟩ = some (.int .i64 x) ∧ w'.cell? ⟨b, o + i * 2 + 1, none⟩ = some (.int .i64 y) := fun w' h =>
          ⟨(h.cell (p := ⟨b, o + i * 2, none⟩) hbl).trans c0, (h.cell (p := ⟨b, o + i * 2 + 1, none⟩) hbl).trans c1⟩
        have HKEEP := Lib.hid hkeep
        have e3 := str_app T P
        have e4 := str_app (T ++ P) B
        rw [List.append_assoc] at e4
        have z3 : (str T).size + (str P).size ≤ 9223372036854775807 := by rw [str_size, str_size]; omega
        have z4 : (str (T ++ P)).size + (str B).size ≤ 9223372036854775807 := by rw [str_size, str_size, List.length_append]; omega
        have HZ : Hid ((T ++ (P ++ B)).length ≤ 20 * (i + 1)) := Lib.hid (by simp; omega)
        clear hkeep hP hB hxy c0 c1 hbl HTX
        go_wp2_with fail
        go_region_held3 (fun w' => w'.cell? ⟨b, o + i * 2, none⟩ = some (.int .i64 x) ∧ w'.cell? ⟨b, o + i * 2 + 1, none⟩ = some (.int .i64 y))
          (first | exact HKEEP.out _ ((Bel.refl _).drew.trans hb3) | exact HKEEP.out _ (Bel.refl _).drew)
          (first | (go_at_call 11; refine (piece_lit HPX.out rfl ix iy _).mono ?_; rintro e w' ⟨rfl, hb3⟩))
        rename_i hh
        clear hh
        have HB3 : Hid (Bel w w') := Lib.hid (HB.out.trans ((Bel.refl _).drew.trans hb3))
        clear hb3 HKEEP HB
        go_wp2_with fail
        refine (blank_two HBX.out HM.out (HQ.out.bel HB3.out) hm2 (by omega)).mono ?_
        rintro e w5 ⟨rfl, hb5⟩
        have HB5 := Lib.hid (HB3.out.trans hb5)
        clear hb5 HB3
        go_wp2_with fail
        go_roundg (gk - 1)
        case measure => omega
        case rel => exact ⟨i + 1, T ++ (P ++ B), by omega, by first | rfl | rw [e3, e4], by go_num, HZ.out, HTX2, HB5⟩
      · obtain rfl : i = N := by omega
        have hends : ¬ (i : Int) < n ∨ ((i : Int) < n ∧ ¬ (i : Int) < 20) := by omega
        have hTs : T.length ≤ 400 := by omega
        rcases hends with hk1 | ⟨hk1, hk2⟩
        all_goals
          go_wp2_with fail
          go_meet
          exact ⟨i, T, rfl, hTs, hN1, HTX, HB⟩
  case rest =>
    clear HB1 hN1 hN2 hN3
    obtain ⟨ia, A, rfl, hAl, hia, HA, HB⟩ := hcut
    obtain ⟨w2, hw2⟩ : ∃ W, W = wc := ⟨_, rfl⟩
    go_upto_block 2 with (fail)
    go_cut [12] (fun ss wx => ∃ i : Nat, ∃ A : Bs, ss = .string (str A) ∧ A.length ≤ 400 ∧ i ≤ 20 ∧ Hid (A = textOf (its raw2 L 1 i)) ∧ Hid (Bel w wx))
    case first =>
      go_wp2_with fail
      go_loopg [12, 13] M (fun gk ss ii wr => ∃ i : Nat, ∃ T : Bs, i + gk = M ∧ ss = .string (str T) ∧ ii = .int .i64 i ∧ T.length ≤ 20 * i ∧ Hid (T = textOf (its raw2 L 1 i)) ∧ Hid (Bel w wr))
      case atStart => exact ⟨0, [], by omega, rfl, rfl, by simp, Lib.hid rfl, HB⟩
      case round =>
        clear HB
        obtain ⟨i, T, hkg, rfl, rfl, hTl, HTX, HB⟩ := hrel
        by_cases hlt : i < M
        · obtain ⟨⟨x, y⟩, hxy⟩ : ∃ xy, raw2[i]? = some xy := ⟨_, List.getElem?_eq_getElem (by have := HNb.out; omega)⟩
          obtain ⟨ix, iy, b, o, rfl, hbl, c0, c1⟩ := (HP2.out.bel HB.out) i _ hxy
          have hk1 : (i : Int) < n2 := by omega
          have hk2 : (i : Int) < 20 := by omega
          obtain ⟨P, hP⟩ : ∃ P, pieceV x y = P := ⟨_, rfl⟩
          have hPl : P.length ≤ 10 := by rw [← hP]; exact piece_len x y
          have HPX : Hid (str (pieceV x y) = str P) := Lib.hid (by rw [hP])
          obtain ⟨B, hB⟩ : ∃ B, blankV L (i + 1) = B := ⟨_, rfl⟩
          have hBl : B.length ≤ 10 := by rw [← hB]; exact (blanks_len _ (blank_mem L (i + 1))).2
          have HBX : Hid (str (blankV L (i + 1)) = str B) := Lib.hid (by rw [hB])
          have HTX2 : Hid (T ++ (P ++ B) = textOf (its raw2 L 1 (i + 1))) := Lib.hid (by
            have htext := text_succ raw2 L 1 i hxy
            rw [htext, ← HTX.out, hP, hB])
          have hkeep : ∀ w', Bel wr w' → w'.cell? ⟨b, o + i * 2, none⟩ = some (.int .i64 x) ∧ w'.cell? ⟨b, o + i * 2 + 1, none⟩ = some (.int .i64 y) := fun w' h =>
            ⟨(h.cell (p := ⟨b, o + i * 2, none⟩) hbl).trans c0, (h.cell (p := ⟨b, o + i * 2 + 1, none⟩) hbl).trans c1⟩
          have HKEEP := Lib.hid hkeep
          have e3 := str_app T P
          have e4 := str_app (T ++ P) B
          rw [List.append_assoc] at e4
          have z3 : (str T).size + (str P).size ≤ 9223372036854775807 := by rw [str_size, str_size]; omega
          have z4 : (str (T ++ P)).size + (str B).size ≤ 9223372036854775807 := by rw [str_size, str_size, List.length_append]; omega
          have HZ : Hid ((T ++ (P ++ B)).length ≤ 20 * (i + 1)) := Lib.hid (by simp; omega)
          clear hkeep hP hB hxy c0 c1 hbl HTX
          go_wp2_with fail
          go_region_held3 (fun w' => w'.cell? ⟨b, o + i * 2, none⟩ = some (.int .i64 x) ∧ w'.cell? ⟨b, o + i * 2 + 1, none⟩ = some (.int .i64 y))
            (first | exact HKEEP.out _ ((Bel.refl _).drew.trans hb3) | exact HKEEP.out _ (Bel.refl _).drew)
            (first | (go_at_call 11; refine (piece_lit HPX.out rfl ix iy _).mono ?_; rintro e w' ⟨rfl, hb3⟩))
          rename_i hh
          clear hh
          have HB3 : Hid (Bel w w') := Lib.hid (HB.out.trans ((Bel.refl _).drew.trans hb3))
          clear hb3 HKEEP HB
          go_wp2_with fail
          refine (blank_at (i := i + 1) (by omega) HBX.out HM.out (HQ.out.bel HB3.out) hm2 (by omega)).mono ?_
          rintro e w5 ⟨rfl, hb5⟩
          have HB5 := Lib.hid (HB3.out.trans hb5)
          clear hb5 HB3
          go_wp2_with fail
          go_roundg (gk - 1)
          case measure => omega
          case rel => exact ⟨i + 1, T ++ (P ++ B), by omega, by first | rfl | rw [e3, e4], by go_num, HZ.out, HTX2, HB5⟩
        · obtain rfl : i = M := by omega
          have hends : ¬ (i : Int) < n2 ∨ ((i : Int) < n2 ∧ ¬ (i : Int) < 20) := by omega
          have hTs : T.length ≤ 400 := by omega
          rcases hends with hk1 | ⟨hk1, hk2⟩
          all_goals
            go_wp2_with fail
            go_meet
            exact ⟨i, T, rfl, hTs, hM1, HTX, HB⟩
    case rest =>
      clear HB hM1 hM2 hM3
      obtain ⟨ib, B, rfl, hBl, hib, HBt, HB⟩ := hcut
      have hsa := scan_its raw L 0 ia 1
      have hsb := scan_its raw2 L 1 ib 1
      have hsj := scan_join raw raw2 L ia ib
      have hbd := scan_bd B 1
      rw [HBt.out, hsb, ← HBt.out] at hbd
      rw [← HA.out] at hsa hsj
      rw [← HBt.out] at hsb hsj
      obtain ⟨f, hf⟩ : ∃ f, feeds A = f := ⟨_, rfl⟩
      have hfl : f ≤ 400 := by rw [← hf]; exact Nat.le_trans (feeds_le A) hAl
      rw [hf] at hsa hsj
      have hla : (toksOf (its raw L 0 ia) 1).length = ia := by rw [toks_len, its_len]
      have hlb : (toksOf (its raw2 L 1 ib) 1 ++ [(⟨5, [], 0, ((1 + feeds B : Nat) : Int)⟩ : Tok)]).length = ib + 1 := by rw [List.length_append, toks_len, its_len]; rfl
      generalize toksOf (its raw L 0 ia) 1 = ta at hsa hsj hla
      generalize toksOf (its raw2 L 1 ib) 1 ++ [(⟨5, [], 0, ((1 + feeds B : Nat) : Int)⟩ : Tok)] = tb at hsb hsj hlb hbd
      have HSA : Hid (scan (str A).data.toList 1 = .ok (ta ++ [(⟨5, [], 0, ((1 + f : Nat) : Int)⟩ : Tok)])) := Lib.hid hsa
      have HSB : Hid (scan (str B).data.toList 1 = .ok tb) := Lib.hid hsb
      have HSJ : Hid (scan (str (A ++ ([10] ++ B))).data.toList 1 = .ok (ta ++ tb.map (Tok.down (f + 1)))) := Lib.hid hsj
      have HLA : Hid ((ta ++ [(⟨5, [], 0, ((1 + f : Nat) : Int)⟩ : Tok)]).length = ia + 1) := Lib.hid (by rw [List.length_append, hla]; rfl)
      have HLB := Lib.hid hlb
      have HLA0 := Lib.hid hla
      have HLJ : Hid ((ta ++ tb.map (Tok.down (f + 1))).length = ia + (ib + 1)) := Lib.hid (by rw [List.length_append, List.length_map, hla, hlb])
      have HBD : Hid (∀ y ∈ tb, 0 ≤ y.line ∧ y.line ≤ 401) := Lib.hid (fun y hy => by
        have := hbd y hy
        exact ⟨this.1, by have := this.2; omega⟩)
      have e1 : str A ++ ⟨#[10]⟩ = str (A ++ [10]) := str_app A [10]
      have e2 : str (A ++ [10]) ++ str B = str (A ++ ([10] ++ B)) := by rw [← List.append_assoc]; exact str_app _ B
      have z1 : (str A).size + 1 ≤ 9223372036854775807 := by rw [str_size]; omega
      have z2 : (str (A ++ [10])).size + (str B).size ≤ 9223372036854775807 := by rw [str_size, str_size]; simp; omega
      have z3 : (⟨#[10]⟩ : ByteArray).size = 1 := rfl
      have HZA : Hid ((str A).size ≤ 20000) := Lib.hid (by rw [str_size]; omega)
      have HZB : Hid ((str B).size ≤ 20000) := Lib.hid (by rw [str_size]; omega)
      have HZJ : Hid ((str (A ++ ([10] ++ B))).size ≤ 20000) := Lib.hid (by rw [str_size]; simp; omega)
      have HFS : Hid (feeds (str A).data.toList = f) := Lib.hid hf
      have HAM : Hid ((str A).size ≤ maxLen) := Lib.hid (by rw [str_size]; unfold maxLen; omega)
      have HT2 := Lib.hid (HT.out.bel HB.out)
      generalize str (A ++ [10]) = U1 at e1 e2 z2
      generalize str (A ++ ([10] ++ B)) = U2 at e2 HSJ HZJ
      clear hsa hsb hsj hla hlb hbd hf HA HBt
      go_wp2_with fail
      refine (scan_ok HSA.out HLA.out HZA.out _ HT2.out).mono ?_
      rintro e' w5 ⟨B1, c1, rfl, hz1, hc1, hat1, hb5⟩
      have HB5 := Lib.hid (HB.out.trans hb5)
      have HT5 := Lib.hid (HT.out.bel HB5.out)
      have HAT := Lib.hid hat1
      clear hb5 HT2 hz1 hat1 HB
      go_wp2_with fail
      refine (scan_ok HSB.out HLB.out HZB.out _ HT5.out).mono ?_
      rintro e' w6 ⟨B2, c2, rfl, hz2, hc2, hat2, hb6⟩
      have HB6 := Lib.hid (HB5.out.trans hb6)
      have HT6 := Lib.hid (HT.out.bel HB6.out)
      have HAT6 := Lib.hid (HAT.out.bel hb6)
      have HBT := Lib.hid hat2
      clear hb6 HT5 hz2 hat2 HB5 HAT
      go_wp2_with fail
      refine (scan_ok HSJ.out HLJ.out HZJ.out _ HT6.out).mono ?_
      rintro e' w8 ⟨B3, c3, rfl, hz3, hc3, hat3, hb8⟩
      have HB8 := Lib.hid (HB6.out.trans hb8)
      have HAT8 := Lib.hid (HAT6.out.bel hb8)
      have HBT8 := Lib.hid (HBT.out.bel hb8)
      have HJT8 := Lib.hid hat3
      clear hb8 HT6 hz3 hat3 HB6 HAT6 HBT
      have HIA : Hid (ia ≤ 1099511627776) := Lib.hid (by omega)
      go_wp2_with (at_builtin; refine wpList_tstart rfl (.const (.slice none 0 0)) (.tmp 136) rfl rfl B1 ia c1 rfl ta _ HLA0.out HAT8.out HIA.out ?_; intro v0 w9 hr0 hb9)
      have HR0 := Lib.hid hr0
      have HB9 := Lib.hid hb9
      clear hr0 hb9
      go_loopg [25, 26] (ib + 1) (fun gk v ii wr => ∃ k : Nat, k + gk = ib + 1 ∧ ii = .int .i64 k ∧ Hid (TRow wr w8.heap.size v (ta ++ (tb.take k).map (Tok.down (f + 1)))) ∧ Hid (Bel w8 wr) ∧ Hid (0 < k → v ≠ .slice none 0 0))
      case atStart => exact ⟨0, by omega, rfl, Lib.hid (by rw [List.take_zero, List.map_nil, List.append_nil]; exact HR0.out), HB9, Lib.hid (fun h => by omega)⟩
      case round =>
        clear HR0 HB9
        obtain ⟨k, hkg, rfl, HRow, HBy, HNe⟩ := hrel
        by_cases hkn : k < ib + 1
        · obtain ⟨⟨kd, tx, nn, ln⟩, hy⟩ : ∃ y, tb[k]? = some y := ⟨_, List.getElem?_eq_getElem (by have := HLB.out; omega)⟩
          obtain ⟨hy1, hy2⟩ := HBD.out _ (List.mem_of_getElem? hy)
          have hy1' : 0 ≤ ln := hy1
          have hy2' : ln ≤ 401 := hy2
          have hdt := down_take (F := f + 1) hy
          obtain ⟨r0, r1, r2, r3⟩ := (HBT8.out.bel HBy.out).get hy
          rw [Nat.zero_add] at r0 r1 r2 r3
          have HDT := Lib.hid hdt
          have hk1 : (k : Int) < (ib : Int) + 1 := by omega
          have hk2 : k < ib + 1 := hkn
          clear hy hdt hy1 hy2
          have hh := heap_alloc_new wr (.cells #[.int .i64 kd, .string (str tx), .int .i64 nn, .int .i64 ln] 41)
          have q0 := cell_of_heap hh 0
          have q1 := cell_of_heap hh 1
          have q2 := cell_of_heap hh 2
          have q3 := cell_of_heap hh 3
          have qf := frozen_of_heap hh 3
          simp only [List.getElem?_toArray, List.getElem?_cons_zero, List.getElem?_cons_succ] at q0 q1 q2 q3
          have hbx : Bel wr (wr.alloc (.cells #[.int .i64 kd, .string (str tx), .int .i64 nn, .int .i64 ln] 41)) := (Bel.refl _).alloc _ _
          have HBX := Lib.hid hbx
          clear hh hbx
          go_wp2_with fail
          generalize wr.alloc (.cells #[.int .i64 kd, .string (str tx), .int .i64 nn, .int .i64 ln] 41) = Wb at q0 q1 q2 q3 qf HBX ⊢
          obtain ⟨g, hg⟩ : ∃ g, wr.heap.size = g := ⟨_, rfl⟩
          have HG := Lib.hid hg
          rw [hg] at q0 q1 q2 q3 qf ⊢
          clear hg
          go_still_tail 7, (by kernel_rfl)
          still_call ((feeds_lit HFS.out HAM.out _).mono fun e' w' h => ⟨h.1, h.2.symm⟩)
          repeat still_step
          refine wpStill_nil ?_
          change wpList _ _ _ _ _ Wb.drew
          have HLN : Hid ((ta ++ (tb.take k).map (Tok.down (f + 1))).length + 1 ≤ 1099511627776) := Lib.hid (by rw [List.length_append, List.length_map, List.length_take, HLA0.out]; omega)
          have hbs : Bel wr (Wb.setCell ⟨g, 3, none⟩ (.int .i64 (ln + f + 1))) := HBX.out.setCell (by rw [HG.out]; exact Nat.le_refl _) _
          have HBS := Lib.hid hbs
          have HSZ : Hid (w8.heap.size ≤ Wb.heap.size + 1) := Lib.hid (by have h1 := HBy.out.size; have h2 := HBX.out.size; omega)
          clear hbs
          go_wp2_with (at_builtin; go_loud (refine wpList_trow rfl (.tmp 155) (.tmp 157) rfl w8.heap.size u25 _ rfl (TRow.bel HRow.out ((HBS.out.alloc _ _).drew)) _ rfl kd nn (ln + f + 1) (str tx) _ _ (new_heap (by simp) _) HLN.out (by simpa using HSZ.out) ?_; intro v' w10 h1 h2 h3))
          have hb10 : Bel w8 w10 := h2.bel (HBy.out.trans ((HBS.out.alloc _ _).drew)) (fun k hk => ownBlock_ge HRow.out k hk)
          have hr10 : TRow w10 w8.heap.size v' (ta ++ (tb.take (k + 1)).map (Tok.down (f + 1))) := by
            rw [HDT.out, ← List.append_assoc]
            have e5 : ln + ((f + 1 : Nat) : Int) = ln + f + 1 := by omega
            rw [e5]
            exact h1
          go_roundg (gk - 1)
          case measure => omega
          case rel => exact ⟨k + 1, by omega, by go_num, Lib.hid hr10, Lib.hid hb10, Lib.hid (fun _ => h3)⟩
        · obtain rfl : k = ib + 1 := by omega
          have hrow := HRow.out
          rw [List.take_of_length_le (Nat.le_of_eq HLB.out)] at hrow
          obtain ⟨BW, cW, rfl, hbw, hcw, hatw⟩ := hrow.form (HNe.out (by omega))
          rw [HLJ.out]
          have HW := Lib.hid hatw
          have HJ := Lib.hid (HJT8.out.bel HBy.out)
          have hk1 : ¬ ((ib : Int) + 1 < (ib : Int) + 1) := by omega
          clear hrow hbw hcw hatw HRow HNe hkn hkg
          go_wp2_with fail
          refine (same_lit (decide_eq_true rfl) HLJ.out HLJ.out HJ.out.q HW.out.q (by omega) (by omega)).mono ?_
          rintro e' w11 ⟨rfl, hb11⟩
          have HB11 := Lib.hid ((HB8.out.trans HBy.out).trans hb11)
          clear hb11
          go_wp2_with fail
          go_ret
          exact ⟨rfl, HB11.out⟩
end Go.Proofs.YtgameoiofikhmaaDoor
