/- Texts are scanned, and names, words and numbers told, as the document says. -/
import Derived.Test.YtgameoiofikhmaaDoorTRefH
import Derived.Test.YtgameoiofikhmaaDoorTItems
import Derived.Deep.DeepCutAuto
import Derived.Deep.CutBlock
import Derived.StillTailTactics
namespace Go.Proofs.YtgameoiofikhmaaDoor
open Go.RowKit Tk
set_option linter.unusedVariables false
/-- five texts lie in a block -/
def Five (W : World) (G : Nat) (xs : List ByteArray) : Prop := G < W.heap.size ∧ ∀ (j : Nat) (x : ByteArray), xs[j]? = some x → W.cell? ⟨G, j, none⟩ = some (.string x)
theorem Five.bel {W W2 : World} {G : Nat} {xs : List ByteArray} (h : Five W G xs) (hb : Bel W W2) : Five W2 G xs :=
  ⟨Nat.lt_of_lt_of_le h.1 hb.size, fun j x hx => (hb.cell (p := ⟨G, j, none⟩) h.1).trans (h.2 j x hx)⟩
theorem five_new (W : World) (a b c d e : ByteArray) (t : TypeId) : Five (W.alloc (.cells #[.string a, .string b, .string c, .string d, .string e] t)) W.heap.size [a, b, c, d, e] := by
  have hh := heap_alloc_new W (.cells #[.string a, .string b, .string c, .string d, .string e] t)
  refine ⟨lt_of_heap hh, fun j x hx => ?_⟩
  rw [cell_of_heap hh]
  match j, hx with
  | 0, hx => cases hx; rfl
  | 1, hx => cases hx; rfl
  | 2, hx => cases hx; rfl
  | 3, hx => cases hx; rfl
  | 4, hx => cases hx; rfl
  | _ + 5, hx => cases hx
set_option maxRecDepth 100000 in
set_option maxHeartbeats 16000000 in
theorem tells_walk (s m : ByteArray) (p q : Option Addr) (n c n2 d : Nat) (raw : List (Int × Int)) (L : List Int) (at' : Int) (w : World) (hs : s.size ≤ 140737488351232) (hm : m.size ≤ 140737488351232) (hi : inInt at') (hn : raw.length = n) (hn2 : n ≤ 9223372036854775807) (hl : L.length = n2) (hl2 : n2 ≤ 9223372036854775807)
    (HP : Hid (PairsQ w p raw)) (HQ : Hid (IntsQ w q L)) (hT : SignsAt w) :
    Calls Tryd.prog 3 #[.string s, .slice p n c, .slice q n2 d, .int .i64 at', .string m] w fun e w' => e = .returned (.bool true) ∧ Bel w w' := by
  have ex0 : ∀ (x y z : Value) (W : World), (Instr.extract (.tuple #[x, y, z]) 0).run Tryd.prog W = .ok x W := fun x y z W => by kernel_rfl
  have ex1 : ∀ (x y z : Value) (W : World), (Instr.extract (.tuple #[x, y, z]) 1).run Tryd.prog W = .ok y W := fun x y z W => by kernel_rfl
  have ex2 : ∀ (x y z : Value) (W : World), (Instr.extract (.tuple #[x, y, z]) 2).run Tryd.prog W = .ok z W := fun x y z W => by kernel_rfl
  have HT := Lib.hid hT
  have HN := Lib.hid hn
  have HM := Lib.hid hl
  have HI := Lib.hid hi
  obtain ⟨N, hN⟩ : ∃ N, min n 30 = N := ⟨_, rfl⟩
  have hN1 : N ≤ 30 := by omega
  have hN2 : N ≤ n := by omega
  have hN3 : N = n ∨ N = 30 := by omega
  clear hT hn hl hN hi
  go_enter Tryd.func3, Tryd.ntmps3
  go_wp2_with fail
  refine (awake_any _ HT.out).mono ?_
  rintro e w1 ⟨rfl, hb1⟩
  have HB1 := Lib.hid hb1
  clear hb1
  go_upto_block 0 with (fail)
  go_cut [12] (fun ss wx => ∃ T : ByteArray, ss = .string T ∧ T.size ≤ 600 ∧ Hid (Bel w wx))
  case first =>
    go_wp2_with fail
    go_loopg [12, 13] N (fun gk ss ii wr => ∃ i : Nat, ∃ T : ByteArray, i + gk = N ∧ ss = .string T ∧ ii = .int .i64 i ∧ T.size ≤ 20 * i ∧ Hid (Bel w wr))
    case atStart => exact ⟨0, ⟨#[]⟩, by omega, rfl, rfl, Nat.le_refl _, HB1⟩
    case round =>
      clear HB1
      obtain ⟨i, T, hkg, rfl, rfl, hTl, HB⟩ := hrel
      by_cases hlt : i < N
      · obtain ⟨⟨x, y⟩, hxy⟩ : ∃ xy, raw[i]? = some xy := ⟨_, List.getElem?_eq_getElem (by have := HN.out; omega)⟩
        obtain ⟨ix, iy, b, o, rfl, hbl, c0, c1⟩ := (HP.out.bel HB.out) i _ hxy
        have hk1 : (i : Int) < n := by omega
        have hk2 : (i : Int) < 30 := by omega
        obtain ⟨P, hP⟩ : ∃ P, str (pieceV x y) = P := ⟨_, rfl⟩
        have hPl : P.size ≤ 10 := by rw [← hP, str_size]; exact piece_len x y
        have HPX := Lib.hid hP
        obtain ⟨B, hB⟩ : ∃ B, str (blankV L i) = B := ⟨_, rfl⟩
        have hBl : B.size ≤ 10 := by rw [← hB, str_size]; exact (blanks_len _ (blank_mem L i)).2
        have HBX := Lib.hid hB
        have hkeep : ∀ w', Bel wr w' → w'.cell? ⟨b, o + i * 2, none⟩ = some (.int .i64 x) ∧ w'.cell? ⟨b, o + i * 2 + 1, none⟩ = some (.int .i64 y) := fun w' h =>
          ⟨(h.cell (p := ⟨b, o + i * 2, none⟩) hbl).trans c0, (h.cell (p := ⟨b, o + i * 2 + 1, none⟩) hbl).trans c1⟩
        have HKEEP := Lib.hid hkeep
        have z3 : T.size + P.size ≤ 9223372036854775807 := by omega
        have z4 : (T ++ P).size + B.size ≤ 9223372036854775807 := by rw [ByteArray.size_append]; omega
        have HZ : Hid ((T ++ P ++ B).size ≤ 20 * (i + 1)) := Lib.hid (by rw [ByteArray.size_append, ByteArray.size_append]; omega)
        obtain ⟨bn, hbn⟩ : ∃ b, isName P.data.toList = b := ⟨_, rfl⟩
        obtain ⟨bw, hbw⟩ : ∃ b, isWord P.data.toList = b := ⟨_, rfl⟩
        have HNM := Lib.hid hbn
        have HWD := Lib.hid hbw
        have HPM : Hid (P.size ≤ maxLen) := Lib.hid (by unfold maxLen; omega)
        have q1 : (bn != bn) = false := bne_self_eq_false bn
        have q2 : (bw != bw) = false := bne_self_eq_false bw
        clear hkeep hP hB hxy c0 c1 hbl hbn hbw
        go_wp2_with fail
        go_region_held3 (fun w' => w'.cell? ⟨b, o + i * 2, none⟩ = some (.int .i64 x) ∧ w'.cell? ⟨b, o + i * 2 + 1, none⟩ = some (.int .i64 y))
          (first | exact HKEEP.out _ ((Bel.refl _).drew.trans hb3) | exact HKEEP.out _ (Bel.refl _).drew)
          (first | (go_at_call 11; refine (piece_lit HPX.out rfl ix iy _).mono ?_; rintro e w' ⟨rfl, hb3⟩))
        rename_i hh
        clear hh
        have HB3 : Hid (Bel w w') := Lib.hid (HB.out.trans ((Bel.refl _).drew.trans hb3))
        clear hb3 HKEEP HB
        go_wp2_with fail
        refine (blank_two HBX.out HM.out (HQ.out.bel HB3.out) hl2 (by omega)).mono ?_
        rintro e w5 ⟨rfl, hb5⟩
        have HB5 := Lib.hid (HB3.out.trans hb5)
        clear hb5 HB3
        go_wp2_with (first | (go_at_call 13; ((with_reducible refine (name_lit HNM.out HPM.out _).mono ?_); rintro e w' ⟨rfl, rfl⟩)) | (go_at_call 15; ((with_reducible refine (word_lit HWD.out _).mono ?_); rintro e w' ⟨rfl, rfl⟩)) | (go_at_call 14; ((with_reducible refine (rname_lit HNM.out HPM.out _).mono ?_); rintro e w6 ⟨rfl, hb6⟩; have HB6 := Lib.hid (HB5.out.trans hb6); clear hb6)) | (go_at_call 16; ((with_reducible refine (rword_lit HWD.out _).mono ?_); rintro e w7 ⟨rfl, hb7⟩; have HB7 := Lib.hid (HB6.out.trans hb7); clear hb7)))
        go_roundg (gk - 1)
        case measure => omega
        case rel => exact ⟨i + 1, T ++ P ++ B, by omega, by first | rfl | simp, by go_num, HZ.out, HB7⟩
      · obtain rfl : i = N := by omega
        have hends : ¬ (i : Int) < n ∨ ((i : Int) < n ∧ ¬ (i : Int) < 30) := by omega
        have hTs : T.size ≤ 600 := by omega
        rcases hends with hk1 | ⟨hk1, hk2⟩
        all_goals
          go_wp2_with fail
          go_meet
          exact ⟨T, rfl, hTs, HB⟩
  case rest =>
    clear HB1 hN1 hN2 hN3
    obtain ⟨T, rfl, hTs, HB⟩ := hcut
    obtain ⟨k, hk, hpk⟩ := pick_nat_of at' (T.size + 1) (by omega)
    have HPK : Hid (pick at' ((T.size : Int) + 1) = (k : Int)) := Lib.hid (by rw [← hpk]; rfl)
    clear hpk
    go_wp2_with (go_at_call 17; ((with_reducible refine (pick_lit HPK.out HI.out (by omega) _).mono ?_); rintro e w' ⟨rfl, rfl⟩))
    have hk2 : k ≤ T.size := by omega
    have hk3 : (k : Int) ≤ T.size := by omega
    have y1 : (T.extract 0 k).size = k := by rw [ByteArray.size_extract]; omega
    have y2 : (T.extract k T.size).size = T.size - k := by rw [ByteArray.size_extract]; omega
    have z1 : (T.extract 0 k).size + m.size ≤ 9223372036854775807 := by omega
    have z2 : (T.extract 0 k ++ m).size + (T.extract k T.size).size ≤ 9223372036854775807 := by rw [ByteArray.size_append]; omega
    clear y1 y2
    have hj1 : min ((k : Int) + m.size) T.size = ((min (k + m.size) T.size : Nat) : Int) := by omega
    obtain ⟨j, hj⟩ : ∃ j, min (k + m.size) T.size = j := ⟨_, rfl⟩
    rw [hj] at hj1
    have hj2 : j ≤ T.size := by omega
    have hj3 : (j : Int) ≤ T.size := by omega
    have z3 : (T.extract 0 k ++ m).size + (T.extract j T.size).size ≤ 9223372036854775807 := by rw [ByteArray.size_append, ByteArray.size_extract, ByteArray.size_extract]; omega
    go_region
    have hzx2 : (T.extract 0 k ++ m ++ T.extract j T.size).size ≤ maxLen := by rw [ByteArray.size_append, ByteArray.size_append, ByteArray.size_extract, ByteArray.size_extract]; unfold maxLen; omega
    have hzx3 : (T.extract 0 k ++ m ++ T.extract k T.size).size ≤ maxLen := by rw [ByteArray.size_append, ByteArray.size_append, ByteArray.size_extract, ByteArray.size_extract]; unfold maxLen; omega
    have hzx4 : (T.extract 0 k).size ≤ maxLen := by rw [ByteArray.size_extract]; unfold maxLen; omega
    clear z1 z2 z3 hj hj1 hj2 hj3 hk hk2 hk3
    generalize T.extract 0 k ++ m ++ T.extract j T.size = x2 at hzx2 ⊢
    generalize T.extract 0 k ++ m ++ T.extract k T.size = x3 at hzx3 ⊢
    generalize T.extract 0 k = x4 at hzx4 ⊢
    have HF := Lib.hid ((five_new wc s T x2 x3 x4 9).bel (Bel.refl _).drew)
    have HB2 := Lib.hid ((HB.out.alloc #[.string s, .string T, .string x2, .string x3, .string x4] 9).drew)
    generalize (wc.alloc (.cells #[.string s, .string T, .string x2, .string x3, .string x4] 9)).drew = W0 at HF HB2 ⊢
    generalize wc.heap.size = G at HF ⊢
    obtain ⟨xs, hxs⟩ : ∃ xs, [s, T, x2, x3, x4] = xs := ⟨_, rfl⟩
    have HXS : Hid (xs.length = 5 ∧ ∀ x ∈ xs, x.size ≤ maxLen) := Lib.hid (by
      subst hxs
      refine ⟨rfl, fun x hx => ?_⟩
      simp only [List.mem_cons, List.not_mem_nil, or_false] at hx
      rcases hx with rfl | rfl | rfl | rfl | rfl
      · unfold maxLen; omega
      · unfold maxLen; omega
      · exact hzx2
      · exact hzx3
      · exact hzx4)
    rw [hxs] at HF
    clear hxs hzx2 hzx3 hzx4 HB
    go_wp2_with fail
    go_loopg [111] 5 (fun gk ii wr => ∃ i : Nat, i + gk = 5 ∧ ii = .int .i64 i ∧ Hid (Bel W0 wr))
    case atStart => exact ⟨0, by omega, rfl, Lib.hid (Bel.refl _)⟩
    case round =>
      obtain ⟨i, hig, rfl, HBi⟩ := hrel
      by_cases hi5 : i < 5
      · obtain ⟨x, hx⟩ : ∃ x, xs[i]? = some x := ⟨_, List.getElem?_eq_getElem (by rw [HXS.out.1]; exact hi5)⟩
        have cx := (HF.out.bel HBi.out).2 i x hx
        have HXM := Lib.hid (HXS.out.2 x (List.mem_of_getElem? hx))
        have hk1 : (i : Int) < 5 := by omega
        obtain ⟨⟨l, er, ln⟩, hv⟩ : ∃ v, scanV x = v := ⟨_, rfl⟩
        obtain ⟨nl, hnl⟩ : ∃ nl, l.length = nl := ⟨_, rfl⟩
        have hl9 : nl ≤ 1000000000 := by
          have := scanV_len x
          rw [hv] at this
          rw [← hnl]
          exact this
        have HV := Lib.hid hv
        have HNL := Lib.hid hnl
        have HL9 := Lib.hid hl9
        have q1 : (er != er) = false := bne_self_eq_false er
        have q2 : (ln != ln) = false := bne_self_eq_false ln
        clear hx hv hnl hl9
        go_wp2_with fail
        refine (scan_hand HV.out HNL.out HXM.out _ (HT.out.bel (HB2.out.trans HBi.out))).mono ?_
        rintro e W1 ⟨pa, ca, rfl, hqa, hba⟩
        have HQA := Lib.hid hqa
        have HBA := Lib.hid (HBi.out.trans hba)
        clear hqa hba
        go_wp2_with fail
        refine (rscan_hand HV.out HNL.out HXM.out _).mono ?_
        rintro e W2 ⟨pb, cb, rfl, hqb, hbb⟩
        have HQA2 := Lib.hid (HQA.out.bel hbb)
        have HQB := Lib.hid hqb
        have HBB := Lib.hid (HBA.out.trans hbb)
        clear hqb hbb
        go_wp2_with fail
        refine (same_lit (decide_eq_true rfl) HNL.out HNL.out HQA2.out HQB.out HL9.out HL9.out).mono ?_
        rintro e W3 ⟨rfl, hbs⟩
        have HBS := Lib.hid (HBB.out.trans hbs)
        clear hbs
        go_wp2_with fail
        go_roundg (gk - 1)
        case measure => omega
        case rel => exact ⟨i + 1, by omega, by go_num, HBS⟩
      · obtain rfl : i = 5 := by omega
        have HB3 := Lib.hid (HB2.out.trans HBi.out)
        clear HF HB2 HBi HXS
        have w1 : m.size ≤ 9223372036854775807 := by omega
        have w2 : 2 + m.size ≤ 9223372036854775807 := by omega
        have w3 : 1 + m.size ≤ 9223372036854775807 := by omega
        have w4 : s.size + 1 ≤ 9223372036854775807 := by omega
        go_wp2_with fail
        obtain ⟨y2, hy2⟩ : ∃ y, (⟨#[48, 120]⟩ : ByteArray) ++ m = y := ⟨_, rfl⟩
        obtain ⟨y3, hy3⟩ : ∃ y, (⟨#[48]⟩ : ByteArray) ++ m = y := ⟨_, rfl⟩
        obtain ⟨y4, hy4⟩ : ∃ y, s ++ (⟨#[49]⟩ : ByteArray) = y := ⟨_, rfl⟩
        have hz2 : y2.size ≤ maxLen := by rw [← hy2, ByteArray.size_append]; unfold maxLen; exact Nat.le_trans w2 (by decide)
        have hz3 : y3.size ≤ maxLen := by rw [← hy3, ByteArray.size_append]; unfold maxLen; exact Nat.le_trans w3 (by decide)
        have hz4 : y4.size ≤ maxLen := by rw [← hy4, ByteArray.size_append]; unfold maxLen; exact Nat.le_trans w4 (by decide)
        rw [hy2, hy3, hy4]
        clear hy2 hy3 hy4 w1 w2 w3 w4
        have HF := Lib.hid (five_new wr s m y2 y3 y4 9)
        have HB2 := Lib.hid (HB3.out.alloc #[.string s, .string m, .string y2, .string y3, .string y4] 9)
        generalize wr.alloc (.cells #[.string s, .string m, .string y2, .string y3, .string y4] 9) = W9 at HF HB2 ⊢
        generalize wr.heap.size = G9 at HF ⊢
        obtain ⟨ys, hys⟩ : ∃ ys, [s, m, y2, y3, y4] = ys := ⟨_, rfl⟩
        have HYS : Hid (ys.length = 5 ∧ ∀ x ∈ ys, x.size ≤ maxLen) := Lib.hid (by
          subst hys
          refine ⟨rfl, fun x hx => ?_⟩
          simp only [List.mem_cons, List.not_mem_nil, or_false] at hx
          rcases hx with rfl | rfl | rfl | rfl | rfl
          · unfold maxLen; omega
          · unfold maxLen; omega
          · exact hz2
          · exact hz3
          · exact hz4)
        rw [hys] at HF
        clear hys hz2 hz3 hz4 HB3
        go_loopg [152] 5 (fun gk ii wr => ∃ i : Nat, i + gk = 5 ∧ ii = .int .i64 i ∧ Hid (Bel W9 wr))
        case atStart => exact ⟨0, by omega, rfl, Lib.hid (Bel.refl _)⟩
        case round =>
          obtain ⟨i, hig, rfl, HBi⟩ := hrel
          by_cases hi5 : i < 5
          · obtain ⟨x, hx⟩ : ∃ x, ys[i]? = some x := ⟨_, List.getElem?_eq_getElem (by rw [HYS.out.1]; exact hi5)⟩
            have cx := (HF.out.bel HBi.out).2 i x hx
            have HPM := Lib.hid (HYS.out.2 x (List.mem_of_getElem? hx))
            have hk1 : (i : Int) < 5 := by omega
            obtain ⟨v, bv, hnu⟩ : ∃ v b, numIs x.data.toList v b := ⟨_, _, rfl, rfl⟩
            obtain ⟨bn, hbn⟩ : ∃ b, isName x.data.toList = b := ⟨_, rfl⟩
            obtain ⟨bw, hbw⟩ : ∃ b, isWord x.data.toList = b := ⟨_, rfl⟩
            have HNU := Lib.hid hnu
            have HNM := Lib.hid hbn
            have HWD := Lib.hid hbw
            have q1 : (bn != bn) = false := bne_self_eq_false bn
            have q2 : (bw != bw) = false := bne_self_eq_false bw
            have q3 : (bv != bv) = false := bne_self_eq_false bv
            have q4 : ((v : Int) != (v : Int)) = false := bne_self_eq_false _
            clear hx hnu hbn hbw
            go_wp2_with (first | (go_at_call 21; ((with_reducible refine (number_lit HNU.out HPM.out _).mono ?_); rintro e w' ⟨rfl, rfl⟩)) | (go_at_call 22; ((with_reducible refine (rnumber_lit HNU.out HPM.out _).mono ?_); rintro e w' ⟨rfl, rfl⟩)) | (go_at_call 13; ((with_reducible refine (name_lit HNM.out HPM.out _).mono ?_); rintro e w' ⟨rfl, rfl⟩)) | (go_at_call 15; ((with_reducible refine (word_lit HWD.out _).mono ?_); rintro e w' ⟨rfl, rfl⟩)) | (go_at_call 14; ((with_reducible refine (rname_lit HNM.out HPM.out _).mono ?_); rintro e w6 ⟨rfl, hb6⟩; have HB6 := Lib.hid (HBi.out.trans hb6); clear hb6)) | (go_at_call 16; ((with_reducible refine (rword_lit HWD.out _).mono ?_); rintro e w7 ⟨rfl, hb7⟩; have HB7 := Lib.hid (HB6.out.trans hb7); clear hb7)))
            go_roundg (gk - 1)
            case measure => omega
            case rel => exact ⟨i + 1, by omega, by go_num, HB7⟩
          · obtain rfl : i = 5 := by omega
            go_wp2_with fail
            go_ret
            exact ⟨rfl, HB2.out.trans HBi.out⟩
end Go.Proofs.YtgameoiofikhmaaDoor
