/- With line feeds and blanks ahead there are the same tokens, so many lines further on. -/
import Derived.Test.YtgameoiofikhmaaDoorTItems
import Derived.Test.YtgameoiofikhmaaDoorTShiftP
import Derived.Deep.DeepCutAuto
import Derived.Deep.CutBlock
import Derived.StillTailTactics
namespace Go.Proofs.YtgameoiofikhmaaDoor
open Go.RowKit Tk
set_option linter.unusedVariables false
theorem toksAt_put {w : World} {B k : Nat} {l : List Tok} {f : Nat} {x : Tok} (h : ToksAt w B 0 (mix l f k)) (hx : l[k]? = some x) :
    ToksAt (w.setCell ⟨B, k * 4 + 3, none⟩ (.int .i64 (x.line + f))) B 0 (mix l f (k + 1)) := by
  have hmk : (mix l f k)[k]? = some x := by rw [mix_get, if_neg (by omega)]; exact hx
  refine ⟨Nat.lt_of_lt_of_le h.1 (by simp), fun j y hj c v hc => ?_⟩
  have hc4 : c < 4 := (List.getElem?_eq_some_iff.1 hc).1
  rw [mix_get] at hj
  by_cases hjk : j = k
  · subst hjk
    rw [if_pos (by omega), hx] at hj
    obtain rfl := Option.some.inj hj
    by_cases hc3 : c = 3
    · subst hc3
      obtain rfl : (Value.int .i64 (x.line + f)) = v := Option.some.inj hc
      have := h.2 j x hmk 3 _ rfl
      rw [Nat.zero_add] at this ⊢
      exact World.cell?_setCell_same _ _ _ this
    · have hv : (tcells x)[c]? = some v := by
        match c, hc4, hc3, hc with
        | 0, _, _, hc => exact hc
        | 1, _, _, hc => exact hc
        | 2, _, _, hc => exact hc
        | 3, _, h3, _ => exact absurd rfl h3
        | c + 4, h4, _, _ => exact absurd h4 (by omega)
      refine (World.cell?_setCell_other _ _ _ _ (fun e => ?_)).trans (h.2 j x hmk c v hv)
      injection e
      omega
  · have hmj : (mix l f k)[j]? = some y := by
      rw [mix_get]
      by_cases h1 : j < k
      · rw [if_pos h1]; rwa [if_pos (by omega)] at hj
      · rw [if_neg h1]; rwa [if_neg (by omega)] at hj
    refine (World.cell?_setCell_other _ _ _ _ (fun e => ?_)).trans (h.2 j y hmj c v hc)
    injection e
    omega
theorem toksAt_other {w : World} {B B' o : Nat} {l : List Tok} (h : ToksAt w B' 0 l) (hne : B ≠ B') (v : Value) : ToksAt (w.setCell ⟨B, o, none⟩ v) B' 0 l :=
  ⟨Nat.lt_of_lt_of_le h.1 (by simp), fun j x hj k u hk => (World.cell?_setCell_other _ _ _ _ (fun e => hne (by injection e))).trans (h.2 j x hj k u hk)⟩
set_option maxRecDepth 100000 in
set_option maxHeartbeats 16000000 in
theorem shifts_walk (s : ByteArray) (p q : Option Addr) (n c m d : Nat) (raw : List (Int × Int)) (L : List Int) (w : World) (hs : s.size ≤ maxLen) (hn : raw.length = n) (hn2 : n ≤ 9223372036854775807) (hm : L.length = m) (hm2 : m ≤ 9223372036854775807)
    (HP : Hid (PairsQ w p raw)) (HQ : Hid (IntsQ w q L)) (hT : SignsAt w) :
    Calls Tryd.prog 8 #[.string s, .slice p n c, .slice q m d] w fun e w' => e = .returned (.bool true) ∧ Bel w w' := by
  have ex0 : ∀ (x y z : Value) (W : World), (Instr.extract (.tuple #[x, y, z]) 0).run Tryd.prog W = .ok x W := fun x y z W => by kernel_rfl
  have ex1 : ∀ (x y z : Value) (W : World), (Instr.extract (.tuple #[x, y, z]) 1).run Tryd.prog W = .ok y W := fun x y z W => by kernel_rfl
  have ex2 : ∀ (x y z : Value) (W : World), (Instr.extract (.tuple #[x, y, z]) 2).run Tryd.prog W = .ok z W := fun x y z W => by kernel_rfl
  unfold maxLen at hs
  have HT := Lib.hid hT
  have HN := Lib.hid hn
  have HM := Lib.hid hm
  obtain ⟨N, hN⟩ : ∃ N, min n 20 = N := ⟨_, rfl⟩
  have hN1 : N ≤ 20 := by omega
  have hN2 : N ≤ n := by omega
  have hN3 : N = n ∨ N = 20 := by omega
  obtain ⟨M, hM⟩ : ∃ M, min m 20 = M := ⟨_, rfl⟩
  have hM1 : M ≤ 20 := by omega
  have hM2 : M ≤ m := by omega
  have hM3 : M = m ∨ M = 20 := by omega
  clear hT hn hm hN hM
  go_enter Tryd.func8, Tryd.ntmps8
  go_wp2_with fail
  refine (awake_any _ HT.out).mono ?_
  rintro e w1 ⟨rfl, hb1⟩
  have HB1 := Lib.hid hb1
  clear hb1
  go_upto_block 0 with (fail)
  go_cut [8] (fun ss wx => ∃ T : ByteArray, ss = .string T ∧ T.size ≤ 220 ∧ Hid (Bel w wx))
  case first =>
    go_wp2_with fail
    go_loopg [8, 9] N (fun gk ss ii wr => ∃ i : Nat, ∃ T : Bs, i + gk = N ∧ ss = .string (str T) ∧ ii = .int .i64 i ∧ T.length ≤ 11 * i ∧ Hid (Bel w wr))
    case atStart => exact ⟨0, [], by omega, rfl, rfl, by simp, HB1⟩
    case round =>
      clear HB1
      obtain ⟨i, T, hkg, rfl, rfl, hTl, HB⟩ := hrel
      by_cases hlt : i < N
      · obtain ⟨⟨x, y⟩, hxy⟩ : ∃ xy, raw[i]? = some xy := ⟨_, List.getElem?_eq_getElem (by have := HN.out; omega)⟩
        obtain ⟨ix, iy, b, o, rfl, hbl, c0, c1⟩ := (HP.out.bel HB.out) i _ hxy
        have hk1 : (i : Int) < n := by omega
        have hk2 : (i : Int) < 20 := by omega
        obtain ⟨P, hP⟩ : ∃ P, pieceV x y = P := ⟨_, rfl⟩
        have hPl : P.length ≤ 10 := by rw [← hP]; exact piece_len x y
        have HPX : Hid (str (pieceV x y) = str P) := Lib.hid (by rw [hP])
        have hkeep : ∀ w', Bel wr w' → w'.cell? ⟨b, o + i * 2, none⟩ = some (.int .i64 x) ∧ w'.cell? ⟨b, o + i * 2 + 1, none⟩ = some (.int .i64 y) := fun w' h =>
          ⟨(h.cell (p := ⟨b, o + i * 2, none⟩) hbl).trans c0, (h.cell (p := ⟨b, o + i * 2 + 1, none⟩) hbl).trans c1⟩
        have HKEEP := Lib.hid hkeep
        have e3 := str_app T P
        have e4 : str (T ++ P) ++ ⟨#[32]⟩ = str (T ++ (P ++ [32])) := by
          rw [← List.append_assoc]
          exact str_app _ [32]
        have z3 : (str T).size + (str P).size ≤ 9223372036854775807 := by rw [str_size, str_size]; omega
        have z4 : (str (T ++ P)).size + 1 ≤ 9223372036854775807 := by rw [str_size]; simp; omega
        have z6 : (⟨#[32]⟩ : ByteArray).size = 1 := rfl
        have HZ : Hid ((T ++ (P ++ [32])).length ≤ 11 * (i + 1)) := Lib.hid (by simp; omega)
        clear hkeep hP hxy c0 c1 hbl
        go_wp2_with fail
        go_region_held3 (fun w' => w'.cell? ⟨b, o + i * 2, none⟩ = some (.int .i64 x) ∧ w'.cell? ⟨b, o + i * 2 + 1, none⟩ = some (.int .i64 y))
          (first | exact HKEEP.out _ ((Bel.refl _).drew.trans hb3) | exact HKEEP.out _ (Bel.refl _).drew)
          (first | (go_at_call 11; refine (piece_lit HPX.out rfl ix iy _).mono ?_; rintro e w' ⟨rfl, hb3⟩))
        rename_i hh
        clear hh
        have HB3 : Hid (Bel w w') := Lib.hid (HB.out.trans ((Bel.refl _).drew.trans hb3))
        clear hb3 HKEEP HB
        go_wp2_with fail
        go_roundg (gk - 1)
        case measure => omega
        case rel => exact ⟨i + 1, T ++ (P ++ [32]), by omega, by first | rfl | rw [e3, e4], by go_num, HZ.out, HB3⟩
      · obtain rfl : i = N := by omega
        have hends : ¬ (i : Int) < n ∨ ((i : Int) < n ∧ ¬ (i : Int) < 20) := by omega
        have hTs : (str T).size ≤ 220 := by rw [str_size]; omega
        rcases hends with hk1 | ⟨hk1, hk2⟩
        all_goals
          go_wp2_with fail
          go_meet
          exact ⟨str T, rfl, hTs, HB⟩
  case rest =>
    clear HB1 hN1 hN2 hN3
    rename_i wx _ _
    obtain ⟨T, rfl, hts, HB⟩ := hcut
    go_upto_block 2 with (fail)
    go_cut [12] (fun ss wx => ∃ A : Bs, ss = .string (str A) ∧ A.length ≤ 200 ∧ Hid (∃ i, A = blanksTo L i) ∧ Hid (Bel w wx))
    case first =>
      go_wp2_with fail
      go_loopg [12, 13] M (fun gk ss ii wr => ∃ i : Nat, ∃ A : Bs, i + gk = M ∧ ss = .string (str A) ∧ ii = .int .i64 i ∧ A.length ≤ 10 * i ∧ Hid (A = blanksTo L i) ∧ Hid (Bel w wr))
      case atStart => exact ⟨0, [], by omega, rfl, rfl, by simp, Lib.hid rfl, HB⟩
      case round =>
        clear HB
        obtain ⟨i, A, hkg, rfl, rfl, hAl, HA, HB⟩ := hrel
        by_cases hlt : i < M
        · have hk1 : (i : Int) < m := by omega
          have hk2 : (i : Int) < 20 := by omega
          obtain ⟨B, hB⟩ : ∃ B, blankV L i = B := ⟨_, rfl⟩
          have hBl : B.length ≤ 10 := by rw [← hB]; exact (blanks_len _ (blank_mem L i)).2
          have HBX : Hid (str (blankV L i) = str B) := Lib.hid (by rw [hB])
          have HA2 : Hid (A ++ B = blanksTo L (i + 1)) := Lib.hid (by rw [blanksTo_succ, ← HA.out, hB])
          have e3 := str_app A B
          have z3 : (str A).size + (str B).size ≤ 9223372036854775807 := by rw [str_size, str_size]; omega
          have HZ : Hid ((A ++ B).length ≤ 10 * (i + 1)) := Lib.hid (by simp; omega)
          clear hB
          go_wp2_with fail
          refine (blank_two HBX.out HM.out (HQ.out.bel HB.out) hm2 (by omega)).mono ?_
          rintro e w5 ⟨rfl, hb5⟩
          have HB5 := Lib.hid (HB.out.trans hb5)
          clear hb5 HB
          go_wp2_with fail
          go_roundg (gk - 1)
          case measure => omega
          case rel => exact ⟨i + 1, A ++ B, by omega, by first | rfl | rw [e3], by go_num, HZ.out, HA2, HB5⟩
        · obtain rfl : i = M := by omega
          have hends : ¬ (i : Int) < m ∨ ((i : Int) < m ∧ ¬ (i : Int) < 20) := by omega
          have hAs : A.length ≤ 200 := by omega
          rcases hends with hk1 | ⟨hk1, hk2⟩
          all_goals
            go_wp2_with fail
            go_meet
            exact ⟨A, rfl, hAs, Lib.hid ⟨i, HA.out⟩, HB⟩
    case rest =>
      clear HB hM1 hM2 hM3
      rename_i wx2 _ _
      obtain ⟨A, rfl, hAl, HA, HB⟩ := hcut
      have g0 : (wc.alloc (.cells #[.string s, .string T] 9)).cell? ⟨wc.heap.size, 0, none⟩ = some (.string s) := World.cell?_alloc_new _ _ _ 0
      have g1 : (wc.alloc (.cells #[.string s, .string T] 9)).cell? ⟨wc.heap.size, 1, none⟩ = some (.string T) := World.cell?_alloc_new _ _ _ 1
      have gz : wc.heap.size < (wc.alloc (.cells #[.string s, .string T] 9)).heap.size := by simp
      have HB4 : Hid (Bel w (wc.alloc (.cells #[.string s, .string T] 9))) := Lib.hid (HB.out.alloc _ _)
      have G0 := Lib.hid g0
      have G1 := Lib.hid g1
      have GZ := Lib.hid gz
      clear g0 g1 gz HB
      go_wp2_with fail
      generalize wc.alloc (.cells #[.string s, .string T] 9) = W4 at HB4 G0 G1 GZ ⊢
      generalize wc.heap.size = D at G0 G1 GZ ⊢
      obtain ⟨f, hf⟩ : ∃ f, feeds A = f := ⟨_, rfl⟩
      have hfl : f ≤ 200 := by rw [← hf]; exact Nat.le_trans (feeds_le A) hAl
      have HF := Lib.hid hf
      have HFS : Hid (feeds (str A).data.toList = f) := Lib.hid hf
      have HAM : Hid ((str A).size ≤ maxLen) := Lib.hid (by rw [str_size]; unfold maxLen; omega)
      clear hf
      go_loopg [71] 2 (fun gk ii wr => ∃ j : Nat, j + gk = 2 ∧ ii = .int .i64 j ∧ Hid (Bel W4 wr))
      case atStart => exact ⟨0, rfl, rfl, Lib.hid (Bel.refl _)⟩
      case round =>
        obtain ⟨j, hjg, rfl, HBr⟩ := hrel
        obtain ⟨wq, rfl⟩ : ∃ W, W = wr := ⟨_, rfl⟩
        obtain ⟨og, rfl⟩ : ∃ k, k = gk := ⟨_, rfl⟩
        by_cases hj2 : j < 2
        · obtain ⟨x, hx, hxs⟩ : ∃ x : ByteArray, wq.cell? ⟨D, j, none⟩ = some (.string x) ∧ x.size ≤ 9223372036854775807 := by
            match j, hj2 with
            | 0, _ => exact ⟨s, (HBr.out.cell (p := ⟨D, 0, none⟩) GZ.out).trans G0.out, by omega⟩
            | 1, _ => exact ⟨T, (HBr.out.cell (p := ⟨D, 1, none⟩) GZ.out).trans G1.out, by omega⟩
          have hj3 : (j : Int) < 2 := by omega
          by_cases hbig : 10000 < x.size
          · go_wp2_with fail
            go_roundg (og - 1)
            case measure => omega
            case rel => exact ⟨j + 1, by omega, by go_num, HBr⟩
          · have hU : str A ++ x = str (A ++ x.data.toList) := by
              rw [← str_app, data_str]
            have hUs : (str A).size + x.size ≤ 9223372036854775807 := by rw [str_size]; omega
            have hUz : (str (A ++ x.data.toList)).size ≤ 20000 := by rw [str_size, List.length_append, size_list]; omega
            have hsc : scan (str (A ++ x.data.toList)).data.toList 1 = (scan x.data.toList 1).down f := by
              obtain ⟨i, hi⟩ := HA.out
              rw [str_data, hi, scan_ahead, ← hi, HF.out]
            have hbd := scan_bd x.data.toList 1
            have hbl := scan_len x.data.toList 1
            rw [size_list] at hbd hbl
            generalize str (A ++ x.data.toList) = U at hU hUz hsc
            have HUz := Lib.hid hUz
            have HX : Hid (x.size ≤ 20000) := Lib.hid (by omega)
            have HT1 : Hid (SignsAt wq) := Lib.hid (HT.out.bel (HB4.out.trans HBr.out))
            cases hR : scan x.data.toList 1 with
            | err e =>
              rw [hR] at hsc hbd
              have hbe : e ≤ 20000 := Nat.le_trans (show e ≤ 1 + x.size from hbd) (by omega)
              have HS1 := Lib.hid hR
              have HS2 : Hid (scan U.data.toList 1 = .err (e + f)) := Lib.hid hsc
              clear hR hsc hbd hbl hUz
              go_wp2_with fail
              refine (scan_err HS1.out HX.out _ HT1.out).mono ?_
              rintro e' w5 ⟨rfl, hb5⟩
              have HT2 := Lib.hid (HT1.out.bel hb5)
              have HB5 := Lib.hid (HBr.out.trans hb5)
              clear hb5 HT1 HBr
              go_wp2_with fail
              refine (scan_err HS2.out HUz.out _ HT2.out).mono ?_
              rintro e' w6 ⟨rfl, hb6⟩
              have HB6 := Lib.hid (HB5.out.trans hb6)
              clear hb6 HT2 HB5
              go_wp2_with (go_at_call 23; ((with_reducible refine (feeds_lit HFS.out HAM.out _).mono ?_); rintro e2 w7 ⟨rfl, rfl⟩))
              refine wp_loop_rounds 1 ?_
              rw [rounds_succ]
              go_wp2_with fail
              refine (same_lit (la := []) (lb := []) (na := 0) (nb := 0) (decide_eq_true rfl) rfl rfl (ToksQ.nil _ _) (ToksQ.nil _ _) (by omega) (by omega)).mono ?_
              rintro e' w8 ⟨rfl, hb8⟩
              have HB8 := Lib.hid (HB6.out.trans hb8)
              clear hb8 HB6
              go_wp2_with fail
              go_roundg (og - 1)
              case measure => omega
              case rel => exact ⟨j + 1, by omega, by go_num, HB8⟩
            | ok l =>
              rw [hR] at hsc hbd hbl
              have hn0b : l.length ≤ 20001 := Nat.le_trans (show l.length ≤ x.size + 1 from hbl) (by omega)
              have HBD : Hid (∀ y ∈ l, 0 ≤ y.line ∧ y.line ≤ 20001) := Lib.hid (fun y hy => by
                have := hbd y hy
                exact ⟨this.1, by have := this.2; omega⟩)
              have HS1 := Lib.hid hR
              have HS2 : Hid (scan U.data.toList 1 = .ok (l.map (Tok.down f))) := Lib.hid hsc
              obtain ⟨n0, hn0⟩ : ∃ n0, l.length = n0 := ⟨_, rfl⟩
              rw [hn0] at hn0b
              have HN0 := Lib.hid hn0
              have HN1 : Hid ((l.map (Tok.down f)).length = n0) := Lib.hid (by rw [List.length_map]; exact hn0)
              clear hR hsc hbd hbl hUz hn0
              go_wp2_with fail
              refine (scan_own HS1.out HN0.out HX.out _ HT1.out).mono ?_
              rintro e' w5 ⟨B1, c1, rfl, hz1, hc1, hat1, hb5, hfr⟩
              have HT2 := Lib.hid (HT1.out.bel hb5)
              have HB5 := Lib.hid (HBr.out.trans hb5)
              have HZ1 := Lib.hid hz1
              have HAT := Lib.hid hat1
              have HFR := Lib.hid hfr
              clear hb5 HT1 hz1 hat1 hfr
              go_wp2_with fail
              refine (scan_ok HS2.out HN1.out HUz.out _ HT2.out).mono ?_
              rintro e' w6 ⟨B2, c2, rfl, hz2, hc2, hat2, hb6⟩
              have HB6 := Lib.hid (HB5.out.trans hb6)
              have HAT1 := Lib.hid (HAT.out.bel hb6)
              have HAT2 := Lib.hid hat2
              have hne : B1 ≠ B2 := by have := HAT.out.1; omega
              have HNE := Lib.hid hne
              have HFR6 : Hid (∀ j, w6.frozen? ⟨B1, j, none⟩ = false) := Lib.hid (fun j => (Below.frozen hb6 (p := ⟨B1, j, none⟩) HAT.out.1).trans (HFR.out j))
              have HBW : Hid (W4.heap.size ≤ B1) := Lib.hid (Nat.le_trans HBr.out.size HZ1.out)
              clear hb6 HT2 HB5 hat2 hne hz2 HAT HFR HZ1
              go_wp2_with (go_at_call 23; ((with_reducible refine (feeds_lit HFS.out HAM.out _).mono ?_); rintro e2 w7 ⟨rfl, rfl⟩))
              obtain ⟨w0, rfl⟩ : ∃ W, W = w6 := ⟨_, rfl⟩
              go_loopg [22] n0 (fun gk ii wy => ∃ k : Nat, k + gk = n0 ∧ ii = .int .i64 k ∧ Hid (ToksAt wy B1 0 (mix l f k)) ∧ Hid (ToksAt wy B2 0 (l.map (Tok.down f))) ∧ Hid (∀ j, wy.frozen? ⟨B1, j, none⟩ = false) ∧ Hid (Bel W4 wy))
              case atStart => exact ⟨0, by omega, rfl, HAT1, HAT2, HFR6, HB6⟩
              case round =>
                obtain ⟨k, hkg, rfl, HM1, HM2, HFz, HBy⟩ := hrel
                by_cases hkn : k < n0
                · obtain ⟨y, hy⟩ : ∃ y, l[k]? = some y := ⟨_, List.getElem?_eq_getElem (by have := HN0.out; omega)⟩
                  have hyb := HBD.out y (List.mem_of_getElem? hy)
                  have hmk : (mix l f k)[k]? = some y := by rw [mix_get, if_neg (by omega)]; exact hy
                  have hput := toksAt_put HM1.out hy
                  have hoth := toksAt_other (o := k * 4 + 3) HM2.out HNE.out (.int .i64 (y.line + f))
                  obtain ⟨_, _, _, r3⟩ := HM1.out.get (j := k) (k := y.kind) (s := y.text) (n := y.n) (m := y.line) hmk
                  rw [Nat.zero_add] at r3
                  have rf := HFz.out (k * 4 + 3)
                  obtain ⟨ln, hln⟩ : ∃ ln, y.line = ln := ⟨_, rfl⟩
                  rw [hln] at hyb hput hoth r3
                  obtain ⟨hy1, hy2⟩ := hyb
                  have HPUT := Lib.hid hput
                  have HOTH := Lib.hid hoth
                  have HBs : Hid (Bel W4 (wr.setCell ⟨B1, k * 4 + 3, none⟩ (.int .i64 (ln + f)))) := Lib.hid (HBy.out.setCell HBW.out _)
                  have HFs : Hid (∀ j, (wr.setCell ⟨B1, k * 4 + 3, none⟩ (.int .i64 (ln + f))).frozen? ⟨B1, j, none⟩ = false) := Lib.hid (fun j => (World.frozen?_setCell _ _ _ _).trans (HFz.out j))
                  have hk1 : (k : Int) < n0 := by omega
                  clear hy hmk hput hoth hln HM1 HM2 HFz HBy
                  go_wp2_with fail
                  go_still_tail 12, (by kernel_rfl)
                  still_call ((feeds_lit HFS.out HAM.out _).mono fun e' w' h => ⟨h.1, h.2.symm⟩)
                  repeat still_step
                  refine wpStill_nil ?_
                  change wpList _ _ _ _ _ wr.drew
                  have r3d : wr.drew.cell? ⟨B1, k * 4 + 3, none⟩ = some (.int .i64 ln) := r3
                  have rfd : wr.drew.frozen? ⟨B1, k * 4 + 3, none⟩ = false := rf
                  go_wp2_with fail
                  go_roundg (gk - 1)
                  case measure => omega
                  case rel => exact ⟨k + 1, by omega, by go_num, Lib.hid (HPUT.out.bel (Bel.refl _).drew), Lib.hid (HOTH.out.bel (Bel.refl _).drew), Lib.hid (fun j => HFs.out j), Lib.hid (HBs.out.drew)⟩
                · obtain rfl : k = n0 := by omega
                  have hmx := HM1.out
                  rw [mix_all l f k (Nat.le_of_eq HN0.out)] at hmx
                  have HMX := Lib.hid hmx
                  have hk1 : ¬ (k : Int) < k := by omega
                  clear hmx HM1 HFz hkn hkg
                  go_wp2_with fail
                  refine (same_lit (decide_eq_true rfl) HN1.out HN1.out HMX.out.q HM2.out.q (by omega) (by omega)).mono ?_
                  rintro e' w8 ⟨rfl, hb8⟩
                  have HB8 := Lib.hid (HBy.out.trans hb8)
                  clear hb8 HBy HMX HM2
                  go_wp2_with fail
                  go_roundg (og - 1)
                  case measure => omega
                  case rel => exact ⟨j + 1, by omega, by go_num, HB8⟩
        · have hj3 : ¬ (j : Int) < 2 := by omega
          go_wp2_with fail
          go_ret
          exact ⟨rfl, HB4.out.trans HBr.out⟩
end Go.Proofs.YtgameoiofikhmaaDoor
