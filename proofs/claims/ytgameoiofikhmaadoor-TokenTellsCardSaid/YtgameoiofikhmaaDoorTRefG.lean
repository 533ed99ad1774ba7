/- The document's own answer for layer 5: a text as tokens. -/
import Derived.Test.YtgameoiofikhmaaDoorTRefF
import Derived.Deep.LoopGhost
import Derived.Deep.DeepCutAuto
import Derived.Deep.CutBlock
namespace Go.Proofs.YtgameoiofikhmaaDoor
open Go.RowKit Tk
set_option linter.unusedVariables false
theorem rsign_lit {s : ByteArray} {t : ByteArray} (h : str (signV s.data.toList) = t) (hs : s.size ≤ maxLen) (w : World) : Calls Tryd.prog 36 #[.string s] w fun e w' => e = .returned (.string t) ∧ Bel w w' := by
  subst h
  exact rsign_any s hs w
set_option maxRecDepth 100000 in
set_option maxHeartbeats 16000000 in
theorem rscan_any (s : ByteArray) (hs : s.size ≤ 20000) (w : World) : Calls Tryd.prog 19 #[.string s] w (ScanIs w (scan s.data.toList 1)) := by
  obtain ⟨R, hR⟩ : ∃ R, scan s.data.toList 1 = R := ⟨_, rfl⟩
  rw [hR]
  have HR0 : Hid (RAll s R 0 [] 1) := Lib.hid (by unfold RAll; rw [List.drop_zero, hR]; cases R <;> rfl)
  clear hR
  go_enter Tryd.func19, Tryd.ntmps19
  go_wp2
  go_loopg [5, 6, 7] s.size (fun gk s5 s6 s7 wr => ∃ (i : Nat) (l : List Tok) (n : Nat), i + gk = s.size ∧ s7 = .int .i64 i ∧ s6 = .int .i64 n ∧ Hid (TRow wr w.heap.size s5 l) ∧ Hid (Bel w wr) ∧ l.length ≤ i ∧ n ≤ i + 1 ∧ Hid (RAll s R i l n))
  case atStart => exact ⟨0, [], 1, by omega, rfl, rfl, Lib.hid (TRow.nil _ _), Lib.hid (Bel.refl _), Nat.le_refl _, Nat.le_refl _, HR0⟩
  case round =>
    clear HR0
    obtain ⟨i, l, n, hg, rfl, rfl, HRow, HB, hl, hn, HS⟩ := hrel
    by_cases hi : i < s.size
    · by_cases h10 : s[i].toNat = 10
      · have b10 : ((s[i].toNat : Int) == 10) = true := by simp [h10]
        have HS2 := Lib.hid (rall_feed HS.out hi h10)
        clear h10 HS
        go_wp2_with fail
        go_roundg (gk - 1)
        case measure => omega
        case rel => exact ⟨i + 1, l, n + 1, by omega, by go_num, by go_num, HRow, HB, by omega, by omega, HS2⟩
      · have b10 : ((s[i].toNat : Int) == 10) = false := by simp; omega
        by_cases h32 : s[i].toNat = 32 ∨ s[i].toNat = 9
        · have HS2 := Lib.hid (rall_blank HS.out hi h32)
          have hb : (((s[i].toNat : Int) == 32) = true ∧ ((s[i].toNat : Int) == 9) = false) ∨ (((s[i].toNat : Int) == 32) = false ∧ ((s[i].toNat : Int) == 9) = true) := by
            rcases h32 with h | h
            · exact Or.inl ⟨by simp [h], by simp [h]⟩
            · exact Or.inr ⟨by simp [h], by simp [h]⟩
          clear h32 h10 HS
          rcases hb with ⟨b32, b9⟩ | ⟨b32, b9⟩
          all_goals
            go_wp2_with fail
            go_roundg (gk - 1)
            case measure => omega
            case rel => exact ⟨i + 1, l, n, by omega, by go_num, rfl, HRow, HB, by omega, by omega, HS2⟩
        · have b32 : ((s[i].toNat : Int) == 32) = false := by simp; omega
          have b9 : ((s[i].toNat : Int) == 9) = false := by simp; omega
          by_cases h35 : s[i].toNat = 35
          · have b35 : ((s[i].toNat : Int) == 35) = true := by simp [h35]
            have HS2 := Lib.hid (rall_note HS.out hi h35)
            have hpos : 0 < upFrom s i := by rw [upFrom_more s i hi h10]; omega
            have hup : i + upFrom s i ≤ s.size := by
              have := upTo10_le (s.data.toList.drop i)
              rw [List.length_drop, size_list] at this
              unfold upFrom
              omega
            have HU : Hid (i + upFrom s i = i + upFrom s i) := Lib.hid rfl
            obtain ⟨e, he⟩ : ∃ e, i + upFrom s i = e := ⟨_, rfl⟩
            rw [he] at HS2 hup
            have hie : i < e := by omega
            have HE := Lib.hid he
            clear h35 h10 h32 HS hpos he HU
            obtain ⟨wq, rfl⟩ : ∃ W, W = wr := ⟨_, rfl⟩
            obtain ⟨og, rfl⟩ : ∃ k, k = gk := ⟨_, rfl⟩
            go_wp2_with fail
            go_loopg [7] (e - i) (fun gk s7 wy => ∃ k : Nat, k + gk = e ∧ i ≤ k ∧ s7 = .int .i64 k ∧ wq = wy ∧ Hid (k + upFrom s k = e))
            case atStart => exact ⟨i, by omega, Nat.le_refl _, rfl, rfl, HE⟩
            case round =>
              obtain ⟨k, hk, hik, rfl, rfl, HK⟩ := hrel
              by_cases hlt : k < s.size
              · by_cases k10 : s[k].toNat = 10
                · obtain rfl : k = e := by
                    have := HK.out
                    rw [upFrom_feed s k hlt k10] at this
                    omega
                  have bk : ((s[k].toNat : Int) == 10) = true := by simp [k10]
                  clear k10
                  go_wp2_with fail
                  go_roundg (s.size - k)
                  case measure => omega
                  case rel => exact ⟨k, l, n, by omega, rfl, rfl, HRow, HB, by omega, by omega, HS2⟩
                · have hke : (k + 1) + upFrom s (k + 1) = e := by
                    have := HK.out
                    rw [upFrom_more s k hlt k10] at this
                    omega
                  have HK2 := Lib.hid hke
                  have hk1 : k + 1 ≤ e := by omega
                  have bk : ((s[k].toNat : Int) == 10) = false := by simp; omega
                  clear k10 hke
                  go_wp2_with fail
                  go_roundg (gk - 1)
                  case measure => omega
                  case rel => exact ⟨k + 1, by omega, by omega, by go_num, rfl, HK2⟩
              · obtain rfl : k = e := by
                  have := HK.out
                  rw [upFrom_end s k (by omega)] at this
                  omega
                go_wp2_with fail
                go_roundg (s.size - k)
                case measure => omega
                case rel => exact ⟨k, l, n, by omega, rfl, rfl, HRow, HB, by omega, by omega, HS2⟩
          · have b35 : ((s[i].toNat : Int) == 35) = false := by simp; omega
            have HG := Lib.hid (gap_at hi (by omega) h35)
            obtain ⟨r, hr⟩ : ∃ r, runFrom s i = r := ⟨_, rfl⟩
            have hrle : i + r ≤ s.size := by
              have := runLen_le (s.data.toList.drop i)
              rw [List.length_drop, size_list] at this
              unfold runFrom at hr
              omega
            have HRL := Lib.hid hr
            clear h10 h32 h35 hr
            obtain ⟨e, he⟩ : ∃ e, i + r = e := ⟨_, rfl⟩
            have HE : Hid (i + runFrom s i = e) := Lib.hid (by rw [HRL.out]; exact he)
            go_upto_block 3 with (fail)
            go_cut [9] (fun s9 wx => s9 = .int .i64 e ∧ wr = wx)
            case first =>
              obtain ⟨wq, rfl⟩ : ∃ W, W = wr := ⟨_, rfl⟩
              obtain ⟨og, rfl⟩ : ∃ k, k = gk := ⟨_, rfl⟩
              go_wp2_with fail
              go_loopg [9] (e - i) (fun gk s9 wy => ∃ k : Nat, k + gk = e ∧ s9 = .int .i64 k ∧ wq = wy ∧ Hid (k + runFrom s k = e))
              case atStart => exact ⟨i, by omega, rfl, rfl, HE⟩
              case round =>
                obtain ⟨k, hk, rfl, rfl, HK⟩ := hrel
                by_cases hlt : k < s.size
                · cases hl : isLet s[k] with
                  | true =>
                    have hke : (k + 1) + runFrom s (k + 1) = e := by
                      have := HK.out
                      rw [runFrom_yes s k hlt (by unfold isRun; rw [hl]; rfl)] at this
                      omega
                    have HK2 := Lib.hid hke
                    have hk1 : k + 1 ≤ e := by omega
                    have HL := Lib.hid hl
                    clear hl hke
                    go_wp2_with (go_at_call 30; ((with_reducible refine (rlet_lit HL.out _).mono ?_); rintro e w' ⟨rfl, rfl⟩))
                    go_roundg (gk - 1)
                    case measure => omega
                    case rel => exact ⟨k + 1, by omega, by go_num, rfl, HK2⟩
                  | false =>
                    cases hd : isDig s[k] with
                    | true =>
                      have hke : (k + 1) + runFrom s (k + 1) = e := by
                        have := HK.out
                        rw [runFrom_yes s k hlt (by unfold isRun; rw [hd, Bool.or_true])] at this
                        omega
                      have HK2 := Lib.hid hke
                      have hk1 : k + 1 ≤ e := by omega
                      have HL := Lib.hid hl
                      have HD := Lib.hid hd
                      clear hl hd hke
                      go_wp2_with (first | (go_at_call 30; ((with_reducible refine (rlet_lit HL.out _).mono ?_); rintro e w' ⟨rfl, rfl⟩)) | (go_at_call 29; ((with_reducible refine (rdig_lit HD.out _).mono ?_); rintro e w' ⟨rfl, rfl⟩)))
                      go_roundg (gk - 1)
                      case measure => omega
                      case rel => exact ⟨k + 1, by omega, by go_num, rfl, HK2⟩
                    | false =>
                      obtain rfl : k = e := by
                        have := HK.out
                        rw [runFrom_no s k hlt (by unfold isRun; rw [hd, hl]; rfl)] at this
                        omega
                      have HL := Lib.hid hl
                      have HD := Lib.hid hd
                      clear hl hd
                      go_wp2_with (first | (go_at_call 30; ((with_reducible refine (rlet_lit HL.out _).mono ?_); rintro e w' ⟨rfl, rfl⟩)) | (go_at_call 29; ((with_reducible refine (rdig_lit HD.out _).mono ?_); rintro e w' ⟨rfl, rfl⟩)))
                      go_meet
                      exact ⟨rfl, rfl⟩
                · obtain rfl : k = e := by
                    have := HK.out
                    rw [runFrom_end s k (by omega)] at this
                    omega
                  go_wp2_with fail
                  go_meet
                  exact ⟨rfl, rfl⟩
            case rest =>
              obtain ⟨rfl, rfl⟩ := hcut
              clear HE
              by_cases hr0 : 0 < r
              · have HXS : Hid ((s.extract i e).size ≤ 20000) := Lib.hid (by rw [ByteArray.size_extract]; omega)
                cases ho : ofRun (s.extract i e).data.toList with
                | some p =>
                  obtain ⟨k, m⟩ := p
                  have HS2 := Lib.hid (rall_run HS.out HG.out HRL.out hr0 (by rw [he]; exact ho))
                  rw [he] at HS2
                  have HO := Lib.hid ho
                  have hie : i ≤ e := by omega
                  have hes : e ≤ s.size := by omega
                  have hne : ((e : Int) == i) = false := by rw [beq_eq_false_iff_ne]; omega
                  have hts : (s.extract i e).size = r := by rw [ByteArray.size_extract]; omega
                  clear ho HS HG HRL
                  go_wp2_with fail
                  refine (rone_yes HO.out HXS.out _).mono ?_
                  rintro _ W1 ⟨rfl, hb1⟩
                  have HBX := Lib.hid (Box.new hb1 41 (.int .i64 k) (.string (s.extract i e)) (.int .i64 m) (.int .i64 0))
                  clear hb1
                  obtain ⟨T, hT⟩ : ∃ T, s.extract i e = T := ⟨_, rfl⟩
                  rw [hT] at HS2 hts HBX ⊢
                  clear hT HXS HO
                  have hT0 : 0 < T.size := by omega
                  have HET : Hid (e = i + T.size) := Lib.hid (by omega)
                  have hT2 : T.size ≤ 20000 := by omega
                  have e1 := isEmpty_no hT0
                  have e2 := toList_no hT0
                  have hln : l.length + 1 ≤ 1099511627776 := by omega
                  have HLN := Lib.hid hln
                  clear hln
                  go_upto_region 14 with (fail)
                  generalize W1.alloc (.cells #[.int .i64 k, .string T, .int .i64 m, .int .i64 0] 41) = W2 at HBX ⊢
                  generalize W1.heap.size = G at HBX ⊢
                  have c0 := HBX.out.c0
                  have c1 := HBX.out.c1
                  have c2 := HBX.out.c2
                  have c3 := HBX.out.c3
                  have f3 := HBX.out.fz 3
                  go_upto_region 17 with (fail)
                  have HBY := Lib.hid (HBX.out.line (.int .i64 n))
                  have HSZ : Hid (w.heap.size ≤ (W2.setCell ⟨G, 3, none⟩ (.int .i64 n)).heap.size) := Lib.hid (Nat.le_trans HB.out.size HBY.out.bel.size)
                  clear c0 c1 c2 c3 f3 HBX
                  generalize W2.setCell ⟨G, 3, none⟩ (.int .i64 n) = W3 at HBY HSZ ⊢
                  have c0 := HBY.out.c0
                  have c1 := HBY.out.c1
                  have c2 := HBY.out.c2
                  have c3 := HBY.out.c3
                  go_wp2_with (at_builtin; refine wpList_trow rfl (.tmp 59) (.tmp 61) rfl w.heap.size u5 l rfl (TRow.bel HRow.out (HBY.out.bel.alloc _ _)) _ rfl k m n T _ _ (new_heap rfl _) HLN.out (Nat.le_trans HSZ.out ((Bel.refl _).alloc _ _).size) ?_; intro v' w1 h1 h2 h3; have hc1 := box_after HBY.out HRow.out h2)
                  go_roundg (s.size - e)
                  case measure => omega
                  case rel => exact ⟨e, _, n, by omega, by first | rfl | (have := HET.out; subst this; go_num), rfl, Lib.hid h1, Lib.hid (h2.bel (HB.out.trans (HBY.out.bel.alloc _ _)) (fun k hk => ownBlock_ge HRow.out k hk)), by rw [List.length_append, List.length_singleton]; omega, by omega, HS2⟩
                | none =>
                  have HR := Lib.hid (rall_runno HS.out HG.out HRL.out hr0 (by rw [he]; exact ho))
                  have HO := Lib.hid ho
                  have hie : i ≤ e := by omega
                  have hes : e ≤ s.size := by omega
                  have hne : ((e : Int) == i) = false := by rw [beq_eq_false_iff_ne]; omega
                  clear ho HS HG HRL
                  go_wp2_with fail
                  refine (rone_no HO.out HXS.out _).mono ?_
                  rintro _ W1 ⟨rfl, hb1⟩
                  have HB1 := Lib.hid (HB.out.trans hb1)
                  clear hb1
                  go_wp2_with fail
                  go_ret3
                  rw [HR.out]
                  exact ⟨HB1.out.alloc _ _, rfl⟩
              · obtain rfl : r = 0 := by omega
                obtain rfl : i = e := by omega
                have HXS : Hid (ByteArray.empty.size ≤ 20000) := Lib.hid (by decide)
                have HO : Hid (ofRun ByteArray.empty.data.toList = none) := Lib.hid (by decide)
                have hie : i ≤ i := Nat.le_refl i
                have hes : i ≤ s.size := hrle
                have hsx : (s.extract i s.size).size ≤ maxLen := by rw [extract_end_size]; unfold maxLen; omega
                have HSX := Lib.hid hsx
                have hdx := extract_end_data s i
                have hln : l.length + 1 ≤ 1099511627776 := by omega
                have HLN := Lib.hid hln
                cases hsg : signAt (s.data.toList.drop i) with
                | none =>
                  have HR := Lib.hid (rall_bad HS.out hi HG.out HRL.out hsg)
                  have HSV : Hid (str (signV (s.extract i s.size).data.toList) = ⟨#[]⟩) := Lib.hid (by rw [hdx]; unfold signV; rw [hsg]; rfl)
                  clear HS HG HRL hsg hsx hdx he hr0 hln
                  go_wp2_with fail
                  refine (rone_no HO.out HXS.out _).mono ?_
                  rintro _ W1 ⟨rfl, hb1⟩
                  have HBX := Lib.hid (Box.new hb1 41 (.int .i64 0) (.string ⟨#[]⟩) (.int .i64 0) (.int .i64 0))
                  clear hb1
                  go_wp2_with fail
                  generalize W1.alloc (.cells #[.int .i64 0, .string ⟨#[]⟩, .int .i64 0, .int .i64 0] 41) = W2 at HBX ⊢
                  generalize W1.heap.size = G at HBX ⊢
                  refine (rsign_lit HSV.out HSX.out _).mono ?_
                  rintro _ W5 ⟨rfl, hb5⟩
                  have HBY := Lib.hid (HBX.out.on hb5)
                  clear hb5 HBX
                  have c0 := HBY.out.c0
                  have c1 := HBY.out.c1
                  have c2 := HBY.out.c2
                  have c3 := HBY.out.c3
                  have f0 := HBY.out.fz 0
                  have f1 := HBY.out.fz 1
                  have f2 := HBY.out.fz 2
                  have f3 := HBY.out.fz 3
                  go_wp2_with fail
                  go_ret3
                  rw [HR.out]
                  exact ⟨HB.out.trans (HBY.out.put _ _ _ _).bel, rfl⟩
                | some sg =>
                  have HS2 := Lib.hid (rall_sign HS.out HG.out HRL.out hsg)
                  obtain ⟨T, hT⟩ : ∃ T, str sg = T := ⟨_, rfl⟩
                  have HSV : Hid (str (signV (s.extract i s.size).data.toList) = T) := Lib.hid (by rw [hdx]; unfold signV; rw [hsg]; exact hT)
                  have hT0 : 0 < T.size := by rw [← hT, str_size]; exact sign_pos hsg
                  have hT2 : i + T.size ≤ s.size := by
                    have h1 : sg.isPrefixOf (s.data.toList.drop i) = true := List.find?_some (p := fun g : Bs => g.isPrefixOf (s.data.toList.drop i)) hsg
                    have h2 := (List.isPrefixOf_iff_prefix.1 h1).length_le
                    rw [List.length_drop, size_list] at h2
                    rw [← hT, str_size]
                    omega
                  have hT3 : sg.length = T.size := by rw [← hT, str_size]
                  rw [hT3, hT] at HS2
                  have e1 := isEmpty_no hT0
                  have e2 := toList_no hT0
                  clear HS HG HRL hsg hsx hdx he hr0 hT hT3 hln
                  go_wp2_with fail
                  refine (rone_no HO.out HXS.out _).mono ?_
                  rintro _ W1 ⟨rfl, hb1⟩
                  have HBX := Lib.hid (Box.new hb1 41 (.int .i64 0) (.string ⟨#[]⟩) (.int .i64 0) (.int .i64 0))
                  clear hb1
                  go_wp2_with fail
                  generalize W1.alloc (.cells #[.int .i64 0, .string ⟨#[]⟩, .int .i64 0, .int .i64 0] 41) = W2 at HBX ⊢
                  generalize W1.heap.size = G at HBX ⊢
                  refine (rsign_lit HSV.out HSX.out _).mono ?_
                  rintro _ W5 ⟨rfl, hb5⟩
                  have HBY := Lib.hid (HBX.out.on hb5)
                  clear hb5 HBX
                  have c0 := HBY.out.c0
                  have c1 := HBY.out.c1
                  have c2 := HBY.out.c2
                  have c3 := HBY.out.c3
                  have f0 := HBY.out.fz 0
                  have f1 := HBY.out.fz 1
                  have f2 := HBY.out.fz 2
                  have f3 := HBY.out.fz 3
                  go_upto_region 14 with (fail)
                  have HBX := Lib.hid (HBY.out.put (.int .i64 4) (.string T) (.int .i64 0) (.int .i64 0))
                  clear c0 c1 c2 c3 f0 f1 f2 f3 HBY
                  generalize (((W5.setCell ⟨G, 0, none⟩ (.int .i64 4)).setCell ⟨G, 1, none⟩ (.string T)).setCell ⟨G, 2, none⟩ (.int .i64 0)).setCell ⟨G, 3, none⟩ (.int .i64 0) = W6 at HBX ⊢
                  have c0 := HBX.out.c0
                  have c1 := HBX.out.c1
                  have c2 := HBX.out.c2
                  have c3 := HBX.out.c3
                  have f3 := HBX.out.fz 3
                  go_upto_region 17 with (fail)
                  have HBY := Lib.hid (HBX.out.line (.int .i64 n))
                  have HSZ : Hid (w.heap.size ≤ (W6.setCell ⟨G, 3, none⟩ (.int .i64 n)).heap.size) := Lib.hid (Nat.le_trans HB.out.size HBY.out.bel.size)
                  clear c0 c1 c2 c3 f3 HBX
                  generalize W6.setCell ⟨G, 3, none⟩ (.int .i64 n) = W3 at HBY HSZ ⊢
                  have c0 := HBY.out.c0
                  have c1 := HBY.out.c1
                  have c2 := HBY.out.c2
                  have c3 := HBY.out.c3
                  go_wp2_with (at_builtin; refine wpList_trow rfl (.tmp 59) (.tmp 61) rfl w.heap.size u5 l rfl (TRow.bel HRow.out (HBY.out.bel.alloc _ _)) _ rfl 4 0 n T _ _ (new_heap rfl _) HLN.out (Nat.le_trans HSZ.out ((Bel.refl _).alloc _ _).size) ?_; intro v' w1 h1 h2 h3; have hc1 := box_after HBY.out HRow.out h2)
                  go_roundg (s.size - (i + T.size))
                  case measure => omega
                  case rel => exact ⟨i + T.size, _, n, by omega, by first | rfl | go_num, rfl, Lib.hid h1, Lib.hid (h2.bel (HB.out.trans (HBY.out.bel.alloc _ _)) (fun k hk => ownBlock_ge HRow.out k hk)), by rw [List.length_append, List.length_singleton]; omega, by omega, HS2⟩
    · obtain rfl : i = s.size := by omega
      have HR := Lib.hid (rall_end HS.out)
      have hln : l.length + 1 ≤ 1099511627776 := by omega
      have HSZ : Hid (w.heap.size ≤ (wr.alloc (.cells #[.int .i64 5, .string ⟨#[]⟩, .int .i64 0, .int .i64 n] 41)).heap.size) := Lib.hid (by have := HB.out.size; simp; omega)
      have HLN := Lib.hid hln
      clear hln HS
      go_wp2_with (at_builtin; refine wpList_trow rfl (.tmp 99) (.tmp 102) rfl w.heap.size u5 l rfl (TRow.bel HRow.out ((Bel.refl _).alloc _ _)) _ rfl 5 0 n ⟨#[]⟩ _ _ (heap_alloc_new _ _) HLN.out HSZ.out ?_; intro v' w1 h1 h2 h3)
      go_ret3
      rw [HR.out]
      obtain ⟨B, c, rfl, hb, hc, hat⟩ := h1.form h3
      exact ⟨h2.bel (HB.out.alloc _ _) (fun k hk => ownBlock_ge HRow.out k hk), B, c, rfl, hb, hc, hat, fun j => World.ownsRow.frozenAt h1 j⟩
end Go.Proofs.YtgameoiofikhmaaDoor
