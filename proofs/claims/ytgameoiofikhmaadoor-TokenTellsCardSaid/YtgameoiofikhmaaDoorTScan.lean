/- A text as tokens, as package token tells it. -/
import Derived.Test.YtgameoiofikhmaaDoorTSign
import Derived.Deep.LoopGhost
import Derived.Laws.Rows
namespace Go.Proofs.YtgameoiofikhmaaDoor
open Go.RowKit Tk
set_option linter.unusedVariables false
/-- what Scan hands back -/
def ScanIs (w : World) : Res → Ending → World → Prop
  | .ok l, e, w' => Bel w w' ∧ ∃ B c, e = .returned (.tuple #[.slice (some ⟨B, 0, none⟩) l.length c, .int .i64 0, .int .i64 0]) ∧ w.heap.size ≤ B ∧ l.length ≤ c ∧ ToksAt w' B 0 l ∧ ∀ j, w'.frozen? ⟨B, j, none⟩ = false
  | .err n, e, w' => Bel w w' ∧ e = .returned (.tuple #[.slice none 0 0, .int .i64 50, .int .i64 n])
def ScanAll (w : World) (r : Res) (rest : ByteArray) (l : List Tok) (n : Nat) : Prop := r = (scan rest.data.toList n).pre l
theorem size_pos_ne {s : ByteArray} (h : 0 < s.size) : s.data.toList ≠ [] := by
  intro c
  have := size_list s
  rw [c] at this
  simp at this
  omega
theorem feeds_le (s : Bs) : feeds s ≤ s.length := List.length_filter_le _ _
theorem extract_end_size (s : ByteArray) (g : Nat) : (s.extract g s.size).size = s.size - g := by
  rw [extract_end, str_size, List.length_drop, size_list]
theorem extract_end_data (s : ByteArray) (g : Nat) : (s.extract g s.size).data.toList = s.data.toList.drop g := by
  rw [extract_end, str_data]
theorem extract_head_data (s : ByteArray) (g : Nat) : (s.extract 0 g).data.toList = s.data.toList.take g := by
  rw [extract_head, str_data]
theorem extract_head_size {s : ByteArray} {g : Nat} (h : g ≤ s.size) : (s.extract 0 g).size = g := by
  rw [extract_head, str_size, List.length_take, size_list]
  omega
theorem signAt_from (s : Bs) (j : Nat) (hj : j < 25) : ((signs.drop j).find? fun g => g.isPrefixOf s) = if (signs.getD j []).isPrefixOf s then some (signs.getD j []) else ((signs.drop (j + 1)).find? fun g => g.isPrefixOf s) := by
  have e : signs.drop j = signs.getD j [] :: signs.drop (j + 1) := by
    rw [List.drop_eq_getElem_cons (by exact hj), List.getD_eq_getElem?_getD, List.getElem?_eq_getElem (by exact hj)]
    rfl
  rw [e, List.find?_cons]
  cases (signs.getD j []).isPrefixOf s <;> rfl
theorem new_heap {W : World} {n : Nat} (hn : W.heap.size = n) (o : Obj) : (W.alloc o).heap[n]? = some o := by
  subst hn
  exact heap_alloc_new W o
set_option maxRecDepth 100000 in
set_option maxHeartbeats 8000000 in
theorem scan_any (s : ByteArray) (hs : s.size ≤ 20000) (w : World) (hT : SignsAt w) : Calls Tryd.prog 18 #[.string s] w (ScanIs w (scan s.data.toList 1)) := by
  obtain ⟨R, hR⟩ : ∃ R, scan s.data.toList 1 = R := ⟨_, rfl⟩
  rw [hR]
  have HR0 : Hid (R = (scan s.data.toList 1).pre []) := Lib.hid (by rw [hR]; cases R <;> rfl)
  have HT := Lib.hid hT
  clear hR hT
  go_enter Tryd.func18, Tryd.ntmps18
  go_wp2
  go_step3
  go_wp2
  go_step3
  go_wp2
  go_loopg [0, 5, 6] s.size (fun gk s0 s5 s6 wr => ∃ (rest : ByteArray) (l : List Tok) (n : Nat), rest.size ≤ gk ∧ s0 = .string rest ∧ s6 = .int .i64 n ∧ Hid (TRow wr w.heap.size s5 l) ∧ Hid (Bel w wr) ∧ l.length + rest.size ≤ 20000 ∧ n + rest.size ≤ 20001 ∧ Hid (ScanAll w R rest l n))
  case atStart => exact ⟨s, [], 1, Nat.le_refl _, rfl, rfl, Lib.hid (TRow.nil _ _), Lib.hid (Bel.refl _), by simpa using hs, by omega, HR0⟩
  case round =>
    clear HR0
    obtain ⟨rest, l, n, hg, rfl, rfl, HRow, HB, hl, hn, HS⟩ := hrel
    by_cases h0 : rest.size = 0
    · obtain rfl := empty_of_size h0
      have hsz := HB.out.size
      have hln : l.length + 1 ≤ 1099511627776 := by omega
      have HSZ : Hid (w.heap.size ≤ (wr.alloc (.cells #[.int .i64 5, .string ⟨#[]⟩, .int .i64 0, .int .i64 n] 41)).heap.size) := Lib.hid (by simp; omega)
      have HLN := Lib.hid hln
      clear h0 hln hsz
      go_wp2_with (at_builtin; refine wpList_trow rfl (.tmp 75) (.tmp 78) rfl w.heap.size u5 l rfl (TRow.bel HRow.out ((Bel.refl _).alloc _ _)) _ rfl 5 0 n ⟨#[]⟩ _ _ (heap_alloc_new _ _) HLN.out HSZ.out ?_; intro v' w1 h1 h2 h3)
      go_ret3
      have hs1 := HS.out
      unfold ScanAll at hs1
      rw [show scan (⟨#[]⟩ : ByteArray).data.toList n = .ok [⟨5, [], 0, n⟩] from rfl] at hs1
      subst hs1
      obtain ⟨B, c, rfl, hb, hc, hat⟩ := h1.form h3
      exact ⟨h2.bel (HB.out.alloc _ _) (fun k hk => ownBlock_ge HRow.out k hk), B, c, rfl, hb, hc, hat, fun j => World.ownsRow.frozenAt h1 j⟩
    · have hp : 0 < rest.size := by omega
      have e1 := isEmpty_no hp
      have e2 := toList_no hp
      have hrm : rest.size ≤ maxLen := by unfold maxLen; omega
      obtain ⟨g, hgp⟩ : ∃ g, gap rest.data.toList = g := ⟨_, rfl⟩
      have HG := Lib.hid hgp
      by_cases hg0 : 0 < g
      · have hgle : g ≤ rest.size := by
          have := gap_le rest.data.toList
          rw [size_list, hgp] at this
          exact this
        obtain ⟨f, hf⟩ : ∃ f, feeds (rest.data.toList.take g) = f := ⟨_, rfl⟩
        have hfle : f ≤ g := by
          have := feeds_le (rest.data.toList.take g)
          rw [hf, List.length_take, size_list] at this
          omega
        have HC : Hid (Lib.countByte (rest.extract 0 g).data.toList 10 = f) := Lib.hid (by rw [count_feeds, extract_head_data]; exact hf)
        have HS2 : Hid (ScanAll w R (rest.extract g rest.size) l (n + f)) := Lib.hid (by
          have h := HS.out
          unfold ScanAll at h ⊢
          rw [h, scan_gap n (by rw [hgp]; exact hg0), hgp, hf, extract_end_data])
        clear hgp hf HS
        go_wp2_with (first | (go_at_call 31; ((with_reducible refine (gap_lit HG.out hp hrm _).mono ?_); rintro e w' ⟨rfl, rfl⟩)) | (go_at_call 32; ((with_reducible refine (count_lit HC.out _).mono ?_); rintro e w' ⟨rfl, rfl⟩)))
        go_roundg (rest.size - g)
        case measure => omega
        case rel => exact ⟨rest.extract g rest.size, l, n + f, by rw [extract_end_size]; exact Nat.le_refl _, rfl, by go_num, HRow, HB, by rw [extract_end_size]; omega, by rw [extract_end_size]; omega, HS2⟩
      · obtain rfl : g = 0 := by omega
        obtain ⟨r, hrp⟩ : ∃ r, runLen rest.data.toList = r := ⟨_, rfl⟩
        have HRL := Lib.hid hrp
        by_cases hr0 : 0 < r
        · have hrle : r ≤ rest.size := by
            have := runLen_le rest.data.toList
            rw [size_list, hrp] at this
            exact this
          have HXS : Hid ((rest.extract 0 r).size ≤ 20000) := Lib.hid (by rw [extract_head_size hrle]; omega)
          have hgz : gap rest.data.toList = 0 := hgp
          have hrz : 0 < runLen rest.data.toList := by rw [hrp]; exact hr0
          cases ho : ofRun (rest.data.toList.take r) with
          | some p =>
            obtain ⟨k, m⟩ := p
            have HO : Hid (ofRun (rest.extract 0 r).data.toList = some (k, m)) := Lib.hid (by rw [extract_head_data]; exact ho)
            have HS2 : Hid (ScanAll w R (rest.extract r rest.size) (l ++ [⟨k, (rest.extract 0 r).data.toList, m, n⟩]) n) := Lib.hid (by
              have h := HS.out
              unfold ScanAll at h ⊢
              rw [h, scan_run (k := k) (m := m) n hgz hrz (by rw [hrp]; exact ho), hrp, cons_pre, extract_end_data, extract_head_data])
            have hln : l.length + 1 ≤ 1099511627776 := by omega
            have HLN := Lib.hid hln
            clear hgp hrp ho HS hln hgz hrz h0
            go_wp2_with (first | (go_at_call 31; ((with_reducible refine (gap_lit HG.out hp hrm _).mono ?_); rintro e w' ⟨rfl, rfl⟩)) | (go_at_call 28; ((with_reducible refine (runLength_lit HRL.out hrm _).mono ?_); rintro e w' ⟨rfl, rfl⟩)) | (go_at_call 33; ((with_reducible refine (ofRun_yes HO.out HXS.out _).mono ?_); rintro e W1 ⟨rfl, hb1⟩; have HB1 := Lib.hid hb1; have HSZ := Lib.hid (Nat.le_trans HB.out.size hb1.size); clear hb1)) | (at_builtin; refine wpList_trow rfl (.tmp 48) (.tmp 50) rfl w.heap.size u5 l rfl (TRow.bel HRow.out ((HB1.out.alloc _ _).alloc _ _)) _ rfl k m n (rest.extract 0 r) _ _ (new_heap (by simp) _) HLN.out (Nat.le_trans HSZ.out (((Bel.refl _).alloc _ _).alloc _ _).size) ?_; intro v' w1 h1 h2 h3))
            go_roundg (rest.size - r)
            case measure => omega
            case rel => exact ⟨rest.extract r rest.size, _, n, by rw [extract_end_size]; exact Nat.le_refl _, rfl, rfl, Lib.hid h1, Lib.hid (h2.bel (((HB.out.trans HB1.out).alloc _ _).alloc _ _) (fun k hk => ownBlock_ge HRow.out k hk)), by rw [extract_end_size, List.length_append, List.length_singleton]; omega, by rw [extract_end_size]; omega, HS2⟩
          | none =>
            have HO : Hid (ofRun (rest.extract 0 r).data.toList = none) := Lib.hid (by rw [extract_head_data]; exact ho)
            have HR : Hid (R = .err n) := Lib.hid (by
              have h := HS.out
              unfold ScanAll at h
              rw [h, scan_run_no n hgz hrz (by rw [hrp]; exact ho)]
              rfl)
            clear hgp hrp ho HS hgz hrz h0
            go_wp2_with (first | (go_at_call 31; ((with_reducible refine (gap_lit HG.out hp hrm _).mono ?_); rintro e w' ⟨rfl, rfl⟩)) | (go_at_call 28; ((with_reducible refine (runLength_lit HRL.out hrm _).mono ?_); rintro e w' ⟨rfl, rfl⟩)) | (go_at_call 33; ((with_reducible refine (ofRun_no HO.out HXS.out _).mono ?_); rintro e W1 ⟨rfl, hb1⟩; have HB1 := Lib.hid hb1; clear hb1)))
            rw [Exit.noGoto_ret]
            go_ret3
            rw [HR.out]
            exact ⟨(HB.out.trans HB1.out).alloc _ _, rfl⟩
        · obtain rfl : r = 0 := by omega
          obtain ⟨tt, fr, hgt⟩ := HT.out.bel HB.out
          have HGT := Lib.hid hgt
          have hgz : gap rest.data.toList = 0 := hgp
          have HS2 : Hid (∀ x, signAt rest.data.toList = x → R = match x with
              | some g => (scan (rest.data.toList.drop g.length) n).pre (l ++ [⟨4, g, 0, n⟩])
              | none => .err n) := Lib.hid (fun x hx => by
            have h := HS.out
            unfold ScanAll at h
            cases x with
            | some g => rw [h, scan_sign n hgz hrp hx, cons_pre]
            | none => rw [h, scan_bad n (size_pos_ne hp) hgz hrp hx]; rfl)
          clear hgp hrp hgz hgt HS h0
          go_wp2_with (first | (go_at_call 31; ((with_reducible refine (gap_lit HG.out hp hrm _).mono ?_); rintro e w' ⟨rfl, rfl⟩)) | (go_at_call 28; ((with_reducible refine (runLength_lit HRL.out hrm _).mono ?_); rintro e w' ⟨rfl, rfl⟩)) | (with_reducible refine wpList_load_row rfl 54 _ rfl 0 rfl tt signCells fr _ HGT.out Tryd.underlying54 rfl signs_size ?_))
          obtain ⟨wq, rfl⟩ : ∃ W, W = wr := ⟨_, rfl⟩
          obtain ⟨og, rfl⟩ : ∃ k, k = gk := ⟨_, rfl⟩
          go_loopg [0, 5, 56] 25 (fun gk s0 s5 s56 wy => ∃ j : Nat, j + gk = 25 ∧ s0 = .string rest ∧ s5 = u5 ∧ s56 = .int .i64 j ∧ wq = wy ∧ Hid (((signs.drop j).find? fun g => g.isPrefixOf rest.data.toList) = signAt rest.data.toList))
          case atStart => exact ⟨0, rfl, rfl, rfl, rfl, rfl, Lib.hid rfl⟩
          case round =>
            obtain ⟨j, hj, rfl, rfl, rfl, rfl, HF⟩ := hrel
            by_cases hlt : j < 25
            · obtain ⟨sg, hsg⟩ : ∃ sg, signs.getD j [] = sg := ⟨_, rfl⟩
              have hsf := signAt_from rest.data.toList j hlt
              have hix := sign_idx j hlt
              have hm : sg ∈ signs := by rw [← hsg]; exact getD_mem hlt
              rw [hsg] at hsf hix
              have hsl := (sign_short sg hm).1
              cases hpx : sg.isPrefixOf rest.data.toList with
              | true =>
                rw [if_pos hpx] at hsf
                have hat : signAt rest.data.toList = some sg := HF.out.symm.trans hsf
                have hsz : sg.length ≤ rest.size := by
                  have := (List.isPrefixOf_iff_prefix.1 hpx).length_le
                  rwa [size_list] at this
                have HCT : Hid (cutV rest (str sg) = str (rest.data.toList.drop sg.length)) := Lib.hid (by
                  unfold cutV
                  exact if_pos hpx)
                have HPX : Hid ((str sg).data.toList.isPrefixOf rest.data.toList = true) := Lib.hid hpx
                have HS3 : Hid (ScanAll w R (str (rest.data.toList.drop sg.length)) (l ++ [⟨4, (str sg).data.toList, 0, n⟩]) n) := Lib.hid (HS2.out _ hat)
                have hts : (str (rest.data.toList.drop sg.length)).size = rest.size - sg.length := by rw [str_size, List.length_drop, size_list]
                obtain ⟨tx, htx⟩ : ∃ tx, str (rest.data.toList.drop sg.length) = tx := ⟨_, rfl⟩
                rw [htx] at HCT HS3 hts
                obtain ⟨sl, hsle⟩ : ∃ sl, sg.length = sl := ⟨_, rfl⟩
                rw [hsle] at hsl hsz hts
                have HTS := Lib.hid hts
                have HSL := Lib.hid hsle
                have hln : l.length + 1 ≤ 1099511627776 := by omega
                have HLN := Lib.hid hln
                have HSZ : Hid (w.heap.size ≤ (wq.alloc (.cells #[.int .i64 4, .string (str sg), .int .i64 0, .int .i64 n] 41)).heap.size) := Lib.hid (Nat.le_trans HB.out.size ((Bel.refl _).alloc _ _).size)
                clear hsf hat hpx hm hsg hts hsle htx hln HF HS2
                go_wp2_with (first | (go_at_call 34; ((with_reducible refine (cut_lit HPX.out HCT.out _).mono ?_); rintro e w' ⟨rfl, rfl⟩)) | (at_builtin; refine wpList_trow rfl (.tmp 66) (.tmp 70) rfl w.heap.size _ l rfl (TRow.bel HRow.out ((Bel.refl _).alloc _ _)) _ rfl 4 0 n (str sg) _ _ (new_heap (by simp) _) HLN.out HSZ.out ?_; intro v' w1 h1 h2 h3))
                go_roundg (rest.size - sl)
                case measure => omega
                case rel => exact ⟨tx, _, n, by rw [HTS.out]; exact Nat.le_refl _, rfl, rfl, Lib.hid h1, Lib.hid (h2.bel (HB.out.alloc _ _) (fun k hk => ownBlock_ge HRow.out k hk)), by rw [HTS.out, List.length_append, List.length_singleton]; omega, by rw [HTS.out]; omega, HS3⟩
              | false =>
                rw [if_neg (by rw [hpx]; exact Bool.false_ne_true)] at hsf
                have HF2 : Hid (((signs.drop (j + 1)).find? fun g => g.isPrefixOf rest.data.toList) = signAt rest.data.toList) := Lib.hid (hsf.symm.trans HF.out)
                have HCT : Hid (cutV rest (str sg) = rest) := Lib.hid (by
                  unfold cutV
                  exact if_neg (by rw [str_data, hpx]; exact Bool.false_ne_true))
                have HPX : Hid ((str sg).data.toList.isPrefixOf rest.data.toList = false) := Lib.hid hpx
                clear hsf hpx hm hsg HF HS2
                go_wp2_with (go_at_call 34; ((with_reducible refine (cut_lit HPX.out HCT.out _).mono ?_); rintro e w' ⟨rfl, rfl⟩))
                go_roundg (gk - 1)
                case measure => omega
                case rel => exact ⟨j + 1, by omega, rfl, rfl, by go_num, rfl, HF2⟩
            · have hno : signAt rest.data.toList = none := by
                rw [← HF.out, List.drop_eq_nil_of_le (by show 25 ≤ j; omega)]
                rfl
              have HR : Hid (R = .err n) := Lib.hid (HS2.out _ hno)
              clear hno HF HS2
              go_wp2
              rw [Exit.noGoto_ret]
              go_ret3
              rw [HR.out]
              exact ⟨HB.out, rfl⟩
end Go.Proofs.YtgameoiofikhmaaDoor
