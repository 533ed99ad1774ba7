/- The laws' pieces and blanks: the texts that raw numbers stand for. -/
import Derived.Test.YtgameoiofikhmaaDoorTLaw1
namespace Go.Proofs.YtgameoiofikhmaaDoor
open Go.RowKit Tk
set_option linter.unusedVariables false
theorem text_cell {l : List Bs} {k : Nat} (h : k < l.length) (W : World) (t : TypeId) {n : Nat} (hn : W.heap.size = n) : (W.alloc (.cells (l.map fun s => Value.string (str s)).toArray t)).cell? ⟨n, k, none⟩ = some (.string (str (l.getD k []))) := by
  subst hn
  rw [cell_of_heap (heap_alloc_new W _), List.getElem?_toArray, List.getElem?_map, List.getElem?_eq_getElem h, List.getD_eq_getElem?_getD, List.getElem?_eq_getElem h]
  rfl
theorem var_any (n : Int) (hn : inInt n) (w : World) : Calls Tryd.prog 26 #[.int .i64 n] w fun e w' => e = .returned (.string (str (varV n))) ∧ Bel w w' := by
  obtain ⟨k, hk, hp, hv⟩ : ∃ k : Nat, k < 300 ∧ pick n 300 = k ∧ varV n = if k < 10 then names.getD (k % 10) [] else names.getD (k % 10) [] ++ dec k := by
    have hb := pick_bd n (n := 300) (by omega)
    obtain ⟨k, hk⟩ := Int.eq_ofNat_of_zero_le hb.1
    refine ⟨k, by omega, hk, ?_⟩
    unfold varV
    simp only [hk, Int.toNat_natCast]
  rw [hv]
  have hc : (w.alloc (.cells #[.string ⟨#[120]⟩, .string ⟨#[121]⟩, .string ⟨#[110]⟩, .string ⟨#[95, 97]⟩, .string ⟨#[66, 50]⟩, .string ⟨#[105, 102, 115]⟩, .string ⟨#[104, 97, 114, 116]⟩, .string ⟨#[108, 111, 99, 107, 49]⟩, .string ⟨#[88, 95, 121, 95, 90]⟩, .string ⟨#[72, 97, 108, 116]⟩] 9)).cell? ⟨w.heap.size, k % 10, none⟩ = some (.string (str (names.getD (k % 10) []))) := text_cell (l := names) (by show k % 10 < 10; omega) w _ rfl
  have hm : (names.getD (k % 10) []).length ≤ 5 := (names_ok _ (getD_mem (by show k % 10 < 10; omega))).2.2.1
  generalize names.getD (k % 10) [] = nm at hc hm ⊢
  have i1 : 0 ≤ (k : Int) % 10 := by omega
  have i2 : (k : Int) % 10 < 10 := by omega
  have HP := Lib.hid hp
  clear hp hv
  by_cases h : k < 10
  · rw [if_pos h]
    go_enter Tryd.func26, Tryd.ntmps26
    go_wp2_with (go_at_call 17; ((with_reducible refine (pick_lit HP.out hn (by omega) _).mono ?_); rintro e w' ⟨rfl, rfl⟩))
    go_ret
    exact ⟨rfl, (Bel.refl _).alloc _ _⟩
  · rw [if_neg h]
    have hsz : (str nm).size + (str (dec k)).size ≤ 9223372036854775807 := by
      have := dec_len 2 k (by omega)
      rw [str_size, str_size]
      omega
    have HD := Lib.hid (decimal_in k (k : Int) rfl (by omega))
    have HE := Lib.hid (str_app nm (dec k))
    generalize dec k = d at hsz HD HE ⊢
    go_enter Tryd.func26, Tryd.ntmps26
    go_wp2_with (first | (go_at_call 17; ((with_reducible refine (pick_lit HP.out hn (by omega) _).mono ?_); rintro e w' ⟨rfl, rfl⟩)) | (go_at_call 24; ((with_reducible refine (HD.out _).mono ?_); rintro e W1 ⟨rfl, hb1⟩; have HB1 := Lib.hid hb1; clear hb1)))
    go_ret
    exact ⟨rs HE.out, ((Bel.refl _).alloc _ _).trans HB1.out⟩
theorem var_lit {n : Int} {t : ByteArray} (h : str (varV n) = t) (hn : inInt n) (w : World) : Calls Tryd.prog 26 #[.int .i64 n] w fun e w' => e = .returned (.string t) ∧ Bel w w' := by
  subst h
  exact var_any n hn w
theorem decimal_lit {n : Nat} {t : ByteArray} (h : str (dec n) = t) (hb : n ≤ 9223372036854775807) (w : World) : Calls Tryd.prog 24 #[.int .i64 (n : Int)] w fun e w' => e = .returned (.string t) ∧ Bel w w' := by
  subst h
  exact decimal_in n n rfl hb w
theorem hex_lit {n : Nat} {t : ByteArray} (h : str (hex n) = t) (hb : n ≤ 9223372036854775807) (w : World) : Calls Tryd.prog 25 #[.int .i64 (n : Int)] w fun e w' => e = .returned (.string t) ∧ w = w' := by
  subst h
  exact hex_in n n rfl hb w
theorem rp {a b : ByteArray} {k : Int} (h : a = b) : Ending.returned (.tuple #[.string a, .int .i64 k]) = .returned (.tuple #[.string b, .int .i64 k]) := by rw [h]
theorem pick_nat_of (c : Int) (m : Nat) (hm : 0 < m) : ∃ k : Nat, k < m ∧ pick c (m : Int) = k := by
  have hb := pick_bd c (n := (m : Int)) (by omega)
  obtain ⟨k, hk⟩ := Int.eq_ofNat_of_zero_le hb.1
  exact ⟨k, by omega, hk⟩
set_option maxHeartbeats 4000000 in
theorem piece_any (kind n : Int) (hk : inInt kind) (hn : inInt n) (w : World) : Calls Tryd.prog 11 #[.int .i64 kind, .int .i64 n] w fun e w' => e = .returned (.tuple #[.string (str (pieceV kind n)), .int .i64 (kindOf kind)]) ∧ Bel w w' := by
  obtain ⟨q, hq4, hq⟩ := pick_nat_of kind 4 (by omega)
  have HQ : Hid (pick kind 4 = (q : Int)) := Lib.hid hq
  rcases (show q = 0 ∨ q = 1 ∨ q = 2 ∨ q = 3 by omega) with rfl | rfl | rfl | rfl
  · have hq' : pick kind 4 = 0 := hq
    obtain ⟨k, hk13, hkp⟩ := pick_nat_of n 13 (by omega)
    have hkp' : pick n 13 = (k : Int) := hkp
    have e1 : pieceV kind n = words.getD k [] := by
      unfold pieceV
      rw [if_pos hq', hkp', Int.toNat_natCast]
    have e2 : kindOf kind = 2 := by
      unfold kindOf
      rw [if_pos hq']
    rw [e1, e2]
    have hc : ((w.alloc (.cells #[.string ⟨#[104, 97, 114, 116, 115]⟩, .string ⟨#[100, 101, 118, 105, 99, 101]⟩, .string ⟨#[117, 97, 114, 116]⟩, .string ⟨#[116, 105, 109, 101, 114]⟩, .string ⟨#[103, 112, 105, 111]⟩, .string ⟨#[114, 101, 115, 111, 117, 114, 99, 101]⟩, .string ⟨#[116, 97, 115, 107]⟩, .string ⟨#[104, 97, 110, 100, 108, 101, 114]⟩, .string ⟨#[108, 111, 99, 107]⟩, .string ⟨#[105, 102]⟩, .string ⟨#[101, 108, 115, 101]⟩, .string ⟨#[114, 101, 112, 101, 97, 116]⟩, .string ⟨#[104, 97, 108, 116]⟩] 9)).alloc (.cells #[.string ⟨#[61, 61]⟩, .string ⟨#[33, 61]⟩, .string ⟨#[60, 60]⟩, .string ⟨#[62, 62]⟩, .string ⟨#[60, 46]⟩, .string ⟨#[43]⟩, .string ⟨#[45]⟩, .string ⟨#[42]⟩, .string ⟨#[47]⟩, .string ⟨#[37]⟩, .string ⟨#[38]⟩, .string ⟨#[124]⟩, .string ⟨#[94]⟩, .string ⟨#[60]⟩, .string ⟨#[61]⟩, .string ⟨#[33]⟩, .string ⟨#[126]⟩, .string ⟨#[40]⟩, .string ⟨#[41]⟩, .string ⟨#[123]⟩, .string ⟨#[125]⟩, .string ⟨#[91]⟩, .string ⟨#[93]⟩, .string ⟨#[59]⟩, .string ⟨#[46]⟩] 9)).cell? ⟨w.heap.size, k, none⟩ = some (.string (str (words.getD k []))) := (World.cell?_alloc_lt _ _ ⟨w.heap.size, k, none⟩ (by simp)).trans (text_cell (l := words) hk13 w _ rfl)
    generalize words.getD k [] = nm at hc ⊢
    have i2 : (k : Int) < 13 := by omega
    have HP : Hid (pick n 13 = (k : Int)) := Lib.hid hkp
    have HK := Lib.hid hk
    clear e1 e2 hkp hkp' hq hq' hk
    go_enter Tryd.func11, Tryd.ntmps11
    go_wp2_with (first | (go_at_call 17; ((with_reducible refine (pick_lit HQ.out HK.out (by omega) _).mono ?_); rintro e w' ⟨rfl, rfl⟩)) | (go_at_call 17; ((with_reducible refine (pick_lit HP.out hn (by omega) _).mono ?_); rintro e w' ⟨rfl, rfl⟩)))
    go_ret2
    exact ⟨rfl, ((Bel.refl _).alloc _ _).alloc _ _⟩
  · have hq' : pick kind 4 = 1 := hq
    obtain ⟨k, hk25, hkp⟩ := pick_nat_of n 25 (by omega)
    have hkp' : pick n 25 = (k : Int) := hkp
    have e1 : pieceV kind n = signs.getD k [] := by
      unfold pieceV
      rw [if_neg (by rw [hq']; decide), if_pos hq', hkp', Int.toNat_natCast]
    have e2 : kindOf kind = 4 := by
      unfold kindOf
      rw [if_neg (by rw [hq']; decide), if_pos hq']
    rw [e1, e2]
    have hc : ((w.alloc (.cells #[.string ⟨#[104, 97, 114, 116, 115]⟩, .string ⟨#[100, 101, 118, 105, 99, 101]⟩, .string ⟨#[117, 97, 114, 116]⟩, .string ⟨#[116, 105, 109, 101, 114]⟩, .string ⟨#[103, 112, 105, 111]⟩, .string ⟨#[114, 101, 115, 111, 117, 114, 99, 101]⟩, .string ⟨#[116, 97, 115, 107]⟩, .string ⟨#[104, 97, 110, 100, 108, 101, 114]⟩, .string ⟨#[108, 111, 99, 107]⟩, .string ⟨#[105, 102]⟩, .string ⟨#[101, 108, 115, 101]⟩, .string ⟨#[114, 101, 112, 101, 97, 116]⟩, .string ⟨#[104, 97, 108, 116]⟩] 9)).alloc (.cells #[.string ⟨#[61, 61]⟩, .string ⟨#[33, 61]⟩, .string ⟨#[60, 60]⟩, .string ⟨#[62, 62]⟩, .string ⟨#[60, 46]⟩, .string ⟨#[43]⟩, .string ⟨#[45]⟩, .string ⟨#[42]⟩, .string ⟨#[47]⟩, .string ⟨#[37]⟩, .string ⟨#[38]⟩, .string ⟨#[124]⟩, .string ⟨#[94]⟩, .string ⟨#[60]⟩, .string ⟨#[61]⟩, .string ⟨#[33]⟩, .string ⟨#[126]⟩, .string ⟨#[40]⟩, .string ⟨#[41]⟩, .string ⟨#[123]⟩, .string ⟨#[125]⟩, .string ⟨#[91]⟩, .string ⟨#[93]⟩, .string ⟨#[59]⟩, .string ⟨#[46]⟩] 9)).cell? ⟨w.heap.size + 1, k, none⟩ = some (.string (str (signs.getD k []))) := text_cell (l := signs) hk25 _ _ (by simp)
    generalize signs.getD k [] = nm at hc ⊢
    have i2 : (k : Int) < 25 := by omega
    have HP : Hid (pick n 25 = (k : Int)) := Lib.hid hkp
    have HK := Lib.hid hk
    clear e1 e2 hkp hkp' hq hq' hk
    go_enter Tryd.func11, Tryd.ntmps11
    go_wp2_with (first | (go_at_call 17; ((with_reducible refine (pick_lit HQ.out HK.out (by omega) _).mono ?_); rintro e w' ⟨rfl, rfl⟩)) | (go_at_call 17; ((with_reducible refine (pick_lit HP.out hn (by omega) _).mono ?_); rintro e w' ⟨rfl, rfl⟩)))
    go_ret2
    exact ⟨rfl, ((Bel.refl _).alloc _ _).alloc _ _⟩
  · have hq' : pick kind 4 = 2 := hq
    obtain ⟨k, hk32, hkp⟩ := pick_nat_of n 4294967296 (by omega)
    have hkp' : pick n 4294967296 = (k : Int) := hkp
    have e2 : kindOf kind = 3 := by
      unfold kindOf
      rw [if_neg (by rw [hq']; decide), if_neg (by rw [hq']; decide), if_pos hq']
    have e0 : pieceV kind n = numText n := by
      unfold pieceV
      rw [if_neg (by rw [hq']; decide), if_neg (by rw [hq']; decide), if_pos hq']
    rw [e0, e2]
    have HP : Hid (pick n 4294967296 = (k : Int)) := Lib.hid hkp
    have HK := Lib.hid hk
    have htm : n.tmod 2 = 0 ↔ n % 2 = 0 := by
      rw [← Int.dvd_iff_tmod_eq_zero, ← Int.dvd_iff_emod_eq_zero]
    by_cases h2 : n % 2 = 0
    · have e1 : numText n = [48, 120] ++ hex k := by
        unfold numText
        rw [if_pos h2, hkp', Int.toNat_natCast]
        rfl
      rw [e1]
      have hb : (n.tmod 2 == 0) = true := by rw [beq_iff_eq]; exact htm.2 h2
      have hb2 : (n % 2 == 0) = true := by rw [beq_iff_eq]; exact h2
      have HD := Lib.hid (hex_in k (k : Int) rfl (by omega))
      have HE : Hid ((⟨#[48, 120]⟩ : ByteArray) ++ str (hex k) = str ([48, 120] ++ hex k)) := Lib.hid (str_app [48, 120] (hex k))
      have hsz : 2 + (str (hex k)).size ≤ 9223372036854775807 := by
        have := hex_len 7 k (by omega)
        rw [str_size]
        omega
      have hsz2 : (⟨#[48, 120]⟩ : ByteArray).size + (str (hex k)).size ≤ 9223372036854775807 := hsz
      generalize hex k = d at hsz hsz2 HD HE ⊢
      clear e1 e0 e2 hkp hkp' hq hq' hk htm h2
      go_enter Tryd.func11, Tryd.ntmps11
      go_wp2_with (first | (go_at_call 17; ((with_reducible refine (pick_lit HQ.out HK.out (by omega) _).mono ?_); rintro e w' ⟨rfl, rfl⟩)) | (go_at_call 17; ((with_reducible refine (pick_lit HP.out hn (by omega) _).mono ?_); rintro e w' ⟨rfl, rfl⟩)) | (go_at_call 25; ((with_reducible refine (HD.out _).mono ?_); rintro e w' ⟨rfl, rfl⟩)))
      go_ret2
      exact ⟨rp HE.out, ((Bel.refl _).alloc _ _).alloc _ _⟩
    · have e1 : numText n = dec k := by
        unfold numText
        rw [if_neg h2, hkp', Int.toNat_natCast]
      rw [e1]
      have hb : (n.tmod 2 == 0) = false := by rw [beq_eq_false_iff_ne]; exact fun c => h2 (htm.1 c)
      have hb2 : (n % 2 == 0) = false := by rw [beq_eq_false_iff_ne]; exact h2
      have HD := Lib.hid (decimal_in k (k : Int) rfl (by omega))
      generalize dec k = d at HD ⊢
      clear e1 e0 e2 hkp hkp' hq hq' hk htm h2
      go_enter Tryd.func11, Tryd.ntmps11
      go_wp2_with (first | (go_at_call 17; ((with_reducible refine (pick_lit HQ.out HK.out (by omega) _).mono ?_); rintro e w' ⟨rfl, rfl⟩)) | (go_at_call 17; ((with_reducible refine (pick_lit HP.out hn (by omega) _).mono ?_); rintro e w' ⟨rfl, rfl⟩)) | (go_at_call 24; ((with_reducible refine (HD.out _).mono ?_); rintro e W1 ⟨rfl, hb1⟩; have HB1 := Lib.hid hb1; clear hb1)))
      go_ret2
      exact ⟨rfl, (((Bel.refl _).alloc _ _).alloc _ _).trans HB1.out⟩
  · have hq' : pick kind 4 = 3 := hq
    have e2 : kindOf kind = 1 := by
      unfold kindOf
      rw [if_neg (by rw [hq']; decide), if_neg (by rw [hq']; decide), if_neg (by rw [hq']; decide)]
    have e0 : pieceV kind n = varV n := by
      unfold pieceV
      rw [if_neg (by rw [hq']; decide), if_neg (by rw [hq']; decide), if_neg (by rw [hq']; decide)]
    rw [e0, e2]
    have HK := Lib.hid hk
    have HD := Lib.hid (var_any n hn)
    generalize varV n = d at HD ⊢
    clear e0 e2 hq hq' hk
    go_enter Tryd.func11, Tryd.ntmps11
    go_wp2_with (first | (go_at_call 17; ((with_reducible refine (pick_lit HQ.out HK.out (by omega) _).mono ?_); rintro e w' ⟨rfl, rfl⟩)) | (go_at_call 26; ((with_reducible refine (HD.out _).mono ?_); rintro e W1 ⟨rfl, hb1⟩; have HB1 := Lib.hid hb1; clear hb1)))
    go_ret2
    exact ⟨rfl, (((Bel.refl _).alloc _ _).alloc _ _).trans HB1.out⟩
theorem piece_lit {kind n k : Int} {t : ByteArray} (ht : str (pieceV kind n) = t) (hkk : kindOf kind = k) (hk : inInt kind) (hn : inInt n) (w : World) : Calls Tryd.prog 11 #[.int .i64 kind, .int .i64 n] w fun e w' => e = .returned (.tuple #[.string t, .int .i64 k]) ∧ Bel w w' := by
  subst ht
  subst hkk
  exact piece_any kind n hk hn w
end Go.Proofs.YtgameoiofikhmaaDoor
