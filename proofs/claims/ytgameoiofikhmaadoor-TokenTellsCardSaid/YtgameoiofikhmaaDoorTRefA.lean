/- The document's own answer for layer 5: bytes, words, names. -/
import Derived.Test.YtgameoiofikhmaaDoorTItems
import Derived.Test.YtgameoiofikhmaaDoorTRefP
namespace Go.Proofs.YtgameoiofikhmaaDoor
open Go.RowKit Tk
set_option linter.unusedVariables false
theorem rdig_any (c : UInt8) (w : World) : Calls Tryd.prog 29 #[.int .u8 (c.toNat : Int)] w fun e w' => e = .returned (.bool (isDig c)) ∧ w = w' := by
  go_enter Tryd.func29, Tryd.ntmps29
  go_wp2
  all_goals go_ret
  all_goals refine ⟨rb ?_, rfl⟩
  all_goals (rw [Bool.eq_iff_iff]; simp only [isDig, decide_eq_true_eq, Bool.false_eq_true, false_iff]; omega)
theorem rdig_lit {c : UInt8} {b : Bool} (h : isDig c = b) (w : World) : Calls Tryd.prog 29 #[.int .u8 (c.toNat : Int)] w fun e w' => e = .returned (.bool b) ∧ w = w' := by
  subst h
  exact rdig_any c w
theorem rlet_any (c : UInt8) (w : World) : Calls Tryd.prog 30 #[.int .u8 (c.toNat : Int)] w fun e w' => e = .returned (.bool (isLet c)) ∧ w = w' := by
  go_enter Tryd.func30, Tryd.ntmps30
  go_wp2
  all_goals go_ret
  all_goals refine ⟨rb ?_, rfl⟩
  all_goals (rw [Bool.eq_iff_iff]; simp [isLet]; try omega)
theorem rlet_lit {c : UInt8} {b : Bool} (h : isLet c = b) (w : World) : Calls Tryd.prog 30 #[.int .u8 (c.toNat : Int)] w fun e w' => e = .returned (.bool b) ∧ w = w' := by
  subst h
  exact rlet_any c w
theorem any_step (s : Bs) {k : Nat} (hk : k < 13) : (words.drop k).any (· == s) = (words.getD k [] == s || (words.drop (k + 1)).any (· == s)) := by
  have e : words.drop k = words.getD k [] :: words.drop (k + 1) := by
    rw [List.drop_eq_getElem_cons (by exact hk), List.getD_eq_getElem?_getD, List.getElem?_eq_getElem (by exact hk)]
    rfl
  rw [e, List.any_cons]
theorem eqs_two (u : Bs) (s : ByteArray) : ((str u).toList == s.toList) = (u == s.data.toList) := by
  rw [ByteArray.toList_eq, ByteArray.toList_eq]
  rfl
set_option maxHeartbeats 4000000 in
theorem rword_any (s : ByteArray) (w : World) : Calls Tryd.prog 16 #[.string s] w fun e w' => e = .returned (.bool (isWord s.data.toList)) ∧ Bel w w' := by
  obtain ⟨r, hr⟩ : ∃ r, isWord s.data.toList = r := ⟨_, rfl⟩
  rw [hr]
  have HR : Hid ((words.drop 0).any (· == s.data.toList) = r) := Lib.hid hr
  have hcells : ∀ k : Nat, k < 13 → (w.alloc (.cells #[.string ⟨#[104, 97, 114, 116, 115]⟩, .string ⟨#[100, 101, 118, 105, 99, 101]⟩, .string ⟨#[117, 97, 114, 116]⟩, .string ⟨#[116, 105, 109, 101, 114]⟩, .string ⟨#[103, 112, 105, 111]⟩, .string ⟨#[114, 101, 115, 111, 117, 114, 99, 101]⟩, .string ⟨#[116, 97, 115, 107]⟩, .string ⟨#[104, 97, 110, 100, 108, 101, 114]⟩, .string ⟨#[108, 111, 99, 107]⟩, .string ⟨#[105, 102]⟩, .string ⟨#[101, 108, 115, 101]⟩, .string ⟨#[114, 101, 112, 101, 97, 116]⟩, .string ⟨#[104, 97, 108, 116]⟩] 9)).cell? ⟨w.heap.size, k, none⟩ = some (.string (str (words.getD k []))) := fun k hk => text_cell (l := words) hk w _ rfl
  have HC := Lib.hid hcells
  have HB : Hid (Bel w (w.alloc (.cells #[.string ⟨#[104, 97, 114, 116, 115]⟩, .string ⟨#[100, 101, 118, 105, 99, 101]⟩, .string ⟨#[117, 97, 114, 116]⟩, .string ⟨#[116, 105, 109, 101, 114]⟩, .string ⟨#[103, 112, 105, 111]⟩, .string ⟨#[114, 101, 115, 111, 117, 114, 99, 101]⟩, .string ⟨#[116, 97, 115, 107]⟩, .string ⟨#[104, 97, 110, 100, 108, 101, 114]⟩, .string ⟨#[108, 111, 99, 107]⟩, .string ⟨#[105, 102]⟩, .string ⟨#[101, 108, 115, 101]⟩, .string ⟨#[114, 101, 112, 101, 97, 116]⟩, .string ⟨#[104, 97, 108, 116]⟩] 9))) := Lib.hid ((Bel.refl _).alloc _ _)
  clear hr hcells
  go_enter Tryd.func16, Tryd.ntmps16
  go_wp2
  go_loop [4] (fun i => ∃ k : Nat, k ≤ 13 ∧ i = .int .i64 k ∧ Hid ((words.drop k).any (· == s.data.toList) = r)) (fun i => 13 - (intOf i).toNat)
  case atStart => exact ⟨0, by omega, rfl, HR⟩
  case round =>
    obtain ⟨k, hk, rfl, HK⟩ := hrel
    by_cases hlt : k < 13
    · have hst := any_step s.data.toList hlt
      rw [HK.out] at hst
      have hc := HC.out k hlt
      have hlt2 : (k : Int) < 13 := by omega
      generalize words.getD k [] = u at hst hc
      cases hu : (u == s.data.toList) with
      | true =>
        rw [hu, Bool.true_or] at hst
        subst hst
        have hb : ((str u).toList == s.toList) = true := by rw [eqs_two, hu]
        clear hu
        go_wp2
        go_ret
        exact ⟨rfl, HB.out⟩
      | false =>
        rw [hu, Bool.false_or] at hst
        have HS := Lib.hid hst.symm
        have hb : ((str u).toList == s.toList) = false := by rw [eqs_two, hu]
        clear hu hst
        go_wp2
        go_round
        case rel => exact ⟨k + 1, by omega, by go_num, HS⟩
        case measure => simp [intOf]; omega
    · obtain rfl : k = 13 := by omega
      obtain rfl : false = r := HK.out
      go_wp2
      go_ret
      exact ⟨rfl, HB.out⟩
theorem rword_lit {s : ByteArray} {b : Bool} (h : isWord s.data.toList = b) (w : World) : Calls Tryd.prog 16 #[.string s] w fun e w' => e = .returned (.bool b) ∧ Bel w w' := by
  subst h
  exact rword_any s w
set_option maxHeartbeats 2000000 in
theorem rname_any (s : ByteArray) (hs : s.size ≤ maxLen) (w : World) : Calls Tryd.prog 14 #[.string s] w fun e w' => e = .returned (.bool (isName s.data.toList)) ∧ Bel w w' := by
  unfold maxLen at hs
  obtain ⟨b, hb⟩ : ∃ b, isWord s.data.toList = b := ⟨_, rfl⟩
  have HB := Lib.hid hb
  by_cases h0 : s.size = 0
  · obtain rfl := empty_of_size h0
    clear h0 hs hb
    show Calls _ _ _ w fun e w' => e = .returned (.bool false) ∧ Bel w w'
    go_enter Tryd.func14, Tryd.ntmps14
    go_wp2_with (go_at_call 16; ((with_reducible refine (rword_lit HB.out _).mono ?_); rintro e w1 ⟨rfl, hb1⟩; have HB1 := Lib.hid hb1; clear hb1))
    go_ret
    exact ⟨rfl, HB1.out⟩
  have hp : 0 < s.size := by omega
  have e1 := isEmpty_no hp
  have e2 := toList_no hp
  by_cases h20 : 20 < s.size
  · have e : isName s.data.toList = false := by
      unfold isName
      rw [size_list, decide_eq_false (by omega)]
      rfl
    rw [e]
    clear e h0 hb
    go_enter Tryd.func14, Tryd.ntmps14
    go_wp2_with (go_at_call 16; ((with_reducible refine (rword_lit HB.out _).mono ?_); rintro e w1 ⟨rfl, hb1⟩; have HB1 := Lib.hid hb1; clear hb1))
    go_ret
    exact ⟨rfl, HB1.out⟩
  have eN : isName s.data.toList = (!isDig s[0] && s.data.toList.all isRun && !b) := by
    unfold isName
    rw [size_list, decide_eq_true (show 1 ≤ s.size ∧ s.size ≤ 20 by omega), headDig_get s hp, hb]
    rfl
  rw [eN]
  clear eN h0 hb
  cases hd : isDig s[0] with
  | true =>
    have HD := Lib.hid hd
    clear hd
    go_enter Tryd.func14, Tryd.ntmps14
    go_wp2_with (first | (go_at_call 16; ((with_reducible refine (rword_lit HB.out _).mono ?_); rintro e w1 ⟨rfl, hb1⟩; have HB1 := Lib.hid hb1; clear hb1)) | (go_at_call 29; ((with_reducible refine (rdig_lit HD.out _).mono ?_); rintro e w2 ⟨rfl, rfl⟩)))
    go_ret
    exact ⟨rfl, HB1.out⟩
  | false =>
    have HD := Lib.hid hd
    clear hd
    cases b with
    | true =>
      go_enter Tryd.func14, Tryd.ntmps14
      go_wp2_with (first | (go_at_call 16; ((with_reducible refine (rword_lit HB.out _).mono ?_); rintro e w1 ⟨rfl, hb1⟩; have HB1 := Lib.hid hb1; clear hb1)) | (go_at_call 29; ((with_reducible refine (rdig_lit HD.out _).mono ?_); rintro e w2 ⟨rfl, rfl⟩)))
      go_ret
      exact ⟨rb (by simp), HB1.out⟩
    | false =>
      obtain ⟨r, hr⟩ : ∃ r, s.data.toList.all isRun = r := ⟨_, rfl⟩
      rw [hr]
      have HR0 : Hid ((s.data.toList.drop 0).all isRun = r) := Lib.hid hr
      clear hr
      go_enter Tryd.func14, Tryd.ntmps14
      go_wp2_with (first | (go_at_call 16; ((with_reducible refine (rword_lit HB.out _).mono ?_); rintro e w1 ⟨rfl, hb1⟩; have HB1 := Lib.hid hb1; clear hb1)) | (go_at_call 29; ((with_reducible refine (rdig_lit HD.out _).mono ?_); rintro e w2 ⟨rfl, rfl⟩)))
      go_loop [4] (fun i => ∃ k : Nat, k ≤ s.size ∧ i = .int .i64 k ∧ Hid ((s.data.toList.drop k).all isRun = r)) (fun i => s.size - (intOf i).toNat)
      case atStart => exact ⟨0, Nat.zero_le _, rfl, HR0⟩
      case round =>
        obtain ⟨k, hk, rfl, HK⟩ := hrel
        by_cases hlt : k < s.size
        · have hst := HK.out
          rw [drop_cons s k hlt, List.all_cons] at hst
          cases hl : isLet s[k] with
          | true =>
            have HS : Hid ((s.data.toList.drop (k + 1)).all isRun = r) := Lib.hid (by unfold isRun at hst; rw [hl, Bool.true_or, Bool.true_and] at hst; exact hst)
            have HL := Lib.hid hl
            clear hl hst
            go_wp2_with (go_at_call 30; ((with_reducible refine (rlet_lit HL.out _).mono ?_); rintro e w2 ⟨rfl, rfl⟩))
            go_round
            case rel => exact ⟨k + 1, by omega, by go_num, HS⟩
            case measure => simp [intOf]; omega
          | false =>
            cases hdd : isDig s[k] with
            | true =>
              have HS : Hid ((s.data.toList.drop (k + 1)).all isRun = r) := Lib.hid (by unfold isRun at hst; rw [hl, hdd, Bool.false_or, Bool.true_and] at hst; exact hst)
              have HL := Lib.hid hl
              have HDD := Lib.hid hdd
              clear hl hst hdd
              go_wp2_with (first | (go_at_call 30; ((with_reducible refine (rlet_lit HL.out _).mono ?_); rintro e w2 ⟨rfl, rfl⟩)) | (go_at_call 29; ((with_reducible refine (rdig_lit HDD.out _).mono ?_); rintro e w2 ⟨rfl, rfl⟩)))
              go_round
              case rel => exact ⟨k + 1, by omega, by go_num, HS⟩
              case measure => simp [intOf]; omega
            | false =>
              obtain rfl : false = r := by
                have h9 := hst
                unfold isRun at h9
                rw [hl, hdd] at h9
                exact h9
              have HL := Lib.hid hl
              have HDD := Lib.hid hdd
              clear hl hst hdd
              go_wp2_with (first | (go_at_call 30; ((with_reducible refine (rlet_lit HL.out _).mono ?_); rintro e w2 ⟨rfl, rfl⟩)) | (go_at_call 29; ((with_reducible refine (rdig_lit HDD.out _).mono ?_); rintro e w2 ⟨rfl, rfl⟩)))
              go_ret
              exact ⟨rb (by simp), HB1.out⟩
        · obtain rfl : true = r := by
            have h9 := HK.out
            rw [List.drop_eq_nil_of_le (by rw [size_list]; omega)] at h9
            exact h9
          go_wp2
          go_ret
          exact ⟨rb (by simp), HB1.out⟩
theorem rname_lit {s : ByteArray} {b : Bool} (h : isName s.data.toList = b) (hs : s.size ≤ maxLen) (w : World) : Calls Tryd.prog 14 #[.string s] w fun e w' => e = .returned (.bool b) ∧ Bel w w' := by
  subst h
  exact rname_any s hs w
end Go.Proofs.YtgameoiofikhmaaDoor
