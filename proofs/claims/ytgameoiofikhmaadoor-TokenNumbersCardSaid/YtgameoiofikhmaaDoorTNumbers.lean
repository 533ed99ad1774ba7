/- Numbers up to the greatest one are numbers, to either base; what is beyond is none. -/
import Derived.Test.YtgameoiofikhmaaDoorTAwake
namespace Go.Proofs.YtgameoiofikhmaaDoor
open Go.RowKit Tk
set_option linter.unusedVariables false
theorem numIs_some {s : Bs} {n : Nat} (h : number s = some n) : numIs s n true := ⟨by rw [h]; rfl, by rw [h]; rfl⟩
theorem numIs_none {s : Bs} (h : number s = none) : numIs s 0 false := ⟨by rw [h]; rfl, by rw [h]; rfl⟩
theorem name_dec (k : Nat) : isName (dec k) = false := by
  have := dec_headDig k []
  rw [List.append_nil] at this
  exact name_nodig this
set_option maxRecDepth 100000 in
set_option maxHeartbeats 4000000 in
theorem numbers_walk (a0 a1 : Int) (h0 : inInt a0) (h1 : inInt a1) (w : World) (hT : SignsAt w) :
    Calls Tryd.prog 7 #[.int .i64 a0, .int .i64 a1] w fun e w' => e = .returned (.bool true) ∧ Bel w w' := by
  have ex0 : ∀ (x y z : Value) (W : World), (Instr.extract (.tuple #[x, y, z]) 0).run Tryd.prog W = .ok x W := fun x y z W => by kernel_rfl
  have ex1 : ∀ (x y z : Value) (W : World), (Instr.extract (.tuple #[x, y, z]) 1).run Tryd.prog W = .ok y W := fun x y z W => by kernel_rfl
  have ex2 : ∀ (x y z : Value) (W : World), (Instr.extract (.tuple #[x, y, z]) 2).run Tryd.prog W = .ok z W := fun x y z W => by kernel_rfl
  obtain ⟨k, hk, hp⟩ := pick_nat_of a0 4294967296 (by omega)
  obtain ⟨q, hq, hpq⟩ := pick_nat_of a1 20 (by omega)
  have HP : Hid (pick a0 4294967296 = (k : Int)) := Lib.hid hp
  have HPQ : Hid (pick a1 20 = (q : Int)) := Lib.hid hpq
  have hc1 : (UInt8.ofNat (103 + q)).toNat = 103 + q := by rw [UInt8.toNat_ofNat']; omega
  have hlt : (UInt8.ofNat (103 + q)).toNat ≤ 122 := by omega
  have hgt : 103 ≤ (UInt8.ofNat (103 + q)).toNat := by omega
  have hci : 103 + (q : Int) = ((UInt8.ofNat (103 + q)).toNat : Int) := by rw [hc1]; omega
  have hsc := scan_letter k (UInt8.ofNat (103 + q)) ⟨hgt, hlt⟩
  generalize UInt8.ofNat (103 + q) = c at hci hsc
  have HCI := Lib.hid hci
  have HN1 := Lib.hid (numIs_some (number_dec k hk))
  have HN2 := Lib.hid (numIs_some (number_hex k hk))
  have HN3 := Lib.hid (numIs_none (number_dec_big (4294967296 + k) (by omega)))
  have HN4 := Lib.hid (numIs_none (number_zero k))
  have HN5 := Lib.hid (numIs_none (number_hex_big (4294967296 + k) (by omega)))
  have HNM := Lib.hid (name_dec k)
  have HD1 := Lib.hid (decimal_in k (k : Int) rfl (by omega))
  have HD2 := Lib.hid (decimal_in (4294967296 + k) (4294967296 + (k : Int)) (by omega) (by omega))
  have HX1 := Lib.hid (hex_in k (k : Int) rfl (by omega))
  have HX2 := Lib.hid (hex_in (4294967296 + k) (4294967296 + (k : Int)) (by omega) (by omega))
  have z1 : (str (dec k)).size ≤ 10 := dec_len 9 k (by omega)
  have z2 : (str (dec (4294967296 + k))).size ≤ 10 := dec_len 9 _ (by omega)
  have z3 : (str (hex k)).size ≤ 9 := Nat.le_trans (hex_len 7 k (by omega)) (by omega)
  have z4 : (str (hex (4294967296 + k))).size ≤ 9 := hex_len 8 _ (by omega)
  have e1 : (⟨#[48, 120]⟩ : ByteArray) ++ str (hex k) = str (48 :: 120 :: hex k) := str_app [48, 120] (hex k)
  have e2 : (⟨#[48]⟩ : ByteArray) ++ str (dec k) = str (48 :: dec k) := str_app [48] (dec k)
  have e3 : (⟨#[48, 120]⟩ : ByteArray) ++ str (hex (4294967296 + k)) = str (48 :: 120 :: hex (4294967296 + k)) := str_app [48, 120] (hex (4294967296 + k))
  have e4 : str (dec k) ++ str [c] = str (dec k ++ [c]) := str_app (dec k) [c]
  have z5 : (str (48 :: 120 :: hex k)).size ≤ 11 := by rw [str_size] at z3 ⊢; rw [List.length_cons, List.length_cons]; omega
  have z6 : (str (48 :: dec k)).size ≤ 11 := by rw [str_size] at z1 ⊢; rw [List.length_cons]; omega
  have z7 : (str (48 :: 120 :: hex (4294967296 + k))).size ≤ 11 := by rw [str_size] at z4 ⊢; rw [List.length_cons, List.length_cons]; omega
  have z8 : (str (dec k ++ [c])).size ≤ 11 := by rw [str_size] at z1 ⊢; rw [List.length_append, List.length_singleton]; omega
  have z9 : (str [c]).size = 1 := rfl
  have HS : Hid (scan (str (dec k ++ [c])).data.toList 1 = .err 1) := Lib.hid hsc
  have y1 : Hid (numIs (str (dec k)).data.toList k true) := HN1
  have y2 : Hid (numIs (str (48 :: 120 :: hex k)).data.toList k true) := HN2
  have y3 : Hid (numIs (str (dec (4294967296 + k))).data.toList 0 false) := HN3
  have y4 : Hid (numIs (str (48 :: dec k)).data.toList 0 false) := HN4
  have y5 : Hid (numIs (str (48 :: 120 :: hex (4294967296 + k))).data.toList 0 false) := HN5
  have y6 : Hid (isName (str (dec k)).data.toList = false) := HNM
  have HT := Lib.hid hT
  clear HN1 HN2 HN3 HN4 HN5 HNM hsc hc1 hlt hgt hp hpq hT hci
  generalize str (dec k ++ [c]) = S8 at e4 z8 HS
  generalize str (48 :: 120 :: hex (4294967296 + k)) = S7 at e3 z7 y5
  generalize str (48 :: dec k) = S6 at e2 z6 y4
  generalize str (48 :: 120 :: hex k) = S5 at e1 z5 y2
  generalize str (hex (4294967296 + k)) = S4 at e3 z4 HX2
  generalize str (hex k) = S3 at e1 z3 HX1
  generalize str (dec (4294967296 + k)) = S2 at z2 y3 HD2
  generalize str (dec k) = S1 at e2 e4 z1 y1 y6 HD1
  have M1 : Hid (S1.size ≤ maxLen) := Lib.hid (by unfold maxLen; omega)
  have M2 : Hid (S2.size ≤ maxLen) := Lib.hid (by unfold maxLen; omega)
  have M5 : Hid (S5.size ≤ maxLen) := Lib.hid (by unfold maxLen; omega)
  have M6 : Hid (S6.size ≤ maxLen) := Lib.hid (by unfold maxLen; omega)
  have M7 : Hid (S7.size ≤ maxLen) := Lib.hid (by unfold maxLen; omega)
  have M8 : Hid (S8.size ≤ 20000) := Lib.hid (by omega)
  have hs48 : (⟨#[48]⟩ : ByteArray).size = 1 := rfl
  have hs48x : (⟨#[48, 120]⟩ : ByteArray).size = 2 := rfl
  go_enter Tryd.func7, Tryd.ntmps7
  go_wp2_with fail
  refine (awake_any _ HT.out).mono ?_
  rintro e w1 ⟨rfl, hb1⟩
  have HT1 := Lib.hid (HT.out.bel hb1)
  have HB1 := Lib.hid hb1
  clear hb1 HT
  go_wp2_with fail
  refine (pick_lit HP.out h0 (by omega) _).mono ?_
  rintro e w' ⟨rfl, rfl⟩
  go_wp2_with fail
  refine (HD1.out _).mono ?_
  rintro e w2 ⟨rfl, hb2⟩
  have HT2 := Lib.hid (HT1.out.bel hb2)
  have HB2 := Lib.hid (HB1.out.trans hb2)
  clear hb2 HT1 HB1
  go_wp2_with fail
  refine (number_lit y1.out M1.out _).mono ?_
  rintro e w' ⟨rfl, rfl⟩
  go_wp2_with fail
  refine (HX1.out _).mono ?_
  rintro e w' ⟨rfl, rfl⟩
  go_wp2_with fail
  refine (number_lit y2.out M5.out _).mono ?_
  rintro e w' ⟨rfl, rfl⟩
  go_wp2_with fail
  refine (HD2.out _).mono ?_
  rintro e w3 ⟨rfl, hb3⟩
  have HT3 := Lib.hid (HT2.out.bel hb3)
  have HB3 := Lib.hid (HB2.out.trans hb3)
  clear hb3 HT2 HB2
  go_wp2_with fail
  refine (number_lit y3.out M2.out _).mono ?_
  rintro e w' ⟨rfl, rfl⟩
  go_wp2_with fail
  refine (HD1.out _).mono ?_
  rintro e w4 ⟨rfl, hb4⟩
  have HT4 := Lib.hid (HT3.out.bel hb4)
  have HB4 := Lib.hid (HB3.out.trans hb4)
  clear hb4 HT3 HB3
  go_wp2_with fail
  refine (number_lit y4.out M6.out _).mono ?_
  rintro e w' ⟨rfl, rfl⟩
  go_wp2_with fail
  refine (HX2.out _).mono ?_
  rintro e w' ⟨rfl, rfl⟩
  go_wp2_with fail
  refine (number_lit y5.out M7.out _).mono ?_
  rintro e w' ⟨rfl, rfl⟩
  go_wp2_with fail
  refine (pick_lit HPQ.out h1 (by omega) _).mono ?_
  rintro e w' ⟨rfl, rfl⟩
  have hcv := one_byte w4.heap.size (w4.alloc (.cells #[.int .u8 (103 + (q : Int))] 5)) c _ HCI.out (World.cell?_alloc_new _ _ _ 0)
  have HB5 : Hid (Bel w (w4.alloc (.cells #[.int .u8 (103 + (q : Int))] 5))) := Lib.hid (HB4.out.alloc _ _)
  have HT5 : Hid (SignsAt (w4.alloc (.cells #[.int .u8 (103 + (q : Int))] 5))) := Lib.hid (HT4.out.bel ((Bel.refl _).alloc _ _))
  clear HT4 HB4
  go_wp2_with fail
  refine (HD1.out _).mono ?_
  rintro e w6 ⟨rfl, hb6⟩
  have HT6 := Lib.hid (HT5.out.bel hb6)
  have HB6 := Lib.hid (HB5.out.trans hb6)
  clear hb6 HT5 HB5 hcv
  go_wp2_with fail
  refine (scan_err HS.out M8.out _ HT6.out).mono ?_
  rintro e w7 ⟨rfl, hb7⟩
  have HB7 := Lib.hid (HB6.out.trans hb7)
  clear hb7 HT6 HB6
  go_wp2_with fail
  refine (HD1.out _).mono ?_
  rintro e w8 ⟨rfl, hb8⟩
  have HB8 := Lib.hid (HB7.out.trans hb8)
  clear hb8 HB7
  go_wp2_with fail
  refine (name_lit y6.out M1.out _).mono ?_
  rintro e w' ⟨rfl, rfl⟩
  go_wp2_with fail
  go_ret
  exact ⟨rfl, HB8.out⟩
end Go.Proofs.YtgameoiofikhmaaDoor
