/- A text's last line is cut off. -/
import Derived.Test.YtbfmlbcjggplgaaGreatDoorIDig
import Derived.Test.YtbfmlbcjggplgaaGreatDoorIPn
import Derived.Deep.RegionHeld3
namespace Go.Proofs.YtbfmlbcjggplgaaGreatDoor
open Go.RowKit Im
set_option linter.unusedVariables false
theorem trimP_lit {s p : ByteArray} {S : ByteArray} (h : str (Lib.trimPrefix s.data.toList p.data.toList) = S) (w : World) :
    Calls Tryz.prog 46 #[.string s, .string p] w fun e w' => e = .returned (.string S) ∧ w = w' := by
  subst h
  exact (Tryz.strings_TrimPrefix s p w).mono fun e w' h => ⟨h.1, h.2.symm⟩
theorem trimS_lit {s p : ByteArray} {S : ByteArray} (h : str (Lib.trimSuffix s.data.toList p.data.toList) = S) (hs : s.size ≤ 9223372036854775807) (w : World) :
    Calls Tryz.prog 45 #[.string s, .string p] w fun e w' => e = .returned (.string S) ∧ w = w' := by
  subst h
  exact (Tryz.strings_TrimSuffix s p w hs).mono fun e w' h => ⟨h.1, h.2.symm⟩
set_option maxHeartbeats 4000000 in
theorem cut_short {s : ByteArray} (h : s.size < 13) (w : World) :
    Calls Tryz.prog 33 #[.string s] w fun e w' => e = .returned (.tuple #[.string ⟨#[]⟩, .int .i64 0, .bool false]) ∧ Bel w w' := by
  obtain ⟨L, hL⟩ : ∃ L, str (sumLine 0) = L := ⟨_, rfl⟩
  have hz : L.size = 13 := by rw [← hL]; rfl
  have HL := Lib.hid hL
  have h2 : (s.size : Int) - 13 < 0 := by omega
  have hz2 : (L.size : Int) = 13 := by omega
  clear hL hz
  go_enter Tryz.func33, Tryz.ntmps33
  go_wp2_with (go_at_call 21; ((with_reducible refine (sumLine_lit HL.out (by omega) (by omega) _).mono ?_); rintro e w1 ⟨rfl, hb⟩; have HB := Lib.hid hb; clear hb))
  go_ret3
  exact ⟨rfl, HB.out⟩
set_option maxHeartbeats 4000000 in
theorem cut_long {s A Z : ByteArray} {k : Nat} {n : Int} {ok : Bool} (hk : s.size = k + 13) (hmax : s.size ≤ 1000000000) (hA : s.extract 0 k = A) (hZ : s.extract k s.size = Z) (hn : lastN s.data.toList = n) (hok : (Z.toList == (str (sumLine n)).toList) = ok) (w : World) (hE : ErrsAt w) :
    Calls Tryz.prog 33 #[.string s] w fun e w' => e = .returned (.tuple #[.string A, .int .i64 n, .bool ok]) ∧ Bel w w' := by
  obtain ⟨L, hL⟩ : ∃ L, str (sumLine 0) = L := ⟨_, rfl⟩
  obtain ⟨M, hM⟩ : ∃ M, str (sumLine n) = M := ⟨_, rfl⟩
  have hz : L.size = 13 := by rw [← hL]; rfl
  have HL := Lib.hid hL
  have HM := Lib.hid hM
  have HE := Lib.hid hE
  have hb := numV_bounds (Lib.trimSuffix (Lib.trimPrefix (lastB s.data.toList) [115, 117, 109, 32]) [10])
  have hzl : Z.data.toList = lastB s.data.toList := by
    rw [← hZ]
    unfold lastB
    rw [size_list, show s.size - 13 = k by omega]
    have := Lib.extract_toList s k s.size
    rw [ByteArray.toList_eq] at this
    rw [this, List.take_of_length_le (by simp)]
  have hzz : Z.size = 13 := by
    rw [← size_list, hzl]
    unfold lastB
    rw [List.length_drop, size_list]
    omega
  obtain ⟨T1, hT1⟩ : ∃ T, str (Lib.trimPrefix Z.data.toList (⟨#[115, 117, 109, 32]⟩ : ByteArray).data.toList) = T := ⟨_, rfl⟩
  obtain ⟨T2, hT2⟩ : ∃ T, str (Lib.trimSuffix T1.data.toList (⟨#[10]⟩ : ByteArray).data.toList) = T := ⟨_, rfl⟩
  have hN : numV T2.data.toList = n := by
    rw [← hT2, ← hT1, str_list, str_list, hzl]
    exact hn
  have hzs : T1.size ≤ 13 := by
    rw [← hT1, str_size]
    have h1 : (Lib.trimPrefix Z.data.toList (⟨#[115, 117, 109, 32]⟩ : ByteArray).data.toList).length ≤ Z.data.toList.length := by
      unfold Lib.trimPrefix
      split
      · rw [List.length_drop]; omega
      · exact Nat.le_refl _
    rw [size_list] at h1
    omega
  have hzs2 : T2.size ≤ 13 := by
    rw [← hT2, str_size]
    have h1 : (Lib.trimSuffix T1.data.toList (⟨#[10]⟩ : ByteArray).data.toList).length ≤ T1.data.toList.length := by
      unfold Lib.trimSuffix
      split
      · rw [List.length_take]; omega
      · exact Nat.le_refl _
    rw [size_list] at h1
    omega
  unfold lastN at hn
  rw [hn] at hb
  obtain ⟨b1, b2⟩ := hb
  have HT1 := Lib.hid hT1
  have HT2 := Lib.hid hT2
  have HN := Lib.hid hN
  have HZS := Lib.hid hzs
  have HZS2 := Lib.hid hzs2
  have i1 : (0 : Int) ≤ (k : Int) := by omega
  have i2 : (s.size : Int) - 13 = (k : Int) := by omega
  have hLz : (L.size : Int) = 13 := by omega
  have i3 : k ≤ s.size := by omega
  have i5 : (k : Int) ≤ 1000000000 := by omega
  have i6 : (s.size : Int) ≤ 1000000000 := by omega
  have i4 : (k : Int) ≤ (s.size : Int) := by omega
  rw [hM] at hok
  have HSZ := Lib.hid hk
  clear hL hM hz hE hzl hT1 hT2 hN hzs hzs2 hn hzz hk hmax
  go_enter Tryz.func33, Tryz.ntmps33
  go_wp2_with (go_at_call 21; ((with_reducible refine (sumLine_lit HL.out (by omega) (by omega) _).mono ?_); rintro e w1 ⟨rfl, hb⟩; have HB := Lib.hid hb; clear hb))
  refine (trimP_lit HT1.out _).mono ?_
  rintro e w2 ⟨rfl, rfl⟩
  go_wp2_with fail
  refine (trimS_lit HT2.out (by have := HZS.out; omega) _).mono ?_
  rintro e w2 ⟨rfl, rfl⟩
  go_wp2_with fail
  refine (number_lit HN.out (by have := HZS2.out; omega) _ (HE.out.bel HB.out)).mono ?_
  rintro e w3 ⟨rfl, hb⟩
  have HB3 := Lib.hid (HB.out.trans hb)
  clear hb
  go_wp2_with fail
  go_region_held3 (fun _ => True) (trivial) ((go_at_call 21; ((with_reducible refine (sumLine_lit HM.out (by omega) (by omega) _).mono ?_); rintro e w4 ⟨rfl, hb4⟩)))
  have HB4 : Hid (Bel w w4) := Lib.hid (Bel.trans HB3.out (Bel.trans (Bel.drew (Bel.refl _)) hb4))
  clear hb4
  go_wp2_with fail
  go_ret3
  exact ⟨rfl, HB4.out⟩
end Go.Proofs.YtbfmlbcjggplgaaGreatDoor
