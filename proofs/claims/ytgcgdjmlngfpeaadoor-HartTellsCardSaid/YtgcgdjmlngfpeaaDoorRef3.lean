/- What the document's own High answers: the same plain function as package wrap's. -/
import Derived.Test.YtgcgdjmlngfpeaaDoorRef2
namespace Go.Proofs.YtgcgdjmlngfpeaaDoor
open Go.RowKit Plain
set_option linter.unusedVariables false
theorem rword_lit {n r : Int} (h : n % 4294967296 = r) (w : World) : Calls Tryd.prog 68 #[.int .i64 n] w fun e w' => e = .returned (.int .i64 r) ∧ w = w' := by
  subst h
  exact rword_any n w
theorem rwrap_lit {n r : Int} (h : wrap32 n = r) (w : World) : Calls Tryd.prog 41 #[.int .i64 n] w fun e w' => e = .returned (.int .i64 r) ∧ w = w' := by
  subst h
  exact rwrap_any n w
theorem rhigh_f (a b x y r : Int) (hx : a % 4294967296 = x) (hy : b % 4294967296 = y)  (hr : wrap32 (x / 65536 * (y / 65536) + (x / 65536 * (y % 65536) + x % 65536 * (y / 65536) + x % 65536 * (y % 65536) / 65536) / 65536) = r) (w : World) :
    Calls Tryd.prog 73 #[.int .i64 a, .int .i64 b, .bool false] w fun e w' => e = .returned (.int .i64 r) ∧ w = w' := by
  have bx : 0 ≤ x ∧ x ≤ 4294967295 := by omega
  have by' : 0 ≤ y ∧ y ≤ 4294967295 := by omega
  obtain ⟨x1, x2⟩ := bx
  obtain ⟨y1, y2⟩ := by'
  obtain ⟨m1, m2⟩ := half_mul (x / 65536) (y / 65536) (by omega) (by omega)
  obtain ⟨m3, m4⟩ := half_mul (x / 65536) (y % 65536) (by omega) (by omega)
  obtain ⟨m5, m6⟩ := half_mul (x % 65536) (y / 65536) (by omega) (by omega)
  obtain ⟨m7, m8⟩ := half_mul (x % 65536) (y % 65536) (by omega) (by omega)
  have HX := Lib.hid hx
  have HY := Lib.hid hy
  have HR := Lib.hid hr
  clear hx hy hr
  go_enter Tryd.func73, Tryd.ntmps73
  go_wp2_with (first | (go_at_call 68; ((with_reducible refine (rword_lit HX.out _).mono ?_); rintro e w' ⟨rfl, rfl⟩)) | (go_at_call 68; ((with_reducible refine (rword_lit HY.out _).mono ?_); rintro e w' ⟨rfl, rfl⟩)) | (go_at_call 41; ((with_reducible refine (rwrap_lit HR.out _).mono ?_); rintro e w' ⟨rfl, rfl⟩)))
  go_ret
  exact ⟨rfl, rfl⟩
theorem rhigh_nn (a b x y r : Int) (hx : a % 4294967296 = x) (hy : b % 4294967296 = y) (cx : x < 2147483648) (cy : y < 2147483648) (hr : wrap32 (x / 65536 * (y / 65536) + (x / 65536 * (y % 65536) + x % 65536 * (y / 65536) + x % 65536 * (y % 65536) / 65536) / 65536) = r) (w : World) :
    Calls Tryd.prog 73 #[.int .i64 a, .int .i64 b, .bool true] w fun e w' => e = .returned (.int .i64 r) ∧ w = w' := by
  have bx : 0 ≤ x ∧ x ≤ 4294967295 := by omega
  have by' : 0 ≤ y ∧ y ≤ 4294967295 := by omega
  obtain ⟨x1, x2⟩ := bx
  obtain ⟨y1, y2⟩ := by'
  obtain ⟨m1, m2⟩ := half_mul (x / 65536) (y / 65536) (by omega) (by omega)
  obtain ⟨m3, m4⟩ := half_mul (x / 65536) (y % 65536) (by omega) (by omega)
  obtain ⟨m5, m6⟩ := half_mul (x % 65536) (y / 65536) (by omega) (by omega)
  obtain ⟨m7, m8⟩ := half_mul (x % 65536) (y % 65536) (by omega) (by omega)
  have HX := Lib.hid hx
  have HY := Lib.hid hy
  have HR := Lib.hid hr
  clear hx hy hr
  go_enter Tryd.func73, Tryd.ntmps73
  go_wp2_with (first | (go_at_call 68; ((with_reducible refine (rword_lit HX.out _).mono ?_); rintro e w' ⟨rfl, rfl⟩)) | (go_at_call 68; ((with_reducible refine (rword_lit HY.out _).mono ?_); rintro e w' ⟨rfl, rfl⟩)) | (go_at_call 41; ((with_reducible refine (rwrap_lit HR.out _).mono ?_); rintro e w' ⟨rfl, rfl⟩)))
  go_ret
  exact ⟨rfl, rfl⟩
theorem rhigh_yn (a b x y r : Int) (hx : a % 4294967296 = x) (hy : b % 4294967296 = y) (cx : 2147483648 ≤ x) (cy : y < 2147483648) (hr : wrap32 (x / 65536 * (y / 65536) + (x / 65536 * (y % 65536) + x % 65536 * (y / 65536) + x % 65536 * (y % 65536) / 65536) / 65536 - y) = r) (w : World) :
    Calls Tryd.prog 73 #[.int .i64 a, .int .i64 b, .bool true] w fun e w' => e = .returned (.int .i64 r) ∧ w = w' := by
  have bx : 0 ≤ x ∧ x ≤ 4294967295 := by omega
  have by' : 0 ≤ y ∧ y ≤ 4294967295 := by omega
  obtain ⟨x1, x2⟩ := bx
  obtain ⟨y1, y2⟩ := by'
  obtain ⟨m1, m2⟩ := half_mul (x / 65536) (y / 65536) (by omega) (by omega)
  obtain ⟨m3, m4⟩ := half_mul (x / 65536) (y % 65536) (by omega) (by omega)
  obtain ⟨m5, m6⟩ := half_mul (x % 65536) (y / 65536) (by omega) (by omega)
  obtain ⟨m7, m8⟩ := half_mul (x % 65536) (y % 65536) (by omega) (by omega)
  have HX := Lib.hid hx
  have HY := Lib.hid hy
  have HR := Lib.hid hr
  clear hx hy hr
  go_enter Tryd.func73, Tryd.ntmps73
  go_wp2_with (first | (go_at_call 68; ((with_reducible refine (rword_lit HX.out _).mono ?_); rintro e w' ⟨rfl, rfl⟩)) | (go_at_call 68; ((with_reducible refine (rword_lit HY.out _).mono ?_); rintro e w' ⟨rfl, rfl⟩)) | (go_at_call 41; ((with_reducible refine (rwrap_lit HR.out _).mono ?_); rintro e w' ⟨rfl, rfl⟩)))
  go_ret
  exact ⟨rfl, rfl⟩
theorem rhigh_ny (a b x y r : Int) (hx : a % 4294967296 = x) (hy : b % 4294967296 = y) (cx : x < 2147483648) (cy : 2147483648 ≤ y) (hr : wrap32 (x / 65536 * (y / 65536) + (x / 65536 * (y % 65536) + x % 65536 * (y / 65536) + x % 65536 * (y % 65536) / 65536) / 65536 - x) = r) (w : World) :
    Calls Tryd.prog 73 #[.int .i64 a, .int .i64 b, .bool true] w fun e w' => e = .returned (.int .i64 r) ∧ w = w' := by
  have bx : 0 ≤ x ∧ x ≤ 4294967295 := by omega
  have by' : 0 ≤ y ∧ y ≤ 4294967295 := by omega
  obtain ⟨x1, x2⟩ := bx
  obtain ⟨y1, y2⟩ := by'
  obtain ⟨m1, m2⟩ := half_mul (x / 65536) (y / 65536) (by omega) (by omega)
  obtain ⟨m3, m4⟩ := half_mul (x / 65536) (y % 65536) (by omega) (by omega)
  obtain ⟨m5, m6⟩ := half_mul (x % 65536) (y / 65536) (by omega) (by omega)
  obtain ⟨m7, m8⟩ := half_mul (x % 65536) (y % 65536) (by omega) (by omega)
  have HX := Lib.hid hx
  have HY := Lib.hid hy
  have HR := Lib.hid hr
  clear hx hy hr
  go_enter Tryd.func73, Tryd.ntmps73
  go_wp2_with (first | (go_at_call 68; ((with_reducible refine (rword_lit HX.out _).mono ?_); rintro e w' ⟨rfl, rfl⟩)) | (go_at_call 68; ((with_reducible refine (rword_lit HY.out _).mono ?_); rintro e w' ⟨rfl, rfl⟩)) | (go_at_call 41; ((with_reducible refine (rwrap_lit HR.out _).mono ?_); rintro e w' ⟨rfl, rfl⟩)))
  go_ret
  exact ⟨rfl, rfl⟩
theorem rhigh_yy (a b x y r : Int) (hx : a % 4294967296 = x) (hy : b % 4294967296 = y) (cx : 2147483648 ≤ x) (cy : 2147483648 ≤ y) (hr : wrap32 (x / 65536 * (y / 65536) + (x / 65536 * (y % 65536) + x % 65536 * (y / 65536) + x % 65536 * (y % 65536) / 65536) / 65536 - y - x) = r) (w : World) :
    Calls Tryd.prog 73 #[.int .i64 a, .int .i64 b, .bool true] w fun e w' => e = .returned (.int .i64 r) ∧ w = w' := by
  have bx : 0 ≤ x ∧ x ≤ 4294967295 := by omega
  have by' : 0 ≤ y ∧ y ≤ 4294967295 := by omega
  obtain ⟨x1, x2⟩ := bx
  obtain ⟨y1, y2⟩ := by'
  obtain ⟨m1, m2⟩ := half_mul (x / 65536) (y / 65536) (by omega) (by omega)
  obtain ⟨m3, m4⟩ := half_mul (x / 65536) (y % 65536) (by omega) (by omega)
  obtain ⟨m5, m6⟩ := half_mul (x % 65536) (y / 65536) (by omega) (by omega)
  obtain ⟨m7, m8⟩ := half_mul (x % 65536) (y % 65536) (by omega) (by omega)
  have HX := Lib.hid hx
  have HY := Lib.hid hy
  have HR := Lib.hid hr
  clear hx hy hr
  go_enter Tryd.func73, Tryd.ntmps73
  go_wp2_with (first | (go_at_call 68; ((with_reducible refine (rword_lit HX.out _).mono ?_); rintro e w' ⟨rfl, rfl⟩)) | (go_at_call 68; ((with_reducible refine (rword_lit HY.out _).mono ?_); rintro e w' ⟨rfl, rfl⟩)) | (go_at_call 41; ((with_reducible refine (rwrap_lit HR.out _).mono ?_); rintro e w' ⟨rfl, rfl⟩)))
  go_ret
  exact ⟨rfl, rfl⟩
theorem rhigh_any (a b : Int) (signs : Bool) (w : World) : Calls Tryd.prog 73 #[.int .i64 a, .int .i64 b, .bool signs] w fun e w' => e = .returned (.int .i64 (high a b signs)) ∧ w = w' := by
  have h4 := halves4 (a % 4294967296) (b % 4294967296)
  cases signs
  · refine rhigh_f a b _ _ _ rfl rfl ?_ w
    rw [← h4]
    rfl
  · have ha : wrap32 a = if a % 4294967296 < 2147483648 then a % 4294967296 - 0 * 4294967296 else a % 4294967296 - 1 * 4294967296 := by unfold wrap32; split <;> omega
    have hb : wrap32 b = if b % 4294967296 < 2147483648 then b % 4294967296 - 0 * 4294967296 else b % 4294967296 - 1 * 4294967296 := by unfold wrap32; split <;> omega
    by_cases cx : a % 4294967296 < 2147483648
    · rw [if_pos cx] at ha
      by_cases cy : b % 4294967296 < 2147483648
      · rw [if_pos cy] at hb
        refine rhigh_nn a b _ _ _ rfl rfl cx cy ?_ w
        rw [← h4, high_signs a b _ _ _ _ ha hb]
        exact congrArg wrap32 (by omega)
      · rw [if_neg cy] at hb
        refine rhigh_ny a b _ _ _ rfl rfl cx (by omega) ?_ w
        rw [← h4, high_signs a b _ _ _ _ ha hb]
        exact congrArg wrap32 (by omega)
    · rw [if_neg cx] at ha
      by_cases cy : b % 4294967296 < 2147483648
      · rw [if_pos cy] at hb
        refine rhigh_yn a b _ _ _ rfl rfl (by omega) cy ?_ w
        rw [← h4, high_signs a b _ _ _ _ ha hb]
        exact congrArg wrap32 (by omega)
      · rw [if_neg cy] at hb
        refine rhigh_yy a b _ _ _ rfl rfl (by omega) (by omega) ?_ w
        rw [← h4, high_signs a b _ _ _ _ ha hb]
        exact congrArg wrap32 (by omega)
end Go.Proofs.YtgcgdjmlngfpeaaDoor
