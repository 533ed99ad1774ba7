/- The laws' common first calls (awake) answer true, over any world that holds the table of texts. -/
import Derived.Test.YtldhkfgloeanoaaDoorTable
namespace Go.Proofs.YtldhkfgloeanoaaDoor
open Go.RowKit Plain
theorem wrap_lit {n r : Int} (h : wrap32 n = r) (w : World) : Calls Tryd.prog 23 #[.int .i64 n] w fun e w' => e = .returned (.int .i64 r) ∧ w = w' := by
  subst h
  exact wrap_any n w
theorem word_lit {n r : Int} (h : n % 4294967296 = r) (w : World) : Calls Tryd.prog 25 #[.int .i64 n] w fun e w' => e = .returned (.int .i64 r) ∧ w = w' := by
  subst h
  exact word_any n w
theorem level_lit {n r : Int} (h : level n = r) (w : World) : Calls Tryd.prog 21 #[.int .i64 n] w fun e w' => e = .returned (.int .i64 r) ∧ w = w' := by
  subst h
  exact level_any n w
theorem sign_lit {op : Int} {s : ByteArray} {b : Bool} (h : (⟨(text op).toArray⟩ : ByteArray) = s) (hb : isSign op = b) (w : World) (hT : Texts w) : Calls Tryd.prog 19 #[.int .i64 op] w fun e w' => e = .returned (.tuple #[.string s, .bool b]) ∧ w = w' := by
  subst h
  subst hb
  exact sign_any op w hT
theorem pick_lit {c n r : Int} (h1 : -9223372036854775808 ≤ c) (h2 : c ≤ 9223372036854775807) (h3 : 1 ≤ n) (h : pick c n = r) (w : World) : Calls Tryd.prog 12 #[.int .i64 c, .int .i64 n] w fun e w' => e = .returned (.int .i64 r) ∧ w = w' := by
  subst h
  exact pick_any c n h1 h2 h3 w
theorem awake_any (w : World) (hT : Texts w) : Calls Tryd.prog 11 #[] w fun e w' => e = .returned (.bool true) ∧ w = w' := by
  go_enter Tryd.func11, Tryd.ntmps11
  go_wp2_with fail
  refine (two_lit (r := -2147483648) (by omega) (by decide +kernel) _).mono ?_
  rintro e w' ⟨rfl, rfl⟩
  go_wp2_with fail
  refine (two_lit (r := -1) (by omega) (by decide +kernel) _).mono ?_
  rintro e w' ⟨rfl, rfl⟩
  go_wp2_with fail
  refine (sign_lit (s := ⟨#[60, 46]⟩) (b := true) rfl rfl _ hT).mono ?_
  rintro e w' ⟨rfl, rfl⟩
  go_wp2_with fail
  refine (one_lit (r := -5) (by omega) (by decide +kernel) _).mono ?_
  rintro e w' ⟨rfl, rfl⟩
  go_wp2_with fail
  refine (wrap_lit (r := -2147483648) (by decide +kernel) _).mono ?_
  rintro e w' ⟨rfl, rfl⟩
  go_wp2_with fail
  refine (word_lit (r := 4294967295) (by decide +kernel) _).mono ?_
  rintro e w' ⟨rfl, rfl⟩
  go_wp2_with fail
  refine (high_lit (r := -2) (by decide +kernel) _).mono ?_
  rintro e w' ⟨rfl, rfl⟩
  go_wp2_with fail
  refine (level_lit (r := 8) (by decide +kernel) _).mono ?_
  rintro e w' ⟨rfl, rfl⟩
  go_wp2_with fail
  go_ret
  exact ⟨rfl, rfl⟩
theorem i64_bd {n : Int} (h : (Lit.int .i64 n).wf = true) : -9223372036854775808 ≤ n ∧ n ≤ 9223372036854775807 := by
  simp [Lit.wf, IntKind.min, IntKind.max, IntKind.signed, IntKind.bits] at h
  omega
end Go.Proofs.YtldhkfgloeanoaaDoor
