/- What Fit makes of a raw instruction: a right one of the row that its number speaks of; of what was there nothing turns. -/
import Derived.Test.YtgcgdjmlngfpeaaDoorCRowAny
import Derived.Test.YtgcgdjmlngfpeaaDoorCWord
namespace Go.Proofs.YtgcgdjmlngfpeaaDoor
open Go.RowKit Rv
set_option linter.unusedVariables false
theorem ret_int {k : IntKind} {a b : Int} (h : a = b) : Ending.returned (.int k a) = .returned (.int k b) := by rw [h]
theorem pick_any (c n : Int) (h1 : -9223372036854775808 ≤ c) (h2 : c ≤ 9223372036854775807) (h3 : 1 ≤ n) (w : World) : Calls Tryd.prog 29 #[.int .i64 c, .int .i64 n] w fun e w' => e = .returned (.int .i64 (pick c n)) ∧ w = w' := by
  by_cases hc : c < 0
  · have ht := Lib.hid (pick_neg n hc)
    go_enter Tryd.func29, Tryd.ntmps29
    go_wp2
    go_ret
    exact ⟨ret_int ht.out, rfl⟩
  · have ht := Lib.hid (pick_pos n hc)
    go_enter Tryd.func29, Tryd.ntmps29
    go_wp2
    go_ret
    exact ⟨ret_int ht.out, rfl⟩
theorem pick_lit {c n r : Int} (h1 : -9223372036854775808 ≤ c) (h2 : c ≤ 9223372036854775807) (h3 : 1 ≤ n) (h : pick c n = r) (w : World) : Calls Tryd.prog 29 #[.int .i64 c, .int .i64 n] w fun e w' => e = .returned (.int .i64 r) ∧ w = w' := by
  subst h
  exact pick_any c n h1 h2 h3 w
theorem rowof_lit {op f lo mi hi : Int} {s : ByteArray} (h : rowVals op = [.string s, .int .u8 f, .int .i64 lo, .int .i64 mi, .int .i64 hi]) (w : World) : Calls Tryd.prog 30 #[.int .i64 op] w fun e w' => e = .returned (.agg #[.string s, .int .u8 f, .int .i64 lo, .int .i64 mi, .int .i64 hi]) ∧ Both w w' := by
  have := rowof_any op w
  rw [h] at this
  exact this
theorem bcell {W w1 : World} (hb : Both W w1) : (∀ b o, b < W.heap.size → w1.cell? ⟨b, o, none⟩ = W.cell? ⟨b, o, none⟩) ∧ (∀ b o, w1.frozen? ⟨b, o, none⟩ = W.frozen? ⟨b, o, none⟩) ∧ W.heap.size ≤ w1.heap.size :=
  ⟨fun b o h => hb.cell (p := ⟨b, o, none⟩) h, fun b o => hb.2 ⟨b, o, none⟩, hb.1.size⟩
theorem field1 (s : ByteArray) (f lo mi hi : Int) (W : World) : (Instr.field 54 (.agg #[.string s, .int .u8 f, .int .i64 lo, .int .i64 mi, .int .i64 hi]) 1).run Tryd.prog W = .ok (.int .u8 f) W := by kernel_rfl
set_option maxRecDepth 100000 in
set_option maxHeartbeats 4000000 in
theorem fit_R (o d a b n k x y z q lo mi hi : Int) (s : ByteArray) (bo : -9223372036854775808 ≤ o) (bo' : o ≤ 9223372036854775807) (bd : -9223372036854775808 ≤ d) (bd' : d ≤ 9223372036854775807)
    (ba : -9223372036854775808 ≤ a) (ba' : a ≤ 9223372036854775807) (bb : -9223372036854775808 ≤ b) (bb' : b ≤ 9223372036854775807) (bn : -9223372036854775808 ≤ n) (bn' : n ≤ 9223372036854775807) (k0 : 0 ≤ k) (k1 : k < 49)
    (HK : Hid (pick o 49 = k)) (HX : Hid (pick d 32 = x)) (HY : Hid (pick a 32 = y)) (HZ : Hid (pick b 32 = z))
    (HR : Hid (rowVals (1 + k) = [.string s, .int .u8 82, .int .i64 lo, .int .i64 mi, .int .i64 hi])) (w : World) :
    Calls Tryd.prog 14 #[.agg #[.int .i64 o, .int .i64 d, .int .i64 a, .int .i64 b, .int .i64 n]] w fun e w' => e = .returned (.agg #[.int .i64 (1 + k), .int .i64 x, .int .i64 y, .int .i64 z, .int .i64 (0)]) ∧ Both w w' := by
  have hfld := field1 s 82 lo mi hi
  go_enter Tryd.func14, Tryd.ntmps14
  go_wp2_with fail
  refine (pick_lit bo bo' (by omega) HK.out _).mono ?_
  rintro e w' ⟨rfl, rfl⟩
  go_wp2_with fail
  refine (rowof_lit HR.out _).mono ?_
  rintro e W1 ⟨rfl, hb1⟩
  obtain ⟨hc, hf, hz⟩ := bcell hb1
  have HB := Lib.hid hb1
  clear hb1
  simp at hz
  go_wp2_with fail
  refine (pick_lit bd bd' (by omega) HX.out _).mono ?_
  rintro e w' ⟨rfl, rfl⟩
  go_wp2_with fail
  refine (pick_lit ba ba' (by omega) HY.out _).mono ?_
  rintro e w' ⟨rfl, rfl⟩
  go_wp2_with fail
  refine (pick_lit bb bb' (by omega) HZ.out _).mono ?_
  rintro e w' ⟨rfl, rfl⟩
  go_wp2_with fail
  refine bodyPost_ret (v := .agg #[.int .i64 (1 + k), .int .i64 x, .int .i64 y, .int .i64 z, .int .i64 (0)]) (by simp [results, Tryd.results14, go_sem, hc]) rfl ⟨rfl, ?_⟩
  repeat (with_reducible refine Both.setCell ?_ ?side _; case side => (dsimp only; omega))
  exact Both.trans ((((Both.refl w).alloc _ _).alloc _ _).alloc _ _) HB.out
set_option maxRecDepth 100000 in
set_option maxHeartbeats 4000000 in
theorem fit_I (o d a b n k x y z q lo mi hi : Int) (s : ByteArray) (bo : -9223372036854775808 ≤ o) (bo' : o ≤ 9223372036854775807) (bd : -9223372036854775808 ≤ d) (bd' : d ≤ 9223372036854775807)
    (ba : -9223372036854775808 ≤ a) (ba' : a ≤ 9223372036854775807) (bb : -9223372036854775808 ≤ b) (bb' : b ≤ 9223372036854775807) (bn : -9223372036854775808 ≤ n) (bn' : n ≤ 9223372036854775807) (k0 : 0 ≤ k) (k1 : k < 49)
    (HK : Hid (pick o 49 = k)) (HX : Hid (pick d 32 = x)) (HY : Hid (pick a 32 = y)) (HQ : Hid (pick n 4096 = q)) (q0 : 0 ≤ q) (q1 : q < 4096)
    (HR : Hid (rowVals (1 + k) = [.string s, .int .u8 73, .int .i64 lo, .int .i64 mi, .int .i64 hi])) (w : World) :
    Calls Tryd.prog 14 #[.agg #[.int .i64 o, .int .i64 d, .int .i64 a, .int .i64 b, .int .i64 n]] w fun e w' => e = .returned (.agg #[.int .i64 (1 + k), .int .i64 x, .int .i64 y, .int .i64 0, .int .i64 (q - 2048)]) ∧ Both w w' := by
  have hfld := field1 s 73 lo mi hi
  go_enter Tryd.func14, Tryd.ntmps14
  go_wp2_with fail
  refine (pick_lit bo bo' (by omega) HK.out _).mono ?_
  rintro e w' ⟨rfl, rfl⟩
  go_wp2_with fail
  refine (rowof_lit HR.out _).mono ?_
  rintro e W1 ⟨rfl, hb1⟩
  obtain ⟨hc, hf, hz⟩ := bcell hb1
  have HB := Lib.hid hb1
  clear hb1
  simp at hz
  go_wp2_with fail
  refine (pick_lit bd bd' (by omega) HX.out _).mono ?_
  rintro e w' ⟨rfl, rfl⟩
  go_wp2_with fail
  refine (pick_lit ba ba' (by omega) HY.out _).mono ?_
  rintro e w' ⟨rfl, rfl⟩
  go_wp2_with fail
  refine (pick_lit bn bn' (by omega) HQ.out _).mono ?_
  rintro e w' ⟨rfl, rfl⟩
  go_wp2_with fail
  refine bodyPost_ret (v := .agg #[.int .i64 (1 + k), .int .i64 x, .int .i64 y, .int .i64 0, .int .i64 (q - 2048)]) (by simp [results, Tryd.results14, go_sem, hc]) rfl ⟨rfl, ?_⟩
  repeat (with_reducible refine Both.setCell ?_ ?side _; case side => (dsimp only; omega))
  exact Both.trans ((((Both.refl w).alloc _ _).alloc _ _).alloc _ _) HB.out
set_option maxRecDepth 100000 in
set_option maxHeartbeats 4000000 in
theorem fit_H (o d a b n k x y z q lo mi hi : Int) (s : ByteArray) (bo : -9223372036854775808 ≤ o) (bo' : o ≤ 9223372036854775807) (bd : -9223372036854775808 ≤ d) (bd' : d ≤ 9223372036854775807)
    (ba : -9223372036854775808 ≤ a) (ba' : a ≤ 9223372036854775807) (bb : -9223372036854775808 ≤ b) (bb' : b ≤ 9223372036854775807) (bn : -9223372036854775808 ≤ n) (bn' : n ≤ 9223372036854775807) (k0 : 0 ≤ k) (k1 : k < 49)
    (HK : Hid (pick o 49 = k)) (HX : Hid (pick d 32 = x)) (HY : Hid (pick a 32 = y)) (HQ : Hid (pick n 32 = q)) (q0 : 0 ≤ q) (q1 : q < 32)
    (HR : Hid (rowVals (1 + k) = [.string s, .int .u8 72, .int .i64 lo, .int .i64 mi, .int .i64 hi])) (w : World) :
    Calls Tryd.prog 14 #[.agg #[.int .i64 o, .int .i64 d, .int .i64 a, .int .i64 b, .int .i64 n]] w fun e w' => e = .returned (.agg #[.int .i64 (1 + k), .int .i64 x, .int .i64 y, .int .i64 0, .int .i64 (q)]) ∧ Both w w' := by
  have hfld := field1 s 72 lo mi hi
  go_enter Tryd.func14, Tryd.ntmps14
  go_wp2_with fail
  refine (pick_lit bo bo' (by omega) HK.out _).mono ?_
  rintro e w' ⟨rfl, rfl⟩
  go_wp2_with fail
  refine (rowof_lit HR.out _).mono ?_
  rintro e W1 ⟨rfl, hb1⟩
  obtain ⟨hc, hf, hz⟩ := bcell hb1
  have HB := Lib.hid hb1
  clear hb1
  simp at hz
  go_wp2_with fail
  refine (pick_lit bd bd' (by omega) HX.out _).mono ?_
  rintro e w' ⟨rfl, rfl⟩
  go_wp2_with fail
  refine (pick_lit ba ba' (by omega) HY.out _).mono ?_
  rintro e w' ⟨rfl, rfl⟩
  go_wp2_with fail
  refine (pick_lit bn bn' (by omega) HQ.out _).mono ?_
  rintro e w' ⟨rfl, rfl⟩
  go_wp2_with fail
  refine bodyPost_ret (v := .agg #[.int .i64 (1 + k), .int .i64 x, .int .i64 y, .int .i64 0, .int .i64 (q)]) (by simp [results, Tryd.results14, go_sem, hc]) rfl ⟨rfl, ?_⟩
  repeat (with_reducible refine Both.setCell ?_ ?side _; case side => (dsimp only; omega))
  exact Both.trans ((((Both.refl w).alloc _ _).alloc _ _).alloc _ _) HB.out
set_option maxRecDepth 100000 in
set_option maxHeartbeats 4000000 in
theorem fit_U (o d a b n k x y z q lo mi hi : Int) (s : ByteArray) (bo : -9223372036854775808 ≤ o) (bo' : o ≤ 9223372036854775807) (bd : -9223372036854775808 ≤ d) (bd' : d ≤ 9223372036854775807)
    (ba : -9223372036854775808 ≤ a) (ba' : a ≤ 9223372036854775807) (bb : -9223372036854775808 ≤ b) (bb' : b ≤ 9223372036854775807) (bn : -9223372036854775808 ≤ n) (bn' : n ≤ 9223372036854775807) (k0 : 0 ≤ k) (k1 : k < 49)
    (HK : Hid (pick o 49 = k)) (HX : Hid (pick d 32 = x)) (HQ : Hid (pick n 1048576 = q)) (q0 : 0 ≤ q) (q1 : q < 1048576)
    (HR : Hid (rowVals (1 + k) = [.string s, .int .u8 85, .int .i64 lo, .int .i64 mi, .int .i64 hi])) (w : World) :
    Calls Tryd.prog 14 #[.agg #[.int .i64 o, .int .i64 d, .int .i64 a, .int .i64 b, .int .i64 n]] w fun e w' => e = .returned (.agg #[.int .i64 (1 + k), .int .i64 x, .int .i64 0, .int .i64 0, .int .i64 (q)]) ∧ Both w w' := by
  have hfld := field1 s 85 lo mi hi
  go_enter Tryd.func14, Tryd.ntmps14
  go_wp2_with fail
  refine (pick_lit bo bo' (by omega) HK.out _).mono ?_
  rintro e w' ⟨rfl, rfl⟩
  go_wp2_with fail
  refine (rowof_lit HR.out _).mono ?_
  rintro e W1 ⟨rfl, hb1⟩
  obtain ⟨hc, hf, hz⟩ := bcell hb1
  have HB := Lib.hid hb1
  clear hb1
  simp at hz
  go_wp2_with fail
  refine (pick_lit bd bd' (by omega) HX.out _).mono ?_
  rintro e w' ⟨rfl, rfl⟩
  go_wp2_with fail
  refine (pick_lit bn bn' (by omega) HQ.out _).mono ?_
  rintro e w' ⟨rfl, rfl⟩
  go_wp2_with fail
  refine bodyPost_ret (v := .agg #[.int .i64 (1 + k), .int .i64 x, .int .i64 0, .int .i64 0, .int .i64 (q)]) (by simp [results, Tryd.results14, go_sem, hc]) rfl ⟨rfl, ?_⟩
  repeat (with_reducible refine Both.setCell ?_ ?side _; case side => (dsimp only; omega))
  exact Both.trans ((((Both.refl w).alloc _ _).alloc _ _).alloc _ _) HB.out
set_option maxRecDepth 100000 in
set_option maxHeartbeats 4000000 in
theorem fit_J (o d a b n k x y z q lo mi hi : Int) (s : ByteArray) (bo : -9223372036854775808 ≤ o) (bo' : o ≤ 9223372036854775807) (bd : -9223372036854775808 ≤ d) (bd' : d ≤ 9223372036854775807)
    (ba : -9223372036854775808 ≤ a) (ba' : a ≤ 9223372036854775807) (bb : -9223372036854775808 ≤ b) (bb' : b ≤ 9223372036854775807) (bn : -9223372036854775808 ≤ n) (bn' : n ≤ 9223372036854775807) (k0 : 0 ≤ k) (k1 : k < 49)
    (HK : Hid (pick o 49 = k)) (HX : Hid (pick d 32 = x)) (HQ : Hid (pick n 1048576 = q)) (q0 : 0 ≤ q) (q1 : q < 1048576)
    (HR : Hid (rowVals (1 + k) = [.string s, .int .u8 74, .int .i64 lo, .int .i64 mi, .int .i64 hi])) (w : World) :
    Calls Tryd.prog 14 #[.agg #[.int .i64 o, .int .i64 d, .int .i64 a, .int .i64 b, .int .i64 n]] w fun e w' => e = .returned (.agg #[.int .i64 (1 + k), .int .i64 x, .int .i64 0, .int .i64 0, .int .i64 (2 * q - 1048576)]) ∧ Both w w' := by
  have hfld := field1 s 74 lo mi hi
  go_enter Tryd.func14, Tryd.ntmps14
  go_wp2_with fail
  refine (pick_lit bo bo' (by omega) HK.out _).mono ?_
  rintro e w' ⟨rfl, rfl⟩
  go_wp2_with fail
  refine (rowof_lit HR.out _).mono ?_
  rintro e W1 ⟨rfl, hb1⟩
  obtain ⟨hc, hf, hz⟩ := bcell hb1
  have HB := Lib.hid hb1
  clear hb1
  simp at hz
  go_wp2_with fail
  refine (pick_lit bd bd' (by omega) HX.out _).mono ?_
  rintro e w' ⟨rfl, rfl⟩
  go_wp2_with fail
  refine (pick_lit bn bn' (by omega) HQ.out _).mono ?_
  rintro e w' ⟨rfl, rfl⟩
  go_wp2_with fail
  refine bodyPost_ret (v := .agg #[.int .i64 (1 + k), .int .i64 x, .int .i64 0, .int .i64 0, .int .i64 (2 * q - 1048576)]) (by simp [results, Tryd.results14, go_sem, hc]) rfl ⟨rfl, ?_⟩
  repeat (with_reducible refine Both.setCell ?_ ?side _; case side => (dsimp only; omega))
  exact Both.trans ((((Both.refl w).alloc _ _).alloc _ _).alloc _ _) HB.out
set_option maxRecDepth 100000 in
set_option maxHeartbeats 4000000 in
theorem fit_C (o d a b n k x y z q lo mi hi : Int) (s : ByteArray) (bo : -9223372036854775808 ≤ o) (bo' : o ≤ 9223372036854775807) (bd : -9223372036854775808 ≤ d) (bd' : d ≤ 9223372036854775807)
    (ba : -9223372036854775808 ≤ a) (ba' : a ≤ 9223372036854775807) (bb : -9223372036854775808 ≤ b) (bb' : b ≤ 9223372036854775807) (bn : -9223372036854775808 ≤ n) (bn' : n ≤ 9223372036854775807) (k0 : 0 ≤ k) (k1 : k < 49)
    (HK : Hid (pick o 49 = k)) (HX : Hid (pick d 32 = x)) (HY : Hid (pick a 32 = y)) (HQ : Hid (pick n 4096 = q)) (q0 : 0 ≤ q) (q1 : q < 4096)
    (HR : Hid (rowVals (1 + k) = [.string s, .int .u8 67, .int .i64 lo, .int .i64 mi, .int .i64 hi])) (w : World) :
    Calls Tryd.prog 14 #[.agg #[.int .i64 o, .int .i64 d, .int .i64 a, .int .i64 b, .int .i64 n]] w fun e w' => e = .returned (.agg #[.int .i64 (1 + k), .int .i64 x, .int .i64 y, .int .i64 0, .int .i64 (q)]) ∧ Both w w' := by
  have hfld := field1 s 67 lo mi hi
  go_enter Tryd.func14, Tryd.ntmps14
  go_wp2_with fail
  refine (pick_lit bo bo' (by omega) HK.out _).mono ?_
  rintro e w' ⟨rfl, rfl⟩
  go_wp2_with fail
  refine (rowof_lit HR.out _).mono ?_
  rintro e W1 ⟨rfl, hb1⟩
  obtain ⟨hc, hf, hz⟩ := bcell hb1
  have HB := Lib.hid hb1
  clear hb1
  simp at hz
  go_wp2_with fail
  refine (pick_lit bd bd' (by omega) HX.out _).mono ?_
  rintro e w' ⟨rfl, rfl⟩
  go_wp2_with fail
  refine (pick_lit ba ba' (by omega) HY.out _).mono ?_
  rintro e w' ⟨rfl, rfl⟩
  go_wp2_with fail
  refine (pick_lit bn bn' (by omega) HQ.out _).mono ?_
  rintro e w' ⟨rfl, rfl⟩
  go_wp2_with fail
  refine bodyPost_ret (v := .agg #[.int .i64 (1 + k), .int .i64 x, .int .i64 y, .int .i64 0, .int .i64 (q)]) (by simp [results, Tryd.results14, go_sem, hc]) rfl ⟨rfl, ?_⟩
  repeat (with_reducible refine Both.setCell ?_ ?side _; case side => (dsimp only; omega))
  exact Both.trans ((((Both.refl w).alloc _ _).alloc _ _).alloc _ _) HB.out
set_option maxRecDepth 100000 in
set_option maxHeartbeats 4000000 in
theorem fit_L (o d a b n k x y z q lo mi hi : Int) (s : ByteArray) (bo : -9223372036854775808 ≤ o) (bo' : o ≤ 9223372036854775807) (bd : -9223372036854775808 ≤ d) (bd' : d ≤ 9223372036854775807)
    (ba : -9223372036854775808 ≤ a) (ba' : a ≤ 9223372036854775807) (bb : -9223372036854775808 ≤ b) (bb' : b ≤ 9223372036854775807) (bn : -9223372036854775808 ≤ n) (bn' : n ≤ 9223372036854775807) (k0 : 0 ≤ k) (k1 : k < 49)
    (HK : Hid (pick o 49 = k)) (HX : Hid (pick d 32 = x)) (HY : Hid (pick a 32 = y)) (HQ : Hid (pick n 4 = q)) (q0 : 0 ≤ q) (q1 : q < 4)
    (HR : Hid (rowVals (1 + k) = [.string s, .int .u8 76, .int .i64 lo, .int .i64 mi, .int .i64 hi])) (w : World) :
    Calls Tryd.prog 14 #[.agg #[.int .i64 o, .int .i64 d, .int .i64 a, .int .i64 b, .int .i64 n]] w fun e w' => e = .returned (.agg #[.int .i64 (1 + k), .int .i64 x, .int .i64 y, .int .i64 0, .int .i64 (q)]) ∧ Both w w' := by
  have hfld := field1 s 76 lo mi hi
  go_enter Tryd.func14, Tryd.ntmps14
  go_wp2_with fail
  refine (pick_lit bo bo' (by omega) HK.out _).mono ?_
  rintro e w' ⟨rfl, rfl⟩
  go_wp2_with fail
  refine (rowof_lit HR.out _).mono ?_
  rintro e W1 ⟨rfl, hb1⟩
  obtain ⟨hc, hf, hz⟩ := bcell hb1
  have HB := Lib.hid hb1
  clear hb1
  simp at hz
  go_wp2_with fail
  refine (pick_lit bd bd' (by omega) HX.out _).mono ?_
  rintro e w' ⟨rfl, rfl⟩
  go_wp2_with fail
  refine (pick_lit ba ba' (by omega) HY.out _).mono ?_
  rintro e w' ⟨rfl, rfl⟩
  go_wp2_with fail
  refine (pick_lit bn bn' (by omega) HQ.out _).mono ?_
  rintro e w' ⟨rfl, rfl⟩
  go_wp2_with fail
  refine bodyPost_ret (v := .agg #[.int .i64 (1 + k), .int .i64 x, .int .i64 y, .int .i64 0, .int .i64 (q)]) (by simp [results, Tryd.results14, go_sem, hc]) rfl ⟨rfl, ?_⟩
  repeat (with_reducible refine Both.setCell ?_ ?side _; case side => (dsimp only; omega))
  exact Both.trans ((((Both.refl w).alloc _ _).alloc _ _).alloc _ _) HB.out
set_option maxRecDepth 100000 in
set_option maxHeartbeats 4000000 in
theorem fit_A (o d a b n k x y z q lo mi hi : Int) (s : ByteArray) (bo : -9223372036854775808 ≤ o) (bo' : o ≤ 9223372036854775807) (bd : -9223372036854775808 ≤ d) (bd' : d ≤ 9223372036854775807)
    (ba : -9223372036854775808 ≤ a) (ba' : a ≤ 9223372036854775807) (bb : -9223372036854775808 ≤ b) (bb' : b ≤ 9223372036854775807) (bn : -9223372036854775808 ≤ n) (bn' : n ≤ 9223372036854775807) (k0 : 0 ≤ k) (k1 : k < 49)
    (HK : Hid (pick o 49 = k)) (HX : Hid (pick d 32 = x)) (HY : Hid (pick a 32 = y)) (HZ : Hid (pick b 32 = z)) (HQ : Hid (pick n 4 = q)) (q0 : 0 ≤ q) (q1 : q < 4)
    (HR : Hid (rowVals (1 + k) = [.string s, .int .u8 65, .int .i64 lo, .int .i64 mi, .int .i64 hi])) (w : World) :
    Calls Tryd.prog 14 #[.agg #[.int .i64 o, .int .i64 d, .int .i64 a, .int .i64 b, .int .i64 n]] w fun e w' => e = .returned (.agg #[.int .i64 (1 + k), .int .i64 x, .int .i64 y, .int .i64 z, .int .i64 (q)]) ∧ Both w w' := by
  have hfld := field1 s 65 lo mi hi
  go_enter Tryd.func14, Tryd.ntmps14
  go_wp2_with fail
  refine (pick_lit bo bo' (by omega) HK.out _).mono ?_
  rintro e w' ⟨rfl, rfl⟩
  go_wp2_with fail
  refine (rowof_lit HR.out _).mono ?_
  rintro e W1 ⟨rfl, hb1⟩
  obtain ⟨hc, hf, hz⟩ := bcell hb1
  have HB := Lib.hid hb1
  clear hb1
  simp at hz
  go_wp2_with fail
  refine (pick_lit bd bd' (by omega) HX.out _).mono ?_
  rintro e w' ⟨rfl, rfl⟩
  go_wp2_with fail
  refine (pick_lit ba ba' (by omega) HY.out _).mono ?_
  rintro e w' ⟨rfl, rfl⟩
  go_wp2_with fail
  refine (pick_lit bb bb' (by omega) HZ.out _).mono ?_
  rintro e w' ⟨rfl, rfl⟩
  go_wp2_with fail
  refine (pick_lit bn bn' (by omega) HQ.out _).mono ?_
  rintro e w' ⟨rfl, rfl⟩
  go_wp2_with fail
  refine bodyPost_ret (v := .agg #[.int .i64 (1 + k), .int .i64 x, .int .i64 y, .int .i64 z, .int .i64 (q)]) (by simp [results, Tryd.results14, go_sem, hc]) rfl ⟨rfl, ?_⟩
  repeat (with_reducible refine Both.setCell ?_ ?side _; case side => (dsimp only; omega))
  exact Both.trans ((((Both.refl w).alloc _ _).alloc _ _).alloc _ _) HB.out
set_option maxRecDepth 100000 in
set_option maxHeartbeats 4000000 in
theorem fit_S (o d a b n k x y z q lo mi hi : Int) (s : ByteArray) (bo : -9223372036854775808 ≤ o) (bo' : o ≤ 9223372036854775807) (bd : -9223372036854775808 ≤ d) (bd' : d ≤ 9223372036854775807)
    (ba : -9223372036854775808 ≤ a) (ba' : a ≤ 9223372036854775807) (bb : -9223372036854775808 ≤ b) (bb' : b ≤ 9223372036854775807) (bn : -9223372036854775808 ≤ n) (bn' : n ≤ 9223372036854775807) (k0 : 0 ≤ k) (k1 : k < 49)
    (HK : Hid (pick o 49 = k)) (HY : Hid (pick a 32 = y)) (HZ : Hid (pick b 32 = z)) (HQ : Hid (pick n 4096 = q)) (q0 : 0 ≤ q) (q1 : q < 4096)
    (HR : Hid (rowVals (1 + k) = [.string s, .int .u8 83, .int .i64 lo, .int .i64 mi, .int .i64 hi])) (w : World) :
    Calls Tryd.prog 14 #[.agg #[.int .i64 o, .int .i64 d, .int .i64 a, .int .i64 b, .int .i64 n]] w fun e w' => e = .returned (.agg #[.int .i64 (1 + k), .int .i64 0, .int .i64 y, .int .i64 z, .int .i64 (q - 2048)]) ∧ Both w w' := by
  have hfld := field1 s 83 lo mi hi
  go_enter Tryd.func14, Tryd.ntmps14
  go_wp2_with fail
  refine (pick_lit bo bo' (by omega) HK.out _).mono ?_
  rintro e w' ⟨rfl, rfl⟩
  go_wp2_with fail
  refine (rowof_lit HR.out _).mono ?_
  rintro e W1 ⟨rfl, hb1⟩
  obtain ⟨hc, hf, hz⟩ := bcell hb1
  have HB := Lib.hid hb1
  clear hb1
  simp at hz
  go_wp2_with fail
  refine (pick_lit ba ba' (by omega) HY.out _).mono ?_
  rintro e w' ⟨rfl, rfl⟩
  go_wp2_with fail
  refine (pick_lit bb bb' (by omega) HZ.out _).mono ?_
  rintro e w' ⟨rfl, rfl⟩
  go_wp2_with fail
  refine (pick_lit bn bn' (by omega) HQ.out _).mono ?_
  rintro e w' ⟨rfl, rfl⟩
  go_wp2_with fail
  refine bodyPost_ret (v := .agg #[.int .i64 (1 + k), .int .i64 0, .int .i64 y, .int .i64 z, .int .i64 (q - 2048)]) (by simp [results, Tryd.results14, go_sem, hc]) rfl ⟨rfl, ?_⟩
  repeat (with_reducible refine Both.setCell ?_ ?side _; case side => (dsimp only; omega))
  exact Both.trans ((((Both.refl w).alloc _ _).alloc _ _).alloc _ _) HB.out
set_option maxRecDepth 100000 in
set_option maxHeartbeats 4000000 in
theorem fit_B (o d a b n k x y z q lo mi hi : Int) (s : ByteArray) (bo : -9223372036854775808 ≤ o) (bo' : o ≤ 9223372036854775807) (bd : -9223372036854775808 ≤ d) (bd' : d ≤ 9223372036854775807)
    (ba : -9223372036854775808 ≤ a) (ba' : a ≤ 9223372036854775807) (bb : -9223372036854775808 ≤ b) (bb' : b ≤ 9223372036854775807) (bn : -9223372036854775808 ≤ n) (bn' : n ≤ 9223372036854775807) (k0 : 0 ≤ k) (k1 : k < 49)
    (HK : Hid (pick o 49 = k)) (HY : Hid (pick a 32 = y)) (HZ : Hid (pick b 32 = z)) (HQ : Hid (pick n 4096 = q)) (q0 : 0 ≤ q) (q1 : q < 4096)
    (HR : Hid (rowVals (1 + k) = [.string s, .int .u8 66, .int .i64 lo, .int .i64 mi, .int .i64 hi])) (w : World) :
    Calls Tryd.prog 14 #[.agg #[.int .i64 o, .int .i64 d, .int .i64 a, .int .i64 b, .int .i64 n]] w fun e w' => e = .returned (.agg #[.int .i64 (1 + k), .int .i64 0, .int .i64 y, .int .i64 z, .int .i64 (2 * q - 4096)]) ∧ Both w w' := by
  have hfld := field1 s 66 lo mi hi
  go_enter Tryd.func14, Tryd.ntmps14
  go_wp2_with fail
  refine (pick_lit bo bo' (by omega) HK.out _).mono ?_
  rintro e w' ⟨rfl, rfl⟩
  go_wp2_with fail
  refine (rowof_lit HR.out _).mono ?_
  rintro e W1 ⟨rfl, hb1⟩
  obtain ⟨hc, hf, hz⟩ := bcell hb1
  have HB := Lib.hid hb1
  clear hb1
  simp at hz
  go_wp2_with fail
  refine (pick_lit ba ba' (by omega) HY.out _).mono ?_
  rintro e w' ⟨rfl, rfl⟩
  go_wp2_with fail
  refine (pick_lit bb bb' (by omega) HZ.out _).mono ?_
  rintro e w' ⟨rfl, rfl⟩
  go_wp2_with fail
  refine (pick_lit bn bn' (by omega) HQ.out _).mono ?_
  rintro e w' ⟨rfl, rfl⟩
  go_wp2_with fail
  refine bodyPost_ret (v := .agg #[.int .i64 (1 + k), .int .i64 0, .int .i64 y, .int .i64 z, .int .i64 (2 * q - 4096)]) (by simp [results, Tryd.results14, go_sem, hc]) rfl ⟨rfl, ?_⟩
  repeat (with_reducible refine Both.setCell ?_ ?side _; case side => (dsimp only; omega))
  exact Both.trans ((((Both.refl w).alloc _ _).alloc _ _).alloc _ _) HB.out
set_option maxRecDepth 100000 in
set_option maxHeartbeats 4000000 in
theorem fit_F (o d a b n k x y z q lo mi hi : Int) (s : ByteArray) (bo : -9223372036854775808 ≤ o) (bo' : o ≤ 9223372036854775807) (bd : -9223372036854775808 ≤ d) (bd' : d ≤ 9223372036854775807)
    (ba : -9223372036854775808 ≤ a) (ba' : a ≤ 9223372036854775807) (bb : -9223372036854775808 ≤ b) (bb' : b ≤ 9223372036854775807) (bn : -9223372036854775808 ≤ n) (bn' : n ≤ 9223372036854775807) (k0 : 0 ≤ k) (k1 : k < 49)
    (HK : Hid (pick o 49 = k)) (HQ : Hid (pick n 256 = q)) (q0 : 0 ≤ q) (q1 : q < 256)
    (HR : Hid (rowVals (1 + k) = [.string s, .int .u8 70, .int .i64 lo, .int .i64 mi, .int .i64 hi])) (w : World) :
    Calls Tryd.prog 14 #[.agg #[.int .i64 o, .int .i64 d, .int .i64 a, .int .i64 b, .int .i64 n]] w fun e w' => e = .returned (.agg #[.int .i64 (1 + k), .int .i64 0, .int .i64 0, .int .i64 0, .int .i64 (q)]) ∧ Both w w' := by
  have hfld := field1 s 70 lo mi hi
  go_enter Tryd.func14, Tryd.ntmps14
  go_wp2_with fail
  refine (pick_lit bo bo' (by omega) HK.out _).mono ?_
  rintro e w' ⟨rfl, rfl⟩
  go_wp2_with fail
  refine (rowof_lit HR.out _).mono ?_
  rintro e W1 ⟨rfl, hb1⟩
  obtain ⟨hc, hf, hz⟩ := bcell hb1
  have HB := Lib.hid hb1
  clear hb1
  simp at hz
  go_wp2_with fail
  refine (pick_lit bn bn' (by omega) HQ.out _).mono ?_
  rintro e w' ⟨rfl, rfl⟩
  go_wp2_with fail
  refine bodyPost_ret (v := .agg #[.int .i64 (1 + k), .int .i64 0, .int .i64 0, .int .i64 0, .int .i64 (q)]) (by simp [results, Tryd.results14, go_sem, hc]) rfl ⟨rfl, ?_⟩
  repeat (with_reducible refine Both.setCell ?_ ?side _; case side => (dsimp only; omega))
  exact Both.trans ((((Both.refl w).alloc _ _).alloc _ _).alloc _ _) HB.out
set_option maxRecDepth 100000 in
set_option maxHeartbeats 4000000 in
theorem fit_Z (o d a b n k x y z q lo mi hi : Int) (s : ByteArray) (bo : -9223372036854775808 ≤ o) (bo' : o ≤ 9223372036854775807) (bd : -9223372036854775808 ≤ d) (bd' : d ≤ 9223372036854775807)
    (ba : -9223372036854775808 ≤ a) (ba' : a ≤ 9223372036854775807) (bb : -9223372036854775808 ≤ b) (bb' : b ≤ 9223372036854775807) (bn : -9223372036854775808 ≤ n) (bn' : n ≤ 9223372036854775807) (k0 : 0 ≤ k) (k1 : k < 49)
    (HK : Hid (pick o 49 = k))
    (HR : Hid (rowVals (1 + k) = [.string s, .int .u8 90, .int .i64 lo, .int .i64 mi, .int .i64 hi])) (w : World) :
    Calls Tryd.prog 14 #[.agg #[.int .i64 o, .int .i64 d, .int .i64 a, .int .i64 b, .int .i64 n]] w fun e w' => e = .returned (.agg #[.int .i64 (1 + k), .int .i64 0, .int .i64 0, .int .i64 0, .int .i64 (0)]) ∧ Both w w' := by
  have hfld := field1 s 90 lo mi hi
  go_enter Tryd.func14, Tryd.ntmps14
  go_wp2_with fail
  refine (pick_lit bo bo' (by omega) HK.out _).mono ?_
  rintro e w' ⟨rfl, rfl⟩
  go_wp2_with fail
  refine (rowof_lit HR.out _).mono ?_
  rintro e W1 ⟨rfl, hb1⟩
  obtain ⟨hc, hf, hz⟩ := bcell hb1
  have HB := Lib.hid hb1
  clear hb1
  simp at hz
  go_wp2_with fail
  refine bodyPost_ret (v := .agg #[.int .i64 (1 + k), .int .i64 0, .int .i64 0, .int .i64 0, .int .i64 (0)]) (by simp [results, Tryd.results14, go_sem, hc]) rfl ⟨rfl, ?_⟩
  repeat (with_reducible refine Both.setCell ?_ ?side _; case side => (dsimp only; omega))
  exact Both.trans ((((Both.refl w).alloc _ _).alloc _ _).alloc _ _) HB.out
end Go.Proofs.YtgcgdjmlngfpeaaDoor
