/- Package axiom's small functions. -/
import Derived.Test.YtigefdoejcggpaaNBase
import Derived.Laws.StructEq
import Derived.BigQuiet
namespace Go.Proofs.Ytigefdoejcggpaa
open Go.RowKit Ax
set_option linter.unusedVariables false
set_option linter.unusedSimpArgs false
set_option maxRecDepth 100000 in
theorem isAcc_lit {h k a n : Int} {r : Bool} (hr : isAcc (h, k, a, n) = r) (w : World) : Calls Try.prog 42 #[.agg #[.int .i64 h, .int .i64 k, .int .i64 a, .int .i64 n]] w (OneB r w) := by
  have hb := (box1 w #[.int .i64 h, .int .i64 k, .int .i64 a, .int .i64 n] 26).1
  have HB := Lib.hid hb
  clear hb
  unfold isAcc at hr
  by_cases h1 : k = 1
  · obtain rfl : r = true := by rw [← hr]; simp [h1]
    have e1 : (k == 1) = true := by simp [h1]
    clear hr h1
    go_enter Try.func42, Try.ntmps42
    go_wp2
    go_ret
    exact ⟨rfl, HB.out⟩
  · have e1 : (k == 1) = false := by simp [h1]
    obtain ⟨s, hs⟩ : ∃ s, decide (k = 2) = s := ⟨_, rfl⟩
    obtain rfl : s = r := by rw [← hr, ← hs]; simp [h1]
    have e2 : (k == 2) = s := by rw [← hs]; by_cases h : k = 2 <;> simp [h]
    clear hr hs h1
    go_enter Try.func42, Try.ntmps42
    go_wp2
    go_ret
    exact ⟨rfl, HB.out⟩
set_option maxRecDepth 100000 in
theorem isSt_lit {h k a n x : Int} {r : Bool} (hr : isSt (h, k, a, n) x = r) (w : World) : Calls Try.prog 43 #[.agg #[.int .i64 h, .int .i64 k, .int .i64 a, .int .i64 n], .int .i64 x] w (OneB r w) := by
  have hb := (box1 w #[.int .i64 h, .int .i64 k, .int .i64 a, .int .i64 n] 26).1
  have HB := Lib.hid hb
  clear hb
  unfold isSt at hr
  by_cases h1 : k = 2
  · have e1 : (k == 2) = true := by simp [h1]
    obtain ⟨s, hs⟩ : ∃ s, decide (a = x) = s := ⟨_, rfl⟩
    obtain rfl : s = r := by rw [← hr, ← hs]; simp [h1]
    have e2 : (a == x) = s := by rw [← hs]; by_cases h : a = x <;> simp [h]
    clear hr hs h1
    go_enter Try.func43, Try.ntmps43
    go_wp2
    go_ret
    exact ⟨rfl, HB.out⟩
  · obtain rfl : r = false := by rw [← hr]; simp [h1]
    have e1 : (k == 2) = false := by simp [h1]
    clear hr h1
    go_enter Try.func43, Try.ntmps43
    go_wp2
    go_ret
    exact ⟨rfl, HB.out⟩
set_option maxRecDepth 100000 in
theorem isPlc_lit {w : World} {p : Option Addr} {l : List Ev} {n c : Nat} (hl : LAt w p l) (hn : l.length = n) {i : Int} {r : Bool} (hr : plc l i = r) : Calls Try.prog 27 #[.slice p n c, .int .i64 i] w (OneB r w) := by
  unfold plc at hr
  rw [hn] at hr
  by_cases h0 : 0 ≤ i
  · by_cases h1 : i < (n : Int)
    · obtain ⟨j, rfl⟩ : ∃ j : Nat, i = j := ⟨i.toNat, by omega⟩
      obtain ⟨b, o, rfl, hb, hc⟩ := hl.get (i0 := j) (by omega)
      obtain ⟨c0, c1, c2, c3⟩ := hc j (by omega)
      have HR : Hid (isAcc ((ev l j).1, (ev l j).2.1, (ev l j).2.2.1, (ev l j).2.2.2) = r) := Lib.hid (by rw [← hr]; simp [h0, h1])
      generalize (ev l j).1 = x0 at c0 HR
      generalize (ev l j).2.1 = x1 at c1 HR
      generalize (ev l j).2.2.1 = x2 at c2 HR
      generalize (ev l j).2.2.2 = x3 at c3 HR
      clear hr hc hb hl hn
      go_enter Try.func27, Try.ntmps27
      go_wp2_with (go_at_call 42; ((with_reducible refine (isAcc_lit HR.out _).mono ?_); rintro e w2 ⟨rfl, hb⟩; have HBZ := Lib.hid hb; clear hb))
      go_ret
      exact ⟨rfl, HBZ.out⟩
    · obtain rfl : r = false := by rw [← hr]; simp [h1]
      clear hr hl hn
      go_enter Try.func27, Try.ntmps27
      go_wp2
      go_ret
      exact ⟨rfl, Bel.refl _⟩
  · obtain rfl : r = false := by rw [← hr]; simp [h0]
    clear hr hl hn
    go_enter Try.func27, Try.ntmps27
    go_wp2
    go_ret
    exact ⟨rfl, Bel.refl _⟩
set_option maxRecDepth 100000 in
theorem ahd_litq {w : World} {p : Option Addr} {l : List Ev} {n c : Nat} (hl : LAt w p l) (hn : l.length = n) {i k : Nat} (hi : i < n) (hk : k < n) {r : Bool} (hr : ahd l i k = r) : Calls Try.prog 44 #[.slice p n c, .int .i64 (i : Int), .int .i64 (k : Int)] w fun e w' => e = .returned (.bool r) ∧ ∃ q, w' = w.drewN q := by
  unfold ahd at hr
  by_cases h0 : (i : Int) < k
  · obtain ⟨b, o, rfl, hb, hc⟩ := hl.get (i0 := i) (by omega)
    obtain ⟨c0, -, -, -⟩ := hc i (by omega)
    obtain ⟨d0, -, -, -⟩ := hc k (by omega)
    obtain ⟨s, hs⟩ : ∃ s, decide ((ev l i).1 = (ev l k).1) = s := ⟨_, rfl⟩
    obtain rfl : s = r := by rw [← hr, ← hs]; simp [h0]
    have e2 : ((ev l i).1 == (ev l k).1) = s := by rw [← hs]; by_cases h : (ev l i).1 = (ev l k).1 <;> simp [h]
    generalize (ev l i).1 = x0 at c0 e2
    generalize (ev l k).1 = y0 at d0 e2
    have hi2 : (i : Int) < n := by omega
    have hk2 : (k : Int) < n := by omega
    clear hr hc hb hl hn hs hi hk
    go_enter Try.func44, Try.ntmps44
    go_wp2
    go_quiet (fail)
    go_wp2
    go_ret
    exact ⟨rfl, _, rfl⟩
  · obtain rfl : r = false := by rw [← hr]; simp [h0]
    have h0' : ¬ i < k := by omega
    have h0d : decide ((i : Int) < (k : Int)) = false := by simp; omega
    clear hr hl hn
    go_enter Try.func44, Try.ntmps44
    go_wp2
    go_quiet (fail)
    go_wp2
    go_ret
    exact ⟨rfl, _, rfl⟩
theorem ahd_lit {w : World} {p : Option Addr} {l : List Ev} {n c : Nat} (hl : LAt w p l) (hn : l.length = n) {i k : Nat} (hi : i < n) (hk : k < n) {r : Bool} (hr : ahd l i k = r) : Calls Try.prog 44 #[.slice p n c, .int .i64 (i : Int), .int .i64 (k : Int)] w (OneB r w) := drewN_ob (ahd_litq hl hn hi hk hr)
end Go.Proofs.Ytigefdoejcggpaa
