/- What package code's fields come to, by the plain functions: words of right instructions, and the instruction that a word would be. No walk in sight. -/
import Derived.Test.YtjjbfeoidceiiaaDLay
namespace Go.Proofs.Ytjjbfeoidceiiaa
open Go.RowKit Rv
set_option linter.unusedVariables false
theorem wrap_id {x : Int} (h1 : -9223372036854775808 ≤ x) (h2 : x ≤ 9223372036854775807) : IntKind.i64.wrap x = x := by
  rw [IntKind.wrap_i64]
  omega
theorem maskV_is (n : Nat) (h : n ≤ 32) : maskV (n : Int) = 2 ^ n - 1 := by
  have h1 : (2 : Nat) ^ n ≤ 2 ^ 32 := Nat.pow_le_pow_right (by omega) h
  have h3 := two_pow_pos' n
  unfold maskV wrap64
  rw [Int.toNat_natCast, two_pow_cast]
  omega
/-- one field -/
theorem layS_is {d a b n u v : Int} {p f pos wd : Nat} {A W F : Int} (hA : A = 2 ^ pos) (hW : W = 2 ^ wd) (hF : F = 2 ^ f) (hw : wd ≤ 32) (hv : partV d a b n p = v) (hu : 0 ≤ u) (hu' : u < 4294967296) (hs : ∀ t, 0 ≤ t → t < W → t * A < 4294967296) (h0 : u / A % W = 0) :
    layS d a b n u ⟨p, f, pos, wd⟩ = u + v / F % W * A := by
  have hWp : 0 < W := by rw [hW, two_pow_cast]; have := two_pow_pos' wd; omega
  have hAp : 0 < A := by rw [hA, two_pow_cast]; have := two_pow_pos' pos; omega
  have t0 : 0 ≤ v / F % W := Int.emod_nonneg _ (by omega)
  have t1 : v / F % W < W := Int.emod_lt_of_pos _ hWp
  have t2 := hs _ t0 t1
  have t3 : 0 ≤ v / F % W * A := Int.mul_nonneg t0 (by omega)
  unfold layS
  simp only [hv, Int.toNat_natCast]
  rw [maskV_is wd hw, ← hF, and_mask _ wd hw, ← hW, ← hA, wrap_id (by omega) (by omega)]
  exact or_field pos wd hA hW hu hu' t0 t1 t2 h0
/-- a piece that fills nothing -/
theorem layS_none {d a b n u : Int} (hu : 0 ≤ u) (hu' : u < 4294967296) : layS d a b n u ⟨0, 0, 0, 0⟩ = u := by
  have := layS_is (d := d) (a := a) (b := b) (n := n) (u := u) (v := d) (p := 0) (f := 0) (pos := 0) (wd := 0) (A := 1) (W := 1) (F := 1) rfl rfl rfl (by omega) rfl hu hu' (by intro t h1 h2; omega) (by omega)
  simp only [Int.emod_one, Int.zero_mul, Int.add_zero] at this
  exact this
theorem lay6 (d a b n : Int) (x0 x1 x2 x3 x4 x5 : Pc) : layK d a b n [x0, x1, x2, x3, x4, x5] 6 = layS d a b n (layS d a b n (layS d a b n (layS d a b n (layS d a b n (layS d a b n 0 x0) x1) x2) x3) x4) x5 := rfl
theorem or_zero (u : Int) (h1 : -9223372036854775808 ≤ u) (h2 : u ≤ 9223372036854775807) : bits .or .i64 u 0 = u := by
  rw [or_i64, show BitVec.ofInt 64 0 = 0#64 from rfl, BitVec.or_zero, BitVec.toInt_ofInt, Int.bmod_def]
  omega
theorem or_fold (d a b n B : Int) (l : List Pc) : ∀ u, bits .or .i64 B (l.foldl (layS d a b n) u) = l.foldl (layS d a b n) (bits .or .i64 B u) := by
  induction l with
  | nil => intro u; rfl
  | cons x l ih =>
    intro u
    rw [List.foldl_cons, List.foldl_cons, ih]
    congr 1
    unfold layS
    rw [or_assoc']
theorem or_lay (d a b n B : Int) (ps : List Pc) (k : Nat) (h1 : -9223372036854775808 ≤ B) (h2 : B ≤ 9223372036854775807) : bits .or .i64 B (layK d a b n ps k) = (ps.take k).foldl (layS d a b n) B := by
  unfold layK
  rw [or_fold, or_zero B h1 h2]
theorem bitsV_is {lo mi hi se : Int} (h1 : 0 ≤ lo) (h2 : lo < 128) (h3 : 0 ≤ mi) (h4 : mi < 8) (h5 : 0 ≤ hi) (h6 : hi < 128) (h7 : 0 ≤ se) (h8 : se < 32) : bitsV lo mi hi se = lo + mi * 4096 + se * 1048576 + hi * 33554432 := by
  unfold bitsV
  rw [or_field (x := lo) (f := mi) 12 3 (A := 4096) (W := 8) rfl rfl (by omega) (by omega) (by omega) (by omega) (by omega) (by omega),
    or_field (x := lo + mi * 4096) (f := se) 20 5 (A := 1048576) (W := 32) rfl rfl (by omega) (by omega) (by omega) (by omega) (by omega) (by omega),
    or_field (x := lo + mi * 4096 + se * 1048576) (f := hi) 25 7 (A := 33554432) (W := 128) rfl rfl (by omega) (by omega) (by omega) (by omega) (by omega) (by omega)]
def rest2 (op : Int) : Bool := decide ((form op = 85 ∨ form op = 74 → mid op = 0 ∧ high op = 0) ∧ (form op = 83 ∨ form op = 66 → high op = 0))
theorem bounds2 {op : Int} (h1 : 1 ≤ op) (h2 : op ≤ 49) : (form op = 85 ∨ form op = 74 → mid op = 0 ∧ high op = 0) ∧ (form op = 83 ∨ form op = 66 → high op = 0) :=
  of_decide_eq_true (of_table (p := rest2) (by decide +kernel) h1 h2)
theorem six_R : six (pcs 82) = [⟨0, 0, 7, 5⟩, ⟨1, 0, 15, 5⟩, ⟨2, 0, 20, 5⟩, ⟨0, 0, 0, 0⟩, ⟨0, 0, 0, 0⟩, ⟨0, 0, 0, 0⟩] := rfl
theorem six_I : six (pcs 73) = [⟨0, 0, 7, 5⟩, ⟨1, 0, 15, 5⟩, ⟨3, 0, 20, 12⟩, ⟨0, 0, 0, 0⟩, ⟨0, 0, 0, 0⟩, ⟨0, 0, 0, 0⟩] := rfl
theorem six_C : six (pcs 67) = [⟨0, 0, 7, 5⟩, ⟨1, 0, 15, 5⟩, ⟨3, 0, 20, 12⟩, ⟨0, 0, 0, 0⟩, ⟨0, 0, 0, 0⟩, ⟨0, 0, 0, 0⟩] := rfl
theorem six_H : six (pcs 72) = [⟨0, 0, 7, 5⟩, ⟨1, 0, 15, 5⟩, ⟨3, 0, 20, 5⟩, ⟨0, 0, 0, 0⟩, ⟨0, 0, 0, 0⟩, ⟨0, 0, 0, 0⟩] := rfl
theorem six_S : six (pcs 83) = [⟨1, 0, 15, 5⟩, ⟨2, 0, 20, 5⟩, ⟨3, 0, 7, 5⟩, ⟨3, 5, 25, 7⟩, ⟨0, 0, 0, 0⟩, ⟨0, 0, 0, 0⟩] := rfl
theorem six_B : six (pcs 66) = [⟨1, 0, 15, 5⟩, ⟨2, 0, 20, 5⟩, ⟨3, 11, 7, 1⟩, ⟨3, 1, 8, 4⟩, ⟨3, 5, 25, 6⟩, ⟨3, 12, 31, 1⟩] := rfl
theorem six_U : six (pcs 85) = [⟨0, 0, 7, 5⟩, ⟨3, 0, 12, 20⟩, ⟨0, 0, 0, 0⟩, ⟨0, 0, 0, 0⟩, ⟨0, 0, 0, 0⟩, ⟨0, 0, 0, 0⟩] := rfl
theorem six_J : six (pcs 74) = [⟨0, 0, 7, 5⟩, ⟨3, 12, 12, 8⟩, ⟨3, 11, 20, 1⟩, ⟨3, 1, 21, 10⟩, ⟨3, 20, 31, 1⟩, ⟨0, 0, 0, 0⟩] := rfl
theorem six_F : six (pcs 70) = [⟨3, 0, 20, 8⟩, ⟨0, 0, 0, 0⟩, ⟨0, 0, 0, 0⟩, ⟨0, 0, 0, 0⟩, ⟨0, 0, 0, 0⟩, ⟨0, 0, 0, 0⟩] := rfl
theorem six_Z : six (pcs 90) = [⟨0, 0, 0, 0⟩, ⟨0, 0, 0, 0⟩, ⟨0, 0, 0, 0⟩, ⟨0, 0, 0, 0⟩, ⟨0, 0, 0, 0⟩, ⟨0, 0, 0, 0⟩] := rfl
theorem six_L : six (pcs 76) = [⟨0, 0, 7, 5⟩, ⟨1, 0, 15, 5⟩, ⟨3, 0, 25, 2⟩, ⟨0, 0, 0, 0⟩, ⟨0, 0, 0, 0⟩, ⟨0, 0, 0, 0⟩] := rfl
theorem six_A : six (pcs 65) = [⟨0, 0, 7, 5⟩, ⟨1, 0, 15, 5⟩, ⟨2, 0, 20, 5⟩, ⟨3, 0, 25, 2⟩, ⟨0, 0, 0, 0⟩, ⟨0, 0, 0, 0⟩] := rfl
theorem layB_R {l m h e d a b n : Int} (l1 : 0 ≤ l) (l2 : l < 128) (m1 : 0 ≤ m) (m2 : m < 8) (h1 : 0 ≤ h) (h2 : h < 128) (e1 : 0 ≤ e) (e2 : e < 32) (he : e = 0) :
    ((six (pcs 82)).take 6).foldl (layS d a b n) (l + m * 4096 + e * 1048576 + h * 33554432) = l + m * 4096 + e * 1048576 + h * 33554432 + d / 1 % 32 * 128 + a / 1 % 32 * 32768 + b / 1 % 32 * 1048576 := by
  rw [six_R]
  have b0 : 0 ≤ d / 1 % 32 ∧ d / 1 % 32 < 32 := by omega
  have b1 : 0 ≤ a / 1 % 32 ∧ a / 1 % 32 < 32 := by omega
  have b2 : 0 ≤ b / 1 % 32 ∧ b / 1 % 32 < 32 := by omega
  have s0 : layS d a b n (l + m * 4096 + e * 1048576 + h * 33554432) ⟨0, 0, 7, 5⟩ = l + m * 4096 + e * 1048576 + h * 33554432 + d / 1 % 32 * 128 := layS_is (v := d) (p := 0) (f := 0) (pos := 7) (wd := 5) (A := 128) (W := 32) (F := 1) rfl rfl rfl (by omega) rfl (by omega) (by omega) (by intro t t1 t2; omega) (by omega)
  have s1 : layS d a b n (l + m * 4096 + e * 1048576 + h * 33554432 + d / 1 % 32 * 128) ⟨1, 0, 15, 5⟩ = l + m * 4096 + e * 1048576 + h * 33554432 + d / 1 % 32 * 128 + a / 1 % 32 * 32768 := layS_is (v := a) (p := 1) (f := 0) (pos := 15) (wd := 5) (A := 32768) (W := 32) (F := 1) rfl rfl rfl (by omega) rfl (by clear s0; generalize d / 1 % 32 = x0 at *; omega) (by clear s0; generalize d / 1 % 32 = x0 at *; omega) (by intro t t1 t2; omega) (by clear s0; generalize d / 1 % 32 = x0 at *; omega)
  have s2 : layS d a b n (l + m * 4096 + e * 1048576 + h * 33554432 + d / 1 % 32 * 128 + a / 1 % 32 * 32768) ⟨2, 0, 20, 5⟩ = l + m * 4096 + e * 1048576 + h * 33554432 + d / 1 % 32 * 128 + a / 1 % 32 * 32768 + b / 1 % 32 * 1048576 := layS_is (v := b) (p := 2) (f := 0) (pos := 20) (wd := 5) (A := 1048576) (W := 32) (F := 1) rfl rfl rfl (by omega) rfl (by clear s0 s1; generalize d / 1 % 32 = x0 at *; generalize a / 1 % 32 = x1 at *; omega) (by clear s0 s1; generalize d / 1 % 32 = x0 at *; generalize a / 1 % 32 = x1 at *; omega) (by intro t t1 t2; omega) (by clear s0 s1; generalize d / 1 % 32 = x0 at *; generalize a / 1 % 32 = x1 at *; omega)
  have sz : layS d a b n (l + m * 4096 + e * 1048576 + h * 33554432 + d / 1 % 32 * 128 + a / 1 % 32 * 32768 + b / 1 % 32 * 1048576) ⟨0, 0, 0, 0⟩ = l + m * 4096 + e * 1048576 + h * 33554432 + d / 1 % 32 * 128 + a / 1 % 32 * 32768 + b / 1 % 32 * 1048576 := layS_none (by clear s0 s1 s2; generalize d / 1 % 32 = x0 at *; generalize a / 1 % 32 = x1 at *; generalize b / 1 % 32 = x2 at *; omega) (by clear s0 s1 s2; generalize d / 1 % 32 = x0 at *; generalize a / 1 % 32 = x1 at *; generalize b / 1 % 32 = x2 at *; omega)
  simp only [List.take_succ_cons, List.take_zero, List.foldl_cons, List.foldl_nil]
  rw [s0, s1, s2, sz, sz, sz]
theorem layB_I {l m h e d a b n : Int} (l1 : 0 ≤ l) (l2 : l < 128) (m1 : 0 ≤ m) (m2 : m < 8) (h1 : 0 ≤ h) (h2 : h < 128) (e1 : 0 ≤ e) (e2 : e < 32) (he : e = 0) (hh : h = 0) :
    ((six (pcs 73)).take 6).foldl (layS d a b n) (l + m * 4096 + e * 1048576 + h * 33554432) = l + m * 4096 + e * 1048576 + h * 33554432 + d / 1 % 32 * 128 + a / 1 % 32 * 32768 + n / 1 % 4096 * 1048576 := by
  rw [six_I]
  have b0 : 0 ≤ d / 1 % 32 ∧ d / 1 % 32 < 32 := by omega
  have b1 : 0 ≤ a / 1 % 32 ∧ a / 1 % 32 < 32 := by omega
  have b2 : 0 ≤ n / 1 % 4096 ∧ n / 1 % 4096 < 4096 := by omega
  have s0 : layS d a b n (l + m * 4096 + e * 1048576 + h * 33554432) ⟨0, 0, 7, 5⟩ = l + m * 4096 + e * 1048576 + h * 33554432 + d / 1 % 32 * 128 := layS_is (v := d) (p := 0) (f := 0) (pos := 7) (wd := 5) (A := 128) (W := 32) (F := 1) rfl rfl rfl (by omega) rfl (by omega) (by omega) (by intro t t1 t2; omega) (by omega)
  have s1 : layS d a b n (l + m * 4096 + e * 1048576 + h * 33554432 + d / 1 % 32 * 128) ⟨1, 0, 15, 5⟩ = l + m * 4096 + e * 1048576 + h * 33554432 + d / 1 % 32 * 128 + a / 1 % 32 * 32768 := layS_is (v := a) (p := 1) (f := 0) (pos := 15) (wd := 5) (A := 32768) (W := 32) (F := 1) rfl rfl rfl (by omega) rfl (by clear s0; generalize d / 1 % 32 = x0 at *; omega) (by clear s0; generalize d / 1 % 32 = x0 at *; omega) (by intro t t1 t2; omega) (by clear s0; generalize d / 1 % 32 = x0 at *; omega)
  have s2 : layS d a b n (l + m * 4096 + e * 1048576 + h * 33554432 + d / 1 % 32 * 128 + a / 1 % 32 * 32768) ⟨3, 0, 20, 12⟩ = l + m * 4096 + e * 1048576 + h * 33554432 + d / 1 % 32 * 128 + a / 1 % 32 * 32768 + n / 1 % 4096 * 1048576 := layS_is (v := n) (p := 3) (f := 0) (pos := 20) (wd := 12) (A := 1048576) (W := 4096) (F := 1) rfl rfl rfl (by omega) rfl (by clear s0 s1; generalize d / 1 % 32 = x0 at *; generalize a / 1 % 32 = x1 at *; omega) (by clear s0 s1; generalize d / 1 % 32 = x0 at *; generalize a / 1 % 32 = x1 at *; omega) (by intro t t1 t2; omega) (by clear s0 s1; generalize d / 1 % 32 = x0 at *; generalize a / 1 % 32 = x1 at *; omega)
  have sz : layS d a b n (l + m * 4096 + e * 1048576 + h * 33554432 + d / 1 % 32 * 128 + a / 1 % 32 * 32768 + n / 1 % 4096 * 1048576) ⟨0, 0, 0, 0⟩ = l + m * 4096 + e * 1048576 + h * 33554432 + d / 1 % 32 * 128 + a / 1 % 32 * 32768 + n / 1 % 4096 * 1048576 := layS_none (by clear s0 s1 s2; generalize d / 1 % 32 = x0 at *; generalize a / 1 % 32 = x1 at *; generalize n / 1 % 4096 = x2 at *; omega) (by clear s0 s1 s2; generalize d / 1 % 32 = x0 at *; generalize a / 1 % 32 = x1 at *; generalize n / 1 % 4096 = x2 at *; omega)
  simp only [List.take_succ_cons, List.take_zero, List.foldl_cons, List.foldl_nil]
  rw [s0, s1, s2, sz, sz, sz]
theorem layB_C {l m h e d a b n : Int} (l1 : 0 ≤ l) (l2 : l < 128) (m1 : 0 ≤ m) (m2 : m < 8) (h1 : 0 ≤ h) (h2 : h < 128) (e1 : 0 ≤ e) (e2 : e < 32) (he : e = 0) (hh : h = 0) :
    ((six (pcs 67)).take 6).foldl (layS d a b n) (l + m * 4096 + e * 1048576 + h * 33554432) = l + m * 4096 + e * 1048576 + h * 33554432 + d / 1 % 32 * 128 + a / 1 % 32 * 32768 + n / 1 % 4096 * 1048576 := by
  rw [six_C]
  have b0 : 0 ≤ d / 1 % 32 ∧ d / 1 % 32 < 32 := by omega
  have b1 : 0 ≤ a / 1 % 32 ∧ a / 1 % 32 < 32 := by omega
  have b2 : 0 ≤ n / 1 % 4096 ∧ n / 1 % 4096 < 4096 := by omega
  have s0 : layS d a b n (l + m * 4096 + e * 1048576 + h * 33554432) ⟨0, 0, 7, 5⟩ = l + m * 4096 + e * 1048576 + h * 33554432 + d / 1 % 32 * 128 := layS_is (v := d) (p := 0) (f := 0) (pos := 7) (wd := 5) (A := 128) (W := 32) (F := 1) rfl rfl rfl (by omega) rfl (by omega) (by omega) (by intro t t1 t2; omega) (by omega)
  have s1 : layS d a b n (l + m * 4096 + e * 1048576 + h * 33554432 + d / 1 % 32 * 128) ⟨1, 0, 15, 5⟩ = l + m * 4096 + e * 1048576 + h * 33554432 + d / 1 % 32 * 128 + a / 1 % 32 * 32768 := layS_is (v := a) (p := 1) (f := 0) (pos := 15) (wd := 5) (A := 32768) (W := 32) (F := 1) rfl rfl rfl (by omega) rfl (by clear s0; generalize d / 1 % 32 = x0 at *; omega) (by clear s0; generalize d / 1 % 32 = x0 at *; omega) (by intro t t1 t2; omega) (by clear s0; generalize d / 1 % 32 = x0 at *; omega)
  have s2 : layS d a b n (l + m * 4096 + e * 1048576 + h * 33554432 + d / 1 % 32 * 128 + a / 1 % 32 * 32768) ⟨3, 0, 20, 12⟩ = l + m * 4096 + e * 1048576 + h * 33554432 + d / 1 % 32 * 128 + a / 1 % 32 * 32768 + n / 1 % 4096 * 1048576 := layS_is (v := n) (p := 3) (f := 0) (pos := 20) (wd := 12) (A := 1048576) (W := 4096) (F := 1) rfl rfl rfl (by omega) rfl (by clear s0 s1; generalize d / 1 % 32 = x0 at *; generalize a / 1 % 32 = x1 at *; omega) (by clear s0 s1; generalize d / 1 % 32 = x0 at *; generalize a / 1 % 32 = x1 at *; omega) (by intro t t1 t2; omega) (by clear s0 s1; generalize d / 1 % 32 = x0 at *; generalize a / 1 % 32 = x1 at *; omega)
  have sz : layS d a b n (l + m * 4096 + e * 1048576 + h * 33554432 + d / 1 % 32 * 128 + a / 1 % 32 * 32768 + n / 1 % 4096 * 1048576) ⟨0, 0, 0, 0⟩ = l + m * 4096 + e * 1048576 + h * 33554432 + d / 1 % 32 * 128 + a / 1 % 32 * 32768 + n / 1 % 4096 * 1048576 := layS_none (by clear s0 s1 s2; generalize d / 1 % 32 = x0 at *; generalize a / 1 % 32 = x1 at *; generalize n / 1 % 4096 = x2 at *; omega) (by clear s0 s1 s2; generalize d / 1 % 32 = x0 at *; generalize a / 1 % 32 = x1 at *; generalize n / 1 % 4096 = x2 at *; omega)
  simp only [List.take_succ_cons, List.take_zero, List.foldl_cons, List.foldl_nil]
  rw [s0, s1, s2, sz, sz, sz]
theorem layB_H {l m h e d a b n : Int} (l1 : 0 ≤ l) (l2 : l < 128) (m1 : 0 ≤ m) (m2 : m < 8) (h1 : 0 ≤ h) (h2 : h < 128) (e1 : 0 ≤ e) (e2 : e < 32) (he : e = 0) :
    ((six (pcs 72)).take 6).foldl (layS d a b n) (l + m * 4096 + e * 1048576 + h * 33554432) = l + m * 4096 + e * 1048576 + h * 33554432 + d / 1 % 32 * 128 + a / 1 % 32 * 32768 + n / 1 % 32 * 1048576 := by
  rw [six_H]
  have b0 : 0 ≤ d / 1 % 32 ∧ d / 1 % 32 < 32 := by omega
  have b1 : 0 ≤ a / 1 % 32 ∧ a / 1 % 32 < 32 := by omega
  have b2 : 0 ≤ n / 1 % 32 ∧ n / 1 % 32 < 32 := by omega
  have s0 : layS d a b n (l + m * 4096 + e * 1048576 + h * 33554432) ⟨0, 0, 7, 5⟩ = l + m * 4096 + e * 1048576 + h * 33554432 + d / 1 % 32 * 128 := layS_is (v := d) (p := 0) (f := 0) (pos := 7) (wd := 5) (A := 128) (W := 32) (F := 1) rfl rfl rfl (by omega) rfl (by omega) (by omega) (by intro t t1 t2; omega) (by omega)
  have s1 : layS d a b n (l + m * 4096 + e * 1048576 + h * 33554432 + d / 1 % 32 * 128) ⟨1, 0, 15, 5⟩ = l + m * 4096 + e * 1048576 + h * 33554432 + d / 1 % 32 * 128 + a / 1 % 32 * 32768 := layS_is (v := a) (p := 1) (f := 0) (pos := 15) (wd := 5) (A := 32768) (W := 32) (F := 1) rfl rfl rfl (by omega) rfl (by clear s0; generalize d / 1 % 32 = x0 at *; omega) (by clear s0; generalize d / 1 % 32 = x0 at *; omega) (by intro t t1 t2; omega) (by clear s0; generalize d / 1 % 32 = x0 at *; omega)
  have s2 : layS d a b n (l + m * 4096 + e * 1048576 + h * 33554432 + d / 1 % 32 * 128 + a / 1 % 32 * 32768) ⟨3, 0, 20, 5⟩ = l + m * 4096 + e * 1048576 + h * 33554432 + d / 1 % 32 * 128 + a / 1 % 32 * 32768 + n / 1 % 32 * 1048576 := layS_is (v := n) (p := 3) (f := 0) (pos := 20) (wd := 5) (A := 1048576) (W := 32) (F := 1) rfl rfl rfl (by omega) rfl (by clear s0 s1; generalize d / 1 % 32 = x0 at *; generalize a / 1 % 32 = x1 at *; omega) (by clear s0 s1; generalize d / 1 % 32 = x0 at *; generalize a / 1 % 32 = x1 at *; omega) (by intro t t1 t2; omega) (by clear s0 s1; generalize d / 1 % 32 = x0 at *; generalize a / 1 % 32 = x1 at *; omega)
  have sz : layS d a b n (l + m * 4096 + e * 1048576 + h * 33554432 + d / 1 % 32 * 128 + a / 1 % 32 * 32768 + n / 1 % 32 * 1048576) ⟨0, 0, 0, 0⟩ = l + m * 4096 + e * 1048576 + h * 33554432 + d / 1 % 32 * 128 + a / 1 % 32 * 32768 + n / 1 % 32 * 1048576 := layS_none (by clear s0 s1 s2; generalize d / 1 % 32 = x0 at *; generalize a / 1 % 32 = x1 at *; generalize n / 1 % 32 = x2 at *; omega) (by clear s0 s1 s2; generalize d / 1 % 32 = x0 at *; generalize a / 1 % 32 = x1 at *; generalize n / 1 % 32 = x2 at *; omega)
  simp only [List.take_succ_cons, List.take_zero, List.foldl_cons, List.foldl_nil]
  rw [s0, s1, s2, sz, sz, sz]
theorem layB_S {l m h e d a b n : Int} (l1 : 0 ≤ l) (l2 : l < 128) (m1 : 0 ≤ m) (m2 : m < 8) (h1 : 0 ≤ h) (h2 : h < 128) (e1 : 0 ≤ e) (e2 : e < 32) (he : e = 0) (hh : h = 0) :
    ((six (pcs 83)).take 6).foldl (layS d a b n) (l + m * 4096 + e * 1048576 + h * 33554432) = l + m * 4096 + e * 1048576 + h * 33554432 + a / 1 % 32 * 32768 + b / 1 % 32 * 1048576 + n / 1 % 32 * 128 + n / 32 % 128 * 33554432 := by
  rw [six_S]
  have b0 : 0 ≤ a / 1 % 32 ∧ a / 1 % 32 < 32 := by omega
  have b1 : 0 ≤ b / 1 % 32 ∧ b / 1 % 32 < 32 := by omega
  have b2 : 0 ≤ n / 1 % 32 ∧ n / 1 % 32 < 32 := by omega
  have b3 : 0 ≤ n / 32 % 128 ∧ n / 32 % 128 < 128 := by omega
  have s0 : layS d a b n (l + m * 4096 + e * 1048576 + h * 33554432) ⟨1, 0, 15, 5⟩ = l + m * 4096 + e * 1048576 + h * 33554432 + a / 1 % 32 * 32768 := layS_is (v := a) (p := 1) (f := 0) (pos := 15) (wd := 5) (A := 32768) (W := 32) (F := 1) rfl rfl rfl (by omega) rfl (by omega) (by omega) (by intro t t1 t2; omega) (by omega)
  have s1 : layS d a b n (l + m * 4096 + e * 1048576 + h * 33554432 + a / 1 % 32 * 32768) ⟨2, 0, 20, 5⟩ = l + m * 4096 + e * 1048576 + h * 33554432 + a / 1 % 32 * 32768 + b / 1 % 32 * 1048576 := layS_is (v := b) (p := 2) (f := 0) (pos := 20) (wd := 5) (A := 1048576) (W := 32) (F := 1) rfl rfl rfl (by omega) rfl (by clear s0; generalize a / 1 % 32 = x0 at *; omega) (by clear s0; generalize a / 1 % 32 = x0 at *; omega) (by intro t t1 t2; omega) (by clear s0; generalize a / 1 % 32 = x0 at *; omega)
  have s2 : layS d a b n (l + m * 4096 + e * 1048576 + h * 33554432 + a / 1 % 32 * 32768 + b / 1 % 32 * 1048576) ⟨3, 0, 7, 5⟩ = l + m * 4096 + e * 1048576 + h * 33554432 + a / 1 % 32 * 32768 + b / 1 % 32 * 1048576 + n / 1 % 32 * 128 := layS_is (v := n) (p := 3) (f := 0) (pos := 7) (wd := 5) (A := 128) (W := 32) (F := 1) rfl rfl rfl (by omega) rfl (by clear s0 s1; generalize a / 1 % 32 = x0 at *; generalize b / 1 % 32 = x1 at *; omega) (by clear s0 s1; generalize a / 1 % 32 = x0 at *; generalize b / 1 % 32 = x1 at *; omega) (by intro t t1 t2; omega) (by clear s0 s1; generalize a / 1 % 32 = x0 at *; generalize b / 1 % 32 = x1 at *; omega)
  have s3 : layS d a b n (l + m * 4096 + e * 1048576 + h * 33554432 + a / 1 % 32 * 32768 + b / 1 % 32 * 1048576 + n / 1 % 32 * 128) ⟨3, 5, 25, 7⟩ = l + m * 4096 + e * 1048576 + h * 33554432 + a / 1 % 32 * 32768 + b / 1 % 32 * 1048576 + n / 1 % 32 * 128 + n / 32 % 128 * 33554432 := layS_is (v := n) (p := 3) (f := 5) (pos := 25) (wd := 7) (A := 33554432) (W := 128) (F := 32) rfl rfl rfl (by omega) rfl (by clear s0 s1 s2; generalize a / 1 % 32 = x0 at *; generalize b / 1 % 32 = x1 at *; generalize n / 1 % 32 = x2 at *; omega) (by clear s0 s1 s2; generalize a / 1 % 32 = x0 at *; generalize b / 1 % 32 = x1 at *; generalize n / 1 % 32 = x2 at *; omega) (by intro t t1 t2; omega) (by clear s0 s1 s2; generalize a / 1 % 32 = x0 at *; generalize b / 1 % 32 = x1 at *; generalize n / 1 % 32 = x2 at *; omega)
  have sz : layS d a b n (l + m * 4096 + e * 1048576 + h * 33554432 + a / 1 % 32 * 32768 + b / 1 % 32 * 1048576 + n / 1 % 32 * 128 + n / 32 % 128 * 33554432) ⟨0, 0, 0, 0⟩ = l + m * 4096 + e * 1048576 + h * 33554432 + a / 1 % 32 * 32768 + b / 1 % 32 * 1048576 + n / 1 % 32 * 128 + n / 32 % 128 * 33554432 := layS_none (by clear s0 s1 s2 s3; generalize a / 1 % 32 = x0 at *; generalize b / 1 % 32 = x1 at *; generalize n / 1 % 32 = x2 at *; generalize n / 32 % 128 = x3 at *; omega) (by clear s0 s1 s2 s3; generalize a / 1 % 32 = x0 at *; generalize b / 1 % 32 = x1 at *; generalize n / 1 % 32 = x2 at *; generalize n / 32 % 128 = x3 at *; omega)
  simp only [List.take_succ_cons, List.take_zero, List.foldl_cons, List.foldl_nil]
  rw [s0, s1, s2, s3, sz, sz]
theorem layB_B {l m h e d a b n : Int} (l1 : 0 ≤ l) (l2 : l < 128) (m1 : 0 ≤ m) (m2 : m < 8) (h1 : 0 ≤ h) (h2 : h < 128) (e1 : 0 ≤ e) (e2 : e < 32) (he : e = 0) (hh : h = 0) :
    ((six (pcs 66)).take 6).foldl (layS d a b n) (l + m * 4096 + e * 1048576 + h * 33554432) = l + m * 4096 + e * 1048576 + h * 33554432 + a / 1 % 32 * 32768 + b / 1 % 32 * 1048576 + n / 2048 % 2 * 128 + n / 2 % 16 * 256 + n / 32 % 64 * 33554432 + n / 4096 % 2 * 2147483648 := by
  rw [six_B]
  have b0 : 0 ≤ a / 1 % 32 ∧ a / 1 % 32 < 32 := by omega
  have b1 : 0 ≤ b / 1 % 32 ∧ b / 1 % 32 < 32 := by omega
  have b2 : 0 ≤ n / 2048 % 2 ∧ n / 2048 % 2 < 2 := by omega
  have b3 : 0 ≤ n / 2 % 16 ∧ n / 2 % 16 < 16 := by omega
  have b4 : 0 ≤ n / 32 % 64 ∧ n / 32 % 64 < 64 := by omega
  have b5 : 0 ≤ n / 4096 % 2 ∧ n / 4096 % 2 < 2 := by omega
  have s0 : layS d a b n (l + m * 4096 + e * 1048576 + h * 33554432) ⟨1, 0, 15, 5⟩ = l + m * 4096 + e * 1048576 + h * 33554432 + a / 1 % 32 * 32768 := layS_is (v := a) (p := 1) (f := 0) (pos := 15) (wd := 5) (A := 32768) (W := 32) (F := 1) rfl rfl rfl (by omega) rfl (by omega) (by omega) (by intro t t1 t2; omega) (by omega)
  have s1 : layS d a b n (l + m * 4096 + e * 1048576 + h * 33554432 + a / 1 % 32 * 32768) ⟨2, 0, 20, 5⟩ = l + m * 4096 + e * 1048576 + h * 33554432 + a / 1 % 32 * 32768 + b / 1 % 32 * 1048576 := layS_is (v := b) (p := 2) (f := 0) (pos := 20) (wd := 5) (A := 1048576) (W := 32) (F := 1) rfl rfl rfl (by omega) rfl (by clear s0; generalize a / 1 % 32 = x0 at *; omega) (by clear s0; generalize a / 1 % 32 = x0 at *; omega) (by intro t t1 t2; omega) (by clear s0; generalize a / 1 % 32 = x0 at *; omega)
  have s2 : layS d a b n (l + m * 4096 + e * 1048576 + h * 33554432 + a / 1 % 32 * 32768 + b / 1 % 32 * 1048576) ⟨3, 11, 7, 1⟩ = l + m * 4096 + e * 1048576 + h * 33554432 + a / 1 % 32 * 32768 + b / 1 % 32 * 1048576 + n / 2048 % 2 * 128 := layS_is (v := n) (p := 3) (f := 11) (pos := 7) (wd := 1) (A := 128) (W := 2) (F := 2048) rfl rfl rfl (by omega) rfl (by clear s0 s1; generalize a / 1 % 32 = x0 at *; generalize b / 1 % 32 = x1 at *; omega) (by clear s0 s1; generalize a / 1 % 32 = x0 at *; generalize b / 1 % 32 = x1 at *; omega) (by intro t t1 t2; omega) (by clear s0 s1; generalize a / 1 % 32 = x0 at *; generalize b / 1 % 32 = x1 at *; omega)
  have s3 : layS d a b n (l + m * 4096 + e * 1048576 + h * 33554432 + a / 1 % 32 * 32768 + b / 1 % 32 * 1048576 + n / 2048 % 2 * 128) ⟨3, 1, 8, 4⟩ = l + m * 4096 + e * 1048576 + h * 33554432 + a / 1 % 32 * 32768 + b / 1 % 32 * 1048576 + n / 2048 % 2 * 128 + n / 2 % 16 * 256 := layS_is (v := n) (p := 3) (f := 1) (pos := 8) (wd := 4) (A := 256) (W := 16) (F := 2) rfl rfl rfl (by omega) rfl (by clear s0 s1 s2; generalize a / 1 % 32 = x0 at *; generalize b / 1 % 32 = x1 at *; generalize n / 2048 % 2 = x2 at *; omega) (by clear s0 s1 s2; generalize a / 1 % 32 = x0 at *; generalize b / 1 % 32 = x1 at *; generalize n / 2048 % 2 = x2 at *; omega) (by intro t t1 t2; omega) (by clear s0 s1 s2; generalize a / 1 % 32 = x0 at *; generalize b / 1 % 32 = x1 at *; generalize n / 2048 % 2 = x2 at *; omega)
  have s4 : layS d a b n (l + m * 4096 + e * 1048576 + h * 33554432 + a / 1 % 32 * 32768 + b / 1 % 32 * 1048576 + n / 2048 % 2 * 128 + n / 2 % 16 * 256) ⟨3, 5, 25, 6⟩ = l + m * 4096 + e * 1048576 + h * 33554432 + a / 1 % 32 * 32768 + b / 1 % 32 * 1048576 + n / 2048 % 2 * 128 + n / 2 % 16 * 256 + n / 32 % 64 * 33554432 := layS_is (v := n) (p := 3) (f := 5) (pos := 25) (wd := 6) (A := 33554432) (W := 64) (F := 32) rfl rfl rfl (by omega) rfl (by clear s0 s1 s2 s3; generalize a / 1 % 32 = x0 at *; generalize b / 1 % 32 = x1 at *; generalize n / 2048 % 2 = x2 at *; generalize n / 2 % 16 = x3 at *; omega) (by clear s0 s1 s2 s3; generalize a / 1 % 32 = x0 at *; generalize b / 1 % 32 = x1 at *; generalize n / 2048 % 2 = x2 at *; generalize n / 2 % 16 = x3 at *; omega) (by intro t t1 t2; omega) (by clear s0 s1 s2 s3; generalize a / 1 % 32 = x0 at *; generalize b / 1 % 32 = x1 at *; generalize n / 2048 % 2 = x2 at *; generalize n / 2 % 16 = x3 at *; omega)
  have s5 : layS d a b n (l + m * 4096 + e * 1048576 + h * 33554432 + a / 1 % 32 * 32768 + b / 1 % 32 * 1048576 + n / 2048 % 2 * 128 + n / 2 % 16 * 256 + n / 32 % 64 * 33554432) ⟨3, 12, 31, 1⟩ = l + m * 4096 + e * 1048576 + h * 33554432 + a / 1 % 32 * 32768 + b / 1 % 32 * 1048576 + n / 2048 % 2 * 128 + n / 2 % 16 * 256 + n / 32 % 64 * 33554432 + n / 4096 % 2 * 2147483648 := layS_is (v := n) (p := 3) (f := 12) (pos := 31) (wd := 1) (A := 2147483648) (W := 2) (F := 4096) rfl rfl rfl (by omega) rfl (by clear s0 s1 s2 s3 s4; generalize a / 1 % 32 = x0 at *; generalize b / 1 % 32 = x1 at *; generalize n / 2048 % 2 = x2 at *; generalize n / 2 % 16 = x3 at *; generalize n / 32 % 64 = x4 at *; omega) (by clear s0 s1 s2 s3 s4; generalize a / 1 % 32 = x0 at *; generalize b / 1 % 32 = x1 at *; generalize n / 2048 % 2 = x2 at *; generalize n / 2 % 16 = x3 at *; generalize n / 32 % 64 = x4 at *; omega) (by intro t t1 t2; omega) (by clear s0 s1 s2 s3 s4; generalize a / 1 % 32 = x0 at *; generalize b / 1 % 32 = x1 at *; generalize n / 2048 % 2 = x2 at *; generalize n / 2 % 16 = x3 at *; generalize n / 32 % 64 = x4 at *; omega)
  simp only [List.take_succ_cons, List.take_zero, List.foldl_cons, List.foldl_nil]
  rw [s0, s1, s2, s3, s4, s5]
theorem layB_U {l m h e d a b n : Int} (l1 : 0 ≤ l) (l2 : l < 128) (m1 : 0 ≤ m) (m2 : m < 8) (h1 : 0 ≤ h) (h2 : h < 128) (e1 : 0 ≤ e) (e2 : e < 32) (he : e = 0) (hm : m = 0) (hh : h = 0) :
    ((six (pcs 85)).take 6).foldl (layS d a b n) (l + m * 4096 + e * 1048576 + h * 33554432) = l + m * 4096 + e * 1048576 + h * 33554432 + d / 1 % 32 * 128 + n / 1 % 1048576 * 4096 := by
  rw [six_U]
  have b0 : 0 ≤ d / 1 % 32 ∧ d / 1 % 32 < 32 := by omega
  have b1 : 0 ≤ n / 1 % 1048576 ∧ n / 1 % 1048576 < 1048576 := by omega
  have s0 : layS d a b n (l + m * 4096 + e * 1048576 + h * 33554432) ⟨0, 0, 7, 5⟩ = l + m * 4096 + e * 1048576 + h * 33554432 + d / 1 % 32 * 128 := layS_is (v := d) (p := 0) (f := 0) (pos := 7) (wd := 5) (A := 128) (W := 32) (F := 1) rfl rfl rfl (by omega) rfl (by omega) (by omega) (by intro t t1 t2; omega) (by omega)
  have s1 : layS d a b n (l + m * 4096 + e * 1048576 + h * 33554432 + d / 1 % 32 * 128) ⟨3, 0, 12, 20⟩ = l + m * 4096 + e * 1048576 + h * 33554432 + d / 1 % 32 * 128 + n / 1 % 1048576 * 4096 := layS_is (v := n) (p := 3) (f := 0) (pos := 12) (wd := 20) (A := 4096) (W := 1048576) (F := 1) rfl rfl rfl (by omega) rfl (by clear s0; generalize d / 1 % 32 = x0 at *; omega) (by clear s0; generalize d / 1 % 32 = x0 at *; omega) (by intro t t1 t2; omega) (by clear s0; generalize d / 1 % 32 = x0 at *; omega)
  have sz : layS d a b n (l + m * 4096 + e * 1048576 + h * 33554432 + d / 1 % 32 * 128 + n / 1 % 1048576 * 4096) ⟨0, 0, 0, 0⟩ = l + m * 4096 + e * 1048576 + h * 33554432 + d / 1 % 32 * 128 + n / 1 % 1048576 * 4096 := layS_none (by clear s0 s1; generalize d / 1 % 32 = x0 at *; generalize n / 1 % 1048576 = x1 at *; omega) (by clear s0 s1; generalize d / 1 % 32 = x0 at *; generalize n / 1 % 1048576 = x1 at *; omega)
  simp only [List.take_succ_cons, List.take_zero, List.foldl_cons, List.foldl_nil]
  rw [s0, s1, sz, sz, sz, sz]
theorem layB_J {l m h e d a b n : Int} (l1 : 0 ≤ l) (l2 : l < 128) (m1 : 0 ≤ m) (m2 : m < 8) (h1 : 0 ≤ h) (h2 : h < 128) (e1 : 0 ≤ e) (e2 : e < 32) (he : e = 0) (hm : m = 0) (hh : h = 0) :
    ((six (pcs 74)).take 6).foldl (layS d a b n) (l + m * 4096 + e * 1048576 + h * 33554432) = l + m * 4096 + e * 1048576 + h * 33554432 + d / 1 % 32 * 128 + n / 4096 % 256 * 4096 + n / 2048 % 2 * 1048576 + n / 2 % 1024 * 2097152 + n / 1048576 % 2 * 2147483648 := by
  rw [six_J]
  have b0 : 0 ≤ d / 1 % 32 ∧ d / 1 % 32 < 32 := by omega
  have b1 : 0 ≤ n / 4096 % 256 ∧ n / 4096 % 256 < 256 := by omega
  have b2 : 0 ≤ n / 2048 % 2 ∧ n / 2048 % 2 < 2 := by omega
  have b3 : 0 ≤ n / 2 % 1024 ∧ n / 2 % 1024 < 1024 := by omega
  have b4 : 0 ≤ n / 1048576 % 2 ∧ n / 1048576 % 2 < 2 := by omega
  have s0 : layS d a b n (l + m * 4096 + e * 1048576 + h * 33554432) ⟨0, 0, 7, 5⟩ = l + m * 4096 + e * 1048576 + h * 33554432 + d / 1 % 32 * 128 := layS_is (v := d) (p := 0) (f := 0) (pos := 7) (wd := 5) (A := 128) (W := 32) (F := 1) rfl rfl rfl (by omega) rfl (by omega) (by omega) (by intro t t1 t2; omega) (by omega)
  have s1 : layS d a b n (l + m * 4096 + e * 1048576 + h * 33554432 + d / 1 % 32 * 128) ⟨3, 12, 12, 8⟩ = l + m * 4096 + e * 1048576 + h * 33554432 + d / 1 % 32 * 128 + n / 4096 % 256 * 4096 := layS_is (v := n) (p := 3) (f := 12) (pos := 12) (wd := 8) (A := 4096) (W := 256) (F := 4096) rfl rfl rfl (by omega) rfl (by clear s0; generalize d / 1 % 32 = x0 at *; omega) (by clear s0; generalize d / 1 % 32 = x0 at *; omega) (by intro t t1 t2; omega) (by clear s0; generalize d / 1 % 32 = x0 at *; omega)
  have s2 : layS d a b n (l + m * 4096 + e * 1048576 + h * 33554432 + d / 1 % 32 * 128 + n / 4096 % 256 * 4096) ⟨3, 11, 20, 1⟩ = l + m * 4096 + e * 1048576 + h * 33554432 + d / 1 % 32 * 128 + n / 4096 % 256 * 4096 + n / 2048 % 2 * 1048576 := layS_is (v := n) (p := 3) (f := 11) (pos := 20) (wd := 1) (A := 1048576) (W := 2) (F := 2048) rfl rfl rfl (by omega) rfl (by clear s0 s1; generalize d / 1 % 32 = x0 at *; generalize n / 4096 % 256 = x1 at *; omega) (by clear s0 s1; generalize d / 1 % 32 = x0 at *; generalize n / 4096 % 256 = x1 at *; omega) (by intro t t1 t2; omega) (by clear s0 s1; generalize d / 1 % 32 = x0 at *; generalize n / 4096 % 256 = x1 at *; omega)
  have s3 : layS d a b n (l + m * 4096 + e * 1048576 + h * 33554432 + d / 1 % 32 * 128 + n / 4096 % 256 * 4096 + n / 2048 % 2 * 1048576) ⟨3, 1, 21, 10⟩ = l + m * 4096 + e * 1048576 + h * 33554432 + d / 1 % 32 * 128 + n / 4096 % 256 * 4096 + n / 2048 % 2 * 1048576 + n / 2 % 1024 * 2097152 := layS_is (v := n) (p := 3) (f := 1) (pos := 21) (wd := 10) (A := 2097152) (W := 1024) (F := 2) rfl rfl rfl (by omega) rfl (by clear s0 s1 s2; generalize d / 1 % 32 = x0 at *; generalize n / 4096 % 256 = x1 at *; generalize n / 2048 % 2 = x2 at *; omega) (by clear s0 s1 s2; generalize d / 1 % 32 = x0 at *; generalize n / 4096 % 256 = x1 at *; generalize n / 2048 % 2 = x2 at *; omega) (by intro t t1 t2; omega) (by clear s0 s1 s2; generalize d / 1 % 32 = x0 at *; generalize n / 4096 % 256 = x1 at *; generalize n / 2048 % 2 = x2 at *; omega)
  have s4 : layS d a b n (l + m * 4096 + e * 1048576 + h * 33554432 + d / 1 % 32 * 128 + n / 4096 % 256 * 4096 + n / 2048 % 2 * 1048576 + n / 2 % 1024 * 2097152) ⟨3, 20, 31, 1⟩ = l + m * 4096 + e * 1048576 + h * 33554432 + d / 1 % 32 * 128 + n / 4096 % 256 * 4096 + n / 2048 % 2 * 1048576 + n / 2 % 1024 * 2097152 + n / 1048576 % 2 * 2147483648 := layS_is (v := n) (p := 3) (f := 20) (pos := 31) (wd := 1) (A := 2147483648) (W := 2) (F := 1048576) rfl rfl rfl (by omega) rfl (by clear s0 s1 s2 s3; generalize d / 1 % 32 = x0 at *; generalize n / 4096 % 256 = x1 at *; generalize n / 2048 % 2 = x2 at *; generalize n / 2 % 1024 = x3 at *; omega) (by clear s0 s1 s2 s3; generalize d / 1 % 32 = x0 at *; generalize n / 4096 % 256 = x1 at *; generalize n / 2048 % 2 = x2 at *; generalize n / 2 % 1024 = x3 at *; omega) (by intro t t1 t2; omega) (by clear s0 s1 s2 s3; generalize d / 1 % 32 = x0 at *; generalize n / 4096 % 256 = x1 at *; generalize n / 2048 % 2 = x2 at *; generalize n / 2 % 1024 = x3 at *; omega)
  have sz : layS d a b n (l + m * 4096 + e * 1048576 + h * 33554432 + d / 1 % 32 * 128 + n / 4096 % 256 * 4096 + n / 2048 % 2 * 1048576 + n / 2 % 1024 * 2097152 + n / 1048576 % 2 * 2147483648) ⟨0, 0, 0, 0⟩ = l + m * 4096 + e * 1048576 + h * 33554432 + d / 1 % 32 * 128 + n / 4096 % 256 * 4096 + n / 2048 % 2 * 1048576 + n / 2 % 1024 * 2097152 + n / 1048576 % 2 * 2147483648 := layS_none (by clear s0 s1 s2 s3 s4; generalize d / 1 % 32 = x0 at *; generalize n / 4096 % 256 = x1 at *; generalize n / 2048 % 2 = x2 at *; generalize n / 2 % 1024 = x3 at *; generalize n / 1048576 % 2 = x4 at *; omega) (by clear s0 s1 s2 s3 s4; generalize d / 1 % 32 = x0 at *; generalize n / 4096 % 256 = x1 at *; generalize n / 2048 % 2 = x2 at *; generalize n / 2 % 1024 = x3 at *; generalize n / 1048576 % 2 = x4 at *; omega)
  simp only [List.take_succ_cons, List.take_zero, List.foldl_cons, List.foldl_nil]
  rw [s0, s1, s2, s3, s4, sz]
theorem layB_F {l m h e d a b n : Int} (l1 : 0 ≤ l) (l2 : l < 128) (m1 : 0 ≤ m) (m2 : m < 8) (h1 : 0 ≤ h) (h2 : h < 128) (e1 : 0 ≤ e) (e2 : e < 32) (he : e = 0) (hh : h = 0) :
    ((six (pcs 70)).take 6).foldl (layS d a b n) (l + m * 4096 + e * 1048576 + h * 33554432) = l + m * 4096 + e * 1048576 + h * 33554432 + n / 1 % 256 * 1048576 := by
  rw [six_F]
  have b0 : 0 ≤ n / 1 % 256 ∧ n / 1 % 256 < 256 := by omega
  have s0 : layS d a b n (l + m * 4096 + e * 1048576 + h * 33554432) ⟨3, 0, 20, 8⟩ = l + m * 4096 + e * 1048576 + h * 33554432 + n / 1 % 256 * 1048576 := layS_is (v := n) (p := 3) (f := 0) (pos := 20) (wd := 8) (A := 1048576) (W := 256) (F := 1) rfl rfl rfl (by omega) rfl (by omega) (by omega) (by intro t t1 t2; omega) (by omega)
  have sz : layS d a b n (l + m * 4096 + e * 1048576 + h * 33554432 + n / 1 % 256 * 1048576) ⟨0, 0, 0, 0⟩ = l + m * 4096 + e * 1048576 + h * 33554432 + n / 1 % 256 * 1048576 := layS_none (by clear s0; generalize n / 1 % 256 = x0 at *; omega) (by clear s0; generalize n / 1 % 256 = x0 at *; omega)
  simp only [List.take_succ_cons, List.take_zero, List.foldl_cons, List.foldl_nil]
  rw [s0, sz, sz, sz, sz, sz]
theorem layB_Z {l m h e d a b n : Int} (l1 : 0 ≤ l) (l2 : l < 128) (m1 : 0 ≤ m) (m2 : m < 8) (h1 : 0 ≤ h) (h2 : h < 128) (e1 : 0 ≤ e) (e2 : e < 32)  :
    ((six (pcs 90)).take 6).foldl (layS d a b n) (l + m * 4096 + e * 1048576 + h * 33554432) = l + m * 4096 + e * 1048576 + h * 33554432 := by
  rw [six_Z]
  have sz : layS d a b n (l + m * 4096 + e * 1048576 + h * 33554432) ⟨0, 0, 0, 0⟩ = l + m * 4096 + e * 1048576 + h * 33554432 := layS_none (by omega) (by omega)
  simp only [List.take_succ_cons, List.take_zero, List.foldl_cons, List.foldl_nil]
  rw [sz, sz, sz, sz, sz, sz]
theorem layB_L {l m h e d a b n : Int} (l1 : 0 ≤ l) (l2 : l < 128) (m1 : 0 ≤ m) (m2 : m < 8) (h1 : 0 ≤ h) (h2 : h < 128) (e1 : 0 ≤ e) (e2 : e < 32) (he : e = 0) (hh : h % 4 = 0) :
    ((six (pcs 76)).take 6).foldl (layS d a b n) (l + m * 4096 + e * 1048576 + h * 33554432) = l + m * 4096 + e * 1048576 + h * 33554432 + d / 1 % 32 * 128 + a / 1 % 32 * 32768 + n / 1 % 4 * 33554432 := by
  rw [six_L]
  have b0 : 0 ≤ d / 1 % 32 ∧ d / 1 % 32 < 32 := by omega
  have b1 : 0 ≤ a / 1 % 32 ∧ a / 1 % 32 < 32 := by omega
  have b2 : 0 ≤ n / 1 % 4 ∧ n / 1 % 4 < 4 := by omega
  have s0 : layS d a b n (l + m * 4096 + e * 1048576 + h * 33554432) ⟨0, 0, 7, 5⟩ = l + m * 4096 + e * 1048576 + h * 33554432 + d / 1 % 32 * 128 := layS_is (v := d) (p := 0) (f := 0) (pos := 7) (wd := 5) (A := 128) (W := 32) (F := 1) rfl rfl rfl (by omega) rfl (by omega) (by omega) (by intro t t1 t2; omega) (by omega)
  have s1 : layS d a b n (l + m * 4096 + e * 1048576 + h * 33554432 + d / 1 % 32 * 128) ⟨1, 0, 15, 5⟩ = l + m * 4096 + e * 1048576 + h * 33554432 + d / 1 % 32 * 128 + a / 1 % 32 * 32768 := layS_is (v := a) (p := 1) (f := 0) (pos := 15) (wd := 5) (A := 32768) (W := 32) (F := 1) rfl rfl rfl (by omega) rfl (by clear s0; generalize d / 1 % 32 = x0 at *; omega) (by clear s0; generalize d / 1 % 32 = x0 at *; omega) (by intro t t1 t2; omega) (by clear s0; generalize d / 1 % 32 = x0 at *; omega)
  have s2 : layS d a b n (l + m * 4096 + e * 1048576 + h * 33554432 + d / 1 % 32 * 128 + a / 1 % 32 * 32768) ⟨3, 0, 25, 2⟩ = l + m * 4096 + e * 1048576 + h * 33554432 + d / 1 % 32 * 128 + a / 1 % 32 * 32768 + n / 1 % 4 * 33554432 := layS_is (v := n) (p := 3) (f := 0) (pos := 25) (wd := 2) (A := 33554432) (W := 4) (F := 1) rfl rfl rfl (by omega) rfl (by clear s0 s1; generalize d / 1 % 32 = x0 at *; generalize a / 1 % 32 = x1 at *; omega) (by clear s0 s1; generalize d / 1 % 32 = x0 at *; generalize a / 1 % 32 = x1 at *; omega) (by intro t t1 t2; omega) (by clear s0 s1; generalize d / 1 % 32 = x0 at *; generalize a / 1 % 32 = x1 at *; omega)
  have sz : layS d a b n (l + m * 4096 + e * 1048576 + h * 33554432 + d / 1 % 32 * 128 + a / 1 % 32 * 32768 + n / 1 % 4 * 33554432) ⟨0, 0, 0, 0⟩ = l + m * 4096 + e * 1048576 + h * 33554432 + d / 1 % 32 * 128 + a / 1 % 32 * 32768 + n / 1 % 4 * 33554432 := layS_none (by clear s0 s1 s2; generalize d / 1 % 32 = x0 at *; generalize a / 1 % 32 = x1 at *; generalize n / 1 % 4 = x2 at *; omega) (by clear s0 s1 s2; generalize d / 1 % 32 = x0 at *; generalize a / 1 % 32 = x1 at *; generalize n / 1 % 4 = x2 at *; omega)
  simp only [List.take_succ_cons, List.take_zero, List.foldl_cons, List.foldl_nil]
  rw [s0, s1, s2, sz, sz, sz]
theorem layB_A {l m h e d a b n : Int} (l1 : 0 ≤ l) (l2 : l < 128) (m1 : 0 ≤ m) (m2 : m < 8) (h1 : 0 ≤ h) (h2 : h < 128) (e1 : 0 ≤ e) (e2 : e < 32) (he : e = 0) (hh : h % 4 = 0) :
    ((six (pcs 65)).take 6).foldl (layS d a b n) (l + m * 4096 + e * 1048576 + h * 33554432) = l + m * 4096 + e * 1048576 + h * 33554432 + d / 1 % 32 * 128 + a / 1 % 32 * 32768 + b / 1 % 32 * 1048576 + n / 1 % 4 * 33554432 := by
  rw [six_A]
  have b0 : 0 ≤ d / 1 % 32 ∧ d / 1 % 32 < 32 := by omega
  have b1 : 0 ≤ a / 1 % 32 ∧ a / 1 % 32 < 32 := by omega
  have b2 : 0 ≤ b / 1 % 32 ∧ b / 1 % 32 < 32 := by omega
  have b3 : 0 ≤ n / 1 % 4 ∧ n / 1 % 4 < 4 := by omega
  have s0 : layS d a b n (l + m * 4096 + e * 1048576 + h * 33554432) ⟨0, 0, 7, 5⟩ = l + m * 4096 + e * 1048576 + h * 33554432 + d / 1 % 32 * 128 := layS_is (v := d) (p := 0) (f := 0) (pos := 7) (wd := 5) (A := 128) (W := 32) (F := 1) rfl rfl rfl (by omega) rfl (by omega) (by omega) (by intro t t1 t2; omega) (by omega)
  have s1 : layS d a b n (l + m * 4096 + e * 1048576 + h * 33554432 + d / 1 % 32 * 128) ⟨1, 0, 15, 5⟩ = l + m * 4096 + e * 1048576 + h * 33554432 + d / 1 % 32 * 128 + a / 1 % 32 * 32768 := layS_is (v := a) (p := 1) (f := 0) (pos := 15) (wd := 5) (A := 32768) (W := 32) (F := 1) rfl rfl rfl (by omega) rfl (by clear s0; generalize d / 1 % 32 = x0 at *; omega) (by clear s0; generalize d / 1 % 32 = x0 at *; omega) (by intro t t1 t2; omega) (by clear s0; generalize d / 1 % 32 = x0 at *; omega)
  have s2 : layS d a b n (l + m * 4096 + e * 1048576 + h * 33554432 + d / 1 % 32 * 128 + a / 1 % 32 * 32768) ⟨2, 0, 20, 5⟩ = l + m * 4096 + e * 1048576 + h * 33554432 + d / 1 % 32 * 128 + a / 1 % 32 * 32768 + b / 1 % 32 * 1048576 := layS_is (v := b) (p := 2) (f := 0) (pos := 20) (wd := 5) (A := 1048576) (W := 32) (F := 1) rfl rfl rfl (by omega) rfl (by clear s0 s1; generalize d / 1 % 32 = x0 at *; generalize a / 1 % 32 = x1 at *; omega) (by clear s0 s1; generalize d / 1 % 32 = x0 at *; generalize a / 1 % 32 = x1 at *; omega) (by intro t t1 t2; omega) (by clear s0 s1; generalize d / 1 % 32 = x0 at *; generalize a / 1 % 32 = x1 at *; omega)
  have s3 : layS d a b n (l + m * 4096 + e * 1048576 + h * 33554432 + d / 1 % 32 * 128 + a / 1 % 32 * 32768 + b / 1 % 32 * 1048576) ⟨3, 0, 25, 2⟩ = l + m * 4096 + e * 1048576 + h * 33554432 + d / 1 % 32 * 128 + a / 1 % 32 * 32768 + b / 1 % 32 * 1048576 + n / 1 % 4 * 33554432 := layS_is (v := n) (p := 3) (f := 0) (pos := 25) (wd := 2) (A := 33554432) (W := 4) (F := 1) rfl rfl rfl (by omega) rfl (by clear s0 s1 s2; generalize d / 1 % 32 = x0 at *; generalize a / 1 % 32 = x1 at *; generalize b / 1 % 32 = x2 at *; omega) (by clear s0 s1 s2; generalize d / 1 % 32 = x0 at *; generalize a / 1 % 32 = x1 at *; generalize b / 1 % 32 = x2 at *; omega) (by intro t t1 t2; omega) (by clear s0 s1 s2; generalize d / 1 % 32 = x0 at *; generalize a / 1 % 32 = x1 at *; generalize b / 1 % 32 = x2 at *; omega)
  have sz : layS d a b n (l + m * 4096 + e * 1048576 + h * 33554432 + d / 1 % 32 * 128 + a / 1 % 32 * 32768 + b / 1 % 32 * 1048576 + n / 1 % 4 * 33554432) ⟨0, 0, 0, 0⟩ = l + m * 4096 + e * 1048576 + h * 33554432 + d / 1 % 32 * 128 + a / 1 % 32 * 32768 + b / 1 % 32 * 1048576 + n / 1 % 4 * 33554432 := layS_none (by clear s0 s1 s2 s3; generalize d / 1 % 32 = x0 at *; generalize a / 1 % 32 = x1 at *; generalize b / 1 % 32 = x2 at *; generalize n / 1 % 4 = x3 at *; omega) (by clear s0 s1 s2 s3; generalize d / 1 % 32 = x0 at *; generalize a / 1 % 32 = x1 at *; generalize b / 1 % 32 = x2 at *; generalize n / 1 % 4 = x3 at *; omega)
  simp only [List.take_succ_cons, List.take_zero, List.foldl_cons, List.foldl_nil]
  rw [s0, s1, s2, s3, sz, sz]
end Go.Proofs.Ytjjbfeoidceiiaa
