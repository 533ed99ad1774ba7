/- The walk of CodeFlips, over package code's contracts. -/
import Derived.Test.YtphnagkicboglaaCBack
namespace Go.Proofs.Ytphnagkicboglaa
open Go.RowKit Rv
set_option linter.unusedVariables false in
set_option maxHeartbeats 4000000 in
theorem flips_x (i_o i_d i_a i_b i_n x_o x_d x_a x_b x_n y_o y_d y_a y_b y_n m k v u : Int) (h1 : Ins.wf ⟨i_o, i_d, i_a, i_b, i_n⟩) (m1 : -9223372036854775808 ≤ m) (m2 : m ≤ 9223372036854775807) (HX : Hid (fit ⟨i_o, i_d, i_a, i_b, i_n⟩ = ⟨x_o, x_d, x_a, x_b, x_n⟩)) (wx : Ins.wf ⟨x_o, x_d, x_a, x_b, x_n⟩) (wy : Ins.wf ⟨y_o, y_d, y_a, y_b, y_n⟩)
    (HK : Hid (pick m 32 = k)) (k0 : 0 ≤ k) (k1 : k < 32) (p0 : 1 ≤ (2 : Int) ^ k.toNat) (p1 : (2 : Int) ^ k.toNat ≤ 2147483648)
    (HV : Hid (encV ⟨x_o, x_d, x_a, x_b, x_n⟩ = v)) (HV0 : Hid (encE ⟨x_o, x_d, x_a, x_b, x_n⟩ = 0))  (v0 : 0 ≤ v) (v1 : v < 4294967296)
    (HZ : Hid (decV (bits .xor .i64 v (2 ^ k.toNat)) = ⟨y_o, y_d, y_a, y_b, y_n⟩)) (HZ0 : Hid (decE (bits .xor .i64 v (2 ^ k.toNat)) = u)) (wz : inInt (bits .xor .i64 v (2 ^ k.toNat)))
    (HC : u = 20 ∨ (u = 0 ∧ Hid (right ⟨y_o, y_d, y_a, y_b, y_n⟩ = true) ∧ ((y_o == x_o) = false ∨ (y_o = x_o ∧ (y_d == x_d) = false) ∨ (y_o = x_o ∧ y_d = x_d ∧ (y_a == x_a) = false) ∨ (y_o = x_o ∧ y_d = x_d ∧ y_a = x_a ∧ (y_b == x_b) = false) ∨ (y_o = x_o ∧ y_d = x_d ∧ y_a = x_a ∧ y_b = x_b ∧ (y_n == x_n) = false))))
    (hA : AwakeIs) (hE : EncodeIs) (hD : DecodeIs) (hR : RightIs) (w : World) :
    Calls Try.prog 9 #[.agg #[.int .i64 i_o, .int .i64 i_d, .int .i64 i_a, .int .i64 i_b, .int .i64 i_n], .int .i64 m] w fun e w' => e = .returned (.bool true) ∧ Both w w' := by
  have WZ := Lib.hid wz
  clear wz
  rcases HC with rfl | ⟨rfl, HR, d1 | ⟨rfl, d1⟩ | ⟨rfl, rfl, d1⟩ | ⟨rfl, rfl, rfl, d1⟩ | ⟨rfl, rfl, rfl, rfl, d1⟩⟩
  all_goals
    go_enter Try.func9, Try.ntmps9
    go_wp2_with fail
    refine (hA _).mono ?_
    rintro e W1 ⟨rfl, hb⟩
    have sI := (Has5.new w 23 _ _ _ _ _).both hb
    have B1 := Lib.hid (Both.trans ((Both.refl w).alloc _ _) hb)
    clear hb
    obtain ⟨l, c0, c1, c2, c3, c4⟩ := sI
    go_wp2_with fail
    refine (fit_lit h1 HX.out _).mono ?_
    rintro e W2 ⟨rfl, hb⟩
    clear l c0 c1 c2 c3 c4
    have B2 := Lib.hid (B1.out.trans hb)
    clear hb B1
    go_wp2_with fail
    refine (enc_lit hE wx HV.out HV0.out _).mono ?_
    rintro e W3 ⟨rfl, hb⟩
    have B3 := Lib.hid ((B2.out.alloc _ _).trans hb)
    have SX := Lib.hid ((Has5.new W2 23 _ _ _ _ _).both hb)
    clear hb B2
    go_wp2_with fail
    refine (pick_lit m1 m2 (by omega) HK.out _).mono ?_
    rintro e w' ⟨rfl, rfl⟩
    go_wp2_with fail
    refine (dec_lit hD WZ.out HZ.out HZ0.out _).mono ?_
    rintro e W4 ⟨rfl, hb⟩
    have B4 := Lib.hid (B3.out.trans hb)
    have sX := (SX.out.both hb)
    clear hb B3 SX
    obtain ⟨l, c0, c1, c2, c3, c4⟩ := sX
    go_wp2_with fail
    first
      | (go_ret; exact ⟨rfl, B4.out.alloc _ _⟩)
      | skip
  all_goals
    refine (right_lit hR wy HR.out _).mono ?_
    rintro e W5 ⟨rfl, hb⟩
    have B5 := Lib.hid ((B4.out.alloc _ _).trans hb)
    clear hb
    go_wp2_with fail
    go_ret
    exact ⟨rfl, B5.out⟩
theorem bits_bd (op : BinOp) (x y : Int) : inInt (bits op .i64 x y) := by
  unfold bits
  simp only [IntKind.wrap_i64]
  constructor <;> omega
theorem xor_toInt (x y : Int) : bits .xor .i64 x y = (BitVec.ofInt 64 x ^^^ BitVec.ofInt 64 y).toInt := by
  show IntKind.i64.wrap ((BitVec.ofInt 64 x ^^^ BitVec.ofInt 64 y).toNat : Int) = _
  generalize BitVec.ofInt 64 x ^^^ BitVec.ofInt 64 y = v
  rw [IntKind.wrap_i64, BitVec.toInt_eq_toNat_cond]
  have := v.isLt
  split <;> omega
theorem xor_ne (v p : Int) (v0 : 0 ≤ v) (v1 : v < 4294967296) (p0 : 1 ≤ p) (p1 : p ≤ 2147483648) : bits .xor .i64 v p ≠ v := by
  intro h
  rw [xor_toInt] at h
  have hv : (BitVec.ofInt 64 v).toInt = v := by
    rw [BitVec.toInt_eq_toNat_cond, BitVec.toNat_ofInt]
    split <;> omega
  have h1 : BitVec.ofInt 64 v ^^^ BitVec.ofInt 64 p = BitVec.ofInt 64 v := BitVec.eq_of_toInt_eq (h.trans hv.symm)
  have h2 : BitVec.ofInt 64 p = 0#64 := by
    have := congrArg (BitVec.ofInt 64 v ^^^ ·) h1
    simp only [← BitVec.xor_assoc, BitVec.xor_self, BitVec.zero_xor] at this
    exact this
  have h3 := congrArg BitVec.toNat h2
  rw [BitVec.toNat_ofInt] at h3
  simp at h3
  omega
theorem pow_bd (k : Int) (h : 0 ≤ k) (h' : k < 32) : 1 ≤ (2 : Int) ^ k.toNat ∧ (2 : Int) ^ k.toNat ≤ 2147483648 := by
  obtain ⟨n, rfl⟩ := Int.eq_ofNat_of_zero_le h
  rw [Int.toNat_natCast]
  have h1 : (2 : Nat) ^ n ≤ 2 ^ 31 := Nat.pow_le_pow_right (by decide) (by omega)
  have h2 : 0 < (2 : Nat) ^ n := Nat.two_pow_pos n
  have h3 : ((2 ^ n : Nat) : Int) = 2 ^ n := by push_cast; rfl
  constructor <;> omega
theorem differ {x y : Ins} (h : y ≠ x) : (y.op == x.op) = false ∨ (y.op = x.op ∧ (y.d == x.d) = false) ∨ (y.op = x.op ∧ y.d = x.d ∧ (y.a == x.a) = false) ∨ (y.op = x.op ∧ y.d = x.d ∧ y.a = x.a ∧ (y.b == x.b) = false) ∨ (y.op = x.op ∧ y.d = x.d ∧ y.a = x.a ∧ y.b = x.b ∧ (y.n == x.n) = false) := by
  by_cases c0 : y.op = x.op
  · by_cases c1 : y.d = x.d
    · by_cases c2 : y.a = x.a
      · by_cases c3 : y.b = x.b
        · exact Or.inr (Or.inr (Or.inr (Or.inr ⟨c0, c1, c2, c3, beq_eq_false_iff_ne.2 fun c4 => h (Ins.ext' c0 c1 c2 c3 c4)⟩)))
        · exact Or.inr (Or.inr (Or.inr (Or.inl ⟨c0, c1, c2, beq_eq_false_iff_ne.2 c3⟩)))
      · exact Or.inr (Or.inr (Or.inl ⟨c0, c1, beq_eq_false_iff_ne.2 c2⟩))
    · exact Or.inr (Or.inl ⟨c0, beq_eq_false_iff_ne.2 c1⟩)
  · exact Or.inl (beq_eq_false_iff_ne.2 c0)
theorem wf_zero : Ins.wf zeroI := ⟨by decide, by decide, by decide, by decide, by decide⟩
theorem flips_law (i : Ins) (m : Int) (h1 : Ins.wf i) (hm : inInt m) (hA : AwakeIs) (hE : EncodeIs) (hD : DecodeIs) (hR : RightIs) (w : World) :
    Calls Try.prog 9 #[ival i, .int .i64 m] w fun e w' => e = .returned (.bool true) ∧ Both w w' := by
  have rx := right_fit i
  obtain ⟨k0, k1⟩ := pick_bd m 32 (by omega)
  obtain ⟨p0, p1⟩ := pow_bd (pick m 32) k0 k1
  obtain ⟨v0, v1⟩ := enc_bd rx
  have hz := xor_ne _ _ v0 v1 p0 p1
  have key : ∃ y u, decV (bits .xor .i64 (enc (fit i)) (2 ^ (pick m 32).toNat)) = y ∧ decE (bits .xor .i64 (enc (fit i)) (2 ^ (pick m 32).toNat)) = u ∧ Ins.wf y ∧ (u = 20 ∨ (u = 0 ∧ right y = true ∧ y ≠ fit i)) := by
    cases hd : dec (bits .xor .i64 (enc (fit i)) (2 ^ (pick m 32).toNat)) with
    | none => exact ⟨zeroI, 20, by unfold decV; rw [hd]; rfl, by unfold decE; rw [hd]; rfl, wf_zero, Or.inl rfl⟩
    | some y =>
      obtain ⟨ry, ey⟩ := dec_some hd
      refine ⟨y, 0, by unfold decV; rw [hd]; rfl, by unfold decE; rw [hd]; rfl, wf_right ry, Or.inr ⟨rfl, ry, fun c => hz ?_⟩⟩
      rw [← ey, c]
  obtain ⟨y, u, e1, e2, wy, hc⟩ := key
  have f1 := encV_right rx
  have f2 := encE_right rx
  have w1 := wf_right rx
  obtain ⟨x, hx⟩ : ∃ x, fit i = x := ⟨_, rfl⟩
  rw [hx] at e1 e2 f1 f2 v0 v1 w1 hc
  have hc' : u = 20 ∨ (u = 0 ∧ right y = true ∧ _) := hc.imp id fun ⟨a, b, c⟩ => ⟨a, b, differ c⟩
  obtain ⟨i0, i1, i2, i3, i4⟩ := i
  obtain ⟨x0, x1, x2, x3, x4⟩ := x
  obtain ⟨y0, y1, y2, y3, y4⟩ := y
  exact flips_x _ _ _ _ _ x0 x1 x2 x3 x4 y0 y1 y2 y3 y4 m _ _ u h1 hm.1 hm.2 hx w1 wy rfl k0 k1 p0 p1 f1 f2 v0 v1 e1 e2 (bits_bd _ _ _) hc' hA hE hD hR w
end Go.Proofs.Ytphnagkicboglaa
