/- The walk of CodeForth, over package code's contracts. -/
import Derived.Test.YtphnagkicboglaaCFlips
namespace Go.Proofs.Ytphnagkicboglaa
open Go.RowKit Rv
theorem three_at {g q z : Int} (hg : inInt g) (hq : inInt q) (hz : inInt z) (n : Nat) (hn : n < 3) : ∃ y : Int, inInt y ∧ (#[Value.int IntKind.i64 g, Value.int IntKind.i64 q, Value.int IntKind.i64 z] : Array Value)[n]? = some (.int .i64 y) := by
  have h : n = 0 ∨ n = 1 ∨ n = 2 := by omega
  rcases h with rfl | rfl | rfl
  · exact ⟨g, hg, rfl⟩
  · exact ⟨q, hq, rfl⟩
  · exact ⟨z, hz, rfl⟩
/-- what Decode tells of a number -/
theorem dec_ways (z : Int) : (decV z = zeroI ∧ decE z = 20) ∨ (decE z = 0 ∧ right (decV z) = true ∧ encV (decV z) = z ∧ encE (decV z) = 0) := by
  cases hd : dec z with
  | none => exact Or.inl ⟨by unfold decV; rw [hd]; rfl, by unfold decE; rw [hd]; rfl⟩
  | some y =>
    obtain ⟨ry, ey⟩ := dec_some hd
    have e : decV z = y := by unfold decV; rw [hd]; rfl
    rw [e]
    exact Or.inr ⟨by unfold decE; rw [hd]; rfl, ry, (encV_right ry).trans ey, encE_right ry⟩
set_option maxRecDepth 100000 in
set_option linter.unusedVariables false in
set_option maxHeartbeats 4000000 in
theorem forth_x (i_o i_d i_a i_b i_n x_o x_d x_a x_b x_n g m k q v : Int) (h1 : Ins.wf ⟨i_o, i_d, i_a, i_b, i_n⟩) (g1 : inInt g) (m1 : -9223372036854775808 ≤ m) (m2 : m ≤ 9223372036854775807) (HX : Hid (fit ⟨i_o, i_d, i_a, i_b, i_n⟩ = ⟨x_o, x_d, x_a, x_b, x_n⟩)) (wx : Ins.wf ⟨x_o, x_d, x_a, x_b, x_n⟩)
    (HK : Hid (pick m 32 = k)) (k0 : 0 ≤ k) (k1 : k < 32) (p0 : 1 ≤ (2 : Int) ^ k.toNat) (p1 : (2 : Int) ^ k.toNat ≤ 2147483648) (HQ : Hid (pick g 4294967296 = q)) (q0 : 0 ≤ q) (q1 : q < 4294967296)
    (HV : Hid (encV ⟨x_o, x_d, x_a, x_b, x_n⟩ = v)) (HV0 : Hid (encE ⟨x_o, x_d, x_a, x_b, x_n⟩ = 0))  (v0 : 0 ≤ v) (v1 : v < 4294967296)
    (hA : AwakeIs) (hE : EncodeIs) (hD : DecodeIs) (hR : RightIs) (w : World) :
    Calls Try.prog 5 #[.int .i64 g, .agg #[.int .i64 i_o, .int .i64 i_d, .int .i64 i_a, .int .i64 i_b, .int .i64 i_n], .int .i64 m] w fun e w' => e = .returned (.bool true) ∧ Both w w' := by
  obtain ⟨g2, g3⟩ := g1
  go_enter Try.func5, Try.ntmps5
  go_wp2_with fail
  refine (hA _).mono ?_
  rintro e W1 ⟨rfl, hb⟩
  have sI := (Has5.new w 23 _ _ _ _ _).both hb
  have B1 := Lib.hid (Both.trans ((Both.refl w).alloc _ _) hb)
  clear hb
  obtain ⟨l, c0, c1, c2, c3, c4⟩ := sI
  go_wp2_with fail
  refine (fit_lit h1 HX.out _).mono ?_
  rintro e W2 ⟨rfl, hb⟩
  clear l c0 c1 c2 c3 c4
  have B2 := Lib.hid (B1.out.trans hb)
  clear hb B1
  go_wp2_with fail
  refine (enc_lit hE wx HV.out HV0.out _).mono ?_
  rintro e W3 ⟨rfl, hb⟩
  have B3 := Lib.hid (B2.out.trans hb)
  clear hb B2
  go_wp2_with fail
  refine (pick_lit g2 g3 (by omega) HQ.out _).mono ?_
  rintro e w' ⟨rfl, rfl⟩
  go_wp2_with fail
  refine (pick_lit m1 m2 (by omega) HK.out _).mono ?_
  rintro e w' ⟨rfl, rfl⟩
  go_wp2_with fail
  have hgq : inInt g := ⟨g2, g3⟩
  have hqq : inInt q := ⟨by omega, by omega⟩
  have hzz : inInt (bits .xor .i64 v (2 ^ k.toNat)) := bits_bd _ _ _
  have HG := Lib.hid hgq
  have HQQ := Lib.hid hqq
  have HZZ := Lib.hid hzz
  clear hgq hqq hzz
  go_loopw [33] (fun i wr => ∃ n : Nat, n ≤ 3 ∧ i = .int .i64 n ∧ Both (W3.alloc (Obj.cells #[Value.int IntKind.i64 g, Value.int IntKind.i64 q, Value.int IntKind.i64 (bits BinOp.xor IntKind.i64 v (2 ^ k.toNat))] 3)) wr) (fun i _ => 3 - (intOf i).toNat)
  case atStart => exact ⟨0, by omega, rfl, Both.refl _⟩
  case round =>
    obtain ⟨n, hn, rfl, hb⟩ := hrel
    by_cases hlt : n < 3
    · obtain ⟨z, hz, hcell⟩ : ∃ z : Int, inInt z ∧ wr.cell? ⟨W3.heap.size, n, none⟩ = some (.int .i64 z) := by
        have e1 := hb.cell (p := ⟨W3.heap.size, n, none⟩) (by show W3.heap.size < (W3.heap.push _).size; simp)
        obtain ⟨y, hy, e2⟩ := three_at HG.out HQQ.out HZZ.out n hlt
        refine ⟨y, hy, e1.trans ?_⟩
        rw [← e2]
        exact World.cell?_alloc_new W3 _ _ _
      have HB := Lib.hid hb
      have HZ := Lib.hid hz
      have ways := dec_ways z
      obtain ⟨y, hy⟩ : ∃ y, decV z = y := ⟨_, rfl⟩
      obtain ⟨u, hu⟩ : ∃ u, decE z = u := ⟨_, rfl⟩
      rw [hy, hu] at ways
      obtain ⟨y0, y1, y2, y3, y4⟩ := y
      have HY := Lib.hid hy
      have HU := Lib.hid hu
      clear hb hz hy hu HG HQQ HZZ HX HV HV0 HQ HK
      rcases ways with ⟨e, rfl⟩ | ⟨rfl, ry, e1, e2⟩
      · obtain rfl : y0 = 0 := congrArg Ins.op e
        obtain rfl : y1 = 0 := congrArg Ins.d e
        obtain rfl : y2 = 0 := congrArg Ins.a e
        obtain rfl : y3 = 0 := congrArg Ins.b e
        obtain rfl : y4 = 0 := congrArg Ins.n e
        clear e
        go_wp2_with fail
        refine (dec_lit hD HZ.out HY.out HU.out _).mono ?_
        rintro e W4 ⟨rfl, hb⟩
        have HB4 := Lib.hid (HB.out.trans hb)
        clear hb
        go_wp2_with fail
        go_roundw
        case rel => exact ⟨n + 1, by omega, by go_num, HB4.out.alloc _ _⟩
        case measure => simp [intOf]; omega
      · have wy := Lib.hid (wf_right ry)
        have RY := Lib.hid ry
        have E1 := Lib.hid e1
        have E2 := Lib.hid e2
        clear ry e1 e2
        go_wp2_with fail
        refine (dec_lit hD HZ.out HY.out HU.out _).mono ?_
        rintro e W4 ⟨rfl, hb⟩
        have HB4 := Lib.hid (HB.out.trans hb)
        clear hb hcell
        go_wp2_with fail
        refine (enc_lit hE wy.out E1.out E2.out _).mono ?_
        rintro e W5 ⟨rfl, hb⟩
        have sY := (Has5.new W4 23 _ _ _ _ _).both hb
        have HB5 := Lib.hid ((HB4.out.alloc _ _).trans hb)
        clear hb HB4
        obtain ⟨l, c0, c1, c2, c3, c4⟩ := sY
        go_wp2_with fail
        refine (right_lit hR wy.out RY.out _).mono ?_
        rintro e W6 ⟨rfl, hb⟩
        have HB6 := Lib.hid (HB5.out.trans hb)
        clear hb l c0 c1 c2 c3 c4
        go_wp2_with fail
        go_roundw
        case rel => exact ⟨n + 1, by omega, by go_num, HB6.out⟩
        case measure => simp [intOf]; omega
    · go_wp2_with fail
      go_ret
      exact ⟨rfl, (B3.out.alloc _ _).trans hb⟩
theorem forth_law (g : Int) (i : Ins) (m : Int) (hg : inInt g) (h1 : Ins.wf i) (hm : inInt m) (hA : AwakeIs) (hE : EncodeIs) (hD : DecodeIs) (hR : RightIs) (w : World) :
    Calls Try.prog 5 #[.int .i64 g, ival i, .int .i64 m] w fun e w' => e = .returned (.bool true) ∧ Both w w' := by
  have rx := right_fit i
  obtain ⟨k0, k1⟩ := pick_bd m 32 (by omega)
  obtain ⟨q0, q1⟩ := pick_bd g 4294967296 (by omega)
  obtain ⟨p0, p1⟩ := pow_bd (pick m 32) k0 k1
  obtain ⟨v0, v1⟩ := enc_bd rx
  have f1 := encV_right rx
  have f2 := encE_right rx
  have w1 := wf_right rx
  obtain ⟨x, hx⟩ : ∃ x, fit i = x := ⟨_, rfl⟩
  rw [hx] at f1 f2 v0 v1 w1
  obtain ⟨i0, i1, i2, i3, i4⟩ := i
  obtain ⟨x0, x1, x2, x3, x4⟩ := x
  exact forth_x _ _ _ _ _ x0 x1 x2 x3 x4 g m _ _ _ h1 hg hm.1 hm.2 hx w1 rfl k0 k1 p0 p1 rfl q0 q1 f1 f2 v0 v1 hA hE hD hR w
end Go.Proofs.Ytphnagkicboglaa
