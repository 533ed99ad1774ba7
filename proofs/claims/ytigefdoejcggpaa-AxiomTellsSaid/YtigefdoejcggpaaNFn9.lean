/- is, with: how far an order has come. -/
import Derived.Test.YtigefdoejcggpaaNFn8
import Derived.IntWalk
namespace Go.Proofs.Ytigefdoejcggpaa
open Go.RowKit Ax
set_option linter.unusedVariables false
set_option linter.unusedSimpArgs false
theorem i64_toNat (v : BitVec 64) : IntKind.i64.wrap (v.toNat : Int) = v.toInt := by
  rw [IntKind.wrap_i64, BitVec.toInt_eq_toNat_cond]
  have := v.isLt
  split <;> omega
theorem ofInt_nat (a : Nat) (ha : a < 4294967296) : (BitVec.ofInt 64 (a : Int)).toNat = a := by
  rw [BitVec.ofInt_natCast, BitVec.toNat_ofNat]; exact Nat.mod_eq_of_lt (by omega)
theorem and_nat (a b : Nat) (ha : a < 4294967296) (hb : b < 4294967296) : bits .and .i64 (a : Int) (b : Int) = ((a &&& b : Nat) : Int) := by
  have hx : a &&& b < 2 ^ 32 := Nat.and_lt_two_pow _ (by omega)
  show IntKind.i64.wrap ((BitVec.ofInt 64 (a : Int) &&& BitVec.ofInt 64 (b : Int)).toNat : Int) = _
  rw [BitVec.toNat_and, ofInt_nat a ha, ofInt_nat b hb, IntKind.wrap_i64]
  omega
theorem or_nat (a b : Nat) (ha : a < 4294967296) (hb : b < 4294967296) : bits .or .i64 (a : Int) (b : Int) = ((a ||| b : Nat) : Int) := by
  have hx : a ||| b < 2 ^ 32 := Nat.or_lt_two_pow (by omega) (by omega)
  show IntKind.i64.wrap ((BitVec.ofInt 64 (a : Int) ||| BitVec.ofInt 64 (b : Int)).toNat : Int) = _
  rw [BitVec.toNat_or, ofInt_nat a ha, ofInt_nat b hb, IntKind.wrap_i64]
  omega
theorem is_bit {h i : Nat} (hh : h < 256) : (bits .and .i64 ((h : Int) / 2 ^ i) 1 == 1) = h.testBit i := by
  have e : (h : Int) / 2 ^ i = ((h / 2 ^ i : Nat) : Int) := by push_cast; rfl
  have hlt : h / 2 ^ i < 4294967296 := Nat.lt_of_le_of_lt (Nat.div_le_self _ _) (by omega)
  rw [e, show (1 : Int) = ((1 : Nat) : Int) from rfl, and_nat _ _ hlt (by omega), Nat.and_one_is_mod, Nat.testBit_eq_decide_div_mod_eq]
  by_cases h1 : h / 2 ^ i % 2 = 1 <;> simp [h1]
  omega
set_option maxRecDepth 100000 in
theorem is_lit {h i : Nat} {a b c d : Int} (hh : h < 256) (hi : i < 8) {r : Bool} (hr : h.testBit i = r) (w : World) : Calls Try.prog 49 #[.agg #[.int .i64 (h : Int), .int .i64 a, .int .i64 b, .int .i64 c, .int .i64 d], .int .i64 (i : Int)] w (OneB r w) := by
  have HB := Lib.hid (box1 w #[.int .i64 (h : Int), .int .i64 a, .int .i64 b, .int .i64 c, .int .i64 d] 58).1
  have HR := Lib.hid ((is_bit (i := i) hh).trans hr)
  have hi0 : (0 : Int) ≤ i := by omega
  have hh0 : (0 : Int) ≤ h := by omega
  have hh1 : (h : Int) < 256 := by omega
  clear hr
  go_enter Try.func49, Try.ntmps49
  go_wp2
  go_ret
  exact ⟨rb HR.out, HB.out⟩
theorem or_shl {h i : Nat} (hh : h < 256) (hi : i < 8) : bits .or .i64 (h : Int) (wrap64 (2 ^ i)) = ((h ||| 1 <<< i : Nat) : Int) := by
  have e : (2 : Int) ^ i = ((2 ^ i : Nat) : Int) := by push_cast; rfl
  have h2 : 2 ^ i ≤ 2 ^ 7 := Nat.pow_le_pow_right (by omega) (by omega)
  rw [e, Nat.one_shiftLeft]
  generalize 2 ^ i = m at h2 ⊢
  rw [IntWalk.wrap64_in _ (by omega), or_nat _ _ (by omega) (by omega)]
theorem results_cell1 {P : Program} {fn : Func} {p : Tmp} {ty : TypeId} (h : fn.results = #[.cell p ty]) (tmps : Array Value) (w : World) (g : Nat) (t : TypeId) (cs : Array Value) (fr : Nat × Nat) (d : TypeDesc)
    (hp : tmps.getD p undef = .pointer (some ⟨g, 0, none⟩)) (hg : w.heap[g]? = some (.cells cs t fr))
    (hu : P.underlying ty = some d) (hd : (match d with | .struct _ | .array _ _ => true | _ => false) = true) (hi : (P.info? ty).map (·.size) = some cs.size) :
    (results fn tmps).run P w = .ok (.agg cs) w := by
  have hp' : tmps[p]?.getD undef = .pointer (some ⟨g, 0, none⟩) := by simpa using hp
  simp [results, h, hp', asAddr, run_loadVar_row w g t ty cs fr d hg hu hd hi]
theorem three_new (w : World) (a b c : Obj) : (((w.alloc a).alloc b).alloc c).heap[w.heap.size + 1 + 1]? = some c := by
  have h := heap_alloc_new ((w.alloc a).alloc b) c
  rw [World.size_alloc, World.size_alloc] at h
  exact h
set_option maxRecDepth 100000 in
theorem with_0 {h i : Nat} {a b c d x0 x1 x2 x3 : Int} (hh : h < 256) (hi : i < 8) (hx : x1 = 2) (ha : x2 = 0) (w : World) : Calls Try.prog 51 #[.agg #[.int .i64 (h : Int), .int .i64 a, .int .i64 b, .int .i64 c, .int .i64 d], .int .i64 (i : Int), .agg #[.int .i64 x0, .int .i64 x1, .int .i64 x2, .int .i64 x3]] w (fun e w' => e = .returned (.agg #[.int .i64 ((h ||| 1 <<< i : Nat) : Int), .int .i64 x3, .int .i64 b, .int .i64 c, .int .i64 d]) ∧ Bel w w') := by
  have hi0 : (0 : Int) ≤ i := by omega
  have hor := or_shl hh hi
  generalize ((h ||| 1 <<< i : Nat) : Int) = k at hor ⊢
  have hx2 : (x1 == 2) = true := by simp [hx]
  clear hx
  subst ha
  go_enter Try.func51, Try.ntmps51
  go_wp2
  go_region
  go_wp2
  exact bodyPost_ret (results_cell1 Try.results51 _ _ (w.heap.size + 1 + 1) _ _ _ _ rfl (three_new w _ _ _) Try.underlying58 rfl (by kernel_rfl)) rfl ⟨rfl, ((((Bel.refl w).alloc _ _).alloc _ _).alloc _ _).drew⟩
set_option maxRecDepth 100000 in
theorem with_1 {h i : Nat} {a b c d x0 x1 x2 x3 : Int} (hh : h < 256) (hi : i < 8) (hx : x1 = 2) (ha : x2 = 1) (w : World) : Calls Try.prog 51 #[.agg #[.int .i64 (h : Int), .int .i64 a, .int .i64 b, .int .i64 c, .int .i64 d], .int .i64 (i : Int), .agg #[.int .i64 x0, .int .i64 x1, .int .i64 x2, .int .i64 x3]] w (fun e w' => e = .returned (.agg #[.int .i64 ((h ||| 1 <<< i : Nat) : Int), .int .i64 a, .int .i64 x3, .int .i64 c, .int .i64 d]) ∧ Bel w w') := by
  have hi0 : (0 : Int) ≤ i := by omega
  have hor := or_shl hh hi
  generalize ((h ||| 1 <<< i : Nat) : Int) = k at hor ⊢
  have hx2 : (x1 == 2) = true := by simp [hx]
  clear hx
  subst ha
  go_enter Try.func51, Try.ntmps51
  go_wp2
  go_region
  go_wp2
  exact bodyPost_ret (results_cell1 Try.results51 _ _ (w.heap.size + 1 + 1) _ _ _ _ rfl (three_new w _ _ _) Try.underlying58 rfl (by kernel_rfl)) rfl ⟨rfl, ((((Bel.refl w).alloc _ _).alloc _ _).alloc _ _).drew⟩
set_option maxRecDepth 100000 in
theorem with_2 {h i : Nat} {a b c d x0 x1 x2 x3 : Int} (hh : h < 256) (hi : i < 8) (hx : x1 = 2) (ha : x2 = 2) (w : World) : Calls Try.prog 51 #[.agg #[.int .i64 (h : Int), .int .i64 a, .int .i64 b, .int .i64 c, .int .i64 d], .int .i64 (i : Int), .agg #[.int .i64 x0, .int .i64 x1, .int .i64 x2, .int .i64 x3]] w (fun e w' => e = .returned (.agg #[.int .i64 ((h ||| 1 <<< i : Nat) : Int), .int .i64 a, .int .i64 b, .int .i64 x3, .int .i64 d]) ∧ Bel w w') := by
  have hi0 : (0 : Int) ≤ i := by omega
  have hor := or_shl hh hi
  generalize ((h ||| 1 <<< i : Nat) : Int) = k at hor ⊢
  have hx2 : (x1 == 2) = true := by simp [hx]
  clear hx
  subst ha
  go_enter Try.func51, Try.ntmps51
  go_wp2
  go_region
  go_wp2
  exact bodyPost_ret (results_cell1 Try.results51 _ _ (w.heap.size + 1 + 1) _ _ _ _ rfl (three_new w _ _ _) Try.underlying58 rfl (by kernel_rfl)) rfl ⟨rfl, ((((Bel.refl w).alloc _ _).alloc _ _).alloc _ _).drew⟩
set_option maxRecDepth 100000 in
theorem with_3 {h i : Nat} {a b c d x0 x1 x2 x3 : Int} (hh : h < 256) (hi : i < 8) (hx : x1 = 2) (ha : x2 = 3) (w : World) : Calls Try.prog 51 #[.agg #[.int .i64 (h : Int), .int .i64 a, .int .i64 b, .int .i64 c, .int .i64 d], .int .i64 (i : Int), .agg #[.int .i64 x0, .int .i64 x1, .int .i64 x2, .int .i64 x3]] w (fun e w' => e = .returned (.agg #[.int .i64 ((h ||| 1 <<< i : Nat) : Int), .int .i64 a, .int .i64 b, .int .i64 c, .int .i64 x3]) ∧ Bel w w') := by
  have hi0 : (0 : Int) ≤ i := by omega
  have hor := or_shl hh hi
  generalize ((h ||| 1 <<< i : Nat) : Int) = k at hor ⊢
  have hx2 : (x1 == 2) = true := by simp [hx]
  clear hx
  subst ha
  go_enter Try.func51, Try.ntmps51
  go_wp2
  go_region
  go_wp2
  exact bodyPost_ret (results_cell1 Try.results51 _ _ (w.heap.size + 1 + 1) _ _ _ _ rfl (three_new w _ _ _) Try.underlying58 rfl (by kernel_rfl)) rfl ⟨rfl, ((((Bel.refl w).alloc _ _).alloc _ _).alloc _ _).drew⟩
set_option maxRecDepth 100000 in
theorem with_4 {h i : Nat} {a b c d x0 x1 x2 x3 : Int} (hh : h < 256) (hi : i < 8) (hx : ¬ x1 = 2) (w : World) : Calls Try.prog 51 #[.agg #[.int .i64 (h : Int), .int .i64 a, .int .i64 b, .int .i64 c, .int .i64 d], .int .i64 (i : Int), .agg #[.int .i64 x0, .int .i64 x1, .int .i64 x2, .int .i64 x3]] w (fun e w' => e = .returned (.agg #[.int .i64 ((h ||| 1 <<< i : Nat) : Int), .int .i64 a, .int .i64 b, .int .i64 c, .int .i64 d]) ∧ Bel w w') := by
  have hi0 : (0 : Int) ≤ i := by omega
  have hor := or_shl hh hi
  generalize ((h ||| 1 <<< i : Nat) : Int) = k at hor ⊢
  have hx2 : (x1 == 2) = false := by simp [hx]
  clear hx
  go_enter Try.func51, Try.ntmps51
  go_wp2
  go_region
  go_wp2
  exact bodyPost_ret (results_cell1 Try.results51 _ _ (w.heap.size + 1 + 1) _ _ _ _ rfl (three_new w _ _ _) Try.underlying58 rfl (by kernel_rfl)) rfl ⟨rfl, ((((Bel.refl w).alloc _ _).alloc _ _).alloc _ _).drew⟩
theorem with_lit {h i : Nat} {a b c d x0 x1 x2 x3 : Int} (hh : h < 256) (hi : i < 8) (hx : x1 = 2 → 0 ≤ x2 ∧ x2 < 4) {h' : Nat} {a' b' c' d' : Int} (hr : wth ⟨h, a, b, c, d⟩ i (x0, x1, x2, x3) = ⟨h', a', b', c', d'⟩) (w : World) : Calls Try.prog 51 #[.agg #[.int .i64 (h : Int), .int .i64 a, .int .i64 b, .int .i64 c, .int .i64 d], .int .i64 (i : Int), .agg #[.int .i64 x0, .int .i64 x1, .int .i64 x2, .int .i64 x3]] w (fun e w' => e = .returned (.agg #[.int .i64 (h' : Int), .int .i64 a', .int .i64 b', .int .i64 c', .int .i64 d']) ∧ Bel w w') := by
  unfold wth at hr
  injection hr with h1 h2
  subst h1
  by_cases hk : x1 = 2
  · obtain ⟨a0, a4⟩ := hx hk
    rw [if_pos hk] at h2
    have hc : x2 = 0 ∨ x2 = 1 ∨ x2 = 2 ∨ x2 = 3 := by omega
    rcases hc with e | e | e | e
    all_goals
      subst e
      simp [wset] at h2
      obtain ⟨rfl, rfl, rfl, rfl⟩ := h2
    · exact with_0 hh hi hk rfl w
    · exact with_1 hh hi hk rfl w
    · exact with_2 hh hi hk rfl w
    · exact with_3 hh hi hk rfl w
  · rw [if_neg hk] at h2
    simp at h2
    obtain ⟨rfl, rfl, rfl, rfl⟩ := h2
    exact with_4 hh hi hk w
theorem has_lt {h i : Nat} (hh : h < 256) (hi : i < 8) : h ||| 1 <<< i < 256 := by
  have h2 : 2 ^ i < 2 ^ 8 := Nat.pow_lt_pow_right (by omega) (by omega)
  rw [Nat.one_shiftLeft]
  exact Nat.or_lt_two_pow (n := 8) (by omega) h2
end Go.Proofs.Ytigefdoejcggpaa
