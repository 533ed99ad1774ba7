/- Words as plain numbers: what an instruction's word tells of its row, so that unlike right instructions have unlike words; and which instruction a word is. No Go program in sight. -/
import Derived.Test.YtgcgdjmlngfpeaaDoorCPlain
namespace Go.Proofs.YtgcgdjmlngfpeaaDoor.Rv
/-- what a right instruction's word is, by the class of its form, with plain parts in the places of the number's pieces -/
theorem enc_shape {i : Ins} (h : right i = true) :
    ((form i.op = 85 ∨ form i.op = 74) ∧ ∃ r, 0 ≤ r ∧ r < 33554432 ∧ enc i = low i.op + r * 128) ∨
    (form i.op ≠ 85 ∧ form i.op ≠ 74 ∧ ∃ p q r, 0 ≤ p ∧ p < 32 ∧ 0 ≤ q ∧ q < 1024 ∧ 0 ≤ r ∧ r < 128 ∧ enc i = low i.op + p * 128 + mid i.op * 4096 + q * 32768 + r * 33554432 ∧
      (form i.op = 82 ∨ form i.op = 72 ∨ form i.op = 90 → r = high i.op) ∧ (form i.op = 76 ∨ form i.op = 65 → r / 4 = high i.op / 4)) := by
  obtain ⟨h1, h2, hd, ha, hb, hn⟩ := right_parts h
  obtain ⟨b1, b2, b3, b4, b5, b6, b7, b8, b9, b10⟩ := bounds h1 h2
  have e := extra_bd i.op
  cases i with
  | mk op d a b n =>
    simp only at h1 h2 hd ha hb hn b1 b2 b3 b4 b5 b6 b7 b8 b9 b10 e
    rcases form_is h1 h2 with hf | hf | hf | hf | hf | hf | hf | hf | hf | hf | hf | hf
    all_goals
      rw [hf] at hd ha hb hn b8 b9 b10
      simp [hasD, hasA, hasB] at hd ha hb
      simp [num] at hn
      first | (have hd' := reg_yes hd) | (have hd' := reg_no hd)
      first | (have ha' := reg_yes ha) | (have ha' := reg_no ha)
      first | (have hb' := reg_yes hb) | (have hb' := reg_no hb)
      clear hd ha hb h
    case inl =>
      exact Or.inr ⟨by rw [hf]; decide, by rw [hf]; decide, d, a + b * 32, high op, by omega, by omega, by omega, by omega, b5, b6, by simp [enc, hf]; omega, fun _ => rfl, fun _ => rfl⟩
    case inr.inl =>
      exact Or.inr ⟨by rw [hf]; decide, by rw [hf]; decide, d, a + n % 4096 % 32 * 32, n % 4096 / 32, by omega, by omega, by omega, by omega, by omega, by omega, by simp [enc, hf]; omega, by rw [hf]; intro c; omega, by rw [hf]; intro c; omega⟩
    case inr.inr.inl =>
      exact Or.inr ⟨by rw [hf]; decide, by rw [hf]; decide, d, a + n % 4096 % 32 * 32, n % 4096 / 32, by omega, by omega, by omega, by omega, by omega, by omega, by simp [enc, hf]; omega, by rw [hf]; intro c; omega, by rw [hf]; intro c; omega⟩
    case inr.inr.inr.inl =>
      exact Or.inr ⟨by rw [hf]; decide, by rw [hf]; decide, d, a + n * 32, high op, by omega, by omega, by omega, by omega, b5, b6, by simp [enc, hf]; omega, fun _ => rfl, fun _ => rfl⟩
    case inr.inr.inr.inr.inl =>
      exact Or.inr ⟨by rw [hf]; decide, by rw [hf]; decide, n % 32, a + b * 32, n / 32 % 128, by omega, by omega, by omega, by omega, by omega, by omega, by simp [enc, hf]; omega, by rw [hf]; intro c; omega, by rw [hf]; intro c; omega⟩
    case inr.inr.inr.inr.inr.inl =>
      exact Or.inr ⟨by rw [hf]; decide, by rw [hf]; decide, n / 2048 % 2 + n / 2 % 16 * 2, a + b * 32, n / 32 % 64 + n / 4096 % 2 * 64, by omega, by omega, by omega, by omega, by omega, by omega, by simp [enc, hf]; omega, by rw [hf]; intro c; omega, by rw [hf]; intro c; omega⟩
    case inr.inr.inr.inr.inr.inr.inl =>
      exact Or.inl ⟨Or.inl hf, d + n * 32, by omega, by omega, by simp [enc, hf]; omega⟩
    case inr.inr.inr.inr.inr.inr.inr.inl =>
      exact Or.inl ⟨Or.inr hf, d + n / 4096 % 256 * 32 + n / 2048 % 2 * 8192 + n / 2 % 1024 * 16384 + n / 1048576 % 2 * 16777216, by omega, by omega, by simp [enc, hf]; omega⟩
    case inr.inr.inr.inr.inr.inr.inr.inr.inl =>
      exact Or.inr ⟨by rw [hf]; decide, by rw [hf]; decide, 0, n % 32 * 32, n / 32, by omega, by omega, by omega, by omega, by omega, by omega, by simp [enc, hf]; omega, by rw [hf]; intro c; omega, by rw [hf]; intro c; omega⟩
    case inr.inr.inr.inr.inr.inr.inr.inr.inr.inl =>
      exact Or.inr ⟨by rw [hf]; decide, by rw [hf]; decide, 0, extra op * 32, high op, by omega, by omega, by omega, by omega, b5, b6, by simp [enc, hf]; omega, fun _ => rfl, fun _ => rfl⟩
    case inr.inr.inr.inr.inr.inr.inr.inr.inr.inr.inl =>
      exact Or.inr ⟨by rw [hf]; decide, by rw [hf]; decide, d, a + b * 32, high op + n, by omega, by omega, by omega, by omega, by omega, by omega, by simp [enc, hf]; omega, by rw [hf]; intro c; omega, by intro _; have := b8 (Or.inl rfl); show (high op + n) / 4 = high op / 4; omega⟩
    case inr.inr.inr.inr.inr.inr.inr.inr.inr.inr.inr =>
      exact Or.inr ⟨by rw [hf]; decide, by rw [hf]; decide, d, a + b * 32, high op + n, by omega, by omega, by omega, by omega, by omega, by omega, by simp [enc, hf]; omega, by rw [hf]; intro c; omega, by intro _; have := b8 (Or.inr rfl); show (high op + n) / 4 = high op / 4; omega⟩
theorem enc_bd {i : Ins} (h : right i = true) : 0 ≤ enc i ∧ enc i < 4294967296 := by
  obtain ⟨h1, h2, _⟩ := right_parts h
  obtain ⟨b1, b2, b3, b4, _⟩ := bounds h1 h2
  rcases enc_shape h with ⟨_, r, r1, r2, e⟩ | ⟨_, _, p, q, r, p1, p2, q1, q2, r1, r2, e, _⟩
  · omega
  · omega
theorem enc_low {i : Ins} (h : right i = true) : enc i % 128 = low i.op := by
  obtain ⟨h1, h2, _⟩ := right_parts h
  obtain ⟨b1, b2, b3, b4, _⟩ := bounds h1 h2
  rcases enc_shape h with ⟨_, r, r1, r2, e⟩ | ⟨_, _, p, q, r, p1, p2, q1, q2, r1, r2, e, _⟩
  · omega
  · omega
/-- are two rows told apart by nothing that their words always bear? -/
def alike (x y : Int) : Bool :=
  decide (low x = low y) && (decide (form x = 85 ∨ form x = 74 ∨ form y = 85 ∨ form y = 74) || (decide (mid x = mid y) &&
    (!decide ((form x = 82 ∨ form x = 72 ∨ form x = 90) ∧ (form y = 82 ∨ form y = 72 ∨ form y = 90)) || decide (high x = high y)) &&
    (!decide ((form x = 76 ∨ form x = 65) ∧ (form y = 76 ∨ form y = 65)) || decide (high x / 4 = high y / 4))))
theorem alike_one {x y : Int} (x1 : 1 ≤ x) (x2 : x ≤ 49) (y1 : 1 ≤ y) (y2 : y ≤ 49) (h : alike x y = true) : x = y := by
  have all : ∀ j k : Fin 49, alike (((j : Nat) : Int) + 1) (((k : Nat) : Int) + 1) = true → j = k := by decide +kernel
  obtain ⟨j, hj⟩ := Int.eq_ofNat_of_zero_le (show 0 ≤ x - 1 by omega)
  obtain ⟨k, hk⟩ := Int.eq_ofNat_of_zero_le (show 0 ≤ y - 1 by omega)
  have ex : x = (j : Int) + 1 := by omega
  have ey : y = (k : Int) + 1 := by omega
  rw [ex, ey] at h
  have := all ⟨j, by omega⟩ ⟨k, by omega⟩ h
  have e : j = k := congrArg Fin.val this
  omega
theorem op_of_enc {i j : Ins} (hi : right i = true) (hj : right j = true) (h : enc i = enc j) : i.op = j.op := by
  obtain ⟨i1, i2, _⟩ := right_parts hi
  obtain ⟨j1, j2, _⟩ := right_parts hj
  obtain ⟨b1, b2, b3, b4, _⟩ := bounds i1 i2
  obtain ⟨c1, c2, c3, c4, _⟩ := bounds j1 j2
  have hl : low i.op = low j.op := by rw [← enc_low hi, ← enc_low hj, h]
  refine alike_one i1 i2 j1 j2 ?_
  unfold alike
  rw [decide_eq_true hl, Bool.true_and]
  rcases enc_shape hi with ⟨fi, _⟩ | ⟨fi, fi', p, q, r, p1, p2, q1, q2, r1, r2, e, k1, k2⟩
  · have : form i.op = 85 ∨ form i.op = 74 ∨ form j.op = 85 ∨ form j.op = 74 := by omega
    rw [decide_eq_true this, Bool.true_or]
  rcases enc_shape hj with ⟨fj, _⟩ | ⟨fj, fj', p', q', r', p1', p2', q1', q2', r1', r2', e', k1', k2'⟩
  · have : form i.op = 85 ∨ form i.op = 74 ∨ form j.op = 85 ∨ form j.op = 74 := by omega
    rw [decide_eq_true this, Bool.true_or]
  rw [e, e', hl] at h
  have hm : mid i.op = mid j.op := by omega
  have hr : r = r' := by omega
  have g1 : (!decide ((form i.op = 82 ∨ form i.op = 72 ∨ form i.op = 90) ∧ (form j.op = 82 ∨ form j.op = 72 ∨ form j.op = 90)) || decide (high i.op = high j.op)) = true := by
    by_cases c : (form i.op = 82 ∨ form i.op = 72 ∨ form i.op = 90) ∧ (form j.op = 82 ∨ form j.op = 72 ∨ form j.op = 90)
    · have := k1 c.1
      have := k1' c.2
      rw [decide_eq_true (show high i.op = high j.op by omega), Bool.or_true]
    · rw [decide_eq_false c, Bool.not_false, Bool.true_or]
  have g2 : (!decide ((form i.op = 76 ∨ form i.op = 65) ∧ (form j.op = 76 ∨ form j.op = 65)) || decide (high i.op / 4 = high j.op / 4)) = true := by
    by_cases c : (form i.op = 76 ∨ form i.op = 65) ∧ (form j.op = 76 ∨ form j.op = 65)
    · have := k2 c.1
      have := k2' c.2
      rw [decide_eq_true (show high i.op / 4 = high j.op / 4 by omega), Bool.or_true]
    · rw [decide_eq_false c, Bool.not_false, Bool.true_or]
  rw [decide_eq_true hm, g1, g2]
  simp
/-- unlike right instructions have unlike words -/
theorem enc_inj {i j : Ins} (hi : right i = true) (hj : right j = true) (h : enc i = enc j) : i = j := by
  have e := op_of_enc hi hj h
  rw [← rd_enc hi, ← rd_enc hj, e, h]
/-- is a word the one that the row's instruction would have? -/
def hit (w op : Int) : Bool := right (rd op w) && decide (enc (rd op w) = w)
def dec (w : Int) : Option Ins := (List.range 49).findSome? fun (k : Nat) => if hit w ((k : Int) + 1) then some (rd ((k : Int) + 1) w) else none
theorem dec_some {w : Int} {i : Ins} (h : dec w = some i) : right i = true ∧ enc i = w := by
  unfold dec at h
  obtain ⟨k, _, hk⟩ := List.exists_of_findSome?_eq_some h
  split at hk
  · rename_i hh
    simp only [hit, Bool.and_eq_true, decide_eq_true_eq] at hh
    obtain rfl := Option.some.inj hk
    exact hh
  · cases hk
theorem dec_enc {i : Ins} (h : right i = true) : dec (enc i) = some i := by
  obtain ⟨h1, h2, _⟩ := right_parts h
  cases hd : dec (enc i) with
  | none =>
    exfalso
    unfold dec at hd
    rw [List.findSome?_eq_none_iff] at hd
    obtain ⟨k, hk⟩ := Int.eq_ofNat_of_zero_le (show 0 ≤ i.op - 1 by omega)
    have e : (k : Int) + 1 = i.op := by omega
    have := hd k (List.mem_range.2 (by omega))
    rw [e] at this
    have hh : hit (enc i) i.op = true := by
      unfold hit
      rw [rd_enc h, h, decide_eq_true rfl]
      rfl
    rw [if_pos hh] at this
    cases this
  | some j =>
    obtain ⟨hj, ej⟩ := dec_some hd
    rw [enc_inj hj h ej]
theorem dec_none {w : Int} (h : dec w = none) (i : Ins) (hi : right i = true) : enc i ≠ w := by
  intro e
  rw [← e, dec_enc hi] at h
  cases h
/-! ### of a raw instruction a right one -/
def pick (c n : Int) : Int := if c < 0 then (-(c + 1)) % n else c % n
theorem pick_neg {c : Int} (n : Int) (h : c < 0) : -((c + 1).tmod n) = pick c n := by
  rw [← Int.neg_tmod, Int.tmod_eq_emod_of_nonneg (by omega)]
  exact (if_pos h).symm
theorem pick_pos {c : Int} (n : Int) (h : ¬ c < 0) : c % n = pick c n := (if_neg h).symm
theorem pick_bd (c n : Int) (h : 1 ≤ n) : 0 ≤ pick c n ∧ pick c n < n := by
  unfold pick
  split
  · exact ⟨Int.emod_nonneg _ (by omega), Int.emod_lt_of_pos _ (by omega)⟩
  · exact ⟨Int.emod_nonneg _ (by omega), Int.emod_lt_of_pos _ (by omega)⟩
def fitN (f n : Int) : Int :=
  if f = 73 ∨ f = 83 then pick n 4096 - 2048 else
  if f = 72 then pick n 32 else
  if f = 66 then 2 * pick n 4096 - 4096 else
  if f = 85 then pick n 1048576 else
  if f = 74 then 2 * pick n 1048576 - 1048576 else
  if f = 70 then pick n 256 else
  if f = 67 then pick n 4096 else
  if f = 76 ∨ f = 65 then pick n 4 else 0
def fit (i : Ins) : Ins :=
  { op := 1 + pick i.op 49, d := if hasD (form (1 + pick i.op 49)) then pick i.d 32 else 0, a := if hasA (form (1 + pick i.op 49)) then pick i.a 32 else 0,
    b := if hasB (form (1 + pick i.op 49)) then pick i.b 32 else 0, n := fitN (form (1 + pick i.op 49)) i.n }
theorem reg_ok {n : Int} (b : Bool) (h : 0 ≤ n ∧ n < 32) : reg (if b then n else 0) b = true := by
  cases b
  · simp [reg]
  · simp [reg]
    omega
theorem num_fit (f n : Int) : num f (fitN f n) = true := by
  have h1 := pick_bd n 4096 (by omega)
  have h2 := pick_bd n 32 (by omega)
  have h3 := pick_bd n 1048576 (by omega)
  have h4 := pick_bd n 256 (by omega)
  have h5 := pick_bd n 4 (by omega)
  unfold num fitN
  by_cases c0 : f = 73 ∨ f = 83
  · rw [if_pos c0, if_pos c0]
    exact decide_eq_true (by omega)
  rw [if_neg c0, if_neg c0]
  by_cases c1 : f = 72
  · rw [if_pos c1, if_pos c1]
    exact decide_eq_true (by omega)
  rw [if_neg c1, if_neg c1]
  by_cases c2 : f = 66
  · rw [if_pos c2, if_pos c2]
    exact decide_eq_true (by omega)
  rw [if_neg c2, if_neg c2]
  by_cases c3 : f = 85
  · rw [if_pos c3, if_pos c3]
    exact decide_eq_true (by omega)
  rw [if_neg c3, if_neg c3]
  by_cases c4 : f = 74
  · rw [if_pos c4, if_pos c4]
    exact decide_eq_true (by omega)
  rw [if_neg c4, if_neg c4]
  by_cases c5 : f = 70
  · rw [if_pos c5, if_pos c5]
    exact decide_eq_true (by omega)
  rw [if_neg c5, if_neg c5]
  by_cases c6 : f = 67
  · rw [if_pos c6, if_pos c6]
    exact decide_eq_true (by omega)
  rw [if_neg c6, if_neg c6]
  by_cases c7 : f = 76 ∨ f = 65
  · rw [if_pos c7, if_pos c7]
    exact decide_eq_true (by omega)
  rw [if_neg c7, if_neg c7]
  rfl
theorem right_fit (i : Ins) : right (fit i) = true := by
  have h := pick_bd i.op 49 (by omega)
  have hd := reg_ok (hasD (form (1 + pick i.op 49))) (pick_bd i.d 32 (by omega))
  have ha := reg_ok (hasA (form (1 + pick i.op 49))) (pick_bd i.a 32 (by omega))
  have hb := reg_ok (hasB (form (1 + pick i.op 49))) (pick_bd i.b 32 (by omega))
  have hn := num_fit (form (1 + pick i.op 49)) i.n
  have ho : decide (1 ≤ 1 + pick i.op 49 ∧ 1 + pick i.op 49 ≤ 49) = true := decide_eq_true (by omega)
  unfold right fit
  simp only [ho, hd, ha, hb, hn, Bool.and_self]
theorem reg_bd {n : Int} {b : Bool} (h : reg n b = true) : 0 ≤ n ∧ n < 32 := by
  cases b
  · have := reg_no h
    omega
  · exact reg_yes h
theorem num_bd {f n : Int} (h : num f n = true) : -1048576 ≤ n ∧ n < 1048576 := by
  unfold num at h
  by_cases c0 : f = 73 ∨ f = 83
  · rw [if_pos c0] at h
    have := of_decide_eq_true h
    omega
  rw [if_neg c0] at h
  by_cases c1 : f = 72
  · rw [if_pos c1] at h
    have := of_decide_eq_true h
    omega
  rw [if_neg c1] at h
  by_cases c2 : f = 66
  · rw [if_pos c2] at h
    have := of_decide_eq_true h
    omega
  rw [if_neg c2] at h
  by_cases c3 : f = 85
  · rw [if_pos c3] at h
    have := of_decide_eq_true h
    omega
  rw [if_neg c3] at h
  by_cases c4 : f = 74
  · rw [if_pos c4] at h
    have := of_decide_eq_true h
    omega
  rw [if_neg c4] at h
  by_cases c5 : f = 70
  · rw [if_pos c5] at h
    have := of_decide_eq_true h
    omega
  rw [if_neg c5] at h
  by_cases c6 : f = 67
  · rw [if_pos c6] at h
    have := of_decide_eq_true h
    omega
  rw [if_neg c6] at h
  by_cases c7 : f = 76 ∨ f = 65
  · rw [if_pos c7] at h
    have := of_decide_eq_true h
    omega
  rw [if_neg c7] at h
  have := of_decide_eq_true h
  omega
theorem right_bd {i : Ins} (h : right i = true) : (1 ≤ i.op ∧ i.op ≤ 49) ∧ (0 ≤ i.d ∧ i.d < 32) ∧ (0 ≤ i.a ∧ i.a < 32) ∧ (0 ≤ i.b ∧ i.b < 32) ∧ (-1048576 ≤ i.n ∧ i.n < 1048576) := by
  obtain ⟨h1, h2, hd, ha, hb, hn⟩ := right_parts h
  exact ⟨⟨h1, h2⟩, reg_bd hd, reg_bd ha, reg_bd hb, num_bd hn⟩
end Go.Proofs.YtgcgdjmlngfpeaaDoor.Rv
