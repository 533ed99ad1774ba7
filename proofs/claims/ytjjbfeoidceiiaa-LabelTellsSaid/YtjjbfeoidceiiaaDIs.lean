/- The words that package code makes, the rows that it tells, and the instructions that it takes out of words are the plain functions' own. No walk in sight. -/
import Derived.Test.YtjjbfeoidceiiaaDClr
namespace Go.Proofs.Ytjjbfeoidceiiaa
open Go.RowKit Rv
set_option linter.unusedVariables false
set_option linter.unusedSimpArgs false
def rowBits (op : Int) : Int := bitsV (low op) (mid op) (high op) (extra op)
theorem rowBits_is {op : Int} (h1 : 1 ≤ op) (h2 : op ≤ 49) : rowBits op = low op + mid op * 4096 + extra op * 1048576 + high op * 33554432 := by
  obtain ⟨b1, b2, b3, b4, b5, b6, b7, b8, b9, b10⟩ := bounds h1 h2
  have e := extra_bd op
  exact bitsV_is b1 b2 b3 b4 b5 b6 e.1 e.2
theorem encB_R {op d a b n : Int} (h1 : 1 ≤ op) (h2 : op ≤ 49) (hf : form op = 82) (h : right ⟨op, d, a, b, n⟩ = true) : bits .or .i64 (rowBits op) (layK d a b n (six (pcs 82)) 6) = enc ⟨op, d, a, b, n⟩ := by
  obtain ⟨b1, b2, b3, b4, b5, b6, b7, b8, b9, b10⟩ := bounds h1 h2
  obtain ⟨g1, g2⟩ := bounds2 h1 h2
  have e := extra_bd op
  obtain ⟨_, _, hd, ha, hb, hn⟩ := right_parts h
  simp only at hd ha hb hn
  rw [hf] at hd ha hb hn b8 b9 b10 g1 g2
  simp [hasD, hasA, hasB] at hd ha hb
  simp [num] at hn
  first | (have hd' := reg_yes hd) | (have hd' := reg_no hd)
  first | (have ha' := reg_yes ha) | (have ha' := reg_no ha)
  first | (have hb' := reg_yes hb) | (have hb' := reg_no hb)
  have he : extra op = 0 := by simpa using b10
  rw [or_lay _ _ _ _ _ _ _ (by rw [rowBits_is h1 h2]; omega) (by rw [rowBits_is h1 h2]; omega), rowBits_is h1 h2, layB_R b1 b2 b3 b4 b5 b6 e.1 e.2 he]
  simp [enc, hf]
  omega
theorem encB_I {op d a b n : Int} (h1 : 1 ≤ op) (h2 : op ≤ 49) (hf : form op = 73) (h : right ⟨op, d, a, b, n⟩ = true) : bits .or .i64 (rowBits op) (layK d a b n (six (pcs 73)) 6) = enc ⟨op, d, a, b, n⟩ := by
  obtain ⟨b1, b2, b3, b4, b5, b6, b7, b8, b9, b10⟩ := bounds h1 h2
  obtain ⟨g1, g2⟩ := bounds2 h1 h2
  have e := extra_bd op
  obtain ⟨_, _, hd, ha, hb, hn⟩ := right_parts h
  simp only at hd ha hb hn
  rw [hf] at hd ha hb hn b8 b9 b10 g1 g2
  simp [hasD, hasA, hasB] at hd ha hb
  simp [num] at hn
  first | (have hd' := reg_yes hd) | (have hd' := reg_no hd)
  first | (have ha' := reg_yes ha) | (have ha' := reg_no ha)
  first | (have hb' := reg_yes hb) | (have hb' := reg_no hb)
  have he : extra op = 0 := by simpa using b10
  have hh : high op = 0 := b9 (by decide)
  rw [or_lay _ _ _ _ _ _ _ (by rw [rowBits_is h1 h2]; omega) (by rw [rowBits_is h1 h2]; omega), rowBits_is h1 h2, layB_I b1 b2 b3 b4 b5 b6 e.1 e.2 he hh]
  simp [enc, hf]
  omega
theorem encB_C {op d a b n : Int} (h1 : 1 ≤ op) (h2 : op ≤ 49) (hf : form op = 67) (h : right ⟨op, d, a, b, n⟩ = true) : bits .or .i64 (rowBits op) (layK d a b n (six (pcs 67)) 6) = enc ⟨op, d, a, b, n⟩ := by
  obtain ⟨b1, b2, b3, b4, b5, b6, b7, b8, b9, b10⟩ := bounds h1 h2
  obtain ⟨g1, g2⟩ := bounds2 h1 h2
  have e := extra_bd op
  obtain ⟨_, _, hd, ha, hb, hn⟩ := right_parts h
  simp only at hd ha hb hn
  rw [hf] at hd ha hb hn b8 b9 b10 g1 g2
  simp [hasD, hasA, hasB] at hd ha hb
  simp [num] at hn
  first | (have hd' := reg_yes hd) | (have hd' := reg_no hd)
  first | (have ha' := reg_yes ha) | (have ha' := reg_no ha)
  first | (have hb' := reg_yes hb) | (have hb' := reg_no hb)
  have he : extra op = 0 := by simpa using b10
  have hh : high op = 0 := b9 (by decide)
  rw [or_lay _ _ _ _ _ _ _ (by rw [rowBits_is h1 h2]; omega) (by rw [rowBits_is h1 h2]; omega), rowBits_is h1 h2, layB_C b1 b2 b3 b4 b5 b6 e.1 e.2 he hh]
  simp [enc, hf]
  omega
theorem encB_H {op d a b n : Int} (h1 : 1 ≤ op) (h2 : op ≤ 49) (hf : form op = 72) (h : right ⟨op, d, a, b, n⟩ = true) : bits .or .i64 (rowBits op) (layK d a b n (six (pcs 72)) 6) = enc ⟨op, d, a, b, n⟩ := by
  obtain ⟨b1, b2, b3, b4, b5, b6, b7, b8, b9, b10⟩ := bounds h1 h2
  obtain ⟨g1, g2⟩ := bounds2 h1 h2
  have e := extra_bd op
  obtain ⟨_, _, hd, ha, hb, hn⟩ := right_parts h
  simp only at hd ha hb hn
  rw [hf] at hd ha hb hn b8 b9 b10 g1 g2
  simp [hasD, hasA, hasB] at hd ha hb
  simp [num] at hn
  first | (have hd' := reg_yes hd) | (have hd' := reg_no hd)
  first | (have ha' := reg_yes ha) | (have ha' := reg_no ha)
  first | (have hb' := reg_yes hb) | (have hb' := reg_no hb)
  have he : extra op = 0 := by simpa using b10
  rw [or_lay _ _ _ _ _ _ _ (by rw [rowBits_is h1 h2]; omega) (by rw [rowBits_is h1 h2]; omega), rowBits_is h1 h2, layB_H b1 b2 b3 b4 b5 b6 e.1 e.2 he]
  simp [enc, hf]
  omega
theorem encB_S {op d a b n : Int} (h1 : 1 ≤ op) (h2 : op ≤ 49) (hf : form op = 83) (h : right ⟨op, d, a, b, n⟩ = true) : bits .or .i64 (rowBits op) (layK d a b n (six (pcs 83)) 6) = enc ⟨op, d, a, b, n⟩ := by
  obtain ⟨b1, b2, b3, b4, b5, b6, b7, b8, b9, b10⟩ := bounds h1 h2
  obtain ⟨g1, g2⟩ := bounds2 h1 h2
  have e := extra_bd op
  obtain ⟨_, _, hd, ha, hb, hn⟩ := right_parts h
  simp only at hd ha hb hn
  rw [hf] at hd ha hb hn b8 b9 b10 g1 g2
  simp [hasD, hasA, hasB] at hd ha hb
  simp [num] at hn
  first | (have hd' := reg_yes hd) | (have hd' := reg_no hd)
  first | (have ha' := reg_yes ha) | (have ha' := reg_no ha)
  first | (have hb' := reg_yes hb) | (have hb' := reg_no hb)
  have he : extra op = 0 := by simpa using b10
  have hh : high op = 0 := g2 (by decide)
  rw [or_lay _ _ _ _ _ _ _ (by rw [rowBits_is h1 h2]; omega) (by rw [rowBits_is h1 h2]; omega), rowBits_is h1 h2, layB_S b1 b2 b3 b4 b5 b6 e.1 e.2 he hh]
  simp [enc, hf]
  omega
theorem encB_B {op d a b n : Int} (h1 : 1 ≤ op) (h2 : op ≤ 49) (hf : form op = 66) (h : right ⟨op, d, a, b, n⟩ = true) : bits .or .i64 (rowBits op) (layK d a b n (six (pcs 66)) 6) = enc ⟨op, d, a, b, n⟩ := by
  obtain ⟨b1, b2, b3, b4, b5, b6, b7, b8, b9, b10⟩ := bounds h1 h2
  obtain ⟨g1, g2⟩ := bounds2 h1 h2
  have e := extra_bd op
  obtain ⟨_, _, hd, ha, hb, hn⟩ := right_parts h
  simp only at hd ha hb hn
  rw [hf] at hd ha hb hn b8 b9 b10 g1 g2
  simp [hasD, hasA, hasB] at hd ha hb
  simp [num] at hn
  first | (have hd' := reg_yes hd) | (have hd' := reg_no hd)
  first | (have ha' := reg_yes ha) | (have ha' := reg_no ha)
  first | (have hb' := reg_yes hb) | (have hb' := reg_no hb)
  have he : extra op = 0 := by simpa using b10
  have hh : high op = 0 := g2 (by decide)
  rw [or_lay _ _ _ _ _ _ _ (by rw [rowBits_is h1 h2]; omega) (by rw [rowBits_is h1 h2]; omega), rowBits_is h1 h2, layB_B b1 b2 b3 b4 b5 b6 e.1 e.2 he hh]
  simp [enc, hf]
  omega
theorem encB_U {op d a b n : Int} (h1 : 1 ≤ op) (h2 : op ≤ 49) (hf : form op = 85) (h : right ⟨op, d, a, b, n⟩ = true) : bits .or .i64 (rowBits op) (layK d a b n (six (pcs 85)) 6) = enc ⟨op, d, a, b, n⟩ := by
  obtain ⟨b1, b2, b3, b4, b5, b6, b7, b8, b9, b10⟩ := bounds h1 h2
  obtain ⟨g1, g2⟩ := bounds2 h1 h2
  have e := extra_bd op
  obtain ⟨_, _, hd, ha, hb, hn⟩ := right_parts h
  simp only at hd ha hb hn
  rw [hf] at hd ha hb hn b8 b9 b10 g1 g2
  simp [hasD, hasA, hasB] at hd ha hb
  simp [num] at hn
  first | (have hd' := reg_yes hd) | (have hd' := reg_no hd)
  first | (have ha' := reg_yes ha) | (have ha' := reg_no ha)
  first | (have hb' := reg_yes hb) | (have hb' := reg_no hb)
  have he : extra op = 0 := by simpa using b10
  have hm : mid op = 0 := (g1 (by decide)).1
  have hh : high op = 0 := (g1 (by decide)).2
  rw [or_lay _ _ _ _ _ _ _ (by rw [rowBits_is h1 h2]; omega) (by rw [rowBits_is h1 h2]; omega), rowBits_is h1 h2, layB_U b1 b2 b3 b4 b5 b6 e.1 e.2 he hm hh]
  simp [enc, hf]
  omega
theorem encB_J {op d a b n : Int} (h1 : 1 ≤ op) (h2 : op ≤ 49) (hf : form op = 74) (h : right ⟨op, d, a, b, n⟩ = true) : bits .or .i64 (rowBits op) (layK d a b n (six (pcs 74)) 6) = enc ⟨op, d, a, b, n⟩ := by
  obtain ⟨b1, b2, b3, b4, b5, b6, b7, b8, b9, b10⟩ := bounds h1 h2
  obtain ⟨g1, g2⟩ := bounds2 h1 h2
  have e := extra_bd op
  obtain ⟨_, _, hd, ha, hb, hn⟩ := right_parts h
  simp only at hd ha hb hn
  rw [hf] at hd ha hb hn b8 b9 b10 g1 g2
  simp [hasD, hasA, hasB] at hd ha hb
  simp [num] at hn
  first | (have hd' := reg_yes hd) | (have hd' := reg_no hd)
  first | (have ha' := reg_yes ha) | (have ha' := reg_no ha)
  first | (have hb' := reg_yes hb) | (have hb' := reg_no hb)
  have he : extra op = 0 := by simpa using b10
  have hm : mid op = 0 := (g1 (by decide)).1
  have hh : high op = 0 := (g1 (by decide)).2
  rw [or_lay _ _ _ _ _ _ _ (by rw [rowBits_is h1 h2]; omega) (by rw [rowBits_is h1 h2]; omega), rowBits_is h1 h2, layB_J b1 b2 b3 b4 b5 b6 e.1 e.2 he hm hh]
  simp [enc, hf]
  omega
theorem encB_F {op d a b n : Int} (h1 : 1 ≤ op) (h2 : op ≤ 49) (hf : form op = 70) (h : right ⟨op, d, a, b, n⟩ = true) : bits .or .i64 (rowBits op) (layK d a b n (six (pcs 70)) 6) = enc ⟨op, d, a, b, n⟩ := by
  obtain ⟨b1, b2, b3, b4, b5, b6, b7, b8, b9, b10⟩ := bounds h1 h2
  obtain ⟨g1, g2⟩ := bounds2 h1 h2
  have e := extra_bd op
  obtain ⟨_, _, hd, ha, hb, hn⟩ := right_parts h
  simp only at hd ha hb hn
  rw [hf] at hd ha hb hn b8 b9 b10 g1 g2
  simp [hasD, hasA, hasB] at hd ha hb
  simp [num] at hn
  first | (have hd' := reg_yes hd) | (have hd' := reg_no hd)
  first | (have ha' := reg_yes ha) | (have ha' := reg_no ha)
  first | (have hb' := reg_yes hb) | (have hb' := reg_no hb)
  have he : extra op = 0 := by simpa using b10
  have hh : high op = 0 := b9 (by decide)
  rw [or_lay _ _ _ _ _ _ _ (by rw [rowBits_is h1 h2]; omega) (by rw [rowBits_is h1 h2]; omega), rowBits_is h1 h2, layB_F b1 b2 b3 b4 b5 b6 e.1 e.2 he hh]
  simp [enc, hf]
  omega
theorem encB_Z {op d a b n : Int} (h1 : 1 ≤ op) (h2 : op ≤ 49) (hf : form op = 90) (h : right ⟨op, d, a, b, n⟩ = true) : bits .or .i64 (rowBits op) (layK d a b n (six (pcs 90)) 6) = enc ⟨op, d, a, b, n⟩ := by
  obtain ⟨b1, b2, b3, b4, b5, b6, b7, b8, b9, b10⟩ := bounds h1 h2
  obtain ⟨g1, g2⟩ := bounds2 h1 h2
  have e := extra_bd op
  obtain ⟨_, _, hd, ha, hb, hn⟩ := right_parts h
  simp only at hd ha hb hn
  rw [hf] at hd ha hb hn b8 b9 b10 g1 g2
  simp [hasD, hasA, hasB] at hd ha hb
  simp [num] at hn
  first | (have hd' := reg_yes hd) | (have hd' := reg_no hd)
  first | (have ha' := reg_yes ha) | (have ha' := reg_no ha)
  first | (have hb' := reg_yes hb) | (have hb' := reg_no hb)
  rw [or_lay _ _ _ _ _ _ _ (by rw [rowBits_is h1 h2]; omega) (by rw [rowBits_is h1 h2]; omega), rowBits_is h1 h2, layB_Z b1 b2 b3 b4 b5 b6 e.1 e.2 ]
  simp [enc, hf]
  omega
theorem encB_L {op d a b n : Int} (h1 : 1 ≤ op) (h2 : op ≤ 49) (hf : form op = 76) (h : right ⟨op, d, a, b, n⟩ = true) : bits .or .i64 (rowBits op) (layK d a b n (six (pcs 76)) 6) = enc ⟨op, d, a, b, n⟩ := by
  obtain ⟨b1, b2, b3, b4, b5, b6, b7, b8, b9, b10⟩ := bounds h1 h2
  obtain ⟨g1, g2⟩ := bounds2 h1 h2
  have e := extra_bd op
  obtain ⟨_, _, hd, ha, hb, hn⟩ := right_parts h
  simp only at hd ha hb hn
  rw [hf] at hd ha hb hn b8 b9 b10 g1 g2
  simp [hasD, hasA, hasB] at hd ha hb
  simp [num] at hn
  first | (have hd' := reg_yes hd) | (have hd' := reg_no hd)
  first | (have ha' := reg_yes ha) | (have ha' := reg_no ha)
  first | (have hb' := reg_yes hb) | (have hb' := reg_no hb)
  have he : extra op = 0 := by simpa using b10
  have hh : high op % 4 = 0 := (b8 (by decide)).1
  rw [or_lay _ _ _ _ _ _ _ (by rw [rowBits_is h1 h2]; omega) (by rw [rowBits_is h1 h2]; omega), rowBits_is h1 h2, layB_L b1 b2 b3 b4 b5 b6 e.1 e.2 he hh]
  simp [enc, hf]
  omega
theorem encB_A {op d a b n : Int} (h1 : 1 ≤ op) (h2 : op ≤ 49) (hf : form op = 65) (h : right ⟨op, d, a, b, n⟩ = true) : bits .or .i64 (rowBits op) (layK d a b n (six (pcs 65)) 6) = enc ⟨op, d, a, b, n⟩ := by
  obtain ⟨b1, b2, b3, b4, b5, b6, b7, b8, b9, b10⟩ := bounds h1 h2
  obtain ⟨g1, g2⟩ := bounds2 h1 h2
  have e := extra_bd op
  obtain ⟨_, _, hd, ha, hb, hn⟩ := right_parts h
  simp only at hd ha hb hn
  rw [hf] at hd ha hb hn b8 b9 b10 g1 g2
  simp [hasD, hasA, hasB] at hd ha hb
  simp [num] at hn
  first | (have hd' := reg_yes hd) | (have hd' := reg_no hd)
  first | (have ha' := reg_yes ha) | (have ha' := reg_no ha)
  first | (have hb' := reg_yes hb) | (have hb' := reg_no hb)
  have he : extra op = 0 := by simpa using b10
  have hh : high op % 4 = 0 := (b8 (by decide)).1
  rw [or_lay _ _ _ _ _ _ _ (by rw [rowBits_is h1 h2]; omega) (by rw [rowBits_is h1 h2]; omega), rowBits_is h1 h2, layB_A b1 b2 b3 b4 b5 b6 e.1 e.2 he hh]
  simp [enc, hf]
  omega
theorem enc_is {op d a b n : Int} (h : right ⟨op, d, a, b, n⟩ = true) : bits .or .i64 (rowBits op) (layK d a b n (six (pcs (form op))) 6) = enc ⟨op, d, a, b, n⟩ := by
  obtain ⟨h1, h2, _⟩ := right_parts h
  simp only at h1 h2
  rcases form_is h1 h2 with hf | hf | hf | hf | hf | hf | hf | hf | hf | hf | hf | hf
  · rw [hf]; exact encB_R h1 h2 hf h
  · rw [hf]; exact encB_I h1 h2 hf h
  · rw [hf]; exact encB_C h1 h2 hf h
  · rw [hf]; exact encB_H h1 h2 hf h
  · rw [hf]; exact encB_S h1 h2 hf h
  · rw [hf]; exact encB_B h1 h2 hf h
  · rw [hf]; exact encB_U h1 h2 hf h
  · rw [hf]; exact encB_J h1 h2 hf h
  · rw [hf]; exact encB_F h1 h2 hf h
  · rw [hf]; exact encB_Z h1 h2 hf h
  · rw [hf]; exact encB_L h1 h2 hf h
  · rw [hf]; exact encB_A h1 h2 hf h
theorem sgB {p q r t : Int} (p0 : 0 ≤ p) (p1 : p < 16) (q0 : 0 ≤ q) (q1 : q < 64) (r0 : 0 ≤ r) (r1 : r < 2) (t0 : 0 ≤ t) (t1 : t < 2) : ∃ n, sgn (p * 2 + q * 32 + r * 2048 + t * 4096) 4096 = n ∧ -4096 ≤ n ∧ n ≤ 4094 ∧ n % 2 = 0 ∧ n / 2048 % 2 = r ∧ n / 2 % 16 = p ∧ n / 32 % 64 = q ∧ n / 4096 % 2 = t := by
  refine ⟨p * 2 + q * 32 + r * 2048 - t * 4096, ?_, ?_, ?_, ?_, ?_, ?_, ?_, ?_⟩
  · unfold sgn
    split <;> omega
  all_goals omega
theorem sgJ {p q r t : Int} (p0 : 0 ≤ p) (p1 : p < 1024) (q0 : 0 ≤ q) (q1 : q < 2) (r0 : 0 ≤ r) (r1 : r < 256) (t0 : 0 ≤ t) (t1 : t < 2) : ∃ n, sgn (p * 2 + q * 2048 + r * 4096 + t * 1048576) 1048576 = n ∧ -1048576 ≤ n ∧ n ≤ 1048574 ∧ n % 2 = 0 ∧ n / 4096 % 256 = r ∧ n / 2048 % 2 = q ∧ n / 2 % 1024 = p ∧ n / 1048576 % 2 = t := by
  refine ⟨p * 2 + q * 2048 + r * 4096 - t * 1048576, ?_, ?_, ?_, ?_, ?_, ?_, ?_, ?_⟩
  · unfold sgn
    split <;> omega
  all_goals omega
theorem rdB_R {op z : Int} (h1 : 1 ≤ op) (h2 : op ≤ 49) (hf : form op = 82) : right (rd op z) = true ∧ enc (rd op z) = rowBits op + z / 128 % 32 * 128 + z / 32768 % 32 * 32768 + z / 1048576 % 32 * 1048576 := by
  obtain ⟨b1, b2, b3, b4, b5, b6, b7, b8, b9, b10⟩ := bounds h1 h2
  obtain ⟨g1, g2⟩ := bounds2 h1 h2
  have e := extra_bd op
  rw [hf] at b8 b9 b10 g1 g2
  have ho : (rd op z).op = op := rfl
  have he : extra op = 0 := by simpa using b10
  have k0 := reg_ok (n := z / 128 % 32) (hasD (form op)) (by omega)
  have k1 := reg_ok (n := z / 32768 % 32) (hasA (form op)) (by omega)
  have k2 := reg_ok (n := z / 1048576 % 32) (hasB (form op)) (by omega)
  have k3 : num (form op) (rdN (form op) z) = true := by
    rw [hf]
    simp only [num, rdN, sgn]
    simp
  refine ⟨?_, ?_⟩
  · unfold right rd
    simp only [k0, k1, k2, k3, decide_eq_true (show 1 ≤ op ∧ op ≤ 49 from ⟨h1, h2⟩)]
    rfl
  · rw [rowBits_is h1 h2]
    clear k0 k1 k2 k3
    simp [enc, rd, rdN, sgn, hf, hasD, hasA, hasB]
    skip
    first | omega | (split <;> omega)
theorem rdB_I {op z : Int} (h1 : 1 ≤ op) (h2 : op ≤ 49) (hf : form op = 73) : right (rd op z) = true ∧ enc (rd op z) = rowBits op + z / 128 % 32 * 128 + z / 32768 % 32 * 32768 + z / 1048576 % 4096 * 1048576 := by
  obtain ⟨b1, b2, b3, b4, b5, b6, b7, b8, b9, b10⟩ := bounds h1 h2
  obtain ⟨g1, g2⟩ := bounds2 h1 h2
  have e := extra_bd op
  rw [hf] at b8 b9 b10 g1 g2
  have ho : (rd op z).op = op := rfl
  have he : extra op = 0 := by simpa using b10
  have hh : high op = 0 := b9 (by decide)
  have k0 := reg_ok (n := z / 128 % 32) (hasD (form op)) (by omega)
  have k1 := reg_ok (n := z / 32768 % 32) (hasA (form op)) (by omega)
  have k2 := reg_ok (n := z / 1048576 % 32) (hasB (form op)) (by omega)
  have k3 : num (form op) (rdN (form op) z) = true := by
    rw [hf]
    simp only [num, rdN, sgn]
    simp
    first | omega | (split <;> omega)
  refine ⟨?_, ?_⟩
  · unfold right rd
    simp only [k0, k1, k2, k3, decide_eq_true (show 1 ≤ op ∧ op ≤ 49 from ⟨h1, h2⟩)]
    rfl
  · rw [rowBits_is h1 h2]
    clear k0 k1 k2 k3
    simp [enc, rd, rdN, sgn, hf, hasD, hasA, hasB]
    skip
    first | omega | (split <;> omega)
theorem rdB_C {op z : Int} (h1 : 1 ≤ op) (h2 : op ≤ 49) (hf : form op = 67) : right (rd op z) = true ∧ enc (rd op z) = rowBits op + z / 128 % 32 * 128 + z / 32768 % 32 * 32768 + z / 1048576 % 4096 * 1048576 := by
  obtain ⟨b1, b2, b3, b4, b5, b6, b7, b8, b9, b10⟩ := bounds h1 h2
  obtain ⟨g1, g2⟩ := bounds2 h1 h2
  have e := extra_bd op
  rw [hf] at b8 b9 b10 g1 g2
  have ho : (rd op z).op = op := rfl
  have he : extra op = 0 := by simpa using b10
  have hh : high op = 0 := b9 (by decide)
  have k0 := reg_ok (n := z / 128 % 32) (hasD (form op)) (by omega)
  have k1 := reg_ok (n := z / 32768 % 32) (hasA (form op)) (by omega)
  have k2 := reg_ok (n := z / 1048576 % 32) (hasB (form op)) (by omega)
  have k3 : num (form op) (rdN (form op) z) = true := by
    rw [hf]
    simp only [num, rdN, sgn]
    simp
    first | omega | (split <;> omega)
  refine ⟨?_, ?_⟩
  · unfold right rd
    simp only [k0, k1, k2, k3, decide_eq_true (show 1 ≤ op ∧ op ≤ 49 from ⟨h1, h2⟩)]
    rfl
  · rw [rowBits_is h1 h2]
    clear k0 k1 k2 k3
    simp [enc, rd, rdN, sgn, hf, hasD, hasA, hasB]
    skip
    first | omega | (split <;> omega)
theorem rdB_H {op z : Int} (h1 : 1 ≤ op) (h2 : op ≤ 49) (hf : form op = 72) : right (rd op z) = true ∧ enc (rd op z) = rowBits op + z / 128 % 32 * 128 + z / 32768 % 32 * 32768 + z / 1048576 % 32 * 1048576 := by
  obtain ⟨b1, b2, b3, b4, b5, b6, b7, b8, b9, b10⟩ := bounds h1 h2
  obtain ⟨g1, g2⟩ := bounds2 h1 h2
  have e := extra_bd op
  rw [hf] at b8 b9 b10 g1 g2
  have ho : (rd op z).op = op := rfl
  have he : extra op = 0 := by simpa using b10
  have k0 := reg_ok (n := z / 128 % 32) (hasD (form op)) (by omega)
  have k1 := reg_ok (n := z / 32768 % 32) (hasA (form op)) (by omega)
  have k2 := reg_ok (n := z / 1048576 % 32) (hasB (form op)) (by omega)
  have k3 : num (form op) (rdN (form op) z) = true := by
    rw [hf]
    simp only [num, rdN, sgn]
    simp
    first | omega | (split <;> omega)
  refine ⟨?_, ?_⟩
  · unfold right rd
    simp only [k0, k1, k2, k3, decide_eq_true (show 1 ≤ op ∧ op ≤ 49 from ⟨h1, h2⟩)]
    rfl
  · rw [rowBits_is h1 h2]
    clear k0 k1 k2 k3
    simp [enc, rd, rdN, sgn, hf, hasD, hasA, hasB]
    skip
    first | omega | (split <;> omega)
theorem rdB_S {op z : Int} (h1 : 1 ≤ op) (h2 : op ≤ 49) (hf : form op = 83) : right (rd op z) = true ∧ enc (rd op z) = rowBits op + z / 32768 % 32 * 32768 + z / 1048576 % 32 * 1048576 + z / 128 % 32 * 128 + z / 33554432 % 128 * 33554432 := by
  obtain ⟨b1, b2, b3, b4, b5, b6, b7, b8, b9, b10⟩ := bounds h1 h2
  obtain ⟨g1, g2⟩ := bounds2 h1 h2
  have e := extra_bd op
  rw [hf] at b8 b9 b10 g1 g2
  have ho : (rd op z).op = op := rfl
  have he : extra op = 0 := by simpa using b10
  have hh : high op = 0 := g2 (by decide)
  have k0 := reg_ok (n := z / 128 % 32) (hasD (form op)) (by omega)
  have k1 := reg_ok (n := z / 32768 % 32) (hasA (form op)) (by omega)
  have k2 := reg_ok (n := z / 1048576 % 32) (hasB (form op)) (by omega)
  have k3 : num (form op) (rdN (form op) z) = true := by
    rw [hf]
    simp only [num, rdN, sgn]
    simp
    first | omega | (split <;> omega)
  refine ⟨?_, ?_⟩
  · unfold right rd
    simp only [k0, k1, k2, k3, decide_eq_true (show 1 ≤ op ∧ op ≤ 49 from ⟨h1, h2⟩)]
    rfl
  · rw [rowBits_is h1 h2]
    clear k0 k1 k2 k3
    simp [enc, rd, rdN, sgn, hf, hasD, hasA, hasB]
    skip
    first | omega | (split <;> omega)
theorem rdB_B {op z : Int} (h1 : 1 ≤ op) (h2 : op ≤ 49) (hf : form op = 66) : right (rd op z) = true ∧ enc (rd op z) = rowBits op + z / 32768 % 32 * 32768 + z / 1048576 % 32 * 1048576 + z / 128 % 2 * 128 + z / 256 % 16 * 256 + z / 33554432 % 64 * 33554432 + z / 2147483648 % 2 * 2147483648 := by
  obtain ⟨b1, b2, b3, b4, b5, b6, b7, b8, b9, b10⟩ := bounds h1 h2
  obtain ⟨g1, g2⟩ := bounds2 h1 h2
  have e := extra_bd op
  rw [hf] at b8 b9 b10 g1 g2
  have ho : (rd op z).op = op := rfl
  have he : extra op = 0 := by simpa using b10
  have hh : high op = 0 := g2 (by decide)
  obtain ⟨n, hn, n1, n2, n3, n4, n5, n6, n7⟩ := sgB (p := z / 256 % 16) (q := z / 33554432 % 64) (r := z / 128 % 2) (t := z / 2147483648 % 2) (by omega) (by omega) (by omega) (by omega) (by omega) (by omega) (by omega) (by omega)
  have hN : rdN 66 z = n := by
    rw [← hn]
    rfl
  have k0 := reg_ok (n := z / 128 % 32) (hasD (form op)) (by omega)
  have k1 := reg_ok (n := z / 32768 % 32) (hasA (form op)) (by omega)
  have k2 := reg_ok (n := z / 1048576 % 32) (hasB (form op)) (by omega)
  have k3 : num (form op) (rdN (form op) z) = true := by
    rw [hf]
    rw [hN]
    simp [num]
    first | omega | (split <;> omega)
  refine ⟨?_, ?_⟩
  · unfold right rd
    simp only [k0, k1, k2, k3, decide_eq_true (show 1 ≤ op ∧ op ≤ 49 from ⟨h1, h2⟩)]
    rfl
  · rw [rowBits_is h1 h2]
    clear k0 k1 k2 k3
    simp [enc, rd, hN, n4, n5, n6, n7, hf, hasD, hasA, hasB]
    clear hn hN n4 n5 n6 n7
    first | omega | (split <;> omega)
theorem rdB_U {op z : Int} (h1 : 1 ≤ op) (h2 : op ≤ 49) (hf : form op = 85) : right (rd op z) = true ∧ enc (rd op z) = rowBits op + z / 128 % 32 * 128 + z / 4096 % 1048576 * 4096 := by
  obtain ⟨b1, b2, b3, b4, b5, b6, b7, b8, b9, b10⟩ := bounds h1 h2
  obtain ⟨g1, g2⟩ := bounds2 h1 h2
  have e := extra_bd op
  rw [hf] at b8 b9 b10 g1 g2
  have ho : (rd op z).op = op := rfl
  have he : extra op = 0 := by simpa using b10
  have hm : mid op = 0 := (g1 (by decide)).1
  have hh : high op = 0 := (g1 (by decide)).2
  have k0 := reg_ok (n := z / 128 % 32) (hasD (form op)) (by omega)
  have k1 := reg_ok (n := z / 32768 % 32) (hasA (form op)) (by omega)
  have k2 := reg_ok (n := z / 1048576 % 32) (hasB (form op)) (by omega)
  have k3 : num (form op) (rdN (form op) z) = true := by
    rw [hf]
    simp only [num, rdN, sgn]
    simp
    first | omega | (split <;> omega)
  refine ⟨?_, ?_⟩
  · unfold right rd
    simp only [k0, k1, k2, k3, decide_eq_true (show 1 ≤ op ∧ op ≤ 49 from ⟨h1, h2⟩)]
    rfl
  · rw [rowBits_is h1 h2]
    clear k0 k1 k2 k3
    simp [enc, rd, rdN, sgn, hf, hasD, hasA, hasB]
    skip
    first | omega | (split <;> omega)
theorem rdB_J {op z : Int} (h1 : 1 ≤ op) (h2 : op ≤ 49) (hf : form op = 74) : right (rd op z) = true ∧ enc (rd op z) = rowBits op + z / 128 % 32 * 128 + z / 4096 % 256 * 4096 + z / 1048576 % 2 * 1048576 + z / 2097152 % 1024 * 2097152 + z / 2147483648 % 2 * 2147483648 := by
  obtain ⟨b1, b2, b3, b4, b5, b6, b7, b8, b9, b10⟩ := bounds h1 h2
  obtain ⟨g1, g2⟩ := bounds2 h1 h2
  have e := extra_bd op
  rw [hf] at b8 b9 b10 g1 g2
  have ho : (rd op z).op = op := rfl
  have he : extra op = 0 := by simpa using b10
  have hm : mid op = 0 := (g1 (by decide)).1
  have hh : high op = 0 := (g1 (by decide)).2
  obtain ⟨n, hn, n1, n2, n3, n4, n5, n6, n7⟩ := sgJ (p := z / 2097152 % 1024) (q := z / 1048576 % 2) (r := z / 4096 % 256) (t := z / 2147483648 % 2) (by omega) (by omega) (by omega) (by omega) (by omega) (by omega) (by omega) (by omega)
  have hN : rdN 74 z = n := by
    rw [← hn]
    rfl
  have k0 := reg_ok (n := z / 128 % 32) (hasD (form op)) (by omega)
  have k1 := reg_ok (n := z / 32768 % 32) (hasA (form op)) (by omega)
  have k2 := reg_ok (n := z / 1048576 % 32) (hasB (form op)) (by omega)
  have k3 : num (form op) (rdN (form op) z) = true := by
    rw [hf]
    rw [hN]
    simp [num]
    first | omega | (split <;> omega)
  refine ⟨?_, ?_⟩
  · unfold right rd
    simp only [k0, k1, k2, k3, decide_eq_true (show 1 ≤ op ∧ op ≤ 49 from ⟨h1, h2⟩)]
    rfl
  · rw [rowBits_is h1 h2]
    clear k0 k1 k2 k3
    simp [enc, rd, hN, n4, n5, n6, n7, hf, hasD, hasA, hasB]
    clear hn hN n4 n5 n6 n7
    first | omega | (split <;> omega)
theorem rdB_F {op z : Int} (h1 : 1 ≤ op) (h2 : op ≤ 49) (hf : form op = 70) : right (rd op z) = true ∧ enc (rd op z) = rowBits op + z / 1048576 % 256 * 1048576 := by
  obtain ⟨b1, b2, b3, b4, b5, b6, b7, b8, b9, b10⟩ := bounds h1 h2
  obtain ⟨g1, g2⟩ := bounds2 h1 h2
  have e := extra_bd op
  rw [hf] at b8 b9 b10 g1 g2
  have ho : (rd op z).op = op := rfl
  have he : extra op = 0 := by simpa using b10
  have hh : high op = 0 := b9 (by decide)
  have k0 := reg_ok (n := z / 128 % 32) (hasD (form op)) (by omega)
  have k1 := reg_ok (n := z / 32768 % 32) (hasA (form op)) (by omega)
  have k2 := reg_ok (n := z / 1048576 % 32) (hasB (form op)) (by omega)
  have k3 : num (form op) (rdN (form op) z) = true := by
    rw [hf]
    simp only [num, rdN, sgn]
    simp
    first | omega | (split <;> omega)
  refine ⟨?_, ?_⟩
  · unfold right rd
    simp only [k0, k1, k2, k3, decide_eq_true (show 1 ≤ op ∧ op ≤ 49 from ⟨h1, h2⟩)]
    rfl
  · rw [rowBits_is h1 h2]
    clear k0 k1 k2 k3
    simp [enc, rd, rdN, sgn, hf, hasD, hasA, hasB]
    skip
    first | omega | (split <;> omega)
theorem rdB_Z {op z : Int} (h1 : 1 ≤ op) (h2 : op ≤ 49) (hf : form op = 90) : right (rd op z) = true ∧ enc (rd op z) = rowBits op := by
  obtain ⟨b1, b2, b3, b4, b5, b6, b7, b8, b9, b10⟩ := bounds h1 h2
  obtain ⟨g1, g2⟩ := bounds2 h1 h2
  have e := extra_bd op
  rw [hf] at b8 b9 b10 g1 g2
  have ho : (rd op z).op = op := rfl
  have k0 := reg_ok (n := z / 128 % 32) (hasD (form op)) (by omega)
  have k1 := reg_ok (n := z / 32768 % 32) (hasA (form op)) (by omega)
  have k2 := reg_ok (n := z / 1048576 % 32) (hasB (form op)) (by omega)
  have k3 : num (form op) (rdN (form op) z) = true := by
    rw [hf]
    simp only [num, rdN, sgn]
    simp
  refine ⟨?_, ?_⟩
  · unfold right rd
    simp only [k0, k1, k2, k3, decide_eq_true (show 1 ≤ op ∧ op ≤ 49 from ⟨h1, h2⟩)]
    rfl
  · rw [rowBits_is h1 h2]
    clear k0 k1 k2 k3
    simp [enc, rd, rdN, sgn, hf, hasD, hasA, hasB]
    skip
    first | omega | (split <;> omega)
theorem rdB_L {op z : Int} (h1 : 1 ≤ op) (h2 : op ≤ 49) (hf : form op = 76) : right (rd op z) = true ∧ enc (rd op z) = rowBits op + z / 128 % 32 * 128 + z / 32768 % 32 * 32768 + z / 33554432 % 4 * 33554432 := by
  obtain ⟨b1, b2, b3, b4, b5, b6, b7, b8, b9, b10⟩ := bounds h1 h2
  obtain ⟨g1, g2⟩ := bounds2 h1 h2
  have e := extra_bd op
  rw [hf] at b8 b9 b10 g1 g2
  have ho : (rd op z).op = op := rfl
  have he : extra op = 0 := by simpa using b10
  have hh : high op % 4 = 0 := (b8 (by decide)).1
  have k0 := reg_ok (n := z / 128 % 32) (hasD (form op)) (by omega)
  have k1 := reg_ok (n := z / 32768 % 32) (hasA (form op)) (by omega)
  have k2 := reg_ok (n := z / 1048576 % 32) (hasB (form op)) (by omega)
  have k3 : num (form op) (rdN (form op) z) = true := by
    rw [hf]
    simp only [num, rdN, sgn]
    simp
    first | omega | (split <;> omega)
  refine ⟨?_, ?_⟩
  · unfold right rd
    simp only [k0, k1, k2, k3, decide_eq_true (show 1 ≤ op ∧ op ≤ 49 from ⟨h1, h2⟩)]
    rfl
  · rw [rowBits_is h1 h2]
    clear k0 k1 k2 k3
    simp [enc, rd, rdN, sgn, hf, hasD, hasA, hasB]
    skip
    first | omega | (split <;> omega)
theorem rdB_A {op z : Int} (h1 : 1 ≤ op) (h2 : op ≤ 49) (hf : form op = 65) : right (rd op z) = true ∧ enc (rd op z) = rowBits op + z / 128 % 32 * 128 + z / 32768 % 32 * 32768 + z / 1048576 % 32 * 1048576 + z / 33554432 % 4 * 33554432 := by
  obtain ⟨b1, b2, b3, b4, b5, b6, b7, b8, b9, b10⟩ := bounds h1 h2
  obtain ⟨g1, g2⟩ := bounds2 h1 h2
  have e := extra_bd op
  rw [hf] at b8 b9 b10 g1 g2
  have ho : (rd op z).op = op := rfl
  have he : extra op = 0 := by simpa using b10
  have hh : high op % 4 = 0 := (b8 (by decide)).1
  have k0 := reg_ok (n := z / 128 % 32) (hasD (form op)) (by omega)
  have k1 := reg_ok (n := z / 32768 % 32) (hasA (form op)) (by omega)
  have k2 := reg_ok (n := z / 1048576 % 32) (hasB (form op)) (by omega)
  have k3 : num (form op) (rdN (form op) z) = true := by
    rw [hf]
    simp only [num, rdN, sgn]
    simp
    first | omega | (split <;> omega)
  refine ⟨?_, ?_⟩
  · unfold right rd
    simp only [k0, k1, k2, k3, decide_eq_true (show 1 ≤ op ∧ op ≤ 49 from ⟨h1, h2⟩)]
    rfl
  · rw [rowBits_is h1 h2]
    clear k0 k1 k2 k3
    simp [enc, rd, rdN, sgn, hf, hasD, hasA, hasB]
    skip
    first | omega | (split <;> omega)
theorem rdAll {op z : Int} (h1 : 1 ≤ op) (h2 : op ≤ 49) : right (rd op z) = true := by
  rcases form_is h1 h2 with hf | hf | hf | hf | hf | hf | hf | hf | hf | hf | hf | hf
  · exact (rdB_R h1 h2 hf).1
  · exact (rdB_I h1 h2 hf).1
  · exact (rdB_C h1 h2 hf).1
  · exact (rdB_H h1 h2 hf).1
  · exact (rdB_S h1 h2 hf).1
  · exact (rdB_B h1 h2 hf).1
  · exact (rdB_U h1 h2 hf).1
  · exact (rdB_J h1 h2 hf).1
  · exact (rdB_F h1 h2 hf).1
  · exact (rdB_Z h1 h2 hf).1
  · exact (rdB_L h1 h2 hf).1
  · exact (rdB_A h1 h2 hf).1
/-- a row's test is the plain functions' -/
theorem hit_is {op z : Int} (h1 : 1 ≤ op) (h2 : op ≤ 49) (z1 : -9223372036854775808 ≤ z) (z2 : z ≤ 9223372036854775807) : (bits .andNot .i64 z (openK (six (pcs (form op))) 6) == rowBits op) = hit z op := by
  have hb := rowBits_is h1 h2
  rcases form_is h1 h2 with hf | hf | hf | hf | hf | hf | hf | hf | hf | hf | hf | hf
  · obtain ⟨r1, r2⟩ := rdB_R (z := z) h1 h2 hf
    unfold hit
    rw [hf, clrB_R z z1 z2, r1, r2, Bool.true_and]
    rw [Bool.eq_iff_iff, beq_iff_eq, decide_eq_true_eq]
    omega
  · obtain ⟨r1, r2⟩ := rdB_I (z := z) h1 h2 hf
    unfold hit
    rw [hf, clrB_I z z1 z2, r1, r2, Bool.true_and]
    rw [Bool.eq_iff_iff, beq_iff_eq, decide_eq_true_eq]
    omega
  · obtain ⟨r1, r2⟩ := rdB_C (z := z) h1 h2 hf
    unfold hit
    rw [hf, clrB_C z z1 z2, r1, r2, Bool.true_and]
    rw [Bool.eq_iff_iff, beq_iff_eq, decide_eq_true_eq]
    omega
  · obtain ⟨r1, r2⟩ := rdB_H (z := z) h1 h2 hf
    unfold hit
    rw [hf, clrB_H z z1 z2, r1, r2, Bool.true_and]
    rw [Bool.eq_iff_iff, beq_iff_eq, decide_eq_true_eq]
    omega
  · obtain ⟨r1, r2⟩ := rdB_S (z := z) h1 h2 hf
    unfold hit
    rw [hf, clrB_S z z1 z2, r1, r2, Bool.true_and]
    rw [Bool.eq_iff_iff, beq_iff_eq, decide_eq_true_eq]
    omega
  · obtain ⟨r1, r2⟩ := rdB_B (z := z) h1 h2 hf
    unfold hit
    rw [hf, clrB_B z z1 z2, r1, r2, Bool.true_and]
    rw [Bool.eq_iff_iff, beq_iff_eq, decide_eq_true_eq]
    omega
  · obtain ⟨r1, r2⟩ := rdB_U (z := z) h1 h2 hf
    unfold hit
    rw [hf, clrB_U z z1 z2, r1, r2, Bool.true_and]
    rw [Bool.eq_iff_iff, beq_iff_eq, decide_eq_true_eq]
    omega
  · obtain ⟨r1, r2⟩ := rdB_J (z := z) h1 h2 hf
    unfold hit
    rw [hf, clrB_J z z1 z2, r1, r2, Bool.true_and]
    rw [Bool.eq_iff_iff, beq_iff_eq, decide_eq_true_eq]
    omega
  · obtain ⟨r1, r2⟩ := rdB_F (z := z) h1 h2 hf
    unfold hit
    rw [hf, clrB_F z z1 z2, r1, r2, Bool.true_and]
    rw [Bool.eq_iff_iff, beq_iff_eq, decide_eq_true_eq]
    omega
  · obtain ⟨r1, r2⟩ := rdB_Z (z := z) h1 h2 hf
    unfold hit
    rw [hf, clrB_Z z z1 z2, r1, r2, Bool.true_and]
    rw [Bool.eq_iff_iff, beq_iff_eq, decide_eq_true_eq]
    omega
  · obtain ⟨r1, r2⟩ := rdB_L (z := z) h1 h2 hf
    unfold hit
    rw [hf, clrB_L z z1 z2, r1, r2, Bool.true_and]
    rw [Bool.eq_iff_iff, beq_iff_eq, decide_eq_true_eq]
    omega
  · obtain ⟨r1, r2⟩ := rdB_A (z := z) h1 h2 hf
    unfold hit
    rw [hf, clrB_A z z1 z2, r1, r2, Bool.true_and]
    rw [Bool.eq_iff_iff, beq_iff_eq, decide_eq_true_eq]
    omega
theorem low_is {op z : Int} (h : hit z op = true) : bits .and .i64 z 127 = low op := by
  simp only [hit, Bool.and_eq_true, decide_eq_true_eq] at h
  have e := enc_low h.1
  rw [h.2] at e
  have := and_mask z 7 (by omega)
  rw [show (2 : Int) ^ 7 - 1 = 127 from rfl, show (2 : Int) ^ 7 = 128 from rfl] at this
  rw [this]
  exact e
theorem numB_R (op z : Int) (hf : form op = 82) : ∃ a b c d : Int, liftK z (six (pcs 82)) 6 = ⟨a, b, c, d⟩ ∧ 0 ≤ d ∧ d < 4294967296 ∧ a = (rd op z).d ∧ b = (rd op z).a ∧ c = (rd op z).b ∧ (if hiF 82 < d then d + 2 * loF 82 else d) = (rd op z).n := by
  refine ⟨0 + z / 128 % 32 * 1, 0 + z / 32768 % 32 * 1, 0 + z / 1048576 % 32 * 1, 0, liftB_R z, by omega, by omega, ?_, ?_, ?_, ?_⟩
  · simp [rd, hf, hasD]
  · simp [rd, hf, hasA]
  · simp [rd, hf, hasB]
  · simp [rd, rdN, hf, hiF, loF, sgn]
    first | done | omega | (split <;> split <;> omega) | (split <;> omega)
theorem numB_I (op z : Int) (hf : form op = 73) : ∃ a b c d : Int, liftK z (six (pcs 73)) 6 = ⟨a, b, c, d⟩ ∧ 0 ≤ d ∧ d < 4294967296 ∧ a = (rd op z).d ∧ b = (rd op z).a ∧ c = (rd op z).b ∧ (if hiF 73 < d then d + 2 * loF 73 else d) = (rd op z).n := by
  refine ⟨0 + z / 128 % 32 * 1, 0 + z / 32768 % 32 * 1, 0, 0 + z / 1048576 % 4096 * 1, liftB_I z, by omega, by omega, ?_, ?_, ?_, ?_⟩
  · simp [rd, hf, hasD]
  · simp [rd, hf, hasA]
  · simp [rd, hf, hasB]
  · simp [rd, rdN, hf, hiF, loF, sgn]
    first | done | omega | (split <;> split <;> omega) | (split <;> omega)
theorem numB_C (op z : Int) (hf : form op = 67) : ∃ a b c d : Int, liftK z (six (pcs 67)) 6 = ⟨a, b, c, d⟩ ∧ 0 ≤ d ∧ d < 4294967296 ∧ a = (rd op z).d ∧ b = (rd op z).a ∧ c = (rd op z).b ∧ (if hiF 67 < d then d + 2 * loF 67 else d) = (rd op z).n := by
  refine ⟨0 + z / 128 % 32 * 1, 0 + z / 32768 % 32 * 1, 0, 0 + z / 1048576 % 4096 * 1, liftB_C z, by omega, by omega, ?_, ?_, ?_, ?_⟩
  · simp [rd, hf, hasD]
  · simp [rd, hf, hasA]
  · simp [rd, hf, hasB]
  · simp [rd, rdN, hf, hiF, loF, sgn]
    first | done | omega | (split <;> split <;> omega) | (split <;> omega)
theorem numB_H (op z : Int) (hf : form op = 72) : ∃ a b c d : Int, liftK z (six (pcs 72)) 6 = ⟨a, b, c, d⟩ ∧ 0 ≤ d ∧ d < 4294967296 ∧ a = (rd op z).d ∧ b = (rd op z).a ∧ c = (rd op z).b ∧ (if hiF 72 < d then d + 2 * loF 72 else d) = (rd op z).n := by
  refine ⟨0 + z / 128 % 32 * 1, 0 + z / 32768 % 32 * 1, 0, 0 + z / 1048576 % 32 * 1, liftB_H z, by omega, by omega, ?_, ?_, ?_, ?_⟩
  · simp [rd, hf, hasD]
  · simp [rd, hf, hasA]
  · simp [rd, hf, hasB]
  · simp [rd, rdN, hf, hiF, loF, sgn]
    first | done | omega | (split <;> split <;> omega) | (split <;> omega)
theorem numB_S (op z : Int) (hf : form op = 83) : ∃ a b c d : Int, liftK z (six (pcs 83)) 6 = ⟨a, b, c, d⟩ ∧ 0 ≤ d ∧ d < 4294967296 ∧ a = (rd op z).d ∧ b = (rd op z).a ∧ c = (rd op z).b ∧ (if hiF 83 < d then d + 2 * loF 83 else d) = (rd op z).n := by
  refine ⟨0, 0 + z / 32768 % 32 * 1, 0 + z / 1048576 % 32 * 1, 0 + z / 128 % 32 * 1 + z / 33554432 % 128 * 32, liftB_S z, by omega, by omega, ?_, ?_, ?_, ?_⟩
  · simp [rd, hf, hasD]
  · simp [rd, hf, hasA]
  · simp [rd, hf, hasB]
  · simp [rd, rdN, hf, hiF, loF, sgn]
    first | done | omega | (split <;> split <;> omega) | (split <;> omega)
theorem numB_B (op z : Int) (hf : form op = 66) : ∃ a b c d : Int, liftK z (six (pcs 66)) 6 = ⟨a, b, c, d⟩ ∧ 0 ≤ d ∧ d < 4294967296 ∧ a = (rd op z).d ∧ b = (rd op z).a ∧ c = (rd op z).b ∧ (if hiF 66 < d then d + 2 * loF 66 else d) = (rd op z).n := by
  refine ⟨0, 0 + z / 32768 % 32 * 1, 0 + z / 1048576 % 32 * 1, 0 + z / 128 % 2 * 2048 + z / 256 % 16 * 2 + z / 33554432 % 64 * 32 + z / 2147483648 % 2 * 4096, liftB_B z, by omega, by omega, ?_, ?_, ?_, ?_⟩
  · simp [rd, hf, hasD]
  · simp [rd, hf, hasA]
  · simp [rd, hf, hasB]
  · simp [rd, rdN, hf, hiF, loF, sgn]
    first | done | omega | (split <;> split <;> omega) | (split <;> omega)
theorem numB_U (op z : Int) (hf : form op = 85) : ∃ a b c d : Int, liftK z (six (pcs 85)) 6 = ⟨a, b, c, d⟩ ∧ 0 ≤ d ∧ d < 4294967296 ∧ a = (rd op z).d ∧ b = (rd op z).a ∧ c = (rd op z).b ∧ (if hiF 85 < d then d + 2 * loF 85 else d) = (rd op z).n := by
  refine ⟨0 + z / 128 % 32 * 1, 0, 0, 0 + z / 4096 % 1048576 * 1, liftB_U z, by omega, by omega, ?_, ?_, ?_, ?_⟩
  · simp [rd, hf, hasD]
  · simp [rd, hf, hasA]
  · simp [rd, hf, hasB]
  · simp [rd, rdN, hf, hiF, loF, sgn]
    first | done | omega | (split <;> split <;> omega) | (split <;> omega)
theorem numB_J (op z : Int) (hf : form op = 74) : ∃ a b c d : Int, liftK z (six (pcs 74)) 6 = ⟨a, b, c, d⟩ ∧ 0 ≤ d ∧ d < 4294967296 ∧ a = (rd op z).d ∧ b = (rd op z).a ∧ c = (rd op z).b ∧ (if hiF 74 < d then d + 2 * loF 74 else d) = (rd op z).n := by
  refine ⟨0 + z / 128 % 32 * 1, 0, 0, 0 + z / 4096 % 256 * 4096 + z / 1048576 % 2 * 2048 + z / 2097152 % 1024 * 2 + z / 2147483648 % 2 * 1048576, liftB_J z, by omega, by omega, ?_, ?_, ?_, ?_⟩
  · simp [rd, hf, hasD]
  · simp [rd, hf, hasA]
  · simp [rd, hf, hasB]
  · simp [rd, rdN, hf, hiF, loF, sgn]
    first | done | omega | (split <;> split <;> omega) | (split <;> omega)
theorem numB_F (op z : Int) (hf : form op = 70) : ∃ a b c d : Int, liftK z (six (pcs 70)) 6 = ⟨a, b, c, d⟩ ∧ 0 ≤ d ∧ d < 4294967296 ∧ a = (rd op z).d ∧ b = (rd op z).a ∧ c = (rd op z).b ∧ (if hiF 70 < d then d + 2 * loF 70 else d) = (rd op z).n := by
  refine ⟨0, 0, 0, 0 + z / 1048576 % 256 * 1, liftB_F z, by omega, by omega, ?_, ?_, ?_, ?_⟩
  · simp [rd, hf, hasD]
  · simp [rd, hf, hasA]
  · simp [rd, hf, hasB]
  · simp [rd, rdN, hf, hiF, loF, sgn]
    first | done | omega | (split <;> split <;> omega) | (split <;> omega)
theorem numB_Z (op z : Int) (hf : form op = 90) : ∃ a b c d : Int, liftK z (six (pcs 90)) 6 = ⟨a, b, c, d⟩ ∧ 0 ≤ d ∧ d < 4294967296 ∧ a = (rd op z).d ∧ b = (rd op z).a ∧ c = (rd op z).b ∧ (if hiF 90 < d then d + 2 * loF 90 else d) = (rd op z).n := by
  refine ⟨0, 0, 0, 0, liftB_Z z, by omega, by omega, ?_, ?_, ?_, ?_⟩
  · simp [rd, hf, hasD]
  · simp [rd, hf, hasA]
  · simp [rd, hf, hasB]
  · simp [rd, rdN, hf, hiF, loF, sgn]
    first | done | omega | (split <;> split <;> omega) | (split <;> omega)
theorem numB_L (op z : Int) (hf : form op = 76) : ∃ a b c d : Int, liftK z (six (pcs 76)) 6 = ⟨a, b, c, d⟩ ∧ 0 ≤ d ∧ d < 4294967296 ∧ a = (rd op z).d ∧ b = (rd op z).a ∧ c = (rd op z).b ∧ (if hiF 76 < d then d + 2 * loF 76 else d) = (rd op z).n := by
  refine ⟨0 + z / 128 % 32 * 1, 0 + z / 32768 % 32 * 1, 0, 0 + z / 33554432 % 4 * 1, liftB_L z, by omega, by omega, ?_, ?_, ?_, ?_⟩
  · simp [rd, hf, hasD]
  · simp [rd, hf, hasA]
  · simp [rd, hf, hasB]
  · simp [rd, rdN, hf, hiF, loF, sgn]
    first | done | omega | (split <;> split <;> omega) | (split <;> omega)
theorem numB_A (op z : Int) (hf : form op = 65) : ∃ a b c d : Int, liftK z (six (pcs 65)) 6 = ⟨a, b, c, d⟩ ∧ 0 ≤ d ∧ d < 4294967296 ∧ a = (rd op z).d ∧ b = (rd op z).a ∧ c = (rd op z).b ∧ (if hiF 65 < d then d + 2 * loF 65 else d) = (rd op z).n := by
  refine ⟨0 + z / 128 % 32 * 1, 0 + z / 32768 % 32 * 1, 0 + z / 1048576 % 32 * 1, 0 + z / 33554432 % 4 * 1, liftB_A z, by omega, by omega, ?_, ?_, ?_, ?_⟩
  · simp [rd, hf, hasD]
  · simp [rd, hf, hasA]
  · simp [rd, hf, hasB]
  · simp [rd, rdN, hf, hiF, loF, sgn]
    first | done | omega | (split <;> split <;> omega) | (split <;> omega)
theorem num_is {op : Int} (z : Int) (h1 : 1 ≤ op) (h2 : op ≤ 49) : ∃ a b c d : Int, liftK z (six (pcs (form op))) 6 = ⟨a, b, c, d⟩ ∧ 0 ≤ d ∧ d < 4294967296 ∧ a = (rd op z).d ∧ b = (rd op z).a ∧ c = (rd op z).b ∧ (if hiF (form op) < d then d + 2 * loF (form op) else d) = (rd op z).n := by
  rcases form_is h1 h2 with hf | hf | hf | hf | hf | hf | hf | hf | hf | hf | hf | hf
  · have := numB_R op z hf; rwa [← hf] at this
  · have := numB_I op z hf; rwa [← hf] at this
  · have := numB_C op z hf; rwa [← hf] at this
  · have := numB_H op z hf; rwa [← hf] at this
  · have := numB_S op z hf; rwa [← hf] at this
  · have := numB_B op z hf; rwa [← hf] at this
  · have := numB_U op z hf; rwa [← hf] at this
  · have := numB_J op z hf; rwa [← hf] at this
  · have := numB_F op z hf; rwa [← hf] at this
  · have := numB_Z op z hf; rwa [← hf] at this
  · have := numB_L op z hf; rwa [← hf] at this
  · have := numB_A op z hf; rwa [← hf] at this
end Go.Proofs.Ytjjbfeoidceiiaa
