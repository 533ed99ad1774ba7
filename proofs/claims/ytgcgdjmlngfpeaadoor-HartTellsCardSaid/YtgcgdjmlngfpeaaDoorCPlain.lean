/- Instructions as words, as plain functions: which are right, the word of one, the one that a word would be of a row. Reading undoes writing, and unlike right instructions have unlike words. No Go program in sight. -/
import Derived.Test.YtgcgdjmlngfpeaaDoorCTab
namespace Go.Proofs.YtgcgdjmlngfpeaaDoor.Rv
structure Ins where
  op : Int
  d : Int
  a : Int
  b : Int
  n : Int
theorem Ins.ext' {i j : Ins} (h1 : i.op = j.op) (h2 : i.d = j.d) (h3 : i.a = j.a) (h4 : i.b = j.b) (h5 : i.n = j.n) : i = j := by
  cases i
  cases j
  simp only at h1 h2 h3 h4 h5
  subst h1 h2 h3 h4 h5
  rfl
def hasD (f : Int) : Bool := decide (f = 82 ∨ f = 73 ∨ f = 72 ∨ f = 67 ∨ f = 76 ∨ f = 85 ∨ f = 74 ∨ f = 65)
def hasA (f : Int) : Bool := decide (f = 82 ∨ f = 73 ∨ f = 72 ∨ f = 67 ∨ f = 76 ∨ f = 83 ∨ f = 66 ∨ f = 65)
def hasB (f : Int) : Bool := decide (f = 82 ∨ f = 83 ∨ f = 66 ∨ f = 65)
def num (f n : Int) : Bool :=
  if f = 73 ∨ f = 83 then decide (-2048 ≤ n ∧ n ≤ 2047) else
  if f = 72 then decide (0 ≤ n ∧ n ≤ 31) else
  if f = 66 then decide (-4096 ≤ n ∧ n ≤ 4094 ∧ n % 2 = 0) else
  if f = 85 then decide (0 ≤ n ∧ n < 1048576) else
  if f = 74 then decide (-1048576 ≤ n ∧ n ≤ 1048574 ∧ n % 2 = 0) else
  if f = 70 then decide (0 ≤ n ∧ n ≤ 255) else
  if f = 67 then decide (0 ≤ n ∧ n ≤ 4095) else
  if f = 76 ∨ f = 65 then decide (0 ≤ n ∧ n ≤ 3) else decide (n = 0)
def reg (n : Int) (is : Bool) : Bool := decide (n = 0) || (is && decide (0 < n) && decide (n < 32))
def right (i : Ins) : Bool := decide (1 ≤ i.op ∧ i.op ≤ 49) && reg i.d (hasD (form i.op)) && reg i.a (hasA (form i.op)) && reg i.b (hasB (form i.op)) && num (form i.op) i.n
def extra (op : Int) : Int := if op = 44 then 2 else if op = 45 then 5 else 0
def enc (i : Ins) : Int :=
  let f := form i.op
  let w := low i.op + mid i.op * 4096 + i.a * 32768
  if f = 82 then w + i.d * 128 + i.b * 1048576 + high i.op * 33554432 else
  if f = 73 ∨ f = 67 then w + i.d * 128 + i.n % 4096 * 1048576 else
  if f = 72 then w + i.d * 128 + i.n * 1048576 + high i.op * 33554432 else
  if f = 83 then w + i.n % 32 * 128 + i.b * 1048576 + i.n / 32 % 128 * 33554432 else
  if f = 66 then w + i.n / 2048 % 2 * 128 + i.n / 2 % 16 * 256 + i.b * 1048576 + i.n / 32 % 64 * 33554432 + i.n / 4096 % 2 * 2147483648 else
  if f = 85 then low i.op + i.d * 128 + i.n * 4096 else
  if f = 74 then low i.op + i.d * 128 + i.n / 4096 % 256 * 4096 + i.n / 2048 % 2 * 1048576 + i.n / 2 % 1024 * 2097152 + i.n / 1048576 % 2 * 2147483648 else
  if f = 70 then w + i.n * 1048576 else
  if f = 90 then w + high i.op * 33554432 + extra i.op * 1048576 else
  w + i.d * 128 + i.b * 1048576 + (high i.op + i.n) * 33554432
def sgn (n : Int) (h : Int) : Int := if h ≤ n then n - 2 * h else n
def rdN (f w : Int) : Int :=
  if f = 73 then sgn (w / 1048576 % 4096) 2048 else
  if f = 67 then w / 1048576 % 4096 else
  if f = 72 then w / 1048576 % 32 else
  if f = 83 then sgn (w / 128 % 32 + w / 33554432 % 128 * 32) 2048 else
  if f = 66 then sgn (w / 256 % 16 * 2 + w / 33554432 % 64 * 32 + w / 128 % 2 * 2048 + w / 2147483648 % 2 * 4096) 4096 else
  if f = 85 then w / 4096 % 1048576 else
  if f = 74 then sgn (w / 2097152 % 1024 * 2 + w / 1048576 % 2 * 2048 + w / 4096 % 256 * 4096 + w / 2147483648 % 2 * 1048576) 1048576 else
  if f = 70 then w / 1048576 % 256 else
  if f = 76 ∨ f = 65 then w / 33554432 % 4 else 0
def rd (op w : Int) : Ins :=
  { op := op, d := if hasD (form op) then w / 128 % 32 else 0, a := if hasA (form op) then w / 32768 % 32 else 0, b := if hasB (form op) then w / 1048576 % 32 else 0, n := rdN (form op) w }

/-! ### what the table says of every row -/
theorem of_table {p : Int → Bool} (h : ∀ k : Fin 49, p (((k : Nat) : Int) + 1) = true) {op : Int} (h1 : 1 ≤ op) (h2 : op ≤ 49) : p op = true := by
  obtain ⟨k, hk⟩ := Int.eq_ofNat_of_zero_le (show 0 ≤ op - 1 by omega)
  have e : op = (k : Int) + 1 := by omega
  rw [e]
  exact h ⟨k, by omega⟩
def isForm (f : Int) : Bool := decide (f = 82 ∨ f = 73 ∨ f = 67 ∨ f = 72 ∨ f = 83 ∨ f = 66 ∨ f = 85 ∨ f = 74 ∨ f = 70 ∨ f = 90 ∨ f = 76 ∨ f = 65)
theorem form_is {op : Int} (h1 : 1 ≤ op) (h2 : op ≤ 49) : form op = 82 ∨ form op = 73 ∨ form op = 67 ∨ form op = 72 ∨ form op = 83 ∨ form op = 66 ∨ form op = 85 ∨ form op = 74 ∨ form op = 70 ∨ form op = 90 ∨ form op = 76 ∨ form op = 65 := by
  have := of_table (p := fun op => isForm (form op)) (by decide +kernel) h1 h2
  simpa [isForm] using this
def inBounds (op : Int) : Bool := decide (0 ≤ low op ∧ low op < 128 ∧ 0 ≤ mid op ∧ mid op < 8 ∧ 0 ≤ high op ∧ high op < 128 ∧ low op % 4 = 3 ∧ (form op = 76 ∨ form op = 65 → high op % 4 = 0 ∧ high op ≤ 12) ∧ (form op = 67 ∨ form op = 70 ∨ form op = 73 → high op = 0) ∧ (form op = 90 ∨ extra op = 0))
theorem bounds {op : Int} (h1 : 1 ≤ op) (h2 : op ≤ 49) : 0 ≤ low op ∧ low op < 128 ∧ 0 ≤ mid op ∧ mid op < 8 ∧ 0 ≤ high op ∧ high op < 128 ∧ low op % 4 = 3 ∧ (form op = 76 ∨ form op = 65 → high op % 4 = 0 ∧ high op ≤ 12) ∧ (form op = 67 ∨ form op = 70 ∨ form op = 73 → high op = 0) ∧ (form op = 90 ∨ extra op = 0) := by
  have := of_table (p := inBounds) (by decide +kernel) h1 h2
  exact of_decide_eq_true this
theorem extra_bd (op : Int) : 0 ≤ extra op ∧ extra op < 32 := by
  unfold extra
  repeat' split
  all_goals omega
theorem reg_no {n : Int} (h : reg n false = true) : n = 0 := by simpa [reg] using h
theorem reg_yes {n : Int} (h : reg n true = true) : 0 ≤ n ∧ n < 32 := by
  simp [reg] at h
  omega
theorem right_parts {i : Ins} (h : right i = true) : 1 ≤ i.op ∧ i.op ≤ 49 ∧ reg i.d (hasD (form i.op)) = true ∧ reg i.a (hasA (form i.op)) = true ∧ reg i.b (hasB (form i.op)) = true ∧ num (form i.op) i.n = true := by
  simp only [right, Bool.and_eq_true, decide_eq_true_eq] at h
  obtain ⟨⟨⟨⟨⟨h1, h2⟩, h3⟩, h4⟩, h5⟩, h6⟩ := h
  exact ⟨h1, h2, h3, h4, h5, h6⟩
theorem fieldsS {l m a b p q : Int} (hl : 0 ≤ l ∧ l < 128) (hm : 0 ≤ m ∧ m < 8) (ha : 0 ≤ a ∧ a < 32) (hb : 0 ≤ b ∧ b < 32) (hp : 0 ≤ p ∧ p < 32) (hq : 0 ≤ q ∧ q < 128) :
    (l + m * 4096 + a * 32768 + p * 128 + b * 1048576 + q * 33554432) / 128 % 32 = p ∧ (l + m * 4096 + a * 32768 + p * 128 + b * 1048576 + q * 33554432) / 32768 % 32 = a ∧
    (l + m * 4096 + a * 32768 + p * 128 + b * 1048576 + q * 33554432) / 1048576 % 32 = b ∧ (l + m * 4096 + a * 32768 + p * 128 + b * 1048576 + q * 33554432) / 33554432 % 128 = q := by
  refine ⟨?_, ?_, ?_, ?_⟩ <;> omega
theorem fieldsB {l m a b p p' q q' : Int} (hl : 0 ≤ l ∧ l < 128) (hm : 0 ≤ m ∧ m < 8) (ha : 0 ≤ a ∧ a < 32) (hb : 0 ≤ b ∧ b < 32) (hp : 0 ≤ p ∧ p < 2) (hp' : 0 ≤ p' ∧ p' < 16) (hq : 0 ≤ q ∧ q < 64) (hq' : 0 ≤ q' ∧ q' < 2) :
    (l + m * 4096 + a * 32768 + p * 128 + p' * 256 + b * 1048576 + q * 33554432 + q' * 2147483648) / 128 % 2 = p ∧ (l + m * 4096 + a * 32768 + p * 128 + p' * 256 + b * 1048576 + q * 33554432 + q' * 2147483648) / 256 % 16 = p' ∧
    (l + m * 4096 + a * 32768 + p * 128 + p' * 256 + b * 1048576 + q * 33554432 + q' * 2147483648) / 32768 % 32 = a ∧ (l + m * 4096 + a * 32768 + p * 128 + p' * 256 + b * 1048576 + q * 33554432 + q' * 2147483648) / 1048576 % 32 = b ∧
    (l + m * 4096 + a * 32768 + p * 128 + p' * 256 + b * 1048576 + q * 33554432 + q' * 2147483648) / 33554432 % 64 = q ∧ (l + m * 4096 + a * 32768 + p * 128 + p' * 256 + b * 1048576 + q * 33554432 + q' * 2147483648) / 2147483648 % 2 = q' := by
  refine ⟨?_, ?_, ?_, ?_, ?_, ?_⟩ <;> omega
theorem fieldsJ {l d p q r s : Int} (hl : 0 ≤ l ∧ l < 128) (hd : 0 ≤ d ∧ d < 32) (hp : 0 ≤ p ∧ p < 256) (hq : 0 ≤ q ∧ q < 2) (hr : 0 ≤ r ∧ r < 1024) (hs : 0 ≤ s ∧ s < 2) :
    (l + d * 128 + p * 4096 + q * 1048576 + r * 2097152 + s * 2147483648) / 128 % 32 = d ∧ (l + d * 128 + p * 4096 + q * 1048576 + r * 2097152 + s * 2147483648) / 4096 % 256 = p ∧
    (l + d * 128 + p * 4096 + q * 1048576 + r * 2097152 + s * 2147483648) / 1048576 % 2 = q ∧ (l + d * 128 + p * 4096 + q * 1048576 + r * 2097152 + s * 2147483648) / 2097152 % 1024 = r ∧
    (l + d * 128 + p * 4096 + q * 1048576 + r * 2097152 + s * 2147483648) / 2147483648 % 2 = s := by
  refine ⟨?_, ?_, ?_, ?_, ?_⟩ <;> omega
theorem sgnS (n : Int) (h : -2048 ≤ n ∧ n ≤ 2047) : sgn (n % 32 + n / 32 % 128 * 32) 2048 = n := by
  unfold sgn
  split <;> omega
theorem sgnB (n : Int) (h : -4096 ≤ n ∧ n ≤ 4094 ∧ n % 2 = 0) : sgn (n / 2 % 16 * 2 + n / 32 % 64 * 32 + n / 2048 % 2 * 2048 + n / 4096 % 2 * 4096) 4096 = n := by
  unfold sgn
  split <;> omega
theorem sgnJ (n : Int) (h : -1048576 ≤ n ∧ n ≤ 1048574 ∧ n % 2 = 0) : sgn (n / 2 % 1024 * 2 + n / 2048 % 2 * 2048 + n / 4096 % 256 * 4096 + n / 1048576 % 2 * 1048576) 1048576 = n := by
  unfold sgn
  split <;> omega
theorem sgnI (n : Int) (h : -2048 ≤ n ∧ n ≤ 2047) : sgn (n % 4096) 2048 = n := by
  unfold sgn
  split <;> omega
theorem rd_enc {i : Ins} (h : right i = true) : rd i.op (enc i) = i := by
  obtain ⟨h1, h2, hd, ha, hb, hn⟩ := right_parts h
  obtain ⟨b1, b2, b3, b4, b5, b6, b7, b8, b9, b10⟩ := bounds h1 h2
  have e := extra_bd i.op
  cases i with
  | mk op d a b n =>
    simp only at h1 h2 hd ha hb hn b1 b2 b3 b4 b5 b6 b7 b8 b9 b10 e
    rcases form_is h1 h2 with hf | hf | hf | hf | hf | hf | hf | hf | hf | hf | hf | hf
    all_goals
      rw [hf] at hd ha hb hn b8 b9 b10
      simp [hasD, hasA, hasB] at hd ha hb
      simp [num] at hn
      first | (have hd' := reg_yes hd) | (have hd' := reg_no hd)
      first | (have ha' := reg_yes ha) | (have ha' := reg_no ha)
      first | (have hb' := reg_yes hb) | (have hb' := reg_no hb)
      clear hd ha hb h
    case inr.inr.inr.inr.inl =>
      obtain ⟨f1, f2, f3, f4⟩ := fieldsS (l := low op) (m := mid op) (a := a) (b := b) (p := n % 32) (q := n / 32 % 128) ⟨b1, b2⟩ ⟨b3, b4⟩ ha' hb' (by omega) (by omega)
      subst hd'
      apply Ins.ext'
      · rfl
      · simp [rd, hf, hasD]
      · simpa [rd, enc, hf, hasA] using f2
      · simpa [rd, enc, hf, hasB] using f3
      · simp [rd, enc, rdN, hf]
        rw [f1, f4]
        exact sgnS n hn
    case inr.inr.inr.inr.inr.inl =>
      obtain ⟨f1, f2, f3, f4, f5, f6⟩ := fieldsB (l := low op) (m := mid op) (a := a) (b := b) (p := n / 2048 % 2) (p' := n / 2 % 16) (q := n / 32 % 64) (q' := n / 4096 % 2) ⟨b1, b2⟩ ⟨b3, b4⟩ ha' hb' (by omega) (by omega) (by omega) (by omega)
      subst hd'
      apply Ins.ext'
      · rfl
      · simp [rd, hf, hasD]
      · simpa [rd, enc, hf, hasA] using f3
      · simpa [rd, enc, hf, hasB] using f4
      · simp [rd, enc, rdN, hf]
        rw [f1, f2, f5, f6]
        exact sgnB n hn
    case inr.inr.inr.inr.inr.inr.inr.inl =>
      obtain ⟨f1, f2, f3, f4, f5⟩ := fieldsJ (l := low op) (d := d) (p := n / 4096 % 256) (q := n / 2048 % 2) (r := n / 2 % 1024) (s := n / 1048576 % 2) ⟨b1, b2⟩ hd' (by omega) (by omega) (by omega) (by omega)
      subst ha' hb'
      apply Ins.ext'
      · rfl
      · simpa [rd, enc, hf, hasD] using f1
      · simp [rd, hf, hasA]
      · simp [rd, hf, hasB]
      · simp [rd, enc, rdN, hf]
        rw [f2, f3, f4, f5]
        exact sgnJ n hn
    all_goals
      apply Ins.ext'
      · rfl
      all_goals
        simp [rd, enc, rdN, hf, hasD, hasA, hasB, sgn]
        try omega
end Go.Proofs.YtgcgdjmlngfpeaaDoor.Rv
