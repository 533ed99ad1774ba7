/- What the document's own reading makes of an image's text; in plain words. -/
import Derived.Test.YtbfmlbcjggplgaaGreatDoorIRefE
import Derived.Test.YtbfmlbcjggplgaaGreatDoorIBackP
namespace Go.Proofs.YtbfmlbcjggplgaaGreatDoor
open Go.RowKit Im
set_option linter.unusedVariables false
set_option linter.unusedSimpArgs false
theorem dV_hex_fin : ∀ i : Fin 16, dV 16 (hexd i.val) = (i.val : Int) := by decide +kernel
theorem dV_dec_fin : ∀ i : Fin 10, dV 10 (UInt8.ofNat (48 + i.val)) = (i.val : Int) := by decide +kernel
theorem valG_hexd {n : Int} {d : Nat} {r : Bs} (hd : d < 16) (h : n ≤ 1099511627776) : valG 16 n (hexd d :: r) = valG 16 (n * 16 + d) r := by
  have := dV_hex_fin ⟨d, hd⟩
  simp only at this
  rw [valG_cons, this, if_neg (by omega)]
  rfl
theorem valV_hex8 {n : Int} (h0 : 0 ≤ n) (h1 : n ≤ 4294967295) : valV 16 (hex8 n) = n := by
  obtain ⟨N, rfl⟩ : ∃ N : Nat, n = (N : Int) := ⟨n.toNat, by omega⟩
  have e : ∀ j : Nat, dig (N : Int) j = hexd (N / 16 ^ j % 16) := fun j => by
    unfold dig
    congr 1
  unfold valV
  rw [if_neg (by unfold hex8; simp)]
  unfold hex8
  simp only [e]
  simp only [show (16 : Nat) ^ 7 = 268435456 from rfl, show (16 : Nat) ^ 6 = 16777216 from rfl, show (16 : Nat) ^ 5 = 1048576 from rfl, show (16 : Nat) ^ 4 = 65536 from rfl, show (16 : Nat) ^ 3 = 4096 from rfl, show (16 : Nat) ^ 2 = 256 from rfl, show (16 : Nat) ^ 1 = 16 from rfl, show (16 : Nat) ^ 0 = 1 from rfl]
  have hN : N ≤ 4294967295 := by omega
  rw [valG_hexd (by omega) (by omega), valG_hexd (by omega) (by omega), valG_hexd (by omega) (by omega), valG_hexd (by omega) (by omega), valG_hexd (by omega) (by omega), valG_hexd (by omega) (by omega), valG_hexd (by omega) (by omega), valG_hexd (by omega) (by omega)]
  unfold valG
  omega
theorem valG_dec : ∀ (n u : Nat), u ≤ n → u < 1000000 → ∀ r, valG 10 0 (Lib.decDigits u ++ r) = valG 10 u r := by
  intro n
  induction n with
  | zero =>
    intro u hu _ r
    obtain rfl : u = 0 := by omega
    rw [decDigits_rec, if_pos (by omega)]
    have := dV_dec_fin ⟨0, by omega⟩
    simp only at this
    rw [List.cons_append, List.nil_append, valG_cons, this, if_neg (by omega)]
    rfl
  | succ n ih =>
    intro u hu h1 r
    rw [decDigits_rec]
    by_cases h : u < 10
    · rw [if_pos h]
      have := dV_dec_fin ⟨u, h⟩
      simp only at this
      rw [List.cons_append, List.nil_append, valG_cons, this, if_neg (by omega)]
      congr 1
      omega
    · rw [if_neg h, List.append_assoc, ih (u / 10) (by omega) (by omega), List.cons_append, List.nil_append]
      have := dV_dec_fin ⟨u % 10, by omega⟩
      simp only at this
      rw [valG_cons, this, if_neg (by omega)]
      congr 1
      omega
theorem valV_itoa {n : Int} (h0 : 0 ≤ n) (h1 : n ≤ 4096) : valV 10 (Lib.itoa n) = n := by
  have e : Lib.itoa n = Lib.decDigits n.toNat := by unfold Lib.itoa; rw [if_neg (by omega)]
  have hd := valG_dec n.toNat n.toNat (Nat.le_refl _) (by omega) []
  rw [List.append_nil] at hd
  unfold valV
  rw [e, if_neg (decDigits_ne _), hd]
  unfold valG
  omega
/-- the words of a line -/
def chk (l : Bs) : List Int := if 8 ≤ l.length then valV 16 (l.take 8) :: chk (l.drop 9) else []
termination_by l.length
decreasing_by simp; omega
structure RdSt where
  img : Img
  n : Nat
  code : Bool
  cur : Bs
def sumL (l : Bs) : Prop := 4 ≤ l.length ∧ l.take 4 = [115, 117, 109, 32]
instance (l : Bs) : Decidable (sumL l) := by unfold sumL; infer_instance
def codeL : Bs := [99, 111, 100, 101]
/-- what a line adds -/
def lineV (st : RdSt) (l : Bs) : RdSt :=
  if st.n = 0 ∧ 6 < l.length then ⟨⟨st.img.words, valV 10 (l.drop 6), st.img.syms⟩, st.n + 1, st.code, []⟩
  else if l = codeL ∧ st.code = false then ⟨st.img, st.n + 1, true, []⟩
  else if st.code = false ∧ 9 < l.length then ⟨⟨st.img.words, st.img.mem, st.img.syms ++ [⟨str (l.drop 9), valV 16 (l.take 8)⟩]⟩, st.n + 1, st.code, []⟩
  else if st.code = true then ⟨⟨st.img.words ++ (if sumL l then [] else chk l), st.img.mem, st.img.syms⟩, st.n + 1, st.code, []⟩
  else ⟨st.img, st.n + 1, st.code, []⟩
def rdStep (st : RdSt) (c : UInt8) : RdSt := if c = 10 then lineV st st.cur else ⟨st.img, st.n, st.code, st.cur ++ [c]⟩
def rdF (st : RdSt) (s : Bs) : RdSt := s.foldl rdStep st
def rd0 : RdSt := ⟨Im.empty, 0, false, []⟩
theorem rdF_app (st : RdSt) (a b : Bs) : rdF st (a ++ b) = rdF (rdF st a) b := List.foldl_append ..
theorem rdF_cur : ∀ (l : Bs) (st : RdSt), (∀ c ∈ l, c ≠ 10) → rdF st l = ⟨st.img, st.n, st.code, st.cur ++ l⟩ := by
  intro l
  induction l with
  | nil => intro st _; unfold rdF; simp
  | cons c r ih =>
    intro st h
    show rdF (rdStep st c) r = _
    rw [ih _ fun x hx => h x (List.mem_cons_of_mem _ hx)]
    unfold rdStep
    rw [if_neg (h c (List.mem_cons_self ..))]
    simp
theorem rdF_line (st : RdSt) (l : Bs) (h : ∀ c ∈ l, c ≠ 10) : rdF st (l ++ [10]) = lineV ⟨st.img, st.n, st.code, st.cur ++ l⟩ (st.cur ++ l) := by
  rw [rdF_app, rdF_cur l st h]
  rfl
theorem rdF_n : ∀ (l : Bs) (st : RdSt), (rdF st l).n = st.n + Lib.countByte l 10 := by
  intro l
  induction l with
  | nil => intro st; rfl
  | cons c r ih =>
    intro st
    show (rdF (rdStep st c) r).n = _
    rw [ih]
    unfold rdStep Lib.countByte
    rw [List.count_cons]
    by_cases h : c = 10
    · subst h
      rw [if_pos rfl]
      have : (lineV st st.cur).n = st.n + 1 := by
        unfold lineV
        repeat' split
        all_goals rfl
      rw [this]
      simp
      omega
    · rw [if_neg h]
      simp [h]
theorem hexd_not115 : ∀ i : Fin 16, hexd i.val ≠ 115 := by decide +kernel
theorem dig_not115 (n : Int) (j : Nat) : dig n j ≠ 115 := hexd_not115 ⟨_, show ((n / 16 ^ j) % 16).toNat < 16 by omega⟩
theorem rd_head {m : Int} (h0 : 0 ≤ m) (h1 : m ≤ 4096) : rdF rd0 (headB m) = ⟨⟨[], m, []⟩, 1, false, []⟩ := by
  have e : headB m = headL m ++ [10] := by unfold headB headL; simp
  rw [e, rdF_line _ _ (head_no10 h0)]
  have hne : Lib.itoa m ≠ [] := by unfold Lib.itoa; rw [if_neg (by omega)]; exact decDigits_ne _
  have hl : 6 < (headL m).length := by
    have := List.length_pos_iff.2 hne
    unfold headL
    simp
    omega
  have hd : (headL m).drop 6 = Lib.itoa m := by unfold headL; rfl
  unfold lineV
  simp only [rd0, List.nil_append]
  rw [if_pos (by first | exact ⟨trivial, hl⟩ | exact ⟨rfl, hl⟩ | exact hl), hd, valV_itoa h0 h1]
  rfl
theorem rd_syms : ∀ (l : List Sym) (st : RdSt), (∀ x ∈ l, isLab x.name = true ∧ 0 ≤ x.place ∧ x.place ≤ 4294967295) → st.code = false → st.cur = [] → 1 ≤ st.n → rdF st (symsT l) = ⟨⟨st.img.words, st.img.mem, st.img.syms ++ l⟩, st.n + l.length, false, []⟩ := by
  intro l
  induction l with
  | nil =>
    rintro ⟨⟨a, b, c⟩, n, d, e⟩ _ h1 h2 _
    simp only at h1 h2
    subst h1 h2
    show (_ : RdSt) = _
    simp [symsT, rdF]
  | cons x r ih =>
    rintro ⟨⟨a, b, c⟩, n, d, e⟩ h h1 h2 h3
    simp only at h1 h2 h3
    subst h1 h2
    obtain ⟨g1, g2, g3⟩ := h x (List.mem_cons_self ..)
    have hs := (lab_size g1).1
    have e1 : symsT (x :: r) = (lineT x ++ [10]) ++ symsT r := by unfold symsT; rw [List.flatMap_cons, symT_line]
    have hl : (lineT x).length = 9 + x.name.size := by unfold lineT; rw [List.length_append, List.length_cons, size_list, hex8_len]; omega
    have ht : (lineT x).take 8 = hex8 x.place := by unfold lineT; rw [List.take_left' (hex8_len _)]
    have hd : (lineT x).drop 9 = x.name.data.toList := by
      unfold lineT
      rw [show 9 = 8 + 1 from rfl, ← List.drop_drop, List.drop_left' (hex8_len _)]
      rfl
    have hc : ¬ lineT x = codeL := fun c => by have := congrArg List.length c; rw [hl] at this; simp [codeL] at this; omega
    rw [e1, rdF_app, rdF_line _ _ (line_no10 g1)]
    have hv : lineV ⟨⟨a, b, c⟩, n, false, [] ++ lineT x⟩ ([] ++ lineT x) = ⟨⟨a, b, c ++ [x]⟩, n + 1, false, []⟩ := by
      unfold lineV
      simp only [List.nil_append]
      rw [if_neg (by omega), if_neg (fun c => hc c.1), if_pos (by first | exact ⟨trivial, by omega⟩ | exact ⟨rfl, by omega⟩), ht, hd, str_of, valV_hex8 g2 g3]
    simp only at hv ⊢
    rw [hv, ih _ (fun y hy => h y (List.mem_cons_of_mem _ hy)) rfl rfl (by simp)]
    simp
    omega
theorem rd_code (st : RdSt) (h1 : st.code = false) (h2 : st.cur = []) (h3 : 1 ≤ st.n) : rdF st codeB = ⟨st.img, st.n + 1, true, []⟩ := by
  obtain ⟨i, n, d, e⟩ := st
  simp only at h1 h2 h3
  subst h1 h2
  have : codeB = codeL ++ [10] := rfl
  rw [this, rdF_line _ _ (by intro c hc; simp only [codeL, List.mem_cons, List.not_mem_nil, or_false] at hc; rcases hc with rfl | rfl | rfl | rfl <;> decide)]
  unfold lineV
  simp only [List.nil_append]
  rw [if_neg (by omega), if_pos (by simp)]
/-- words, a space behind each -/
def lsT (xs : List Int) : Bs := xs.flatMap fun x => hex8 x ++ [32]
theorem chk_nil : chk [] = [] := by unfold chk; simp
theorem chk_one {w : Int} (h0 : 0 ≤ w) (h1 : w ≤ 4294967295) : chk (hex8 w) = [w] := by
  unfold chk
  rw [if_pos (by rw [hex8_len]; omega), List.take_of_length_le (by rw [hex8_len]; omega), List.drop_of_length_le (by rw [hex8_len]; omega), chk_nil, valV_hex8 h0 h1]
theorem chk_cons {w : Int} (h0 : 0 ≤ w) (h1 : w ≤ 4294967295) (r : Bs) : chk (hex8 w ++ 32 :: r) = w :: chk r := by
  rw [chk]
  rw [if_pos (by rw [List.length_append, hex8_len]; omega), List.take_left' (hex8_len _), show 9 = 8 + 1 from rfl, ← List.drop_drop, List.drop_left' (hex8_len _), valV_hex8 h0 h1]
  rfl
theorem chk_ls : ∀ (xs : List Int) (w : Int), (∀ x ∈ xs ++ [w], 0 ≤ x ∧ x ≤ 4294967295) → chk (lsT xs ++ hex8 w) = xs ++ [w] := by
  intro xs
  induction xs with
  | nil => intro w h; have := h w (by simp); exact chk_one this.1 this.2
  | cons x r ih =>
    intro w h
    have e : lsT (x :: r) ++ hex8 w = hex8 x ++ 32 :: (lsT r ++ hex8 w) := by unfold lsT; rw [List.flatMap_cons]; simp
    have hx := h x (by simp)
    rw [e, chk_cons hx.1 hx.2, ih w fun y hy => h y (List.mem_cons_of_mem x hy)]
    rfl
theorem ls_notSum (xs : List Int) (w : Int) : ¬ sumL (lsT xs ++ hex8 w) := by
  rintro ⟨_, h⟩
  cases xs with
  | nil =>
    simp [lsT, hex8] at h
    exact dig_not115 _ _ h.1
  | cons x r =>
    simp [lsT, hex8] at h
    exact dig_not115 _ _ h.1
theorem ls_no10 (xs : List Int) : ∀ c ∈ lsT xs, c ≠ 10 := by
  intro c hc
  unfold lsT at hc
  obtain ⟨x, _, hx⟩ := List.mem_flatMap.1 hc
  rcases List.mem_append.1 hx with h | h
  · exact (hex8_all h).2.2.2.1
  · simp at h
    subst h
    decide
theorem rd_words : ∀ (l : List Int) (i : Nat) (st : RdSt) (xs : List Int), (∀ x ∈ xs ++ l, 0 ≤ x ∧ x ≤ 4294967295) → st.code = true → st.cur = lsT xs → 1 ≤ st.n → (l = [] → xs = []) → ∃ n, 1 ≤ n ∧ rdF st (wordsT i l) = ⟨⟨st.img.words ++ (xs ++ l), st.img.mem, st.img.syms⟩, n, true, []⟩ := by
  intro l
  induction l with
  | nil =>
    rintro i ⟨⟨a, b, c⟩, n, d, e⟩ xs _ h1 h2 h3 h4
    simp only at h1 h2 h3
    obtain rfl := h4 rfl
    subst h1 h2
    exact ⟨n, h3, by simp [wordsT, rdF, lsT]⟩
  | cons w r ih =>
    rintro i ⟨⟨a, b, c⟩, n, d, e⟩ xs h h1 h2 h3 _
    simp only at h1 h2 h3
    subst h1 h2
    have hno : ∀ c ∈ hex8 w, c ≠ 10 := fun c hc => (hex8_all hc).2.2.2.1
    unfold wordsT
    by_cases hc : i % 8 = 7 ∨ r.length = 0
    · rw [if_pos hc]
      have e1 : hex8 w ++ 10 :: wordsT (i + 1) r = (hex8 w ++ [10]) ++ wordsT (i + 1) r := by simp
      rw [e1, rdF_app, rdF_line _ _ hno]
      have hv : lineV ⟨⟨a, b, c⟩, n, true, lsT xs ++ hex8 w⟩ (lsT xs ++ hex8 w) = ⟨⟨a ++ (xs ++ [w]), b, c⟩, n + 1, true, []⟩ := by
        unfold lineV
        simp only
        rw [if_neg (by omega), if_neg (by simp), if_neg (by simp), if_pos (by first | trivial | rfl), if_neg (ls_notSum xs w), chk_ls xs w fun y hy => (List.mem_append.1 hy).elim (fun g => h y (List.mem_append_left _ g)) (fun g => h y (List.mem_append_right _ (by simp at g; simp [g])))]
      simp only at hv ⊢
      rw [hv]
      obtain ⟨n', g1, g2⟩ := ih (i + 1) ⟨⟨a ++ (xs ++ [w]), b, c⟩, n + 1, true, []⟩ [] (fun y hy => h y (List.mem_append_right _ (List.mem_cons_of_mem _ (by simpa using hy)))) rfl rfl (by simp) (fun _ => rfl)
      refine ⟨n', g1, ?_⟩
      rw [g2]
      simp
    · rw [if_neg hc]
      have e1 : hex8 w ++ 32 :: wordsT (i + 1) r = (hex8 w ++ [32]) ++ wordsT (i + 1) r := by simp
      rw [e1, rdF_app, rdF_cur (hex8 w ++ [32]) ⟨⟨a, b, c⟩, n, true, lsT xs⟩ (by intro c hc; rcases List.mem_append.1 hc with g | g; exact hno c g; simp at g; subst g; decide)]
      obtain ⟨n', g1, g2⟩ := ih (i + 1) ⟨⟨a, b, c⟩, n, true, lsT xs ++ (hex8 w ++ [32])⟩ (xs ++ [w]) (fun y hy => h y (by rw [List.append_assoc] at hy; exact hy)) rfl (by simp [lsT]) h3 (fun c => absurd (by rw [c]; rfl) (fun c => hc (Or.inr c)))
      refine ⟨n', g1, ?_⟩
      rw [g2]
      simp
theorem rd_sum (st : RdSt) (k : Int) (h1 : st.code = true) (h2 : st.cur = []) (h3 : 1 ≤ st.n) : (rdF st (sumLine k)).img = st.img := by
  obtain ⟨⟨a, b, c⟩, n, d, e⟩ := st
  simp only at h1 h2 h3
  subst h1 h2
  have e1 : sumLine k = ([115, 117, 109, 32] ++ hex8 k) ++ [10] := by unfold sumLine; simp
  rw [e1, rdF_line _ _ (by intro c hc; rcases List.mem_append.1 hc with g | g; (simp only [List.mem_cons, List.not_mem_nil, or_false] at g; rcases g with rfl | rfl | rfl | rfl <;> decide); exact (hex8_all g).2.2.2.1)]
  have hs : sumL ([115, 117, 109, 32] ++ hex8 k) := ⟨by rw [List.length_append]; show 4 ≤ 4 + _; omega, by rfl⟩
  unfold lineV
  simp only [List.nil_append]
  rw [if_neg (by omega), if_neg (by simp), if_neg (by simp), if_pos (by first | trivial | rfl), if_pos hs]
  simp
/-- of an image's text the document's own reading makes that image -/
theorem rd_shape {s : Bs} {m : Img} {n : Int} (h : Shape s m n) : (rdF rd0 s).img = m := by
  obtain ⟨hr, h0, h1, rfl⟩ := h
  obtain ⟨w1, w2, w3, w4, w5, w6⟩ := right_parts hr
  have hsy : ∀ x ∈ m.syms, isLab x.name = true ∧ 0 ≤ x.place ∧ x.place ≤ 4294967295 := fun x hx => by
    obtain ⟨g1, g2⟩ := right_name hr hx
    have g3 : 0 ≤ x.place ∧ x.place ≤ 4 * (m.words.length : Int) ∧ x.place % 4 = 0 := of_decide_eq_true g2
    exact ⟨g1, g3.1, by omega⟩
  have hwd : ∀ x ∈ [] ++ m.words, 0 ≤ x ∧ x ≤ 4294967295 := fun x hx => of_decide_eq_true (w5 x (by simpa using hx))
  unfold body
  rw [rdF_app, rdF_app, rdF_app, rdF_app, rd_head w3 w4, rd_syms m.syms _ hsy rfl rfl (by simp), rd_code _ rfl rfl (by simp)]
  obtain ⟨n', g1, g2⟩ := rd_words m.words 0 ⟨⟨[], m.mem, [] ++ m.syms⟩, 1 + m.syms.length + 1, true, []⟩ [] hwd rfl rfl (by simp) (fun _ => rfl)
  simp only at g2 ⊢
  rw [g2, rd_sum _ _ rfl rfl g1]
  simp
end Go.Proofs.YtbfmlbcjggplgaaGreatDoor
