/- The laws' own pieces, in plain words: of raw numbers a word, a sign, a number or a name; each is one token of its kind. -/
import Derived.Test.YthlnjnmomnpnpaaGreatDoorTPiece
namespace Go.Proofs.YthlnjnmomnpnpaaGreatDoor.Tk
set_option linter.unusedVariables false
def pick (c n : Int) : Int := (if c < 0 then -(c + 1) else c) % n
theorem pick_bd (c : Int) {n : Int} (h : 0 < n) : 0 ≤ pick c n ∧ pick c n < n := ⟨Int.emod_nonneg _ (by omega), Int.emod_lt_of_pos _ h⟩
/-- x, y, n, _a, B2, ifs, hart, lock1, X_y_Z, Halt -/
def names : List Bs := [[120], [121], [110], [95, 97], [66, 50], [105, 102, 115], [104, 97, 114, 116], [108, 111, 99, 107, 49], [88, 95, 121, 95, 90], [72, 97, 108, 116]]
def varV (n : Int) : Bs :=
  let k := (pick n 300).toNat
  if k < 10 then names.getD (k % 10) [] else names.getD (k % 10) [] ++ dec k
def numText (n : Int) : Bs := if n % 2 = 0 then 48 :: 120 :: hex (pick n 4294967296).toNat else dec (pick n 4294967296).toNat
def kindOf (kind : Int) : Int := if pick kind 4 = 0 then 2 else if pick kind 4 = 1 then 4 else if pick kind 4 = 2 then 3 else 1
def pieceV (kind n : Int) : Bs :=
  if pick kind 4 = 0 then words.getD (pick n 13).toNat [] else if pick kind 4 = 1 then signs.getD (pick n 25).toNat [] else if pick kind 4 = 2 then numText n else varV n
def numOf (kind n : Int) : Int := if pick kind 4 = 2 then pick n 4294967296 else 0
theorem names_ok : ∀ w ∈ names, w ≠ [] ∧ headDig w = false ∧ w.length ≤ 5 ∧ (∀ c ∈ w, isRun c = true) ∧ isWord w = false := by decide
theorem words_ok : ∀ w ∈ words, w ≠ [] ∧ (∀ c ∈ w, isRun c = true) ∧ ofRun w = some (2, 0) := by decide
theorem words_tail : ∀ w ∈ words, ∀ c ∈ w, isDig c = false := by decide
theorem getD_mem {l : List Bs} {k : Nat} (h : k < l.length) : l.getD k [] ∈ l := by
  rw [List.getD_eq_getElem?_getD, List.getElem?_eq_getElem h]
  exact List.getElem_mem h
theorem pick_nat (c : Int) {n : Nat} (h : 0 < n) : (pick c n).toNat < n := by
  have := pick_bd c (n := n) (by omega)
  omega
theorem ofRun_name {w : Bs} (h1 : isWord w = false) (h2 : isName w = true) : ofRun w = some (1, 0) := by
  unfold ofRun
  rw [if_neg (by rw [h1]; exact Bool.false_ne_true), if_pos h2]
theorem ofRun_num {w : Bs} (h1 : headDig w = true) {n : Nat} (h2 : number w = some n) : ofRun w = some (3, (n : Int)) := by
  unfold ofRun
  rw [if_neg (by rw [word_nodig h1]; exact Bool.false_ne_true), if_neg (by rw [name_nodig h1]; exact Bool.false_ne_true), h2]
theorem name_app {w : Bs} (hw : w ∈ names) (k : Nat) (hk : k < 300) : isWord (w ++ dec k) = false ∧ isName (w ++ dec k) = true := by
  obtain ⟨h1, h2, h3, h4, _⟩ := names_ok w hw
  have hd := dec_len 2 k (by omega)
  have hp := dec_pos k
  have hword : isWord (w ++ dec k) = false := by
    unfold isWord
    rw [List.any_eq_false]
    intro u hu c
    rw [beq_iff_eq] at c
    cases hdk : dec k with
    | nil => rw [hdk] at hp; simp at hp
    | cons d t =>
      have hd1 := words_tail u hu d (by rw [c, hdk]; simp)
      rw [dec_all k d (by rw [hdk]; simp)] at hd1
      cases hd1
  refine ⟨hword, ?_⟩
  unfold isName
  rw [hword]
  have hh : headDig (w ++ dec k) = false := by
    cases w with
    | nil => exact absurd rfl h1
    | cons c t => exact h2
  rw [hh]
  have ha : (w ++ dec k).all isRun = true := by
    rw [List.all_eq_true]
    intro c hc
    rcases List.mem_append.1 hc with h | h
    · exact h4 c h
    · exact dig_run (dec_all k c h)
  rw [ha, List.length_append, decide_eq_true (by have := List.length_pos_iff.2 h1; omega)]
  rfl
theorem name_self {w : Bs} (hw : w ∈ names) : isName w = true := by
  revert hw
  revert w
  decide
theorem var_good (n : Int) : varV n ≠ [] ∧ (∀ c ∈ varV n, isRun c = true) ∧ ofRun (varV n) = some (1, 0) := by
  obtain ⟨k, hk, e⟩ : ∃ k, k < 300 ∧ varV n = if k < 10 then names.getD (k % 10) [] else names.getD (k % 10) [] ++ dec k := ⟨_, pick_nat n (n := 300) (by omega), rfl⟩
  rw [e]
  have hm : names.getD (k % 10) [] ∈ names := getD_mem (by show k % 10 < 10; omega)
  generalize names.getD (k % 10) [] = w at hm
  obtain ⟨h1, h2, h3, h4, h5⟩ := names_ok w hm
  by_cases h : k < 10
  · simp only [if_pos h]
    exact ⟨h1, h4, ofRun_name h5 (name_self hm)⟩
  · simp only [if_neg h]
    refine ⟨by simp [h1], fun c hc => ?_, ofRun_name (name_app hm k hk).1 (name_app hm k hk).2⟩
    rcases List.mem_append.1 hc with hc | hc
    · exact h4 c hc
    · exact dig_run (dec_all k c hc)
theorem num_good (n : Int) : numText n ≠ [] ∧ (∀ c ∈ numText n, isRun c = true) ∧ ofRun (numText n) = some (3, pick n 4294967296) := by
  have hk := pick_bd n (n := 4294967296) (by omega)
  unfold numText
  obtain ⟨k, hke⟩ := Int.eq_ofNat_of_zero_le hk.1
  rw [hke, Int.toNat_natCast]
  have hlt : k < 4294967296 := by omega
  by_cases h : n % 2 = 0
  · rw [if_pos h]
    refine ⟨by simp, fun c hc => ?_, ofRun_num rfl (number_hex k hlt)⟩
    rcases List.mem_cons.1 hc with rfl | hc
    · decide
    · rcases List.mem_cons.1 hc with rfl | hc
      · decide
      · exact hex_all k c hc
  · rw [if_neg h]
    refine ⟨fun c => ?_, fun c hc => dig_run (dec_all k c hc), ofRun_num (by have := dec_headDig k []; rwa [List.append_nil] at this) (number_dec k hlt)⟩
    have := dec_pos k
    rw [c] at this
    simp at this
theorem piece_good (kind n : Int) : Good (pieceV kind n) (kindOf kind) (numOf kind n) := by
  unfold pieceV kindOf numOf
  by_cases h0 : pick kind 4 = 0
  · rw [if_pos h0, if_pos h0, if_neg (by omega)]
    exact Or.inl (words_ok _ (getD_mem (pick_nat n (n := 13) (by omega))))
  · rw [if_neg h0, if_neg h0]
    by_cases h1 : pick kind 4 = 1
    · rw [if_pos h1, if_pos h1, if_neg (by omega)]
      exact Or.inr ⟨getD_mem (pick_nat n (n := 25) (by omega)), rfl, rfl⟩
    · rw [if_neg h1, if_neg h1]
      by_cases h2 : pick kind 4 = 2
      · rw [if_pos h2, if_pos h2, if_pos h2]
        exact Or.inl (num_good n)
      · rw [if_neg h2, if_neg h2, if_neg h2]
        exact Or.inl (var_good n)
theorem feeds_run {w : Bs} (h : ∀ c ∈ w, isRun c = true) : feeds w = 0 := by
  unfold feeds
  rw [List.length_eq_zero_iff, List.filter_eq_nil_iff]
  intro c hc
  have := h c hc
  intro h10
  simp only [decide_eq_true_eq] at h10
  unfold isRun isLet isDig at this
  rw [Bool.or_eq_true, decide_eq_true_eq, decide_eq_true_eq] at this
  omega
theorem feeds_sign : ∀ g ∈ signs, feeds g = 0 := by decide
theorem good_feeds {w : Bs} {k m : Int} (h : Good w k m) : feeds w = 0 := by
  rcases h with ⟨_, h, _⟩ | ⟨h, _⟩
  · exact feeds_run h
  · exact feeds_sign w h
theorem good_short {w : Bs} {k m : Int} (h : Good w k m) : w ≠ [] := by
  rcases h with ⟨h, _⟩ | ⟨h, _⟩
  · exact h
  · rintro rfl
    revert h
    decide
/-- how long a piece is at most -/
theorem words_len : ∀ w ∈ words, w.length ≤ 10 := by decide
theorem piece_len (kind n : Int) : (pieceV kind n).length ≤ 10 := by
  unfold pieceV
  split
  · exact words_len _ (getD_mem (pick_nat n (n := 13) (by omega)))
  · split
    · have := (sign_short _ (getD_mem (l := signs) (pick_nat n (n := 25) (by omega)))).2
      exact Nat.le_trans this (by omega)
    · split
      · have hk := pick_bd n (n := 4294967296) (by omega)
        unfold numText
        split
        · have := hex_len 7 (pick n 4294967296).toNat (by omega)
          rw [List.length_cons, List.length_cons]
          omega
        · exact dec_len 9 _ (by omega)
      · have hk := pick_nat n (n := 300) (by omega)
        unfold varV
        generalize (pick n ((300 : Nat) : Int)).toNat = k at hk
        show (if k < 10 then names.getD (k % 10) [] else names.getD (k % 10) [] ++ dec k).length ≤ 10
        have hm : names.getD (k % 10) [] ∈ names := getD_mem (by show k % 10 < 10; omega)
        have h3 := (names_ok _ hm).2.2.1
        split
        · omega
        · have := dec_len 2 k (by omega)
          rw [List.length_append]
          omega
def blankV (l : List Int) (i : Nat) : Bs := match l[i]? with
  | none => [32]
  | some c => blanks.getD (pick c 8).toNat []
theorem blank_mem (l : List Int) (i : Nat) : blankV l i ∈ blanks := by
  unfold blankV
  split
  · decide
  · rename_i c _
    exact getD_mem (pick_nat c (n := 8) (by omega))
theorem blanks_len : ∀ b ∈ blanks, 1 ≤ b.length ∧ b.length ≤ 10 := by decide
def itemOf (p : Int × Int) (b : Bs) : Item := ⟨pieceV p.1 p.2, kindOf p.1, numOf p.1 p.2, b⟩
theorem item_ok (p : Int × Int) {b : Bs} (hb : b ∈ blanks) : (itemOf p b).ok := ⟨piece_good p.1 p.2, hb, good_feeds (piece_good p.1 p.2)⟩
end Go.Proofs.YthlnjnmomnpnpaaGreatDoor.Tk
