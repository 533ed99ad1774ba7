/- Parse at any text. -/
import Derived.Test.YtbfmlbcjggplgaaGreatDoorIReadA
import Derived.Test.YtbfmlbcjggplgaaGreatDoorIAwk
namespace Go.Proofs.YtbfmlbcjggplgaaGreatDoor
open Go.RowKit Im
set_option linter.unusedVariables false
/-- a text is an image's, whatever sum its last line tells -/
def Shape (s : Bs) (m : Img) (n : Int) : Prop := right m = true ∧ 0 ≤ n ∧ n ≤ 4294967295 ∧ s = body m ++ sumLine n
def Parsed (s : Bs) (w : World) (e : Ending) (w' : World) : Prop := Bel w w' ∧
  ((∃ m, Shape s m (sumOf (body m)) ∧ ∃ wp sp wc sc, e = .returned (.tuple #[imgV wp sp wc sc m, .int .i64 0, .int .i64 0]) ∧ ImgAt w' wp sp m) ∨
   (∃ m n, Shape s m n ∧ ¬ n = (sumOf (body m) : Int) ∧ e = .returned (.tuple #[noImg, .int .i64 41, .int .i64 (Lib.countByte s 10 : Nat)])) ∨
   ((∀ m n, ¬ Shape s m n) ∧ e = .returned (.tuple #[noImg, .int .i64 40, .int .i64 0])))
theorem last_line {n : Int} (h0 : 0 ≤ n) (h1 : n ≤ 4294967295) : numV (Lib.trimSuffix (Lib.trimPrefix (sumLine n) [115, 117, 109, 32]) [10]) = n := by
  have e1 : Lib.trimPrefix (sumLine n) [115, 117, 109, 32] = hex8 n ++ [10] := by
    unfold Lib.trimPrefix Lib.hasPrefix sumLine
    simp
  have e2 : Lib.trimSuffix (hex8 n ++ [10]) [10] = hex8 n := by
    unfold Lib.trimSuffix Lib.hasSuffix
    rw [if_pos (by simp)]
    simp
  rw [e1, e2, numV_hex8 h0 h1]
theorem lastB_app (b : Bs) (n : Int) : lastB (b ++ sumLine n) = sumLine n := by
  unfold lastB
  have : (b ++ sumLine n).length - 13 = b.length := by rw [List.length_append, sumLine_len]; omega
  rw [this, List.drop_left]
theorem parse_any {s : ByteArray} (hs : s.size ≤ 1000000) (w : World) (hL : LibAt w) (hS : SpAt w) : Calls Tryz.prog 18 #[.string s] w (Parsed s.data.toList w) := by
  have hshape : ∀ m n, Shape s.data.toList m n → 13 ≤ s.size ∧ body m = s.data.toList.take (s.size - 13) ∧ lastN s.data.toList = n ∧ s.data.toList.drop (s.size - 13) = sumLine n := by
    rintro m n ⟨_, h0, h1, h2⟩
    have hl := congrArg List.length h2
    rw [size_list, List.length_append, sumLine_len] at hl
    have hk : s.size - 13 = (body m).length := by omega
    refine ⟨by omega, ?_, ?_, ?_⟩
    · rw [h2, hk, List.take_left]
    · unfold lastN
      rw [h2, lastB_app]
      exact last_line h0 h1
    · rw [h2, hk, List.drop_left]
  by_cases h13 : s.size < 13
  · refine (parse_form (A := ⟨#[]⟩) (n := 0) hs w fun W hW => cut_short h13 W).mono ?_
    rintro e w' ⟨rfl, hb⟩
    exact ⟨hb, .inr (.inr ⟨fun m n h => by have := (hshape m n h).1; omega, rfl⟩)⟩
  · obtain ⟨k, hk⟩ : ∃ k, s.size = k + 13 := ⟨s.size - 13, by omega⟩
    obtain ⟨n, hn⟩ : ∃ n, lastN s.data.toList = n := ⟨_, rfl⟩
    have hnb : 0 ≤ n ∧ n ≤ 4294967295 := by rw [← hn]; exact numV_bounds _
    obtain ⟨A, hA⟩ : ∃ A, s.extract 0 k = A := ⟨_, rfl⟩
    obtain ⟨Z, hZ⟩ : ∃ Z, s.extract k s.size = Z := ⟨_, rfl⟩
    have hAl : A.data.toList = s.data.toList.take k := by rw [← hA, ← str_of s, ext_str, str_list, str_list]; simp
    have hZl : Z.data.toList = s.data.toList.drop k := by
      rw [← hZ]
      have := ext_str s.data.toList k s.size
      rw [str_of] at this
      rw [this, str_list]
      exact List.take_of_length_le (by rw [List.length_drop, size_list]; omega)
    have hAs : A.size ≤ 1000000 := by
      rw [← size_list, hAl, List.length_take, size_list]
      omega
    have hsplit : s.data.toList = A.data.toList ++ Z.data.toList := by rw [hAl, hZl, List.take_append_drop]
    cases hok : (Z.toList == (str (sumLine n)).toList) with
    | false =>
      refine (parse_form (A := A) (n := n) hs w fun W hW => cut_long hk (by omega) hA hZ hn hok W (hL.bel hW).1).mono ?_
      rintro e w' ⟨rfl, hb⟩
      refine ⟨hb, .inr (.inr ⟨fun m n' h => ?_, rfl⟩)⟩
      obtain ⟨_, h2, h3, h4⟩ := hshape m n' h
      rw [show s.size - 13 = k by omega] at h4
      rw [hn] at h3
      subst h3
      rw [← hZl] at h4
      have : Z = str (sumLine n) := by rw [← h4, str_of]
      rw [this] at hok
      simp at hok
    | true =>
      have hZe : Z.data.toList = sumLine n := by
        have h1 := eq_of_beq hok
        rw [ByteArray.toList_eq, ByteArray.toList_eq, str_list] at h1
        exact h1
      refine (parse_read hs hAs rfl w hL.2.1 (fun W hW => cut_long hk (by omega) hA hZ hn hok W (hL.bel hW).1) fun W hW => read_any hAs W (hL.bel hW) (hS.bel hW)).mono ?_
      rintro e w' ⟨hb, m, hP, h | h | h⟩
      · obtain ⟨h1, h2, h3, wp, sp, wc, sc, he, hI⟩ := h
        have hbm : body m = A.data.toList := by rw [← h2, str_list]
        refine ⟨hb, .inl ⟨m, ⟨h1, by omega, by rw [hbm, h3]; exact hnb.2, ?_⟩, wp, sp, wc, sc, he, hI⟩⟩
        rw [hbm, h3, ← hZe]
        exact hsplit
      · obtain ⟨h1, h2, h3, he⟩ := h
        have hbm : body m = A.data.toList := by rw [← h2, str_list]
        refine ⟨hb, .inr (.inl ⟨m, n, ⟨h1, hnb.1, hnb.2, ?_⟩, fun c => h3 (by rw [← hbm]; exact c.symm), he⟩)⟩
        rw [hbm, ← hZe]
        exact hsplit
      · obtain ⟨h1, he⟩ := h
        refine ⟨hb, .inr (.inr ⟨fun m' n' h => h1 ?_, he⟩)⟩
        obtain ⟨_, h2, h3, h4⟩ := hshape m' n' h
        rw [show s.size - 13 = k by omega, ← hAl] at h2
        have hm : m = m' := read_back h.1 (by rw [h2]; exact hP)
        rw [hm]
        exact ⟨h.1, by rw [h2, str_of]⟩
end Go.Proofs.YtbfmlbcjggplgaaGreatDoor
