/- Texts of right images tell the images; in plain words. -/
import Derived.Test.YtbfmlbcjggplgaaGreatDoorIParse3
import Derived.Test.YtbfmlbcjggplgaaGreatDoorISame2
import Derived.Test.YtbfmlbcjggplgaaGreatDoorIFitP
namespace Go.Proofs.YtbfmlbcjggplgaaGreatDoor
open Go.RowKit Im
set_option linter.unusedVariables false
theorem readOf_any (t : Bs) : ∃ m, ReadOf t m := by
  obtain ⟨r, hr⟩ : ∃ r, Lib.atoiAll (Lib.trimPrefix (Lib.cut (Lib.cut t SEP).1 [10]).1 [105, 109, 97, 103, 101, 32]) = r := ⟨_, rfl⟩
  rcases r with x | _ | _
  · exact ⟨⟨_, x, _⟩, fun _ => rfl, fun y hy => (by rw [hr] at hy; injection hy), rfl⟩
  · exact ⟨⟨_, 0, _⟩, fun _ => rfl, fun y hy => (by rw [hr] at hy; cases hy), rfl⟩
  · exact ⟨⟨_, 0, _⟩, fun _ => rfl, fun y hy => (by rw [hr] at hy; cases hy), rfl⟩
theorem body_inj {m m' : Img} (h : right m = true) (h' : right m' = true) (e : body m = body m') : m = m' := by
  obtain ⟨r, hr⟩ := readOf_any (body m)
  rw [← read_back h hr, ← read_back h' (by rw [← e]; exact hr)]
theorem shape_inj {s : Bs} {m m' : Img} {n n' : Int} (h : Shape s m n) (h' : Shape s m' n') : m = m' ∧ n = n' := by
  obtain ⟨r1, a1, b1, e1⟩ := h
  obtain ⟨r2, a2, b2, e2⟩ := h'
  have e : body m ++ sumLine n = body m' ++ sumLine n' := e1.symm.trans e2
  have hl := congrArg List.length e
  rw [List.length_append, List.length_append, sumLine_len, sumLine_len] at hl
  obtain ⟨g1, g2⟩ := List.append_inj e (by omega)
  refine ⟨body_inj r1 r2 g1, ?_⟩
  rw [← last_line a1 b1, ← last_line a2 b2, g2]
theorem shape_text {m : Img} (h : right m = true) : Shape (text m) m (sumOf (body m)) := ⟨h, by omega, by have := sumOf_lt (body m); omega, rfl⟩
theorem text_inj {m m' : Img} (h : right m = true) (h' : right m' = true) (e : text m = text m') : m = m' :=
  (shape_inj (shape_text h) (by rw [e]; exact shape_text h')).1
theorem same_eq {a b : Img} : sameV a b = true ↔ a = b := by
  unfold sameV
  rw [Bool.and_eq_true, Bool.and_eq_true, decide_eq_true_eq, decide_eq_true_eq, decide_eq_true_eq]
  constructor
  · rintro ⟨⟨h1, h2⟩, h3⟩
    obtain ⟨aw, am, ays⟩ := a
    obtain ⟨bw, bm, bys⟩ := b
    simp only at h1 h2 h3
    rw [h1, h2, h3]
  · rintro rfl
    exact ⟨⟨rfl, rfl⟩, rfl⟩
theorem text_same {a b : Img} (ha : right a = true) (hb : right b = true) {S T : ByteArray} (hS : str (text a) = S) (hT : str (text b) = T) : (S.toList == T.toList) = sameV a b := by
  cases hv : sameV a b with
  | true =>
    rw [same_eq] at hv
    subst hv
    rw [← hS, ← hT]
    exact beq_self_eq_true _
  | false =>
    rw [beq_eq_false_iff_ne]
    intro c
    rw [ByteArray.toList_eq, ByteArray.toList_eq, ← hS, ← hT, str_list, str_list] at c
    rw [text_inj ha hb c] at hv
    rw [same_eq.2 rfl] at hv
    cases hv
/-- of a right image's text that image is parsed -/
theorem parse_text {m : Img} {S : ByteArray} (h : right m = true) (hS : str (text m) = S) (w : World) (hL : LibAt w) (hSp : SpAt w) :
    Calls Tryz.prog 18 #[.string S] w fun e w' => ∃ wp sp wc sc, e = .returned (.tuple #[imgV wp sp wc sc m, .int .i64 0, .int .i64 0]) ∧ ImgAt w' wp sp m ∧ Bel w w' := by
  have hs : S.data.toList = text m := by rw [← hS, str_list]
  have hsz : S.size ≤ 1000000 := by rw [← hS, str_size]; have := text_len h; omega
  refine (parse_any hsz w hL hSp).mono ?_
  rintro e w' ⟨hb, h1⟩
  rw [hs] at h1
  rcases h1 with ⟨m', hm, wp, sp, wc, sc, he, hI⟩ | ⟨m', n, hm, hn, _⟩ | ⟨hn, _⟩
  · obtain ⟨rfl, _⟩ := shape_inj (shape_text h) hm
    exact ⟨wp, sp, wc, sc, he, hI, hb⟩
  · obtain ⟨rfl, rfl⟩ := shape_inj (shape_text h) hm
    exact absurd rfl hn
  · exact absurd (shape_text h) (hn _ _)
end Go.Proofs.YtbfmlbcjggplgaaGreatDoor
