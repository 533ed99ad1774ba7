/- The law's first calls, whose answers are fixed. -/
import Derived.Test.YtbfmlbcjggplgaaGreatDoorIFind
import Derived.Test.YtbfmlbcjggplgaaGreatDoorISame2
import Derived.Test.YtbfmlbcjggplgaaGreatDoorIParse2
import Derived.Test.YtbfmlbcjggplgaaGreatDoorIRead0
namespace Go.Proofs.YtbfmlbcjggplgaaGreatDoor
open Go.RowKit Im
set_option linter.unusedVariables false
/-- which of n things a raw number speaks of -/
def pick (c n : Int) : Int := if c < 0 then (-(c + 1)) % n else c % n
theorem pick_neg {c : Int} (n : Int) (h : c < 0) : -((c + 1).tmod n) = pick c n := by
  rw [← Int.neg_tmod, Int.tmod_eq_emod_of_nonneg (by omega)]
  unfold pick
  rw [if_pos h]
theorem pick_pos {c : Int} (n : Int) (h : ¬ c < 0) : c % n = pick c n := by
  unfold pick
  rw [if_neg h]
theorem pick_any (c n : Int) (h1 : -9223372036854775808 ≤ c) (h2 : c ≤ 9223372036854775807) (h3 : 1 ≤ n) (w : World) : Calls Tryz.prog 17 #[.int .i64 c, .int .i64 n] w fun e w' => e = .returned (.int .i64 (pick c n)) ∧ w = w' := by
  by_cases hc : c < 0
  · have ht := Lib.hid (pick_neg n hc)
    go_enter Tryz.func17, Tryz.ntmps17
    go_wp2
    go_ret
    exact ⟨ri ht.out, rfl⟩
  · have ht := Lib.hid (pick_pos n hc)
    go_enter Tryz.func17, Tryz.ntmps17
    go_wp2
    go_ret
    exact ⟨ri ht.out, rfl⟩
def inInt (c : Int) : Prop := -9223372036854775808 ≤ c ∧ c ≤ 9223372036854775807
theorem pick_lit {c n r : Int} (h : pick c n = r) (hc : inInt c) (h3 : 1 ≤ n) (w : World) : Calls Tryz.prog 17 #[.int .i64 c, .int .i64 n] w fun e w' => e = .returned (.int .i64 r) ∧ w = w' := by
  subst h
  exact pick_any c n hc.1 hc.2 h3 w
theorem pick_bd (c : Int) {n : Int} (h : 1 ≤ n) : 0 ≤ pick c n ∧ pick c n < n := by
  unfold pick
  split
  · exact ⟨Int.emod_nonneg _ (by omega), Int.emod_lt_of_pos _ (by omega)⟩
  · exact ⟨Int.emod_nonneg _ (by omega), Int.emod_lt_of_pos _ (by omega)⟩
/-- the empty image's text; that with another sum -/
def S0 : Bs := [105, 109, 97, 103, 101, 32, 48, 10, 99, 111, 100, 101, 10, 115, 117, 109, 32, 49, 101, 55, 51, 48, 52, 48, 51, 10]
def S1 : Bs := [105, 109, 97, 103, 101, 32, 48, 10, 99, 111, 100, 101, 10, 115, 117, 109, 32, 48, 48, 48, 48, 48, 48, 48, 48, 10]
theorem sum_T0 : sumOf T0 = 510854147 := by decide +kernel
theorem right_empty : right Im.empty = true := by decide +kernel
theorem text_empty : text Im.empty = S0 := by
  unfold text
  rw [body_empty, sum_T0]
  decide +kernel
theorem last0 : lastN S0 = 510854147 := by decide +kernel
theorem last1 : lastN S1 = 0 := by decide +kernel
theorem last2 : lastN T0 = 0 := by decide +kernel
theorem ext_str (l : Bs) (a b : Nat) : (str l).extract a b = str ((l.drop a).take (b - a)) := by
  rw [← str_of ((str l).extract a b)]
  congr 1
  have := Lib.extract_toList (str l) a b
  rw [ByteArray.toList_eq, str_list] at this
  exact this
def EmptyOk (w : World) (e : Ending) (w' : World) : Prop := Bel w w' ∧ ∃ wp sp wc sc, e = .returned (.tuple #[.agg #[.slice wp 0 wc, .int .i64 0, .slice sp 0 sc], .int .i64 0, .int .i64 0])
theorem read0_post {t : ByteArray} (ht : str T0 = t) (w : World) (hL : LibAt w) : Calls Tryz.prog 34 #[.string t] w (ReadPost (· = Im.empty) w) :=
  (read0 ht w hL).mono fun e w' ⟨he, hb⟩ => ⟨none, none, 0, 0, Im.empty, he, ImgAt.empty _ _ _, rfl, hb, (fun q c => by cases c), (fun q c => by cases c)⟩
theorem parse_S0 {s : ByteArray} (hs : str S0 = s) (w : World) (hL : LibAt w) : Calls Tryz.prog 18 #[.string s] w (EmptyOk w) := by
  subst hs
  refine (parse_read (s := str S0) (A := str T0) (n := 510854147) (k := 3) (P := (· = Im.empty)) (by decide) (by decide) (by rw [str_list]; decide +kernel) w hL.2.1 (fun W hW => ?_) (fun W hW => read0_post rfl W (hL.bel hW))).mono ?_
  · exact cut_long (Z := str (S0.drop 13)) (k := 13) (n := 510854147) (ok := true) rfl (by decide) (by rw [ext_str]; rfl) (by rw [ext_str]; rfl) (by rw [str_list]; exact last0) (by decide +kernel) W (hL.bel hW).1
  · rintro e w' ⟨hb, m, rfl, h | h | h⟩
    · obtain ⟨_, _, _, wp, sp, wc, sc, he, _⟩ := h
      exact ⟨hb, wp, sp, wc, sc, he⟩
    · exact absurd (by rw [str_list, sum_T0]; rfl) h.2.2.1
    · exact absurd ⟨right_empty, by rw [body_empty]⟩ h.1
theorem parse_S1 {s : ByteArray} (hs : str S1 = s) (w : World) (hL : LibAt w) : Calls Tryz.prog 18 #[.string s] w fun e w' => e = .returned (.tuple #[noImg, .int .i64 41, .int .i64 3]) ∧ Bel w w' := by
  subst hs
  refine (parse_read (s := str S1) (A := str T0) (n := 0) (k := 3) (P := (· = Im.empty)) (by decide) (by decide) (by rw [str_list]; decide +kernel) w hL.2.1 (fun W hW => ?_) (fun W hW => read0_post rfl W (hL.bel hW))).mono ?_
  · exact cut_long (Z := str (S1.drop 13)) (k := 13) (n := 0) (ok := true) rfl (by decide) (by rw [ext_str]; rfl) (by rw [ext_str]; rfl) (by rw [str_list]; exact last1) (by decide +kernel) W (hL.bel hW).1
  · rintro e w' ⟨hb, m, rfl, h | h | h⟩
    · exact absurd h.2.2.1 (by rw [str_list, sum_T0]; decide)
    · exact ⟨h.2.2.2, hb⟩
    · exact absurd ⟨right_empty, by rw [body_empty]⟩ h.1
theorem parse_T0 {s : ByteArray} (hs : str T0 = s) (w : World) (hL : LibAt w) : Calls Tryz.prog 18 #[.string s] w fun e w' => e = .returned (.tuple #[noImg, .int .i64 40, .int .i64 0]) ∧ Bel w w' := by
  subst hs
  exact parse_form (A := str []) (n := 0) (by decide) w fun W hW => cut_long (Z := str T0) (k := 0) (n := 0) (ok := false) rfl (by decide) (by rw [ext_str]; rfl) (by rw [ext_str]; rfl) (by rw [str_list]; exact last2) (by decide +kernel) W (hL.bel hW).1
theorem print_empty {s : ByteArray} (hs : str S0 = s) (w : World) (hP : PowAt w) : Calls Tryz.prog 7 #[noImg] w fun e w' => e = .returned (.tuple #[.string s, .int .i64 0]) ∧ Bel w w' :=
  print_yes (wp := none) (sp := none) (wc := 0) (sc := 0) (m := Im.empty) right_empty (by rw [text_empty]; exact hs) w (Lib.hid (ImgAt.empty _ _ _)) hP
end Go.Proofs.YtbfmlbcjggplgaaGreatDoor
