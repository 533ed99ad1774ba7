/- The laws' first calls: what package token answers of chapter 5's example. -/
import Derived.Test.YtgameoiofikhmaaDoorTSame
namespace Go.Proofs.YtgameoiofikhmaaDoor
open Go.RowKit Tk
set_option linter.unusedVariables false
def exToks : List Tok := [⟨2, [108, 111, 99, 107], 0, 1⟩, ⟨1, [83], 0, 1⟩, ⟨4, [123], 0, 1⟩, ⟨1, [83], 0, 1⟩, ⟨4, [91], 0, 1⟩, ⟨3, [48], 0, 1⟩, ⟨4, [93], 0, 1⟩, ⟨4, [61], 0, 1⟩, ⟨3, [48, 120, 49, 102], 31, 1⟩, ⟨4, [59], 0, 1⟩, ⟨4, [125], 0, 1⟩, ⟨5, [], 0, 1⟩]
theorem ex_scan : scan [108, 111, 99, 107, 32, 83, 32, 123, 32, 83, 91, 48, 93, 32, 61, 32, 48, 120, 49, 102, 59, 32, 125] 1 = .ok exToks := by decide +kernel
theorem ex_bad : scan [97, 10, 32, 49, 98] 1 = .err 2 := by decide +kernel
theorem ex_num : numIs [52, 50, 57, 52, 57, 54, 55, 50, 57, 53] 4294967295 true := by
  unfold numIs
  decide +kernel
theorem ex_name : isName [120, 49] = true := by decide
theorem ex_if : isName [105, 102] = false := by decide
theorem ex_word : isWord [105, 102] = true := by decide
theorem scan_ok {s : ByteArray} {l : List Tok} {n : Nat} (h : scan s.data.toList 1 = .ok l) (hn : l.length = n) (hs : s.size ≤ 20000) (w : World) (hT : SignsAt w) :
    Calls Tryd.prog 18 #[.string s] w fun e w' => ∃ B c, e = .returned (.tuple #[.slice (some ⟨B, 0, none⟩) n c, .int .i64 0, .int .i64 0]) ∧ w.heap.size ≤ B ∧ n ≤ c ∧ ToksAt w' B 0 l ∧ Bel w w' := by
  subst hn
  refine (scan_any s hs w hT).mono fun e w' hq => ?_
  rw [h] at hq
  obtain ⟨hb, B, c, he, h1, h2, h3, _⟩ := hq
  exact ⟨B, c, he, h1, h2, h3, hb⟩
theorem scan_own {s : ByteArray} {l : List Tok} {n : Nat} (h : scan s.data.toList 1 = .ok l) (hn : l.length = n) (hs : s.size ≤ 20000) (w : World) (hT : SignsAt w) :
    Calls Tryd.prog 18 #[.string s] w fun e w' => ∃ B c, e = .returned (.tuple #[.slice (some ⟨B, 0, none⟩) n c, .int .i64 0, .int .i64 0]) ∧ w.heap.size ≤ B ∧ n ≤ c ∧ ToksAt w' B 0 l ∧ Bel w w' ∧ ∀ j, w'.frozen? ⟨B, j, none⟩ = false := by
  subst hn
  refine (scan_any s hs w hT).mono fun e w' hq => ?_
  rw [h] at hq
  obtain ⟨hb, B, c, he, h1, h2, h3, h4⟩ := hq
  exact ⟨B, c, he, h1, h2, h3, hb, h4⟩
theorem scan_err {s : ByteArray} {n : Nat} (h : scan s.data.toList 1 = .err n) (hs : s.size ≤ 20000) (w : World) (hT : SignsAt w) :
    Calls Tryd.prog 18 #[.string s] w fun e w' => e = .returned (.tuple #[.slice none 0 0, .int .i64 50, .int .i64 n]) ∧ Bel w w' := by
  refine (scan_any s hs w hT).mono fun e w' hq => ?_
  rw [h] at hq
  exact ⟨hq.2, hq.1⟩
set_option maxRecDepth 100000 in
set_option maxHeartbeats 4000000 in
theorem awake_any (w : World) (hT : SignsAt w) : Calls Tryd.prog 10 #[] w fun e w' => e = .returned (.bool true) ∧ Bel w w' := by
  have ex0 : ∀ (x y z : Value) (W : World), (Instr.extract (.tuple #[x, y, z]) 0).run Tryd.prog W = .ok x W := fun x y z W => by kernel_rfl
  have ex1 : ∀ (x y z : Value) (W : World), (Instr.extract (.tuple #[x, y, z]) 1).run Tryd.prog W = .ok y W := fun x y z W => by kernel_rfl
  have ex2 : ∀ (x y z : Value) (W : World), (Instr.extract (.tuple #[x, y, z]) 2).run Tryd.prog W = .ok z W := fun x y z W => by kernel_rfl
  have HT := Lib.hid hT
  clear hT
  go_enter Tryd.func10, Tryd.ntmps10
  go_wp2_with fail
  refine (scan_ok (n := 12) ex_scan rfl (by decide) _ HT.out).mono ?_
  rintro e W1 ⟨B, c, rfl, hb0, hc, hat, hb1⟩
  have HT1 := Lib.hid (HT.out.bel hb1)
  have HAT := Lib.hid hat
  have HB1 := Lib.hid hb1
  clear hat hb1 HT
  go_wp2_with fail
  refine (scan_err ex_bad (by decide) _ HT1.out).mono ?_
  rintro e W2 ⟨rfl, hb2⟩
  have hat2 := HAT.out.bel hb2
  obtain ⟨a0, _, _, _⟩ := hat2.get (j := 0) rfl
  obtain ⟨a1, _, _, _⟩ := hat2.get (j := 1) rfl
  obtain ⟨_, _, a8, _⟩ := hat2.get (j := 8) rfl
  obtain ⟨a11, _, _, _⟩ := hat2.get (j := 11) rfl
  simp only [Nat.zero_add, Nat.zero_mul, Nat.one_mul, Nat.reduceMul, Nat.reduceAdd] at a0 a1 a8 a11
  have HB2 := Lib.hid (HB1.out.trans hb2)
  clear hat2 hb2 HB1 HAT
  go_wp2_with (first | (go_at_call 21; ((with_reducible refine (number_lit ex_num (by unfold maxLen; decide) _).mono ?_); rintro e w' ⟨rfl, rfl⟩)) | (go_at_call 13; ((with_reducible refine (name_lit ex_name (by unfold maxLen; decide) _).mono ?_); rintro e w' ⟨rfl, rfl⟩)) | (go_at_call 13; ((with_reducible refine (name_lit ex_if (by unfold maxLen; decide) _).mono ?_); rintro e w' ⟨rfl, rfl⟩)) | (go_at_call 15; ((with_reducible refine (word_lit ex_word _).mono ?_); rintro e w' ⟨rfl, rfl⟩)))
  go_ret
  exact ⟨rfl, HB2.out⟩
end Go.Proofs.YtgameoiofikhmaaDoor
