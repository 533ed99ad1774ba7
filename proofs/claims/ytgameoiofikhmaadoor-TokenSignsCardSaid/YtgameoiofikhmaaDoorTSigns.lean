/- Of two signs that stand one behind the other the longest one that can be is taken first. -/
import Derived.Test.YtgameoiofikhmaaDoorTAwake
namespace Go.Proofs.YtgameoiofikhmaaDoor
open Go.RowKit Tk
set_option linter.unusedVariables false
def textTo (m : List Tok) (k : Nat) : Bs := (m.take k).flatMap fun x => x.text
def pairOk (a b : Bs) : Bool := match scan (a ++ b) 1 with
  | .ok m => decide (2 ≤ m.length ∧ m.length ≤ 4 ∧ textTo m m.length = a ++ b ∧ ∀ x, m[0]? = some x → a.length ≤ x.text.length)
  | .err _ => false
def pairOkB (a b : Bs) : Bool := match scan (a ++ b) 1 with
  | .ok m => decide (2 ≤ m.length) && decide (m.length ≤ 4) && (textTo m m.length == a ++ b) && match m with
    | x :: _ => decide (a.length ≤ x.text.length)
    | [] => false
  | .err _ => false
theorem pairs_all : (signs.all fun a => signs.all fun b => pairOkB a b) = true := by decide +kernel
theorem pair_of {a b : Bs} (ha : a ∈ signs) (hb : b ∈ signs) : ∃ m : List Tok, scan (a ++ b) 1 = .ok m ∧ 2 ≤ m.length ∧ m.length ≤ 4 ∧ textTo m m.length = a ++ b ∧ ∃ x, m[0]? = some x ∧ a.length ≤ x.text.length := by
  have h := List.all_eq_true.1 (List.all_eq_true.1 pairs_all a ha) b hb
  unfold pairOkB at h
  cases hs : scan (a ++ b) 1 with
  | err n => rw [hs] at h; cases h
  | ok m =>
    rw [hs] at h
    simp only [Bool.and_eq_true, decide_eq_true_eq, beq_iff_eq] at h
    obtain ⟨⟨⟨h1, h2⟩, h3⟩, h4⟩ := h
    refine ⟨m, rfl, h1, h2, h3, ?_⟩
    cases m with
    | nil => cases h4
    | cons x t => exact ⟨x, rfl, by simpa using h4⟩
theorem textTo_succ {m : List Tok} {k : Nat} {x : Tok} (h : m[k]? = some x) : textTo m (k + 1) = textTo m k ++ x.text := by
  unfold textTo
  rw [List.take_add_one, h, List.flatMap_append]
  simp
theorem textTo_le (m : List Tok) (k : Nat) : (textTo m k).length ≤ (textTo m m.length).length := by
  unfold textTo
  rw [List.take_length]
  conv => rhs; rw [← List.take_append_drop k m, List.flatMap_append, List.length_append]
  omega
theorem two_signs {a b : Bs} (ha : a ∈ signs) (hb : b ∈ signs) : scan (a ++ [32] ++ b) 1 = .ok [⟨4, a, 0, 1⟩, ⟨4, b, 0, 1⟩, ⟨5, [], 0, 1⟩] := by
  have e : a ++ [32] ++ b = a ++ ([32] ++ b) := List.append_assoc _ _ _
  rw [e, scan_piece (Or.inr ⟨ha, rfl, rfl⟩) (blank_sep (b := [32]) (by decide) _), scan_blank (b := [32]) (by decide)]
  have e2 : scan b (1 + feeds [32]) = scan (b ++ []) 1 := by rw [List.append_nil]; rfl
  rw [e2, scan_piece (Or.inr ⟨hb, rfl, rfl⟩) (fun c t h => by cases h), scan_nil]
  rfl
theorem sign_piece (n : Int) : ∃ a, a ∈ signs ∧ pieceV 1 n = a ∧ kindOf 1 = 4 ∧ 1 ≤ a.length ∧ a.length ≤ 2 := by
  have hm : signs.getD (pick n 25).toNat [] ∈ signs := getD_mem (pick_nat n (n := 25) (by omega))
  exact ⟨_, hm, rfl, rfl, (sign_short _ hm).1, (sign_short _ hm).2⟩
set_option maxRecDepth 100000 in
set_option maxHeartbeats 4000000 in
theorem signs_walk (a0 a1 : Int) (h0 : inInt a0) (h1 : inInt a1) (w : World) (hT : SignsAt w) :
    Calls Tryd.prog 9 #[.int .i64 a0, .int .i64 a1] w fun e w' => e = .returned (.bool true) ∧ Bel w w' := by
  have ex0 : ∀ (x y z : Value) (W : World), (Instr.extract (.tuple #[x, y, z]) 0).run Tryd.prog W = .ok x W := fun x y z W => by kernel_rfl
  have ex1 : ∀ (x y z : Value) (W : World), (Instr.extract (.tuple #[x, y, z]) 1).run Tryd.prog W = .ok y W := fun x y z W => by kernel_rfl
  have ex2 : ∀ (x y z : Value) (W : World), (Instr.extract (.tuple #[x, y, z]) 2).run Tryd.prog W = .ok z W := fun x y z W => by kernel_rfl
  obtain ⟨a, ha, pa, ka, la1, la2⟩ := sign_piece a0
  obtain ⟨b, hb, pb, kb, lb1, lb2⟩ := sign_piece a1
  obtain ⟨m, hm, m1, m2, m3, x0, m4, m5⟩ := pair_of ha hb
  have hab := two_signs ha hb
  have HPA : Hid (str (pieceV 1 a0) = str a) := Lib.hid (by rw [pa])
  have HPB : Hid (str (pieceV 1 a1) = str b) := Lib.hid (by rw [pb])
  have HKA := Lib.hid ka
  have hu : str a ++ str b = str (a ++ b) := str_app _ _
  have hv : str a ++ ⟨#[32]⟩ ++ str b = str (a ++ [32] ++ b) := by
    rw [← str_app, ← str_app]
    rfl
  have sz1 : (str a).size ≤ 2 := la2
  have sz2 : (str b).size ≤ 2 := lb2
  have sz3 : (str a ++ ⟨#[32]⟩).size ≤ 3 := by
    rw [show str a ++ (⟨#[32]⟩ : ByteArray) = str (a ++ [32]) from str_app a [32], str_size, List.length_append, List.length_singleton]
    omega
  have HS1 : Hid (scan (str (a ++ [32] ++ b)).data.toList 1 = .ok [⟨4, a, 0, 1⟩, ⟨4, b, 0, 1⟩, ⟨5, [], 0, 1⟩]) := Lib.hid hab
  have HS2 : Hid (scan (str (a ++ b)).data.toList 1 = .ok m) := Lib.hid hm
  have HZ1 : Hid ((str (a ++ [32] ++ b)).size ≤ 20000) := Lib.hid (by rw [str_size]; simp; omega)
  have HZ2 : Hid ((str (a ++ b)).size ≤ 20000) := Lib.hid (by rw [str_size]; simp; omega)
  have HTX : Hid (str (textTo m m.length) = str (a ++ b)) := Lib.hid (by rw [m3])
  have HTL : Hid (∀ k, (textTo m k).length ≤ 4) := Lib.hid (fun k => by have := textTo_le m k; rw [m3, List.length_append] at this; omega)
  have HM4 := Lib.hid m4
  have hx0 : ((str a).size : Int) ≤ ((str x0.text).size : Int) := by rw [str_size, str_size]; omega
  have HT := Lib.hid hT
  obtain ⟨nm, hnm⟩ : ∃ nm, m.length = nm := ⟨_, rfl⟩
  rw [hnm] at m1 m2 HTX
  have HNM := Lib.hid hnm
  clear hab hm m3 m4 hT hnm ha hb pa pb ka kb
  generalize str (a ++ [32] ++ b) = v at hv HS1 HZ1
  generalize str (a ++ b) = u at hu HS2 HZ2 HTX
  obtain ⟨A, hA⟩ : ∃ A, str a = A := ⟨_, rfl⟩
  obtain ⟨B, hB⟩ : ∃ B, str b = B := ⟨_, rfl⟩
  have HA := Lib.hid hA
  have HB := Lib.hid hB
  rw [hA] at hv hu sz1 sz3 HPA hx0
  rw [hB] at hv hu sz2 HPB
  clear hA hB
  go_enter Tryd.func9, Tryd.ntmps9
  go_wp2_with fail
  refine (awake_any _ HT.out).mono ?_
  rintro e w1 ⟨rfl, hb1⟩
  have HT1 := Lib.hid (HT.out.bel hb1)
  have HB1 := Lib.hid hb1
  clear hb1 HT
  go_wp2_with fail
  refine (piece_lit HPA.out HKA.out (by unfold inInt; omega) h0 _).mono ?_
  rintro e w2 ⟨rfl, hb2⟩
  have HT2 := Lib.hid (HT1.out.bel hb2)
  have HB2 := Lib.hid (HB1.out.trans hb2)
  clear hb2 HT1 HB1
  go_wp2_with fail
  refine (piece_lit HPB.out HKA.out (by unfold inInt; omega) h1 _).mono ?_
  rintro e w3 ⟨rfl, hb3⟩
  have HT3 := Lib.hid (HT2.out.bel hb3)
  have HB3 := Lib.hid (HB2.out.trans hb3)
  clear hb3 HT2 HB2
  go_wp2_with fail
  refine (scan_ok (n := 3) HS1.out rfl HZ1.out _ HT3.out).mono ?_
  rintro e w4 ⟨B4, c4, rfl, hz4, hc4, hat4, hb4⟩
  have HT4 := Lib.hid (HT3.out.bel hb4)
  have HB4 := Lib.hid (HB3.out.trans hb4)
  have HAT4 := Lib.hid hat4
  clear hb4 HT3 HB3 hat4 hz4
  go_wp2_with fail
  refine (scan_ok (n := nm) HS2.out HNM.out HZ2.out _ HT4.out).mono ?_
  rintro e w5 ⟨B5, c5, rfl, hz5, hc5, hat5, hb5⟩
  have hat := HAT4.out.bel hb5
  obtain ⟨_, l0, _, _⟩ := hat.get (j := 0) rfl
  obtain ⟨_, l1, _, _⟩ := hat.get (j := 1) rfl
  simp only [Nat.zero_add, Nat.zero_mul, Nat.one_mul] at l0 l1
  rw [HA.out] at l0
  rw [HB.out] at l1
  have HB5 := Lib.hid (HB4.out.trans hb5)
  have HAT5 := Lib.hid hat5
  obtain ⟨_, r0, _, _⟩ := hat5.get (j := 0) HM4.out
  simp only [Nat.zero_add, Nat.zero_mul] at r0
  clear hb5 HT4 HB4 hat5 hz5 HAT4 hat
  have n1 : ¬ (nm : Int) < 2 := by omega
  have n2 : ¬ 4 < (nm : Int) := by omega
  go_wp2_with fail
  go_loop [16, 17] (fun s i => ∃ k : Nat, k ≤ nm ∧ s = .string (str (textTo m k)) ∧ i = .int .i64 k) (fun _ i => nm - (intOf i).toNat)
  case atStart => exact ⟨0, Nat.zero_le _, rfl, rfl⟩
  case round =>
    obtain ⟨k, hk, rfl, rfl⟩ := hrel
    by_cases hlt : k < nm
    · have hkm : k < m.length := by have := HNM.out; omega
      obtain ⟨x, hx⟩ : ∃ x, m[k]? = some x := ⟨_, List.getElem?_eq_getElem hkm⟩
      obtain ⟨_, r1, _, _⟩ := HAT5.out.get (j := k) hx
      rw [Nat.zero_add] at r1
      have hts := textTo_succ hx
      have hz1 := HTL.out k
      have hz2 := HTL.out (k + 1)
      rw [hts, List.length_append] at hz2
      have hsz : (str (textTo m k)).size + (str x.text).size ≤ 9223372036854775807 := by rw [str_size, str_size]; omega
      have hcat := str_app (textTo m k) x.text
      rw [← hts] at hcat
      have HCAT := Lib.hid hcat
      have hlt2 : (k : Int) < nm := by omega
      clear hts hz1 hz2 hx hkm hcat
      generalize x.text = xt at r1 hsz HCAT
      go_wp2_with fail
      go_round
      case rel => exact ⟨k + 1, by omega, by rw [← HCAT.out], by go_num⟩
      case measure => simp [intOf]; omega
    · obtain rfl : k = nm := by omega
      rw [HTX.out]
      go_wp2_with fail
      go_ret
      exact ⟨rfl, HB5.out⟩
end Go.Proofs.YtgameoiofikhmaaDoor
