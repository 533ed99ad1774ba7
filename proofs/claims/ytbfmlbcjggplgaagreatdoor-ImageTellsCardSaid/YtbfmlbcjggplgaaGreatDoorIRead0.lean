/- The empty image's text is read. -/
import Derived.Test.YtbfmlbcjggplgaaGreatDoorICut
import Derived.Test.YtbfmlbcjggplgaaGreatDoorIBld
import Derived.Test.YtbfmlbcjggplgaaGreatDoorISeq0
namespace Go.Proofs.YtbfmlbcjggplgaaGreatDoor
open Go.RowKit Im
set_option linter.unusedVariables false
/-- the bound up to which the library searches by hand holds some number -/
def MaxAt (w : World) : Prop := ∃ m, w.cell? ⟨0, 0, none⟩ = some (.int .i64 m) ∧ 0 < w.heap.size
theorem MaxAt.bel {w w' : World} (h : MaxAt w) (hb : Bel w w') : MaxAt w' := by
  obtain ⟨m, h1, h2⟩ := h
  exact ⟨m, (hb.cell (p := ⟨0, 0, none⟩) h2).trans h1, Nat.lt_of_lt_of_le h2 hb.size⟩
/-- what the library's variables hold -/
def LibAt (w : World) : Prop := ErrsAt w ∧ PowAt w ∧ MaxAt w
theorem LibAt.bel {w w' : World} (h : LibAt w) (hb : Bel w w') : LibAt w' := ⟨h.1.bel hb, h.2.1.bel hb, h.2.2.bel hb⟩
theorem cut_lit {s sep : ByteArray} {a b : Bs} {A B : ByteArray} {ok : Bool} (h : Lib.cut s.data.toList sep.data.toList = (a, b, ok)) (hA : str a = A) (hB : str b = B) (hs : s.size < 4294967281) (w : World) (hM : MaxAt w) :
    Calls Tryz.prog 47 #[.string s, .string sep] w fun e w' => e = .returned (.tuple #[.string A, .string B, .bool ok]) ∧ Bel w w' := by
  obtain ⟨m, hm, _⟩ := hM
  subst hA
  subst hB
  refine (Tryz.strings_Cut s sep m w hs hm).mono ?_
  rintro e w' ⟨rfl, n, rfl⟩
  rw [h]
  exact ⟨rfl, (Bel.refl w).drewN n⟩
theorem atoi_lit {s : ByteArray} {v : Int} (h : Lib.atoiAll s.data.toList = .ok v) (hs : s.size ≤ 1000000000) (w : World) :
    Calls Tryz.prog 49 #[.string s] w fun e w' => e = .returned (.tuple #[.int .i64 v, .nilIface]) ∧ Bel w w' := by
  refine (Tryz.strconv_Atoi_ok s (by omega) v h w).mono ?_
  rintro e w' ⟨rfl, h | ⟨t, h⟩⟩
  · subst h; exact ⟨rfl, Bel.refl _⟩
  · subst h; exact ⟨rfl, Lib.bytesWorld_below _ _ _⟩
/-- image 0, a line feed, code, a line feed -/
def T0 : Bs := [105, 109, 97, 103, 101, 32, 48, 10, 99, 111, 100, 101, 10]
theorem body_empty : body Im.empty = T0 := by
  have : Lib.itoa 0 = [48] := by
    unfold Lib.itoa
    rw [if_neg (by decide)]
    show Lib.decDigits 0 = _
    rw [Lib.decDigits_one (by decide)]
    rfl
  unfold body headB symsT Im.empty
  rw [this]
  rfl
theorem cut1 : Lib.cut T0 [10, 99, 111, 100, 101, 10] = ([105, 109, 97, 103, 101, 32, 48], [], true) := by decide +kernel
theorem cut2 : Lib.cut [105, 109, 97, 103, 101, 32, 48] [10] = ([105, 109, 97, 103, 101, 32, 48], [], false) := by decide +kernel
theorem trim1 : Lib.trimPrefix [105, 109, 97, 103, 101, 32, 48] [105, 109, 97, 103, 101, 32] = [48] := by decide +kernel
theorem atoi0 : Lib.atoiAll [48] = .ok 0 := by rfl
set_option maxHeartbeats 4000000 in
theorem read0 {t : ByteArray} (ht : str T0 = t) (w : World) (hL : LibAt w) :
    Calls Tryz.prog 34 #[.string t] w fun e w' => e = .returned (imgV none none 0 0 Im.empty) ∧ Bel w w' := by
  obtain ⟨A, hA⟩ : ∃ A, str [105, 109, 97, 103, 101, 32, 48] = A := ⟨_, rfl⟩
  obtain ⟨Z, hZ⟩ : ∃ Z, str [48] = Z := ⟨_, rfl⟩
  have hz1 : t.size = 13 := by rw [← ht]; rfl
  have hz2 : A.size = 7 := by rw [← hA]; rfl
  have hz3 : Z.size = 1 := by rw [← hZ]; rfl
  have H1 : Hid (Lib.cut t.data.toList (⟨#[10, 99, 111, 100, 101, 10]⟩ : ByteArray).data.toList = ([105, 109, 97, 103, 101, 32, 48], [], true)) := Lib.hid (by rw [← ht, str_list]; exact cut1)
  have H2 : Hid (Lib.cut A.data.toList (⟨#[10]⟩ : ByteArray).data.toList = ([105, 109, 97, 103, 101, 32, 48], [], false)) := Lib.hid (by rw [← hA, str_list]; exact cut2)
  have H3 : Hid (str (Lib.trimPrefix A.data.toList (⟨#[105, 109, 97, 103, 101, 32]⟩ : ByteArray).data.toList) = Z) := Lib.hid (by rw [← hA, str_list, ← hZ]; exact congrArg str trim1)
  have H4 : Hid (Lib.atoiAll Z.data.toList = .ok 0) := Lib.hid (by rw [← hZ, str_list]; exact atoi0)
  have HA := Lib.hid hA
  have HZ1 : Hid (t.size < 4294967281 ∧ A.size < 4294967281 ∧ Z.size ≤ 1000000000) := Lib.hid (by omega)
  have HL := Lib.hid hL
  clear ht hA hZ hz1 hz2 hz3 hL
  go_enter Tryz.func34, Tryz.ntmps34
  go_wp2_with fail
  have hb0 := (Bel.refl w).alloc #[.slice none 0 0, .int .i64 0, .slice none 0 0] 25
  have hx0 := heap_alloc_new w (.cells #[.slice none 0 0, .int .i64 0, .slice none 0 0] 25)
  generalize w.alloc (.cells #[.slice none 0 0, .int .i64 0, .slice none 0 0] 25) = W0 at hb0 hx0 ⊢
  obtain ⟨bx, hbx⟩ : ∃ b, b = w.heap.size := ⟨_, rfl⟩
  rw [← hbx] at hx0 ⊢
  have HX := Lib.hid hx0
  have HB := Lib.hid hb0
  have HBX := Lib.hid hbx
  clear hb0 hx0 hbx
  refine (cut_lit H1.out HA.out (B := ⟨#[]⟩) rfl HZ1.out.1 _ (HL.out.bel HB.out).2.2).mono ?_
  rintro e w1 ⟨rfl, hb⟩
  have HX := Lib.hid (hb.stays HX.out)
  have HB := Lib.hid (HB.out.trans hb)
  clear hb
  go_wp2_with fail
  refine (cut_lit H2.out HA.out (B := ⟨#[]⟩) rfl HZ1.out.2.1 _ (HL.out.bel HB.out).2.2).mono ?_
  rintro e w2 ⟨rfl, hb⟩
  have HX := Lib.hid (hb.stays HX.out)
  have HB := Lib.hid (HB.out.trans hb)
  clear hb
  go_wp2_with fail
  refine (readWords0 _).mono ?_
  rintro e w3 ⟨rfl, hb⟩
  have HX := Lib.hid (hb.stays HX.out)
  have HB := Lib.hid (HB.out.trans hb)
  clear hb
  go_wp2_with fail
  have hb4 := (Bel.refl w3).alloc #[.slice none 0 0, .int .i64 0, .slice none 0 0] 25
  have hx4 := heap_alloc_new w3 (.cells #[.slice none 0 0, .int .i64 0, .slice none 0 0] 25)
  generalize w3.alloc (.cells #[.slice none 0 0, .int .i64 0, .slice none 0 0] 25) = W4 at hb4 hx4 ⊢
  obtain ⟨b2, hb2⟩ : ∃ b, b = w3.heap.size := ⟨_, rfl⟩
  rw [← hb2] at hx4 ⊢
  have HB2 : Hid (w.heap.size ≤ b2) := Lib.hid (by rw [hb2]; exact HB.out.size)
  have hlt : bx < b2 := by rw [hb2]; exact lt_of_heap HX.out
  have HX := Lib.hid (hb4.stays HX.out)
  have HX4 := Lib.hid hx4
  have HB := Lib.hid (HB.out.trans hb4)
  clear hb4 hx4 hb2
  refine (trimP_lit H3.out _).mono ?_
  rintro e w5 ⟨rfl, rfl⟩
  go_wp2_with fail
  refine (atoi_lit H4.out HZ1.out.2.2 _).mono ?_
  rintro e w5 ⟨rfl, hb⟩
  have hx := hb.stays HX.out
  have hx4 := hb.stays HX4.out
  have HB5 := Lib.hid (HB.out.trans hb)
  have HXX := Lib.hid hx
  have HXX4 := Lib.hid hx4
  have c0 : w5.cell? ⟨b2, 0, none⟩ = some (.slice none 0 0) := cell_of_heap hx4 0
  have c1 : w5.cell? ⟨b2, 1, none⟩ = some (.int .i64 0) := cell_of_heap hx4 1
  have c2 : w5.cell? ⟨b2, 2, none⟩ = some (.slice none 0 0) := cell_of_heap hx4 2
  have f1 := frozen_of_heap hx4 1
  have d0 : w5.cell? ⟨bx, 0, none⟩ = some (.slice none 0 0) := cell_of_heap hx 0
  have d1 : w5.cell? ⟨bx, 1, none⟩ = some (.int .i64 0) := cell_of_heap hx 1
  have d2 : w5.cell? ⟨bx, 2, none⟩ = some (.slice none 0 0) := cell_of_heap hx 2
  have g0 := frozen_of_heap hx 0
  have g1 := frozen_of_heap hx 1
  have g2 := frozen_of_heap hx 2
  have n1 : ¬ bx = b2 := by omega
  have n2 : ¬ b2 = bx := by omega
  clear hb hx hx4 hlt
  go_wp2_with fail
  have HBF : Bel w ((((w5.setCell ⟨b2, 1, none⟩ (.int .i64 0)).setCell ⟨bx, 0, none⟩ (.slice none 0 0)).setCell ⟨bx, 1, none⟩ (.int .i64 0)).setCell ⟨bx, 2, none⟩ (.slice none 0 0)) := by
    have hbx := HBX.out
    have h2 : w.heap.size ≤ b2 := by have := HB2.out; omega
    exact (((HB5.out.setCell (p := ⟨b2, 1, none⟩) h2 _).setCell (p := ⟨bx, 0, none⟩) (by simp; omega) _).setCell (p := ⟨bx, 1, none⟩) (by simp; omega) _).setCell (p := ⟨bx, 2, none⟩) (by simp; omega) _
  have HBF := Lib.hid HBF
  exact bodyPost_ret (v := imgV none none 0 0 Im.empty) (by simp [results, Tryz.results34, go_sem, d0, d1, d2, Im.empty]) rfl ⟨rfl, HBF.out⟩
end Go.Proofs.YtbfmlbcjggplgaaGreatDoor
