/- An image is printed; its sum. -/
import Derived.Test.YtbfmlbcjggplgaaGreatDoorIBody
import Derived.Test.YtbfmlbcjggplgaaGreatDoorIRight
import Derived.Lib.ItoaLen
namespace Go.Proofs.YtbfmlbcjggplgaaGreatDoor
open Go.RowKit Im
set_option linter.unusedVariables false
theorem right_parts {m : Img} (h : right m = true) : m.words.length ≤ 65536 ∧ m.syms.length ≤ 1000 ∧ 0 ≤ m.mem ∧ m.mem ≤ 4096 ∧ (∀ x ∈ m.words, isWd x = true) ∧ (∀ j, j < m.syms.length → symOk m j = true) := by
  unfold right at h
  simp only [Bool.and_eq_true, decide_eq_true_eq, List.all_eq_true, List.mem_range] at h
  obtain ⟨⟨⟨⟨h1, h2⟩, h3, h4⟩, h5⟩, h6⟩ := h
  exact ⟨h1, h2, h3, h4, h5, h6⟩
theorem right_name {m : Img} (h : right m = true) {x : Sym} (hx : x ∈ m.syms) : isLab x.name = true ∧ isPl x.place m.words.length = true := by
  obtain ⟨_, _, _, _, _, h6⟩ := right_parts h
  obtain ⟨j, hj⟩ := List.getElem?_of_mem hx
  have := h6 j (List.getElem?_eq_some_iff.1 hj).1
  unfold symOk at this
  rw [hj] at this
  simp only [Bool.and_eq_true] at this
  exact this.1
theorem lab_size {s : ByteArray} (h : isLab s = true) : 1 ≤ s.size ∧ s.size ≤ 40 := by
  unfold isLab at h
  simp only [Bool.and_eq_true, decide_eq_true_eq] at h
  exact h.1
theorem symT_len (x : Sym) : (symT x).length = 10 + x.name.size := by
  show (hex8 x.place ++ (32 :: (x.name.data.toList ++ [10]))).length = _
  rw [List.length_append, List.length_cons, List.length_append, size_list, hex8_len, List.length_singleton]
  omega
theorem symsT_len : ∀ (l : List Sym), (∀ x ∈ l, x.name.size ≤ 40) → (symsT l).length ≤ 50 * l.length := by
  intro l
  induction l with
  | nil => intro _; exact Nat.le_refl _
  | cons x r ih =>
    intro h
    have h1 := ih fun y hy => h y (List.mem_cons_of_mem _ hy)
    have h2 := h x (List.mem_cons_self ..)
    unfold symsT at h1 ⊢
    rw [List.flatMap_cons, List.length_append, symT_len, List.length_cons]
    omega
theorem body_len {m : Img} (h : right m = true) : (body m).length ≤ 700000 := by
  obtain ⟨h1, h2, h3, h4, _, _⟩ := right_parts h
  have h5 := symsT_len m.syms fun x hx => (lab_size (right_name h hx).1).2
  have h6 := Lib.itoa_length_le m.mem (by omega) (by omega)
  have h7 := wordsK_len m.words.length m.words 0
  rw [← wordsT_eq m.words 0 m.words.length (by omega)] at h7
  have h8 : (headB m.mem).length = 6 + ((Lib.itoa m.mem).length + 1) := by
    show ([105, 109, 97, 103, 101, 32] ++ (Lib.itoa m.mem ++ [10]) : Bs).length = _
    rw [List.length_append, List.length_append]
    rfl
  unfold body
  rw [List.length_append, List.length_append, List.length_append, h7, h8]
  show _ + (_ + (5 + _)) ≤ _
  omega
theorem text_len {m : Img} (h : right m = true) : (text m).length ≤ 700013 := by
  have := body_len h
  unfold text
  rw [List.length_append, sumLine_len]
  omega
abbrev boxV (wp sp : Option Addr) (wc sc : Nat) (m : Img) : Array Value := #[.slice wp m.words.length wc, .int .i64 m.mem, .slice sp m.syms.length sc]
theorem right_lit {wp sp : Option Addr} {wc sc : Nat} {m : Img} {r : Bool} (h : right m = r) (w : World) (H : Hid (ImgAt w wp sp m)) :
    Calls Tryz.prog 9 #[imgV wp sp wc sc m] w fun e w' => e = .returned (.bool r) ∧ Bel w w' := by
  subst h
  exact imgRight_any wp sp wc sc m w H
set_option maxHeartbeats 4000000 in
theorem print_no {wp sp : Option Addr} {wc sc : Nat} {m : Img} (h : right m = false) (w : World) (H : Hid (ImgAt w wp sp m)) :
    Calls Tryz.prog 7 #[imgV wp sp wc sc m] w fun e w' => e = .returned (.tuple #[.string ⟨#[]⟩, .int .i64 1]) ∧ Bel w w' := by
  have HR := Lib.hid h
  clear h
  go_enter Tryz.func7, Tryz.ntmps7
  go_wp2_with fail
  have hb0 := (Bel.refl w).alloc (boxV wp sp wc sc m) 25
  generalize w.alloc (.cells (boxV wp sp wc sc m) 25) = W0 at hb0 ⊢
  have HB0 := Lib.hid hb0
  clear hb0
  refine (right_lit HR.out _ (Lib.hid (H.out.bel HB0.out))).mono ?_
  rintro e w1 ⟨rfl, hb⟩
  have HB := Lib.hid (HB0.out.trans hb)
  clear hb
  go_wp2_with fail
  go_ret2
  exact ⟨rfl, HB.out⟩
set_option maxHeartbeats 4000000 in
theorem sum_no {wp sp : Option Addr} {wc sc : Nat} {m : Img} (h : right m = false) (w : World) (H : Hid (ImgAt w wp sp m)) :
    Calls Tryz.prog 11 #[imgV wp sp wc sc m] w fun e w' => e = .returned (.int .i64 0) ∧ Bel w w' := by
  have HR := Lib.hid h
  clear h
  go_enter Tryz.func11, Tryz.ntmps11
  go_wp2_with fail
  have hb0 := (Bel.refl w).alloc (boxV wp sp wc sc m) 25
  generalize w.alloc (.cells (boxV wp sp wc sc m) 25) = W0 at hb0 ⊢
  have HB0 := Lib.hid hb0
  clear hb0
  refine (right_lit HR.out _ (Lib.hid (H.out.bel HB0.out))).mono ?_
  rintro e w1 ⟨rfl, hb⟩
  have HB := Lib.hid (HB0.out.trans hb)
  clear hb
  go_wp2_with fail
  go_ret
  exact ⟨rfl, HB.out⟩
set_option maxHeartbeats 4000000 in
theorem sum_yes {wp sp : Option Addr} {wc sc : Nat} {m : Img} {r : Int} (h : right m = true) (hr : (sumOf (body m) : Int) = r) (w : World) (H : Hid (ImgAt w wp sp m)) (hP : PowAt w) :
    Calls Tryz.prog 11 #[imgV wp sp wc sc m] w fun e w' => e = .returned (.int .i64 r) ∧ Bel w w' := by
  have HR := Lib.hid h
  obtain ⟨S, hS⟩ : ∃ S, str (body m) = S := ⟨_, rfl⟩
  have HS := Lib.hid hS
  have HL : Hid ((body m).length ≤ 1000000000) := Lib.hid (Nat.le_trans (body_len h) (by decide))
  have HZ : Hid (S.size ≤ maxLen) := Lib.hid (by rw [← hS, str_size]; have := body_len h; unfold maxLen; omega)
  have HQ : Hid ((sumOf S.data.toList : Int) = r) := Lib.hid (by rw [← hS, str_list]; exact hr)
  have HP := Lib.hid hP
  clear h hS hP hr
  go_enter Tryz.func11, Tryz.ntmps11
  go_wp2_with fail
  have hb0 := (Bel.refl w).alloc (boxV wp sp wc sc m) 25
  have hx0 := heap_alloc_new w (.cells (boxV wp sp wc sc m) 25)
  generalize w.alloc (.cells (boxV wp sp wc sc m) 25) = W0 at hb0 hx0 ⊢
  obtain ⟨bx, hbx⟩ : ∃ b, b = w.heap.size := ⟨_, rfl⟩
  rw [← hbx] at hx0 ⊢
  have HX0 := Lib.hid hx0
  have HB0 := Lib.hid hb0
  clear hb0 hx0 hbx
  refine (right_lit HR.out _ (Lib.hid (H.out.bel HB0.out))).mono ?_
  rintro e w1 ⟨rfl, hb⟩
  have HB := Lib.hid (HB0.out.trans hb)
  have hx1 := hb.stays HX0.out
  have q0 : w1.cell? ⟨bx, 0, none⟩ = some (.slice wp m.words.length wc) := cell_of_heap hx1 0
  have q1 : w1.cell? ⟨bx, 1, none⟩ = some (.int .i64 m.mem) := cell_of_heap hx1 1
  have q2 : w1.cell? ⟨bx, 2, none⟩ = some (.slice sp m.syms.length sc) := cell_of_heap hx1 2
  clear hb hx1
  go_wp2_with fail
  refine (body_lit HS.out HL.out _ (Lib.hid (H.out.bel HB.out)) (HP.out.bel HB.out)).mono ?_
  rintro e w2 ⟨rfl, hb⟩
  have HB2 := Lib.hid (HB.out.trans hb)
  clear hb q0 q1 q2
  go_wp2_with fail
  refine (sumOf_lit HQ.out HZ.out _).mono ?_
  rintro e w3 ⟨rfl, rfl⟩
  go_wp2_with fail
  go_ret
  exact ⟨rfl, HB2.out⟩
set_option maxHeartbeats 4000000 in
theorem print_yes {wp sp : Option Addr} {wc sc : Nat} {m : Img} {T : ByteArray} (h : right m = true) (hT : str (text m) = T) (w : World) (H : Hid (ImgAt w wp sp m)) (hP : PowAt w) :
    Calls Tryz.prog 7 #[imgV wp sp wc sc m] w fun e w' => e = .returned (.tuple #[.string T, .int .i64 0]) ∧ Bel w w' := by
  have HR := Lib.hid h
  obtain ⟨S, hS⟩ : ∃ S, str (body m) = S := ⟨_, rfl⟩
  obtain ⟨U, hU⟩ : ∃ U, str (sumLine (sumOf (body m))) = U := ⟨_, rfl⟩
  have HS := Lib.hid hS
  have HU := Lib.hid hU
  have HL : Hid ((body m).length ≤ 1000000000) := Lib.hid (Nat.le_trans (body_len h) (by decide))
  have hz := body_len h
  have HZ : Hid (S.size ≤ maxLen) := Lib.hid (by rw [← hS, str_size]; unfold maxLen; omega)
  have HQ : Hid ((sumOf S.data.toList : Int) = (sumOf (body m) : Int)) := Lib.hid (by rw [← hS, str_list])
  have z1 : S.size + U.size ≤ 9223372036854775807 := by rw [← hS, ← hU, str_size, str_size, sumLine_len]; omega
  have z2 : ¬ 9223372036854775807 < S.size + U.size := by omega
  have hTT : S ++ U = T := by rw [← hS, ← hU, str_app, ← hT]; rfl
  have HTT := Lib.hid hTT
  have hn := sumOf_lt (body m)
  obtain ⟨n, hne⟩ : ∃ n, sumOf (body m) = n := ⟨_, rfl⟩
  rw [hne] at hn
  have HN := Lib.hid hne
  have HP := Lib.hid hP
  clear h hS hU hP hz hTT hne hT
  go_enter Tryz.func7, Tryz.ntmps7
  go_wp2_with fail
  have hb0 := (Bel.refl w).alloc (boxV wp sp wc sc m) 25
  have hx0 := heap_alloc_new w (.cells (boxV wp sp wc sc m) 25)
  generalize w.alloc (.cells (boxV wp sp wc sc m) 25) = W0 at hb0 hx0 ⊢
  obtain ⟨bx, hbx⟩ : ∃ b, b = w.heap.size := ⟨_, rfl⟩
  rw [← hbx] at hx0 ⊢
  have HX0 := Lib.hid hx0
  have HB0 := Lib.hid hb0
  clear hb0 hx0 hbx
  refine (right_lit HR.out _ (Lib.hid (H.out.bel HB0.out))).mono ?_
  rintro e w1 ⟨rfl, hb⟩
  have HB := Lib.hid (HB0.out.trans hb)
  have hx1 := hb.stays HX0.out
  have q0 : w1.cell? ⟨bx, 0, none⟩ = some (.slice wp m.words.length wc) := cell_of_heap hx1 0
  have q1 : w1.cell? ⟨bx, 1, none⟩ = some (.int .i64 m.mem) := cell_of_heap hx1 1
  have q2 : w1.cell? ⟨bx, 2, none⟩ = some (.slice sp m.syms.length sc) := cell_of_heap hx1 2
  clear hb hx1
  go_wp2_with fail
  refine (body_lit HS.out HL.out _ (Lib.hid (H.out.bel HB.out)) (HP.out.bel HB.out)).mono ?_
  rintro e w2 ⟨rfl, hb⟩
  have HB2 := Lib.hid (HB.out.trans hb)
  clear hb q0 q1 q2
  go_wp2_with fail
  refine (sumOf_lit (r := (n : Int)) (by rw [HQ.out, HN.out]) HZ.out _).mono ?_
  rintro e w3 ⟨rfl, rfl⟩
  go_wp2_with fail
  refine (sumLine_lit (S := U) (by rw [← HU.out, HN.out]) (by omega) (by omega) _).mono ?_
  rintro e w4 ⟨rfl, hb⟩
  have HB4 := Lib.hid (HB2.out.trans hb)
  clear hb
  go_wp2_with fail
  go_ret2
  exact ⟨congrArg (fun s => Ending.returned (.tuple #[.string s, .int .i64 0])) HTT.out, HB4.out⟩
end Go.Proofs.YtbfmlbcjggplgaaGreatDoor
