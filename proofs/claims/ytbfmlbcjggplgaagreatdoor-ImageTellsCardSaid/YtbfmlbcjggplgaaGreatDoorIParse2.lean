/- A text whose last line tells a sum is parsed. -/
import Derived.Test.YtbfmlbcjggplgaaGreatDoorIParse
namespace Go.Proofs.YtbfmlbcjggplgaaGreatDoor
open Go.RowKit Im
set_option linter.unusedVariables false
/-- what is read of a text: an image of which P holds -/
def Fresh (w : World) (p : Option Addr) : Prop := ∀ q, p = some q → w.heap.size ≤ q.block
def ReadPost (P : Img → Prop) (w : World) (e : Ending) (w' : World) : Prop := ∃ wp sp wc sc m, e = .returned (imgV wp sp wc sc m) ∧ ImgAt w' wp sp m ∧ P m ∧ Bel w w' ∧ Fresh w wp ∧ Fresh w sp
theorem EncAt.set {α : Type} {enc : α → List Value} {k : Nat} {w : World} {p : Option Addr} {l : List α} (h : EncAt enc k w p l) {g i : Nat} (hp : ∀ q, p = some q → q.block ≠ g) (v : Value) : EncAt enc k (w.setCell ⟨g, i, none⟩ v) p l := fun j x hj => by
  obtain ⟨b, o, h1, h2, h3⟩ := h j x hj
  refine ⟨b, o, h1, by simpa using h2, fun a u hu => ?_⟩
  rw [← h3 a u hu]
  unfold World.cell?
  rw [heap_setCell_other _ _ _ _ (hp _ h1)]
theorem ImgAt.set {w : World} {wp sp : Option Addr} {m : Img} (h : ImgAt w wp sp m) {g i : Nat} (h1 : ∀ q, wp = some q → q.block ≠ g) (h2 : ∀ q, sp = some q → q.block ≠ g) (v : Value) : ImgAt (w.setCell ⟨g, i, none⟩ v) wp sp m :=
  ⟨h.words.set h1 v, h.syms.set h2 v, h.wfw, h.wfs, h.mem, h.lw, h.ls⟩
/-- what is parsed of a text, A being it without its last line, n what that tells, k its line feeds -/
def ParsePost (P : Img → Prop) (A : ByteArray) (n k : Int) (w : World) (e : Ending) (w' : World) : Prop := Bel w w' ∧ ∃ m, P m ∧
  ((right m = true ∧ str (body m) = A ∧ (sumOf A.data.toList : Int) = n ∧ ∃ wp sp wc sc, e = .returned (.tuple #[imgV wp sp wc sc m, .int .i64 0, .int .i64 0]) ∧ ImgAt w' wp sp m) ∨
   (right m = true ∧ str (body m) = A ∧ ¬ (sumOf A.data.toList : Int) = n ∧ e = .returned (.tuple #[noImg, .int .i64 41, .int .i64 k])) ∨
   (¬ (right m = true ∧ str (body m) = A) ∧ e = .returned (.tuple #[noImg, .int .i64 40, .int .i64 0])))
theorem count_lit {s : ByteArray} {k : Int} (h : (Lib.countByte s.data.toList 10 : Int) = k) (w : World) :
    Calls Tryz.prog 35 #[.string s, .string ⟨#[10]⟩] w fun e w' => e = .returned (.int .i64 k) ∧ w = w' := by
  subst h
  exact (Tryz.strings_Count_one s 10 w).mono fun e w' h => ⟨h.1, h.2.symm⟩
theorem toList_ne {a b : ByteArray} (h : ¬ a = b) : ¬ a.toList = b.toList := fun c => h (by
  rw [ByteArray.toList_eq, ByteArray.toList_eq] at c
  obtain ⟨⟨x⟩⟩ := a
  obtain ⟨⟨y⟩⟩ := b
  simp at c
  rw [c])
set_option maxHeartbeats 8000000 in
theorem parse_read {s A : ByteArray} {n k : Int} {P : Img → Prop} (hs : s.size ≤ 1000000) (hA : A.size ≤ 1000000) (hk : (Lib.countByte s.data.toList 10 : Int) = k) (w : World) (hP : PowAt w)
    (hc : ∀ W, Bel w W → Calls Tryz.prog 33 #[.string s] W fun e w' => e = .returned (.tuple #[.string A, .int .i64 n, .bool true]) ∧ Bel W w')
    (hr : ∀ W, Bel w W → Calls Tryz.prog 34 #[.string A] W (ReadPost P W)) :
    Calls Tryz.prog 18 #[.string s] w (ParsePost P A n k w) := by
  have h1 : decide ((1000000 : Int) < (s.size : Int)) = false := decide_eq_false (by omega)
  have hsz : (s.size : Int) ≤ 1000000 := by omega
  have HC := Lib.hid hc
  have HR := Lib.hid hr
  have HK := Lib.hid hk
  have HA := Lib.hid hA
  have HP := Lib.hid hP
  clear hc hs hr hk hA hP
  go_enter Tryz.func18, Tryz.ntmps18
  go_wp2_with fail
  have hb0 := (Bel.refl w).alloc #[.slice none 0 0, .int .i64 0, .slice none 0 0] 25
  have hx0 := heap_alloc_new w (.cells #[.slice none 0 0, .int .i64 0, .slice none 0 0] 25)
  generalize w.alloc (.cells #[.slice none 0 0, .int .i64 0, .slice none 0 0] 25) = W0 at hb0 hx0 ⊢
  obtain ⟨bx, hbx⟩ : ∃ b, b = w.heap.size := ⟨_, rfl⟩
  rw [← hbx] at hx0 ⊢
  have HX := Lib.hid hx0
  have HB := Lib.hid hb0
  have HBX := Lib.hid hbx
  clear hb0 hx0 hbx h1
  refine (HC.out _ HB.out).mono ?_
  rintro e w1 ⟨rfl, hb⟩
  have HX := Lib.hid (hb.stays HX.out)
  have HB := Lib.hid (HB.out.trans hb)
  clear hb
  go_wp2_with fail
  refine (HR.out _ HB.out).mono ?_
  rintro e w2 ⟨wp, sp, wc, sc, m, rfl, hI, hPm, hb, hf1, hf2⟩
  have HF1 : Hid (∀ q, wp = some q → q.block ≠ bx) := Lib.hid (fun q hq => by have := hf1 q hq; have := lt_of_heap HX.out; omega)
  have HF2 : Hid (∀ q, sp = some q → q.block ≠ bx) := Lib.hid (fun q hq => by have := hf2 q hq; have := lt_of_heap HX.out; omega)
  clear hf1 hf2
  have HX := Lib.hid (hb.stays HX.out)
  have HB := Lib.hid (HB.out.trans hb)
  have HI := Lib.hid hI
  have HPM := Lib.hid hPm
  clear hb hI hPm
  go_wp2_with fail
  have hb4 := (Bel.refl w2).alloc (boxV wp sp wc sc m) 25
  have hx4 := heap_alloc_new w2 (.cells (boxV wp sp wc sc m) 25)
  generalize w2.alloc (.cells (boxV wp sp wc sc m) 25) = W4 at hb4 hx4 ⊢
  obtain ⟨b2, hb2⟩ : ∃ b, b = w2.heap.size := ⟨_, rfl⟩
  rw [← hb2] at hx4 ⊢
  have hlt : bx < b2 := by rw [hb2]; exact lt_of_heap HX.out
  have HX := Lib.hid (hb4.stays HX.out)
  have HX4 := Lib.hid hx4
  have HB := Lib.hid (HB.out.trans hb4)
  have HI := Lib.hid (HI.out.bel hb4)
  have HLT := Lib.hid hlt
  clear hb4 hx4 hb2 hlt
  obtain ⟨r, hr⟩ : ∃ r, right m = r := ⟨_, rfl⟩
  have HRM := Lib.hid hr
  clear hr
  refine (right_lit HRM.out _ HI).mono ?_
  rintro e w5 ⟨rfl, hb⟩
  have HX := Lib.hid (hb.stays HX.out)
  have HX4 := Lib.hid (hb.stays HX4.out)
  have HB := Lib.hid (HB.out.trans hb)
  have HI := Lib.hid (HI.out.bel hb)
  clear hb
  cases r with
  | false =>
    have hx := HX.out
    have d0 : w5.cell? ⟨bx, 0, none⟩ = some (.slice none 0 0) := cell_of_heap hx 0
    have d1 : w5.cell? ⟨bx, 1, none⟩ = some (.int .i64 0) := cell_of_heap hx 1
    have d2 : w5.cell? ⟨bx, 2, none⟩ = some (.slice none 0 0) := cell_of_heap hx 2
    have g0 := frozen_of_heap hx 0
    have g1 := frozen_of_heap hx 1
    have g2 := frozen_of_heap hx 2
    clear hx
    have HPF : Hid (∀ w', Bel w w' → ParsePost P A n k w (.returned (.tuple #[noImg, .int .i64 40, .int .i64 0])) w') := Lib.hid (fun w' hb => ⟨hb, m, HPM.out, .inr (.inr ⟨fun c => by rw [HRM.out] at c; exact Bool.false_ne_true c.1, rfl⟩)⟩)
    go_wp2_with fail
    exact bodyPost_ret (v := .tuple #[noImg, .int .i64 40, .int .i64 0]) (results_cell2 Tryz.results18 _ _ bx _ _ _ _ _ _ rfl rfl rfl (set3 HX.out _ _ _) Tryz.underlying25 rfl img_size) rfl (HPF.out _ (bel3 HB.out (by rw [HBX.out]; exact Nat.le_refl _) _ _ _))
  | true =>
    have hx4 := HX4.out
    have c0 : w5.cell? ⟨b2, 0, none⟩ = some (.slice wp m.words.length wc) := cell_of_heap hx4 0
    have c1 : w5.cell? ⟨b2, 1, none⟩ = some (.int .i64 m.mem) := cell_of_heap hx4 1
    have c2 : w5.cell? ⟨b2, 2, none⟩ = some (.slice sp m.syms.length sc) := cell_of_heap hx4 2
    clear hx4
    obtain ⟨T, hT⟩ : ∃ T, str (body m) = T := ⟨_, rfl⟩
    have HT := Lib.hid hT
    have HL : Hid ((body m).length ≤ 1000000000) := Lib.hid (Nat.le_trans (body_len HRM.out) (by decide))
    clear hT
    go_wp2_with fail
    refine (body_lit HT.out HL.out _ HI (HP.out.bel HB.out)).mono ?_
    rintro e w6 ⟨rfl, hb⟩
    have HX := Lib.hid (hb.stays HX.out)
    have HX4 := Lib.hid (hb.stays HX4.out)
    have HB := Lib.hid (HB.out.trans hb)
    have HI := Lib.hid (HI.out.bel hb)
    have hx := HX.out
    have d0 : w6.cell? ⟨bx, 0, none⟩ = some (.slice none 0 0) := cell_of_heap hx 0
    have d1 : w6.cell? ⟨bx, 1, none⟩ = some (.int .i64 0) := cell_of_heap hx 1
    have d2 : w6.cell? ⟨bx, 2, none⟩ = some (.slice none 0 0) := cell_of_heap hx 2
    have g0 := frozen_of_heap hx 0
    have g1 := frozen_of_heap hx 1
    have g2 := frozen_of_heap hx 2
    clear hb hx c0 c1 c2
    by_cases hTA : T = A
    · subst hTA
      have HZ : Hid (T.size ≤ maxLen) := Lib.hid (by have := HA.out; unfold maxLen; omega)
      obtain ⟨u, hu⟩ : ∃ u : Int, (sumOf T.data.toList : Int) = u := ⟨_, rfl⟩
      have HU := Lib.hid hu
      clear hu
      go_wp2_with fail
      refine (sumOf_lit HU.out HZ.out _).mono ?_
      rintro e w7 ⟨rfl, rfl⟩
      by_cases hun : u = n
      · have HPF : Hid (∀ w', Bel w w' → ImgAt w' wp sp m → ParsePost P T n k w (.returned (.tuple #[imgV wp sp wc sc m, .int .i64 0, .int .i64 0])) w') := Lib.hid (fun w' hb hI => ⟨hb, m, HPM.out, .inl ⟨HRM.out, HT.out, HU.out.trans hun, wp, sp, wc, sc, rfl, hI⟩⟩)
        have e1 : (u != n) = false := by simp [hun]
        have hx4 := HX4.out
        have c0 : w6.cell? ⟨b2, 0, none⟩ = some (.slice wp m.words.length wc) := cell_of_heap hx4 0
        have c1 : w6.cell? ⟨b2, 1, none⟩ = some (.int .i64 m.mem) := cell_of_heap hx4 1
        have c2 : w6.cell? ⟨b2, 2, none⟩ = some (.slice sp m.syms.length sc) := cell_of_heap hx4 2
        have n1 : ¬ bx = b2 := by have := HLT.out; omega
        have n2 : ¬ b2 = bx := by have := HLT.out; omega
        clear hx4 hun
        go_wp2_with fail
        refine bodyPost_ret (v := .tuple #[imgV wp sp wc sc m, .int .i64 0, .int .i64 0]) (results_cell2 Tryz.results18 _ _ bx _ _ _ _ _ _ rfl rfl rfl (set3 HX.out _ _ _) Tryz.underlying25 rfl img_size) rfl ?_
        have hbb := bel3 (v0 := .slice wp m.words.length wc) (v1 := .int .i64 m.mem) (v2 := .slice sp m.syms.length sc) HB.out (show w.heap.size ≤ bx by rw [HBX.out]; exact Nat.le_refl _)
        refine HPF.out _ hbb ?_
        exact ((HI.out.set HF1.out HF2.out _).set HF1.out HF2.out _).set HF1.out HF2.out _
      · have HPF : Hid (∀ w', Bel w w' → ParsePost P T n k w (.returned (.tuple #[noImg, .int .i64 41, .int .i64 k])) w') := Lib.hid (fun w' hb => ⟨hb, m, HPM.out, .inr (.inl ⟨HRM.out, HT.out, fun c => hun (HU.out.symm.trans c), rfl⟩)⟩)
        have e1 : (u != n) = true := by simp [hun]
        clear hun
        go_wp2_with fail
        refine (count_lit HK.out _).mono ?_
        rintro e w8 ⟨rfl, rfl⟩
        go_wp2_with fail
        exact bodyPost_ret (v := .tuple #[noImg, .int .i64 41, .int .i64 k]) (results_cell2 Tryz.results18 _ _ bx _ _ _ _ _ _ rfl rfl rfl (set3 HX.out _ _ _) Tryz.underlying25 rfl img_size) rfl (HPF.out _ (bel3 HB.out (by rw [HBX.out]; exact Nat.le_refl _) _ _ _))
    · have HPF : Hid (∀ w', Bel w w' → ParsePost P A n k w (.returned (.tuple #[noImg, .int .i64 40, .int .i64 0])) w') := Lib.hid (fun w' hb => ⟨hb, m, HPM.out, .inr (.inr ⟨fun c => hTA (HT.out.symm.trans c.2), rfl⟩)⟩)
      have e1 : (T.toList == A.toList) = false := by rw [beq_eq_false_iff_ne]; exact toList_ne hTA
      have e2 : (!T.toList == A.toList) = true := by rw [e1]; rfl
      clear hTA
      go_wp2_with fail
      exact bodyPost_ret (v := .tuple #[noImg, .int .i64 40, .int .i64 0]) (results_cell2 Tryz.results18 _ _ bx _ _ _ _ _ _ rfl rfl rfl (set3 HX.out _ _ _) Tryz.underlying25 rfl img_size) rfl (HPF.out _ (bel3 HB.out (by rw [HBX.out]; exact Nat.le_refl _) _ _ _))
end Go.Proofs.YtbfmlbcjggplgaaGreatDoor
