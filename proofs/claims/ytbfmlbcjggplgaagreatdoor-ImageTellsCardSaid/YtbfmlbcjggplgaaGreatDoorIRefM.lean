/- The document's own Parse of images. -/
import Derived.Test.YtbfmlbcjggplgaaGreatDoorIRefH
namespace Go.Proofs.YtbfmlbcjggplgaaGreatDoor
open Go.RowKit Im
set_option linter.unusedVariables false
set_option linter.unusedSimpArgs false
set_option maxHeartbeats 8000000 in
theorem rParse_no {s : ByteArray} (hs : s.size ≤ 1000000) (hr : right (rdF rd0 s.data.toList).img = false) (w : World) :
    Calls Tryz.prog 19 #[.string s] w (Parsed s.data.toList w) := by
  have hno : ∀ m n, ¬ Shape s.data.toList m n := fun m n h => by
    rw [rd_shape h, h.1] at hr
    cases hr
  have HNO := Lib.hid hno
  have HR := Lib.hid hr
  have HRD := Lib.hid (rRead_any hs)
  clear hno hr
  obtain ⟨M, hM⟩ : ∃ M, (rdF rd0 s.data.toList).img = M := ⟨_, rfl⟩
  rw [hM] at HR HRD
  clear hM
  have hbx := heap_alloc_new w (.cells #[.slice none 0 0, .int .i64 0, .slice none 0 0] 25)
  have hb0 := (Bel.refl w).alloc #[.slice none 0 0, .int .i64 0, .slice none 0 0] 25
  have HBX := Lib.hid hbx
  have HB0 := Lib.hid hb0
  clear hbx hb0
  go_enter Tryz.func19, Tryz.ntmps19
  go_wp2_with fail
  refine (HRD.out _).mono ?_
  rintro e w1 ⟨wp, sp, ⟨wc, sc, rfl⟩, hI, hb, _, _⟩
  have HI := Lib.hid hI
  have HB := Lib.hid (HB0.out.trans hb)
  have HX := Lib.hid (hb.stays HBX.out)
  clear hI hb
  go_wp2_with fail
  have hb1 := (Bel.refl w1).alloc (boxV wp sp wc sc M) 25
  have HX1 := Lib.hid (hb1.stays HX.out)
  have HB1 := Lib.hid (HB.out.trans hb1)
  have HI1 := Lib.hid (HI.out.bel hb1)
  clear hb1
  generalize w1.alloc (.cells (boxV wp sp wc sc M) 25) = W1 at HX1 HB1 HI1 ⊢
  refine (rPrint_no HR.out _ HI1).mono ?_
  rintro e w2 ⟨rfl, hb⟩
  have HX2 := Lib.hid (hb.stays HX1.out)
  have HB2 := Lib.hid (HB1.out.trans hb)
  clear hb
  have g0 := frozen_of_heap HX2.out 0
  have g1 := frozen_of_heap HX2.out 1
  have g2 := frozen_of_heap HX2.out 2
  have d0 : w2.cell? ⟨w.heap.size, 0, none⟩ = some (.slice none 0 0) := cell_of_heap HX2.out 0
  have d1 : w2.cell? ⟨w.heap.size, 1, none⟩ = some (.int .i64 0) := cell_of_heap HX2.out 1
  have d2 : w2.cell? ⟨w.heap.size, 2, none⟩ = some (.slice none 0 0) := cell_of_heap HX2.out 2
  go_wp2_with fail
  go_quiet (fail)
  rename_i nq
  have HX3 : Hid ((w2.drewN nq).heap[w.heap.size]? = some (.cells #[.slice none 0 0, .int .i64 0, .slice none 0 0] 25 (0, 0))) := Lib.hid HX2.out
  have HB3 : Hid (Bel w (w2.drewN nq)) := Lib.hid (HB2.out.drewN nq)
  generalize w2.drewN nq = w3 at HX3 HB3 ⊢
  clear g0 g1 g2 d0 d1 d2
  have g0 := frozen_of_heap HX3.out 0
  have g1 := frozen_of_heap HX3.out 1
  have g2 := frozen_of_heap HX3.out 2
  have d0 : w3.cell? ⟨w.heap.size, 0, none⟩ = some (.slice none 0 0) := cell_of_heap HX3.out 0
  have d1 : w3.cell? ⟨w.heap.size, 1, none⟩ = some (.int .i64 0) := cell_of_heap HX3.out 1
  have d2 : w3.cell? ⟨w.heap.size, 2, none⟩ = some (.slice none 0 0) := cell_of_heap HX3.out 2
  go_wp2_with fail
  exact bodyPost_ret (v := .tuple #[noImg, .int .i64 40, .int .i64 0]) (results_cell2 Tryz.results19 _ _ w.heap.size _ _ _ _ _ _ rfl rfl rfl (set3 HX3.out _ _ _) Tryz.underlying25 rfl img_size) rfl ⟨bel3 HB3.out (Nat.le_refl _) _ _ _, .inr (.inr ⟨HNO.out, rfl⟩)⟩
end Go.Proofs.YtbfmlbcjggplgaaGreatDoor
/- The document's own Parse of an image's own text. -/
namespace Go.Proofs.YtbfmlbcjggplgaaGreatDoor
open Go.RowKit Im
set_option linter.unusedVariables false
set_option linter.unusedSimpArgs false
set_option maxHeartbeats 8000000 in
theorem rParse_ok {s : ByteArray} {m : Img} (hs : s.size ≤ 1000000) (hr : right m = true) (hT : str (text m) = s) (w : World) :
    Calls Tryz.prog 19 #[.string s] w (Parsed s.data.toList w) := by
  have hsh : Shape s.data.toList m (sumOf (body m)) := by rw [← hT, str_list]; exact shape_text hr
  have hM := rd_shape hsh
  have HSH := Lib.hid hsh
  have HR := Lib.hid hr
  have HT := Lib.hid hT
  have HRD := Lib.hid (rRead_any hs)
  rw [hM] at HRD
  clear hsh hr hM hT
  have hbx := heap_alloc_new w (.cells #[.slice none 0 0, .int .i64 0, .slice none 0 0] 25)
  have hb0 := (Bel.refl w).alloc #[.slice none 0 0, .int .i64 0, .slice none 0 0] 25
  have HBX := Lib.hid hbx
  have HB0 := Lib.hid hb0
  clear hbx hb0
  go_enter Tryz.func19, Tryz.ntmps19
  go_wp2_with fail
  refine (HRD.out _).mono ?_
  rintro e w1 ⟨wp, sp, ⟨wc, sc, rfl⟩, hI, hb, l1, l2⟩
  have hsz0 : (w.alloc (.cells box0 25)).heap.size = w.heap.size + 1 := by simp
  have HL1 : Hid (∀ q, wp = some q → q.block ≠ w.heap.size) := Lib.hid (fun q hq => by have := l1 q hq; rw [hsz0] at this; omega)
  have HL2 : Hid (∀ q, sp = some q → q.block ≠ w.heap.size) := Lib.hid (fun q hq => by have := l2 q hq; rw [hsz0] at this; omega)
  clear l1 l2 hsz0
  have HI := Lib.hid hI
  have HB := Lib.hid (HB0.out.trans hb)
  have HX := Lib.hid (hb.stays HBX.out)
  clear hI hb
  go_wp2_with fail
  have hb1 := (Bel.refl w1).alloc (boxV wp sp wc sc m) 25
  have HXM := Lib.hid (heap_alloc_new w1 (.cells (boxV wp sp wc sc m) 25))
  have HX1 := Lib.hid (hb1.stays HX.out)
  have HB1 := Lib.hid (HB.out.trans hb1)
  have HI1 := Lib.hid (HI.out.bel hb1)
  have HLT := Lib.hid (lt_of_heap HX.out)
  clear hb1
  generalize w1.alloc (.cells (boxV wp sp wc sc m) 25) = W1 at HX1 HB1 HI1 HXM ⊢
  refine (rPrint_yes HR.out HT.out _ HI1).mono ?_
  rintro e w2 ⟨rfl, hb⟩
  have HX2 := Lib.hid (hb.stays HX1.out)
  have HM2 := Lib.hid (hb.stays HXM.out)
  have HB2 := Lib.hid (HB1.out.trans hb)
  have HI2 := Lib.hid (HI1.out.bel hb)
  clear hb
  have g0 := frozen_of_heap HX2.out 0
  have g1 := frozen_of_heap HX2.out 1
  have g2 := frozen_of_heap HX2.out 2
  have d0 : w2.cell? ⟨w.heap.size, 0, none⟩ = some (.slice none 0 0) := cell_of_heap HX2.out 0
  have d1 : w2.cell? ⟨w.heap.size, 1, none⟩ = some (.int .i64 0) := cell_of_heap HX2.out 1
  have d2 : w2.cell? ⟨w.heap.size, 2, none⟩ = some (.slice none 0 0) := cell_of_heap HX2.out 2
  have c0 : w2.cell? ⟨w1.heap.size, 0, none⟩ = some (.slice wp m.words.length wc) := cell_of_heap HM2.out 0
  have c1 : w2.cell? ⟨w1.heap.size, 1, none⟩ = some (.int .i64 m.mem) := cell_of_heap HM2.out 1
  have c2 : w2.cell? ⟨w1.heap.size, 2, none⟩ = some (.slice sp m.syms.length sc) := cell_of_heap HM2.out 2
  go_wp2_with fail
  exact bodyPost_ret (v := .tuple #[imgV wp sp wc sc m, .int .i64 0, .int .i64 0]) (results_cell2 Tryz.results19 _ _ w.heap.size _ _ _ _ _ _ rfl rfl rfl (set3 HX2.out _ _ _) Tryz.underlying25 rfl img_size) rfl ⟨bel3 HB2.out (Nat.le_refl _) _ _ _, .inl ⟨m, HSH.out, wp, sp, wc, sc, rfl, ((HI2.out.set HL1.out HL2.out _).set HL1.out HL2.out _).set HL1.out HL2.out _⟩⟩
end Go.Proofs.YtbfmlbcjggplgaaGreatDoor
/- The document's own Parse of a text with another sum. -/
namespace Go.Proofs.YtbfmlbcjggplgaaGreatDoor
open Go.RowKit Im
set_option linter.unusedVariables false
set_option linter.unusedSimpArgs false
set_option maxHeartbeats 8000000 in
theorem rParse_sum {s : ByteArray} {m : Img} {n : Int} (hs : s.size ≤ 1000000) (hsh : Shape s.data.toList m n) (hne : ¬ n = (sumOf (body m) : Int)) (w : World) :
    Calls Tryz.prog 19 #[.string s] w (Parsed s.data.toList w) := by
  have hr := hsh.1
  obtain ⟨T, hT⟩ : ∃ T, str (text m) = T := ⟨_, rfl⟩
  have hTs : T.size = s.size := by
    rw [← hT, str_size, ← size_list s, hsh.2.2.2]
    unfold text
    rw [List.length_append, List.length_append, sumLine_len, sumLine_len]
  have hb13 : s.size = (body m).length + 13 := by rw [← size_list s, hsh.2.2.2, List.length_append, sumLine_len]
  have hTl : T.data.toList = body m ++ sumLine (sumOf (body m)) := by rw [← hT, str_list]; rfl
  have hts : (T.toList == s.toList) = false := by
    rw [beq_eq_false_iff_ne, ByteArray.toList_eq, ByteArray.toList_eq]
    intro c
    exact hne (shape_inj hsh (by rw [← c, hTl]; exact shape_text hr)).2
  obtain ⟨P, hP⟩ : ∃ P, str (body m ++ [115, 117, 109, 32]) = P := ⟨_, rfl⟩
  have hPT : T.extract 0 ((body m).length + 4) = P := by
    rw [← str_of (T.extract 0 _), extract_list, hTl, List.drop_zero, ← hP, List.take_append, List.take_of_length_le (by omega)]
    congr 2
    rw [show (body m).length + 4 - (body m).length = 4 by omega]
    rfl
  have hPS : s.extract 0 ((body m).length + 4) = P := by
    rw [← str_of (s.extract 0 _), extract_list, hsh.2.2.2, List.drop_zero, ← hP, List.take_append, List.take_of_length_le (by omega)]
    congr 2
    rw [show (body m).length + 4 - (body m).length = 4 by omega]
    rfl
  obtain ⟨X, hX⟩ : ∃ X, s.extract ((body m).length + 4) ((body m).length + 12) = X := ⟨_, rfl⟩
  have hXl : X.data.toList = hex8 n := by
    rw [← hX, extract_list, hsh.2.2.2]
    have e : sumLine n = [115, 117, 109, 32] ++ (hex8 n ++ [10]) := rfl
    rw [e, ← List.append_assoc, ← List.append_assoc, List.take_left' (by simp [hex8_len]), List.drop_left' (by simp)]
  have hv : valV 16 X.data.toList = n := by rw [hXl]; exact valV_hex8 hsh.2.1 hsh.2.2.1
  have hn0 := hsh.2.1
  have hXs : X.size = 8 := by rw [← size_list, hXl, hex8_len]
  obtain ⟨K, hK⟩ : ∃ K, (body m).length + 4 = K := ⟨_, rfl⟩
  obtain ⟨J, hJ⟩ : ∃ J, (body m).length + 12 = J := ⟨_, rfl⟩
  rw [hK] at hPT hPS hX
  rw [hJ] at hX
  have hJs : J < s.size := by omega
  have hlast : s[J].toNat = 10 := by
    have h1 : s.data.toList[J]? = some 10 := by
      rw [hsh.2.2.2, List.getElem?_append_right (by omega), show J - (body m).length = 12 by omega]
      rfl
    have h2 : s.data.toList[J]? = some s[J] := by rw [List.getElem?_eq_getElem (by simpa using hJs)]; rfl
    rw [h1] at h2
    rw [← Option.some.inj h2]
    rfl
  have k1 : (s.size : Int) - 9 = (K : Int) := by omega
  have k2 : (s.size : Int) - 1 = (J : Int) := by omega
  have k3 : IntKind.i64.wrap ((s.size : Int) - 9) = (K : Int) := by rw [k1]; exact IntWalk.i64_in _ (by constructor <;> omega)
  have k4 : IntKind.i64.wrap ((s.size : Int) - 1) = (J : Int) := by rw [k2]; exact IntWalk.i64_in _ (by constructor <;> omega)
  have hJK : J = K + 8 := by omega
  have sl1 : ∀ wx : World, (Instr.slice 9 (.string T) none (some (.int .i64 (K : Int))) none).run Tryz.prog wx = .ok (.string P) wx := fun wx => by
    rw [run_slice_string_h (P := Tryz.prog) wx 9 T Tryz.underlying9 .i64 (K : Int) (by omega) (by omega)]
    exact congrArg (fun z => Result.ok (Value.string z) wx) hPT
  have sl2 : ∀ wx : World, (Instr.slice 9 (.string s) none (some (.int .i64 (K : Int))) none).run Tryz.prog wx = .ok (.string P) wx := fun wx => by
    rw [run_slice_string_h (P := Tryz.prog) wx 9 s Tryz.underlying9 .i64 (K : Int) (by omega) (by omega)]
    exact congrArg (fun z => Result.ok (Value.string z) wx) hPS
  have sl3 : ∀ wx : World, (Instr.slice 9 (.string s) (some (.int .i64 (K : Int))) (some (.int .i64 (J : Int))) none).run Tryz.prog wx = .ok (.string X) wx := fun wx => by
    rw [run_slice_string (P := Tryz.prog) wx 9 s .i64 .i64 (K : Int) (J : Int) Tryz.underlying9 (by omega) (by omega) (by omega)]
    exact congrArg (fun z => Result.ok (Value.string z) wx) hX
  have HV := Lib.hid hv
  have HXS : Hid (X.size ≤ maxLen) := Lib.hid (by rw [hXs]; decide)
  have hJi : (J : Int) < (s.size : Int) := by omega
  have hJ0 : (0 : Int) ≤ (J : Int) := by omega
  have hTs2 : ((T.size : Int) == (s.size : Int)) = true := by rw [hTs]; simp
  clear hv hXl hPT hPS hX hK hJ hXs k1 k2 hJK hTs
  have hM := rd_shape hsh
  have HSH := Lib.hid hsh
  have HR := Lib.hid hr
  have HT := Lib.hid hT
  have HNE := Lib.hid hne
  have HRD := Lib.hid (rRead_any hs)
  rw [hM] at HRD
  clear hsh hr hM hT hTl hP hb13 hne
  have hbx := heap_alloc_new w (.cells #[.slice none 0 0, .int .i64 0, .slice none 0 0] 25)
  have hb0 := (Bel.refl w).alloc #[.slice none 0 0, .int .i64 0, .slice none 0 0] 25
  have HBX := Lib.hid hbx
  have HB0 := Lib.hid hb0
  clear hbx hb0
  go_enter Tryz.func19, Tryz.ntmps19
  go_wp2_with fail
  refine (HRD.out _).mono ?_
  rintro e w1 ⟨wp, sp, ⟨wc, sc, rfl⟩, hI, hb, l1, l2⟩
  have hsz0 : (w.alloc (.cells box0 25)).heap.size = w.heap.size + 1 := by simp
  have HL1 : Hid (∀ q, wp = some q → q.block ≠ w.heap.size) := Lib.hid (fun q hq => by have := l1 q hq; rw [hsz0] at this; omega)
  have HL2 : Hid (∀ q, sp = some q → q.block ≠ w.heap.size) := Lib.hid (fun q hq => by have := l2 q hq; rw [hsz0] at this; omega)
  clear l1 l2 hsz0
  have HI := Lib.hid hI
  have HB := Lib.hid (HB0.out.trans hb)
  have HX := Lib.hid (hb.stays HBX.out)
  clear hI hb
  go_wp2_with fail
  have hb1 := (Bel.refl w1).alloc (boxV wp sp wc sc m) 25
  have HXM := Lib.hid (heap_alloc_new w1 (.cells (boxV wp sp wc sc m) 25))
  have HX1 := Lib.hid (hb1.stays HX.out)
  have HB1 := Lib.hid (HB.out.trans hb1)
  have HI1 := Lib.hid (HI.out.bel hb1)
  have HLT := Lib.hid (lt_of_heap HX.out)
  clear hb1
  generalize w1.alloc (.cells (boxV wp sp wc sc m) 25) = W1 at HX1 HB1 HI1 HXM ⊢
  refine (rPrint_yes HR.out HT.out _ HI1).mono ?_
  rintro e w2 ⟨rfl, hb⟩
  have HX2 := Lib.hid (hb.stays HX1.out)
  have HM2 := Lib.hid (hb.stays HXM.out)
  have HB2 := Lib.hid (HB1.out.trans hb)
  have HI2 := Lib.hid (HI1.out.bel hb)
  clear hb
  have g0 := frozen_of_heap HX2.out 0
  have g1 := frozen_of_heap HX2.out 1
  have g2 := frozen_of_heap HX2.out 2
  have d0 : w2.cell? ⟨w.heap.size, 0, none⟩ = some (.slice none 0 0) := cell_of_heap HX2.out 0
  have d1 : w2.cell? ⟨w.heap.size, 1, none⟩ = some (.int .i64 0) := cell_of_heap HX2.out 1
  have d2 : w2.cell? ⟨w.heap.size, 2, none⟩ = some (.slice none 0 0) := cell_of_heap HX2.out 2
  have c0 : w2.cell? ⟨w1.heap.size, 0, none⟩ = some (.slice wp m.words.length wc) := cell_of_heap HM2.out 0
  have c1 : w2.cell? ⟨w1.heap.size, 1, none⟩ = some (.int .i64 m.mem) := cell_of_heap HM2.out 1
  have c2 : w2.cell? ⟨w1.heap.size, 2, none⟩ = some (.slice sp m.syms.length sc) := cell_of_heap HM2.out 2
  go_wp2_with fail
  go_quiet ((go_at_call 37; exact (value_any (Or.inr ⟨rfl, rfl⟩) HXS.out HV.out _).mono (fun e w h => ⟨h.1, _, h.2.symm⟩)))
  rename_i nq
  have HX3 : Hid ((w2.drewN nq).heap[w.heap.size]? = some (.cells #[.slice none 0 0, .int .i64 0, .slice none 0 0] 25 (0, 0))) := Lib.hid HX2.out
  have HB3 : Hid (Bel w (w2.drewN nq)) := Lib.hid (HB2.out.drewN nq)
  generalize w2.drewN nq = w3 at HX3 HB3 ⊢
  clear g0 g1 g2 d0 d1 d2 c0 c1 c2 sl1 sl2 sl3
  have g0 := frozen_of_heap HX3.out 0
  have g1 := frozen_of_heap HX3.out 1
  have g2 := frozen_of_heap HX3.out 2
  have d0 : w3.cell? ⟨w.heap.size, 0, none⟩ = some (.slice none 0 0) := cell_of_heap HX3.out 0
  have d1 : w3.cell? ⟨w.heap.size, 1, none⟩ = some (.int .i64 0) := cell_of_heap HX3.out 1
  have d2 : w3.cell? ⟨w.heap.size, 2, none⟩ = some (.slice none 0 0) := cell_of_heap HX3.out 2
  go_wp2_with fail
  exact bodyPost_ret (v := .tuple #[noImg, .int .i64 41, .int .i64 (Lib.countByte s.data.toList 10 : Nat)]) (results_cell2 Tryz.results19 _ _ w.heap.size _ _ _ _ _ _ rfl rfl rfl (set3 HX3.out _ _ _) Tryz.underlying25 rfl img_size) rfl ⟨bel3 HB3.out (Nat.le_refl _) _ _ _, .inr (.inl ⟨m, n, HSH.out, HNE.out, rfl⟩)⟩
end Go.Proofs.YtbfmlbcjggplgaaGreatDoor
/- The document's own Parse of a text that is no image's. -/
namespace Go.Proofs.YtbfmlbcjggplgaaGreatDoor
open Go.RowKit Im
set_option linter.unusedVariables false
set_option linter.unusedSimpArgs false
set_option maxHeartbeats 8000000 in
theorem rParse_form {s : ByteArray} {m : Img} (hs : s.size ≤ 1000000) (hM : (rdF rd0 s.data.toList).img = m) (hr : right m = true) (hno : ∀ m n, ¬ Shape s.data.toList m n) (w : World) :
    Calls Tryz.prog 19 #[.string s] w (Parsed s.data.toList w) := by
  obtain ⟨T, hT⟩ : ∃ T, str (text m) = T := ⟨_, rfl⟩
  have hTl : T.data.toList = body m ++ sumLine (sumOf (body m)) := by rw [← hT, str_list]; rfl
  have hts : (T.toList == s.toList) = false := by
    rw [beq_eq_false_iff_ne, ByteArray.toList_eq, ByteArray.toList_eq]
    intro c
    exact hno m _ (by rw [← c, hTl]; exact shape_text hr)
  have hTb : T.size = (body m).length + 13 := by rw [← size_list, hTl, List.length_append, sumLine_len]
  have HNO := Lib.hid hno
  have HTL := Lib.hid hTl
  have HTB := Lib.hid hTb
  have HR0 := Lib.hid hr
  have k3 : IntKind.i64.wrap ((s.size : Int) - 9) = (s.size : Int) - 9 := IntWalk.i64_in _ (by constructor <;> omega)
  clear hTl hno
  by_cases hz : T.size = s.size
  · have hTs2 : ((T.size : Int) == (s.size : Int)) = true := by rw [hz]; simp
    obtain ⟨K, hK⟩ : ∃ K, (body m).length + 4 = K := ⟨_, rfl⟩
    obtain ⟨J, hJ⟩ : ∃ J, (body m).length + 12 = J := ⟨_, rfl⟩
    have k1 : (s.size : Int) - 9 = (K : Int) := by omega
    replace k3 : IntKind.i64.wrap ((s.size : Int) - 9) = (K : Int) := by rw [k3, k1]
    have k4 : IntKind.i64.wrap ((s.size : Int) - 1) = (J : Int) := by rw [IntWalk.i64_in _ (by constructor <;> omega)]; omega
    obtain ⟨P, hP⟩ : ∃ P, T.extract 0 K = P := ⟨_, rfl⟩
    obtain ⟨Q, hQ⟩ : ∃ Q, s.extract 0 K = Q := ⟨_, rfl⟩
    obtain ⟨X, hX⟩ : ∃ X, s.extract K J = X := ⟨_, rfl⟩
    have sl1 : ∀ wx : World, (Instr.slice 9 (.string T) none (some (.int .i64 (K : Int))) none).run Tryz.prog wx = .ok (.string P) wx := fun wx => by
      rw [run_slice_string_h (P := Tryz.prog) wx 9 T Tryz.underlying9 .i64 (K : Int) (by omega) (by omega)]
      exact congrArg (fun z => Result.ok (Value.string z) wx) hP
    have sl2 : ∀ wx : World, (Instr.slice 9 (.string s) none (some (.int .i64 (K : Int))) none).run Tryz.prog wx = .ok (.string Q) wx := fun wx => by
      rw [run_slice_string_h (P := Tryz.prog) wx 9 s Tryz.underlying9 .i64 (K : Int) (by omega) (by omega)]
      exact congrArg (fun z => Result.ok (Value.string z) wx) hQ
    have sl3 : ∀ wx : World, (Instr.slice 9 (.string s) (some (.int .i64 (K : Int))) (some (.int .i64 (J : Int))) none).run Tryz.prog wx = .ok (.string X) wx := fun wx => by
      rw [run_slice_string (P := Tryz.prog) wx 9 s .i64 .i64 (K : Int) (J : Int) Tryz.underlying9 (by omega) (by omega) (by omega)]
      exact congrArg (fun z => Result.ok (Value.string z) wx) hX
    have hJs : J < s.size := by omega
    have hJi : (J : Int) < (s.size : Int) := by omega
    have hJ0 : (0 : Int) ≤ (J : Int) := by omega
    have HKJ : Hid ((body m).length + 4 = K ∧ (body m).length + 12 = J ∧ T.size = s.size) := Lib.hid ⟨hK, hJ, hz⟩
    have HPQX : Hid (T.extract 0 K = P ∧ s.extract 0 K = Q ∧ s.extract K J = X) := Lib.hid ⟨hP, hQ, hX⟩
    clear hK hJ hz hP hQ hX k1 hTb
    by_cases hpq : P = Q
    · subst hpq
      by_cases hl : s[J].toNat = 10
      · obtain ⟨v, hv⟩ : ∃ v, valV 16 X.data.toList = v := ⟨_, rfl⟩
        have hX8 : X.data.toList.length = 8 := by
          have h1 := HPQX.out.2.2
          have h2 := HKJ.out
          rw [size_list, ← h1, ByteArray.size_extract]
          omega
        have hvn : v < 0 := by
          by_cases hv0 : 0 ≤ v
          · exfalso
            obtain ⟨n, n0, n1, hx⟩ := valV_eight hX8 (by rw [hv]; exact hv0)
            obtain ⟨e1, e2, e3⟩ := HKJ.out
            obtain ⟨p1, p2, p3⟩ := HPQX.out
            refine HNO.out m n ⟨HR0.out, n0, n1, ?_⟩
            have t1 : s.data.toList.take K = body m ++ [115, 117, 109, 32] := by
              have q1 := congrArg (fun z : ByteArray => z.data.toList) (p2.trans p1.symm)
              simp only [extract_list, List.drop_zero] at q1
              rw [q1, HTL.out, ← e1, List.take_append, List.take_of_length_le (by omega), show (body m).length + 4 - (body m).length = 4 by omega]
              rfl
            have t2 : (s.data.toList.take J).drop K = hex8 n := by rw [← extract_list, p3, hx]
            have t3 : s.data.toList.drop J = [10] := by
              rw [List.drop_eq_getElem_cons (by simpa using hJs)]
              have t4 : s.data.toList.drop (J + 1) = [] := List.drop_of_length_le (by rw [size_list]; have := HTB.out; omega)
              rw [t4]
              congr 1
              apply UInt8.toNat_inj.1
              exact hl
            have t5 : (s.data.toList.take J) = s.data.toList.take K ++ (s.data.toList.take J).drop K := by
              have := List.take_append_drop K (s.data.toList.take J)
              rw [List.take_take, Nat.min_eq_left (by omega)] at this
              exact this.symm
            rw [← List.take_append_drop J s.data.toList, t3, t5, t1, t2]
            simp [sumLine]
          · omega
        have HV := Lib.hid hv
        have HXS : Hid (X.size ≤ maxLen) := Lib.hid (by rw [← size_list, hX8]; decide)
        have hv3 : decide ((0 : Int) ≤ v) = false := decide_eq_false (by omega)
        clear hv hX8
        have HR := Lib.hid hr
        have HT := Lib.hid hT
        have HRD := Lib.hid (rRead_any hs)
        rw [hM] at HRD
        clear hr hM hT
        have hbx := heap_alloc_new w (.cells #[.slice none 0 0, .int .i64 0, .slice none 0 0] 25)
        have hb0 := (Bel.refl w).alloc #[.slice none 0 0, .int .i64 0, .slice none 0 0] 25
        have HBX := Lib.hid hbx
        have HB0 := Lib.hid hb0
        clear hbx hb0
        go_enter Tryz.func19, Tryz.ntmps19
        go_wp2_with fail
        refine (HRD.out _).mono ?_
        rintro e w1 ⟨wp, sp, ⟨wc, sc, rfl⟩, hI, hb, l1, l2⟩
        have hsz0 : (w.alloc (.cells box0 25)).heap.size = w.heap.size + 1 := by simp
        have HL1 : Hid (∀ q, wp = some q → q.block ≠ w.heap.size) := Lib.hid (fun q hq => by have := l1 q hq; rw [hsz0] at this; omega)
        have HL2 : Hid (∀ q, sp = some q → q.block ≠ w.heap.size) := Lib.hid (fun q hq => by have := l2 q hq; rw [hsz0] at this; omega)
        clear l1 l2 hsz0
        have HI := Lib.hid hI
        have HB := Lib.hid (HB0.out.trans hb)
        have HX := Lib.hid (hb.stays HBX.out)
        clear hI hb
        go_wp2_with fail
        have hb1 := (Bel.refl w1).alloc (boxV wp sp wc sc m) 25
        have HXM := Lib.hid (heap_alloc_new w1 (.cells (boxV wp sp wc sc m) 25))
        have HX1 := Lib.hid (hb1.stays HX.out)
        have HB1 := Lib.hid (HB.out.trans hb1)
        have HI1 := Lib.hid (HI.out.bel hb1)
        have HLT := Lib.hid (lt_of_heap HX.out)
        clear hb1
        generalize w1.alloc (.cells (boxV wp sp wc sc m) 25) = W1 at HX1 HB1 HI1 HXM ⊢
        refine (rPrint_yes HR.out HT.out _ HI1).mono ?_
        rintro e w2 ⟨rfl, hb⟩
        have HX2 := Lib.hid (hb.stays HX1.out)
        have HM2 := Lib.hid (hb.stays HXM.out)
        have HB2 := Lib.hid (HB1.out.trans hb)
        have HI2 := Lib.hid (HI1.out.bel hb)
        clear hb
        have g0 := frozen_of_heap HX2.out 0
        have g1 := frozen_of_heap HX2.out 1
        have g2 := frozen_of_heap HX2.out 2
        have d0 : w2.cell? ⟨w.heap.size, 0, none⟩ = some (.slice none 0 0) := cell_of_heap HX2.out 0
        have d1 : w2.cell? ⟨w.heap.size, 1, none⟩ = some (.int .i64 0) := cell_of_heap HX2.out 1
        have d2 : w2.cell? ⟨w.heap.size, 2, none⟩ = some (.slice none 0 0) := cell_of_heap HX2.out 2
        have c0 : w2.cell? ⟨w1.heap.size, 0, none⟩ = some (.slice wp m.words.length wc) := cell_of_heap HM2.out 0
        have c1 : w2.cell? ⟨w1.heap.size, 1, none⟩ = some (.int .i64 m.mem) := cell_of_heap HM2.out 1
        have c2 : w2.cell? ⟨w1.heap.size, 2, none⟩ = some (.slice sp m.syms.length sc) := cell_of_heap HM2.out 2
        go_wp2_with fail
        go_quiet ((go_at_call 37; exact (value_any (Or.inr ⟨rfl, rfl⟩) HXS.out HV.out _).mono (fun e w h => ⟨h.1, _, h.2.symm⟩)))
        rename_i nq
        have HX3 : Hid ((w2.drewN nq).heap[w.heap.size]? = some (.cells #[.slice none 0 0, .int .i64 0, .slice none 0 0] 25 (0, 0))) := Lib.hid HX2.out
        have HB3 : Hid (Bel w (w2.drewN nq)) := Lib.hid (HB2.out.drewN nq)
        generalize w2.drewN nq = w3 at HX3 HB3 ⊢
        clear g0 g1 g2 d0 d1 d2 c0 c1 c2 sl1 sl2 sl3
        have g0 := frozen_of_heap HX3.out 0
        have g1 := frozen_of_heap HX3.out 1
        have g2 := frozen_of_heap HX3.out 2
        have d0 : w3.cell? ⟨w.heap.size, 0, none⟩ = some (.slice none 0 0) := cell_of_heap HX3.out 0
        have d1 : w3.cell? ⟨w.heap.size, 1, none⟩ = some (.int .i64 0) := cell_of_heap HX3.out 1
        have d2 : w3.cell? ⟨w.heap.size, 2, none⟩ = some (.slice none 0 0) := cell_of_heap HX3.out 2
        go_wp2_with fail
        exact bodyPost_ret (v := .tuple #[noImg, .int .i64 40, .int .i64 0]) (results_cell2 Tryz.results19 _ _ w.heap.size _ _ _ _ _ _ rfl rfl rfl (set3 HX3.out _ _ _) Tryz.underlying25 rfl img_size) rfl ⟨bel3 HB3.out (Nat.le_refl _) _ _ _, .inr (.inr ⟨HNO.out, rfl⟩)⟩
      · have hl2 : ((s[J].toNat : Int) == 10) = false := by rw [beq_eq_false_iff_ne]; omega
        clear hl
        have HR := Lib.hid hr
        have HT := Lib.hid hT
        have HRD := Lib.hid (rRead_any hs)
        rw [hM] at HRD
        clear hr hM hT
        have hbx := heap_alloc_new w (.cells #[.slice none 0 0, .int .i64 0, .slice none 0 0] 25)
        have hb0 := (Bel.refl w).alloc #[.slice none 0 0, .int .i64 0, .slice none 0 0] 25
        have HBX := Lib.hid hbx
        have HB0 := Lib.hid hb0
        clear hbx hb0
        go_enter Tryz.func19, Tryz.ntmps19
        go_wp2_with fail
        refine (HRD.out _).mono ?_
        rintro e w1 ⟨wp, sp, ⟨wc, sc, rfl⟩, hI, hb, l1, l2⟩
        have hsz0 : (w.alloc (.cells box0 25)).heap.size = w.heap.size + 1 := by simp
        have HL1 : Hid (∀ q, wp = some q → q.block ≠ w.heap.size) := Lib.hid (fun q hq => by have := l1 q hq; rw [hsz0] at this; omega)
        have HL2 : Hid (∀ q, sp = some q → q.block ≠ w.heap.size) := Lib.hid (fun q hq => by have := l2 q hq; rw [hsz0] at this; omega)
        clear l1 l2 hsz0
        have HI := Lib.hid hI
        have HB := Lib.hid (HB0.out.trans hb)
        have HX := Lib.hid (hb.stays HBX.out)
        clear hI hb
        go_wp2_with fail
        have hb1 := (Bel.refl w1).alloc (boxV wp sp wc sc m) 25
        have HXM := Lib.hid (heap_alloc_new w1 (.cells (boxV wp sp wc sc m) 25))
        have HX1 := Lib.hid (hb1.stays HX.out)
        have HB1 := Lib.hid (HB.out.trans hb1)
        have HI1 := Lib.hid (HI.out.bel hb1)
        have HLT := Lib.hid (lt_of_heap HX.out)
        clear hb1
        generalize w1.alloc (.cells (boxV wp sp wc sc m) 25) = W1 at HX1 HB1 HI1 HXM ⊢
        refine (rPrint_yes HR.out HT.out _ HI1).mono ?_
        rintro e w2 ⟨rfl, hb⟩
        have HX2 := Lib.hid (hb.stays HX1.out)
        have HM2 := Lib.hid (hb.stays HXM.out)
        have HB2 := Lib.hid (HB1.out.trans hb)
        have HI2 := Lib.hid (HI1.out.bel hb)
        clear hb
        have g0 := frozen_of_heap HX2.out 0
        have g1 := frozen_of_heap HX2.out 1
        have g2 := frozen_of_heap HX2.out 2
        have d0 : w2.cell? ⟨w.heap.size, 0, none⟩ = some (.slice none 0 0) := cell_of_heap HX2.out 0
        have d1 : w2.cell? ⟨w.heap.size, 1, none⟩ = some (.int .i64 0) := cell_of_heap HX2.out 1
        have d2 : w2.cell? ⟨w.heap.size, 2, none⟩ = some (.slice none 0 0) := cell_of_heap HX2.out 2
        have c0 : w2.cell? ⟨w1.heap.size, 0, none⟩ = some (.slice wp m.words.length wc) := cell_of_heap HM2.out 0
        have c1 : w2.cell? ⟨w1.heap.size, 1, none⟩ = some (.int .i64 m.mem) := cell_of_heap HM2.out 1
        have c2 : w2.cell? ⟨w1.heap.size, 2, none⟩ = some (.slice sp m.syms.length sc) := cell_of_heap HM2.out 2
        go_wp2_with fail
        go_quiet (fail)
        rename_i nq
        have HX3 : Hid ((w2.drewN nq).heap[w.heap.size]? = some (.cells #[.slice none 0 0, .int .i64 0, .slice none 0 0] 25 (0, 0))) := Lib.hid HX2.out
        have HB3 : Hid (Bel w (w2.drewN nq)) := Lib.hid (HB2.out.drewN nq)
        generalize w2.drewN nq = w3 at HX3 HB3 ⊢
        clear g0 g1 g2 d0 d1 d2 c0 c1 c2 sl1 sl2 sl3
        have g0 := frozen_of_heap HX3.out 0
        have g1 := frozen_of_heap HX3.out 1
        have g2 := frozen_of_heap HX3.out 2
        have d0 : w3.cell? ⟨w.heap.size, 0, none⟩ = some (.slice none 0 0) := cell_of_heap HX3.out 0
        have d1 : w3.cell? ⟨w.heap.size, 1, none⟩ = some (.int .i64 0) := cell_of_heap HX3.out 1
        have d2 : w3.cell? ⟨w.heap.size, 2, none⟩ = some (.slice none 0 0) := cell_of_heap HX3.out 2
        go_wp2_with fail
        exact bodyPost_ret (v := .tuple #[noImg, .int .i64 40, .int .i64 0]) (results_cell2 Tryz.results19 _ _ w.heap.size _ _ _ _ _ _ rfl rfl rfl (set3 HX3.out _ _ _) Tryz.underlying25 rfl img_size) rfl ⟨bel3 HB3.out (Nat.le_refl _) _ _ _, .inr (.inr ⟨HNO.out, rfl⟩)⟩
    · have hpq2 : (P.toList == Q.toList) = false := beq_eq_false_iff_ne.2 (fun c => hpq (bytes_list c))
      clear hpq
      have HR := Lib.hid hr
      have HT := Lib.hid hT
      have HRD := Lib.hid (rRead_any hs)
      rw [hM] at HRD
      clear hr hM hT
      have hbx := heap_alloc_new w (.cells #[.slice none 0 0, .int .i64 0, .slice none 0 0] 25)
      have hb0 := (Bel.refl w).alloc #[.slice none 0 0, .int .i64 0, .slice none 0 0] 25
      have HBX := Lib.hid hbx
      have HB0 := Lib.hid hb0
      clear hbx hb0
      go_enter Tryz.func19, Tryz.ntmps19
      go_wp2_with fail
      refine (HRD.out _).mono ?_
      rintro e w1 ⟨wp, sp, ⟨wc, sc, rfl⟩, hI, hb, l1, l2⟩
      have hsz0 : (w.alloc (.cells box0 25)).heap.size = w.heap.size + 1 := by simp
      have HL1 : Hid (∀ q, wp = some q → q.block ≠ w.heap.size) := Lib.hid (fun q hq => by have := l1 q hq; rw [hsz0] at this; omega)
      have HL2 : Hid (∀ q, sp = some q → q.block ≠ w.heap.size) := Lib.hid (fun q hq => by have := l2 q hq; rw [hsz0] at this; omega)
      clear l1 l2 hsz0
      have HI := Lib.hid hI
      have HB := Lib.hid (HB0.out.trans hb)
      have HX := Lib.hid (hb.stays HBX.out)
      clear hI hb
      go_wp2_with fail
      have hb1 := (Bel.refl w1).alloc (boxV wp sp wc sc m) 25
      have HXM := Lib.hid (heap_alloc_new w1 (.cells (boxV wp sp wc sc m) 25))
      have HX1 := Lib.hid (hb1.stays HX.out)
      have HB1 := Lib.hid (HB.out.trans hb1)
      have HI1 := Lib.hid (HI.out.bel hb1)
      have HLT := Lib.hid (lt_of_heap HX.out)
      clear hb1
      generalize w1.alloc (.cells (boxV wp sp wc sc m) 25) = W1 at HX1 HB1 HI1 HXM ⊢
      refine (rPrint_yes HR.out HT.out _ HI1).mono ?_
      rintro e w2 ⟨rfl, hb⟩
      have HX2 := Lib.hid (hb.stays HX1.out)
      have HM2 := Lib.hid (hb.stays HXM.out)
      have HB2 := Lib.hid (HB1.out.trans hb)
      have HI2 := Lib.hid (HI1.out.bel hb)
      clear hb
      have g0 := frozen_of_heap HX2.out 0
      have g1 := frozen_of_heap HX2.out 1
      have g2 := frozen_of_heap HX2.out 2
      have d0 : w2.cell? ⟨w.heap.size, 0, none⟩ = some (.slice none 0 0) := cell_of_heap HX2.out 0
      have d1 : w2.cell? ⟨w.heap.size, 1, none⟩ = some (.int .i64 0) := cell_of_heap HX2.out 1
      have d2 : w2.cell? ⟨w.heap.size, 2, none⟩ = some (.slice none 0 0) := cell_of_heap HX2.out 2
      have c0 : w2.cell? ⟨w1.heap.size, 0, none⟩ = some (.slice wp m.words.length wc) := cell_of_heap HM2.out 0
      have c1 : w2.cell? ⟨w1.heap.size, 1, none⟩ = some (.int .i64 m.mem) := cell_of_heap HM2.out 1
      have c2 : w2.cell? ⟨w1.heap.size, 2, none⟩ = some (.slice sp m.syms.length sc) := cell_of_heap HM2.out 2
      go_wp2_with fail
      go_quiet (fail)
      rename_i nq
      have HX3 : Hid ((w2.drewN nq).heap[w.heap.size]? = some (.cells #[.slice none 0 0, .int .i64 0, .slice none 0 0] 25 (0, 0))) := Lib.hid HX2.out
      have HB3 : Hid (Bel w (w2.drewN nq)) := Lib.hid (HB2.out.drewN nq)
      generalize w2.drewN nq = w3 at HX3 HB3 ⊢
      clear g0 g1 g2 d0 d1 d2 c0 c1 c2 sl1 sl2 sl3
      have g0 := frozen_of_heap HX3.out 0
      have g1 := frozen_of_heap HX3.out 1
      have g2 := frozen_of_heap HX3.out 2
      have d0 : w3.cell? ⟨w.heap.size, 0, none⟩ = some (.slice none 0 0) := cell_of_heap HX3.out 0
      have d1 : w3.cell? ⟨w.heap.size, 1, none⟩ = some (.int .i64 0) := cell_of_heap HX3.out 1
      have d2 : w3.cell? ⟨w.heap.size, 2, none⟩ = some (.slice none 0 0) := cell_of_heap HX3.out 2
      go_wp2_with fail
      exact bodyPost_ret (v := .tuple #[noImg, .int .i64 40, .int .i64 0]) (results_cell2 Tryz.results19 _ _ w.heap.size _ _ _ _ _ _ rfl rfl rfl (set3 HX3.out _ _ _) Tryz.underlying25 rfl img_size) rfl ⟨bel3 HB3.out (Nat.le_refl _) _ _ _, .inr (.inr ⟨HNO.out, rfl⟩)⟩
  · have hTs2 : ((T.size : Int) == (s.size : Int)) = false := by rw [beq_eq_false_iff_ne]; omega
    clear hz hTb
    have HR := Lib.hid hr
    have HT := Lib.hid hT
    have HRD := Lib.hid (rRead_any hs)
    rw [hM] at HRD
    clear hr hM hT
    have hbx := heap_alloc_new w (.cells #[.slice none 0 0, .int .i64 0, .slice none 0 0] 25)
    have hb0 := (Bel.refl w).alloc #[.slice none 0 0, .int .i64 0, .slice none 0 0] 25
    have HBX := Lib.hid hbx
    have HB0 := Lib.hid hb0
    clear hbx hb0
    go_enter Tryz.func19, Tryz.ntmps19
    go_wp2_with fail
    refine (HRD.out _).mono ?_
    rintro e w1 ⟨wp, sp, ⟨wc, sc, rfl⟩, hI, hb, l1, l2⟩
    have hsz0 : (w.alloc (.cells box0 25)).heap.size = w.heap.size + 1 := by simp
    have HL1 : Hid (∀ q, wp = some q → q.block ≠ w.heap.size) := Lib.hid (fun q hq => by have := l1 q hq; rw [hsz0] at this; omega)
    have HL2 : Hid (∀ q, sp = some q → q.block ≠ w.heap.size) := Lib.hid (fun q hq => by have := l2 q hq; rw [hsz0] at this; omega)
    clear l1 l2 hsz0
    have HI := Lib.hid hI
    have HB := Lib.hid (HB0.out.trans hb)
    have HX := Lib.hid (hb.stays HBX.out)
    clear hI hb
    go_wp2_with fail
    have hb1 := (Bel.refl w1).alloc (boxV wp sp wc sc m) 25
    have HXM := Lib.hid (heap_alloc_new w1 (.cells (boxV wp sp wc sc m) 25))
    have HX1 := Lib.hid (hb1.stays HX.out)
    have HB1 := Lib.hid (HB.out.trans hb1)
    have HI1 := Lib.hid (HI.out.bel hb1)
    have HLT := Lib.hid (lt_of_heap HX.out)
    clear hb1
    generalize w1.alloc (.cells (boxV wp sp wc sc m) 25) = W1 at HX1 HB1 HI1 HXM ⊢
    refine (rPrint_yes HR.out HT.out _ HI1).mono ?_
    rintro e w2 ⟨rfl, hb⟩
    have HX2 := Lib.hid (hb.stays HX1.out)
    have HM2 := Lib.hid (hb.stays HXM.out)
    have HB2 := Lib.hid (HB1.out.trans hb)
    have HI2 := Lib.hid (HI1.out.bel hb)
    clear hb
    have g0 := frozen_of_heap HX2.out 0
    have g1 := frozen_of_heap HX2.out 1
    have g2 := frozen_of_heap HX2.out 2
    have d0 : w2.cell? ⟨w.heap.size, 0, none⟩ = some (.slice none 0 0) := cell_of_heap HX2.out 0
    have d1 : w2.cell? ⟨w.heap.size, 1, none⟩ = some (.int .i64 0) := cell_of_heap HX2.out 1
    have d2 : w2.cell? ⟨w.heap.size, 2, none⟩ = some (.slice none 0 0) := cell_of_heap HX2.out 2
    have c0 : w2.cell? ⟨w1.heap.size, 0, none⟩ = some (.slice wp m.words.length wc) := cell_of_heap HM2.out 0
    have c1 : w2.cell? ⟨w1.heap.size, 1, none⟩ = some (.int .i64 m.mem) := cell_of_heap HM2.out 1
    have c2 : w2.cell? ⟨w1.heap.size, 2, none⟩ = some (.slice sp m.syms.length sc) := cell_of_heap HM2.out 2
    go_wp2_with fail
    go_quiet (fail)
    rename_i nq
    have HX3 : Hid ((w2.drewN nq).heap[w.heap.size]? = some (.cells #[.slice none 0 0, .int .i64 0, .slice none 0 0] 25 (0, 0))) := Lib.hid HX2.out
    have HB3 : Hid (Bel w (w2.drewN nq)) := Lib.hid (HB2.out.drewN nq)
    generalize w2.drewN nq = w3 at HX3 HB3 ⊢
    clear g0 g1 g2 d0 d1 d2 c0 c1 c2
    have g0 := frozen_of_heap HX3.out 0
    have g1 := frozen_of_heap HX3.out 1
    have g2 := frozen_of_heap HX3.out 2
    have d0 : w3.cell? ⟨w.heap.size, 0, none⟩ = some (.slice none 0 0) := cell_of_heap HX3.out 0
    have d1 : w3.cell? ⟨w.heap.size, 1, none⟩ = some (.int .i64 0) := cell_of_heap HX3.out 1
    have d2 : w3.cell? ⟨w.heap.size, 2, none⟩ = some (.slice none 0 0) := cell_of_heap HX3.out 2
    go_wp2_with fail
    exact bodyPost_ret (v := .tuple #[noImg, .int .i64 40, .int .i64 0]) (results_cell2 Tryz.results19 _ _ w.heap.size _ _ _ _ _ _ rfl rfl rfl (set3 HX3.out _ _ _) Tryz.underlying25 rfl img_size) rfl ⟨bel3 HB3.out (Nat.le_refl _) _ _ _, .inr (.inr ⟨HNO.out, rfl⟩)⟩
end Go.Proofs.YtbfmlbcjggplgaaGreatDoor
/- The document's own Parse of images, at any text. -/
namespace Go.Proofs.YtbfmlbcjggplgaaGreatDoor
open Go.RowKit Im
theorem rParse_any {s : ByteArray} (hs : s.size ≤ 1000000) (w : World) :
    Calls Tryz.prog 19 #[.string s] w (Parsed s.data.toList w) := by
  cases hr : right (rdF rd0 s.data.toList).img with
  | false => exact rParse_no hs hr w
  | true =>
    by_cases hT : str (text (rdF rd0 s.data.toList).img) = s
    · exact rParse_ok hs hr hT w
    · by_cases h : ∃ m n, Shape s.data.toList m n
      · obtain ⟨m, n, h⟩ := h
        refine rParse_sum hs h (fun e => hT ?_) w
        rw [rd_shape h, ← str_of s, h.2.2.2, e]
        rfl
      · exact rParse_form hs rfl hr (fun m n c => h ⟨m, n, c⟩) w
end Go.Proofs.YtbfmlbcjggplgaaGreatDoor
