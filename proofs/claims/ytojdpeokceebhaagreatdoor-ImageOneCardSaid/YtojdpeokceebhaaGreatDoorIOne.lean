/- One byte of a text that is another one makes it none: the law ImageOne, walked. -/
import Derived.Test.YtojdpeokceebhaaGreatDoorIFit
import Derived.Test.YtojdpeokceebhaaGreatDoorIAwk2
import Derived.Test.YtojdpeokceebhaaGreatDoorIOneP
import Derived.Lib.ConvBytes
import Derived.Lib.AtoiErrMem
import Derived.Laws.IdiomStrings
import Derived.StillTailTactics
namespace Go.Proofs.YtojdpeokceebhaaGreatDoor
open Go.RowKit Im
set_option linter.unusedVariables false
theorem pick_nat_of1 (c : Int) (m : Nat) (hm : 0 < m) : ∃ k : Nat, k < m ∧ pick c (m : Int) = k := by
  have hb := pick_bd c (n := (m : Int)) (by omega)
  obtain ⟨k, hk⟩ := Int.eq_ofNat_of_zero_le hb.1
  exact ⟨k, by omega, hk⟩
/-- what the law asks of the text: it is none -/
theorem one_none {m : Img} {L : Bs} {k : Nat} {c d : UInt8} (hr : right m = true) (hk : (text m)[k]? = some c) (hcd : c ≠ d) (hL : L = (text m).set k d) : ∀ m', ¬ Shape L m' (sumOf (body m')) := by
  rintro m' ⟨hr', _, _, h⟩
  obtain ⟨hlt, hc⟩ := List.getElem?_eq_some_iff.1 hk
  have h1 : text m = (text m).take k ++ c :: (text m).drop (k + 1) := by
    rw [← drop_get hk, List.take_append_drop]
  have h2 : L = (text m).take k ++ d :: (text m).drop (k + 1) := by
    rw [hL, List.set_eq_take_append_cons_drop, if_pos hlt]
  exact one_not hr hr' h1 hcd (show text m' = _ by rw [← h2, h]; rfl)
set_option maxRecDepth 100000 in
set_option maxHeartbeats 16000000 in
theorem imageOne_any {wp sp : Option Addr} {wc sc : Nat} {raw : Img} (at' by' : Int) (w : World) (h1 : inInt at') (h2 : inInt by') (H : Hid (ImgAt w wp sp raw)) (hL : LibAt w) (hS : SpAt w) :
    Calls Tryz.prog 5 #[imgV wp sp wc sc raw, .int .i64 at', .int .i64 by'] w fun e w' => e = .returned (.bool true) ∧ Bel w w' := by
  have HL := Lib.hid hL
  have HSP := Lib.hid hS
  have HI1 := Lib.hid h1
  have HI2 := Lib.hid h2
  clear hL hS h1 h2
  go_enter Tryz.func5, Tryz.ntmps5
  go_wp2_with fail
  have hb0 := (Bel.refl w).alloc (boxV wp sp wc sc raw) 25
  have hx0 := heap_alloc_new w (.cells (boxV wp sp wc sc raw) 25)
  generalize w.alloc (.cells (boxV wp sp wc sc raw) 25) = W0 at hb0 hx0 ⊢
  generalize w.heap.size = bx at hx0 ⊢
  have HB := Lib.hid hb0
  have HX0 := Lib.hid hx0
  clear hb0 hx0
  refine (awake_any _ (HL.out.bel HB.out)).mono ?_
  rintro e w1 ⟨rfl, hb⟩
  have HB := Lib.hid (HB.out.trans hb)
  have HX0 := Lib.hid (hb.stays HX0.out)
  clear hb
  have c0 : w1.cell? ⟨bx, 0, none⟩ = some (.slice wp raw.words.length wc) := cell_of_heap HX0.out 0
  have c1 : w1.cell? ⟨bx, 1, none⟩ = some (.int .i64 raw.mem) := cell_of_heap HX0.out 1
  have c2 : w1.cell? ⟨bx, 2, none⟩ = some (.slice sp raw.syms.length sc) := cell_of_heap HX0.out 2
  go_wp2_with fail
  refine (fit_any (wp := wp) (sp := sp) (wc := wc) (sc := sc) _ (Lib.hid (H.out.bel HB.out))).mono ?_
  rintro e w2 ⟨hb, p, q, c, d, rfl, hI⟩
  have HB := Lib.hid (HB.out.trans hb)
  clear hb c0 c1 c2
  have hr := fit_right raw
  generalize fitV raw = m at hI hr ⊢
  have HIY := Lib.hid hI
  have HR := Lib.hid hr
  clear hI hr
  obtain ⟨S, hT⟩ : ∃ S, str (text m) = S := ⟨_, rfl⟩
  have hTs : S.size ≤ 700013 := by rw [← hT, str_size]; exact text_len HR.out
  have hT0 : 0 < S.size := by rw [← hT, str_size]; unfold text; rw [List.length_append, sumLine_len]; omega
  have HT := Lib.hid hT
  clear hT
  go_wp2_with fail
  have hb3 := (Bel.refl w2).alloc (boxV p q c d m) 25
  have hx3 := heap_alloc_new w2 (.cells (boxV p q c d m) 25)
  generalize w2.alloc (.cells (boxV p q c d m) 25) = W3 at hb3 hx3 ⊢
  generalize w2.heap.size = b4 at hx3 ⊢
  have HIY := Lib.hid (HIY.out.bel hb3)
  have HB := Lib.hid (HB.out.trans hb3)
  clear hb3 hx3
  refine (print_yes (wp := p) (sp := q) (wc := c) (sc := d) HR.out HT.out _ HIY (HL.out.bel HB.out).2.1).mono ?_
  rintro e w4 ⟨rfl, hb⟩
  have HB := Lib.hid (HB.out.trans hb)
  clear hb
  obtain ⟨k, hk, hpk⟩ := pick_nat_of1 at' S.size hT0
  have HPK := Lib.hid hpk
  obtain ⟨pv, hpv, hpv2⟩ := pick_nat_of1 by' 255 (by omega)
  have HPV : Hid (pick by' 255 = (pv : Int)) := Lib.hid hpv2
  clear hpk hpv2
  have s0 : ((S.size : Int) == 0) = false := by rw [beq_eq_false_iff_ne]; omega
  have hcv := Lib.run_convert_string_bytes (P := Tryz.prog) w4 9 41 5 S (u := .string) Tryz.underlying9 Tryz.underlying41 Tryz.underlying5
  go_wp2_with (go_at_call 22; ((with_reducible refine (pick_lit HPK.out HI1.out (by omega) _).mono ?_); rintro e w' ⟨rfl, rfl⟩))
  have hBn := Lib.bytesWorld_at_new w4 5 S
  have hBc : ∀ j, j < S.size → (Lib.bytesWorld w4 5 S).cell? ⟨w4.heap.size, j, none⟩ = some (.int .u8 (S.data.toList.getD j 0).toNat) := fun j hj => Lib.bytesWorld_cell w4 5 S j hj
  have hbb : Bel w4 (Lib.bytesWorld w4 5 S) := Lib.bytesWorld_below w4 5 S
  have hlo : w.heap.size ≤ w4.heap.size := HB.out.size
  generalize grownCap w4 S.size 0 5 = cap
  obtain ⟨W5, hW5⟩ : ∃ W, Lib.bytesWorld w4 5 S = W := ⟨_, rfl⟩
  have hfz : W5.frozen? ⟨w4.heap.size, k, none⟩ = false := by
    rw [← hW5, frozen_marks, hBn]
    simp [marks, Lib.bytesCells]
    omega
  rw [hW5] at hBn hBc hbb ⊢
  clear hW5 hcv
  generalize w4.heap.size = bb at hBn hBc hlo hfz ⊢
  have hsl : S.data.toList = text m := by rw [← HT.out, str_list]
  obtain ⟨cb, hcb⟩ : ∃ cb, (text m)[k]? = some cb := ⟨_, List.getElem?_eq_getElem (by rw [← hsl, size_list]; exact hk)⟩
  have hck : W5.cell? ⟨bb, k, none⟩ = some (.int .u8 cb.toNat) := by rw [hBc k hk, hsl, List.getD_eq_getElem?_getD, hcb]; rfl
  have c256 : cb.toNat < 256 := UInt8.toNat_lt cb
  obtain ⟨dn, hdn⟩ : ∃ dn : Nat, (cb.toNat + 1 + pv) % 256 = dn := ⟨_, rfl⟩
  have hdn1 : dn < 256 := by omega
  have hdn2 : dn ≠ cb.toNat := by omega
  have vr : ((cb.toNat : Int) + 1 + (pv : Int)) % 256 = (dn : Int) := by omega
  have hk3 : (k : Int) < (S.size : Int) := by omega
  have vw0 : IntKind.i64.wrap (cb.toNat : Int) = (cb.toNat : Int) := IntWalk.i64_in _ (by constructor <;> omega)
  have vw1 : IntKind.i64.wrap ((cb.toNat : Int) + 1) = (cb.toNat : Int) + 1 := IntWalk.i64_in _ (by constructor <;> omega)
  have vw2 : IntKind.i64.wrap ((cb.toNat : Int) + 1 + (pv : Int)) = (cb.toNat : Int) + 1 + (pv : Int) := IntWalk.i64_in _ (by constructor <;> omega)
  have vw3 : IntKind.u8.wrap (dn : Int) = (dn : Int) := by rw [IntKind.wrap_u8]; omega
  go_still_tail 14, (by kernel_rfl)
  still_call ((pick_lit HPV.out HI2.out (by decide) _).mono fun e' w' h => ⟨h.1, h.2.symm⟩)
  repeat still_step
  refine wpStill_nil ?_
  change wpList _ _ _ _ _ W5.drew
  have hckd : W5.drew.cell? ⟨bb, k, none⟩ = some (.int .u8 cb.toNat) := hck
  have hfzd : W5.drew.frozen? ⟨bb, k, none⟩ = false := hfz
  have hbd : Bel w4 W5.drew := hbb.drew
  obtain ⟨L, hL⟩ : ∃ L, (text m).set k (UInt8.ofNat dn) = L := ⟨_, rfl⟩
  have hLl : L.length = S.size := by rw [← hL, List.length_set, ← hsl, size_list]
  have hdb : (UInt8.ofNat dn).toNat = dn := by simp; omega
  have hBd : ∀ j (hj : j < L.length), (W5.setCell ⟨bb, k, none⟩ (.int .u8 (dn : Int))).drew.cell? ((⟨bb, 0, none⟩ : Addr).add j) = some (.int .u8 (L[j].toNat : Int)) := fun j hj => by
    rw [Addr.add_lit, Nat.zero_add]
    have hj' : j < S.size := by omega
    by_cases e : j = k
    · subst e
      have : L[j] = UInt8.ofNat dn := by simp [← hL]
      rw [this, hdb]
      exact World.cell?_setCell_same W5 _ _ hck
    · have h3 : L[j] = (text m)[j]'(by rw [← hsl, size_list]; exact hj') := by simp only [← hL]; rw [List.getElem_set_ne (fun c => e c.symm)]
      show (W5.setCell _ _).cell? _ = _
      rw [World.cell?_setCell_other W5 _ _ _ (fun c => e (congrArg Addr.off c).symm), hBc j hj', hsl, h3, List.getD_eq_getElem?_getD, List.getElem?_eq_getElem]
      rfl
  have hcv2 := run_convert_bytes_back (P := Tryz.prog) ((W5.setCell ⟨bb, k, none⟩ (.int .u8 (dn : Int))).drew) 41 9 5 ⟨bb, 0, none⟩ cap L Tryz.underlying41 Tryz.underlying5 Tryz.underlying9 hBd
  rw [hLl] at hcv2
  have hb6 : Bel w (W5.setCell ⟨bb, k, none⟩ (.int .u8 (dn : Int))).drew := ((HB.out.trans hbb).setCell (p := ⟨bb, k, none⟩) hlo _).drew
  have HL' := Lib.hid hL
  have HL2 := Lib.hid hLl
  clear hL hLl hBd hBc hBn
  obtain ⟨X, hX⟩ : ∃ X, (⟨L.toArray⟩ : ByteArray) = X := ⟨_, rfl⟩
  rw [hX] at hcv2
  have HX := Lib.hid hX
  clear hX
  go_wp2_with fail
  generalize (W5.setCell ⟨bb, k, none⟩ (.int .u8 (dn : Int))).drew = W6 at hb6
  have HB := Lib.hid hb6
  have hne : cb ≠ UInt8.ofNat dn := fun c => hdn2 (by rw [c, hdb])
  have HNO := Lib.hid (one_none HR.out hcb hne HL'.out.symm)
  have hXs : X.size ≤ 1000000 := by
    have := HL2.out
    rw [← HX.out]
    show L.toArray.size ≤ _
    simp
    omega
  have hXl : X.data.toList = L := by rw [← HX.out]
  clear hb6 hbb hlo hfz hsl hcb hck c256 hdn hdn1 hdn2 vr hk3 vw0 vw1 vw2 vw3 hckd hfzd hbd hdb hne hcv2
  refine (parse_any hXs _ (HL.out.bel HB.out) (HSP.out.bel HB.out)).mono ?_
  rintro e W7 ⟨hb, h⟩
  rw [hXl] at h
  have HB7 := Lib.hid (HB.out.trans hb)
  clear hb
  rcases h with ⟨z, hsh, _⟩ | ⟨z, n, hsh, hnn, rfl⟩ | ⟨hno, rfl⟩
  · exact absurd hsh (HNO.out z)
  · have hln : 2 < Lib.countByte L 10 := by rw [hsh.2.2.2]; exact text_lines
    have hln2 : (2 : Int) < ((Lib.countByte L 10 : Nat) : Int) := by omega
    clear hsh hnn hln
    generalize ((Lib.countByte L 10 : Nat) : Int) = ln at hln2 ⊢
    go_wp2_with fail
    go_ret
    exact ⟨rfl, HB7.out.alloc _ _⟩
  · clear hno
    go_wp2_with fail
    go_ret
    exact ⟨rfl, HB7.out.alloc _ _⟩
end Go.Proofs.YtojdpeokceebhaaGreatDoor
