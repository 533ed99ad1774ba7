/- Parse undoes Print; unlike images that may be have unlike texts: the law ImageBack, walked. -/
import Derived.Test.YtojdpeokceebhaaGreatDoorIFit
import Derived.Test.YtojdpeokceebhaaGreatDoorIAwk2
import Derived.Test.YtojdpeokceebhaaGreatDoorIBackP
namespace Go.Proofs.YtojdpeokceebhaaGreatDoor
open Go.RowKit Im
set_option linter.unusedVariables false
set_option maxRecDepth 100000 in
set_option maxHeartbeats 8000000 in
theorem imageBack_any {wp sp wp' sp' : Option Addr} {wc sc wc' sc' : Nat} {raw raw' : Img} (w : World) (hL : LibAt w) (hS : SpAt w) (H : Hid (ImgAt w wp sp raw)) (H' : Hid (ImgAt w wp' sp' raw')) :
    Calls Tryz.prog 4 #[imgV wp sp wc sc raw, imgV wp' sp' wc' sc' raw'] w fun e w' => e = .returned (.bool true) ∧ Bel w w' := by
  have HL := Lib.hid hL
  have HSP := Lib.hid hS
  clear hL hS
  go_enter Tryz.func4, Tryz.ntmps4
  go_wp2_with fail
  have hb0 := (Bel.refl w).alloc (boxV wp sp wc sc raw) 25
  have hx0 := heap_alloc_new w (.cells (boxV wp sp wc sc raw) 25)
  obtain ⟨W1, hW1⟩ : ∃ W, w.alloc (.cells (boxV wp sp wc sc raw) 25) = W := ⟨_, rfl⟩
  rw [hW1] at hb0 hx0 ⊢
  have hz1 : W1.heap.size = w.heap.size + 1 := by rw [← hW1]; simp
  have hb1 := hb0.alloc (boxV wp' sp' wc' sc' raw') 25
  have hx1 := heap_alloc_new W1 (.cells (boxV wp' sp' wc' sc' raw') 25)
  have hx0 := ((Bel.refl W1).alloc (boxV wp' sp' wc' sc' raw') 25).stays hx0
  rw [hz1] at hx1
  generalize W1.alloc (.cells (boxV wp' sp' wc' sc' raw') 25) = W0 at hb1 hx1 hx0 ⊢
  clear hb0 hz1 hW1
  generalize w.heap.size = bx at hx0 hx1 ⊢
  have HB := Lib.hid hb1
  have HX0 := Lib.hid hx0
  have HX1 := Lib.hid hx1
  clear hb1 hx0 hx1
  refine (awake_any _ (HL.out.bel HB.out)).mono ?_
  rintro e w1 ⟨rfl, hb⟩
  have HB := Lib.hid (HB.out.trans hb)
  have HX0 := Lib.hid (hb.stays HX0.out)
  have HX1 := Lib.hid (hb.stays HX1.out)
  clear hb
  have c0 : w1.cell? ⟨bx, 0, none⟩ = some (.slice wp raw.words.length wc) := cell_of_heap HX0.out 0
  have c1 : w1.cell? ⟨bx, 1, none⟩ = some (.int .i64 raw.mem) := cell_of_heap HX0.out 1
  have c2 : w1.cell? ⟨bx, 2, none⟩ = some (.slice sp raw.syms.length sc) := cell_of_heap HX0.out 2
  go_wp2_with fail
  refine (fit_any (wp := wp) (sp := sp) (wc := wc) (sc := sc) _ (Lib.hid (H.out.bel HB.out))).mono ?_
  rintro e w2 ⟨hb, p, q, c, d, rfl, hI⟩
  have HB := Lib.hid (HB.out.trans hb)
  have HX1 := Lib.hid (hb.stays HX1.out)
  clear hb c0 c1 c2
  have hr := fit_right raw
  generalize fitV raw = m at hI hr ⊢
  have HI := Lib.hid hI
  have HR := Lib.hid hr
  clear hI hr
  have e0 : w2.cell? ⟨bx + 1, 0, none⟩ = some (.slice wp' raw'.words.length wc') := cell_of_heap HX1.out 0
  have e1 : w2.cell? ⟨bx + 1, 1, none⟩ = some (.int .i64 raw'.mem) := cell_of_heap HX1.out 1
  have e2 : w2.cell? ⟨bx + 1, 2, none⟩ = some (.slice sp' raw'.syms.length sc') := cell_of_heap HX1.out 2
  have hlt : bx + 1 < w2.heap.size := lt_of_heap HX1.out
  go_wp2_with fail
  clear e0 e1 e2 hlt
  have hb3 := (Bel.refl w2).alloc (boxV p q c d m) 25
  have hx3 := heap_alloc_new w2 (.cells (boxV p q c d m) 25)
  generalize w2.alloc (.cells (boxV p q c d m) 25) = W3 at hb3 hx3 ⊢
  generalize w2.heap.size = b4 at hx3 ⊢
  have HI := Lib.hid (HI.out.bel hb3)
  have HB := Lib.hid (HB.out.trans hb3)
  have HX4 := Lib.hid hx3
  clear hb3 hx3
  refine (fit_any (wp := wp') (sp := sp') (wc := wc') (sc := sc') _ (Lib.hid (H'.out.bel HB.out))).mono ?_
  rintro e w4 ⟨hb, p', q', c', d', rfl, hI'⟩
  have HB := Lib.hid (HB.out.trans hb)
  have HI := Lib.hid (HI.out.bel hb)
  have HX4 := Lib.hid (hb.stays HX4.out)
  clear hb
  have hr' := fit_right raw'
  generalize fitV raw' = m' at hI' hr' ⊢
  have HI' := Lib.hid hI'
  have HR' := Lib.hid hr'
  clear hI' hr'
  have e0 : w4.cell? ⟨b4, 0, none⟩ = some (.slice p m.words.length c) := cell_of_heap HX4.out 0
  have e1 : w4.cell? ⟨b4, 1, none⟩ = some (.int .i64 m.mem) := cell_of_heap HX4.out 1
  have e2 : w4.cell? ⟨b4, 2, none⟩ = some (.slice q m.syms.length d) := cell_of_heap HX4.out 2
  have hlt : b4 < w4.heap.size := lt_of_heap HX4.out
  obtain ⟨S, hS⟩ : ∃ S, str (text m) = S := ⟨_, rfl⟩
  obtain ⟨T, hT⟩ : ∃ T, str (text m') = T := ⟨_, rfl⟩
  have HS := Lib.hid hS
  have HT := Lib.hid hT
  clear hS hT
  go_wp2_with fail
  clear e0 e1 e2 hlt
  have hb5 := (Bel.refl w4).alloc (boxV p' q' c' d' m') 25
  have hx5 := heap_alloc_new w4 (.cells (boxV p' q' c' d' m') 25)
  generalize w4.alloc (.cells (boxV p' q' c' d' m') 25) = W5 at hb5 hx5 ⊢
  generalize w4.heap.size = b6 at hx5 ⊢
  have HI := Lib.hid (HI.out.bel hb5)
  have HI' := Lib.hid (HI'.out.bel hb5)
  have HB := Lib.hid (HB.out.trans hb5)
  have HX4 := Lib.hid (hb5.stays HX4.out)
  have HX6 := Lib.hid hx5
  clear hb5 hx5
  refine (print_yes (wp := p) (sp := q) (wc := c) (sc := d) HR.out HS.out _ HI (HL.out.bel HB.out).2.1).mono ?_
  rintro e w6 ⟨rfl, hb⟩
  have HI := Lib.hid (HI.out.bel hb)
  have HI' := Lib.hid (HI'.out.bel hb)
  have HB := Lib.hid (HB.out.trans hb)
  have HX4 := Lib.hid (hb.stays HX4.out)
  have HX6 := Lib.hid (hb.stays HX6.out)
  clear hb
  have e0 : w6.cell? ⟨b6, 0, none⟩ = some (.slice p' m'.words.length c') := cell_of_heap HX6.out 0
  have e1 : w6.cell? ⟨b6, 1, none⟩ = some (.int .i64 m'.mem) := cell_of_heap HX6.out 1
  have e2 : w6.cell? ⟨b6, 2, none⟩ = some (.slice q' m'.syms.length d') := cell_of_heap HX6.out 2
  go_wp2_with fail
  clear e0 e1 e2
  refine (print_yes (wp := p') (sp := q') (wc := c') (sc := d') HR'.out HT.out _ HI' (HL.out.bel HB.out).2.1).mono ?_
  rintro e w7 ⟨rfl, hb⟩
  have HI := Lib.hid (HI.out.bel hb)
  have HI' := Lib.hid (HI'.out.bel hb)
  have HB := Lib.hid (HB.out.trans hb)
  have HX4 := Lib.hid (hb.stays HX4.out)
  have HX6 := Lib.hid (hb.stays HX6.out)
  clear hb
  go_wp2_with fail
  refine (parse_text HR.out HS.out _ (HL.out.bel HB.out) (HSP.out.bel HB.out)).mono ?_
  rintro e w8 ⟨zp, zq, zc, zd, rfl, hZ, hb⟩
  have HZ := Lib.hid hZ
  have HI := Lib.hid (HI.out.bel hb)
  have HI' := Lib.hid (HI'.out.bel hb)
  have HB := Lib.hid (HB.out.trans hb)
  have HX4 := Lib.hid (hb.stays HX4.out)
  have HX6 := Lib.hid (hb.stays HX6.out)
  clear hb hZ
  have a0 : w8.cell? ⟨b4, 0, none⟩ = some (.slice p m.words.length c) := cell_of_heap HX4.out 0
  have a1 : w8.cell? ⟨b4, 1, none⟩ = some (.int .i64 m.mem) := cell_of_heap HX4.out 1
  have a2 : w8.cell? ⟨b4, 2, none⟩ = some (.slice q m.syms.length d) := cell_of_heap HX4.out 2
  have hlt : b4 < w8.heap.size := lt_of_heap HX4.out
  go_wp2_with fail
  clear a0 a1 a2 hlt
  have hb9 := (Bel.refl w8).alloc (boxV zp zq zc zd m) 25
  have hx9 := heap_alloc_new w8 (.cells (boxV zp zq zc zd m) 25)
  generalize w8.alloc (.cells (boxV zp zq zc zd m) 25) = W9 at hb9 hx9 ⊢
  generalize w8.heap.size = b9 at hx9 ⊢
  have HI := Lib.hid (HI.out.bel hb9)
  have HI' := Lib.hid (HI'.out.bel hb9)
  have HZ := Lib.hid (HZ.out.bel hb9)
  have HB := Lib.hid (HB.out.trans hb9)
  have HX4 := Lib.hid (hb9.stays HX4.out)
  have HX6 := Lib.hid (hb9.stays HX6.out)
  clear hb9 hx9
  refine (same_lit (p := p) (q := q) (p' := zp) (q' := zq) (c := c) (d := d) (c' := zc) (d' := zd) (r := true) (same_eq.2 rfl) _ HI HZ).mono ?_
  rintro e w10 ⟨rfl, hb⟩
  have HI := Lib.hid (HI.out.bel hb)
  have HI' := Lib.hid (HI'.out.bel hb)
  have HB := Lib.hid (HB.out.trans hb)
  have HX4 := Lib.hid (hb.stays HX4.out)
  have HX6 := Lib.hid (hb.stays HX6.out)
  clear hb
  obtain ⟨r, hr⟩ : ∃ r, sameV m m' = r := ⟨_, rfl⟩
  have v1 : (S.toList == T.toList) = r := (text_same HR.out HR'.out HS.out HT.out).trans hr
  have HRR := Lib.hid hr
  clear hr
  have a0 : w10.cell? ⟨b4, 0, none⟩ = some (.slice p m.words.length c) := cell_of_heap HX4.out 0
  have a1 : w10.cell? ⟨b4, 1, none⟩ = some (.int .i64 m.mem) := cell_of_heap HX4.out 1
  have a2 : w10.cell? ⟨b4, 2, none⟩ = some (.slice q m.syms.length d) := cell_of_heap HX4.out 2
  have a3 : w10.cell? ⟨b6, 0, none⟩ = some (.slice p' m'.words.length c') := cell_of_heap HX6.out 0
  have a4 : w10.cell? ⟨b6, 1, none⟩ = some (.int .i64 m'.mem) := cell_of_heap HX6.out 1
  have a5 : w10.cell? ⟨b6, 2, none⟩ = some (.slice q' m'.syms.length d') := cell_of_heap HX6.out 2
  go_wp2_with fail
  refine (same_lit (p := p) (q := q) (p' := p') (q' := q') (c := c) (d := d) (c' := c') (d' := d') HRR.out _ HI HI').mono ?_
  rintro e w11 ⟨rfl, hb⟩
  have HB := Lib.hid (HB.out.trans hb)
  clear hb a0 a1 a2 a3 a4 a5
  have v2 : (r == r) = true := by cases r <;> rfl
  go_wp2_with fail
  go_ret
  exact ⟨rfl, HB.out⟩
end Go.Proofs.YtojdpeokceebhaaGreatDoor
