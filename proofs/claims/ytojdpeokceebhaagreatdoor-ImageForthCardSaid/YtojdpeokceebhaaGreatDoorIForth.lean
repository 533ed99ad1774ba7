/- Print undoes Parse: the law ImageForth, walked. -/
import Derived.Test.YtojdpeokceebhaaGreatDoorIFit
import Derived.Test.YtojdpeokceebhaaGreatDoorIAwk2
import Derived.Test.YtojdpeokceebhaaGreatDoorIBackP
import Derived.BigRegion
import Derived.Deep.LoopGhost
namespace Go.Proofs.YtojdpeokceebhaaGreatDoor
open Go.RowKit Im
set_option linter.unusedVariables false
theorem pick_nat_of (c : Int) (m : Nat) (hm : 0 < m) : ∃ k : Nat, k < m ∧ pick c (m : Int) = k := by
  have hb := pick_bd c (n := (m : Int)) (by omega)
  obtain ⟨k, hk⟩ := Int.eq_ofNat_of_zero_le hb.1
  exact ⟨k, by omega, hk⟩
/-- texts lie in a block -/
def TextsIn (W : World) (G : Nat) (xs : List ByteArray) : Prop := G < W.heap.size ∧ ∀ (j : Nat) (x : ByteArray), xs[j]? = some x → W.cell? ⟨G, j, none⟩ = some (.string x)
theorem TextsIn.bel {W W2 : World} {G : Nat} {xs : List ByteArray} (h : TextsIn W G xs) (hb : Bel W W2) : TextsIn W2 G xs :=
  ⟨Nat.lt_of_lt_of_le h.1 hb.size, fun j x hx => (hb.cell (p := ⟨G, j, none⟩) h.1).trans (h.2 j x hx)⟩
theorem texts_new (W : World) (xs : List ByteArray) (t : TypeId) : TextsIn (W.alloc (.cells (xs.map Value.string).toArray t)) W.heap.size xs := by
  have hh := heap_alloc_new W (.cells (xs.map Value.string).toArray t)
  refine ⟨lt_of_heap hh, fun j x hx => ?_⟩
  rw [cell_of_heap hh]
  simp [hx]
set_option maxRecDepth 100000 in
set_option maxHeartbeats 16000000 in
theorem imageForth_any (s m : ByteArray) {wp sp : Option Addr} {wc sc : Nat} {raw : Img} (at' : Int) (w : World) (hs : s.size ≤ 140737488351232) (hm : m.size ≤ 140737488351232) (hi : inInt at') (H : Hid (ImgAt w wp sp raw)) (hL : LibAt w) (hS : SpAt w) :
    Calls Tryz.prog 6 #[.string s, imgV wp sp wc sc raw, .int .i64 at', .string m] w fun e w' => e = .returned (.bool true) ∧ Bel w w' := by
  have HL := Lib.hid hL
  have HSP := Lib.hid hS
  have HI := Lib.hid hi
  clear hL hS hi
  go_enter Tryz.func6, Tryz.ntmps6
  go_wp2_with fail
  have hb0 := (Bel.refl w).alloc (boxV wp sp wc sc raw) 25
  have hx0 := heap_alloc_new w (.cells (boxV wp sp wc sc raw) 25)
  generalize w.alloc (.cells (boxV wp sp wc sc raw) 25) = W0 at hb0 hx0 ⊢
  generalize w.heap.size = bx at hx0 ⊢
  have HB := Lib.hid hb0
  have HX0 := Lib.hid hx0
  clear hb0 hx0
  refine (awake_any _ (HL.out.bel HB.out)).mono ?_
  rintro e w1 ⟨rfl, hb⟩
  have HB := Lib.hid (HB.out.trans hb)
  have HX0 := Lib.hid (hb.stays HX0.out)
  clear hb
  have c0 : w1.cell? ⟨bx, 0, none⟩ = some (.slice wp raw.words.length wc) := cell_of_heap HX0.out 0
  have c1 : w1.cell? ⟨bx, 1, none⟩ = some (.int .i64 raw.mem) := cell_of_heap HX0.out 1
  have c2 : w1.cell? ⟨bx, 2, none⟩ = some (.slice sp raw.syms.length sc) := cell_of_heap HX0.out 2
  go_wp2_with fail
  refine (fit_any (wp := wp) (sp := sp) (wc := wc) (sc := sc) _ (Lib.hid (H.out.bel HB.out))).mono ?_
  rintro e w2 ⟨hb, p, q, c, d, rfl, hI⟩
  have HB := Lib.hid (HB.out.trans hb)
  clear hb c0 c1 c2
  have hr := fit_right raw
  generalize fitV raw = y at hI hr ⊢
  have HIY := Lib.hid hI
  have HR := Lib.hid hr
  clear hI hr
  obtain ⟨T, hT⟩ : ∃ T, str (text y) = T := ⟨_, rfl⟩
  have hTs : T.size ≤ 700013 := by rw [← hT, str_size]; exact text_len HR.out
  have HT := Lib.hid hT
  clear hT
  go_wp2_with fail
  refine (print_yes (wp := p) (sp := q) (wc := c) (sc := d) HR.out HT.out _ HIY (HL.out.bel HB.out).2.1).mono ?_
  rintro e wc0 ⟨rfl, hb⟩
  have HB := Lib.hid (HB.out.trans hb)
  clear hb
  obtain ⟨k, hk, hpk⟩ := pick_nat_of at' (T.size + 1) (by omega)
  have HPK : Hid (pick at' ((T.size : Int) + 1) = (k : Int)) := Lib.hid (by rw [← hpk]; rfl)
  clear hpk
  go_wp2_with (go_at_call 22; ((with_reducible refine (pick_lit HPK.out HI.out (by omega) _).mono ?_); rintro e w' ⟨rfl, rfl⟩))
  have hk2 : k ≤ T.size := by omega
  have hk3 : (k : Int) ≤ T.size := by omega
  have y1 : (T.extract 0 k).size = k := by rw [ByteArray.size_extract]; omega
  have y2 : (T.extract k T.size).size = T.size - k := by rw [ByteArray.size_extract]; omega
  have z1 : (T.extract 0 k).size + m.size ≤ 9223372036854775807 := by omega
  have z2 : (T.extract 0 k ++ m).size + (T.extract k T.size).size ≤ 9223372036854775807 := by rw [ByteArray.size_append]; omega
  clear y1 y2
  have hj1 : min ((k : Int) + m.size) T.size = ((min (k + m.size) T.size : Nat) : Int) := by omega
  obtain ⟨j, hj⟩ : ∃ j, min (k + m.size) T.size = j := ⟨_, rfl⟩
  rw [hj] at hj1
  have hj2 : j ≤ T.size := by omega
  have hj3 : (j : Int) ≤ T.size := by omega
  have z3 : (T.extract 0 k ++ m).size + (T.extract j T.size).size ≤ 9223372036854775807 := by rw [ByteArray.size_append, ByteArray.size_extract, ByteArray.size_extract]; omega
  go_region
  clear z1 z2 z3 hj hj1 hj2 hj3 hk hk2 hk3
  generalize T.extract 0 k ++ m ++ T.extract j T.size = x2
  generalize T.extract 0 k ++ m ++ T.extract k T.size = x3
  have HF := Lib.hid ((texts_new wc0 [s, x2, x3] 9).bel (Bel.refl _).drew)
  have HB2 := Lib.hid ((HB.out.alloc #[.string s, .string x2, .string x3] 9).drew)
  simp only [List.map_cons, List.map_nil] at HF
  generalize (wc0.alloc (.cells #[.string s, .string x2, .string x3] 9)).drew = V0 at HF HB2 ⊢
  generalize wc0.heap.size = G at HF ⊢
  obtain ⟨xs, hxs⟩ : ∃ xs, [s, x2, x3] = xs := ⟨_, rfl⟩
  have HXS : Hid (xs.length = 3) := Lib.hid (by subst hxs; rfl)
  rw [hxs] at HF
  clear hxs HB HT HR HIY HPK hTs
  go_wp2_with fail
  go_loopg [59] 3 (fun gk ii wr => ∃ i : Nat, i + gk = 3 ∧ ii = .int .i64 i ∧ Hid (Bel V0 wr))
  case atStart => exact ⟨0, by omega, rfl, Lib.hid (Bel.refl _)⟩
  case round =>
    obtain ⟨i, hig, rfl, HBi⟩ := hrel
    by_cases hi3 : i < 3
    · obtain ⟨x, hx⟩ : ∃ x, xs[i]? = some x := ⟨_, List.getElem?_eq_getElem (by rw [HXS.out]; exact hi3)⟩
      have cx := (HF.out.bel HBi.out).2 i x hx
      have hk1 : (i : Int) < 3 := by omega
      clear hx
      by_cases hbig : 2000 < x.size
      · have hbig' : (2000 : Int) < (x.size : Int) := by omega
        go_wp2_with fail
        go_roundg (gk - 1)
        case measure => omega
        case rel => exact ⟨i + 1, by omega, by go_num, HBi⟩
      · have hbig' : (x.size : Int) ≤ 2000 := by omega
        have hxs : x.size ≤ 1000000 := by omega
        go_wp2_with fail
        refine (parse_any hxs _ (HL.out.bel (HB2.out.trans HBi.out)) (HSP.out.bel (HB2.out.trans HBi.out))).mono ?_
        rintro e W1 ⟨hb, h⟩
        have HB1 := Lib.hid (HBi.out.trans hb)
        clear hb
        rcases h with ⟨z, hsh, zp, zq, zc, zd, rfl, hI⟩ | ⟨z, n, hsh, hne, rfl⟩ | ⟨hno, rfl⟩
        · have HSH := Lib.hid hsh
          have HZ := Lib.hid hI
          have HX := Lib.hid (show str (text z) = x by unfold text; rw [← hsh.2.2.2, str_of])
          clear hsh hI
          go_wp2_with fail
          have hb9 := (Bel.refl W1).alloc (boxV zp zq zc zd z) 25
          have hx9 := heap_alloc_new W1 (.cells (boxV zp zq zc zd z) 25)
          generalize W1.alloc (.cells (boxV zp zq zc zd z) 25) = W9 at hb9 hx9 ⊢
          generalize W1.heap.size = b9 at hx9 ⊢
          have HZ := Lib.hid (HZ.out.bel hb9)
          have HB1 := Lib.hid (HB1.out.trans hb9)
          have HX9 := Lib.hid hx9
          clear hb9 hx9
          refine (print_yes (wp := zp) (sp := zq) (wc := zc) (sc := zd) HSH.out.1 HX.out _ HZ (HL.out.bel (HB2.out.trans HB1.out)).2.1).mono ?_
          rintro e W3 ⟨rfl, hb⟩
          have HZ := Lib.hid (HZ.out.bel hb)
          have HB1 := Lib.hid (HB1.out.trans hb)
          have HX9 := Lib.hid (hb.stays HX9.out)
          clear hb
          have a0 : W3.cell? ⟨b9, 0, none⟩ = some (.slice zp z.words.length zc) := cell_of_heap HX9.out 0
          have a1 : W3.cell? ⟨b9, 1, none⟩ = some (.int .i64 z.mem) := cell_of_heap HX9.out 1
          have a2 : W3.cell? ⟨b9, 2, none⟩ = some (.slice zq z.syms.length zd) := cell_of_heap HX9.out 2
          have v1 : (x.toList == x.toList) = true := beq_self_eq_true _
          have v2 : (x.toList != x.toList) = false := bne_self_eq_false _
          go_wp2_with fail
          refine (right_lit (wp := zp) (sp := zq) (wc := zc) (sc := zd) HSH.out.1 _ HZ).mono ?_
          rintro e W4 ⟨rfl, hb⟩
          have HB1 := Lib.hid (HB1.out.trans hb)
          clear hb a0 a1 a2
          go_wp2_with fail
          go_roundg (gk - 1)
          case measure => omega
          case rel => exact ⟨i + 1, by omega, by go_num, HB1⟩
        · have HB1' := HB1
          clear hsh hne
          generalize ((Lib.countByte x.data.toList 10 : Nat) : Int) = ln
          go_wp2_with fail
          go_roundg (gk - 1)
          case measure => omega
          case rel => exact ⟨i + 1, by omega, by go_num, Lib.hid (HB1.out.alloc _ _)⟩
        · clear hno
          go_wp2_with fail
          go_roundg (gk - 1)
          case measure => omega
          case rel => exact ⟨i + 1, by omega, by go_num, Lib.hid (HB1.out.alloc _ _)⟩
    · obtain rfl : i = 3 := by omega
      go_wp2_with fail
      go_ret
      exact ⟨rfl, HB2.out.trans HBi.out⟩
end Go.Proofs.YtojdpeokceebhaaGreatDoor
