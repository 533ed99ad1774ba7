/- LabelBetween's walk. -/
import Derived.Test.YtjjbfeoidceiiaaLLead
import Derived.Test.YtjjbfeoidceiiaaLIdleP
namespace Go.Proofs.Ytjjbfeoidceiiaa
open Go.RowKit Rv Lb
set_option linter.unusedVariables false
theorem FitOk.lab' {L : List Itm} (h : FitOk L) {k : Nat} {x : Itm} (hx : L[k]? = some x) (h2 : x.kind = 2) : findV L x.name = 4 * (Lb.place L (Lb.fin L) k : Int) := by
  have hk := (List.getElem?_eq_some_iff.1 hx).1
  have hd := h.nodup hk
  unfold dupAt at hd
  rw [hx] at hd
  simp only [h2, decide_true, Bool.true_and] at hd
  have hn : Lb.named L x.name = some k := by
    have h1 : (L.take k).findIdx? (isNamed x.name) = none := by
      cases e : (L.take k).findIdx? (isNamed x.name) with
      | none => rfl
      | some q =>
        unfold namedTo at hd
        rw [e] at hd
        cases hd
    have h3 : L.drop k = x :: L.drop (k + 1) := by
      rw [List.drop_eq_getElem_cons hk]
      congr 1
      exact (List.getElem?_eq_some_iff.1 hx).2
    have hl : (L.take k).length = k := by simp; omega
    unfold Lb.named
    rw [← List.take_append_drop k L, List.findIdx?_append, h1, h3, List.findIdx?_cons, isNamed_iff.2 ⟨h2, rfl⟩, hl]
    simp
  unfold findV
  rw [if_pos h.lay, hn]
theorem FitOk.kinds {L : List Itm} (h : FitOk L) {k : Nat} {x : Itm} (hx : L[k]? = some x) : x.kind = 1 ∨ x.kind = 2 ∨ x.kind = 3 ∨ x.kind = 4 ∨ x.kind = 5 := by
  have hr := (h.right _ (List.mem_of_getElem? hx)).1
  unfold rightX at hr
  by_cases h1 : x.kind = 1
  · omega
  by_cases h2 : x.kind = 2
  · omega
  by_cases h3 : x.kind = 3
  · omega
  by_cases h4 : x.kind = 4
  · omega
  by_cases h5 : x.kind = 5
  · omega
  rw [if_neg h1, if_neg h2, if_neg h3, if_neg h4, if_neg h5] at hr
  cases hr
theorem nop_word : encV nopI = 19 := by decide +kernel
set_option maxRecDepth 100000 in
set_option maxHeartbeats 8000000 in
theorem between_law (p : Option Addr) (n c : Nat) (raw : List Itm) (w : World) (hn : raw.length = n) (hm : n ≤ 9223372036854775807) (HP : Hid (1 ≤ n → ∃ b o, p = some ⟨b, o, none⟩ ∧ ItemsAt w b o raw)) (HWF : Hid (∀ x ∈ raw, Itm.wf x)) :
    Calls Try.prog 5 #[.slice p n c] w fun e w' => e = .returned (.bool true) ∧ Both w w' := by
  have ex0 : ∀ (x y : Value) (W : World), (Instr.extract (.tuple #[x, y]) 0).run Try.prog W = .ok x W := fun x y W => by kernel_rfl
  have ex1 : ∀ (x y : Value) (W : World), (Instr.extract (.tuple #[x, y]) 1).run Try.prog W = .ok y W := fun x y W => by kernel_rfl
  have HNN := Lib.hid hn
  clear hn
  go_enter Try.func5, Try.ntmps5
  go_upto_region 3 with (first
    | (go_at_call 11; refine (awake_any _).mono ?_; rintro e w1 ⟨rfl, hb1⟩)
    | (go_at_call 12; refine (fit3_any p n c raw _ HNN.out hm (Lib.hid fun h => by obtain ⟨b, o, e, i⟩ := HP.out h; exact ⟨b, o, e, i.both hb1⟩) HWF).mono ?_; rintro e w2 ⟨B, oc, L, rfl, hit, hb2, hok, hcap, hcap2⟩))
  have hpos := hok.pos
  have hmost := hok.most
  have HOK := Lib.hid hok
  have HIT := Lib.hid hit
  have HB2 := Lib.hid (hb1.trans hb2)
  have HWL := Lib.hid hok.wf
  clear hok hit hb1 hb2
  go_upto_region 4 with (go_at_call 16; refine (asm_any B 0 oc L _ HIT hpos (by omega) HWL).mono ?_; rintro e w3 ⟨hb3, ⟨hne, rfl⟩ | ⟨h0, WB, wc, rfl, hW⟩⟩)
  · exact absurd HOK.out.lay hne
  have HIT3 := Lib.hid (HIT.out.both hb3)
  have HB3 := Lib.hid (HB2.out.trans hb3)
  have HW3 := Lib.hid hW
  clear hW h0 hb3 HIT HB2
  go_upto_region 5 with (go_at_call 14; refine (places_any B 0 oc L _ HIT3 hpos (by omega) HWL).mono ?_; rintro e w4 ⟨hb4, ⟨hne, rfl⟩ | ⟨h0, PB, rfl, hP⟩⟩)
  · exact absurd HOK.out.lay hne
  have HIT4 := Lib.hid (HIT3.out.both hb4)
  have HB4 := Lib.hid (HB3.out.trans hb4)
  have HW4 := Lib.hid (HW3.out.both hb4)
  have HPL := Lib.hid hP
  have hwl := HOK.out.words
  have HWL9' := Lib.hid hwl
  have hpe := HPL.out.2 L.length _ (sumsTo_get _ _ _ (Nat.le_refl _))
  rw [Nat.zero_add, sumAt_place _ _ _ (Nat.le_refl _), ← hwl] at hpe
  have hb9 := place_end HOK.out.size hmost (Lb.fin L) (Nat.le_refl _)
  rw [← hwl] at hb9
  generalize hWs : wordsTo L L.length = Ws at HW4 hwl hpe hb9 ⊢
  have HWS := Lib.hid hWs
  have HWL9 := Lib.hid hwl
  clear hP h0 hb4 HIT3 HB3 HW3 hWs
  have v0 : IntKind.i64.wrap ((L.length : Int) + 1) = (L.length : Int) + 1 := IntWalk.i64_in _ (by constructor <;> omega)
  have v9 : IntKind.i64.wrap (4 * (Ws.length : Int)) = 4 * (Ws.length : Int) := IntWalk.i64_in _ (by constructor <;> omega)
  have z0 : ((4 * (Ws.length : Int)) != (4 * (Ws.length : Int))) = false := by simp
  have z1 : (((L.length : Int) + 1) != ((L.length : Int) + 1)) = false := by simp
  have hLL : (L.length : Int) < (L.length : Int) + 1 := by omega
  go_wp2_with fail
  clear z0 z1 v9 hpe v0 hLL
  go_loopw [9] (fun i wr => ∃ k : Nat, k ≤ L.length ∧ i = .int .i64 k ∧ Hid (Both w4 wr)) (fun i _ => L.length - (intOf i).toNat)
  case atStart => exact ⟨0, by omega, rfl, Both.refl _⟩
  case round =>
    obtain ⟨k, hk, rfl, HB⟩ := hrel
    by_cases hlt : k < L.length
    · obtain ⟨kd, xo, xd, xa, xb, xn, xm, xs, hx⟩ := items_one (l := L) (k := k) hlt
      have HX := Lib.hid hx
      have hk' : (k : Int) < L.length := by omega
      have hkd : kd = 1 ∨ kd = 2 ∨ kd = 3 ∨ kd = 4 ∨ kd = 5 := HOK.out.kinds hx
      have hsz := instrL_sz hx (HOK.out.right _ (List.mem_of_getElem? hx)).1
      have HWQ : Hid (∀ (q : Nat) (i : Ins), (instrL L k ⟨kd, ⟨xo, xd, xa, xb, xn⟩, xs, xm⟩)[q]? = some i → Ws[Lb.place L (Lb.fin L) k + q]? = some (encV i)) := fun q i hq => by
        have := word_at HOK.out.right HX.out hq
        rw [HWS.out] at this
        exact this
      have hpk := (HPL.out.both HB.out).2 k _ (sumsTo_get _ _ _ (Nat.le_of_lt hlt))
      have hpk1 := (HPL.out.both HB.out).2 (k + 1) _ (sumsTo_get _ _ _ hlt)
      rw [Nat.zero_add, sumAt_place _ _ _ (by omega)] at hpk hpk1
      have hpl : Lb.place L (Lb.fin L) (k + 1) = Lb.place L (Lb.fin L) k + sz L (Lb.fin L) k := rfl
      have b1 := place_end HOK.out.size hmost (Lb.fin L) (Nat.le_of_lt hlt)
      have hmono := place_mono L (Lb.fin L) (show k + 1 ≤ L.length from hlt)
      have b2 := sz_fit HOK.out.size (Lb.fin L) k
      have HLF : Hid (kd = 2 → findV L xs = 4 * (Lb.place L (Lb.fin L) k : Int)) := fun h => HOK.out.lab' HX.out h
      rw [← HWL9.out, hpl] at hmono
      rw [hpl] at hpk1
      clear hpl
      generalize Lb.place L (Lb.fin L) k = pk at *
      generalize sz L (Lb.fin L) k = m at *
      obtain ⟨a, ha⟩ : ∃ a : Int, 4 * (pk : Int) = a := ⟨_, rfl⟩
      obtain ⟨a1, ha1⟩ : ∃ a : Int, 4 * ((pk + m : Nat) : Int) = a := ⟨_, rfl⟩
      obtain ⟨dm, hdm⟩ : ∃ d : Int, a1 - a = d := ⟨_, rfl⟩
      rw [ha] at hpk HLF
      rw [ha1] at hpk1
      have vq : Int.tdiv a 4 = (pk : Int) := by rw [← ha]; exact Int.mul_tdiv_cancel_left _ (by decide)
      have vw : IntKind.i64.wrap (pk : Int) = (pk : Int) := IntWalk.i64_in _ (by constructor <;> omega)
      have va : IntKind.i64.wrap (a1 - a) = dm := by rw [IntWalk.i64_in _ (by constructor <;> omega)]; exact hdm
      have vm : Int.tdiv dm 4 = (m : Int) := by rw [show dm = 4 * (m : Int) by omega]; exact Int.mul_tdiv_cancel_left _ (by decide)
      have vn : IntKind.i64.wrap (m : Int) = (m : Int) := IntWalk.i64_in _ (by constructor <;> omega)
      have hk9 : (k : Int) < (L.length : Int) + 1 := by omega
      have hk8 : (k : Int) + 1 < (L.length : Int) + 1 := by omega
      have HLT := Lib.hid hlt
      have HCE : Hid (∀ W, Both wr W → (W.cell? ⟨B, k * 8, none⟩ = some (.int .i64 kd) ∧ W.cell? ⟨B, k * 8 + 1, none⟩ = some (.int .i64 xo) ∧ W.cell? ⟨B, k * 8 + 2, none⟩ = some (.int .i64 xd) ∧ W.cell? ⟨B, k * 8 + 3, none⟩ = some (.int .i64 xa) ∧ W.cell? ⟨B, k * 8 + 4, none⟩ = some (.int .i64 xb) ∧ W.cell? ⟨B, k * 8 + 5, none⟩ = some (.int .i64 xn) ∧ W.cell? ⟨B, k * 8 + 6, none⟩ = some (.string xs) ∧ W.cell? ⟨B, k * 8 + 7, none⟩ = some (.int .i64 xm)) ∧ W.cell? ⟨PB, k, none⟩ = some (.int .i64 a)) := fun W h => by
        have h1 := (HIT4.out.both (HB.out.trans h)).get HX.out
        rw [Nat.zero_add] at h1
        exact ⟨h1, (h.cell (p := ⟨PB, k, none⟩) (HPL.out.both HB.out).1).trans hpk⟩
      have HMO := Lib.hid hmono
      have HB1 := Lib.hid b1
      have HBm := Lib.hid b2
      have HSZ := Lib.hid hsz
      clear ha ha1 hdm hmono b1 b2 hsz hlt hx hwl hb9
      go_upto_region 11 with (fail)
      go_quiet (fail)
      have HB8 := Lib.hid ((Both.refl wr).drewN nq)
      clear hpk hpk1 va vm vq vw hk9 hk8 vn
      generalize wr.drewN nq = W8 at HB8 ⊢
      obtain ⟨⟨c0, c1, c2, c3, c4, c5, c6, c7⟩, ek⟩ := HCE.out _ HB8.out
      rcases hkd with rfl | rfl | rfl | rfl | rfl
      · have hm : 1 = m := HSZ.out
        subst hm
        have hR : right ⟨xo, xd, xa, xb, xn⟩ = true := HOK.out.rest HX.out (by simp) _ (by simp [instrL])
        have hw := HWQ.out 0 ⟨xo, xd, xa, xb, xn⟩ (by simp [instrL])
        obtain ⟨z1, hz1⟩ : ∃ z, encV ⟨xo, xd, xa, xb, xn⟩ = z := ⟨_, rfl⟩
        rw [hz1] at hw
        have HR := Lib.hid hR
        have HZ1 := Lib.hid hz1
        have e9 := (HW4.out.both (HB.out.trans HB8.out)).2 pk _ hw
        rw [Nat.zero_add] at e9
        have hpw : (pk : Int) < (Ws.length : Int) := by have := HMO.out; omega
        clear hR hw hz1 c1 c2 c3 c4 c5 c6 c7 ek
        go_upto_region 15 with (go_at_call 25; refine (decl_lit HR.out HZ1.out _).mono ?_; rintro e w6 ⟨rfl, hb6⟩)
        have hI := heap_alloc_new w6 (.cells #[.int .i64 xo, .int .i64 xd, .int .i64 xa, .int .i64 xb, .int .i64 xn] 24)
        have HB9 := Lib.hid (HB8.out.trans (hb6.alloc #[.int .i64 xo, .int .i64 xd, .int .i64 xa, .int .i64 xb, .int .i64 xn] 24))
        clear e9 c0 hb6
        generalize w6.alloc (.cells #[.int .i64 xo, .int .i64 xd, .int .i64 xa, .int .i64 xb, .int .i64 xn] 24) = W9 at hI HB9 ⊢
        generalize w6.heap.size = IB at hI ⊢
        have i0 := cell_of_heap hI 0
        have i1 := cell_of_heap hI 1
        have i2 := cell_of_heap hI 2
        have i3 := cell_of_heap hI 3
        have i4 := cell_of_heap hI 4
        simp only [List.getElem?_toArray, List.getElem?_cons_zero, List.getElem?_cons_succ] at i0 i1 i2 i3 i4
        obtain ⟨⟨c0, c1, c2, c3, c4, c5, c6, c7⟩, ek⟩ := HCE.out _ HB9.out
        clear c0 c6 c7 ek hI
        go_quiet (fail)
        have HN := Lib.hid (HB.out.trans (HB9.out.trans ((Both.refl W9).drewN nq)))
        clear c1 c2 c3 c4 c5 i0 i1 i2 i3 i4
        go_wp2_with fail
        go_roundw
        case rel => exact ⟨k + 1, HLT.out, by go_num, HN.out⟩
        case measure => simp [intOf]; have := HLT.out; omega
      · have hm : 0 = m := HSZ.out
        subst hm
        have hf := HLF.out rfl
        have HF := Lib.hid hf
        have HFC : Hid (∀ W, Both wr W → Calls Try.prog 19 #[.slice (some ⟨B, 0, none⟩) L.length oc, .string xs] W fun e w' => e = .returned (.int .i64 a) ∧ Both W w') := fun W h => by
          have h1 := find_any B 0 oc L xs W (Lib.hid (HIT4.out.both (HB.out.trans h))) hpos (by omega) HWL
          rw [HF.out] at h1
          exact h1
        have za : (a != a) = false := by simp
        clear hf c1 c2 c3 c4 c5 c7
        have hk9 : (k : Int) < (L.length : Int) + 1 := by omega
        go_upto_region 18 with (fail)
        clear c0
        have HKEEP : Hid (∀ W, Both W8 W → W.cell? ⟨B, k * 8 + 6, none⟩ = some (.string xs) ∧ W.cell? ⟨PB, k, none⟩ = some (.int .i64 a)) := fun W h => by
          obtain ⟨⟨c0, c1, c2, c3, c4, c5, c6, c7⟩, ek⟩ := HCE.out _ (HB8.out.trans h)
          exact ⟨c6, ek⟩
        go_region_held3 (fun w' => w'.cell? ⟨B, k * 8 + 6, none⟩ = some (.string xs) ∧ w'.cell? ⟨PB, k, none⟩ = some (.int .i64 a))
          (first | exact HKEEP.out _ ((Both.refl _).drew.trans hb6) | exact HKEEP.out _ (Both.refl _).drew)
          ((go_at_call 19; refine (HFC.out _ (HB8.out.trans (Both.refl _).drew)).mono ?_; rintro e w6 ⟨rfl, hb6⟩))
        all_goals
          have HN := Lib.hid (HB.out.trans (HB8.out.trans ((Both.refl _).drew.trans hb6)))
          clear hb6 c6 ek HFC HKEEP za
          go_wp2_with fail
          go_roundw
          case rel => exact ⟨k + 1, HLT.out, by go_num, HN.out⟩
          case measure => simp [intOf]; have := HLT.out; omega
      · clear c1 c2 c3 c4 c5 c6 c7 ek
        have HN := Lib.hid (HB.out.trans HB8.out)
        go_wp2_with fail
        go_roundw
        case rel => exact ⟨k + 1, HLT.out, by go_num, HN.out⟩
        case measure => simp [intOf]; have := HLT.out; omega
      · obtain ⟨l, hl⟩ : ∃ l, number xd xm = l := ⟨_, rfl⟩
        have hm : (number xd xm).length = m := HSZ.out
        rw [hl] at hm
        subst hm
        have HL := Lib.hid hl
        have HRI : Hid (∀ i ∈ l, right i = true) := fun i hi => HOK.out.rest HX.out (by simp) i (by simp [instrL, HL.out, hi])
        have HWN : Hid (∀ q i, l[q]? = some i → Ws[pk + q]? = some (encV i)) := fun q i hq => HWQ.out q i (by simp [instrL, HL.out, hq])
        have zm : ((l.length : Int) != (l.length : Int)) = false := by simp
        clear hl c1 c3 c4 c5 c6 ek
        go_upto_region 29 with (fail)
        clear c0
        have HKEEP : Hid (∀ W, Both W8 W → W.cell? ⟨B, k * 8 + 2, none⟩ = some (.int .i64 xd) ∧ W.cell? ⟨B, k * 8 + 7, none⟩ = some (.int .i64 xm)) := fun W h => by
          obtain ⟨⟨c0, c1, c2, c3, c4, c5, c6, c7⟩, ek⟩ := HCE.out _ (HB8.out.trans h)
          exact ⟨c2, c7⟩
        go_region_held3 (fun w' => w'.cell? ⟨B, k * 8 + 2, none⟩ = some (.int .i64 xd) ∧ w'.cell? ⟨B, k * 8 + 7, none⟩ = some (.int .i64 xm))
          (first | exact HKEEP.out _ ((Both.refl _).drew.trans hb6) | exact HKEEP.out _ (Both.refl _).drew)
          ((go_at_call 21; refine (number_lit HL.out _).mono ?_; rintro e w6 ⟨P, pc, rfl, hat, hb6, _⟩))
        all_goals
          have HB6 := Lib.hid (HB8.out.trans ((Both.refl _).drew.trans hb6))
          have HAT := Lib.hid hat
          clear hb6 hat c2 c7 HKEEP
          go_wp2_with fail
          clear zm
          go_loopw [16] (fun i ws => ∃ j : Nat, j ≤ l.length ∧ i = .int .i64 j ∧ Hid (Both w6 ws)) (fun i _ => l.length - (intOf i).toNat)
          case atStart => exact ⟨0, by omega, rfl, Both.refl _⟩
          case round =>
            obtain ⟨j, hj, rfl, HC⟩ := hrel
            by_cases hlt2 : j < l.length
            · obtain ⟨⟨io, jd, ia, ib, im⟩, hij⟩ : ∃ i, l[j]? = some i := ⟨_, List.getElem?_eq_getElem hlt2⟩
              obtain ⟨b, o, rfl, hbl, hcs⟩ := (HAT.out.both HC.out) j _ hij
              have HIC := Lib.hid (show ∀ W, Both _ W → _ from fun W h => And.intro ((h.cell (p := ⟨b, o + j * 5 + 0, none⟩) hbl).trans (hcs 0 _ rfl)) (And.intro ((h.cell (p := ⟨b, o + j * 5 + 1, none⟩) hbl).trans (hcs 1 _ rfl)) (And.intro ((h.cell (p := ⟨b, o + j * 5 + 2, none⟩) hbl).trans (hcs 2 _ rfl)) (And.intro ((h.cell (p := ⟨b, o + j * 5 + 3, none⟩) hbl).trans (hcs 3 _ rfl)) ((h.cell (p := ⟨b, o + j * 5 + 4, none⟩) hbl).trans (hcs 4 _ rfl))))))
              have hR := HRI.out _ (List.mem_of_getElem? hij)
              have hw := HWN.out j _ hij
              obtain ⟨z1, hz1⟩ : ∃ z, encV ⟨io, jd, ia, ib, im⟩ = z := ⟨_, rfl⟩
              rw [hz1] at hw
              have HR := Lib.hid hR
              have HZ1 := Lib.hid hz1
              have e9 := (HW4.out.both (HB.out.trans (HB6.out.trans HC.out))).2 (pk + j) _ hw
              rw [Nat.zero_add] at e9
              have hj' : (j : Int) < (l.length : Int) := by omega
              have HJ := Lib.hid hlt2
              have hpw : (pk : Int) + (j : Int) < (Ws.length : Int) := by have := HMO.out; omega
              have hpw0 : 0 ≤ (pk : Int) + (j : Int) := by omega
              have vj : IntKind.i64.wrap ((j : Int) + 1) = (j : Int) + 1 := by have := HBm.out; exact IntWalk.i64_in _ (by constructor <;> omega)
              have vs : IntKind.i64.wrap ((pk : Int) + (j : Int)) = (pk : Int) + (j : Int) := by have := HB1.out; have := HBm.out; exact IntWalk.i64_in _ (by constructor <;> omega)
              clear hR hw hz1 hcs hbl hij hlt2
              go_upto_region 36 with (go_at_call 25; refine (decl_lit HR.out HZ1.out _).mono ?_; rintro e w7 ⟨rfl, hb7⟩)
              have hI := heap_alloc_new w7 (.cells #[.int .i64 io, .int .i64 jd, .int .i64 ia, .int .i64 ib, .int .i64 im] 24)
              have HB9 := Lib.hid (hb7.alloc #[.int .i64 io, .int .i64 jd, .int .i64 ia, .int .i64 ib, .int .i64 im] 24)
              clear e9 hb7
              generalize w7.alloc (.cells #[.int .i64 io, .int .i64 jd, .int .i64 ia, .int .i64 ib, .int .i64 im] 24) = W9 at hI HB9 ⊢
              generalize w7.heap.size = IB at hI ⊢
              have i0 := cell_of_heap hI 0
              have i1 := cell_of_heap hI 1
              have i2 := cell_of_heap hI 2
              have i3 := cell_of_heap hI 3
              have i4 := cell_of_heap hI 4
              simp only [List.getElem?_toArray, List.getElem?_cons_zero, List.getElem?_cons_succ] at i0 i1 i2 i3 i4
              obtain ⟨f0, f1, f2, f3, f4⟩ := HIC.out _ HB9.out
              rw [Nat.add_zero] at f0
              clear hI
              go_quiet (fail)
              have HN := Lib.hid (HC.out.trans (HB9.out.trans ((Both.refl W9).drewN nq)))
              clear f0 f1 f2 f3 f4 i0 i1 i2 i3 i4
              go_wp2_with fail
              go_roundw
              case rel => exact ⟨j + 1, HJ.out, by go_num, HN.out⟩
              case measure => simp [intOf]; have := HJ.out; omega
            · obtain rfl : j = l.length := by omega
              have HN := Lib.hid (HB.out.trans (HB6.out.trans HC.out))
              go_wp2_with fail
              go_roundw
              case rel => exact ⟨k + 1, HLT.out, by go_num, HN.out⟩
              case measure => simp [intOf]; have := HLT.out; omega
      · have hm : (List.replicate xm.toNat nopI).length = m := HSZ.out
        rw [List.length_replicate] at hm
        have hr := (HOK.out.right _ (List.mem_of_getElem? HX.out)).1
        unfold rightX at hr
        simp at hr
        have hxm : xm = (m : Int) := by omega
        subst hxm
        clear hr hm
        have HWN : Hid (∀ q, q < m → Ws[pk + q]? = some 19) := fun q hq => by
          have := HWQ.out q nopI (by simp [instrL, hq])
          rw [nop_word] at this
          exact this
        have zm : ((m : Int) != (m : Int)) = false := by simp
        clear c1 c2 c3 c4 c5 c6 ek
        go_wp2_with fail
        clear zm c7 c0
        go_loopw [14] (fun i ws => ∃ j : Nat, j ≤ m ∧ i = .int .i64 j ∧ Hid (Both wr ws)) (fun i _ => m - (intOf i).toNat)
        case atStart => exact ⟨0, by omega, rfl, HB8.out⟩
        case round =>
          obtain ⟨j, hj, rfl, HC⟩ := hrel
          by_cases hlt2 : j < m
          · have e9 := (HW4.out.both (HB.out.trans HC.out)).2 (pk + j) _ (HWN.out j hlt2)
            rw [Nat.zero_add] at e9
            have hj' : (j : Int) < (m : Int) := by omega
            have HJ := Lib.hid hlt2
            have hpw : (pk : Int) + (j : Int) < (Ws.length : Int) := by have := HMO.out; omega
            have hpw0 : 0 ≤ (pk : Int) + (j : Int) := by omega
            have vj : IntKind.i64.wrap ((j : Int) + 1) = (j : Int) + 1 := by have := HBm.out; exact IntWalk.i64_in _ (by constructor <;> omega)
            have vs : IntKind.i64.wrap ((pk : Int) + (j : Int)) = (pk : Int) + (j : Int) := by have := HB1.out; have := HBm.out; exact IntWalk.i64_in _ (by constructor <;> omega)
            go_wp2_with fail
            go_roundw
            case rel => exact ⟨j + 1, HJ.out, by go_num, HC.out⟩
            case measure => simp [intOf]; have := HJ.out; omega
          · obtain rfl : j = m := by omega
            have HN := Lib.hid (HB.out.trans HC.out)
            go_wp2_with fail
            go_roundw
            case rel => exact ⟨k + 1, HLT.out, by go_num, HN.out⟩
            case measure => simp [intOf]; have := HLT.out; omega
    · obtain rfl : k = L.length := by omega
      go_wp2_with fail
      go_ret
      exact ⟨rfl, HB4.out.trans HB.out⟩
end Go.Proofs.Ytjjbfeoidceiiaa
