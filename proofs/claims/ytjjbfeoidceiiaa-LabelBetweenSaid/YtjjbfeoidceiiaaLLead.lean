/- LabelLeads' walk. -/
import Derived.Test.YtjjbfeoidceiiaaLLeadP
import Derived.Test.YtjjbfeoidceiiaaDDec
namespace Go.Proofs.Ytjjbfeoidceiiaa
open Go.RowKit Rv Lb
set_option linter.unusedVariables false
theorem inInt_enc {i : Ins} (h : right i = true) : inInt (encV i) := by
  have h1 := enc_bd h
  unfold encV
  rw [h]
  exact ⟨by simp only [if_true]; omega, by simp only [if_true]; omega⟩
/-- Decode, of a word that a right instruction has -/
theorem decl_lit {o d a b n z : Int} (h : right ⟨o, d, a, b, n⟩ = true) (hz : encV ⟨o, d, a, b, n⟩ = z) (w : World) : Calls Try.prog 25 #[.int .i64 z] w fun e w' => e = .returned (.tuple #[.agg #[.int .i64 o, .int .i64 d, .int .i64 a, .int .i64 b, .int .i64 n], .int .i64 0]) ∧ Both w w' := by
  have h1 := decode_is (encV ⟨o, d, a, b, n⟩) w (inInt_enc h)
  obtain ⟨h2, h3⟩ := dec_encV h
  rw [h2, h3] at h1
  rw [← hz]
  exact h1
theorem isB_long {L : List Itm} {g : Nat → Bool} {k : Nat} {o d a b n m : Int} {s : ByteArray} (hx : L[k]? = some ⟨3, ⟨o, d, a, b, n⟩, s, m⟩) (h : sz L g k ≠ 1) : isB o = true := by
  unfold sz at h
  rw [hx] at h
  simp only at h
  cases e : isBr ⟨3, ⟨o, d, a, b, n⟩, s, m⟩ with
  | false =>
    rw [e] at h
    simp [size1] at h
  | true =>
    unfold isBr at e
    simpa using e
theorem opposite3 {op o : Int} (hB : isB op = true) (h : opp op = o) (w : World) : Calls Try.prog 26 #[.int .i64 op] w fun e w' => e = .returned (.int .i64 o) ∧ w = w' := by
  subst h
  unfold isB at hB
  rw [decide_eq_true_eq] at hB
  have h6 : op = 5 ∨ op = 6 ∨ op = 7 ∨ op = 8 ∨ op = 9 ∨ op = 10 := by omega
  clear hB
  rcases h6 with rfl | rfl | rfl | rfl | rfl | rfl
  all_goals
    go_enter Try.func26, Try.ntmps26
    go_wp2
    go_ret
    exact ⟨rfl, rfl⟩
set_option maxRecDepth 100000 in
set_option maxHeartbeats 4000000 in
theorem leads_law (p : Option Addr) (n c : Nat) (raw : List Itm) (w : World) (hn : raw.length = n) (hm : n ≤ 9223372036854775807) (HP : Hid (1 ≤ n → ∃ b o, p = some ⟨b, o, none⟩ ∧ ItemsAt w b o raw)) (HWF : Hid (∀ x ∈ raw, Itm.wf x)) :
    Calls Try.prog 4 #[.slice p n c] w fun e w' => e = .returned (.bool true) ∧ Both w w' := by
  have ex0 : ∀ (x y : Value) (W : World), (Instr.extract (.tuple #[x, y]) 0).run Try.prog W = .ok x W := fun x y W => by kernel_rfl
  have ex1 : ∀ (x y : Value) (W : World), (Instr.extract (.tuple #[x, y]) 1).run Try.prog W = .ok y W := fun x y W => by kernel_rfl
  have HNN := Lib.hid hn
  clear hn
  go_enter Try.func4, Try.ntmps4
  go_upto_region 3 with (first
    | (go_at_call 11; refine (awake_any _).mono ?_; rintro e w1 ⟨rfl, hb1⟩)
    | (go_at_call 12; refine (fit3_any p n c raw _ HNN.out hm (Lib.hid fun h => by obtain ⟨b, o, e, i⟩ := HP.out h; exact ⟨b, o, e, i.both hb1⟩) HWF).mono ?_; rintro e w2 ⟨B, oc, L, rfl, hit, hb2, hok, hcap, hcap2⟩))
  have hpos := hok.pos
  have hmost := hok.most
  have HOK := Lib.hid hok
  have HIT := Lib.hid hit
  have HB2 := Lib.hid (hb1.trans hb2)
  have HWL := Lib.hid hok.wf
  clear hok hit hb1 hb2
  go_upto_region 4 with (go_at_call 16; refine (asm_any B 0 oc L _ HIT hpos (by omega) HWL).mono ?_; rintro e w3 ⟨hb3, ⟨hne, rfl⟩ | ⟨h0, WB, wc, rfl, hW⟩⟩)
  · exact absurd HOK.out.lay hne
  have HIT3 := Lib.hid (HIT.out.both hb3)
  have HB3 := Lib.hid (HB2.out.trans hb3)
  have HW3 := Lib.hid hW
  clear hW h0 hb3 HIT HB2
  go_upto_region 5 with (go_at_call 14; refine (places_any B 0 oc L _ HIT3 hpos (by omega) HWL).mono ?_; rintro e w4 ⟨hb4, ⟨hne, rfl⟩ | ⟨h0, PB, rfl, hP⟩⟩)
  · exact absurd HOK.out.lay hne
  have HIT4 := Lib.hid (HIT3.out.both hb4)
  have HB4 := Lib.hid (HB3.out.trans hb4)
  have HW4 := Lib.hid (HW3.out.both hb4)
  have HPL := Lib.hid hP
  have hwl := HOK.out.words
  have HWL9' := Lib.hid hwl
  have hpe := HPL.out.2 L.length _ (sumsTo_get _ _ _ (Nat.le_refl _))
  rw [Nat.zero_add, sumAt_place _ _ _ (Nat.le_refl _), ← hwl] at hpe
  have hb9 := place_end HOK.out.size hmost (Lb.fin L) (Nat.le_refl _)
  rw [← hwl] at hb9
  generalize hWs : wordsTo L L.length = Ws at HW4 hwl hpe hb9 ⊢
  have HWS := Lib.hid hWs
  have HWL9 := Lib.hid hwl
  clear hP h0 hb4 HIT3 HB3 HW3 hWs
  have v0 : IntKind.i64.wrap ((L.length : Int) + 1) = (L.length : Int) + 1 := IntWalk.i64_in _ (by constructor <;> omega)
  have v9 : IntKind.i64.wrap (4 * (Ws.length : Int)) = 4 * (Ws.length : Int) := IntWalk.i64_in _ (by constructor <;> omega)
  have z0 : ((4 * (Ws.length : Int)) != (4 * (Ws.length : Int))) = false := by simp
  have z1 : (((L.length : Int) + 1) != ((L.length : Int) + 1)) = false := by simp
  have hLL : (L.length : Int) < (L.length : Int) + 1 := by omega
  go_wp2_with fail
  clear z0 z1 v9 hpe v0 hLL
  go_loopw [9] (fun i wr => ∃ k : Nat, k ≤ L.length ∧ i = .int .i64 k ∧ Hid (Both w4 wr)) (fun i _ => L.length - (intOf i).toNat)
  case atStart => exact ⟨0, by omega, rfl, Both.refl _⟩
  case round =>
    obtain ⟨k, hk, rfl, HB⟩ := hrel
    by_cases hlt : k < L.length
    · obtain ⟨kd, xo, xd, xa, xb, xn, xm, xs, hx⟩ := items_one (l := L) (k := k) hlt
      obtain ⟨c0, c1, c2, c3, c4, c5, c6, c7⟩ := (HIT4.out.both HB.out).get hx
      rw [Nat.zero_add] at c0 c1 c2 c3 c4 c5 c6
      have HX := Lib.hid hx
      have hk' : (k : Int) < L.length := by omega
      clear c7 hx
      cases h3 : (kd != 3) with
      | true =>
        go_wp2_with fail
        go_roundw
        case rel => exact ⟨k + 1, by omega, by go_num, HB.out⟩
        case measure => simp [intOf]; omega
      | false =>
        obtain rfl : kd = 3 := by simpa using h3
        obtain ⟨rfl, rfl, hld⟩ := HOK.out.leads HX.out
        have hfd := HOK.out.find HX.out rfl
        simp only at hfd
        have hpk := (HPL.out.both HB.out).2 k _ (sumsTo_get _ _ _ (Nat.le_of_lt hlt))
        have hpk1 := (HPL.out.both HB.out).2 (k + 1) _ (sumsTo_get _ _ _ hlt)
        rw [Nat.zero_add, sumAt_place _ _ _ (by omega)] at hpk hpk1
        have hsz : Lb.place L (Lb.fin L) (k + 1) = Lb.place L (Lb.fin L) k + sz L (Lb.fin L) k := rfl
        have b1 := place_end HOK.out.size hmost (Lb.fin L) (Nat.le_of_lt hlt)
        have b4 := place_end HOK.out.size hmost (Lb.fin L) (Nat.le_of_lt (to_lt hpos k hlt))
        have hby := hld.by'
        have hmono := place_mono L (Lb.fin L) (show k + 1 ≤ L.length from hlt)
        rw [← HWL9.out] at hmono
        by_cases hs1 : sz L (Lb.fin L) k = 1
        · have hR := hld.short hs1
          have hw := HOK.out.lead1 HX.out hs1
          rw [HWS.out] at hw
          rw [hs1] at hsz
          rw [hsz] at hpk1 hmono
          generalize Lb.place L (Lb.fin L) (to L k) = pt at hfd hby b4
          generalize Lb.place L (Lb.fin L) k = pk at *
          generalize byOf L k = bz at hR hw hby
          obtain ⟨z1, hz1⟩ : ∃ z, encV ⟨xo, xd, xa, xb, bz⟩ = z := ⟨_, rfl⟩
          rw [hz1] at hw
          have HR := Lib.hid hR
          have HZ1 := Lib.hid hz1
          obtain ⟨a, ha⟩ : ∃ a : Int, 4 * (pk : Int) = a := ⟨_, rfl⟩
          obtain ⟨f, hf⟩ : ∃ a : Int, 4 * (pt : Int) = a := ⟨_, rfl⟩
          have ha8 : 4 * ((pk + 1 : Nat) : Int) = a + 4 := by omega
          rw [ha] at hpk hby
          rw [ha8] at hpk1
          rw [hf] at hfd hby
          have HFD := Lib.hid hfd
          have e9 := (HW4.out.both HB.out).2 pk _ hw
          rw [Nat.zero_add] at e9
          have hpw : (pk : Int) < (Ws.length : Int) := by omega
          have vq : Int.tdiv a 4 = (pk : Int) := by rw [← ha]; exact Int.mul_tdiv_cancel_left _ (by decide)
          have vw : IntKind.i64.wrap (pk : Int) = (pk : Int) := IntWalk.i64_in _ (by constructor <;> omega)
          have va : IntKind.i64.wrap (a + 4) = a + 4 := IntWalk.i64_in _ (by constructor <;> omega)
          have vf : IntKind.i64.wrap (a + bz) = f := by rw [IntWalk.i64_in _ (by constructor <;> omega)]; omega
          have hk9 : (k : Int) < (L.length : Int) + 1 := by omega
          have hk8 : (k : Int) + 1 < (L.length : Int) + 1 := by omega
          have HLT := Lib.hid hlt
          have HFC : Hid (∀ W, Both w4 W → Calls Try.prog 19 #[.slice (some ⟨B, 0, none⟩) L.length oc, .string xs] W fun e w' => e = .returned (.int .i64 f) ∧ Both W w') := fun W h => by
            have h1 := find_any B 0 oc L xs W (Lib.hid (HIT4.out.both h)) hpos (by omega) HWL
            rw [HFD.out] at h1
            exact h1
          have HCE : Hid (∀ W, Both wr W → (W.cell? ⟨B, k * 8 + 1, none⟩ = some (.int .i64 xo) ∧ W.cell? ⟨B, k * 8 + 2, none⟩ = some (.int .i64 xd) ∧ W.cell? ⟨B, k * 8 + 3, none⟩ = some (.int .i64 xa) ∧ W.cell? ⟨B, k * 8 + 4, none⟩ = some (.int .i64 xb)) ∧ W.cell? ⟨PB, k, none⟩ = some (.int .i64 a) ∧ W.cell? ⟨PB, k + 1, none⟩ = some (.int .i64 (a + 4)) ∧ W.cell? ⟨WB, pk, none⟩ = some (.int .i64 z1)) := fun W h =>
            have hB := (HIT4.out.both HB.out).1
            have hPB := (HPL.out.both HB.out).1
            have hWB := (HW4.out.both HB.out).1
            ⟨⟨(h.cell (p := ⟨B, k * 8 + 1, none⟩) hB).trans c1, (h.cell (p := ⟨B, k * 8 + 2, none⟩) hB).trans c2, (h.cell (p := ⟨B, k * 8 + 3, none⟩) hB).trans c3, (h.cell (p := ⟨B, k * 8 + 4, none⟩) hB).trans c4⟩,
              (h.cell (p := ⟨PB, k, none⟩) hPB).trans hpk, (h.cell (p := ⟨PB, k + 1, none⟩) hPB).trans hpk1, (h.cell (p := ⟨WB, pk, none⟩) hWB).trans e9⟩
          clear hR hw hby hz1 ha ha8 hf hfd hsz hs1 b1 b4 hmono hld hwl hb9 c1 c2 c3 c4 c5 hpk1 hlt e9 hpk
          go_upto_region 12 with (go_at_call 19; refine (HFC.out _ HB.out).mono ?_; rintro e w5 ⟨rfl, hb5⟩)
          obtain ⟨⟨c1, c2, c3, c4⟩, ek, ek1, ew⟩ := HCE.out _ hb5
          clear c0 c6
          go_upto_region 14 with (go_at_call 25; refine (decl_lit HR.out HZ1.out _).mono ?_; rintro e w6 ⟨rfl, hb6⟩)
          have hI := heap_alloc_new w6 (.cells #[.int .i64 xo, .int .i64 xd, .int .i64 xa, .int .i64 xb, .int .i64 bz] 24)
          have HB7 := Lib.hid ((hb5.trans hb6).alloc #[.int .i64 xo, .int .i64 xd, .int .i64 xa, .int .i64 xb, .int .i64 bz] 24)
          clear c1 c2 c3 c4 ek ek1 ew
          generalize w6.alloc (.cells #[.int .i64 xo, .int .i64 xd, .int .i64 xa, .int .i64 xb, .int .i64 bz] 24) = W7 at hI HB7 ⊢
          generalize w6.heap.size = IB at hI ⊢
          have HIC : Hid (∀ W, Both W7 W → W.cell? ⟨IB, 0, none⟩ = some (.int .i64 xo) ∧ W.cell? ⟨IB, 1, none⟩ = some (.int .i64 xd) ∧ W.cell? ⟨IB, 2, none⟩ = some (.int .i64 xa) ∧ W.cell? ⟨IB, 3, none⟩ = some (.int .i64 xb) ∧ W.cell? ⟨IB, 4, none⟩ = some (.int .i64 bz)) := fun W h =>
            have hY := (h.1.block IB (lt_of_heap hI)).trans hI
            ⟨cell_of_heap hY 0, cell_of_heap hY 1, cell_of_heap hY 2, cell_of_heap hY 3, cell_of_heap hY 4⟩
          obtain ⟨⟨c1, c2, c3, c4⟩, ek, ek1, ew⟩ := HCE.out _ HB7.out
          obtain ⟨i0, i1, i2, i3, i4⟩ := HIC.out _ (Both.refl _)
          have zd : (xd != xd) = false := by simp
          have za : (xa != xa) = false := by simp
          have zb : (xb != xb) = false := by simp
          clear hI hb5 hb6 c1 ek ek1 ew i0 i4
          go_quiet (fail)
          have HB8 := Lib.hid ((Both.refl W7).drewN nq)
          clear c2 c3 c4 i1 i2 i3 zd za zb
          generalize W7.drewN nq = W8 at HB8 ⊢
          obtain ⟨⟨c1, c2, c3, c4⟩, ek, ek1, ew⟩ := HCE.out _ (HB7.out.trans HB8.out)
          clear c1 c2 c3 c4 ew
          have z16 : ((a + 4) == (a + 4)) = true := by simp
          go_upto_region 16 with (fail)
          go_quiet (fail)
          have HB9 := Lib.hid (HB8.out.trans ((Both.refl W8).drewN nq))
          clear ek ek1 z16
          generalize W8.drewN nq = W9 at HB9 ⊢
          obtain ⟨⟨c1, c2, c3, c4⟩, ek, ek1, ew⟩ := HCE.out _ (HB7.out.trans HB9.out)
          obtain ⟨i0, i1, i2, i3, i4⟩ := HIC.out _ HB9.out
          clear c2 c3 c4 ew i1 i2 i3 ek1
          have zo : (xo != xo) = false := by simp
          have zf : (f != f) = false := by simp
          go_upto_region 17 with (fail)
          go_quiet (fail)
          have HN := Lib.hid (HB.out.trans (HB7.out.trans (HB9.out.trans ((Both.refl W9).drewN nq))))
          clear c1 ek i0 i4 zo zf
          go_wp2_with fail
          go_roundw
          case rel => exact ⟨k + 1, HLT.out, by go_num, HN.out⟩
          case measure => simp [intOf]; have := HLT.out; omega
        · obtain ⟨hs2, hR, hR2⟩ := hld.long hs1
          obtain ⟨hw, hw2⟩ := HOK.out.lead2 HX.out hs1
          have HBO := Lib.hid (isB_long HX.out hs1)
          rw [HWS.out] at hw hw2
          rw [hs2] at hsz
          rw [hsz] at hpk1 hmono
          generalize Lb.place L (Lb.fin L) (to L k) = pt at hfd hby b4
          generalize Lb.place L (Lb.fin L) k = pk at *
          obtain ⟨ox, hox⟩ : ∃ o, opp xo = o := ⟨_, rfl⟩
          have HOX := Lib.hid hox
          rw [hox] at hR hw
          clear hox
          obtain ⟨bn, hbn⟩ : ∃ b, byOf L k - 4 = b := ⟨_, rfl⟩
          rw [hbn] at hR2 hw2
          generalize byOf L k = bz at hbn hby
          obtain ⟨z1, hz1⟩ : ∃ z, encV ⟨ox, xd, xa, xb, 8⟩ = z := ⟨_, rfl⟩
          rw [hz1] at hw
          obtain ⟨z2, hz2⟩ : ∃ z, encV ⟨3, 0, 0, 0, bn⟩ = z := ⟨_, rfl⟩
          rw [hz2] at hw2
          have HR2 := Lib.hid hR2
          have HZ2 := Lib.hid hz2
          have HR := Lib.hid hR
          have HZ1 := Lib.hid hz1
          obtain ⟨a, ha⟩ : ∃ a : Int, 4 * (pk : Int) = a := ⟨_, rfl⟩
          obtain ⟨f, hf⟩ : ∃ a : Int, 4 * (pt : Int) = a := ⟨_, rfl⟩
          have ha8 : 4 * ((pk + 2 : Nat) : Int) = a + 8 := by omega
          rw [ha] at hpk hby
          rw [ha8] at hpk1
          rw [hf] at hfd hby
          have HFD := Lib.hid hfd
          have e9 := (HW4.out.both HB.out).2 pk _ hw
          have e10 := (HW4.out.both HB.out).2 (pk + 1) _ hw2
          rw [Nat.zero_add] at e9 e10
          have hpw : (pk : Int) < (Ws.length : Int) := by omega
          have hpw1 : (pk : Int) + 1 < (Ws.length : Int) := by omega
          have vk1 : IntKind.i64.wrap ((pk : Int) + 1) = (pk : Int) + 1 := IntWalk.i64_in _ (by constructor <;> omega)
          have va8 : IntKind.i64.wrap (a + 8) = a + 8 := IntWalk.i64_in _ (by constructor <;> omega)
          have vq : Int.tdiv a 4 = (pk : Int) := by rw [← ha]; exact Int.mul_tdiv_cancel_left _ (by decide)
          have vw : IntKind.i64.wrap (pk : Int) = (pk : Int) := IntWalk.i64_in _ (by constructor <;> omega)
          have va : IntKind.i64.wrap (a + 4) = a + 4 := IntWalk.i64_in _ (by constructor <;> omega)
          have vf : IntKind.i64.wrap (a + 4 + bn) = f := by rw [IntWalk.i64_in _ (by constructor <;> omega)]; omega
          have hk9 : (k : Int) < (L.length : Int) + 1 := by omega
          have hk8 : (k : Int) + 1 < (L.length : Int) + 1 := by omega
          have HLT := Lib.hid hlt
          have HFC : Hid (∀ W, Both w4 W → Calls Try.prog 19 #[.slice (some ⟨B, 0, none⟩) L.length oc, .string xs] W fun e w' => e = .returned (.int .i64 f) ∧ Both W w') := fun W h => by
            have h1 := find_any B 0 oc L xs W (Lib.hid (HIT4.out.both h)) hpos (by omega) HWL
            rw [HFD.out] at h1
            exact h1
          have HCE : Hid (∀ W, Both wr W → (W.cell? ⟨B, k * 8 + 1, none⟩ = some (.int .i64 xo) ∧ W.cell? ⟨B, k * 8 + 2, none⟩ = some (.int .i64 xd) ∧ W.cell? ⟨B, k * 8 + 3, none⟩ = some (.int .i64 xa) ∧ W.cell? ⟨B, k * 8 + 4, none⟩ = some (.int .i64 xb)) ∧ W.cell? ⟨PB, k, none⟩ = some (.int .i64 a) ∧ W.cell? ⟨PB, k + 1, none⟩ = some (.int .i64 (a + 8)) ∧ W.cell? ⟨WB, pk, none⟩ = some (.int .i64 z1) ∧ W.cell? ⟨WB, pk + 1, none⟩ = some (.int .i64 z2)) := fun W h =>
            have hB := (HIT4.out.both HB.out).1
            have hPB := (HPL.out.both HB.out).1
            have hWB := (HW4.out.both HB.out).1
            ⟨⟨(h.cell (p := ⟨B, k * 8 + 1, none⟩) hB).trans c1, (h.cell (p := ⟨B, k * 8 + 2, none⟩) hB).trans c2, (h.cell (p := ⟨B, k * 8 + 3, none⟩) hB).trans c3, (h.cell (p := ⟨B, k * 8 + 4, none⟩) hB).trans c4⟩,
              (h.cell (p := ⟨PB, k, none⟩) hPB).trans hpk, (h.cell (p := ⟨PB, k + 1, none⟩) hPB).trans hpk1, (h.cell (p := ⟨WB, pk, none⟩) hWB).trans e9, (h.cell (p := ⟨WB, pk + 1, none⟩) hWB).trans e10⟩
          clear hR hR2 hw hw2 hby hbn hz1 hz2 e10 hs2 ha ha8 hf hfd hsz hs1 b1 b4 hmono hld hwl hb9 c1 c2 c3 c4 c5 hpk1 hlt e9 hpk
          go_upto_region 12 with (go_at_call 19; refine (HFC.out _ HB.out).mono ?_; rintro e w5 ⟨rfl, hb5⟩)
          obtain ⟨⟨c1, c2, c3, c4⟩, ek, ek1, ew, ew1⟩ := HCE.out _ hb5
          clear c0 c6
          go_upto_region 14 with (go_at_call 25; refine (decl_lit HR.out HZ1.out _).mono ?_; rintro e w6 ⟨rfl, hb6⟩)
          have hI := heap_alloc_new w6 (.cells #[.int .i64 ox, .int .i64 xd, .int .i64 xa, .int .i64 xb, .int .i64 8] 24)
          have HB7 := Lib.hid ((hb5.trans hb6).alloc #[.int .i64 ox, .int .i64 xd, .int .i64 xa, .int .i64 xb, .int .i64 8] 24)
          clear c1 c2 c3 c4 ek ek1 ew ew1
          generalize w6.alloc (.cells #[.int .i64 ox, .int .i64 xd, .int .i64 xa, .int .i64 xb, .int .i64 8] 24) = W7 at hI HB7 ⊢
          generalize w6.heap.size = IB at hI ⊢
          have HIC : Hid (∀ W, Both W7 W → W.cell? ⟨IB, 0, none⟩ = some (.int .i64 ox) ∧ W.cell? ⟨IB, 1, none⟩ = some (.int .i64 xd) ∧ W.cell? ⟨IB, 2, none⟩ = some (.int .i64 xa) ∧ W.cell? ⟨IB, 3, none⟩ = some (.int .i64 xb) ∧ W.cell? ⟨IB, 4, none⟩ = some (.int .i64 8)) := fun W h =>
            have hY := (h.1.block IB (lt_of_heap hI)).trans hI
            ⟨cell_of_heap hY 0, cell_of_heap hY 1, cell_of_heap hY 2, cell_of_heap hY 3, cell_of_heap hY 4⟩
          obtain ⟨⟨c1, c2, c3, c4⟩, ek, ek1, ew, ew1⟩ := HCE.out _ HB7.out
          obtain ⟨i0, i1, i2, i3, i4⟩ := HIC.out _ (Both.refl _)
          have zd : (xd != xd) = false := by simp
          have za : (xa != xa) = false := by simp
          have zb : (xb != xb) = false := by simp
          clear hI hb5 hb6 c1 ek ek1 ew ew1 i0 i4
          go_quiet (fail)
          have HB8 := Lib.hid ((Both.refl W7).drewN nq)
          clear c2 c3 c4 i1 i2 i3 zd za zb
          generalize W7.drewN nq = W8 at HB8 ⊢
          obtain ⟨⟨c1, c2, c3, c4⟩, ek, ek1, ew, ew1⟩ := HCE.out _ (HB7.out.trans HB8.out)
          clear c1 c2 c3 c4 ew ew1
          have z16 : ((a + 8) == (a + 4)) = false := by simp
          go_upto_region 16 with (fail)
          go_quiet (fail)
          have HB9 := Lib.hid (HB8.out.trans ((Both.refl W8).drewN nq))
          clear ek ek1 z16
          generalize W8.drewN nq = W9 at HB9 ⊢
          obtain ⟨⟨c1, c2, c3, c4⟩, ek, ek1, ew, ew1⟩ := HCE.out _ (HB7.out.trans HB9.out)
          clear c1 c2 c3 c4 ew ek ek1
          go_upto_region 20 with (go_at_call 25; refine (decl_lit HR2.out HZ2.out _).mono ?_; rintro e w10 ⟨rfl, hb10⟩)
          have hF := heap_alloc_new w10 (.cells #[.int .i64 3, .int .i64 0, .int .i64 0, .int .i64 0, .int .i64 bn] 24)
          have HB11 := Lib.hid (HB9.out.trans (hb10.alloc #[.int .i64 3, .int .i64 0, .int .i64 0, .int .i64 0, .int .i64 bn] 24))
          clear ew1
          generalize w10.alloc (.cells #[.int .i64 3, .int .i64 0, .int .i64 0, .int .i64 0, .int .i64 bn] 24) = W11 at hF HB11 ⊢
          generalize w10.heap.size = FB at hF ⊢
          have j0 := cell_of_heap hF 0
          have j1 := cell_of_heap hF 1
          have j4 := cell_of_heap hF 4
          simp only [List.getElem?_toArray, List.getElem?_cons_zero, List.getElem?_cons_succ] at j0 j1 j4
          obtain ⟨⟨c1, c2, c3, c4⟩, ek, ek1, ew, ew1⟩ := HCE.out _ (HB7.out.trans HB11.out)
          obtain ⟨i0, i1, i2, i3, i4⟩ := HIC.out _ HB11.out
          have zo : (ox != ox) = false := by simp
          have zf : (f != f) = false := by simp
          have za : ((a + 8) != (a + 8)) = false := by simp
          clear c2 c3 c4 ew ew1 i1 i2 i3 hF hb10
          go_quiet ((go_at_call 26; with_reducible refine Calls.quiet_of_same ((opposite3 HBO.out HOX.out _).mono fun _ _ ⟨h1, h2⟩ => ⟨h1, h2.symm⟩)))
          have HN := Lib.hid (HB.out.trans (HB7.out.trans (HB11.out.trans ((Both.refl W11).drewN nq))))
          clear c1 ek ek1 i0 i4 j0 j1 j4 zo zf za
          go_wp2_with fail
          go_roundw
          case rel => exact ⟨k + 1, HLT.out, by go_num, HN.out⟩
          case measure => simp [intOf]; have := HLT.out; omega
    · obtain rfl : k = L.length := by omega
      go_wp2_with fail
      go_ret
      exact ⟨rfl, HB4.out.trans HB.out⟩
end Go.Proofs.Ytjjbfeoidceiiaa
