/- What Decode of the document's own answer answers. -/
import Derived.Test.YtphnagkicboglaaEEnc
import Derived.Test.YtphnagkicboglaaERead
namespace Go.Proofs.Ytphnagkicboglaa
open Go.RowKit Rv
set_option linter.unusedVariables false
set_option linter.unusedSimpArgs false
theorem dec_far {z : Int} (h : z < 0 ∨ 4294967296 ≤ z) : dec z = none := by
  cases hd : dec z with
  | none => rfl
  | some i =>
    obtain ⟨h1, h2⟩ := dec_some hd
    have := enc_bd h1
    omega
theorem read_lit {op z x_d x_a x_b x_n : Int} (h1 : 1 ≤ op) (h2 : op ≤ 49) (z0 : 0 ≤ z) (z1 : z < 4294967296) (hd : (rd op z).d = x_d) (ha : (rd op z).a = x_a) (hb : (rd op z).b = x_b) (hn : (rd op z).n = x_n) (w : World) :
    Calls Try.prog 41 #[.int .i64 op, .int .i64 z] w fun e w' => e = .returned (.agg #[.int .i64 op, .int .i64 x_d, .int .i64 x_a, .int .i64 x_b, .int .i64 x_n]) ∧ Both w w' := by
  subst hd ha hb hn
  exact read_any h1 h2 z0 z1 w
set_option maxRecDepth 100000 in
set_option maxHeartbeats 4000000 in
theorem decR_far (z : Int) (h : z < 0 ∨ 4294967296 ≤ z) (w : World) :
    Calls Try.prog 26 #[.int .i64 z] w fun e w' => e = .returned (.tuple #[.agg #[.int .i64 0, .int .i64 0, .int .i64 0, .int .i64 0, .int .i64 0], .int .i64 20]) ∧ Both w w' := by
  rcases h with h | h
  all_goals
    go_enter Try.func26, Try.ntmps26
    go_wp2
    refine bodyPost_ret (v := .tuple #[.agg #[.int .i64 0, .int .i64 0, .int .i64 0, .int .i64 0, .int .i64 0], .int .i64 20]) (by simp [results, Try.results26, go_sem]) rfl ⟨rfl, ?_⟩
    repeat (first | exact Both.refl _ | refine Both.setCell ?_ (by simp) _ | refine Both.setRow ?_ (by simp) _ | refine Both.alloc ?_ _ _)
set_option maxRecDepth 100000 in
set_option maxHeartbeats 8000000 in
theorem decR_in (z r0 r1 r2 r3 r4 e0 : Int) (z0 : 0 ≤ z) (z1 : z < 4294967296) (HV : Hid (decV z = ⟨r0, r1, r2, r3, r4⟩)) (HE : Hid (decE z = e0)) (w : World) :
    Calls Try.prog 26 #[.int .i64 z] w fun e w' => e = .returned (.tuple #[.agg #[.int .i64 r0, .int .i64 r1, .int .i64 r2, .int .i64 r3, .int .i64 r4], .int .i64 e0]) ∧ Both w w' := by
  have nz : ¬ z < 0 := by omega
  go_enter Try.func26, Try.ntmps26
  go_wp2_with fail
  have HR1 := Lib.hid (heap_alloc_new w (.cells #[.int .i64 0, .int .i64 0, .int .i64 0, .int .i64 0, .int .i64 0] 23))
  have HB1 := Lib.hid ((Both.refl w).alloc #[.int .i64 0, .int .i64 0, .int .i64 0, .int .i64 0, .int .i64 0] 23)
  have hl1 : w.heap.size < (w.alloc (.cells #[.int .i64 0, .int .i64 0, .int .i64 0, .int .i64 0, .int .i64 0] 23)).heap.size := by simp
  generalize w.alloc (.cells #[.int .i64 0, .int .i64 0, .int .i64 0, .int .i64 0, .int .i64 0] 23) = W1 at HR1 HB1 hl1 ⊢
  go_loopw [4] (fun i wr => ∃ k : Nat, 1 ≤ k ∧ k ≤ 50 ∧ i = .int .i64 k ∧ Both W1 wr ∧ noHit z k) (fun i _ => 50 - (intOf i).toNat)
  case atStart => exact ⟨1, by omega, by omega, rfl, Both.refl _, fun j j1 j2 => by omega⟩
  case round =>
    obtain ⟨k, hk1, hk, rfl, hb, hn⟩ := hrel
    have HB := Lib.hid hb
    have HN := Lib.hid hn
    clear hb hn
    by_cases hlt : k ≤ 49
    · have h1 : (1 : Int) ≤ k := by omega
      have h2 : (k : Int) ≤ 49 := by omega
      obtain ⟨xd, hxd⟩ : ∃ x, (rd (k : Int) z).d = x := ⟨_, rfl⟩
      obtain ⟨xa, hxa⟩ : ∃ x, (rd (k : Int) z).a = x := ⟨_, rfl⟩
      obtain ⟨xb, hxb⟩ : ∃ x, (rd (k : Int) z).b = x := ⟨_, rfl⟩
      obtain ⟨xn, hxn⟩ : ∃ x, (rd (k : Int) z).n = x := ⟨_, rfl⟩
      have hx : rd (k : Int) z = ⟨k, xd, xa, xb, xn⟩ := by
        rw [← hxd, ← hxa, ← hxb, ← hxn]
        rfl
      have hright := rdAll (z := z) h1 h2
      rw [hx] at hright
      obtain ⟨v, hv⟩ : ∃ v, enc ⟨(k : Int), xd, xa, xb, xn⟩ = v := ⟨_, rfl⟩
      have HXD := Lib.hid hxd
      have HXA := Lib.hid hxa
      have HXB := Lib.hid hxb
      have HXN := Lib.hid hxn
      have HX := Lib.hid hx
      have HRT := Lib.hid hright
      have HVV := Lib.hid hv
      clear hxd hxa hxb hxn hx hright hv
      go_wp2_with fail
      refine (read_lit h1 h2 z0 z1 HXD.out HXA.out HXB.out HXN.out _).mono ?_
      rintro e W2 ⟨rfl, hb2⟩
      have HB2 := Lib.hid (HB.out.trans hb2)
      clear hb2 HB
      go_wp2_with fail
      refine (encR_any HRT.out HVV.out _).mono ?_
      rintro e W3 ⟨rfl, hb3⟩
      have s5 := (Has5.new W2 23 (k : Int) xd xa xb xn).both hb3
      have HB3 := Lib.hid ((HB2.out.alloc _ _).trans hb3)
      clear hb3 HB2
      have hh : hit z (k : Int) = (v == z) := by
        unfold hit
        rw [rdAll h1 h2, Bool.true_and, HX.out, HVV.out]
        rfl
      cases hvz : (v == z) with
      | false =>
        rw [hvz] at hh
        have HNN := Lib.hid (HN.out.next (fun _ => hh))
        clear hh s5
        go_wp2
        go_roundw
        case rel => exact ⟨k + 1, by omega, by omega, by go_num, HB3.out, HNN.out⟩
        case measure => simp [intOf]; omega
      | true =>
        rw [hvz] at hh
        have hd := dec_hit hh
        have e := HV.out.symm.trans (show decV z = rd k z by unfold decV; rw [hd]; rfl)
        rw [HX.out] at e
        have e6 : e0 = 0 := HE.out.symm.trans (show decE z = 0 by unfold decE; rw [hd]; rfl)
        simp only [Ins.mk.injEq] at e
        obtain ⟨rfl, rfl, rfl, rfl, rfl⟩ := e
        subst e6
        clear hh hd HV HE
        obtain ⟨l5, c0, c1, c2, c3, c4⟩ := s5
        have hres := (HB3.out.1.block w.heap.size hl1).trans HR1.out
        have HRES := Lib.hid hres
        clear hres
        go_upto_region 9 with (fail)
        rename_i K9 hK9
        refine wp_region_list ?_
        refine wpList_load_mid rfl 23 (.tmp 5) rfl W2.heap.size 0 (by kernel_rfl) [.int .i64 k, .int .i64 r1, .int .i64 r2, .int .i64 r3, .int .i64 r4] (.struct _) ?_ Try.underlying23 rfl (by kernel_rfl) ?_
        · intro j x hj
          match j, hj with
          | 0, hj => obtain rfl := Option.some.inj hj; exact c0
          | 1, hj => obtain rfl := Option.some.inj hj; exact c1
          | 2, hj => obtain rfl := Option.some.inj hj; exact c2
          | 3, hj => obtain rfl := Option.some.inj hj; exact c3
          | 4, hj => obtain rfl := Option.some.inj hj; exact c4
        clear c0 c1 c2 c3 c4 l5
        refine wpList_store_row rfl 23 (.tmp 2) (.tmp 34) rfl w.heap.size #[.int .i64 k, .int .i64 r1, .int .i64 r2, .int .i64 r3, .int .i64 r4] (by kernel_rfl) (by kernel_rfl) _ _ HRES.out (by kernel_rfl) rfl (by kernel_rfl) ?_
        have hr8 := setRow_heap _ _ _ #[.int .i64 k, .int .i64 r1, .int .i64 r2, .int .i64 r3, .int .i64 r4] _ _ HRES.out
        have hB8 := (HB1.out.trans HB3.out).setRow (Nat.le_refl _) #[.int .i64 k, .int .i64 r1, .int .i64 r2, .int .i64 r3, .int .i64 r4]
        generalize W3.setRow w.heap.size #[.int .i64 k, .int .i64 r1, .int .i64 r2, .int .i64 r3, .int .i64 r4] = W8 at hr8 hB8 ⊢
        have HR8 := Lib.hid hr8
        have HB8 := Lib.hid hB8
        clear hr8 hB8
        refine wpList_one rfl (w' := W8) (v := .int .i64 0) (by kernel_rfl) ?_
        refine wpList_nil ?_
        refine hK9 _ _ ?_
        clear hK9
        go_wp2
        exact bodyPost_ret (results_cell_slot Try.results26 _ _ w.heap.size _ _ _ _ _ rfl rfl HR8.out Try.underlying23 rfl (by kernel_rfl)) rfl ⟨rfl, HB8.out⟩
    · obtain rfl : k = 50 := by omega
      have hd := dec_noHit HN.out
      have e := HV.out.symm.trans (show decV z = ⟨0, 0, 0, 0, 0⟩ by unfold decV; rw [hd]; rfl)
      have e6 : e0 = 20 := HE.out.symm.trans (show decE z = 20 by unfold decE; rw [hd]; rfl)
      simp only [Ins.mk.injEq] at e
      obtain ⟨rfl, rfl, rfl, rfl, rfl⟩ := e
      subst e6
      clear hd HV HE
      go_upto_region 10 with (fail)
      rename_i K9 hK9
      have hres := (HB.out.1.block w.heap.size hl1).trans HR1.out
      refine wp_region_list ?_
      refine wpList_one rfl (w' := wr) (v := .agg #[.int .i64 0, .int .i64 0, .int .i64 0, .int .i64 0, .int .i64 0]) (by kernel_rfl) ?_
      refine wpList_store_row rfl 23 (.tmp 2) (.tmp 35) rfl w.heap.size #[.int .i64 0, .int .i64 0, .int .i64 0, .int .i64 0, .int .i64 0] (by kernel_rfl) (by kernel_rfl) _ _ hres (by kernel_rfl) rfl (by kernel_rfl) ?_
      have hr8 := setRow_heap _ _ _ #[.int .i64 0, .int .i64 0, .int .i64 0, .int .i64 0, .int .i64 0] _ _ hres
      have hB8 := (HB1.out.trans HB.out).setRow (Nat.le_refl _) #[.int .i64 0, .int .i64 0, .int .i64 0, .int .i64 0, .int .i64 0]
      generalize wr.setRow w.heap.size #[.int .i64 0, .int .i64 0, .int .i64 0, .int .i64 0, .int .i64 0] = W8 at hr8 hB8 ⊢
      have HR8 := Lib.hid hr8
      have HB8 := Lib.hid hB8
      clear hr8 hB8 hres
      refine wpList_one rfl (w' := W8) (v := .int .i64 20) (by kernel_rfl) ?_
      refine wpList_nil ?_
      refine hK9 _ _ ?_
      clear hK9
      go_wp2
      exact bodyPost_ret (results_cell_slot Try.results26 _ _ w.heap.size _ _ _ _ _ rfl rfl HR8.out Try.underlying23 rfl (by kernel_rfl)) rfl ⟨rfl, HB8.out⟩
theorem decR_lit {z u x_o x_d x_a x_b x_n : Int} (h : decV z = ⟨x_o, x_d, x_a, x_b, x_n⟩) (h' : decE z = u) (w : World) :
    Calls Try.prog 26 #[.int .i64 z] w fun e w' => e = .returned (.tuple #[.agg #[.int .i64 x_o, .int .i64 x_d, .int .i64 x_a, .int .i64 x_b, .int .i64 x_n], .int .i64 u]) ∧ Both w w' := by
  by_cases hz : 0 ≤ z ∧ z < 4294967296
  · exact decR_in z _ _ _ _ _ _ hz.1 hz.2 h h' w
  · have hd := dec_far (z := z) (by omega)
    have e := h.symm.trans (show decV z = ⟨0, 0, 0, 0, 0⟩ by unfold decV; rw [hd]; rfl)
    have e6 : u = 20 := h'.symm.trans (show decE z = 20 by unfold decE; rw [hd]; rfl)
    simp only [Ins.mk.injEq] at e
    obtain ⟨rfl, rfl, rfl, rfl, rfl⟩ := e
    subst e6
    exact decR_far z (by omega) w
end Go.Proofs.Ytphnagkicboglaa
