/- What Decode of package code answers. -/
import Derived.Test.YtjjbfeoidceiiaaDEnc
namespace Go.Proofs.Ytjjbfeoidceiiaa
open Go.RowKit Rv
set_option linter.unusedVariables false
set_option linter.unusedSimpArgs false
theorem rd_op (op z : Int) : (rd op z).op = op := rfl
theorem lift_lit {op f z ra rb rc rn : Int} (h1 : 1 ≤ op) (h2 : op ≤ 49) (hf : form op = f) (ha : (rd op z).d = ra) (hb : (rd op z).a = rb) (hc : (rd op z).b = rc) (hn : (rd op z).n = rn) (w : World) :
    Calls Try.prog 51 #[.agg (formV f), .int .i64 op, .int .i64 z] w fun e w' => e = .returned (.agg #[.int .i64 op, .int .i64 ra, .int .i64 rb, .int .i64 rc, .int .i64 rn]) ∧ Both w w' := by
  subst hf ha hb hc hn
  obtain ⟨a, b, c, d, h, d0, d1, ea, eb, ec, en⟩ := num_is z h1 h2
  have hl : -1048576 ≤ loF (form op) ∧ loF (form op) ≤ 0 := by
    unfold loF
    split
    · omega
    · split
      · omega
      · split <;> omega
  rw [← ea, ← eb, ← ec]
  exact lift_any _ _ _ op z a b c d _ _ (six_len _) h d0 d1 hl.1 hl.2 en (pcs_ok h1 h2) w
theorem open_lit {op f r : Int} (h1 : 1 ≤ op) (h2 : op ≤ 49) (hf : form op = f) (h : openK (six (pcs f)) 6 = r) (w : World) :
    Calls Try.prog 49 #[.agg (formV f)] w fun e w' => e = .returned (.int .i64 r) ∧ Both w w' := by
  subst hf
  exact open_any _ _ _ r _ (six_len _) h (pcs_ok h1 h2) w
theorem index_row (k : Nat) (h : k < 50) (w : World) : (Instr.index 73 (.agg allRows.toArray) (.int .i64 (k : Int))).run Try.prog w = .ok (.agg #[.string ⟨(name k).toArray⟩, .int .u8 (form k), .int .i64 (low k), .int .i64 (mid k), .int .i64 (high k), .int .i64 (extra k)]) w := by
  have hk : k = 0 ∨ k = 1 ∨ k = 2 ∨ k = 3 ∨ k = 4 ∨ k = 5 ∨ k = 6 ∨ k = 7 ∨ k = 8 ∨ k = 9 ∨ k = 10 ∨ k = 11 ∨ k = 12 ∨ k = 13 ∨ k = 14 ∨ k = 15 ∨ k = 16 ∨ k = 17 ∨ k = 18 ∨ k = 19 ∨ k = 20 ∨ k = 21 ∨ k = 22 ∨ k = 23 ∨ k = 24 ∨ k = 25 ∨ k = 26 ∨ k = 27 ∨ k = 28 ∨ k = 29 ∨ k = 30 ∨ k = 31 ∨ k = 32 ∨ k = 33 ∨ k = 34 ∨ k = 35 ∨ k = 36 ∨ k = 37 ∨ k = 38 ∨ k = 39 ∨ k = 40 ∨ k = 41 ∨ k = 42 ∨ k = 43 ∨ k = 44 ∨ k = 45 ∨ k = 46 ∨ k = 47 ∨ k = 48 ∨ k = 49 := by omega
  rcases hk with rfl | rfl | rfl | rfl | rfl | rfl | rfl | rfl | rfl | rfl | rfl | rfl | rfl | rfl | rfl | rfl | rfl | rfl | rfl | rfl | rfl | rfl | rfl | rfl | rfl | rfl | rfl | rfl | rfl | rfl | rfl | rfl | rfl | rfl | rfl | rfl | rfl | rfl | rfl | rfl | rfl | rfl | rfl | rfl | rfl | rfl | rfl | rfl | rfl | rfl
  all_goals (show _ = _; kernel_rfl)
theorem decName_some {op : Int} (h1 : 1 ≤ op) (h2 : op ≤ 49) : name op ≠ [] := by
  have := of_table (p := fun op => !(name op).isEmpty) (by decide +kernel) h1 h2
  intro h
  rw [h] at this
  cases this
theorem decName_none : (⟨(name ((0 : Nat) : Int)).toArray⟩ : ByteArray).toList = [] := by decide +kernel
theorem decName_full {op : Int} (h1 : 1 ≤ op) (h2 : op ≤ 49) : (⟨(name op).toArray⟩ : ByteArray).toList.isEmpty = false := by
  have := of_table (p := fun op => !(⟨(name op).toArray⟩ : ByteArray).toList.isEmpty) (by decide +kernel) h1 h2
  simpa using this
def noHit (z : Int) (k : Nat) : Prop := ∀ j : Nat, 1 ≤ j → j < k → hit z (j : Int) = false
theorem noHit.next {z : Int} {k : Nat} (h : noHit z k) (hk : 1 ≤ k → hit z (k : Int) = false) : noHit z (k + 1) := by
  intro j j1 j2
  by_cases e : j = k
  · subst e
    exact hk j1
  · exact h j j1 (by omega)
theorem dec_hit {z : Int} {k : Nat} (h : hit z (k : Int) = true) : dec z = some (rd k z) := by
  simp only [hit, Bool.and_eq_true, decide_eq_true_eq] at h
  have := dec_enc h.1
  rwa [h.2] at this
theorem dec_noHit {z : Int} (h : noHit z 50) : dec z = none := by
  unfold dec
  rw [List.findSome?_eq_none_iff]
  intro k hk
  rw [List.mem_range] at hk
  have := h (k + 1) (by omega) (by omega)
  rw [show (((k + 1 : Nat)) : Int) = (k : Int) + 1 by omega] at this
  rw [if_neg (by rw [this]; decide)]
set_option maxRecDepth 100000 in
set_option maxHeartbeats 8000000 in
theorem decode_any (z r0 r1 r2 r3 r4 e0 : Int) (z1 : -9223372036854775808 ≤ z) (z2 : z ≤ 9223372036854775807) (HV : Hid (decV z = ⟨r0, r1, r2, r3, r4⟩)) (HE : Hid (decE z = e0)) (w : World) :
    Calls Try.prog 25 #[.int .i64 z] w fun e w' => e = .returned (.tuple #[.agg #[.int .i64 r0, .int .i64 r1, .int .i64 r2, .int .i64 r3, .int .i64 r4], .int .i64 e0]) ∧ Both w w' := by
  go_enter Try.func25, Try.ntmps25
  go_wp2_with fail
  refine (rows_any _).mono ?_
  rintro e W1 ⟨rfl, hb1⟩
  have HR1 := Lib.hid ((hb1.1.block w.heap.size (by simp)).trans (heap_alloc_new _ _))
  have hl1 : w.heap.size < W1.heap.size := by have := hb1.1.size; simp at this; omega
  have HB1 := Lib.hid (((Both.refl w).alloc _ _).trans hb1)
  clear hb1
  generalize hcs : allRows.toArray = cs
  have HCS := Lib.hid hcs
  clear hcs
  go_wp2_with fail
  go_loopw [8] (fun i wr => ∃ k : Nat, k ≤ 50 ∧ i = .int .i64 k ∧ Both W1 wr ∧ noHit z k) (fun i _ => 50 - (intOf i).toNat)
  case atStart => exact ⟨0, by omega, rfl, Both.refl _, fun j j1 j2 => by omega⟩
  case round =>
    obtain ⟨k, hk, rfl, hb, hn⟩ := hrel
    have HB := Lib.hid hb
    have HN := Lib.hid hn
    clear hb hn
    by_cases hlt : k < 50
    · have hidx : ∀ W, (Instr.index 73 (.agg cs) (.int .i64 (k : Int))).run Try.prog W = .ok (.agg #[.string ⟨(name k).toArray⟩, .int .u8 (form k), .int .i64 (low k), .int .i64 (mid k), .int .i64 (high k), .int .i64 (extra k)]) W := fun W => by
        rw [← HCS.out]
        exact index_row k hlt W
      have hlt' : (k : Int) < 50 := by omega
      obtain ⟨s, hs⟩ : ∃ s, (⟨(name k).toArray⟩ : ByteArray) = s := ⟨_, rfl⟩
      obtain ⟨f, hf⟩ : ∃ f, form (k : Int) = f := ⟨_, rfl⟩
      obtain ⟨lo, hlo⟩ : ∃ f, low (k : Int) = f := ⟨_, rfl⟩
      obtain ⟨mi, hmi⟩ : ∃ f, mid (k : Int) = f := ⟨_, rfl⟩
      obtain ⟨hi, hhi⟩ : ∃ f, high (k : Int) = f := ⟨_, rfl⟩
      obtain ⟨se, hse⟩ : ∃ f, extra (k : Int) = f := ⟨_, rfl⟩
      rw [hs, hf, hlo, hmi, hhi, hse] at hidx
      have Hs := Lib.hid hs
      have Hf := Lib.hid hf
      have Hlo := Lib.hid hlo
      have Hmi := Lib.hid hmi
      have Hhi := Lib.hid hhi
      have Hse := Lib.hid hse
      clear hs hf hlo hmi hhi hse
      by_cases k1 : k = 0
      · have hsl : s.toList = [] := by rw [← Hs.out, k1]; exact decName_none
        have hsl' : (!s.toList.isEmpty) = false := by rw [hsl]; rfl
        have HNN := Lib.hid (HN.out.next (fun h => by omega))
        clear k1
        go_wp2
        go_roundw
        case rel => exact ⟨k + 1, by omega, by go_num, HB.out.alloc _ _, HNN.out⟩
        case measure => simp [intOf]; omega
      · have h1 : (1 : Int) ≤ k := by omega
        have h2 : (k : Int) ≤ 49 := by omega
        have t1 : s.toList.isEmpty = false := by rw [← Hs.out]; exact decName_full h1 h2
        have t2 : ¬ s.toList = [] := by
          intro h
          rw [h] at t1
          cases t1
        cases hlow : (bits .and .i64 z 127 != lo) with
        | true =>
          have HNN := Lib.hid (HN.out.next (fun _ => by
            cases hh : hit z (k : Int) with
            | false => rfl
            | true =>
              have := low_is hh
              rw [Hlo.out] at this
              rw [this] at hlow
              simp at hlow))
          go_wp2
          go_roundw
          case rel => exact ⟨k + 1, by omega, by go_num, HB.out.alloc _ _, HNN.out⟩
          case measure => simp [intOf]; omega
        | false =>
          go_wp2_with fail
          clear hidx hlow t1 t2
          refine (formof_lit h1 h2 Hf.out _).mono ?_
          rintro e W2 ⟨rfl, hb2⟩
          rename_i hK2 K hK
          refine hK _ _ ?_
          clear hK K
          have hBr : Both wr W2 := ((Both.refl wr).alloc _ _).trans hb2
          have hro := (hb2.1.block wr.heap.size (by simp)).trans (heap_alloc_new _ _)
          have hlr : wr.heap.size < W2.heap.size := by have := hb2.1.size; simp at this; omega
          have hB2 := HB.out.trans hBr
          clear hb2 hBr HB
          generalize wr.heap.size = B at hro hlr ⊢
          refine wpList_one rfl (w' := W2.alloc (.cells formZero 79)) (v := .pointer (some ⟨W2.heap.size, 0, none⟩)) (by kernel_rfl) ?_
          have hb := heap_alloc_new W2 (.cells formZero 79)
          refine wpList_store_row rfl 79 (.tmp 6) (.tmp 24) rfl _ _ rfl rfl _ _ hb (formV_sz f) (formV_zero f) (formV_ones f) ?_
          have hrf := setRow_heap _ _ _ (formV f) _ _ hb
          have hlw : W1.heap.size ≤ W2.heap.size := hB2.1.size
          have hB3 := (hB2.alloc formZero 79).setRow (g := W2.heap.size) hlw (formV f)
          have hro3 : ((W2.alloc (.cells formZero 79)).setRow W2.heap.size (formV f)).heap[B]? = some (.cells #[.string s, .int .u8 f, .int .i64 lo, .int .i64 mi, .int .i64 hi, .int .i64 se] 72 (0, 0)) := by
            rw [setRow_other _ _ _ _ (by omega)]
            exact (heap_alloc_old _ _ hlr).trans hro
          have hsz : ((W2.alloc (.cells formZero 79)).setRow W2.heap.size (formV f)).heap.size = W2.heap.size + 1 := by rw [setRow_size]; simp
          generalize (W2.alloc (.cells formZero 79)).setRow W2.heap.size (formV f) = W3 at hrf hB3 hro3 hsz ⊢
          generalize W2.heap.size = g at hrf hlr hsz ⊢
          have hlg : g < W3.heap.size := by omega
          have hlB : B < W3.heap.size := by omega
          clear hb hB2 hro hsz
          have HB3 := Lib.hid hB3
          have HRF := Lib.hid hrf
          have HRO := Lib.hid hro3
          clear hB3 hrf hro3
          refine wpList_nil ?_
          refine hK2 _ _ ?_
          clear hK2
          go_upto_region 6 with (fail)
          have hsz := lenSz f
          have hu := Try.underlying79
          obtain ⟨u, hu'⟩ : ∃ u, bitsV lo mi hi se = u := ⟨_, rfl⟩
          obtain ⟨m, hm⟩ : ∃ m, openK (six (pcs f)) 6 = m := ⟨_, rfl⟩
          have HU := Lib.hid hu'
          have HM := Lib.hid hm
          clear hu' hm
          have bd := bounds h1 h2
          have be := extra_bd (k : Int)
          rw [Hlo.out, Hmi.out, Hhi.out] at bd
          rw [Hse.out] at be
          obtain ⟨l0, l1, m0, m1, i0, i1, _⟩ := bd
          obtain ⟨s0, s1⟩ := be
          have hkeep : ∀ w', Both W3 w' → w'.rangeAt g 0 (formV f).toList ∧ w'.cell? ⟨B, 0, none⟩ = some (.string s) ∧ w'.cell? ⟨B, 1, none⟩ = some (.int .u8 f) ∧ w'.cell? ⟨B, 2, none⟩ = some (.int .i64 lo) ∧ w'.cell? ⟨B, 3, none⟩ = some (.int .i64 mi) ∧ w'.cell? ⟨B, 4, none⟩ = some (.int .i64 hi) ∧ w'.cell? ⟨B, 5, none⟩ = some (.int .i64 se) := fun w' h =>
            have hR := (h.1.block B hlB).trans HRO.out
            ⟨fun j v hj => by rw [cell_of_heap ((h.1.block g hlg).trans HRF.out)]; simpa using hj, cell_of_heap hR 0, cell_of_heap hR 1, cell_of_heap hR 2, cell_of_heap hR 3, cell_of_heap hR 4, cell_of_heap hR 5⟩
          have HKEEP := Lib.hid hkeep
          clear hkeep
          refine wp_region_held_drew (S := (fun w' => w'.rangeAt g 0 (formV f).toList ∧ w'.cell? ⟨B, 0, none⟩ = some (.string s) ∧ w'.cell? ⟨B, 1, none⟩ = some (.int .u8 f) ∧ w'.cell? ⟨B, 2, none⟩ = some (.int .i64 lo) ∧ w'.cell? ⟨B, 3, none⟩ = some (.int .i64 mi) ∧ w'.cell? ⟨B, 4, none⟩ = some (.int .i64 hi) ∧ w'.cell? ⟨B, 5, none⟩ = some (.int .i64 se))) (by kernel_rfl) (HKEEP.out _ ((Both.refl _).drew)) (fun hS => ?_)
          have HSZ := Lib.hid hsz
          clear hsz
          refine wpAnyH_take (i := 0) (v := ?v1) rfl (by kernel_rfl) (by kernel_rfl) (by kernel_rfl) (fun _ _ _ h => h) (Or.inl ⟨by rfl, ?hy1⟩) hS ?rest1
          case hy1 => (intro w0 hSw; obtain ⟨s00, s10, s11, s12, s13, s14, s15⟩ := hSw; clear s00; first | (go_simp; done) | (go_simp; with_reducible rfl))
          simp only [Act.put, List.setIfInBounds_toArray, List.set_cons_zero, List.set_cons_succ]
          refine wpAnyH_take (i := 1) (v := .agg (formV f).toList.toArray) rfl (by kernel_rfl) (by kernel_rfl) (by kernel_rfl) (fun _ _ _ h => h) (yieldsIf_load_mid (by rfl) 79 (.tmp 6) rfl g 0 (by kernel_rfl) (formV f).toList _ (fun w0 h0 => h0.1) hu rfl HSZ.out) hS ?rest
          simp only [Act.put, List.setIfInBounds_toArray, List.set_cons_zero, List.set_cons_succ, Array.toArray_toList]
          refine wpAnyH_take (i := 4) (v := ?v2) rfl (by kernel_rfl) (by kernel_rfl) (by kernel_rfl) (fun _ _ _ h => h) (Or.inl ⟨by rfl, ?hy2⟩) hS ?rest2
          case hy2 => (intro w0 hSw; obtain ⟨s00, s10, s11, s12, s13, s14, s15⟩ := hSw; clear s00; first | (go_simp; done) | (go_simp; with_reducible rfl))
          simp only [Act.put, List.setIfInBounds_toArray, List.set_cons_zero, List.set_cons_succ]
          refine wpAnyH_ready (rs := [2]) (by kernel_rfl) (by simp) ?_
          refine AllReadyH.cons rfl (fun K hK => ?_) AllReadyH.nil
          go_simp
          go_at_call 49
          refine (open_lit h1 h2 Hf.out HM.out _).mono ?_
          rintro e w3 ⟨rfl, hb3⟩
          have hS3 := HKEEP.out _ ((Both.refl _).drew.trans hb3)
          refine hK.out _ _ hS3 (fun _ => ?_)
          clear hK K
          refine wpAnyH_take (i := 3) (v := ?v3) rfl (by kernel_rfl) (by kernel_rfl) (by kernel_rfl) (fun _ _ _ h => h) (Or.inl ⟨by rfl, ?hy3⟩) hS3 ?rest3
          case hy3 => (intro w0 hSw; obtain ⟨s00, s10, s11, s12, s13, s14, s15⟩ := hSw; clear s00; first | (go_simp; done) | (go_simp; with_reducible rfl))
          simp only [Act.put, List.setIfInBounds_toArray, List.set_cons_zero, List.set_cons_succ]
          refine wpAnyH_ready (rs := [5]) (by kernel_rfl) (by simp) ?_
          refine AllReadyH.cons rfl (fun K hK => ?_) AllReadyH.nil
          go_simp
          go_at_call 50
          refine (bits_lit l0 l1 m0 m1 i0 i1 s0 s1 HU.out _).mono ?_
          rintro e w4 ⟨rfl, hb4⟩
          have hS4 := HKEEP.out _ (((Both.refl _).drew.trans hb3).trans hb4)
          refine hK.out _ _ hS4 (fun _ => ?_)
          clear hK K
          refine wpAnyH_take (i := 6) (v := ?v4) rfl (by kernel_rfl) (by kernel_rfl) (by kernel_rfl) (fun _ _ _ h => h) (Or.inl ⟨by rfl, ?hy4⟩) hS4 ?rest4
          case hy4 => (intro w0 hSw; obtain ⟨s00, s10, s11, s12, s13, s14, s15⟩ := hSw; clear s00; first | (go_simp; done) | (go_simp; with_reducible rfl))
          simp only [Act.put, List.setIfInBounds_toArray, List.set_cons_zero, List.set_cons_succ]
          refine wpAnyH_done (by kernel_rfl) ?_ _
          have hb6 := ((Both.refl _).drew.trans hb3).trans hb4
          have HB6 := Lib.hid (HB3.out.trans hb6)
          have HRF6 := Lib.hid ((hb6.1.block g hlg).trans HRF.out)
          have hl6 : W1.heap.size ≤ w4.heap.size := HB6.out.1.size
          clear hb6 hb3 hb4 hS hS3 hS4 HRF HRO HB3 hlg hlB hlr hlw
          have hh := hit_is h1 h2 z1 z2
          rw [Hf.out, HM.out, show rowBits (k : Int) = u by rw [← HU.out, ← Hlo.out, ← Hmi.out, ← Hhi.out, ← Hse.out]; rfl] at hh
          cases hit' : hit z (k : Int) with
          | false =>
            rw [hit'] at hh
            have HNN := Lib.hid (HN.out.next (fun _ => hit'))
            clear hit'
            go_wp2
            go_roundw
            case rel => exact ⟨k + 1, by omega, by go_num, HB6.out, HNN.out⟩
            case measure => simp [intOf]; omega
          | true =>
            rw [hit'] at hh
            have hd := dec_hit hit'
            have HDV := Lib.hid (show decV z = rd k z by unfold decV; rw [hd]; rfl)
            have HDE := Lib.hid (show decE z = 0 by unfold decE; rw [hd]; rfl)
            clear hit' hd
            have e := HV.out.symm.trans HDV.out
            have e1 : r0 = (k : Int) := congrArg Ins.op e
            have e2 : (rd k z).d = r1 := (congrArg Ins.d e).symm
            have e3 : (rd k z).a = r2 := (congrArg Ins.a e).symm
            have e4 : (rd k z).b = r3 := (congrArg Ins.b e).symm
            have e5 : (rd k z).n = r4 := (congrArg Ins.n e).symm
            have e6 : e0 = 0 := HE.out.symm.trans HDE.out
            have HE2 := Lib.hid e2
            have HE3 := Lib.hid e3
            have HE4 := Lib.hid e4
            have HE5 := Lib.hid e5
            clear e e2 e3 e4 e5 HV HE HDV HDE
            subst e1 e6
            go_upto_region 7 with (fail)
            rename_i K7 hK7
            refine wp_region_list ?_
            refine wpList_load_mid rfl 79 (.tmp 6) rfl g 0 (by kernel_rfl) (formV f).toList (.struct _) (fun j v hj => by rw [cell_of_heap HRF6.out]; simpa using hj) hu rfl HSZ.out ?_
            clear hh hu
            go_wp2_with fail
            refine (lift_lit h1 h2 Hf.out HE2.out HE3.out HE4.out HE5.out _).mono ?_
            rintro e W7 ⟨rfl, hb7⟩
            rename_i K hK
            refine hK _ _ ?_
            clear hK K
            have hl7 : w.heap.size < w4.heap.size := Nat.lt_of_lt_of_le hl1 hl6
            have hres := (hb7.1.block w.heap.size hl7).trans ((HB6.out.1.block w.heap.size hl1).trans HR1.out)
            have hB7 := HB1.out.trans (HB6.out.trans hb7)
            refine wpList_store_row rfl 24 (.tmp 2) (.tmp 35) rfl w.heap.size #[.int .i64 k, .int .i64 r1, .int .i64 r2, .int .i64 r3, .int .i64 r4] (by kernel_rfl) (by kernel_rfl) _ _ hres (by kernel_rfl) rfl (by kernel_rfl) ?_
            have hr8 := setRow_heap _ _ _ #[.int .i64 k, .int .i64 r1, .int .i64 r2, .int .i64 r3, .int .i64 r4] _ _ hres
            have hB8 := hB7.setRow (Nat.le_refl _) #[.int .i64 k, .int .i64 r1, .int .i64 r2, .int .i64 r3, .int .i64 r4]
            generalize W7.setRow w.heap.size #[.int .i64 k, .int .i64 r1, .int .i64 r2, .int .i64 r3, .int .i64 r4] = W8 at hr8 hB8 ⊢
            have HR8 := Lib.hid hr8
            have HB8 := Lib.hid hB8
            clear hr8 hB8 hres hB7 hb7
            refine wpList_one rfl (w' := W8) (v := .int .i64 0) (by kernel_rfl) ?_
            refine wpList_nil ?_
            refine hK7 _ _ ?_
            clear hK7
            go_wp2
            exact bodyPost_ret (results_cell_slot Try.results25 _ _ w.heap.size _ _ _ _ _ rfl rfl HR8.out Try.underlying24 rfl (by kernel_rfl)) rfl ⟨rfl, HB8.out⟩
    · obtain rfl : k = 50 := by omega
      have hd := dec_noHit HN.out
      have HDV := Lib.hid (show decV z = ⟨0, 0, 0, 0, 0⟩ by unfold decV; rw [hd]; rfl)
      have HDE := Lib.hid (show decE z = 20 by unfold decE; rw [hd]; rfl)
      have e := HV.out.symm.trans HDV.out
      have e6 : e0 = 20 := HE.out.symm.trans HDE.out
      simp only [Ins.mk.injEq] at e
      obtain ⟨q0, q1, q2, q3, q4⟩ := e
      clear hd HV HE HDV HDE
      subst q0 q1 q2 q3 q4 e6
      go_upto_region 9 with (fail)
      rename_i K9 hK9
      have hres := (HB.out.1.block w.heap.size hl1).trans HR1.out
      have hB7 := HB1.out.trans HB.out
      refine wp_region_list ?_
      refine wpList_one rfl (w' := wr) (v := .agg #[.int .i64 0, .int .i64 0, .int .i64 0, .int .i64 0, .int .i64 0]) (by kernel_rfl) ?_
      refine wpList_store_row rfl 24 (.tmp 2) (.tmp 37) rfl w.heap.size #[.int .i64 0, .int .i64 0, .int .i64 0, .int .i64 0, .int .i64 0] (by kernel_rfl) (by kernel_rfl) _ _ hres (by kernel_rfl) rfl (by kernel_rfl) ?_
      have hr8 := setRow_heap _ _ _ #[.int .i64 0, .int .i64 0, .int .i64 0, .int .i64 0, .int .i64 0] _ _ hres
      have hB8 := hB7.setRow (Nat.le_refl _) #[.int .i64 0, .int .i64 0, .int .i64 0, .int .i64 0, .int .i64 0]
      generalize wr.setRow w.heap.size #[.int .i64 0, .int .i64 0, .int .i64 0, .int .i64 0, .int .i64 0] = W8 at hr8 hB8 ⊢
      have HR8 := Lib.hid hr8
      have HB8 := Lib.hid hB8
      clear hr8 hB8 hres hB7
      refine wpList_one rfl (w' := W8) (v := .int .i64 20) (by kernel_rfl) ?_
      refine wpList_nil ?_
      refine hK9 _ _ ?_
      clear hK9
      go_wp2
      exact bodyPost_ret (results_cell_slot Try.results25 _ _ w.heap.size _ _ _ _ _ rfl rfl HR8.out Try.underlying24 rfl (by kernel_rfl)) rfl ⟨rfl, HB8.out⟩
theorem decode_is : DecodeIs := by
  intro z w hz
  exact decode_any z (decV z).op (decV z).d (decV z).a (decV z).b (decV z).n _ hz.1 hz.2 rfl rfl w
end Go.Proofs.Ytjjbfeoidceiiaa
