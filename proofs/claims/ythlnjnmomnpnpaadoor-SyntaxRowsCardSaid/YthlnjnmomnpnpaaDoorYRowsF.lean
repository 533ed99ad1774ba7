/- How the law counts a program's lines. -/
import Derived.Test.YthlnjnmomnpnpaaDoorYRowsP
import Derived.Test.YthlnjnmomnpnpaaDoorYSize
namespace Go.Proofs.YthlnjnmomnpnpaaDoor
open Go.RowKit Tk Sy
set_option linter.unusedVariables false
set_option linter.unusedSimpArgs false
theorem w64_l (a b : Int) : wrap64 (wrap64 a + b) = wrap64 (a + b) := by unfold wrap64; omega
theorem w64_r (a b : Int) : wrap64 (a + wrap64 b) = wrap64 (a + b) := by unfold wrap64; omega
def RowsSt (k : Nat) : Prop := ∀ (w : World) (p : Option Addr) (c : Nat) (l : List St) (v : Int), StsAt k w p l → l.length ≤ 9223372036854775807 → wrap64 (rowsS l : Int) = v → Calls Tryd.prog 20 #[.slice p l.length c] w fun e w' => e = .returned (.int .i64 v) ∧ Bel w w'
theorem rowS_k (x : St) : ((rowS x : Nat) : Int) = 1 + (rowsS x.thn : Int) + (rowsS x.els : Int) + (if x.kind = 5 ∨ x.kind = 6 ∨ x.kind = 7 then 1 else 0) + (if 0 < x.els.length then 1 else 0) := by
  rw [rowS_eq]
  split <;> split <;> omega
set_option maxRecDepth 100000 in
set_option maxHeartbeats 16000000 in
theorem rows_any : ∀ k : Nat, RowsSt k := by
  intro k
  induction k with
  | zero =>
    intro w p c l v h hl hv
    obtain rfl : l = [] := h
    subst hv
    go_enter Tryd.func20, Tryd.ntmps20
    go_wp2_with fail
    refine wp_loop_rounds 1 ?_
    rw [rounds_succ]
    go_wp2_with fail
    go_ret
    exact ⟨ri (by rw [rowsS_nil]; unfold wrap64; decide), Bel.refl w⟩
  | succ k ih =>
    intro w p c l v h hl hv
    have IH : Hid (∀ (w : World) (p : Option Addr) (c : Nat) (l : List St) (v : Int), StsAt k w p l → l.length ≤ 9223372036854775807 → wrap64 (rowsS l : Int) = v → Calls Tryd.prog 20 #[.slice p l.length c] w fun e w' => e = .returned (.int .i64 v) ∧ Bel w w') := Lib.hid ih
    have HE := Lib.hid h
    have hcn := rowsS_eq l
    obtain ⟨n, hn⟩ : ∃ n, l.length = n := ⟨_, rfl⟩
    rw [hn] at hl ⊢
    have HN := Lib.hid hn
    have HCN := Lib.hid hcn
    have HVV := Lib.hid hv
    have HW0 : Hid ((0 : Int) = wrap64 0) := Lib.hid (by unfold wrap64; decide)
    clear ih h hn hcn hv
    go_enter Tryd.func20, Tryd.ntmps20
    go_wp2_with fail
    go_loopg [3, 4] n (fun gk aa ii wr => ∃ i : Nat, ∃ av : Int, i + gk = n ∧ aa = .int .i64 av ∧ ii = .int .i64 i ∧ Hid (av = wrap64 (((l.take i).map rowS).sum : Nat)) ∧ Hid (Bel w wr))
    case atStart => exact ⟨0, 0, by omega, rfl, rfl, Lib.hid (by simpa using HW0.out), Lib.hid (Bel.refl _)⟩
    case round =>
      obtain ⟨i, av, hig, rfl, rfl, HA, HB⟩ := hrel
      by_cases hlt : i < n
      · obtain ⟨x, hx⟩ : ∃ x, l[i]? = some x := ⟨_, List.getElem?_eq_getElem (by rw [HN.out]; exact hlt)⟩
        obtain ⟨hw, b, o, q, c', q1, c1, q2, c2, rfl, hbl, ⟨k0, k1, k2, k3, k4, k5, k6⟩, hE, hT, hL⟩ := StsAt.bel HB.out _ _ _ HE.out i x hx
        have HTX := Lib.hid hT
        have HLX := Lib.hid hL
        have HLT := Lib.hid hw.thn
        have HLL := Lib.hid hw.els
        have HSM := Lib.hid (sum_take rowS hx)
        have HRK := Lib.hid (rowS_k x)
        have hk1 : (i : Int) < n := by omega
        obtain ⟨v2, hv2⟩ : ∃ v, wrap64 (rowsS x.thn : Int) = v := ⟨_, rfl⟩
        obtain ⟨v3, hv3⟩ : ∃ v, wrap64 (rowsS x.els : Int) = v := ⟨_, rfl⟩
        have HV2 := Lib.hid hv2
        have HV3 := Lib.hid hv3
        have HKEEP : Hid (∀ w', Bel wr w' → w'.cell? ⟨b, o + i * 7, none⟩ = some (.int .i64 x.kind) ∧ w'.cell? ⟨b, o + i * 7 + 5, none⟩ = some (.slice q1 x.thn.length c1) ∧ w'.cell? ⟨b, o + i * 7 + 6, none⟩ = some (.slice q2 x.els.length c2)) := Lib.hid (fun w' hb => ⟨(hb.cell (p := ⟨b, o + i * 7, none⟩) hbl).trans k0, (hb.cell (p := ⟨b, o + i * 7 + 5, none⟩) hbl).trans k5, (hb.cell (p := ⟨b, o + i * 7 + 6, none⟩) hbl).trans k6⟩)
        clear hw hE hT hL hx hv2 hv3 k0 k1 k2 k3 k4 k5 k6 hbl
        go_upto_region 5 with (fail)
        go_region_held3 (fun w' => w'.cell? ⟨b, o + i * 7, none⟩ = some (.int .i64 x.kind) ∧ w'.cell? ⟨b, o + i * 7 + 5, none⟩ = some (.slice q1 x.thn.length c1) ∧ w'.cell? ⟨b, o + i * 7 + 6, none⟩ = some (.slice q2 x.els.length c2))
          (first | exact HKEEP.out _ ((((Bel.refl _).drew).trans hb12).trans hb13) | exact HKEEP.out _ (((Bel.refl _).drew).trans hb12) | exact HKEEP.out _ ((Bel.refl _).drew))
          (first
            | (go_at_call 20; with_reducible refine (IH.out _ q1 c1 x.thn v2 (StsAt.bel ((Bel.refl _).drew) _ _ _ HTX.out) HLT.out HV2.out).mono ?_; rintro e w' ⟨rfl, hb12⟩)
            | (go_at_call 20; with_reducible refine (IH.out _ q2 c2 x.els v3 (StsAt.bel (((Bel.refl _).drew).trans hb12) _ _ _ HLX.out) HLL.out HV3.out).mono ?_; rintro e w' ⟨rfl, hb13⟩))
        have hbz := (((Bel.refl wr).drew).trans hb12).trans hb13
        obtain ⟨k0, k5, k6⟩ := HKEEP.out _ hbz
        have HB := Lib.hid (HB.out.trans hbz)
        clear hb12 hb13 HKEEP hbz
        rename_i hh
        clear hh
        obtain ⟨y, hy⟩ : ∃ y, IntKind.i64.wrap (IntKind.i64.wrap (IntKind.i64.wrap (av + 1) + v2) + v3) = y := ⟨_, rfl⟩
        rw [hy]
        have HFN : Hid (∀ m : Int, m = (if x.kind = 5 ∨ x.kind = 6 ∨ x.kind = 7 then (1 : Int) else 0) + (if 0 < x.els.length then (1 : Int) else 0) → wrap64 (y + m) = wrap64 (((l.take (i + 1)).map rowS).sum : Nat)) := Lib.hid (fun m hm => by
          have kw : ∀ y : Int, IntKind.i64.wrap y = wrap64 y := fun y => IntWalk.i64_left y
          rw [← hy, HSM.out, HA.out, ← HV2.out, ← HV3.out, Int.natCast_add, HRK.out, hm]
          simp only [kw, w64_l, w64_r, Int.add_assoc])
        have HYW : Hid (y = wrap64 y) := Lib.hid (by
          rw [← hy, IntWalk.i64_left]
          unfold wrap64
          omega)
        clear hy HRK HSM HV2 HV3 HA
        generalize x.els.length = el at k6 HFN HLL
        generalize x.kind = ek at k0 HFN
        have fin0 : (0 : Int) = (if ek = 5 ∨ ek = 6 ∨ ek = 7 then (1 : Int) else 0) + (if 0 < el then (1 : Int) else 0) → Hid (y = wrap64 (((l.take (i + 1)).map rowS).sum : Nat)) := fun h => Lib.hid (by rw [← HFN.out 0 h, Int.add_zero]; exact HYW.out)
        have fin1 : (1 : Int) = (if ek = 5 ∨ ek = 6 ∨ ek = 7 then (1 : Int) else 0) + (if 0 < el then (1 : Int) else 0) → Hid (wrap64 (y + 1) = wrap64 (((l.take (i + 1)).map rowS).sum : Nat)) := fun h => Lib.hid (HFN.out 1 h)
        have fin2 : (2 : Int) = (if ek = 5 ∨ ek = 6 ∨ ek = 7 then (1 : Int) else 0) + (if 0 < el then (1 : Int) else 0) → Hid (wrap64 (wrap64 (y + 1) + 1) = wrap64 (((l.take (i + 1)).map rowS).sum : Nat)) := fun h => Lib.hid (by rw [w64_l, Int.add_assoc]; exact HFN.out 2 h)
        have HF0 := Lib.hid fin0
        have HF1 := Lib.hid fin1
        have HF2 := Lib.hid fin2
        clear fin0 fin1 fin2 HFN HYW
        rcases (show ek = 5 ∨ ek = 7 ∨ ek = 6 ∨ (ek ≠ 5 ∧ ek ≠ 7 ∧ ek ≠ 6) by omega) with rfl | rfl | rfl | ⟨n5, n7, n6⟩
        all_goals try
          have t5 : (ek == 5) = false := by simpa using n5
          have t7 : (ek == 7) = false := by simpa using n7
          have t6 : (ek == 6) = false := by simpa using n6
        all_goals
          rcases (show 0 < el ∨ el = 0 by omega) with hp | rfl
          · have hp1 : (0 : Int) < (el : Int) := by omega
            go_wp2_with fail
            go_roundg (gk - 1)
            case measure => omega
            case rel => exact ⟨i + 1, _, by omega, rfl, by go_num, by first | exact HF1.out (by simp [n5, n6, n7, hp]) | exact HF2.out (by simp [hp]), HB⟩
          · go_wp2_with fail
            go_roundg (gk - 1)
            case measure => omega
            case rel => exact ⟨i + 1, _, by omega, rfl, by go_num, by first | exact HF0.out (by simp [n5, n6, n7]) | exact HF1.out (by simp), HB⟩
      · obtain rfl : n = i := by omega
        have hfin : av = v := by
          rw [← HVV.out, HA.out, HCN.out, List.take_of_length_le (Nat.le_of_eq HN.out)]
        have HF := Lib.hid hfin
        clear hfin
        go_wp2_with fail
        go_ret
        exact ⟨ri HF.out, HB.out⟩
theorem rows_at {w : World} {p : Option Addr} {c : Nat} {l : List St} {v : Int} (h : SAt w p l) (hl : l.length ≤ 9223372036854775807) (hv : wrap64 (rowsS l : Int) = v) : Calls Tryd.prog 20 #[.slice p l.length c] w fun e w' => e = .returned (.int .i64 v) ∧ Bel w w' := by
  obtain ⟨k, h⟩ := h
  exact rows_any k w p c l v h hl hv
end Go.Proofs.YthlnjnmomnpnpaaDoor
