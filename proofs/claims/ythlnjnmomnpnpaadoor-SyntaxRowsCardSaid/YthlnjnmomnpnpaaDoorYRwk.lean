/- SyntaxRows's walk. -/
import Derived.Test.YthlnjnmomnpnpaaDoorYPg
import Derived.Test.YthlnjnmomnpnpaaDoorYPo
import Derived.Test.YthlnjnmomnpnpaaDoorYAwk
import Derived.Test.YthlnjnmomnpnpaaDoorYPrint
import Derived.Test.YthlnjnmomnpnpaaDoorYRowsF
import Derived.Test.YthlnjnmomnpnpaaDoorYLenP
namespace Go.Proofs.YthlnjnmomnpnpaaDoor
open Go.RowKit Tk Sy
set_option linter.unusedVariables false
set_option linter.unusedSimpArgs false
theorem rprog_lit {raw : List Int} {all : Bool} {n : Nat} {P : Prg} (hP : progV raw all = P) (hn : raw.length = n) (w : World) {p : Option Addr} {cp : Nat} (hr : RawAt w p raw) (hcp : n ≤ cp) (hn63 : n ≤ 9223372036854775807) :
    Calls Tryd.prog 9 #[.slice p n cp, .bool all] w fun e w' => ∃ q1 c1 q2 c2 q3 c3, e = .returned (prgV q1 c1 q2 c2 q3 c3 P) ∧ ProgAt w w' P q1 q2 q3 c3 := by
  subst hP
  exact prog_any hn w hr hcp hn63
theorem rbox_new (W : World) (cs : Array Value) (T : TypeId) : Bel W (W.alloc (.cells cs T)) ∧ (W.alloc (.cells cs T)).heap[W.heap.size]? = some (.cells cs T (0, 0)) := ⟨(Bel.refl W).alloc _ _, heap_alloc_new W _⟩
set_option maxRecDepth 100000 in
set_option maxHeartbeats 8000000 in
theorem rows_walk {raw : List Int} {all : Bool} {n : Nat} (w : World) {p : Option Addr} {c : Nat} (hn : raw.length = n) (hr : RawAt w p raw) (hc : n ≤ c) (h6 : n ≤ 9223372036854775807) (hX : Texts w) (hPw : PowAt w) :
    Calls Tryd.prog 7 #[.slice p n c, .bool all] w fun e w' => e = .returned (.bool true) ∧ Bel w w' := by
  obtain ⟨P, hP⟩ : ∃ P, progV raw all = P := ⟨_, rfl⟩
  have hrp : right P = true := by rw [← hP]; exact prog_right _ _
  have hlen : (prgT P).length ≤ 10000000000 := by rw [← hP]; exact prog_len _ _
  obtain ⟨T, hT⟩ : ∃ T, str (prgT P) = T := ⟨_, rfl⟩
  have HP := Lib.hid hP
  have HRP := Lib.hid hrp
  have HN := Lib.hid hn
  have H1 := Lib.hid hr
  have HC := Lib.hid (And.intro hc h6)
  have HX := Lib.hid hX
  have HPW := Lib.hid hPw
  have HLEN := Lib.hid hlen
  have HT := Lib.hid hT
  have hbds : P.devs.length ≤ 8 ∧ P.rscs.length ≤ 8 ∧ P.tasks.length ≤ 16 := by
    unfold right at hrp
    simp only [Bool.and_eq_true, decide_eq_true_eq] at hrp
    exact ⟨hrp.2.1, hrp.2.2.2.1, hrp.2.2.2.2.2.1⟩
  have HBD := Lib.hid hbds
  clear hP hrp hn hr hc h6 hX hPw hlen hT hbds
  go_enter Tryd.func7, Tryd.ntmps7
  go_wp2_with fail
  refine (awake_any _ HX.out HPW.out).mono ?_
  rintro e w1 ⟨rfl, hb⟩
  have HB1 := Lib.hid hb
  clear hb
  go_wp2_with fail
  refine (rprog_lit HP.out HN.out w1 (H1.out.bel HB1.out) HC.out.1 HC.out.2).mono ?_
  rintro e w2 ⟨a1, b1, a2, b2, a3, b3, rfl, hp⟩
  have HA := Lib.hid (hp.prg HRP.out)
  have HB := Lib.hid (HB1.out.trans hp.bel)
  clear hp
  go_upto_region 3 with (fail)
  obtain ⟨nb, nx⟩ := rbox_new w2 (prgA a1 b1 a2 b2 a3 b3 P) 28
  generalize w2.alloc (.cells (prgA a1 b1 a2 b2 a3 b3 P) 28) = W6 at nb nx ⊢
  generalize w2.heap.size = g6 at nx ⊢
  have HX6 := Lib.hid nx
  have HA := Lib.hid (HA.out.bel nb)
  have HB := Lib.hid (HB.out.trans nb)
  clear nb nx
  have k0 : W6.cell? ⟨g6, 0, none⟩ = some (.int .i64 P.harts) := cell_of_heap HX6.out 0
  have k1 : W6.cell? ⟨g6, 1, none⟩ = some (.slice a1 P.devs.length b1) := cell_of_heap HX6.out 1
  have k2 : W6.cell? ⟨g6, 2, none⟩ = some (.slice a2 P.rscs.length b2) := cell_of_heap HX6.out 2
  have k3 : W6.cell? ⟨g6, 3, none⟩ = some (.slice a3 P.tasks.length b3) := cell_of_heap HX6.out 3
  go_wp2_with fail
  refine (Print_yes (q1 := a1) (c1 := b1) (q2 := a2) (c2 := b2) (q3 := a3) (c3 := b3) HT.out HRP.out _ HA.out (HX.out.bel HB.out) (HPW.out.bel HB.out) (Nat.le_trans HLEN.out (by decide))).mono ?_
  rintro e w7 ⟨rfl, hb⟩
  have HA := Lib.hid (HA.out.bel hb)
  have HX6 := Lib.hid (hb.stays HX6.out)
  have HB := Lib.hid (HB.out.trans hb)
  clear hb k0 k1 k2 k3
  have k1 : w7.cell? ⟨g6, 1, none⟩ = some (.slice a1 P.devs.length b1) := cell_of_heap HX6.out 1
  have k2 : w7.cell? ⟨g6, 2, none⟩ = some (.slice a2 P.rscs.length b2) := cell_of_heap HX6.out 2
  obtain ⟨D, hD⟩ : ∃ D, P.devs.length = D := ⟨_, rfl⟩
  obtain ⟨S, hS⟩ : ∃ S, P.rscs.length = S := ⟨_, rfl⟩
  have hD8 : D ≤ 8 := by rw [← hD]; exact HBD.out.1
  have hS8 : S ≤ 8 := by rw [← hS]; exact HBD.out.2.1
  rw [hD] at k1
  rw [hS] at k2
  have HDD := Lib.hid hD
  have HSS := Lib.hid hS
  clear hD hS
  have j1 : IntKind.i64.wrap (1 + (D : Int)) = 1 + (D : Int) := IntWalk.i64_in _ (by constructor <;> omega)
  have j2 : IntKind.i64.wrap (1 + (D : Int) + (S : Int)) = 1 + (D : Int) + (S : Int) := IntWalk.i64_in _ (by constructor <;> omega)
  go_upto_region 5 with (fail)
  clear j1 j2 k1 k2
  obtain ⟨nt, hnt⟩ : ∃ nt, P.tasks.length = nt := ⟨_, rfl⟩
  have hT16 : nt ≤ 16 := by rw [← hnt]; exact HBD.out.2.2
  have HNT := Lib.hid hnt
  obtain ⟨f, hf⟩ : ∃ f : Tsk → Nat, (fun t : Tsk => 2 + rowsS t.body) = f := ⟨_, rfl⟩
  have HF : Hid (∀ t, f t = 2 + rowsS t.body) := Lib.hid (fun t => by rw [← hf])
  have HRS : Hid (rowsP P = 1 + D + S + (P.tasks.map f).sum) := Lib.hid (by rw [← hf, ← HDD.out, ← HSS.out]; rfl)
  have HW0 : Hid (1 + (D : Int) + (S : Int) = wrap64 (1 + (D : Int) + (S : Int))) := Lib.hid (by unfold wrap64; omega)
  clear hnt hf
  go_wp2_with fail
  go_loopg [9, 10] nt (fun gk aa ii wr => ∃ i : Nat, ∃ av : Int, i + gk = nt ∧ aa = .int .i64 av ∧ ii = .int .i64 i ∧ Hid (av = wrap64 (1 + (D : Int) + (S : Int) + (((P.tasks.take i).map f).sum : Nat))) ∧ Hid (Bel w7 wr))
  case atStart => exact ⟨0, _, by omega, rfl, rfl, Lib.hid (by simpa using HW0.out), Lib.hid (Bel.refl _)⟩
  case round =>
    obtain ⟨i, av, hig, rfl, rfl, HV, HBR⟩ := hrel
    have k3 : wr.cell? ⟨g6, 3, none⟩ = some (.slice a3 P.tasks.length b3) := cell_of_heap (HBR.out.stays HX6.out) 3
    rw [HNT.out] at k3
    by_cases hlt : i < nt
    · obtain ⟨x, hx⟩ : ∃ x, P.tasks[i]? = some x := ⟨_, List.getElem?_eq_getElem (by rw [HNT.out]; exact hlt)⟩
      obtain ⟨hw, b, o, q, c', rfl, hbl, c0, c1, c2, c3, c4, k5, hs⟩ := (HA.out.bel HBR.out).tasks i x hx
      have HS := Lib.hid hs
      have HLB := Lib.hid hw.body
      have HSM := Lib.hid (sum_take f hx)
      have hk1 : (i : Int) < nt := by omega
      obtain ⟨v1, hv1⟩ : ∃ v, wrap64 (rowsS x.body : Int) = v := ⟨_, rfl⟩
      have HV1 := Lib.hid hv1
      clear hw hs hx hv1 c0 c1 c2 c3 c4
      go_wp2_with fail
      refine (rows_at HS.out HLB.out HV1.out).mono ?_
      rintro r w8 ⟨rfl, hb⟩
      have HBR := Lib.hid (HBR.out.trans hb)
      clear hb k5 k3
      go_wp2_with fail
      go_roundg (gk - 1)
      case measure => omega
      case rel => exact ⟨i + 1, _, by omega, rfl, by go_num, Lib.hid (by
        have kw : ∀ y : Int, IntKind.i64.wrap y = wrap64 y := fun y => IntWalk.i64_left y
        rw [HSM.out, HF.out, HV.out, ← HV1.out, Int.natCast_add, Int.natCast_add]
        simp only [kw, w64_l, w64_r, Int.add_assoc]
        rfl), HBR⟩
    · obtain rfl : nt = i := by omega
      have hfin : av = wrap64 (rowsP P : Int) := by
        rw [HV.out, List.take_of_length_le (Nat.le_of_eq HNT.out), HRS.out]
        congr 1
      have HFN := Lib.hid hfin
      have HB := Lib.hid (HB.out.trans HBR.out)
      obtain ⟨m, hm⟩ : ∃ m, T.size = m := ⟨_, rfl⟩
      have hm10 : m ≤ 10000000000 := by rw [← hm, ← HT.out, str_size]; exact HLEN.out
      have HM := Lib.hid hm
      clear hfin hig hlt HV HBR hm
      obtain ⟨W, hW⟩ : ∃ W, W = wr := ⟨_, rfl⟩
      subst hW
      have hsz : (T.size : Int) = m := by rw [HM.out]
      go_upto_region 10 with (fail)
      go_wp2_with fail
      go_loopg [11, 12] m (fun hk aa ii wx => ∃ i kk : Nat, i + hk = m ∧ aa = .int .i64 kk ∧ ii = .int .i64 i ∧ kk ≤ i ∧ Hid (kk = lfs (T.data.toList.take i)) ∧ W = wx)
      case atStart => exact ⟨0, 0, by omega, rfl, rfl, Nat.le_refl _, Lib.hid (by simp [lfs]), rfl⟩
      case round =>
        obtain ⟨i, kk, hig, rfl, rfl, hki, HK, rfl⟩ := hrel
        by_cases hlt : i < m
        · have hk1 : (i : Int) < m := by omega
          have hk2 : (i : Int) < (T.size : Int) := by rw [hsz]; exact hk1
          have hti : i < T.size := by rw [HM.out]; exact hlt
          have hcc : T.data.toList[i]? = some (T[i]'hti) := by
            rw [Array.getElem?_toList]
            exact Array.getElem?_eq_getElem hti
          have HTK : Hid (lfs (T.data.toList.take (i + 1)) = lfs (T.data.toList.take i) + (if (T[i]'hti).toNat = 10 then 1 else 0)) := Lib.hid (by
            rw [List.take_add_one, hcc, lfs_app]
            congr 1
            show lfs [T[i]'hti] = _
            unfold lfs
            rw [List.countP_singleton]
            congr 1
            simp [← UInt8.toNat_inj])
          have hw : IntKind.i64.wrap ((kk : Int) + 1) = ((kk + 1 : Nat) : Int) := IntWalk.i64_in _ (by constructor <;> omega)
          clear hcc
          by_cases h10 : (T[i]'hti).toNat = 10
          · have b10 : (((T[i]'hti).toNat : Int) == 10) = true := by simp [h10]
            have HK2 : Hid (kk + 1 = lfs (T.data.toList.take (i + 1))) := Lib.hid (by rw [HTK.out, if_pos h10, ← HK.out])
            clear HTK h10
            go_wp2_with fail
            go_roundg (gk - 1)
            case measure => omega
            case rel => exact ⟨i + 1, kk + 1, by omega, by go_num, by go_num, by omega, HK2, rfl⟩
          · have b10 : (((T[i]'hti).toNat : Int) == 10) = false := by simp; omega
            have HK2 : Hid (kk = lfs (T.data.toList.take (i + 1))) := Lib.hid (by rw [HTK.out, if_neg h10, ← HK.out]; rfl)
            clear HTK h10
            go_wp2_with fail
            go_roundg (gk - 1)
            case measure => omega
            case rel => exact ⟨i + 1, kk, by omega, rfl, by go_num, by omega, HK2, rfl⟩
        · obtain rfl : m = i := by omega
          have hkr : kk = rowsP P := by
            rw [HK.out, List.take_of_length_le (by rw [size_list]; exact Nat.le_of_eq HM.out), ← HT.out, str_list]
            exact prgT_lf HRP.out
          have hav : av = (kk : Int) := by
            rw [HFN.out, ← hkr]
            unfold wrap64
            omega
          obtain ⟨a, ha⟩ := prgT_last P
          have hpos : 0 < m := by
            rw [← HM.out, ← HT.out, str_size, ha, List.length_append, List.length_singleton]
            exact Nat.succ_pos _
          have hlast : ∀ h : m - 1 < T.size, (((T[m - 1]'h).toNat : Int) == 10) = true := fun h => by
            have e1 : T.data.toList[m - 1]? = some (T[m - 1]'h) := by
              rw [Array.getElem?_toList]
              exact Array.getElem?_eq_getElem h
            obtain ⟨z, hz⟩ : ∃ z, (T[m - 1]'h) = z := ⟨_, rfl⟩
            rw [hz] at e1 ⊢
            have e2 : m - 1 = a.length := by rw [← HM.out, ← HT.out, str_size, ha, List.length_append, List.length_singleton]; rfl
            rw [← HT.out, str_list, ha, e2, List.getElem?_append_right (Nat.le_refl _), Nat.sub_self] at e1
            have e3 : (10 : UInt8) = z := Option.some.inj e1
            rw [← e3]
            rfl
          have HLS := Lib.hid hlast
          have hp1 : (0 : Int) < (T.size : Int) := by rw [hsz]; omega
          have hp2 : (0 : Int) < (m : Int) := by omega
          have v1 : IntKind.i64.wrap ((m : Int) - 1) = (m : Int) - 1 := IntWalk.i64_in _ (by constructor <;> omega)
          have v2 : ((m : Int) - 1).toNat = m - 1 := by omega
          have v3 : (0 : Int) ≤ (m : Int) - 1 := by omega
          have v4 : m - 1 < T.size := by rw [HM.out]; omega
          subst hav
          clear hkr ha hlast hig hki hlt
          go_upto_region 15 with (fail)
          go_wp2_with fail
          go_ret
          exact ⟨rb (HLS.out v4), HB.out⟩
end Go.Proofs.YthlnjnmomnpnpaaDoor
