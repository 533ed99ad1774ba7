/- Which images may be, by the document's own function. -/
import Derived.Test.YtbfmlbcjggplgaaGreatDoorIRefA
import Derived.Test.YtbfmlbcjggplgaaGreatDoorIRight
import Derived.Test.YtbfmlbcjggplgaaGreatDoorIPrint
namespace Go.Proofs.YtbfmlbcjggplgaaGreatDoor
open Go.RowKit Im
set_option linter.unusedVariables false
set_option linter.unusedSimpArgs false
set_option maxRecDepth 100000 in
set_option maxHeartbeats 40000000 in
theorem rRight_any (wp sp : Option Addr) (wc sc : Nat) (m : Img) (w : World) (H : Hid (ImgAt w wp sp m)) :
    Calls Tryz.prog 10 #[imgV wp sp wc sc m] w fun e w' => e = .returned (.bool (right m)) ∧ Bel w w' := by
  have lw := H.out.lw
  have ls := H.out.ls
  obtain ⟨m1, m2⟩ := H.out.mem
  have hbx := heap_alloc_new w (.cells #[.slice wp m.words.length wc, .int .i64 m.mem, .slice sp m.syms.length sc] 25)
  have hb0 := (Bel.refl w).alloc #[.slice wp m.words.length wc, .int .i64 m.mem, .slice sp m.syms.length sc] 25
  obtain ⟨W0, hW0⟩ : ∃ W, w.alloc (.cells #[.slice wp m.words.length wc, .int .i64 m.mem, .slice sp m.syms.length sc] 25) = W := ⟨_, rfl⟩
  obtain ⟨bx, hbxe⟩ : ∃ b, w.heap.size = b := ⟨_, rfl⟩
  rw [hW0] at hbx hb0
  rw [hbxe] at hbx
  have HW0 := Lib.hid hW0
  have HBXE := Lib.hid hbxe
  have HBX := Lib.hid hbx
  have HB0 := Lib.hid hb0
  have q0 := cell_of_heap hbx 0
  have q1 := cell_of_heap hbx 1
  have q2 := cell_of_heap hbx 2
  simp only [List.getElem?_toArray, List.getElem?_cons_zero, List.getElem?_cons_succ] at q0 q1 q2
  clear hW0 hbxe hbx hb0
  have HQ : Hid (∀ n, Bel w (W0.drewN n)) := Lib.hid (fun n => HB0.out.drewN n)
  by_cases h1 : ¬ m.words.length ≤ 65536
  · rw [right_no (Or.inl h1)]
    have hq' : (65536 : Int) < (m.words.length : Int) := by omega
    go_enter Tryz.func10, Tryz.ntmps10
    go_wp2_with fail
    go_ret
    exact ⟨rfl, by first | exact HB0.out | (rw [HW0.out]; exact HB0.out)⟩
  have t1 : decide ((65536 : Int) < (m.words.length : Int)) = false := decide_eq_false (by omega)
  by_cases h3 : ¬ 0 ≤ m.mem
  · rw [right_no (Or.inr (Or.inr (Or.inl h3)))]
    have hq' : m.mem < 0 := by omega
    go_enter Tryz.func10, Tryz.ntmps10
    go_wp2_with fail
    go_ret
    exact ⟨rfl, by first | exact HB0.out | (rw [HW0.out]; exact HB0.out)⟩
  have t3 : decide (m.mem < 0) = false := decide_eq_false (by omega)
  by_cases h4 : ¬ m.mem ≤ 4096
  · rw [right_no (Or.inr (Or.inr (Or.inr h4)))]
    have hq' : 4096 < m.mem := by omega
    go_enter Tryz.func10, Tryz.ntmps10
    go_wp2_with fail
    go_ret
    exact ⟨rfl, by first | exact HB0.out | (rw [HW0.out]; exact HB0.out)⟩
  have t4 : decide (4096 < m.mem) = false := decide_eq_false (by omega)
  by_cases h2 : ¬ m.syms.length ≤ 1000
  · rw [right_no (Or.inr (Or.inl h2))]
    have hq' : (1000 : Int) < (m.syms.length : Int) := by omega
    go_enter Tryz.func10, Tryz.ntmps10
    go_wp2_with fail
    go_ret
    exact ⟨rfl, by first | exact HB0.out | (rw [HW0.out]; exact HB0.out)⟩
  have t2 : decide ((1000 : Int) < (m.syms.length : Int)) = false := decide_eq_false (by omega)
  go_enter Tryz.func10, Tryz.ntmps10
  go_wp2_with fail
  rw [HW0.out, HBXE.out]
  clear t1 t2 t3 t4
  obtain ⟨R, hR⟩ : ∃ r, right m = r := ⟨_, rfl⟩
  have HRR := Lib.hid hR
  have h1 : m.words.length ≤ 65536 := by omega
  have h2 : m.syms.length ≤ 1000 := by omega
  have h3 : 0 ≤ m.mem := by omega
  have h4 : m.mem ≤ 4096 := by omega
  clear q0 q1 q2
  go_loopw [3] (fun i wr => ∃ k : Nat, k ≤ m.words.length ∧ i = .int .i64 k ∧ Hid (Bel W0 wr ∧ ∀ (j : Nat) (x : Int), j < k → m.words[j]? = some x → isWd x = true)) (fun i _ => m.words.length - (intOf i).toNat)
  case atStart => exact ⟨0, Nat.zero_le _, rfl, Bel.refl _, fun j x hj => by omega⟩
  case round =>
    obtain ⟨k, hk, rfl, HA⟩ := hrel
    have hbr := HA.out.1.stays HBX.out
    have q0 := cell_of_heap hbr 0
    have q2 := cell_of_heap hbr 2
    simp only [List.getElem?_toArray, List.getElem?_cons_zero, List.getElem?_cons_succ] at q0 q2
    clear hbr
    by_cases hlt : k < m.words.length
    · obtain ⟨x, hx⟩ : ∃ x, m.words[k]? = some x := ⟨_, List.getElem?_eq_getElem hlt⟩
      obtain ⟨b, o, rfl, _, e1⟩ := IntsQ.get (H.out.words.bel (HB0.out.trans HA.out.1)) hx
      have hk' : (k : Int) < (m.words.length : Int) := by omega
      have HX := Lib.hid hx
      have HLT := Lib.hid hlt
      obtain ⟨r, hr⟩ : ∃ r, isWd x = r := ⟨_, rfl⟩
      have HQ := Lib.hid hr
      clear hx hlt hr q2
      cases r with
      | true =>
        have HN9 : Hid (Bel W0 wr ∧ ∀ (j : Nat) (x : Int), j < k + 1 → m.words[j]? = some x → isWd x = true) := ⟨HA.out.1, fun j y hj hy => by
          by_cases e : j = k
          · subst e
            rw [HX.out] at hy
            obtain rfl := Option.some.inj hy
            exact HQ.out
          · exact HA.out.2 j y (by omega) hy⟩
        have hw : 0 ≤ x ∧ x ≤ 4294967295 := of_decide_eq_true HQ.out
        obtain ⟨w1, w2⟩ := hw
        go_wp2_with fail
        go_roundw
        case rel => exact ⟨k + 1, HLT.out, by go_num, HN9.out⟩
        case measure => simp [intOf]; have := HLT.out; omega
      | false =>
        have HF := Lib.hid (right_word HX.out HQ.out)
        have hw : ¬ (0 ≤ x ∧ x ≤ 4294967295) := of_decide_eq_false HQ.out
        rcases (show x < 0 ∨ 4294967296 ≤ x by omega) with hw | hw
        · go_wp2_with fail
          go_ret
          exact ⟨rb (by first | exact HF.out.symm | exact HF.out.symm.trans HRR.out), HB0.out.trans HA.out.1⟩
        · go_wp2_with fail
          go_ret
          exact ⟨rb (by first | exact HF.out.symm | exact HF.out.symm.trans HRR.out), HB0.out.trans HA.out.1⟩
    · obtain rfl : k = m.words.length := by omega
      have HWD := Lib.hid (show ∀ (j : Nat) (x : Int), m.words[j]? = some x → isWd x = true from fun j x hj => HA.out.2 j x (List.getElem?_eq_some_iff.1 hj).1 hj)
      have HB1 := Lib.hid (HB0.out.trans HA.out.1)
      have HBX1 := Lib.hid (HA.out.1.stays HBX.out)
      clear hlt hk HA
      go_wp2_with fail
      go_loopw [4] (fun i wr => ∃ k : Nat, k ≤ m.syms.length ∧ i = .int .i64 k ∧ Hid (Bel w wr ∧ wr.heap[bx]? = some (.cells #[.slice wp m.words.length wc, .int .i64 m.mem, .slice sp m.syms.length sc] 25 (0, 0)) ∧ ∀ j, j < k → symOk m j = true)) (fun i _ => m.syms.length - (intOf i).toNat)
      case atStart => exact ⟨0, Nat.zero_le _, rfl, HB1.out, HBX1.out, fun j hj => by omega⟩
      case round =>
        obtain ⟨wq, rfl⟩ : ∃ W, W = wr := ⟨_, rfl⟩
        obtain ⟨k, hk, rfl, HA⟩ := hrel
        have q0 := cell_of_heap HA.out.2.1 0
        have q2 := cell_of_heap HA.out.2.1 2
        simp only [List.getElem?_toArray, List.getElem?_cons_zero, List.getElem?_cons_succ] at q0 q2
        by_cases hlt : k < m.syms.length
        · obtain ⟨⟨xs, xp⟩, hx⟩ : ∃ x, m.syms[k]? = some x := ⟨_, List.getElem?_eq_getElem hlt⟩
          obtain ⟨b, o, hspe, hbl, e1, e2⟩ := SymsQ.get (H.out.syms.bel HA.out.1) hx
          subst hspe
          simp only at e1 e2
          have hk' : (k : Int) < (m.syms.length : Int) := by omega
          have HX := Lib.hid hx
          have HLT := Lib.hid hlt
          have HNS := Lib.hid (H.out.wfs _ (List.mem_of_getElem? hx)).1
          obtain ⟨r1, hr1⟩ : ∃ r, isLab xs = r := ⟨_, rfl⟩
          obtain ⟨r2, hr2⟩ : ∃ r, isPl xp (m.words.length : Int) = r := ⟨_, rfl⟩
          have HR1 := Lib.hid hr1
          have HR2 := Lib.hid hr2
          have hsy : symOk m k = (r1 && r2 && prevOk m xs k) := by
            unfold symOk
            rw [hx]
            simp only [hr1, hr2]
          have HSY := Lib.hid hsy
          have HLAB : Hid (∀ w, Calls Tryz.prog 28 #[.string xs] w fun e w' => e = .returned (.bool r1) ∧ w = w') := Lib.hid (by rw [← hr1]; exact labR_any xs HNS.out)
          clear hx hlt hr1 hr2 hsy
          have HBL := Lib.hid hbl
          clear hbl q0
          go_wp2_with (go_at_call 28; refine (HLAB.out _).mono ?_; rintro e w' ⟨rfl, rfl⟩)
          have hx6 := heap_alloc_new wq (.cells #[.string xs, .int .i64 xp] 42)
          have hb6 := (Bel.refl wq).alloc #[.string xs, .int .i64 xp] 42
          have hbx6 := hb6.stays HA.out.2.1
          generalize wq.alloc (.cells #[.string xs, .int .i64 xp] 42) = W6 at hx6 hb6 hbx6 ⊢
          obtain ⟨xB, hxB⟩ : ∃ q, q = wq.heap.size := ⟨_, rfl⟩
          rw [← hxB] at hx6 ⊢
          clear hxB
          have HB6 := Lib.hid (HA.out.1.trans hb6)
          have HBX6 := Lib.hid hbx6
          have q0 := cell_of_heap hbx6 0
          have q2 := cell_of_heap hbx6 2
          have s0 := cell_of_heap hx6 0
          have s1 := cell_of_heap hx6 1
          simp only [List.getElem?_toArray, List.getElem?_cons_zero, List.getElem?_cons_succ] at q0 q2 s0 s1
          clear hx6 hbx6 e1 e2 hb6
          have hLW : m.words.length ≤ 65536 := h1
          have v4 : IntKind.i64.wrap (4 * (m.words.length : Int)) = 4 * (m.words.length : Int) := IntWalk.i64_in _ (by constructor <;> omega)
          cases r1 with
          | false =>
            have HF := Lib.hid (right_sym HLT.out (HSY.out.trans (by simp)))
            go_quiet (fail)
            go_wp2_with fail
            go_ret
            exact ⟨rb (by first | exact HF.out.symm | exact HF.out.symm.trans HRR.out), HB6.out.drewN _⟩
          | true =>
            cases r2 with
            | false =>
              have HF := Lib.hid (right_sym HLT.out (HSY.out.trans (by simp)))
              have hp : ¬ (0 ≤ xp ∧ xp ≤ 4 * (m.words.length : Int) ∧ xp % 4 = 0) := of_decide_eq_false HR2.out
              by_cases p1 : xp < 0
              · clear hp
                go_quiet (fail)
                go_wp2_with fail
                go_ret
                exact ⟨rb (by first | exact HF.out.symm | exact HF.out.symm.trans HRR.out), HB6.out.drewN _⟩
              have t1 : decide (xp < 0) = false := decide_eq_false p1
              by_cases p2 : 4 * (m.words.length : Int) < xp
              · clear hp
                go_quiet (fail)
                go_wp2_with fail
                go_ret
                exact ⟨rb (by first | exact HF.out.symm | exact HF.out.symm.trans HRR.out), HB6.out.drewN _⟩
              have t2 : decide (4 * (m.words.length : Int) < xp) = false := decide_eq_false p2
              obtain ⟨e, he⟩ : ∃ e, xp.tmod 4 = e := ⟨_, rfl⟩
              have p3 : ¬ e = 0 := by rw [← he, Int.tmod_eq_emod_of_nonneg (by omega)]; omega
              have t3 : (e == 0) = false := by simp [p3]
              have t4 : (e != 0) = true := by simp [p3]
              clear p3
              clear hp
              go_quiet (fail)
              go_wp2_with fail
              go_ret
              exact ⟨rb (by first | exact HF.out.symm | exact HF.out.symm.trans HRR.out), HB6.out.drewN _⟩
            | true =>
              have hp : (0 ≤ xp ∧ xp ≤ 4 * (m.words.length : Int) ∧ xp % 4 = 0) := of_decide_eq_true HR2.out
              obtain ⟨p1, p2, p3⟩ := hp
              have t1 : decide (xp < 0) = false := decide_eq_false (by omega)
              have t2 : decide (4 * (m.words.length : Int) < xp) = false := decide_eq_false (by omega)
              have t3 : xp.tmod 4 = 0 := by rw [Int.tmod_eq_emod_of_nonneg (by omega)]; omega
              cases k with
              | zero =>
                have HOK : Hid (symOk m 0 = true) := Lib.hid (HSY.out.trans rfl)
                go_quiet (fail)
                go_wp2_with fail
                go_roundw
                case rel => exact ⟨0 + 1, HLT.out, by go_num, HB6.out.drewN _, HBX6.out, fun j hj => by have e : j = 0 := (by omega); rw [e]; exact HOK.out⟩
                case measure => simp [intOf]; have := HLT.out; omega
              | succ j =>
                obtain ⟨⟨ys, yp⟩, hy⟩ : ∃ y, m.syms[j]? = some y := ⟨_, List.getElem?_eq_getElem (by have := HLT.out; omega)⟩
                obtain ⟨b', o', hspe, _, e3, _⟩ := SymsQ.get (H.out.syms.bel HB6.out) hy
                obtain ⟨rfl, rfl⟩ : b' = b ∧ o' = o := by
                  have := Option.some.inj hspe
                  injection this with h1 h2
                  exact ⟨h1.symm, h2.symm⟩
                simp only at e3
                have vk : IntKind.i64.wrap (((j + 1 : Nat) : Int) - 1) = (j : Int) := by rw [IntWalk.i64_in _ (by constructor <;> omega)]; omega
                have hpr : prevOk m xs (j + 1) = less ys xs := by show (match m.syms[j]? with | none => true | some y => less y.name xs) = _; rw [hy]
                obtain ⟨r3, hr3⟩ : ∃ r, less ys xs = r := ⟨_, rfl⟩
                rw [hpr, hr3] at HSY
                have hgt : (0 : Int) < ((j + 1 : Nat) : Int) := by omega
                have hj1 : (j : Int) < (m.syms.length : Int) := by have := HLT.out; omega
                unfold less at hr3
                clear hy hspe hpr
                cases r3 with
                | false =>
                  have HF := Lib.hid (right_sym HLT.out (HSY.out.trans (by simp)))
                  go_quiet (fail)
                  go_wp2_with fail
                  go_ret
                  exact ⟨rb (by first | exact HF.out.symm | exact HF.out.symm.trans HRR.out), HB6.out.drewN _⟩
                | true =>
                  have HOK : Hid (symOk m (j + 1) = true) := Lib.hid (HSY.out.trans rfl)
                  go_quiet (fail)
                  go_wp2_with fail
                  go_roundw
                  case rel => exact ⟨j + 1 + 1, HLT.out, by go_num, HB6.out.drewN _, HBX6.out, fun i hi => by
                    by_cases e : i = j + 1
                    · subst e; exact HOK.out
                    · exact HA.out.2.2 i (by omega)⟩
                  case measure => simp [intOf]; have := HLT.out; omega
        · obtain rfl : k = m.syms.length := by omega
          have hT : right m = true := right_yes h1 h2 h3 h4 HWD.out HA.out.2.2
          have HT := Lib.hid hT
          clear hT
          go_wp2_with fail
          go_ret
          exact ⟨rb (by first | exact HT.out.symm | exact HT.out.symm.trans HRR.out), HA.out.1⟩
end Go.Proofs.YtbfmlbcjggplgaaGreatDoor
