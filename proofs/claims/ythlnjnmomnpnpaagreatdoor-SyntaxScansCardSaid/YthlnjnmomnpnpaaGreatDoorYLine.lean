/- Package syntax: a line is printed. -/
import Derived.Test.YthlnjnmomnpnpaaGreatDoorYItoa
import Derived.Test.YthlnjnmomnpnpaaGreatDoorYText
import Derived.Deep.LoopGhost
import Derived.Deep.DeepCutAuto
import Derived.Deep.CutBlock
namespace Go.Proofs.YthlnjnmomnpnpaaGreatDoor
open Go.RowKit Tk Sy
set_option linter.unusedVariables false
set_option linter.unusedSimpArgs false
/-- the pieces of a line lie in a block of their own -/
abbrev pcA (ps : List ByteArray) : Array Value := (ps.map Value.string).toArray
def pcs (ps : List ByteArray) : List Bs := ps.map fun s => s.data.toList
theorem pc_get {w : World} {P : Nat} {ps : List ByteArray} (h : w.heap[P]? = some (.cells (pcA ps) 9 (0, 0))) {j : Nat} {x : ByteArray} (hj : ps[j]? = some x) : w.cell? ⟨P, j, none⟩ = some (.string x) := by
  rw [cell_of_heap h]
  simp [pcA, hj]
theorem flat_take {ps : List Bs} {j : Nat} {x : Bs} (h : ps[j]? = some x) : (ps.take (j + 1)).flatten = (ps.take j).flatten ++ x := by
  rw [List.take_add_one, h, List.flatten_append]
  simp
theorem flat_le (ps : List Bs) (j : Nat) : (ps.take j).flatten.length ≤ ps.flatten.length := by
  have h : ps.flatten = (ps.take j).flatten ++ (ps.drop j).flatten := by rw [← List.flatten_append, List.take_append_drop]
  rw [h, List.length_append]
  omega
set_option maxRecDepth 100000 in
set_option maxHeartbeats 8000000 in
theorem line_st (ps : List ByteArray) (W0 w : World) (b P c : Nat) (l : Bs) (k : Nat) (hST : StP W0 b l (k : Int) w) (hPc : w.heap[P]? = some (.cells (pcA ps) 9 (0, 0))) (hlen : l.length + (lineT k (pcs ps)).length ≤ 70368744177664) (hps : ps.length ≤ 1000) :
    Calls Tryz.prog 57 #[.pointer (some ⟨b, 0, none⟩), .slice (some ⟨P, 0, none⟩) ps.length c] w fun r w' => r = .returned (.tuple #[]) ∧ StP W0 b (l ++ lineT k (pcs ps)) (k : Int) w' ∧ Pv b w w' := by
  have HPC := Lib.hid hPc
  have hPb : P ≠ b := by
    rintro rfl
    rcases hST.pr with h | h
    all_goals
      obtain ⟨_, v, hb, _⟩ := h
      rw [hPc] at hb
      injection hb with hb
      injection hb with _ hb _
      cases hb
  have HPB := Lib.hid hPb
  have hl2 : (lineT k (pcs ps)).length = k + (pcs ps).flatten.length + 1 := by
    unfold lineT
    rw [List.length_append, List.length_append, List.length_replicate]
    rfl
  rw [hl2] at hlen
  clear hl2
  obtain ⟨Q, hQ⟩ : ∃ Q, pcs ps = Q := ⟨_, rfl⟩
  rw [hQ] at hlen ⊢
  have HQ := Lib.hid hQ
  clear hQ
  obtain ⟨n, hn⟩ : ∃ n, ps.length = n := ⟨_, rfl⟩
  rw [hn] at hps ⊢
  have HN := Lib.hid hn
  have HST := Lib.hid hST
  obtain ⟨_, _, t2, _⟩ := hST.ne
  clear hST hPc hPb hn
  go_enter Tryz.func57, Tryz.ntmps57
  go_wp2_with fail
  go_loopg [10] k (fun gk ii wr => ∃ i : Nat, i + gk = k ∧ ii = .int .i64 i ∧ Hid (StP W0 b (l ++ List.replicate i 9) (k : Int) wr) ∧ Hid (Pv b w wr))
  case atStart => exact ⟨0, by omega, rfl, by simpa using HST, Lib.hid (Pv.refl _ _)⟩
  case round =>
    obtain ⟨i, hig, rfl, HSi, HPi⟩ := hrel
    by_cases hlt : i < k
    · have hk1 : (i : Int) < (k : Int) := by omega
      go_wp2_with fail
      refine (wb_st 9 rfl HSi.out (by rw [List.length_append, List.length_replicate]; omega)).mono ?_
      rintro r w1 ⟨rfl, hst, hpv⟩
      have hst' : StP W0 b (l ++ List.replicate (i + 1) 9) (k : Int) w1 := by rw [show l ++ List.replicate (i + 1) 9 = l ++ List.replicate i 9 ++ [9] by rw [List.replicate_succ', List.append_assoc]]; exact hst
      have HSi := Lib.hid hst'
      have HPi := Lib.hid (HPi.out.trans hpv)
      clear hst hst' hpv
      go_wp2_with fail
      go_roundg (gk - 1)
      case measure => omega
      case rel => exact ⟨i + 1, by omega, by go_num, HSi, HPi⟩
    · obtain rfl : i = k := by omega
      obtain ⟨L1, hL1⟩ : ∃ L, l ++ List.replicate i 9 = L := ⟨_, rfl⟩
      rw [hL1] at HSi
      have hL1l : L1.length = l.length + i := by rw [← hL1, List.length_append, List.length_replicate]
      have HL1 := Lib.hid hL1
      clear hL1
      go_wp2_with fail
      obtain ⟨wq, hwq⟩ : ∃ W, wr = W := ⟨_, rfl⟩
      rw [hwq] at HSi HPi ⊢
      clear hwq
      go_loopg [19] n (fun gk jj wx => ∃ j : Nat, j + gk = n ∧ jj = .int .i64 j ∧ Hid (StP W0 b (L1 ++ (Q.take j).flatten) (i : Int) wx) ∧ Hid (Pv b w wx))
      case atStart => exact ⟨0, by omega, rfl, by simpa using HSi, HPi⟩
      case round =>
        obtain ⟨j, hjg, rfl, HSj, HPj⟩ := hrel
        by_cases hlt2 : j < n
        · have hk2 : (j : Int) < (n : Int) := by omega
          obtain ⟨x, hx⟩ : ∃ x, ps[j]? = some x := ⟨_, List.getElem?_eq_getElem (by rw [HN.out]; exact hlt2)⟩
          have hq : Q[j]? = some x.data.toList := by rw [← HQ.out]; unfold pcs; rw [List.getElem?_map, hx]; rfl
          have cx := pc_get (HPj.out.stays HPC.out HPB.out (by decide)) hx
          have e1 := flat_take hq
          have e2 := flat_le Q (j + 1)
          rw [e1, List.length_append] at e2
          have HE1 := Lib.hid e1
          clear hx hq e1
          go_wp2_with fail
          refine (ws_st (S := x.data.toList) rfl HSj.out (by rw [List.length_append]; omega)).mono ?_
          rintro r w1 ⟨rfl, hst, hpv⟩
          have hst' : StP W0 b (L1 ++ (Q.take (j + 1)).flatten) (i : Int) w1 := by rw [HE1.out, ← List.append_assoc]; exact hst
          have HSj := Lib.hid hst'
          have HPj := Lib.hid (HPj.out.trans hpv)
          clear hst hst' hpv cx
          go_wp2_with fail
          go_roundg (gk - 1)
          case measure => omega
          case rel => exact ⟨j + 1, by omega, by go_num, HSj, HPj⟩
        · obtain rfl : j = n := by omega
          have hQl : Q.length = j := by rw [← HQ.out]; unfold pcs; rw [List.length_map]; exact HN.out
          have hfl : (Q.take j).flatten = Q.flatten := by rw [List.take_of_length_le (Nat.le_of_eq hQl)]
          rw [hfl] at HSj
          clear hfl hQl
          go_wp2_with fail
          refine (wb_st 10 rfl HSj.out (by rw [List.length_append]; omega)).mono ?_
          rintro r w1 ⟨rfl, hst, hpv⟩
          have hst' : StP W0 b (l ++ lineT i Q) (i : Int) w1 := by
            rw [show l ++ lineT i Q = L1 ++ Q.flatten ++ [10] by unfold lineT; rw [← HL1.out]; simp]
            exact hst
          have HS9 := Lib.hid hst'
          have HP9 := Lib.hid (HPj.out.trans hpv)
          clear hst hst' hpv
          go_wp2_with fail
          go_end0
          exact ⟨rfl, HS9.out, HP9.out⟩
end Go.Proofs.YthlnjnmomnpnpaaGreatDoor
