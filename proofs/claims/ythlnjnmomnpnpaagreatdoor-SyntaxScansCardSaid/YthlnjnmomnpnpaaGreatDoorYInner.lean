/- Package syntax: statements within braces are printed, where each is. -/
import Derived.Test.YthlnjnmomnpnpaaGreatDoorYLine
import Derived.Test.YthlnjnmomnpnpaaGreatDoorYExpr
import Derived.Test.YthlnjnmomnpnpaaGreatDoorYStmts
namespace Go.Proofs.YthlnjnmomnpnpaaGreatDoor
open Go.RowKit Tk Sy
set_option linter.unusedVariables false
set_option linter.unusedSimpArgs false
def StOk (d : Nat) : Prop := ∀ (x : St) (W0 w : World) (q q1 q2 : Option Addr) (c c1 c2 b : Nat) (l : Bs) (k : Nat), bodyS d x = true → EAt W0 q x.args → SAt W0 q1 x.thn → SAt W0 q2 x.els → WfS x → Texts W0 → PowAt W0 → StP W0 b l (k : Int) w → k + d ≤ 1000 → l.length + (stT d k x).length ≤ 70368744177664 →
  Calls Tryz.prog 118 #[.pointer (some ⟨b, 0, none⟩), stV q c q1 c1 q2 c2 x] w fun r w' => r = .returned (.tuple #[]) ∧ StP W0 b (l ++ stT d k x) (k : Int) w' ∧ Pv b w w'
theorem flatMap_take {α : Type} (f : α → Bs) {xs : List α} {j : Nat} {x : α} (h : xs[j]? = some x) : (xs.take (j + 1)).flatMap f = (xs.take j).flatMap f ++ f x := by
  rw [List.take_add_one, h, List.flatMap_append]
  simp
theorem flatMap_le {α : Type} (f : α → Bs) (xs : List α) (j : Nat) : ((xs.take j).flatMap f).length ≤ (xs.flatMap f).length := by
  have h : xs.flatMap f = (xs.take j).flatMap f ++ (xs.drop j).flatMap f := by rw [← List.flatMap_append, List.take_append_drop]
  rw [h, List.length_append]
  omega
set_option maxRecDepth 100000 in
set_option maxHeartbeats 8000000 in
theorem inner_ok {d : Nat} (IH : StOk d) (xs : List St) (W0 w : World) (q : Option Addr) (c b : Nat) (l : Bs) (k : Nat) (S : Bs) (hS : xs.flatMap (stT d (k + 1)) = S) (hok : areS d xs = true) (hE : SAt W0 q xs) (hn : xs.length ≤ 9223372036854775807) (hX : Texts W0) (hP : PowAt W0) (hST : StP W0 b l (k : Int) w) (hkd : k + 1 + d ≤ 1000) (hlen : l.length + S.length ≤ 70368744177664) :
    Calls Tryz.prog 96 #[.pointer (some ⟨b, 0, none⟩), .slice q xs.length c] w fun r w' => r = .returned (.tuple #[]) ∧ StP W0 b (l ++ S) (k : Int) w' ∧ Pv b w w' := by
  have HIH := Lib.hid IH
  have HE := Lib.hid hE
  have HTX := Lib.hid hX
  have HP := Lib.hid hP
  have HS := Lib.hid hS
  rw [areS_all, List.all_eq_true] at hok
  have HOK := Lib.hid hok
  obtain ⟨n, hnn⟩ : ∃ n, xs.length = n := ⟨_, rfl⟩
  rw [hnn] at hn ⊢
  have HN := Lib.hid hnn
  obtain ⟨_, _, t2, f2⟩ := hST.ne
  have hst1 := hST.tabs ((k : Int) + 1)
  have HS1 := Lib.hid hst1
  have HP1 := Lib.hid (Pv.set b 2 w (.int .i64 ((k : Int) + 1)))
  have hkw : IntKind.i64.wrap ((k : Int) + 1) = (k : Int) + 1 := IntWalk.i64_in _ (by constructor <;> omega)
  clear IH hE hX hP hS hok hnn hst1 hST
  go_enter Tryz.func96, Tryz.ntmps96
  go_wp2_with fail
  generalize w.setCell ⟨b, 2, none⟩ (.int .i64 ((k : Int) + 1)) = W1 at HS1 HP1 ⊢
  clear t2 f2
  go_loopg [15] n (fun gk jj wx => ∃ j : Nat, j + gk = n ∧ jj = .int .i64 j ∧ Hid (StP W0 b (l ++ (xs.take j).flatMap (stT d (k + 1))) ((k : Int) + 1) wx) ∧ Hid (Pv b w wx))
  case atStart => exact ⟨0, by omega, rfl, by simpa using HS1, HP1⟩
  case round =>
    obtain ⟨j, hjg, rfl, HSj, HPj⟩ := hrel
    by_cases hlt : j < n
    · obtain ⟨x, hx⟩ : ∃ x, xs[j]? = some x := ⟨_, List.getElem?_eq_getElem (by rw [HN.out]; exact hlt)⟩
      obtain ⟨hw, b', o, q', c', q1, c1, q2, c2, rfl, hbl, ⟨k0, k1, k2, k3, k4, k5, k6⟩, hEa, hT, hL⟩ := (HE.out).get hx
      have hB := HSj.out.bel
      have m0 := (hB.cell (p := ⟨b', o + j * 7, none⟩) hbl).trans k0
      have m1 := (hB.cell (p := ⟨b', o + j * 7 + 1, none⟩) hbl).trans k1
      have m2 := (hB.cell (p := ⟨b', o + j * 7 + 2, none⟩) hbl).trans k2
      have m3 := (hB.cell (p := ⟨b', o + j * 7 + 3, none⟩) hbl).trans k3
      have m4 := (hB.cell (p := ⟨b', o + j * 7 + 4, none⟩) hbl).trans k4
      have m5 := (hB.cell (p := ⟨b', o + j * 7 + 5, none⟩) hbl).trans k5
      have m6 := (hB.cell (p := ⟨b', o + j * 7 + 6, none⟩) hbl).trans k6
      have e1 := flatMap_take (stT d (k + 1)) hx
      have e2 := flatMap_le (stT d (k + 1)) xs (j + 1)
      rw [e1, List.length_append, HS.out] at e2
      have HE1 := Lib.hid e1
      have HOx := Lib.hid (HOK.out x (List.mem_of_getElem? hx))
      have HW := Lib.hid hw
      have HEa := Lib.hid hEa
      have HT := Lib.hid hT
      have HL := Lib.hid hL
      have hk1 : (j : Int) < (n : Int) := by omega
      clear hx hw hEa hT hL k0 k1 k2 k3 k4 k5 k6 hB e1
      go_upto_region 4 with (fail)
      have hb9 := (Bel.refl wr).alloc (stA x q' c' q1 c1 q2 c2) 52
      have hx9 := heap_alloc_new wr (.cells (stA x q' c' q1 c1 q2 c2) 52)
      generalize wr.alloc (.cells (stA x q' c' q1 c1 q2 c2) 52) = W9 at hb9 hx9 ⊢
      generalize wr.heap.size = g9 at hx9 ⊢
      have HSj := Lib.hid (HSj.out.keep hb9)
      have HPj := Lib.hid (HPj.out.trans (hb9.pv b))
      clear m0 m1 m2 m3 m4 m5 m6 hb9
      have m0 := cell_of_heap hx9 0
      have m1 := cell_of_heap hx9 1
      have m2 := cell_of_heap hx9 2
      have m3 := cell_of_heap hx9 3
      have m4 := cell_of_heap hx9 4
      have m5 := cell_of_heap hx9 5
      have m6 := cell_of_heap hx9 6
      simp only [List.getElem?_toArray, List.getElem?_cons_zero, List.getElem?_cons_succ] at m0 m1 m2 m3 m4 m5 m6
      clear hx9
      go_wp2_with fail
      refine (HIH.out x W0 _ q' q1 q2 c' c1 c2 b _ (k + 1) HOx.out HEa.out HT.out HL.out HW.out HTX.out HP.out HSj.out (by omega) (by rw [List.length_append]; omega)).mono ?_
      rintro r w1 ⟨rfl, hst, hpv⟩
      have hst' : StP W0 b (l ++ (xs.take (j + 1)).flatMap (stT d (k + 1))) ((k : Int) + 1) w1 := by rw [HE1.out, ← List.append_assoc]; exact hst
      have HSj := Lib.hid hst'
      have HPj := Lib.hid (HPj.out.trans hpv)
      clear hst hst' hpv m0 m1 m2 m3 m4 m5 m6
      go_wp2_with fail
      go_roundg (gk - 1)
      case measure => omega
      case rel => exact ⟨j + 1, by omega, by go_num, HSj, HPj⟩
    · obtain rfl : j = n := by omega
      have hfl : (xs.take j).flatMap (stT d (k + 1)) = S := by rw [List.take_of_length_le (Nat.le_of_eq HN.out)]; exact HS.out
      rw [hfl] at HSj
      obtain ⟨_, _, t2, f2⟩ := HSj.out.ne
      have HS9 := Lib.hid (HSj.out.tabs (k : Int))
      have HP9 := Lib.hid (HPj.out.trans (Pv.set b 2 wr (.int .i64 (k : Int))))
      have hkw2 : IntKind.i64.wrap (k : Int) = (k : Int) := IntWalk.i64_in _ (by constructor <;> omega)
      clear hfl
      go_wp2_with fail
      go_end0
      exact ⟨rfl, HS9.out, HP9.out⟩
end Go.Proofs.YthlnjnmomnpnpaaGreatDoor
