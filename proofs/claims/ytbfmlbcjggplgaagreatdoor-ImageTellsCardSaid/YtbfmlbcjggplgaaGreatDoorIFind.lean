/- A symbol's place. -/
import Derived.Test.YtbfmlbcjggplgaaGreatDoorIFindP
import Derived.Test.YtbfmlbcjggplgaaGreatDoorIShelf
import Derived.BigQuiet
import Derived.Deep.QuietTactic
import Derived.Laws.Cover1
namespace Go.Proofs.YtbfmlbcjggplgaaGreatDoor
open Go.RowKit Im
set_option linter.unusedVariables false
set_option maxHeartbeats 4000000 in
theorem find1_lit {bx bn b o n c i : Nat} {xs name : ByteArray} {r : Bool} (hi : i < n) (hn : n ≤ 1000) (h : (!less xs name) = r) (W : World)
    (h1 : W.cell? ⟨bx, 2, none⟩ = some (.slice (some ⟨b, o, none⟩) n c)) (h2 : W.cell? ⟨bn, 0, none⟩ = some (.string name)) (h3 : W.cell? ⟨b, o + i * 2, none⟩ = some (.string xs)) :
    Calls Tryz.prog 30 #[.int .i64 i, .pointer (some ⟨bx, 0, none⟩), .pointer (some ⟨bn, 0, none⟩)] W fun e w' => e = .returned (.bool r) ∧ ∃ q, w' = W.drewN q := by
  have i1 : (i : Int) < (n : Int) := by omega
  have i2 : (0 : Int) ≤ (i : Int) := by omega
  have hl : (!Op.bytesLess xs.toList name.toList) = r := h
  have HL := Lib.hid hl
  clear h hl
  go_enter Tryz.func30, Tryz.ntmps30
  go_wp2_with fail
  go_quiet (fail)
  go_wp2_with fail
  go_ret
  exact ⟨congrArg (fun b => Ending.returned (.bool b)) HL.out, _, rfl⟩
theorem grow_nil (w : World) : Go.Sort.grow w #[] = w := by
  unfold Go.Sort.grow
  simp
theorem search_lit {bx bn c k : Nat} {sp : Option Addr} {m : Img} {name : ByteArray} (hm : right m = true) (hk : ahead m name = k) (w : World)
    (h1 : w.cell? ⟨bx, 2, none⟩ = some (.slice sp m.syms.length c)) (h2 : w.cell? ⟨bn, 0, none⟩ = some (.string name)) (hbx : bx < w.heap.size) (hbn : bn < w.heap.size) (H : SymsQ w sp m.syms) :
    Calls Tryz.prog 29 #[.int .i64 m.syms.length, .func (.func 30) #[] #[.pointer (some ⟨bx, 0, none⟩), .pointer (some ⟨bn, 0, none⟩)]] w fun e w' => e = .returned (.int .i64 k) ∧ Bel w w' := by
  subst hk
  have hlen := (right_parts hm).2.1
  have hS := Any.sort_Search (P := Tryz.prog) Tryz.laysO16 30 #[.pointer (some ⟨bx, 0, none⟩), .pointer (some ⟨bn, 0, none⟩)] m.syms.length (notLess m name) w (enters_of Tryz.func30 (by kernel_rfl) rfl) (by omega)
    (fun mm os i hi => by
      have hb : Bel w (Go.Sort.grow (w.drewN mm) os) := below_grown_sl _ w mm os (Nat.le_refl _)
      obtain ⟨⟨xs, xp⟩, hx⟩ : ∃ x, m.syms[i]? = some x := ⟨_, List.getElem?_eq_getElem hi⟩
      obtain ⟨b, o, rfl, hbl, e1, _⟩ := SymsQ.get H hx
      refine (find1_lit (xs := xs) (r := notLess m name i) hi hlen (by unfold notLess; rw [hx]) _ ((hb.cell (p := ⟨bx, 2, none⟩) hbx).trans h1) ((hb.cell (p := ⟨bn, 0, none⟩) hbn).trans h2) ((hb.cell (p := ⟨b, o + i * 2, none⟩) hbl).trans e1)).mono ?_
      rintro e w' ⟨rfl, q, rfl⟩
      exact ⟨rfl, q, #[], (grow_nil _).symm⟩)
    (fun a b hab hb ha => notLess_mono hm name a b hab hb ha)
  refine hS.mono ?_
  rintro e w' ⟨rfl, q, os, rfl⟩
  exact ⟨rfl, below_grown_sl _ w q os (Nat.le_refl _)⟩
set_option maxHeartbeats 4000000 in
theorem find_no {wp sp : Option Addr} {wc sc : Nat} {m : Img} {name : ByteArray} (h : right m = false) (w : World) (H : Hid (ImgAt w wp sp m)) :
    Calls Tryz.prog 13 #[imgV wp sp wc sc m, .string name] w fun e w' => e = .returned (.int .i64 (-1)) ∧ Bel w w' := by
  have HR := Lib.hid h
  clear h
  go_enter Tryz.func13, Tryz.ntmps13
  go_wp2_with fail
  have hb0 := ((Bel.refl w).alloc (boxV wp sp wc sc m) 25).alloc #[.string name] 9
  generalize (w.alloc (.cells (boxV wp sp wc sc m) 25)).alloc (.cells #[.string name] 9) = W0 at hb0 ⊢
  have HB0 := Lib.hid hb0
  clear hb0
  refine (right_lit HR.out _ (Lib.hid (H.out.bel HB0.out))).mono ?_
  rintro e w1 ⟨rfl, hb⟩
  have HB := Lib.hid (HB0.out.trans hb)
  clear hb
  go_wp2_with fail
  go_ret
  exact ⟨rfl, HB.out⟩
/-- the heads of the two ways below -/
def FindSt (w : World) (bx : Nat) (wp sp : Option Addr) (wc sc : Nat) (m : Img) (name : ByteArray) (W : World) : Prop := Bel w W ∧ W.heap[bx]? = some (.cells (boxV wp sp wc sc m) 25 (0, 0)) ∧ W.heap[bx + 1]? = some (.cells #[.string name] 9 (0, 0))
theorem FindSt.bel {w : World} {bx : Nat} {wp sp : Option Addr} {wc sc : Nat} {m : Img} {name : ByteArray} {W W' : World} (h : FindSt w bx wp sp wc sc m name W) (hb : Bel W W') : FindSt w bx wp sp wc sc m name W' := ⟨h.1.trans hb, hb.stays h.2.1, hb.stays h.2.2⟩
theorem findSt_new (w : World) (wp sp : Option Addr) (wc sc : Nat) (m : Img) (name : ByteArray) : FindSt w w.heap.size wp sp wc sc m name ((w.alloc (.cells (boxV wp sp wc sc m) 25)).alloc (.cells #[.string name] 9)) := by
  have h1 := heap_alloc_new w (.cells (boxV wp sp wc sc m) 25)
  have h2 := heap_alloc_new (w.alloc (.cells (boxV wp sp wc sc m) 25)) (.cells #[.string name] 9)
  rw [World.size_alloc] at h2
  exact ⟨((Bel.refl w).alloc _ _).alloc _ _, ((Bel.refl _).alloc _ _).stays h1, h2⟩
set_option maxHeartbeats 4000000 in
theorem find_yes {wp sp : Option Addr} {wc sc j : Nat} {m : Img} {name : ByteArray} {v : Int} (h : right m = true) (hj : m.syms[j]? = some ⟨name, v⟩) (w : World) (H : Hid (ImgAt w wp sp m)) :
    Calls Tryz.prog 13 #[imgV wp sp wc sc m, .string name] w fun e w' => e = .returned (.int .i64 v) ∧ Bel w w' := by
  have HR := Lib.hid h
  have HK := Lib.hid (ahead_at h hj)
  have HJ := Lib.hid hj
  have hlen := (right_parts h).2.1
  have hjl := (List.getElem?_eq_some_iff.1 hj).1
  have i1 : (j : Int) < (m.syms.length : Int) := by omega
  have i2 : (0 : Int) ≤ (j : Int) := by omega
  have i3 : ((j : Int) == (m.syms.length : Int)) = false := by rw [beq_eq_false_iff_ne]; omega
  clear h hj
  go_enter Tryz.func13, Tryz.ntmps13
  go_wp2_with fail
  have hst := findSt_new w wp sp wc sc m name
  generalize (w.alloc (.cells (boxV wp sp wc sc m) 25)).alloc (.cells #[.string name] 9) = W0 at hst ⊢
  obtain ⟨bx, hbx⟩ : ∃ b, b = w.heap.size := ⟨_, rfl⟩
  rw [← hbx] at hst ⊢
  have HST := Lib.hid hst
  clear hst hbx
  refine (right_lit HR.out _ (Lib.hid (H.out.bel HST.out.1))).mono ?_
  rintro e w1 ⟨rfl, hb⟩
  have HST := Lib.hid (HST.out.bel hb)
  have q2 : w1.cell? ⟨bx, 2, none⟩ = some (.slice sp m.syms.length sc) := cell_of_heap HST.out.2.1 2
  clear hb
  go_wp2_with fail
  refine (search_lit HR.out HK.out _ q2 (cell_of_heap HST.out.2.2 0) (lt_of_heap HST.out.2.1) (lt_of_heap HST.out.2.2) (H.out.syms.bel HST.out.1)).mono ?_
  rintro e w2 ⟨rfl, hb⟩
  have HST := Lib.hid (HST.out.bel hb)
  clear hb q2
  obtain ⟨b, o, hsp, hbl, e1, e2⟩ := SymsQ.get (H.out.syms.bel HST.out.1) HJ.out
  subst hsp
  simp only at e1 e2
  have q2 : w2.cell? ⟨bx, 2, none⟩ = some (.slice (some ⟨b, o, none⟩) m.syms.length sc) := cell_of_heap HST.out.2.1 2
  have q3 : w2.cell? ⟨bx + 1, 0, none⟩ = some (.string name) := cell_of_heap HST.out.2.2 0
  go_wp2_with fail
  go_quiet (fail)
  go_wp2_with fail
  go_ret
  exact ⟨rfl, HST.out.1.drewN _⟩
theorem toList_ne2 {a b : ByteArray} (h : ¬ a = b) : ¬ a.toList = b.toList := fun c => h (by
  rw [ByteArray.toList_eq, ByteArray.toList_eq] at c
  obtain ⟨⟨x⟩⟩ := a
  obtain ⟨⟨y⟩⟩ := b
  simp at c
  rw [c])
set_option maxHeartbeats 4000000 in
theorem find_none {wp sp : Option Addr} {wc sc : Nat} {m : Img} {name : ByteArray} (h : right m = true) (hno : ∀ x ∈ m.syms, x.name ≠ name) (w : World) (H : Hid (ImgAt w wp sp m)) :
    Calls Tryz.prog 13 #[imgV wp sp wc sc m, .string name] w fun e w' => e = .returned (.int .i64 (-1)) ∧ Bel w w' := by
  have HR := Lib.hid h
  obtain ⟨k, hk⟩ : ∃ k, ahead m name = k := ⟨_, rfl⟩
  have HK := Lib.hid hk
  have HNO := Lib.hid hno
  have hkl := ahead_le m name
  rw [hk] at hkl
  have hlen := (right_parts h).2.1
  clear h hno hk
  go_enter Tryz.func13, Tryz.ntmps13
  go_wp2_with fail
  have hst := findSt_new w wp sp wc sc m name
  generalize (w.alloc (.cells (boxV wp sp wc sc m) 25)).alloc (.cells #[.string name] 9) = W0 at hst ⊢
  obtain ⟨bx, hbx⟩ : ∃ b, b = w.heap.size := ⟨_, rfl⟩
  rw [← hbx] at hst ⊢
  have HST := Lib.hid hst
  clear hst hbx
  refine (right_lit HR.out _ (Lib.hid (H.out.bel HST.out.1))).mono ?_
  rintro e w1 ⟨rfl, hb⟩
  have HST := Lib.hid (HST.out.bel hb)
  have q2 : w1.cell? ⟨bx, 2, none⟩ = some (.slice sp m.syms.length sc) := cell_of_heap HST.out.2.1 2
  clear hb
  go_wp2_with fail
  refine (search_lit HR.out HK.out _ q2 (cell_of_heap HST.out.2.2 0) (lt_of_heap HST.out.2.1) (lt_of_heap HST.out.2.2) (H.out.syms.bel HST.out.1)).mono ?_
  rintro e w2 ⟨rfl, hb⟩
  have HST := Lib.hid (HST.out.bel hb)
  clear hb q2
  by_cases hend : k = m.syms.length
  · have i3 : ((k : Int) == (m.syms.length : Int)) = true := by rw [beq_iff_eq]; omega
    have q2 : w2.cell? ⟨bx, 2, none⟩ = some (.slice sp m.syms.length sc) := cell_of_heap HST.out.2.1 2
    clear hend
    go_wp2_with fail
    go_quiet (fail)
    go_wp2_with fail
    go_ret
    exact ⟨rfl, HST.out.1.drewN _⟩
  · obtain ⟨⟨xs, xp⟩, hx⟩ : ∃ x, m.syms[k]? = some x := ⟨_, List.getElem?_eq_getElem (by omega)⟩
    have hne : ¬ xs = name := HNO.out _ (List.mem_of_getElem? hx)
    have e3 : (xs.toList == name.toList) = false := by rw [beq_eq_false_iff_ne]; exact toList_ne2 hne
    have e4 : (!xs.toList == name.toList) = true := by rw [e3]; rfl
    obtain ⟨b, o, hsp, hbl, e1, e2⟩ := SymsQ.get (H.out.syms.bel HST.out.1) hx
    subst hsp
    simp only at e1 e2
    have i1 : (k : Int) < (m.syms.length : Int) := by omega
    have i2 : (0 : Int) ≤ (k : Int) := by omega
    have i3 : ((k : Int) == (m.syms.length : Int)) = false := by rw [beq_eq_false_iff_ne]; omega
    have q2 : w2.cell? ⟨bx, 2, none⟩ = some (.slice (some ⟨b, o, none⟩) m.syms.length sc) := cell_of_heap HST.out.2.1 2
    have q3 : w2.cell? ⟨bx + 1, 0, none⟩ = some (.string name) := cell_of_heap HST.out.2.2 0
    clear hne hend hx
    go_wp2_with fail
    go_quiet (fail)
    go_wp2_with fail
    go_ret
    exact ⟨rfl, HST.out.1.drewN _⟩
end Go.Proofs.YtbfmlbcjggplgaaGreatDoor
