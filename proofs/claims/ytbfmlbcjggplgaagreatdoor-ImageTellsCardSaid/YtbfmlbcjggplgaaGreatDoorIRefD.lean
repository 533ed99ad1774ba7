/- Which symbol is found, and whether two images are the same, by the document's own functions. -/
import Derived.Test.YtbfmlbcjggplgaaGreatDoorIRefC
import Derived.Test.YtbfmlbcjggplgaaGreatDoorIFind
import Derived.Test.YtbfmlbcjggplgaaGreatDoorISame2
namespace Go.Proofs.YtbfmlbcjggplgaaGreatDoor
open Go.RowKit Im
set_option linter.unusedVariables false
set_option linter.unusedSimpArgs false
set_option maxHeartbeats 4000000 in
theorem rFind_no {wp sp : Option Addr} {wc sc : Nat} {m : Img} {name : ByteArray} (hr : right m = false) (w : World) (H : Hid (ImgAt w wp sp m)) :
    Calls Tryz.prog 14 #[imgV wp sp wc sc m, .string name] w fun e w' => e = .returned (.int .i64 (-1)) ∧ Bel w w' := by
  have HR := Lib.hid hr
  clear hr
  go_enter Tryz.func14, Tryz.ntmps14
  go_wp2_with fail
  have hb0 := (Bel.refl w).alloc (boxV wp sp wc sc m) 25
  have hx0 := heap_alloc_new w (.cells (boxV wp sp wc sc m) 25)
  generalize w.alloc (.cells (boxV wp sp wc sc m) 25) = W0 at hb0 hx0 ⊢
  obtain ⟨bx, hbx⟩ : ∃ b, b = w.heap.size := ⟨_, rfl⟩
  rw [← hbx] at hx0 ⊢
  have HX0 := Lib.hid hx0
  have HB0 := Lib.hid hb0
  clear hb0 hx0 hbx
  refine (rRight_lit HR.out _ (Lib.hid (H.out.bel HB0.out))).mono ?_
  rintro e W1 ⟨rfl, hb⟩
  have hx1 := hb.stays HX0.out
  have q2 : W1.cell? ⟨bx, 2, none⟩ = some (.slice sp m.syms.length sc) := cell_of_heap hx1 2
  have HB := Lib.hid (HB0.out.trans hb)
  clear hb hx1
  go_wp2_with fail
  go_loopw [6] (fun i wr => i = .int .i64 0 ∧ wr = W1) (fun _ _ => 0)
  case atStart => exact ⟨rfl, rfl⟩
  case round =>
    obtain ⟨rfl, rfl⟩ := hrel
    by_cases h0 : m.syms.length = 0
    · have h0' : (m.syms.length : Int) = 0 := by omega
      go_wp2_with fail
      first | (go_quiet (fail); go_wp2_with fail) | skip
      go_ret
      exact ⟨rfl, by first | exact HB.out | exact HB.out.drewN _⟩
    · have h0' : (0 : Int) < (m.syms.length : Int) := by omega
      go_wp2_with fail
      first | (go_quiet (fail); go_wp2_with fail) | skip
      go_ret
      exact ⟨rfl, by first | exact HB.out | exact HB.out.drewN _⟩
set_option maxHeartbeats 4000000 in
theorem rFind_yes {wp sp : Option Addr} {wc sc j : Nat} {m : Img} {name : ByteArray} {v : Int} (hr : right m = true) (hj : m.syms[j]? = some ⟨name, v⟩) (hfst : ∀ (i : Nat) (y : Sym), i < j → m.syms[i]? = some y → y.name ≠ name) (w : World) (H : Hid (ImgAt w wp sp m)) :
    Calls Tryz.prog 14 #[imgV wp sp wc sc m, .string name] w fun e w' => e = .returned (.int .i64 v) ∧ Bel w w' := by
  have HR := Lib.hid hr
  have HJ := Lib.hid hj
  have HFST := Lib.hid hfst
  have hml : m.syms.length ≤ 9223372036854775807 := H.out.ls
  have hjl : j < m.syms.length := (List.getElem?_eq_some_iff.1 hj).1
  clear hr hj hfst
  go_enter Tryz.func14, Tryz.ntmps14
  go_wp2_with fail
  have hb0 := (Bel.refl w).alloc (boxV wp sp wc sc m) 25
  have hx0 := heap_alloc_new w (.cells (boxV wp sp wc sc m) 25)
  generalize w.alloc (.cells (boxV wp sp wc sc m) 25) = W0 at hb0 hx0 ⊢
  obtain ⟨bx, hbx⟩ : ∃ b, b = w.heap.size := ⟨_, rfl⟩
  rw [← hbx] at hx0 ⊢
  have HX0 := Lib.hid hx0
  have HB0 := Lib.hid hb0
  clear hb0 hx0 hbx
  refine (rRight_lit HR.out _ (Lib.hid (H.out.bel HB0.out))).mono ?_
  rintro e W1 ⟨rfl, hb⟩
  have hx1 := hb.stays HX0.out
  have q2 : W1.cell? ⟨bx, 2, none⟩ = some (.slice sp m.syms.length sc) := cell_of_heap hx1 2
  have HX1 := Lib.hid hx1
  have HB := Lib.hid (HB0.out.trans hb)
  clear hb hx1
  go_wp2_with fail
  clear q2
  go_loopw [6] (fun i wr => ∃ k : Nat, k ≤ j ∧ i = .int .i64 k ∧ Hid (Bel W1 wr)) (fun i _ => j - (intOf i).toNat)
  case atStart => exact ⟨0, Nat.zero_le _, rfl, Bel.refl _⟩
  case round =>
    obtain ⟨k, hk, rfl, HA⟩ := hrel
    by_cases hlt : k < j
    · obtain ⟨⟨xs, xp⟩, hx⟩ : ∃ x, m.syms[k]? = some x := ⟨_, List.getElem?_eq_getElem (by omega)⟩
      have hxn : ¬ xs = name := HFST.out k _ hlt hx
      have : True := trivial
      obtain ⟨b, o, hspe, _, e1, e2⟩ := SymsQ.get (H.out.syms.bel (HB.out.trans HA.out)) hx
      subst hspe
      simp only at e1 e2
      have q2 : wr.cell? ⟨bx, 2, none⟩ = some (.slice (some ⟨b, o, none⟩) m.syms.length sc) := cell_of_heap (HA.out.stays HX1.out) 2
      have hk' : (k : Int) < (m.syms.length : Int) := by omega
      have HLT := Lib.hid hlt
      have hne : (xs.toList == name.toList) = false := beq_eq_false_iff_ne.2 (fun c => hxn (bytes_list c))
      clear hx hlt hxn
      go_wp2_with fail
      first | (go_quiet (fail); go_wp2_with fail) | skip
      go_roundw
      case rel => exact ⟨k + 1, by have := HLT.out; omega, by go_num, by first | exact HA.out | exact HA.out.drewN _⟩
      case measure => simp [intOf]; have := HLT.out; omega
    · obtain rfl : k = j := by omega
      have hx := HJ.out
      obtain ⟨b, o, hspe, _, e1, e2⟩ := SymsQ.get (H.out.syms.bel (HB.out.trans HA.out)) hx
      subst hspe
      simp only at e1 e2
      have q2 : wr.cell? ⟨bx, 2, none⟩ = some (.slice (some ⟨b, o, none⟩) m.syms.length sc) := cell_of_heap (HA.out.stays HX1.out) 2
      have hk' : (k : Int) < (m.syms.length : Int) := by omega
      clear hx hlt
      go_wp2_with fail
      first | (go_quiet (fail); go_wp2_with fail) | skip
      first | (go_quiet (fail); go_wp2_with fail) | skip
      go_ret
      exact ⟨rfl, by first | exact HB.out.trans HA.out | exact (HB.out.trans HA.out).drewN _⟩
set_option maxHeartbeats 4000000 in
theorem rFind_none {wp sp : Option Addr} {wc sc : Nat} {m : Img} {name : ByteArray} (hr : right m = true) (hno : ∀ x ∈ m.syms, x.name ≠ name) (w : World) (H : Hid (ImgAt w wp sp m)) :
    Calls Tryz.prog 14 #[imgV wp sp wc sc m, .string name] w fun e w' => e = .returned (.int .i64 (-1)) ∧ Bel w w' := by
  have HR := Lib.hid hr
  have HNO := Lib.hid hno
  have hml : m.syms.length ≤ 9223372036854775807 := H.out.ls
  clear hr hno
  go_enter Tryz.func14, Tryz.ntmps14
  go_wp2_with fail
  have hb0 := (Bel.refl w).alloc (boxV wp sp wc sc m) 25
  have hx0 := heap_alloc_new w (.cells (boxV wp sp wc sc m) 25)
  generalize w.alloc (.cells (boxV wp sp wc sc m) 25) = W0 at hb0 hx0 ⊢
  obtain ⟨bx, hbx⟩ : ∃ b, b = w.heap.size := ⟨_, rfl⟩
  rw [← hbx] at hx0 ⊢
  have HX0 := Lib.hid hx0
  have HB0 := Lib.hid hb0
  clear hb0 hx0 hbx
  refine (rRight_lit HR.out _ (Lib.hid (H.out.bel HB0.out))).mono ?_
  rintro e W1 ⟨rfl, hb⟩
  have hx1 := hb.stays HX0.out
  have q2 : W1.cell? ⟨bx, 2, none⟩ = some (.slice sp m.syms.length sc) := cell_of_heap hx1 2
  have HX1 := Lib.hid hx1
  have HB := Lib.hid (HB0.out.trans hb)
  clear hb hx1
  go_wp2_with fail
  clear q2
  go_loopw [6] (fun i wr => ∃ k : Nat, k ≤ m.syms.length ∧ i = .int .i64 k ∧ Hid (Bel W1 wr)) (fun i _ => m.syms.length - (intOf i).toNat)
  case atStart => exact ⟨0, Nat.zero_le _, rfl, Bel.refl _⟩
  case round =>
    obtain ⟨k, hk, rfl, HA⟩ := hrel
    by_cases hlt : k < m.syms.length
    · obtain ⟨⟨xs, xp⟩, hx⟩ : ∃ x, m.syms[k]? = some x := ⟨_, List.getElem?_eq_getElem (by omega)⟩
      have hxn : ¬ xs = name := HNO.out _ (List.mem_of_getElem? hx)
      obtain ⟨b, o, hspe, _, e1, e2⟩ := SymsQ.get (H.out.syms.bel (HB.out.trans HA.out)) hx
      subst hspe
      simp only at e1 e2
      have q2 : wr.cell? ⟨bx, 2, none⟩ = some (.slice (some ⟨b, o, none⟩) m.syms.length sc) := cell_of_heap (HA.out.stays HX1.out) 2
      have hk' : (k : Int) < (m.syms.length : Int) := by omega
      have HLT := Lib.hid hlt
      have hne : (xs.toList == name.toList) = false := beq_eq_false_iff_ne.2 (fun c => hxn (bytes_list c))
      clear hx hlt hxn
      go_wp2_with fail
      first | (go_quiet (fail); go_wp2_with fail) | skip
      go_roundw
      case rel => exact ⟨k + 1, by have := HLT.out; omega, by go_num, by first | exact HA.out | exact HA.out.drewN _⟩
      case measure => simp [intOf]; have := HLT.out; omega
    · obtain rfl : k = m.syms.length := by omega
      have q2 : wr.cell? ⟨bx, 2, none⟩ = some (.slice sp m.syms.length sc) := cell_of_heap (HA.out.stays HX1.out) 2
      clear hlt
      go_wp2_with fail
      first | (go_quiet (fail); go_wp2_with fail) | skip
      go_ret
      exact ⟨rfl, by first | exact HB.out.trans HA.out | exact (HB.out.trans HA.out).drewN _⟩
set_option maxHeartbeats 8000000 in
theorem rSame_lit {p q p' q' : Option Addr} {c d c' d' : Nat} {a b : Img} {r : Bool} (h : sameV a b = r) (w : World) (H1 : Hid (ImgAt w p q a)) (H2 : Hid (ImgAt w p' q' b)) :
    Calls Tryz.prog 16 #[imgV p q c d a, imgV p' q' c' d' b] w fun e w' => e = .returned (.bool r) ∧ Bel w w' := by
  have HR := Lib.hid h
  clear h
  have la := H1.out.lw
  have lb := H2.out.lw
  have sa := H1.out.ls
  have sb := H2.out.ls
  by_cases g1 : a.words.length = b.words.length
  case neg =>
    have HF : Hid (r = false) := Lib.hid (by rw [← HR.out]; unfold sameV; rw [show decide (a.words = b.words) = false from decide_eq_false fun e => g1 (by rw [e])]; simp)
    have v1 : ((a.words.length : Int) != (b.words.length : Int)) = true := by simp; omega
    clear g1
    go_enter Tryz.func16, Tryz.ntmps16
    go_wp2_with fail
    go_ret
    exact ⟨congrArg (fun b => Ending.returned (.bool b)) HF.out.symm, by first | exact HB2.out | exact ((Bel.refl w).alloc _ _).alloc _ _⟩
  have v1 : ((a.words.length : Int) != (b.words.length : Int)) = false := by simp [g1]
  by_cases g2 : a.mem = b.mem
  case neg =>
    have HF : Hid (r = false) := Lib.hid (by rw [← HR.out]; unfold sameV; rw [decide_eq_false g2]; rfl)
    have v2 : (a.mem != b.mem) = true := by simp [g2]
    clear g1 g2
    go_enter Tryz.func16, Tryz.ntmps16
    go_wp2_with fail
    go_ret
    exact ⟨congrArg (fun b => Ending.returned (.bool b)) HF.out.symm, by first | exact HB2.out | exact ((Bel.refl w).alloc _ _).alloc _ _⟩
  have v2 : (a.mem != b.mem) = false := by simp [g2]
  by_cases g3 : a.syms.length = b.syms.length
  case neg =>
    have HF : Hid (r = false) := Lib.hid (by rw [← HR.out]; unfold sameV; rw [show decide (a.syms = b.syms) = false from decide_eq_false fun e => g3 (by rw [e])]; simp)
    have v3 : ((a.syms.length : Int) != (b.syms.length : Int)) = true := by simp; omega
    clear g1 g2 g3
    go_enter Tryz.func16, Tryz.ntmps16
    go_wp2_with fail
    go_ret
    exact ⟨congrArg (fun b => Ending.returned (.bool b)) HF.out.symm, by first | exact HB2.out | exact ((Bel.refl w).alloc _ _).alloc _ _⟩
  have v3 : ((a.syms.length : Int) != (b.syms.length : Int)) = false := by simp [g3]
  have HG := Lib.hid (And.intro g1 (And.intro g2 g3))
  clear g1 g2 g3
  go_enter Tryz.func16, Tryz.ntmps16
  go_wp2_with fail
  have hb1 := (Bel.refl w).alloc (boxI p q c d a) 25
  have hx1 := heap_alloc_new w (.cells (boxI p q c d a) 25)
  have hs1 : (w.alloc (.cells (boxI p q c d a) 25)).heap.size = w.heap.size + 1 := by simp
  generalize w.alloc (.cells (boxI p q c d a) 25) = W1 at hb1 hx1 hs1 ⊢
  have hb2 := (Bel.refl W1).alloc (boxI p' q' c' d' b) 25
  have hx2 := heap_alloc_new W1 (.cells (boxI p' q' c' d' b) 25)
  generalize W1.alloc (.cells (boxI p' q' c' d' b) 25) = W2 at hb2 hx2 ⊢
  rw [hs1] at hx2
  have hx1 := hb2.stays hx1
  obtain ⟨bx, hbx⟩ : ∃ b, b = w.heap.size := ⟨_, rfl⟩
  rw [← hbx] at hx1 hx2 ⊢
  have HX1 := Lib.hid hx1
  have HX2 := Lib.hid hx2
  have HB := Lib.hid (hb1.trans hb2)
  clear hb1 hx1 hs1 hb2 hx2 hbx v1 v2 v3
  go_loopw [5] (fun i wr => ∃ k : Nat, k ≤ a.words.length ∧ i = .int .i64 k ∧ Hid (Bel W2 wr ∧ wr.heap[bx]? = some (.cells (boxI p q c d a) 25 (0, 0)) ∧ wr.heap[bx + 1]? = some (.cells (boxI p' q' c' d' b) 25 (0, 0)) ∧ ∀ j : Nat, j < k → a.words[j]? = b.words[j]?)) (fun i _ => a.words.length - (intOf i).toNat)
  case atStart => exact ⟨0, Nat.zero_le _, rfl, Bel.refl _, HX1.out, HX2.out, fun j hj => by omega⟩
  case round =>
    obtain ⟨k, hk, rfl, HA⟩ := hrel
    by_cases hlt : k < a.words.length
    · have : True := trivial
      obtain ⟨x, hxk⟩ : ∃ x, a.words[k]? = some x := ⟨_, List.getElem?_eq_getElem hlt⟩
      obtain ⟨y, hyk⟩ : ∃ y, b.words[k]? = some y := ⟨_, List.getElem?_eq_getElem (by have := HG.out.1; omega)⟩
      obtain ⟨b1, o1, hp, _, e1⟩ := IntsQ.get (H1.out.words.bel (HB.out.trans HA.out.1)) hxk
      obtain ⟨b2, o2, hq, _, e2⟩ := IntsQ.get (H2.out.words.bel (HB.out.trans HA.out.1)) hyk
      subst hp
      subst hq
      have q1 : wr.cell? ⟨bx, 0, none⟩ = some (.slice (some ⟨b1, o1, none⟩) a.words.length c) := cell_of_heap HA.out.2.1 0
      have q2 : wr.cell? ⟨bx + 1, 0, none⟩ = some (.slice (some ⟨b2, o2, none⟩) b.words.length c') := cell_of_heap HA.out.2.2.1 0
      have hk' : (k : Int) < (a.words.length : Int) := by omega
      have hk2 : (k : Int) < (b.words.length : Int) := by have := HG.out; omega
      have HLT := Lib.hid hlt
      by_cases hxy : x = y
      · have HN : Hid (∀ j : Nat, j < k + 1 → a.words[j]? = b.words[j]?) := Lib.hid (fun j hj => by
          by_cases e : j = k
          · rw [e, hxk, hyk, hxy]
          · exact HA.out.2.2.2 j (by omega))
        subst hxy
        have v1 : (x != x) = false := by simp
        clear hxk hyk hlt
        go_wp2_with fail
        go_quiet (fail)
        go_wp2_with fail
        go_roundw
        case rel => exact ⟨k + 1, HLT.out, by go_num, HA.out.1.drewN _, HA.out.2.1, HA.out.2.2.1, HN.out⟩
        case measure => simp [intOf]; have := HLT.out; omega
      · have hne : ¬ a.words = b.words := fun e => hxy (by rw [e, hyk] at hxk; exact (Option.some.inj hxk).symm)
        have HF : Hid (r = false) := Lib.hid (by rw [← HR.out]; unfold sameV; rw [show decide (a.words = b.words) = false from decide_eq_false hne]; simp)
        have v1 : (x != y) = true := by simp [hxy]
        clear hxk hyk hlt hne hxy
        go_wp2_with fail
        go_quiet (fail)
        go_wp2_with fail
        go_ret
        exact ⟨congrArg (fun b => Ending.returned (.bool b)) HF.out.symm, (HB.out.trans HA.out.1).drewN _⟩
    · obtain rfl : k = a.words.length := by omega
      have HE1 := Lib.hid (all_of_ext HG.out.1 HA.out.2.2.2)
      have q1 : wr.cell? ⟨bx, 0, none⟩ = some (.slice p a.words.length c) := cell_of_heap HA.out.2.1 0
      have HB2 := Lib.hid (And.intro (HB.out.trans HA.out.1) (And.intro HA.out.2.1 HA.out.2.2.1))
      clear hlt hk HA
      go_wp2_with fail
      clear q1
      go_loopw [6] (fun i wr => ∃ k : Nat, k ≤ a.syms.length ∧ i = .int .i64 k ∧ Hid (Bel w wr ∧ wr.heap[bx]? = some (.cells (boxI p q c d a) 25 (0, 0)) ∧ wr.heap[bx + 1]? = some (.cells (boxI p' q' c' d' b) 25 (0, 0)) ∧ ∀ j : Nat, j < k → a.syms[j]? = b.syms[j]?)) (fun i _ => a.syms.length - (intOf i).toNat)
      case atStart => exact ⟨0, Nat.zero_le _, rfl, HB2.out.1, HB2.out.2.1, HB2.out.2.2, fun j hj => by omega⟩
      case round =>
        obtain ⟨k, hk, rfl, HA⟩ := hrel
        by_cases hlt : k < a.syms.length
        · have : True := trivial
          obtain ⟨⟨s, n⟩, hxk⟩ : ∃ x, a.syms[k]? = some x := ⟨_, List.getElem?_eq_getElem hlt⟩
          obtain ⟨⟨s', n'⟩, hyk⟩ : ∃ y, b.syms[k]? = some y := ⟨_, List.getElem?_eq_getElem (by have := HG.out.2.2; omega)⟩
          obtain ⟨b1, o1, hp, _, e1, e1'⟩ := SymsQ.get (H1.out.syms.bel HA.out.1) hxk
          obtain ⟨b2, o2, hq, _, e2, e2'⟩ := SymsQ.get (H2.out.syms.bel HA.out.1) hyk
          subst hp
          subst hq
          simp only at e1 e1' e2 e2'
          have q1 : wr.cell? ⟨bx, 2, none⟩ = some (.slice (some ⟨b1, o1, none⟩) a.syms.length d) := cell_of_heap HA.out.2.1 2
          have q2 : wr.cell? ⟨bx + 1, 2, none⟩ = some (.slice (some ⟨b2, o2, none⟩) b.syms.length d') := cell_of_heap HA.out.2.2.1 2
          have hk' : (k : Int) < (a.syms.length : Int) := by omega
          have hk2 : (k : Int) < (b.syms.length : Int) := by have := HG.out; omega
          have HLT := Lib.hid hlt
          by_cases hxy : s = s' ∧ n = n'
          · have HN : Hid (∀ j : Nat, j < k + 1 → a.syms[j]? = b.syms[j]?) := Lib.hid (fun j hj => by
              by_cases e : j = k
              · rw [e, hxk, hyk, hxy.1, hxy.2]
              · exact HA.out.2.2.2 j (by omega))
            obtain ⟨rfl, rfl⟩ := hxy
            have v1 := neq_same s n
            clear hxk hyk hlt
            go_wp2_with fail
            go_quiet (fail)
            go_wp2_with fail
            go_roundw
            case rel => exact ⟨k + 1, HLT.out, by go_num, HA.out.1.drewN _, HA.out.2.1, HA.out.2.2.1, HN.out⟩
            case measure => simp [intOf]; have := HLT.out; omega
          · have hne : ¬ a.syms = b.syms := fun e => hxy (by rw [e, hyk] at hxk; have h := Option.some.inj hxk; injection h with h1 h2; exact ⟨h1.symm, h2.symm⟩)
            have HF : Hid (r = false) := Lib.hid (by rw [← HR.out]; unfold sameV; rw [show decide (a.syms = b.syms) = false from decide_eq_false hne]; simp)
            have v1 := neq_other s s' n n' hxy
            clear hxk hyk hlt hne hxy
            go_wp2_with fail
            go_quiet (fail)
            go_wp2_with fail
            go_ret
            exact ⟨congrArg (fun b => Ending.returned (.bool b)) HF.out.symm, HA.out.1.drewN _⟩
        · obtain rfl : k = a.syms.length := by omega
          have HT : Hid (r = true) := Lib.hid (by
            rw [← HR.out]
            unfold sameV
            rw [decide_eq_true HG.out.2.1, decide_eq_true HE1.out, decide_eq_true (all_of_ext HG.out.2.2 HA.out.2.2.2)]
            rfl)
          have q1 : wr.cell? ⟨bx, 2, none⟩ = some (.slice q a.syms.length d) := cell_of_heap HA.out.2.1 2
          clear hlt
          go_wp2_with fail
          go_ret
          exact ⟨congrArg (fun b => Ending.returned (.bool b)) HT.out.symm, HA.out.1⟩
end Go.Proofs.YtbfmlbcjggplgaaGreatDoor
