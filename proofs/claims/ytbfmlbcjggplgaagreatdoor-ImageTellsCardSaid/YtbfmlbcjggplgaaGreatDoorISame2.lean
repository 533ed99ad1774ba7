/- Whether two images' symbols, and two images, are the same. -/
import Derived.Test.YtbfmlbcjggplgaaGreatDoorISame
namespace Go.Proofs.YtbfmlbcjggplgaaGreatDoor
open Go.RowKit Im
set_option linter.unusedVariables false
theorem bytes_list' {s t : ByteArray} (h : s.toList = t.toList) : s = t := by
  rw [ByteArray.toList_eq, ByteArray.toList_eq] at h
  obtain ⟨⟨x⟩⟩ := s
  obtain ⟨⟨y⟩⟩ := t
  simp at h
  rw [h]
theorem neq_same (s : ByteArray) (n : Int) (w : World) : (binOp .neq 42 (.agg #[.string s, .int .i64 n]) (.agg #[.string s, .int .i64 n])).run Tryz.prog w = .ok (.bool false) w := by
  go_simp
theorem neq_other (s s' : ByteArray) (n n' : Int) (hne : ¬ (s = s' ∧ n = n')) (w : World) : (binOp .neq 42 (.agg #[.string s, .int .i64 n]) (.agg #[.string s', .int .i64 n'])).run Tryz.prog w = .ok (.bool true) w := by
  go_simp
  intro h1 h2
  exact hne ⟨bytes_list' h1, h2⟩
set_option maxHeartbeats 4000000 in
theorem eqSyms_lit {p q : Option Addr} {c d : Nat} {xs ys : List Sym} {r : Bool} (h : decide (xs = ys) = r) (hx : xs.length ≤ 9223372036854775807) (hy : ys.length ≤ 9223372036854775807) (w : World) (H1 : Hid (SymsQ w p xs)) (H2 : Hid (SymsQ w q ys)) :
    Calls Tryz.prog 32 #[.slice p xs.length c, .slice q ys.length d] w fun e w' => e = .returned (.bool r) ∧ Bel w w' := by
  by_cases hlen : xs.length = ys.length
  · have HR := Lib.hid h
    have HLEN := Lib.hid hlen
    have e1 : ((xs.length : Int) != (ys.length : Int)) = false := by simp [hlen]
    clear h hlen
    go_enter Tryz.func32, Tryz.ntmps32
    go_wp2_with fail
    clear e1
    go_loopw [13] (fun i wr => ∃ k : Nat, k ≤ xs.length ∧ i = .int .i64 k ∧ Hid (Bel w wr ∧ ∀ j : Nat, j < k → xs[j]? = ys[j]?)) (fun i _ => xs.length - (intOf i).toNat)
    case atStart => exact ⟨0, Nat.zero_le _, rfl, Bel.refl _, fun j hj => by omega⟩
    case round =>
      obtain ⟨k, hk, rfl, HA⟩ := hrel
      by_cases hlt : k < xs.length
      · obtain ⟨⟨s, n⟩, hxk⟩ : ∃ x, xs[k]? = some x := ⟨_, List.getElem?_eq_getElem hlt⟩
        obtain ⟨⟨s', n'⟩, hyk⟩ : ∃ y, ys[k]? = some y := ⟨_, List.getElem?_eq_getElem (by rw [← HLEN.out]; exact hlt)⟩
        obtain ⟨b1, o1, hp, _, e1, e1'⟩ := SymsQ.get (H1.out.bel HA.out.1) hxk
        obtain ⟨b2, o2, hq, _, e2, e2'⟩ := SymsQ.get (H2.out.bel HA.out.1) hyk
        subst hp
        subst hq
        simp only at e1 e1' e2 e2'
        have hk' : (k : Int) < (xs.length : Int) := by omega
        have hk2 : (k : Int) < (ys.length : Int) := by have := HLEN.out; omega
        have HLT := Lib.hid hlt
        by_cases hxy : s = s' ∧ n = n'
        · have HN : Hid (∀ j : Nat, j < k + 1 → xs[j]? = ys[j]?) := Lib.hid (fun j hj => by
            by_cases e : j = k
            · rw [e, hxk, hyk, hxy.1, hxy.2]
            · exact HA.out.2 j (by omega))
          obtain ⟨rfl, rfl⟩ := hxy
          have v1 := neq_same s n
          clear hxk hyk hlt
          go_wp2_with fail
          go_quiet (fail)
          go_wp2_with fail
          go_roundw
          case rel => exact ⟨k + 1, HLT.out, by go_num, HA.out.1.drewN _, HN.out⟩
          case measure => simp [intOf]; have := HLT.out; omega
        · have hne : ¬ xs = ys := fun e => hxy (by rw [e, hyk] at hxk; have h := Option.some.inj hxk; injection h with h1 h2; exact ⟨h1.symm, h2.symm⟩)
          have hrf : r = false := by rw [← HR.out]; exact decide_eq_false hne
          have HRF := Lib.hid hrf
          have v1 := neq_other s s' n n' hxy
          clear hxk hyk hlt hne hxy hrf
          go_wp2_with fail
          go_quiet (fail)
          go_wp2_with fail
          go_ret
          exact ⟨congrArg (fun b => Ending.returned (.bool b)) HRF.out.symm, HA.out.1.drewN _⟩
      · obtain rfl : k = xs.length := by omega
        have hrt : r = true := by rw [← HR.out]; exact decide_eq_true (all_of_ext HLEN.out HA.out.2)
        have HRT := Lib.hid hrt
        clear hrt hlt
        go_wp2_with fail
        go_ret
        exact ⟨congrArg (fun b => Ending.returned (.bool b)) HRT.out.symm, HA.out.1⟩
  · have hrf : r = false := by rw [← h]; exact decide_eq_false (fun e => hlen (by rw [e]))
    subst hrf
    have e1 : ((xs.length : Int) != (ys.length : Int)) = true := by simp; omega
    clear h hlen
    go_enter Tryz.func32, Tryz.ntmps32
    go_wp2_with fail
    go_ret
    exact ⟨rfl, Bel.refl _⟩
abbrev boxI (wp sp : Option Addr) (wc sc : Nat) (m : Img) : Array Value := #[.slice wp m.words.length wc, .int .i64 m.mem, .slice sp m.syms.length sc]
def sameV (a b : Img) : Bool := decide (a.mem = b.mem) && decide (a.words = b.words) && decide (a.syms = b.syms)
set_option maxHeartbeats 4000000 in
theorem same_lit {p q p' q' : Option Addr} {c d c' d' : Nat} {a b : Img} {r : Bool} (h : sameV a b = r) (w : World) (H1 : Hid (ImgAt w p q a)) (H2 : Hid (ImgAt w p' q' b)) :
    Calls Tryz.prog 15 #[imgV p q c d a, imgV p' q' c' d' b] w fun e w' => e = .returned (.bool r) ∧ Bel w w' := by
  obtain ⟨r1, h1⟩ : ∃ r, decide (a.words = b.words) = r := ⟨_, rfl⟩
  obtain ⟨r2, h2⟩ : ∃ r, decide (a.syms = b.syms) = r := ⟨_, rfl⟩
  have HR1 := Lib.hid h1
  have HR2 := Lib.hid h2
  have LA := Lib.hid (⟨H1.out.lw, H1.out.ls⟩ : _ ∧ _)
  have LB := Lib.hid (⟨H2.out.lw, H2.out.ls⟩ : _ ∧ _)
  unfold sameV at h
  rw [h1, h2] at h
  clear h1 h2
  by_cases hm : a.mem = b.mem
  · have e0 : (a.mem == b.mem) = true := by simp [hm]
    rw [decide_eq_true hm] at h
    have HF := Lib.hid h
    clear h hm
    go_enter Tryz.func15, Tryz.ntmps15
    go_wp2_with fail
    have hb1 := (Bel.refl w).alloc (boxI p q c d a) 25
    have hx1 := heap_alloc_new w (.cells (boxI p q c d a) 25)
    have hs1 : (w.alloc (.cells (boxI p q c d a) 25)).heap.size = w.heap.size + 1 := by simp
    generalize w.alloc (.cells (boxI p q c d a) 25) = W1 at hb1 hx1 hs1 ⊢
    have hb2 := (Bel.refl W1).alloc (boxI p' q' c' d' b) 25
    have hx2 := heap_alloc_new W1 (.cells (boxI p' q' c' d' b) 25)
    generalize W1.alloc (.cells (boxI p' q' c' d' b) 25) = W2 at hb2 hx2 ⊢
    rw [hs1] at hx2
    have hx1 := hb2.stays hx1
    obtain ⟨bx, hbx⟩ : ∃ b, b = w.heap.size := ⟨_, rfl⟩
    rw [← hbx] at hx1 hx2 ⊢
    have HX1 := Lib.hid hx1
    have HX2 := Lib.hid hx2
    have HB := Lib.hid (hb1.trans hb2)
    clear hb1 hx1 hs1 hb2 hx2 hbx e0
    refine (eqInts_lit HR1.out LA.out.1 LB.out.1 _ (Lib.hid (H1.out.words.bel HB.out)) (Lib.hid (H2.out.words.bel HB.out))).mono ?_
    rintro e w3 ⟨rfl, hb⟩
    have h31 := hb.stays HX1.out
    have h32 := hb.stays HX2.out
    have HB3 := Lib.hid (HB.out.trans hb)
    have q1 : w3.cell? ⟨bx, 2, none⟩ = some (.slice q a.syms.length d) := cell_of_heap h31 2
    have q2 : w3.cell? ⟨bx + 1, 2, none⟩ = some (.slice q' b.syms.length d') := cell_of_heap h32 2
    clear hb h31 h32
    cases r1 with
    | true =>
      go_wp2_with fail
      refine (eqSyms_lit HR2.out LA.out.2 LB.out.2 _ (Lib.hid (H1.out.syms.bel HB3.out)) (Lib.hid (H2.out.syms.bel HB3.out))).mono ?_
      rintro e w4 ⟨rfl, hb⟩
      have HB4 := Lib.hid (HB3.out.trans hb)
      clear hb q1 q2
      go_wp2_with fail
      go_ret
      exact ⟨congrArg (fun b => Ending.returned (.bool b)) (by rw [← HF.out]; simp), HB4.out⟩
    | false =>
      clear q1 q2
      go_wp2_with fail
      go_ret
      exact ⟨congrArg (fun b => Ending.returned (.bool b)) (by rw [← HF.out]; simp), HB3.out⟩
  · have e0 : (a.mem == b.mem) = false := by simp [hm]
    rw [decide_eq_false hm] at h
    have HF := Lib.hid h
    clear h hm
    go_enter Tryz.func15, Tryz.ntmps15
    go_wp2_with fail
    go_ret
    exact ⟨congrArg (fun b => Ending.returned (.bool b)) (by rw [← HF.out]; simp), ((Bel.refl w).alloc _ _).alloc _ _⟩
end Go.Proofs.YtbfmlbcjggplgaaGreatDoor
