/- The law's pick, and its first calls. -/
import Derived.Test.YtigefdoejcggpaaNAllow
namespace Go.Proofs.Ytigefdoejcggpaa
open Go.RowKit Ax
set_option linter.unusedVariables false
set_option linter.unusedSimpArgs false
theorem EncAt.of_heap {α : Type} {enc : α → List Value} {k : Nat} (hk : ∀ x, (enc x).length = k) {w : World} {g : Nat} {cs : Array Value} {t : TypeId} {fr : Nat × Nat} {l : List α} (hh : w.heap[g]? = some (.cells cs t fr)) (hc : cs.toList = l.flatMap enc) : EncAt enc k w (some ⟨g, 0, none⟩) l := fun j x hj =>
  ⟨g, 0, rfl, lt_of_heap hh, fun i v hv => by
    rw [cell_of_heap hh, Nat.zero_add, ← Array.getElem?_toList, hc]
    exact flat_get hk hj hv⟩
def exL : List Ev := [(0, 2, 0, 1), (0, 1, 1, 0), (1, 2, 1, 1), (1, 1, 0, 0)]
def exM : List Ev := [(0, 2, 0, 1), (0, 3, 0, 0), (0, 1, 1, 0), (1, 2, 1, 1), (1, 3, 0, 0), (1, 1, 0, 0)]
theorem ex_right : right exL = true := by decide +kernel
theorem ex_allowed : allowed exL = true := by decide +kernel
theorem ex_not : allowed exM = false := by decide +kernel
theorem ex_value : valueV exL [0, 1, 2, 3] 3 = (1, true) := by decide +kernel
theorem ex_holds : holdsB exL [1, 3, 0, 2] = true := by decide +kernel
theorem ex_holds2 : holdsB exL [0, 1, 2, 3] = false := by decide +kernel
theorem ex_keeps : keepsV exL 0 1 = false := by decide +kernel
theorem ex_keeps2 : keepsV exM 0 2 = true := by decide +kernel
set_option maxRecDepth 100000 in
set_option maxHeartbeats 2000000 in
theorem awake_any (w : World) : Calls Try.prog 11 #[] w (OneB true w) := by
  obtain ⟨hb0, hx1, hx2⟩ := box2 w #[.int .i64 0, .int .i64 2, .int .i64 0, .int .i64 1, .int .i64 0, .int .i64 1, .int .i64 1, .int .i64 0, .int .i64 1, .int .i64 2, .int .i64 1, .int .i64 1, .int .i64 1, .int .i64 1, .int .i64 0, .int .i64 0] 26 #[.int .i64 0, .int .i64 2, .int .i64 0, .int .i64 1, .int .i64 0, .int .i64 3, .int .i64 0, .int .i64 0, .int .i64 0, .int .i64 1, .int .i64 1, .int .i64 0, .int .i64 1, .int .i64 2, .int .i64 1, .int .i64 1, .int .i64 1, .int .i64 3, .int .i64 0, .int .i64 0, .int .i64 1, .int .i64 1, .int .i64 0, .int .i64 0] 26
  go_enter Try.func11, Try.ntmps11
  go_upto_region 2 with (fail)
  go_region
  go_upto_region 3 with (fail)
  have hb := hb0.drew
  have hx1 := (show (((w.alloc (.cells #[.int .i64 0, .int .i64 2, .int .i64 0, .int .i64 1, .int .i64 0, .int .i64 1, .int .i64 1, .int .i64 0, .int .i64 1, .int .i64 2, .int .i64 1, .int .i64 1, .int .i64 1, .int .i64 1, .int .i64 0, .int .i64 0] 26)).alloc (.cells #[.int .i64 0, .int .i64 2, .int .i64 0, .int .i64 1, .int .i64 0, .int .i64 3, .int .i64 0, .int .i64 0, .int .i64 0, .int .i64 1, .int .i64 1, .int .i64 0, .int .i64 1, .int .i64 2, .int .i64 1, .int .i64 1, .int .i64 1, .int .i64 3, .int .i64 0, .int .i64 0, .int .i64 1, .int .i64 1, .int .i64 0, .int .i64 0] 26)).drew).heap[w.heap.size]? = _ from hx1)
  have hx2 := (show (((w.alloc (.cells #[.int .i64 0, .int .i64 2, .int .i64 0, .int .i64 1, .int .i64 0, .int .i64 1, .int .i64 1, .int .i64 0, .int .i64 1, .int .i64 2, .int .i64 1, .int .i64 1, .int .i64 1, .int .i64 1, .int .i64 0, .int .i64 0] 26)).alloc (.cells #[.int .i64 0, .int .i64 2, .int .i64 0, .int .i64 1, .int .i64 0, .int .i64 3, .int .i64 0, .int .i64 0, .int .i64 0, .int .i64 1, .int .i64 1, .int .i64 0, .int .i64 1, .int .i64 2, .int .i64 1, .int .i64 1, .int .i64 1, .int .i64 3, .int .i64 0, .int .i64 0, .int .i64 1, .int .i64 1, .int .i64 0, .int .i64 0] 26)).drew).heap[w.heap.size + 1]? = _ from hx2)
  generalize hWW : ((w.alloc (.cells #[.int .i64 0, .int .i64 2, .int .i64 0, .int .i64 1, .int .i64 0, .int .i64 1, .int .i64 1, .int .i64 0, .int .i64 1, .int .i64 2, .int .i64 1, .int .i64 1, .int .i64 1, .int .i64 1, .int .i64 0, .int .i64 0] 26)).alloc (.cells #[.int .i64 0, .int .i64 2, .int .i64 0, .int .i64 1, .int .i64 0, .int .i64 3, .int .i64 0, .int .i64 0, .int .i64 0, .int .i64 1, .int .i64 1, .int .i64 0, .int .i64 1, .int .i64 2, .int .i64 1, .int .i64 1, .int .i64 1, .int .i64 3, .int .i64 0, .int .i64 0, .int .i64 1, .int .i64 1, .int .i64 0, .int .i64 0] 26)).drew = W1 at hb hx1 hx2 ⊢
  clear hWW hb0
  generalize w.heap.size + 1 = g2 at hx2 ⊢
  generalize w.heap.size = g1 at hx1 ⊢
  have HL : Hid (LAt W1 (some ⟨g1, 0, none⟩) exL) := Lib.hid (EncAt.of_heap (enc := encQ) (k := 4) (fun _ => rfl) hx1 rfl)
  have HM : Hid (LAt W1 (some ⟨g2, 0, none⟩) exM) := Lib.hid (EncAt.of_heap (enc := encQ) (k := 4) (fun _ => rfl) hx2 rfl)
  have HB := Lib.hid hb
  have e0 := ext20
  have e1 := ext21
  clear hx1 hx2 hb
  go_wp2_with fail
  refine (valueV_lit (LAt.bel HL.out (Bel.alloc (Bel.refl W1) #[.int .i64 0, .int .i64 1, .int .i64 2, .int .i64 3] 3)) rfl (by decide) (by decide) (EncAt.of_heap (enc := encI) (k := 1) (fun _ => rfl) (heap_alloc_new _ (.cells #[.int .i64 0, .int .i64 1, .int .i64 2, .int .i64 3] 3)) rfl) rfl (by decide) (by decide) ex_value).mono ?_
  rintro e w1 ⟨rfl, hb1⟩
  have H1 : Hid (Bel W1 w1) := Lib.hid (Bel.trans (Bel.alloc (Bel.refl W1) #[.int .i64 0, .int .i64 1, .int .i64 2, .int .i64 3] 3) hb1)
  clear hb1
  go_wp2_with fail
  refine (right_lit (LAt.bel HL.out H1.out) rfl (by decide) ex_right).mono ?_
  rintro e w2 ⟨rfl, hb2⟩
  have H2 : Hid (Bel W1 w2) := Lib.hid (Bel.trans H1.out hb2)
  clear hb2
  go_wp2_with fail
  refine (allowed_lit (LAt.bel HL.out H2.out) rfl (by decide) (by decide) ex_allowed).mono ?_
  rintro e w3 ⟨rfl, hb3⟩
  have H3 : Hid (Bel W1 w3) := Lib.hid (Bel.trans H2.out hb3)
  clear hb3
  go_wp2_with fail
  refine (allowed_lit (LAt.bel HM.out H3.out) rfl (by decide) (by decide) ex_not).mono ?_
  rintro e w4 ⟨rfl, hb4⟩
  have H4 : Hid (Bel W1 w4) := Lib.hid (Bel.trans H3.out hb4)
  clear hb4
  go_wp2_with fail
  refine (holds_lit (LAt.bel HL.out (Bel.alloc H4.out #[.int .i64 1, .int .i64 3, .int .i64 0, .int .i64 2] 3)) rfl (by decide) (by decide) (EncAt.of_heap (enc := encI) (k := 1) (fun _ => rfl) (heap_alloc_new _ (.cells #[.int .i64 1, .int .i64 3, .int .i64 0, .int .i64 2] 3)) rfl) rfl (by decide) (by decide) ex_holds).mono ?_
  rintro e w5 ⟨rfl, hb5⟩
  have H5 : Hid (Bel W1 w5) := Lib.hid (Bel.trans (Bel.alloc H4.out #[.int .i64 1, .int .i64 3, .int .i64 0, .int .i64 2] 3) hb5)
  clear hb5
  go_wp2_with fail
  refine (holds_lit (LAt.bel HL.out (Bel.alloc H5.out #[.int .i64 0, .int .i64 1, .int .i64 2, .int .i64 3] 3)) rfl (by decide) (by decide) (EncAt.of_heap (enc := encI) (k := 1) (fun _ => rfl) (heap_alloc_new _ (.cells #[.int .i64 0, .int .i64 1, .int .i64 2, .int .i64 3] 3)) rfl) rfl (by decide) (by decide) ex_holds2).mono ?_
  rintro e w6 ⟨rfl, hb6⟩
  have H6 : Hid (Bel W1 w6) := Lib.hid (Bel.trans (Bel.alloc H5.out #[.int .i64 0, .int .i64 1, .int .i64 2, .int .i64 3] 3) hb6)
  clear hb6
  go_wp2_with fail
  refine (keepsV_lit (LAt.bel HL.out H6.out) rfl (by decide) (by decide) ex_keeps).mono ?_
  rintro e w7 ⟨rfl, hb7⟩
  have H7 : Hid (Bel W1 w7) := Lib.hid (Bel.trans H6.out hb7)
  clear hb7
  go_wp2_with fail
  refine (keepsV_lit (LAt.bel HM.out H7.out) rfl (by decide) (by decide) ex_keeps2).mono ?_
  rintro e w8 ⟨rfl, hb8⟩
  have H8 : Hid (Bel W1 w8) := Lib.hid (Bel.trans H7.out hb8)
  clear hb8
  go_wp2_with fail
  go_ret
  exact ⟨rfl, HB.out.trans H8.out⟩
/-- which of n things a raw number speaks of -/
def pick (c n : Int) : Int := (if c < 0 then -(c + 1) else c) % n
theorem pick_bd (c : Int) {n : Int} (h : 0 < n) : 0 ≤ pick c n ∧ pick c n < n := ⟨Int.emod_nonneg _ (by omega), Int.emod_lt_of_pos _ h⟩
end Go.Proofs.Ytigefdoejcggpaa
