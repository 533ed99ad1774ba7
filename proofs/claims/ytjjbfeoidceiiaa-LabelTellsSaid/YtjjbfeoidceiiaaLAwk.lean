/- The laws' first calls: what package label answers of five given items. -/
import Derived.Test.YtjjbfeoidceiiaaLAsm2
namespace Go.Proofs.Ytjjbfeoidceiiaa
open Go.RowKit Rv Lb
set_option linter.unusedVariables false
def l5 : List Itm := [⟨2, ⟨0, 0, 0, 0, 0⟩, ⟨#[97]⟩, 0⟩, ⟨3, ⟨5, 0, 0, 0, 0⟩, ⟨#[97]⟩, 0⟩, ⟨3, ⟨3, 0, 0, 0, 0⟩, ⟨#[98]⟩, 0⟩, ⟨5, ⟨0, 0, 0, 0, 0⟩, ⟨#[]⟩, 2⟩, ⟨2, ⟨0, 0, 0, 0, 0⟩, ⟨#[98]⟩, 0⟩]
def l3 : List Itm := [⟨2, ⟨0, 0, 0, 0, 0⟩, ⟨#[97]⟩, 0⟩, ⟨3, ⟨5, 0, 0, 0, 0⟩, ⟨#[97]⟩, 0⟩, ⟨3, ⟨3, 0, 0, 0, 0⟩, ⟨#[98]⟩, 0⟩]
theorem flat8_get {l : List Itm} {j : Nat} {x : Itm} (h : l[j]? = some x) {k : Nat} {v : Value} (hv : (cells8 x)[k]? = some v) : (l.flatMap cells8)[j * 8 + k]? = some v := by
  have hk : k < 8 := (List.getElem?_eq_some_iff.1 hv).1
  induction l generalizing j with
  | nil => simp at h
  | cons y t ih =>
    rw [List.flatMap_cons]
    cases j with
    | zero =>
      simp only [List.getElem?_cons_zero, Option.some.injEq] at h
      subst h
      rw [Nat.zero_mul, Nat.zero_add, List.getElem?_append_left (by show k < 8; exact hk)]
      exact hv
    | succ j =>
      rw [List.getElem?_cons_succ] at h
      rw [List.getElem?_append_right (by show 8 ≤ _; omega)]
      have : (j + 1) * 8 + k - (cells8 y).length = j * 8 + k := by show (j + 1) * 8 + k - 8 = _; omega
      rw [this]
      exact ih h
theorem items_of_heap {w : World} {B : Nat} {t : TypeId} {fr : Nat × Nat} {l : List Itm} {rest : List Value} (h : w.heap[B]? = some (.cells (l.flatMap cells8 ++ rest).toArray t fr)) : ItemsAt w B 0 l := by
  refine ⟨lt_of_heap h, fun j x hj k v hv => ?_⟩
  have hg := flat8_get hj hv
  rw [Nat.zero_add, cell_of_heap h, List.getElem?_toArray, List.getElem?_append_left (List.getElem?_eq_some_iff.1 hg).1]
  exact hg
theorem fin_none {l : List Itm} (h : closed l none') : Lb.fin l = none' := by
  have : none' = Lb.fin l := fin_unique h (fun k hk => by cases hk)
  exact this.symm
theorem fin5 : Lb.fin l5 = none' := by
  refine fin_none fun k hk _ => ?_
  have : k = 1 := by
    match k, hk with
    | 0, hk => exact absurd hk (by decide)
    | 1, _ => rfl
    | 2, hk => exact absurd hk (by decide)
    | 3, hk => exact absurd hk (by decide)
    | 4, hk => exact absurd hk (by decide)
    | k + 5, hk => exact absurd hk (by simp [brAt, l5])
  subst this
  unfold reach
  decide
theorem lay5 : layE l5 = 0 := by
  unfold layE
  rw [fin5]
  decide +kernel
theorem words5 : wordsTo l5 5 = [99, 12583023, 19, 19] := by
  simp only [wordsTo, instrL, leadL, byOf, fin5]
  decide +kernel
theorem places5 : sumsTo (szs l5 (Lb.fin l5)) 5 = [0, 0, 4, 8, 16, 16] := by
  rw [fin5]
  decide +kernel
theorem find5b : findV l5 ⟨#[98]⟩ = 16 := by
  unfold findV
  rw [lay5, fin5]
  decide +kernel
theorem find5c : findV l5 ⟨#[99]⟩ = -1 := by
  unfold findV
  rw [lay5, fin5]
  decide +kernel
theorem lay3 : layE l3 = 30 := by
  unfold layE
  rw [if_neg (by decide), if_neg (by decide +kernel), if_pos (by decide +kernel)]
theorem right5 : rightX ⟨2, ⟨0, 0, 0, 0, 0⟩, ⟨#[97]⟩, 0⟩ = true := by decide +kernel
theorem number5 : (number 5 1048576).length = 2 := by decide +kernel
theorem wf5 : ∀ x ∈ l5, Itm.wf x := by
  intro x hx
  have z : ∀ n : Int, 0 ≤ n → n ≤ 100 → inInt n := fun n h1 h2 => ⟨by omega, by omega⟩
  simp only [l5, List.mem_cons, List.not_mem_nil, or_false] at hx
  rcases hx with rfl | rfl | rfl | rfl | rfl
  all_goals exact ⟨z _ (by simp) (by simp), ⟨z _ (by simp) (by simp), z _ (by simp) (by simp), z _ (by simp) (by simp), z _ (by simp) (by simp), z _ (by simp) (by simp)⟩, by unfold maxLen; decide, z _ (by simp) (by simp)⟩
theorem asm5 (B c : Nat) (w : World) (HI : ItemsAt w B 0 l5) : Calls Try.prog 16 #[.slice (some ⟨B, 0, none⟩) 5 c] w fun e w' => (∃ B' c', e = .returned (.tuple #[.slice (some ⟨B', 0, none⟩) 4 c', .int .i64 0]) ∧ w'.cell? ⟨B', 0, none⟩ = some (.int .i64 99) ∧ w'.cell? ⟨B', 1, none⟩ = some (.int .i64 12583023)) ∧ Both w w' := by
  refine (asm_any B 0 c l5 w HI (by decide) (by decide) wf5).mono fun e w' h => ?_
  obtain ⟨hb, ⟨h0, _⟩ | ⟨_, B', c', rfl, hat⟩⟩ := h
  · exact absurd lay5 h0
  · have e5 : l5.length = 5 := rfl
    rw [e5, words5] at hat ⊢
    exact ⟨⟨B', c', rfl, by simpa using hat.2 0 99 rfl, by simpa using hat.2 1 12583023 rfl⟩, hb⟩
theorem pl5 (B c : Nat) (w : World) (HI : ItemsAt w B 0 l5) : Calls Try.prog 14 #[.slice (some ⟨B, 0, none⟩) 5 c] w fun e w' => (∃ B', e = .returned (.tuple #[.slice (some ⟨B', 0, none⟩) 6 6, .int .i64 0]) ∧ w'.cell? ⟨B', 5, none⟩ = some (.int .i64 16)) ∧ Both w w' := by
  refine (places_any B 0 c l5 w HI (by decide) (by decide) wf5).mono fun e w' h => ?_
  obtain ⟨hb, ⟨h0, _⟩ | ⟨_, B', rfl, hat⟩⟩ := h
  · exact absurd lay5 h0
  · have e5 : l5.length = 5 := rfl
    rw [e5, places5] at hat
    exact ⟨⟨B', rfl, by simpa using hat.2 5 16 rfl⟩, hb⟩
theorem asm3 (B c : Nat) (w : World) (HI : ItemsAt w B 0 l3) : Calls Try.prog 16 #[.slice (some ⟨B, 0, none⟩) 3 c] w fun e w' => e = .returned (.tuple #[.slice none 0 0, .int .i64 30]) ∧ Both w w' := by
  refine (asm_any B 0 c l3 w HI (by decide) (by decide) (fun x hx => wf5 x (by
    simp only [l3, List.mem_cons, List.not_mem_nil, or_false] at hx
    rcases hx with rfl | rfl | rfl <;> simp [l5]))).mono fun e w' h => ?_
  obtain ⟨hb, ⟨_, rfl⟩ | ⟨h0, _⟩⟩ := h
  · rw [lay3]; exact ⟨rfl, hb⟩
  · rw [lay3] at h0; cases h0
theorem fnd5 (B c : Nat) (w : World) (HI : ItemsAt w B 0 l5) (s : ByteArray) (r : Int) (hr : findV l5 s = r) : Calls Try.prog 19 #[.slice (some ⟨B, 0, none⟩) 5 c, .string s] w fun e w' => e = .returned (.int .i64 r) ∧ Both w w' := by
  subst hr
  exact find_any B 0 c l5 s w HI (by decide) (by decide) wf5
set_option maxRecDepth 100000 in
set_option maxHeartbeats 8000000 in
theorem awake_any (w : World) : Calls Try.prog 11 #[] w fun e w' => e = .returned (.bool true) ∧ Both w w' := by
  have ex0 : ∀ (x y : Value) (W : World), (Instr.extract (.tuple #[x, y]) 0).run Try.prog W = .ok x W := fun x y W => by kernel_rfl
  have ex1 : ∀ (x y : Value) (W : World), (Instr.extract (.tuple #[x, y]) 1).run Try.prog W = .ok y W := fun x y W => by kernel_rfl
  go_enter Try.func11, Try.ntmps11
  go_wp2_with fail
  have hI1 : ItemsAt (w.alloc (.cells (l5.flatMap cells8).toArray 26)) w.heap.size 0 l5 := items_of_heap (rest := []) (by rw [List.append_nil]; exact heap_alloc_new _ _)
  have HI1 := Lib.hid hI1
  clear hI1
  have HB1 : Hid (Both w (w.alloc (.cells (l5.flatMap cells8).toArray 26))) := (Both.refl w).alloc _ _
  have ht : w.heap.size < (w.alloc (.cells (l5.flatMap cells8).toArray 26)).heap.size := by simp
  refine (asm5 w.heap.size 5 _ HI1.out).mono ?_
  rintro e w2 ⟨⟨B2, c2, rfl, a0, a1⟩, hb2⟩
  have HB2 := Lib.hid (HB1.out.trans hb2)
  have HI2 := Lib.hid (HI1.out.both hb2)
  clear HI1 HB1 ht hb2
  go_wp2_with fail
  refine (pl5 w.heap.size 5 _ HI2.out).mono ?_
  rintro e w3 ⟨⟨P3, rfl, p5⟩, hb3⟩
  have a0' := (hb3.cell (p := ⟨B2, 0, none⟩) (World.block_lt_of_cell? w2 ⟨B2, 0, none⟩ a0)).trans a0
  have a1' := (hb3.cell (p := ⟨B2, 1, none⟩) (World.block_lt_of_cell? w2 ⟨B2, 0, none⟩ a0)).trans a1
  have HB3 := Lib.hid (HB2.out.trans hb3)
  have HI3 := Lib.hid (HI2.out.both hb3)
  clear HI2 HB2 hb3 a0 a1
  go_wp2_with fail
  have hi3 : ItemsAt w3 w.heap.size 0 l3 := ⟨HI3.out.1, fun j x hj => HI3.out.2 j x (by
    have hl : j < 3 := (List.getElem?_eq_some_iff.1 hj).1
    match j, hl, hj with
    | 0, _, hj => exact hj
    | 1, _, hj => exact hj
    | 2, _, hj => exact hj)⟩
  refine (asm3 w.heap.size 5 _ hi3).mono ?_
  rintro e w4 ⟨rfl, hb4⟩
  have b0 := (hb4.cell (p := ⟨B2, 0, none⟩) (World.block_lt_of_cell? w3 ⟨B2, 0, none⟩ a0')).trans a0'
  have b1 := (hb4.cell (p := ⟨B2, 1, none⟩) (World.block_lt_of_cell? w3 ⟨B2, 0, none⟩ a0')).trans a1'
  have b5 := (hb4.cell (p := ⟨P3, 5, none⟩) (World.block_lt_of_cell? w3 ⟨P3, 5, none⟩ p5)).trans p5
  have HB4 := Lib.hid (HB3.out.trans hb4)
  have HI4 := Lib.hid (HI3.out.both hb4)
  clear HI3 HB3 hb4 hi3 a0' a1' p5
  go_wp2_with fail
  refine (fnd5 w.heap.size 5 _ HI4.out ⟨#[98]⟩ 16 find5b).mono ?_
  rintro e w5 ⟨rfl, hb5⟩
  have HB5 := Lib.hid (HB4.out.trans hb5)
  have HI5 := Lib.hid (HI4.out.both hb5)
  clear HI4 HB4 hb5 b0 b1 b5
  go_wp2_with fail
  refine (fnd5 w.heap.size 5 _ HI5.out ⟨#[99]⟩ (-1) find5c).mono ?_
  rintro e w6 ⟨rfl, hb6⟩
  have HB6 := Lib.hid (HB5.out.trans hb6)
  obtain ⟨c0, c1, c2', c3, c4, c5, c6, c7⟩ := (HI5.out.both hb6).get (j := 0) rfl
  rw [Nat.zero_mul, Nat.zero_add] at c0 c1 c2' c3 c4 c5 c6 c7
  clear HI5 HB5 hb6
  go_wp2_with fail
  refine (rightX_lit right5 (wf5 ⟨2, ⟨0, 0, 0, 0, 0⟩, ⟨#[97]⟩, 0⟩ (by simp [l5])) _).mono ?_
  rintro e w7 ⟨rfl, hb7⟩
  have HB7 := Lib.hid (HB6.out.trans hb7)
  clear HB6 hb7 c0 c1 c2' c3 c4 c5 c6 c7
  go_wp2_with fail
  refine (number_new 5 1048576 _).mono ?_
  rintro e w8 ⟨p, q, rfl, _, hb8, _⟩
  rw [number5]
  have HB8 := Lib.hid (HB7.out.trans hb8)
  clear HB7 hb8
  go_wp2_with fail
  go_ret
  exact ⟨rfl, HB8.out⟩
end Go.Proofs.Ytjjbfeoidceiiaa
