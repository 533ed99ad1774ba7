/- The document's own answer for layer 5: what its Scan's rounds leave, in plain words; a token in a box of its own. -/
import Derived.Test.YtgameoiofikhmaaDoorTRefE
namespace Go.Proofs.YtgameoiofikhmaaDoor
open Go.RowKit Tk
set_option linter.unusedVariables false
theorem gap_one {c : UInt8} (t : Bs) (h : c.toNat = 32 ∨ c.toNat = 9 ∨ c.toNat = 10) : gap (c :: t) = 1 := if_pos h
theorem gap_zero {c : UInt8} (t : Bs) (h : ¬ (c.toNat = 32 ∨ c.toNat = 9 ∨ c.toNat = 10)) (h2 : c.toNat ≠ 35) : gap (c :: t) = 0 := by
  show (if c.toNat = 32 ∨ c.toNat = 9 ∨ c.toNat = 10 then 1 else if c.toNat = 35 then 1 + upTo10 t else 0) = 0
  rw [if_neg h, if_neg h2]
theorem feeds_cons (c : UInt8) (t : Bs) : feeds (c :: t) = if c.toNat = 10 then feeds t + 1 else feeds t := by
  unfold feeds
  rw [List.filter_cons]
  by_cases h : c.toNat = 10
  · rw [if_pos (by simpa using h), if_pos h, List.length_cons]
  · rw [if_neg (by simpa using h), if_neg h]
theorem feeds_upTo : ∀ l : Bs, feeds (l.take (upTo10 l)) = 0
  | [] => rfl
  | c :: t => by
    rw [upTo10_cons]
    by_cases h : c.toNat = 10
    · rw [if_pos h]; rfl
    · rw [if_neg h, List.take_succ_cons, feeds_cons, if_neg h]
      exact feeds_upTo t
theorem scan_feed {c : UInt8} (t : Bs) (n : Nat) (h : c.toNat = 10) : scan (c :: t) n = scan t (n + 1) := by
  have hg := gap_one t (Or.inr (Or.inr h))
  rw [scan_gap n (by rw [hg]; exact Nat.one_pos), hg]
  show scan t (n + feeds [c]) = _
  rw [feeds_cons, if_pos h]
  rfl
theorem scan_blank {c : UInt8} (t : Bs) (n : Nat) (h : c.toNat = 32 ∨ c.toNat = 9) : scan (c :: t) n = scan t n := by
  have hg := gap_one t (by omega : c.toNat = 32 ∨ c.toNat = 9 ∨ c.toNat = 10)
  rw [scan_gap n (by rw [hg]; exact Nat.one_pos), hg]
  show scan t (n + feeds [c]) = _
  rw [feeds_cons, if_neg (by omega)]
  rfl
theorem scan_note {c : UInt8} (t : Bs) (n : Nat) (h : c.toNat = 35) : scan (c :: t) n = scan ((c :: t).drop (upTo10 (c :: t))) n := by
  have hg := gap_note t h
  rw [scan_gap n (by rw [hg, upTo10_cons, if_neg (by omega)]; omega), hg, feeds_upTo]
  rfl
def RAll (s : ByteArray) (R : Res) (i : Nat) (l : List Tok) (n : Nat) : Prop := R = (scan (s.data.toList.drop i) n).pre l
def upFrom (s : ByteArray) (k : Nat) : Nat := upTo10 (s.data.toList.drop k)
theorem upFrom_end (s : ByteArray) (k : Nat) (h : s.size ≤ k) : upFrom s k = 0 := by
  unfold upFrom
  rw [List.drop_eq_nil_of_le (by simpa using h)]
  rfl
theorem upFrom_feed (s : ByteArray) (k : Nat) (h : k < s.size) (hc : s[k].toNat = 10) : upFrom s k = 0 := by
  unfold upFrom
  rw [drop_cons s k h, upTo10_cons, if_pos hc]
theorem upFrom_more (s : ByteArray) (k : Nat) (h : k < s.size) (hc : s[k].toNat ≠ 10) : upFrom s k = upFrom s (k + 1) + 1 := by
  unfold upFrom
  rw [drop_cons s k h, upTo10_cons, if_neg hc]
theorem rall_feed {s : ByteArray} {R : Res} {i n : Nat} {l : List Tok} (h : RAll s R i l n) (hi : i < s.size) (hc : s[i].toNat = 10) : RAll s R (i + 1) l (n + 1) := by
  unfold RAll at h ⊢
  rw [h, drop_cons s i hi, scan_feed _ n hc]
theorem rall_blank {s : ByteArray} {R : Res} {i n : Nat} {l : List Tok} (h : RAll s R i l n) (hi : i < s.size) (hc : s[i].toNat = 32 ∨ s[i].toNat = 9) : RAll s R (i + 1) l n := by
  unfold RAll at h ⊢
  rw [h, drop_cons s i hi, scan_blank _ n hc]
theorem rall_note {s : ByteArray} {R : Res} {i n : Nat} {l : List Tok} (h : RAll s R i l n) (hi : i < s.size) (hc : s[i].toNat = 35) : RAll s R (i + upFrom s i) l n := by
  unfold RAll upFrom at *
  rw [h, drop_cons s i hi, scan_note _ n hc, ← drop_cons s i hi, List.drop_drop]
theorem gap_at {s : ByteArray} {i : Nat} (hi : i < s.size) (h : ¬ (s[i].toNat = 32 ∨ s[i].toNat = 9 ∨ s[i].toNat = 10)) (h2 : s[i].toNat ≠ 35) : gap (s.data.toList.drop i) = 0 := by
  rw [drop_cons s i hi]
  exact gap_zero _ h h2
theorem mid_data (s : ByteArray) (i r : Nat) : (s.extract i (i + r)).data.toList = (s.data.toList.drop i).take r := by
  rw [extract_str, str_data]
  congr 1
  omega
theorem rall_run {s : ByteArray} {R : Res} {i n r : Nat} {l : List Tok} {k m : Int} (h : RAll s R i l n) (hg : gap (s.data.toList.drop i) = 0) (hr : runFrom s i = r) (hp : 0 < r) (ho : ofRun (s.extract i (i + r)).data.toList = some (k, m)) : RAll s R (i + r) (l ++ [⟨k, (s.extract i (i + r)).data.toList, m, n⟩]) n := by
  unfold RAll runFrom at *
  subst hr
  rw [mid_data] at ho ⊢
  rw [h, scan_run n hg hp ho, cons_pre, List.drop_drop]
theorem rall_runno {s : ByteArray} {R : Res} {i n r : Nat} {l : List Tok} (h : RAll s R i l n) (hg : gap (s.data.toList.drop i) = 0) (hr : runFrom s i = r) (hp : 0 < r) (ho : ofRun (s.extract i (i + r)).data.toList = none) : R = .err n := by
  unfold RAll runFrom at *
  subst hr
  rw [mid_data] at ho
  rw [h, scan_run_no n hg hp ho]
  rfl
theorem rall_sign {s : ByteArray} {R : Res} {i n : Nat} {l : List Tok} {g : Bs} (h : RAll s R i l n) (hg : gap (s.data.toList.drop i) = 0) (hr : runFrom s i = 0) (ho : signAt (s.data.toList.drop i) = some g) : RAll s R (i + g.length) (l ++ [⟨4, (str g).data.toList, 0, n⟩]) n := by
  unfold RAll runFrom at *
  rw [h, scan_sign n hg hr ho, cons_pre, List.drop_drop]
  rfl
theorem rall_bad {s : ByteArray} {R : Res} {i n : Nat} {l : List Tok} (h : RAll s R i l n) (hi : i < s.size) (hg : gap (s.data.toList.drop i) = 0) (hr : runFrom s i = 0) (ho : signAt (s.data.toList.drop i) = none) : R = .err n := by
  unfold RAll runFrom at *
  rw [h, scan_bad n (by rw [drop_cons s i hi]; simp) hg hr ho]
  rfl
theorem rall_end {s : ByteArray} {R : Res} {n : Nat} {l : List Tok} (h : RAll s R s.size l n) : R = .ok (l ++ [⟨5, (⟨#[]⟩ : ByteArray).data.toList, 0, n⟩]) := by
  unfold RAll at h
  rw [h, List.drop_eq_nil_of_le (by simp)]
  rfl
/-- a token in a box of its own -/
structure Box (w W : World) (g : Nat) (a b c d : Value) : Prop where
  c0 : W.cell? ⟨g, 0, none⟩ = some a
  c1 : W.cell? ⟨g, 1, none⟩ = some b
  c2 : W.cell? ⟨g, 2, none⟩ = some c
  c3 : W.cell? ⟨g, 3, none⟩ = some d
  fz : ∀ j, W.frozen? ⟨g, j, none⟩ = false
  bel : Bel w W
  lt : g < W.heap.size
  ge : w.heap.size ≤ g
theorem Box.new {w W : World} (h : Bel w W) (t : TypeId) (z0 z1 z2 z3 : Value) : Box w (W.alloc (.cells #[z0, z1, z2, z3] t)) W.heap.size z0 z1 z2 z3 := by
  have hh := heap_alloc_new W (.cells #[z0, z1, z2, z3] t)
  exact ⟨cell_of_heap hh 0, cell_of_heap hh 1, cell_of_heap hh 2, cell_of_heap hh 3, frozen_of_heap hh, h.alloc _ _, lt_of_heap hh, h.size⟩
theorem Box.put {w W : World} {g : Nat} {x0 x1 x2 x3 : Value} (h : Box w W g x0 x1 x2 x3) (y0 y1 y2 y3 : Value) : Box w ((((W.setCell ⟨g, 0, none⟩ y0).setCell ⟨g, 1, none⟩ y1).setCell ⟨g, 2, none⟩ y2).setCell ⟨g, 3, none⟩ y3) g y0 y1 y2 y3 := by
  obtain ⟨g0, g1, g2, g3⟩ := four_set (y0 := y0) (y1 := y1) (y2 := y2) (y3 := y3) h.c0 h.c1 h.c2 h.c3
  exact ⟨g0, g1, g2, g3, fun j => by simp [h.fz], (((h.bel.setCell h.ge _).setCell h.ge _).setCell h.ge _).setCell h.ge _, by simpa using h.lt, h.ge⟩
theorem Box.line {w W : World} {g : Nat} {x0 x1 x2 x3 : Value} (h : Box w W g x0 x1 x2 x3) (y3 : Value) : Box w (W.setCell ⟨g, 3, none⟩ y3) g x0 x1 x2 y3 := by
  have ne : ∀ i j : Nat, i ≠ j → (⟨g, i, none⟩ : Addr) ≠ ⟨g, j, none⟩ := fun i j h c => h (by injection c)
  exact ⟨(World.cell?_setCell_other _ _ _ _ (ne 3 0 (by omega))).trans h.c0, (World.cell?_setCell_other _ _ _ _ (ne 3 1 (by omega))).trans h.c1, (World.cell?_setCell_other _ _ _ _ (ne 3 2 (by omega))).trans h.c2, World.cell?_setCell_same _ _ _ h.c3, fun j => by simp [h.fz], h.bel.setCell h.ge _, by simpa using h.lt, h.ge⟩
theorem Box.on {w W W2 : World} {g : Nat} {x0 x1 x2 x3 : Value} (h : Box w W g x0 x1 x2 x3) (hb : Bel W W2) : Box w W2 g x0 x1 x2 x3 := by
  have hk := hb.block g h.lt
  refine ⟨(hb.cell (p := ⟨g, 0, none⟩) h.lt).trans h.c0, (hb.cell (p := ⟨g, 1, none⟩) h.lt).trans h.c1, (hb.cell (p := ⟨g, 2, none⟩) h.lt).trans h.c2, (hb.cell (p := ⟨g, 3, none⟩) h.lt).trans h.c3, fun j => ?_, h.bel.trans hb, Nat.lt_of_lt_of_le h.lt hb.size, h.ge⟩
  have := h.fz j
  unfold World.frozen? at this ⊢
  rw [show W2.heap[(⟨g, j, none⟩ : Addr).block]? = W.heap[(⟨g, j, none⟩ : Addr).block]? from hk]
  exact this
theorem ownBlock_lt {w : World} {base : Nat} {v : Value} {l : List Tok} (h : TRow w base v l) : ∀ k, v.ownBlock = some k → k < w.heap.size := by
  intro k hk
  rcases h.2 with ⟨rfl, _⟩ | ⟨g, cap, cur, rfl, hb, hc⟩
  · cases hk
  · cases hk
    exact lt_of_heap hc.1
theorem box_after {wr W w1 : World} {g base : Nat} {a b c d v : Value} {l : List Tok} {C : Array Value} {t : TypeId} (hB : Box wr W g a b c d) (hrow : TRow wr base v l) (h2 : Sv (fun k => v.ownBlock = some k) (W.alloc (.cells C t)) w1) : w1.cell? ⟨g, 1, none⟩ = some b := by
  have hn : ¬ v.ownBlock = some g := fun e => by
    have := ownBlock_lt hrow g e
    have := hB.ge
    omega
  rw [h2.cell (p := ⟨g, 1, none⟩) (by have := hB.lt; simp; omega) hn, ((Bel.refl W).alloc C t).cell (p := ⟨g, 1, none⟩) hB.lt]
  exact hB.c1
end Go.Proofs.YtgameoiofikhmaaDoor
