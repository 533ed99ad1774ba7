/- The law's source of raw numbers: one block that is written into; memory without that block. -/
import Derived.Test.YthlnjnmomnpnpaaGreatDoorYMem
import Derived.Test.YthlnjnmomnpnpaaGreatDoorYProgP
import Derived.Test.YthlnjnmomnpnpaaGreatDoorYVar
namespace Go.Proofs.YthlnjnmomnpnpaaGreatDoor
open Go.RowKit Tk Sy
set_option linter.unusedVariables false
set_option linter.unusedSimpArgs false
/-- the memory without some blocks -/
def maskP (S : Nat → Bool) (w : World) : World := { w with heap := w.heap.mapIdx fun i o => if S i = true then .cells #[] 0 (0, 0) else o }
theorem maskP_size (S : Nat → Bool) (w : World) : (maskP S w).heap.size = w.heap.size := by simp [maskP]
theorem maskP_other {S : Nat → Bool} {k : Nat} (w : World) (h : S k = false) : (maskP S w).heap[k]? = w.heap[k]? := by
  simp only [maskP, Array.getElem?_mapIdx, h]
  cases w.heap[k]? <;> rfl
theorem maskP_self {S : Nat → Bool} {k : Nat} (w : World) (h : S k = true) (hk : k < w.heap.size) : (maskP S w).heap[k]? = some (.cells #[] 0 (0, 0)) := by
  simp only [maskP, Array.getElem?_mapIdx, Array.getElem?_eq_getElem hk, h]
  rfl
theorem maskP_cell {S : Nat → Bool} (w : World) {a : Addr} (h : S a.block = false) : (maskP S w).cell? a = w.cell? a := by
  unfold World.cell?
  rw [maskP_other w h]
theorem maskP_none {S : Nat → Bool} (w : World) {a : Addr} (h : S a.block = true) : (maskP S w).cell? a = none := by
  unfold World.cell?
  by_cases hg : a.block < w.heap.size
  · rw [maskP_self w h hg]
    cases a.spot <;> simp
  · rw [Array.getElem?_eq_none (by rw [maskP_size]; omega)]
theorem maskP_yes {S : Nat → Bool} {w : World} {a : Addr} {v : Value} (h : (maskP S w).cell? a = some v) : S a.block = false ∧ w.cell? a = some v := by
  by_cases hs : S a.block = true
  · rw [maskP_none w hs] at h; cases h
  · have hs' : S a.block = false := by simpa using hs
    rw [maskP_cell w hs'] at h
    exact ⟨hs', h⟩
/-- without one -/
abbrev mask (g : Nat) (w : World) : World := maskP (fun k => k == g) w
/-- from one on -/
abbrev young (g : Nat) (w : World) : World := maskP (fun k => decide (k < g)) w
/-- ahead of one -/
abbrev elder (g : Nat) (w : World) : World := maskP (fun k => decide (g ≤ k)) w
theorem mask_size (g : Nat) (w : World) : (mask g w).heap.size = w.heap.size := maskP_size _ _
/-- what is read in one memory is so in the other -/
structure Sub (w w' : World) : Prop where
  size : w.heap.size ≤ w'.heap.size
  cell : ∀ (a : Addr) (v : Value), a.block < w.heap.size → w.cell? a = some v → w'.cell? a = some v
theorem Sub.refl (w : World) : Sub w w := ⟨Nat.le_refl _, fun _ _ _ h => h⟩
theorem Sub.trans {a b c : World} (h : Sub a b) (k : Sub b c) : Sub a c := ⟨Nat.le_trans h.size k.size, fun x v hx hv => k.cell x v (Nat.lt_of_lt_of_le hx h.size) (h.cell x v hx hv)⟩
theorem Bel.sub {w w' : World} (h : Bel w w') : Sub w w' := ⟨h.size, fun a v ha hv => (h.cell ha).trans hv⟩
theorem maskP_sub (S : Nat → Bool) (w : World) : Sub (maskP S w) w := ⟨Nat.le_of_eq (maskP_size S w), fun a v _ hv => (maskP_yes hv).2⟩
theorem maskP_sub2 {S T : Nat → Bool} (w : World) (h : ∀ k, T k = true → S k = true) : Sub (maskP S w) (maskP T w) := ⟨by rw [maskP_size, maskP_size]; exact Nat.le_refl _, fun a v _ hv => by
  obtain ⟨h1, h2⟩ := maskP_yes hv
  have h3 : T a.block = false := by
    by_cases e : T a.block = true
    · rw [h _ e] at h1; cases h1
    · simpa using e
  rw [maskP_cell w h3]
  exact h2⟩
theorem mask_sub (g : Nat) (w : World) : Sub (mask g w) w := maskP_sub _ w
theorem Sv.maskP {S : Nat → Prop} {T : Nat → Bool} {w w' : World} (h : Sv S w w') (hs : ∀ k, S k → k < w.heap.size → T k = true) : Bel (maskP T w) (maskP T w') := ⟨h.os, h.tape, h.output, by rw [maskP_size, maskP_size]; exact h.size, fun k hk => by
  rw [maskP_size] at hk
  by_cases e : T k = true
  · rw [maskP_self _ e hk, maskP_self _ e (Nat.lt_of_lt_of_le hk h.size)]
  · have e' : T k = false := by simpa using e
    rw [maskP_other _ e', maskP_other _ e']
    exact h.block k hk (fun c => e (hs k c hk))⟩
theorem young_heap {B k : Nat} {w : World} {o : Obj} (h : w.heap[k]? = some o) (hk : B ≤ k) : (young B w).heap[k]? = some o := (maskP_other w (by simp; omega)).trans h
theorem young_sub {B B' : Nat} (w : World) (h : B' ≤ B) : Sub (young B w) (young B' w) := maskP_sub2 w (fun k hk => by simp only [decide_eq_true_eq] at hk ⊢; omega)
theorem ExsAt.sub {w w' : World} (hb : Sub w w') : ∀ (k : Nat) (p : Option Addr) (l : List Ex), ExsAt k w p l → ExsAt k w' p l := by
  intro k
  induction k with
  | zero => intro p l h; exact h
  | succ k ih =>
    intro p l h j e hj
    obtain ⟨hw, b, o, q, c, hp, hl, c0, c1, c2, c3, c4, hr⟩ := h j e hj
    exact ⟨hw, b, o, q, c, hp, Nat.lt_of_lt_of_le hl hb.size, hb.cell _ _ hl c0, hb.cell _ _ hl c1, hb.cell _ _ hl c2, hb.cell _ _ hl c3, hb.cell _ _ hl c4, ih q _ hr⟩
theorem EAt.sub {w w' : World} {p : Option Addr} {l : List Ex} (h : EAt w p l) (hb : Sub w w') : EAt w' p l := by
  obtain ⟨k, h⟩ := h
  exact ⟨k, ExsAt.sub hb k p l h⟩
theorem StsAt.sub {w w' : World} (hb : Sub w w') : ∀ (k : Nat) (p : Option Addr) (l : List St), StsAt k w p l → StsAt k w' p l := by
  intro k
  induction k with
  | zero => intro p l h; exact h
  | succ k ih =>
    intro p l h j e hj
    obtain ⟨hw, b, o, q, c, q1, d1, q2, d2, hp, hl, ⟨c0, c1, c2, c3, c4, c5, c6⟩, ha, ht, he⟩ := h j e hj
    exact ⟨hw, b, o, q, c, q1, d1, q2, d2, hp, Nat.lt_of_lt_of_le hl hb.size, ⟨hb.cell _ _ hl c0, hb.cell _ _ hl c1, hb.cell _ _ hl c2, hb.cell _ _ hl c3, hb.cell _ _ hl c4, hb.cell _ _ hl c5, hb.cell _ _ hl c6⟩, ha.sub hb, ih q1 _ ht, ih q2 _ he⟩
theorem SAt.sub {w w' : World} {p : Option Addr} {l : List St} (h : SAt w p l) (hb : Sub w w') : SAt w' p l := by
  obtain ⟨k, h⟩ := h
  exact ⟨k, StsAt.sub hb k p l h⟩
/-- but for one block nothing has turned -/
abbrev Svg (g : Nat) (w w' : World) : Prop := Sv (fun k => k = g) w w'
theorem Svg.refl (g : Nat) (w : World) : Svg g w w := (Bel.refl w).sv _
theorem Svg.trans {g : Nat} {a b c : World} (h : Svg g a b) (k : Svg g b c) : Svg g a c := Sv.trans h k
theorem Bel.svg {w w' : World} (h : Bel w w') (g : Nat) : Svg g w w' := h.sv _
theorem Svg.set (g i : Nat) (w : World) (v : Value) : Svg g w (w.setCell ⟨g, i, none⟩ v) := ⟨rfl, rfl, rfl, by simp [World.setCell], fun k _ hk => Below.heap_setCell _ _ _ _ hk⟩
theorem Svg.mask {g : Nat} {w w' : World} (h : Svg g w w') (hg : g < w.heap.size) : Bel (mask g w) (mask g w') := Sv.maskP h (fun k hk _ => by simp [hk])
theorem Svg.lt {g : Nat} {w w' : World} (h : Svg g w w') (hg : g < w.heap.size) : g < w'.heap.size := Nat.lt_of_lt_of_le hg h.size
theorem Svg.bel {g : Nat} {w w' w0 : World} (h : Svg g w w') (h0 : Bel w0 w) (hg : w0.heap.size ≤ g) : Bel w0 w' := Sv.bel h h0 (fun k hk => by subst hk; exact hg)
theorem mask_heap {g k : Nat} {w : World} {o : Obj} (h : w.heap[k]? = some o) (hk : k ≠ g) : (mask g w).heap[k]? = some o := (maskP_other w (by simp [hk])).trans h
/-- raw numbers in memory -/
def RawAt (w : World) (p : Option Addr) (l : List Int) : Prop := ∀ (j : Nat) (x : Int), l[j]? = some x → inI x ∧ ∃ b o, p = some ⟨b, o, none⟩ ∧ b < w.heap.size ∧ w.cell? ⟨b, o + j, none⟩ = some (.int .i64 x)
theorem RawAt.sub {w w' : World} {p : Option Addr} {l : List Int} (h : RawAt w p l) (hb : Sub w w') : RawAt w' p l := fun j x hj => by
  obtain ⟨hi, b, o, hp, hl, hc⟩ := h j x hj
  exact ⟨hi, b, o, hp, Nat.lt_of_lt_of_le hl hb.size, hb.cell _ _ hl hc⟩
theorem RawAt.bel {w w' : World} {p : Option Addr} {l : List Int} (h : RawAt w p l) (hb : Bel w w') : RawAt w' p l := h.sub hb.sub
/-- names in memory -/
def NmsAt (w : World) (p : Option Addr) (l : List ByteArray) : Prop := ∀ (j : Nat) (x : ByteArray), l[j]? = some x → x.size ≤ maxLen ∧ ∃ b o, p = some ⟨b, o, none⟩ ∧ b < w.heap.size ∧ w.cell? ⟨b, o + j, none⟩ = some (.string x)
theorem NmsAt.sub {w w' : World} {p : Option Addr} {l : List ByteArray} (h : NmsAt w p l) (hb : Sub w w') : NmsAt w' p l := fun j x hj => by
  obtain ⟨hi, b, o, hp, hl, hc⟩ := h j x hj
  exact ⟨hi, b, o, hp, Nat.lt_of_lt_of_le hl hb.size, hb.cell _ _ hl hc⟩
theorem NmsAt.bel {w w' : World} {p : Option Addr} {l : List ByteArray} (h : NmsAt w p l) (hb : Bel w w') : NmsAt w' p l := h.sub hb.sub
/-- the source in its block -/
structure SrcAt (g : Nat) (w : World) (l : List Int) : Prop where
  cell : ∃ p c, w.heap[g]? = some (.cells #[.slice p l.length c] 57 (0, 0)) ∧ l.length ≤ c ∧ RawAt (elder g w) p l
  len : l.length ≤ 400
theorem SrcAt.lt {g : Nat} {w : World} {l : List Int} (h : SrcAt g w l) : g < w.heap.size := by
  obtain ⟨p, c, hc, _⟩ := h.cell
  exact lt_of_heap hc
theorem SrcAt.bel {g : Nat} {w w' : World} {l : List Int} (h : SrcAt g w l) (hb : Bel w w') : SrcAt g w' l := by
  obtain ⟨p, c, hc, hlc, hr⟩ := h.cell
  exact ⟨⟨p, c, hb.stays hc, hlc, hr.bel (Sv.maskP (hb.sv fun _ => False) (fun _ c _ => c.elim))⟩, h.len⟩
theorem SrcAt.sv {g : Nat} {S : Nat → Prop} {w w' : World} {l : List Int} (h : SrcAt g w l) (hb : Sv S w w') (hs : ∀ k, S k → g < k) : SrcAt g w' l := by
  obtain ⟨p, c, hc, hlc, hr⟩ := h.cell
  exact ⟨⟨p, c, (hb.block g (lt_of_heap hc) (fun e => by have := hs g e; omega)).trans hc, hlc, hr.bel (Sv.maskP hb (fun k hk _ => by have := hs k hk; simp; omega))⟩, h.len⟩
theorem RawAt.tail {w : World} {b o : Nat} {x : Int} {l : List Int} (h : RawAt w (some ⟨b, o, none⟩) (x :: l)) : RawAt w (some ⟨b, o + 1, none⟩) l := fun j y hj => by
  obtain ⟨hi, b', o', hp, hl, hc⟩ := h (j + 1) y (by simpa using hj)
  cases hp
  exact ⟨hi, b, o + 1, rfl, hl, by rw [show o + 1 + j = o + (j + 1) by omega]; exact hc⟩
set_option maxRecDepth 100000 in
set_option maxHeartbeats 2000000 in
theorem next_any {g : Nat} {l : List Int} {n : Int} (hn : 1 ≤ n) (w : World) (hS : SrcAt g w l) :
    Calls Tryz.prog 21 #[.pointer (some ⟨g, 0, none⟩), .int .i64 n] w fun e w' => e = .returned (.int .i64 (nx l n).1) ∧ Svg g w w' ∧ SrcAt g w' (nx l n).2 := by
  obtain ⟨⟨p, c, hc, hlc, hr⟩, hlen⟩ := hS
  have HC := Lib.hid hc
  cases l with
  | nil =>
    have c0 : w.cell? ⟨g, 0, none⟩ = some (.slice p 0 c) := cell_of_heap hc 0
    go_enter Tryz.func21, Tryz.ntmps21
    go_wp2_with fail
    go_ret
    exact ⟨rfl, Svg.refl _ _, ⟨p, c, hc, hlc, hr⟩, hlen⟩
  | cons x t =>
    have c0 : w.cell? ⟨g, 0, none⟩ = some (.slice p (x :: t).length c) := cell_of_heap hc 0
    obtain ⟨hi, b, o, rfl, hb, hx⟩ := hr 0 x rfl
    have HI := Lib.hid hi
    have HP := Lib.hid (show pick x n = (nx (x :: t) n).1 from rfl)
    have hx' : w.cell? ⟨b, o, none⟩ = some (.int .i64 x) := (maskP_sub _ w).cell _ _ hb hx
    obtain ⟨m, hm⟩ : ∃ m, t.length = m := ⟨_, rfl⟩
    have hm1 : (x :: t).length = m + 1 := by rw [← hm]; rfl
    rw [hm1] at c0 hlen
    have HR := Lib.hid hr
    have HM := Lib.hid hm
    have hfz := frozen_of_heap hc 0
    have HG := Lib.hid (lt_of_heap hc)
    have HT : Hid (RawAt (elder g w) (some ⟨b, o + 1, none⟩) t) := Lib.hid hr.tail
    have HN : Hid (nx (x :: t) n = (pick x n, t)) := Lib.hid rfl
    have HL : Hid (m + 1 ≤ 400 ∧ m + 1 ≤ c) := Lib.hid ⟨hlen, by rw [← hm1]; exact hlc⟩
    have HNW : Hid (∀ v, (w.setCell ⟨g, 0, none⟩ v).heap[g]? = some (.cells #[v] 57 (0, 0))) := Lib.hid (fun v => by simp [World.setCell, Array.getElem?_modify, hc])
    rw [HN.out]
    have HPP : Hid (pick x n = pick x n) := Lib.hid rfl
    generalize hr1 : pick x n = r at HP ⊢
    have HP1 := Lib.hid hr1
    have hne : ((m : Int) + 1 == 0) = false := by
      rw [beq_eq_false_iff_ne]; omega
    clear hc hr hi hx hm1 hm hr1 hlc hlen HPP HN HP
    by_cases hc1 : c = 1
    · subst hc1
      go_enter Tryz.func21, Tryz.ntmps21
      go_wp2_with (go_at_call 54; ((with_reducible refine (pick6_lit HP1.out HI.out hn _).mono ?_); rintro e w' ⟨rfl, rfl⟩))
      go_ret
      have h0 : t = [] := List.eq_nil_of_length_eq_zero (by have := HM.out; have := HL.out; omega)
      subst h0
      have hm0 : m = 0 := HM.out.symm
      subst hm0
      exact ⟨rfl, Svg.set _ _ _ _, ⟨_, _, HNW.out _, Nat.le_refl _, fun j y hj => by cases hj⟩, by show 0 ≤ 400; omega⟩
    · go_enter Tryz.func21, Tryz.ntmps21
      go_wp2_with (go_at_call 54; ((with_reducible refine (pick6_lit HP1.out HI.out hn _).mono ?_); rintro e w' ⟨rfl, rfl⟩))
      go_ret
      have hL := HL.out
      refine ⟨rfl, Svg.set _ _ _ _, ⟨some ⟨b, o + 1, none⟩, c - 1, by rw [HM.out]; exact HNW.out _, by rw [HM.out]; omega, ?_⟩, by rw [HM.out]; omega⟩
      exact HT.out.bel (Sv.maskP (Svg.set g 0 w _) (fun k hk _ => by simp [hk]))
theorem next_lit {g : Nat} {l t : List Int} {n r : Int} (h : nx l n = (r, t)) (hn : 1 ≤ n) (w : World) (hS : SrcAt g w l) :
    Calls Tryz.prog 21 #[.pointer (some ⟨g, 0, none⟩), .int .i64 n] w fun e w' => e = .returned (.int .i64 r) ∧ Svg g w w' ∧ SrcAt g w' t := by
  have h2 := next_any hn w hS
  rw [h] at h2
  exact h2
end Go.Proofs.YthlnjnmomnpnpaaGreatDoor
