/- The laws of layer 14: a hart of raw numbers. -/
import Derived.Test.YtgcgdjmlngfpeaaDoorHLaw0
import Derived.Deep.LoopGhost
namespace Go.Proofs.YtgcgdjmlngfpeaaDoor
open Go.RowKit Ht
set_option linter.unusedVariables false
set_option linter.unusedSimpArgs false
def IntsQ (w : World) (p : Option Addr) (l : List Int) : Prop := ∀ (j : Nat) (x : Int), l[j]? = some x → inInt x ∧ ∃ b o, p = some ⟨b, o, none⟩ ∧ b < w.heap.size ∧ w.cell? ⟨b, o + j, none⟩ = some (.int .i64 x)
theorem IntsQ.bel {w w' : World} {p : Option Addr} {l : List Int} (h : IntsQ w p l) (hb : Bel w w') : IntsQ w' p l := fun j x hj => by
  obtain ⟨h1, b, o, h2, h3, h4⟩ := h j x hj
  exact ⟨h1, b, o, h2, Nat.lt_of_lt_of_le h3 hb.size, (hb.cell h3).trans h4⟩
def aC (f : Nat → Int) : Array Value := ((List.range 38).map (fun k => Value.int .i64 (f k))).toArray
theorem aC_size (f : Nat → Int) : (aC f).size = 38 := by simp [aC]
theorem aC_at (f : Nat → Int) {k : Nat} (hk : k < 38) : (aC f)[k]? = some (.int .i64 (f k)) := by simp [aC, hk]
theorem aC_set (f : Nat → Int) {k : Nat} (x : Int) (hk : k < 38) : (aC f).setIfInBounds k (.int .i64 x) = aC (up f k x) := by
  apply Array.ext_getElem?
  intro j
  rw [Array.getElem?_setIfInBounds]
  by_cases hj : j < 38
  · rw [aC_at _ hj, aC_at _ hj]
    by_cases c : k = j
    · subst c; simp [aC_size, hk, up_at]
    · rw [if_neg c, up_ne _ _ (Ne.symm c)]
  · have h1 : (aC (up f k x))[j]? = none := Array.getElem?_eq_none (by rw [aC_size]; omega)
    have h2 : (aC f)[j]? = none := Array.getElem?_eq_none (by rw [aC_size]; omega)
    rw [h1, h2]
    have : ¬ k = j := by omega
    rw [if_neg this]
def AAt (w : World) (g : Nat) (f : Nat → Int) : Prop := w.heap[g]? = some (.cells (aC f) 52 (0, 0))
theorem AAt.bel {w w' : World} {g : Nat} {f : Nat → Int} (k : AAt w g f) (hb : Bel w w') : AAt w' g f := hb.stays k
theorem AAt.cell {w : World} {g : Nat} {f : Nat → Int} (k : AAt w g f) {j : Nat} (hj : j < 38) : w.cell? ⟨g, j, none⟩ = some (.int .i64 (f j)) := by
  rw [cell_of_heap k, aC_at f hj]
theorem AAt.set {w : World} {g : Nat} {f : Nat → Int} (k : AAt w g f) {j : Nat} (hj : j < 38) (x : Int) : AAt (w.setCell ⟨g, j, none⟩ (.int .i64 x)) g (up f j x) := by
  have := heap_set k j (.int .i64 x)
  rw [aC_set f x hj] at this
  exact this
def aZ : Array Value := aC (fun _ => 0)
theorem zero_arr (w : World) : (zeroValue 52).run Tryd.prog w = .ok (.agg aZ) w := by kernel_rfl
/-- the numbers, cut, as far as there are some -/
def Lk (l : List Int) (k : Nat) : Nat → Int := fun j => if j < k then wrap32 (l.getD j 0) else 0
theorem Lk_zero (l : List Int) : Lk l 0 = fun _ => 0 := by funext j; unfold Lk; rw [if_neg (by omega)]
theorem Lk_succ {l : List Int} {k : Nat} {x m : Int} (hx : l[k]? = some x) (hm : wrap32 x = m) : up (Lk l k) k m = Lk l (k + 1) := by
  funext j
  unfold Lk up
  by_cases c : j = k
  · subst c
    rw [if_pos rfl, if_pos (by omega), ← hm]
    simp [hx]
  · rw [if_neg c]
    show (if j < k then wrap32 (l.getD j 0) else 0) = _
    by_cases c2 : j < k
    · rw [if_pos c2, if_pos (by omega)]
    · rw [if_neg c2, if_neg (by omega)]
def statV (r : Nat) : Int := if r = 0 then 0 else if r = 1 then 8 else if r = 2 then 128 else 136
def Rk (h : H) (f : Nat → Int) (j : Nat) : H := fun k => if 1 ≤ k ∧ k < j then f (6 + k) else h k
def fitH (f : Nat → Int) : H := Rk (up (up (up (up (up (up (up (fun _ => 0) 32 (wrap64 (wrap64 ((f 0).tdiv 4) * 4))) 33 (statV (Plain.pick (f 1) 4).toNat)) 34 (wrap64 (wrap64 ((f 2).tdiv 4) * 4))) 35 (f 3)) 36 (wrap64 (wrap64 ((f 4).tdiv 4) * 4))) 37 (f 5)) 38 (Plain.pick (f 6) 8)) f 32
def fitV (l : List Int) : H := fitH (Lk l (min l.length 38))
theorem fitV_eq {l : List Int} {k r : Nat} {f : Nat → Int} (hk : min l.length 38 = k) (hf : Lk l k = f) (hr : Plain.pick (f 1) 4 = (r : Int)) :
    fitV l = Rk (up (up (up (up (up (up (up (fun _ => 0) 32 (wrap64 (wrap64 ((f 0).tdiv 4) * 4))) 33 (statV r)) 34 (wrap64 (wrap64 ((f 2).tdiv 4) * 4))) 35 (f 3)) 36 (wrap64 (wrap64 ((f 4).tdiv 4) * 4))) 37 (f 5)) 38 (Plain.pick (f 6) 8)) f 32 := by
  unfold fitV fitH
  rw [hk, hf, hr, Int.toNat_natCast]
theorem Lk_in (l : List Int) (k j : Nat) : inInt (Lk l k j) := by
  unfold Lk inInt
  split
  · have h1 := Plain.w32_lo (l.getD j 0); have h2 := Plain.w32_hi (l.getD j 0); omega
  · omega
theorem pick_nat (c : Int) (n : Nat) (hn : 1 ≤ n) : ∃ r : Nat, Plain.pick c (n : Int) = (r : Int) ∧ r < n := by
  have := Plain.pick_bd c n (by omega)
  exact ⟨(Plain.pick c n).toNat, by omega, by omega⟩
theorem stat_at {r : Nat} (h : r < 4) : ∃ s, (#[Value.int .i64 0, .int .i64 8, .int .i64 128, .int .i64 136] : Array Value)[r]? = some (.int .i64 s) ∧ s = statV r := by
  have : r = 0 ∨ r = 1 ∨ r = 2 ∨ r = 3 := by omega
  rcases this with rfl | rfl | rfl | rfl
  · exact ⟨0, rfl, rfl⟩
  · exact ⟨8, rfl, rfl⟩
  · exact ⟨128, rfl, rfl⟩
  · exact ⟨136, rfl, rfl⟩
theorem Rk_one (h : H) (f : Nat → Int) : Rk h f 1 = h := by funext k; unfold Rk; rw [if_neg (by omega)]
theorem Rk_succ (h : H) (f : Nat → Int) {j : Nat} (hj : 1 ≤ j) : up (Rk h f j) j (f (6 + j)) = Rk h f (j + 1) := by
  funext k
  unfold up
  by_cases c : k = j
  · subst c; rw [if_pos rfl]; unfold Rk; rw [if_pos (by omega)]
  · rw [if_neg c]
    unfold Rk
    by_cases c2 : 1 ≤ k ∧ k < j
    · rw [if_pos c2, if_pos (by omega)]
    · rw [if_neg c2, if_neg (by omega)]
set_option maxRecDepth 100000 in
set_option maxHeartbeats 8000000 in
theorem fit14_any (w : World) {P : Option Addr} {N C : Nat} {l : List Int} (hn : l.length = N) (hL : IntsQ w P l) (hNC : N ≤ C) :
    Calls Tryd.prog 13 #[.slice P N C] w (OneV (hv (fitV l)) w) := by
  have HN := Lib.hid hn
  have HL := Lib.hid hL
  clear hn hL
  have hz := zero_hart
  have hza := zero_arr
  go_enter Tryd.func13, Tryd.ntmps13
  go_upto_region 3 with (fail)
  obtain ⟨W0, hW, hb, hx2, hx3, hx4⟩ := boxes3 w hZ hZ aZ 28 28 52
  first | rw [← hW] | (show Code.wp _ _ _ _ (((w.alloc (.cells hZ 28)).alloc (.cells hZ 28)).alloc (.cells aZ 52)); rw [← hW])
  clear hz hza hW
  have hlt : w.heap.size < W0.heap.size := lt_of_heap hx2
  generalize hg : w.heap.size = g2 at hx2 hx3 hx4 hlt ⊢
  have HG := Lib.hid hg
  clear hg
  generalize hg : g2 + 1 = g3 at hx3 hx4 ⊢
  have HG1 := Lib.hid hg
  clear hg
  generalize hg : g3 + 1 = g4 at hx4 ⊢
  have HG2 := Lib.hid hg
  clear hg
  have HXg2 : Hid (HAt W0 g2 (fun _ => 0)) := Lib.hid hx2
  have HXg3 : Hid (HAt W0 g3 (fun _ => 0)) := Lib.hid hx3
  have HXg4 : Hid (AAt W0 g4 (Lk l 0)) := Lib.hid (by rw [Lk_zero]; exact hx4)
  have HB : Hid (Bel w W0) := Lib.hid hb
  clear hb hlt hx2 hx3 hx4
  go_wp2
  go_loopw [5] (fun i wr => ∃ (k : Nat), k ≤ N ∧ k ≤ 38 ∧ i = .int .i64 k ∧ Hid (Bel w wr) ∧ Hid (HAt wr g2 (fun _ => 0)) ∧ Hid (HAt wr g3 (fun _ => 0)) ∧ Hid (AAt wr g4 (Lk l k))) (fun i _ => 38 - (intOf i).toNat)
  case atStart => exact ⟨0, Nat.zero_le _, Nat.zero_le _, rfl, HB, HXg2, HXg3, HXg4⟩
  case round =>
    clear HB HXg2 HXg3 HXg4
    obtain ⟨k, hk1, hk2, rfl, HB, HXg2, HXg3, HXg4⟩ := hrel
    by_cases hlt : k < N ∧ k < 38
    · obtain ⟨l1, l2⟩ := hlt
      have i1 : (k : Int) < N := by omega
      have i2 : (k : Int) < 38 := by omega
      have hlk : k < l.length := by have := HN.out; omega
      obtain ⟨x, hx⟩ : ∃ x, l[k]? = some x := ⟨_, List.getElem?_eq_getElem hlk⟩
      obtain ⟨ix, B, O, hPP, hB, m0⟩ := (HL.out.bel HB.out) k _ hx
      subst hPP
      have HX := Lib.hid hx
      have HBl := Lib.hid hB
      clear hx hB hlk ix
      have hNC2 : (N : Int) ≤ C := by omega
      obtain ⟨m, hm⟩ : ∃ m, wrap32 x = m := ⟨_, rfl⟩
      have HM := Lib.hid hm
      clear hm
      have k4 := HXg4.out.cell l2
      have y4 := frozen_of_heap HXg4.out k
      go_wp2_with fail
      refine (wrap_lit HM.out _).mono ?_
      rintro e V ⟨rfl, rfl⟩
      go_wp2
      have hlt2 := lt_of_heap HXg2.out
      have hlt3 := lt_of_heap HXg3.out
      have n2 : g2 ≠ g4 := by have := HG1.out; have := HG2.out; omega
      have n3 : g3 ≠ g4 := by have := HG2.out; omega
      refine ⟨⟨k + 1, l1, l2, by go_num, Lib.hid ((Svg.set g4 k wr _).bel HB.out (by have := HG.out; have := HG1.out; have := HG2.out; omega)), Lib.hid (((Svg.set g4 k wr _).block g2 hlt2 n2).trans HXg2.out), Lib.hid (((Svg.set g4 k wr _).block g3 hlt3 n3).trans HXg3.out), Lib.hid ?_⟩, by simp [intOf]; omega⟩
      rw [← Lk_succ HX.out HM.out]
      exact HXg4.out.set l2 m
    · have hk : k = N ∨ (k < N ∧ k = 38) := by omega
      obtain ⟨f, hf⟩ : ∃ f, Lk l k = f := ⟨_, rfl⟩
      rw [hf] at HXg4
      have HF := Lib.hid hf
      clear hf
      have hin : ∀ j, inInt (f j) := fun j => by rw [← HF.out]; exact Lk_in l k j
      have HIN := Lib.hid hin
      clear hin
      obtain ⟨p0, q0⟩ : ∃ p, wrap64 (wrap64 ((f 0).tdiv 4) * 4) = p := ⟨_, rfl⟩
      have Q0 := Lib.hid q0
      obtain ⟨p2, q2⟩ : ∃ p, wrap64 (wrap64 ((f 2).tdiv 4) * 4) = p := ⟨_, rfl⟩
      have Q2 := Lib.hid q2
      obtain ⟨p4, q4⟩ : ∃ p, wrap64 (wrap64 ((f 4).tdiv 4) * 4) = p := ⟨_, rfl⟩
      have Q4 := Lib.hid q4
      obtain ⟨r1, hr1, hr4⟩ := pick_nat (f 1) 4 (by decide)
      have R1 : Hid (Plain.pick (f 1) 4 = (r1 : Int)) := Lib.hid hr1
      have HR4 := Lib.hid hr4
      obtain ⟨s1, hs1, es1⟩ := stat_at hr4
      have HS1 := Lib.hid hs1
      have ES1 := Lib.hid es1
      clear es1
      obtain ⟨r6, q6⟩ : ∃ r, Plain.pick (f 6) 8 = r := ⟨_, rfl⟩
      have R6 := Lib.hid q6
      clear q0 q2 q4 hr1 hr4 hs1 q6
      rcases hk with rfl | ⟨hk3, rfl⟩
      · have i1 : ¬ (k : Int) < k := by omega
        have c1 := HXg4.out.cell (j := 0) (by omega)
        have c2 : wr.cell? ⟨g3, 32, none⟩ = some (.int .i64 0) := HXg3.out.cell (by omega)
        have y2 := HXg3.out.frozen 32
        go_upto_region 8 with (fail)
        rw [Q0.out]
        clear c1 c2 y2
        have hn := HXg3.out.set (j := 32) (by omega) (p0)
        have hb := (Svg.set g3 32 wr (.int .i64 (p0))).bel HB.out (by have := HG.out; have := HG1.out; have := HG2.out; omega)
        have hg2 := ((Svg.set g3 32 wr (.int .i64 (p0))).block g2 (lt_of_heap HXg2.out) (by have := HG.out; have := HG1.out; have := HG2.out; omega)).trans HXg2.out
        have hg4 := ((Svg.set g3 32 wr (.int .i64 (p0))).block g4 (lt_of_heap HXg4.out) (by have := HG.out; have := HG1.out; have := HG2.out; omega)).trans HXg4.out
        generalize wr.setCell ⟨g3, 32, none⟩ (.int .i64 (p0)) = V1 at hn hb hg2 hg4  ⊢
        clear HB HXg2 HXg3 HXg4
        have HB : Hid (Bel w V1) := Lib.hid hb
        have HXg2 : Hid (HAt V1 g2 (fun _ => 0)) := Lib.hid hg2
        have HXg4 : Hid (AAt V1 g4 f) := Lib.hid hg4
        have HXg3 : Hid (HAt V1 g3 (up (fun _ => 0) 32 (p0))) := Lib.hid hn
        clear hn hb hg2 hg4
        have c1 := (HXg4.out.bel (box1 V1 #[.int .i64 0, .int .i64 8, .int .i64 128, .int .i64 136] 3).1).cell (j := 1) (by omega)
        go_wp2_with fail
        refine (pick14_any _ 4 (HIN.out 1).1 (HIN.out 1).2 (by decide) _).mono ?_
        rintro e V0 ⟨rfl, rfl⟩
        rw [R1.out]
        obtain ⟨hb, hx⟩ := box1 V1 #[.int .i64 0, .int .i64 8, .int .i64 128, .int .i64 136] 3
        have hl := lt_of_heap HXg4.out
        generalize V1.alloc (.cells #[.int .i64 0, .int .i64 8, .int .i64 128, .int .i64 136] 3) = V2 at hb hx ⊢
        generalize V1.heap.size = g5 at hx hl ⊢
        replace HB : Hid (Bel w V2) := Lib.hid (HB.out.trans hb)
        replace HXg2 : Hid (HAt V2 g2 (fun _ => 0)) := Lib.hid (HXg2.out.bel hb)
        replace HXg3 : Hid (HAt V2 g3 (up (fun _ => 0) 32 (p0))) := Lib.hid (HXg3.out.bel hb)
        replace HXg4 : Hid (AAt V2 g4 f) := Lib.hid (HXg4.out.bel hb)
        clear hb c1
        have kr : V2.cell? ⟨g5, r1, none⟩ = some (.int .i64 s1) := (cell_of_heap hx r1).trans HS1.out
        have b1 : (r1 : Int) < 4 := by have := HR4.out; omega
        have c2 : V2.cell? ⟨g3, 33, none⟩ = some (.int .i64 0) := HXg3.out.cell (by omega)
        have y2 := HXg3.out.frozen 33
        clear hx hl
        go_upto_region 9 with (fail)
        clear kr b1 c2 y2
        have hn := HXg3.out.set (j := 33) (by omega) (s1)
        have hb := (Svg.set g3 33 V2 (.int .i64 (s1))).bel HB.out (by have := HG.out; have := HG1.out; have := HG2.out; omega)
        have hg2 := ((Svg.set g3 33 V2 (.int .i64 (s1))).block g2 (lt_of_heap HXg2.out) (by have := HG.out; have := HG1.out; have := HG2.out; omega)).trans HXg2.out
        have hg4 := ((Svg.set g3 33 V2 (.int .i64 (s1))).block g4 (lt_of_heap HXg4.out) (by have := HG.out; have := HG1.out; have := HG2.out; omega)).trans HXg4.out
        generalize V2.setCell ⟨g3, 33, none⟩ (.int .i64 (s1)) = V3 at hn hb hg2 hg4  ⊢
        clear HB HXg2 HXg3 HXg4
        have HB : Hid (Bel w V3) := Lib.hid hb
        have HXg2 : Hid (HAt V3 g2 (fun _ => 0)) := Lib.hid hg2
        have HXg4 : Hid (AAt V3 g4 f) := Lib.hid hg4
        have HXg3 : Hid (HAt V3 g3 (up (up (fun _ => 0) 32 (p0)) 33 (s1))) := Lib.hid hn
        clear hn hb hg2 hg4
        have c1 := HXg4.out.cell (j := 2) (by omega)
        have c2 : V3.cell? ⟨g3, 34, none⟩ = some (.int .i64 0) := HXg3.out.cell (by omega)
        have y2 := HXg3.out.frozen 34
        go_upto_region 10 with (fail)
        rw [Q2.out]
        clear c1 c2 y2
        have hn := HXg3.out.set (j := 34) (by omega) (p2)
        have hb := (Svg.set g3 34 V3 (.int .i64 (p2))).bel HB.out (by have := HG.out; have := HG1.out; have := HG2.out; omega)
        have hg2 := ((Svg.set g3 34 V3 (.int .i64 (p2))).block g2 (lt_of_heap HXg2.out) (by have := HG.out; have := HG1.out; have := HG2.out; omega)).trans HXg2.out
        have hg4 := ((Svg.set g3 34 V3 (.int .i64 (p2))).block g4 (lt_of_heap HXg4.out) (by have := HG.out; have := HG1.out; have := HG2.out; omega)).trans HXg4.out
        generalize V3.setCell ⟨g3, 34, none⟩ (.int .i64 (p2)) = V4 at hn hb hg2 hg4  ⊢
        clear HB HXg2 HXg3 HXg4
        have HB : Hid (Bel w V4) := Lib.hid hb
        have HXg2 : Hid (HAt V4 g2 (fun _ => 0)) := Lib.hid hg2
        have HXg4 : Hid (AAt V4 g4 f) := Lib.hid hg4
        have HXg3 : Hid (HAt V4 g3 (up (up (up (fun _ => 0) 32 (p0)) 33 (s1)) 34 (p2))) := Lib.hid hn
        clear hn hb hg2 hg4
        have c1 := HXg4.out.cell (j := 3) (by omega)
        have c2 : V4.cell? ⟨g3, 35, none⟩ = some (.int .i64 0) := HXg3.out.cell (by omega)
        have y2 := HXg3.out.frozen 35
        go_upto_region 11 with (fail)
        clear c1 c2 y2
        have hn := HXg3.out.set (j := 35) (by omega) (f 3)
        have hb := (Svg.set g3 35 V4 (.int .i64 (f 3))).bel HB.out (by have := HG.out; have := HG1.out; have := HG2.out; omega)
        have hg2 := ((Svg.set g3 35 V4 (.int .i64 (f 3))).block g2 (lt_of_heap HXg2.out) (by have := HG.out; have := HG1.out; have := HG2.out; omega)).trans HXg2.out
        have hg4 := ((Svg.set g3 35 V4 (.int .i64 (f 3))).block g4 (lt_of_heap HXg4.out) (by have := HG.out; have := HG1.out; have := HG2.out; omega)).trans HXg4.out
        generalize V4.setCell ⟨g3, 35, none⟩ (.int .i64 (f 3)) = V5 at hn hb hg2 hg4  ⊢
        clear HB HXg2 HXg3 HXg4
        have HB : Hid (Bel w V5) := Lib.hid hb
        have HXg2 : Hid (HAt V5 g2 (fun _ => 0)) := Lib.hid hg2
        have HXg4 : Hid (AAt V5 g4 f) := Lib.hid hg4
        have HXg3 : Hid (HAt V5 g3 (up (up (up (up (fun _ => 0) 32 (p0)) 33 (s1)) 34 (p2)) 35 (f 3))) := Lib.hid hn
        clear hn hb hg2 hg4
        have c1 := HXg4.out.cell (j := 4) (by omega)
        have c2 : V5.cell? ⟨g3, 36, none⟩ = some (.int .i64 0) := HXg3.out.cell (by omega)
        have y2 := HXg3.out.frozen 36
        go_upto_region 12 with (fail)
        rw [Q4.out]
        clear c1 c2 y2
        have hn := HXg3.out.set (j := 36) (by omega) (p4)
        have hb := (Svg.set g3 36 V5 (.int .i64 (p4))).bel HB.out (by have := HG.out; have := HG1.out; have := HG2.out; omega)
        have hg2 := ((Svg.set g3 36 V5 (.int .i64 (p4))).block g2 (lt_of_heap HXg2.out) (by have := HG.out; have := HG1.out; have := HG2.out; omega)).trans HXg2.out
        have hg4 := ((Svg.set g3 36 V5 (.int .i64 (p4))).block g4 (lt_of_heap HXg4.out) (by have := HG.out; have := HG1.out; have := HG2.out; omega)).trans HXg4.out
        generalize V5.setCell ⟨g3, 36, none⟩ (.int .i64 (p4)) = V6 at hn hb hg2 hg4  ⊢
        clear HB HXg2 HXg3 HXg4
        have HB : Hid (Bel w V6) := Lib.hid hb
        have HXg2 : Hid (HAt V6 g2 (fun _ => 0)) := Lib.hid hg2
        have HXg4 : Hid (AAt V6 g4 f) := Lib.hid hg4
        have HXg3 : Hid (HAt V6 g3 (up (up (up (up (up (fun _ => 0) 32 (p0)) 33 (s1)) 34 (p2)) 35 (f 3)) 36 (p4))) := Lib.hid hn
        clear hn hb hg2 hg4
        have c1 := HXg4.out.cell (j := 5) (by omega)
        have c2 : V6.cell? ⟨g3, 37, none⟩ = some (.int .i64 0) := HXg3.out.cell (by omega)
        have y2 := HXg3.out.frozen 37
        go_upto_region 13 with (fail)
        clear c1 c2 y2
        have hn := HXg3.out.set (j := 37) (by omega) (f 5)
        have hb := (Svg.set g3 37 V6 (.int .i64 (f 5))).bel HB.out (by have := HG.out; have := HG1.out; have := HG2.out; omega)
        have hg2 := ((Svg.set g3 37 V6 (.int .i64 (f 5))).block g2 (lt_of_heap HXg2.out) (by have := HG.out; have := HG1.out; have := HG2.out; omega)).trans HXg2.out
        have hg4 := ((Svg.set g3 37 V6 (.int .i64 (f 5))).block g4 (lt_of_heap HXg4.out) (by have := HG.out; have := HG1.out; have := HG2.out; omega)).trans HXg4.out
        generalize V6.setCell ⟨g3, 37, none⟩ (.int .i64 (f 5)) = V7 at hn hb hg2 hg4  ⊢
        clear HB HXg2 HXg3 HXg4
        have HB : Hid (Bel w V7) := Lib.hid hb
        have HXg2 : Hid (HAt V7 g2 (fun _ => 0)) := Lib.hid hg2
        have HXg4 : Hid (AAt V7 g4 f) := Lib.hid hg4
        have HXg3 : Hid (HAt V7 g3 (up (up (up (up (up (up (fun _ => 0) 32 (p0)) 33 (s1)) 34 (p2)) 35 (f 3)) 36 (p4)) 37 (f 5))) := Lib.hid hn
        clear hn hb hg2 hg4
        have c1 := HXg4.out.cell (j := 6) (by omega)
        have c2 : V7.cell? ⟨g3, 38, none⟩ = some (.int .i64 0) := HXg3.out.cell (by omega)
        have y2 := HXg3.out.frozen 38
        go_wp2_with fail
        refine (pick14_any _ 8 (HIN.out 6).1 (HIN.out 6).2 (by decide) _).mono ?_
        rintro e V0 ⟨rfl, rfl⟩
        rw [R6.out]
        go_upto_region 14 with (fail)
        clear c1 c2 y2
        have hn := HXg3.out.set (j := 38) (by omega) (r6)
        have hb := (Svg.set g3 38 V7 (.int .i64 (r6))).bel HB.out (by have := HG.out; have := HG1.out; have := HG2.out; omega)
        have hg2 := ((Svg.set g3 38 V7 (.int .i64 (r6))).block g2 (lt_of_heap HXg2.out) (by have := HG.out; have := HG1.out; have := HG2.out; omega)).trans HXg2.out
        have hg4 := ((Svg.set g3 38 V7 (.int .i64 (r6))).block g4 (lt_of_heap HXg4.out) (by have := HG.out; have := HG1.out; have := HG2.out; omega)).trans HXg4.out
        generalize V7.setCell ⟨g3, 38, none⟩ (.int .i64 (r6)) = V8 at hn hb hg2 hg4  ⊢
        clear HB HXg2 HXg3 HXg4
        have HB : Hid (Bel w V8) := Lib.hid hb
        have HXg2 : Hid (HAt V8 g2 (fun _ => 0)) := Lib.hid hg2
        have HXg4 : Hid (AAt V8 g4 f) := Lib.hid hg4
        have HXg3 : Hid (HAt V8 g3 (up (up (up (up (up (up (up (fun _ => 0) 32 (p0)) 33 (s1)) 34 (p2)) 35 (f 3)) 36 (p4)) 37 (f 5)) 38 (r6))) := Lib.hid hn
        clear hn hb hg2 hg4
        obtain ⟨h0, hh0⟩ : ∃ h, (up (up (up (up (up (up (up (fun _ => 0) 32 (p0)) 33 (s1)) 34 (p2)) 35 (f 3)) 36 (p4)) 37 (f 5)) 38 (r6)) = h := ⟨_, rfl⟩
        rw [hh0] at HXg3
        have HH0 := Lib.hid hh0
        clear hh0
        go_wp2
        go_loopw [6] (fun i wx => ∃ (j : Nat), 1 ≤ j ∧ j ≤ 32 ∧ i = .int .i64 j ∧ Hid (Bel w wx) ∧ Hid (HAt wx g2 (fun _ => 0)) ∧ Hid (HAt wx g3 (Rk h0 f j)) ∧ Hid (AAt wx g4 f)) (fun i _ => 32 - (intOf i).toNat)
        case atStart => exact ⟨1, by omega, by omega, rfl, HB, HXg2, Lib.hid (by rw [Rk_one]; exact HXg3.out), HXg4⟩
        case round =>
          clear HB HXg2 HXg3 HXg4
          obtain ⟨j, hj1, hj2, rfl, HB, HXg2, HXg3, HXg4⟩ := hrel
          by_cases hj : j < 32
          · have i1 : (j : Int) < 32 := by omega
            have c1 := HXg4.out.cell (j := 6 + j) (by omega)
            have c2 := HXg3.out.cell (j := j) (by omega)
            have y2 := HXg3.out.frozen j
            have i2 : (6 : Int) + j < 38 := by omega
            have i3 : IntKind.i64.wrap ((6 : Int) + j) = ((6 + j : Nat) : Int) := by rw [IntWalk.i64_in _ (by omega)]; omega
            have i4 : wrap64 ((6 : Int) + j) = ((6 + j : Nat) : Int) := by rw [← i3, IntWalk.i64_left]
            have i5 : ((6 + j : Nat) : Int) < 38 := by omega
            go_wp2
            have hlt2 := lt_of_heap HXg2.out
            have hlt4 := lt_of_heap HXg4.out
            have n2 : g2 ≠ g3 := by have := HG1.out; omega
            have n4 : g4 ≠ g3 := by have := HG2.out; omega
            refine ⟨⟨j + 1, by omega, by omega, by go_num, Lib.hid ((Svg.set g3 j wr _).bel HB.out (by have := HG.out; have := HG1.out; omega)), Lib.hid (((Svg.set g3 j wr _).block g2 hlt2 n2).trans HXg2.out), Lib.hid ?_, Lib.hid (((Svg.set g3 j wr _).block g4 hlt4 n4).trans HXg4.out)⟩, by simp [intOf]; omega⟩
            rw [← Rk_succ h0 f hj1]
            exact HXg3.out.set (by omega) _
          · obtain rfl : j = 32 := by omega
            have i1 : ¬ ((32 : Nat) : Int) < 32 := by omega
            go_upto_region 18 with (fail)
            rename_i K hK
            refine wp_region_list ?_
            refine wpList_load_row rfl 28 (.tmp 3) rfl g3 rfl 28 (hC (Rk h0 f 32)) (0, 0) _ HXg3.out Tryd.underlying28 rfl (sz_hart _) ?_
            try simp only [Act.put, la, lz, ls]
            refine wpList_store_row rfl 28 (.tmp 2) (.tmp 67) rfl g2 (hC (Rk h0 f 32)) rfl rfl 28 (hC (fun _ => 0)) HXg2.out (sz_hart _) (by rw [hC_size, hC_size]) (hC_ones _) ?_
            have hn := row_same (cs := (hC (Rk h0 f 32))) HXg2.out
            have hb := row_bel HB.out (g := g2) (by have := HG.out; have := HG1.out; have := HG2.out; omega) (hC (Rk h0 f 32))
            have hg3 := (setRow_other wr g2 g3 (hC (Rk h0 f 32)) (by have := HG.out; have := HG1.out; have := HG2.out; omega)).trans HXg3.out
            have hg4 := (setRow_other wr g2 g4 (hC (Rk h0 f 32)) (by have := HG.out; have := HG1.out; have := HG2.out; omega)).trans HXg4.out
            generalize wr.setRow g2 (hC (Rk h0 f 32)) = V1 at hn hb hg3 hg4 ⊢
            clear HB HXg2 HXg3 HXg4
            have HB : Hid (Bel w V1) := Lib.hid hb
            have HXg3 : Hid (HAt V1 g3 (Rk h0 f 32)) := Lib.hid hg3
            have HXg4 : Hid (AAt V1 g4 f) := Lib.hid hg4
            have HXg2 : Hid (HAt V1 g2 (Rk h0 f 32)) := Lib.hid hn
            clear hn hb hg3 hg4
            try simp only [Act.put, la, lz, ls]
            refine wpList_nil ?_
            refine hK _ _ (wp_ret ?_)
            have e9 : Rk h0 f 32 = fitV l := by
              rw [fitV_eq (r := r1) (by have := HN.out; omega) HF.out R1.out, Q0.out, Q2.out, Q4.out, R6.out, ← ES1.out, HH0.out]
            rw [e9] at HXg2
            exact bodyPost_ret (results_cell_row Tryd.results13 _ _ g2 _ _ _ _ (by rfl) HXg2.out Tryd.underlying28 rfl (sz_hart _)) (by rfl) ⟨rfl, HB.out⟩
      · have i1 : (38 : Int) < N := by omega
        have c1 := HXg4.out.cell (j := 0) (by omega)
        have c2 : wr.cell? ⟨g3, 32, none⟩ = some (.int .i64 0) := HXg3.out.cell (by omega)
        have y2 := HXg3.out.frozen 32
        go_upto_region 8 with (fail)
        rw [Q0.out]
        clear c1 c2 y2
        have hn := HXg3.out.set (j := 32) (by omega) (p0)
        have hb := (Svg.set g3 32 wr (.int .i64 (p0))).bel HB.out (by have := HG.out; have := HG1.out; have := HG2.out; omega)
        have hg2 := ((Svg.set g3 32 wr (.int .i64 (p0))).block g2 (lt_of_heap HXg2.out) (by have := HG.out; have := HG1.out; have := HG2.out; omega)).trans HXg2.out
        have hg4 := ((Svg.set g3 32 wr (.int .i64 (p0))).block g4 (lt_of_heap HXg4.out) (by have := HG.out; have := HG1.out; have := HG2.out; omega)).trans HXg4.out
        generalize wr.setCell ⟨g3, 32, none⟩ (.int .i64 (p0)) = V1 at hn hb hg2 hg4  ⊢
        clear HB HXg2 HXg3 HXg4
        have HB : Hid (Bel w V1) := Lib.hid hb
        have HXg2 : Hid (HAt V1 g2 (fun _ => 0)) := Lib.hid hg2
        have HXg4 : Hid (AAt V1 g4 f) := Lib.hid hg4
        have HXg3 : Hid (HAt V1 g3 (up (fun _ => 0) 32 (p0))) := Lib.hid hn
        clear hn hb hg2 hg4
        have c1 := (HXg4.out.bel (box1 V1 #[.int .i64 0, .int .i64 8, .int .i64 128, .int .i64 136] 3).1).cell (j := 1) (by omega)
        go_wp2_with fail
        refine (pick14_any _ 4 (HIN.out 1).1 (HIN.out 1).2 (by decide) _).mono ?_
        rintro e V0 ⟨rfl, rfl⟩
        rw [R1.out]
        obtain ⟨hb, hx⟩ := box1 V1 #[.int .i64 0, .int .i64 8, .int .i64 128, .int .i64 136] 3
        have hl := lt_of_heap HXg4.out
        generalize V1.alloc (.cells #[.int .i64 0, .int .i64 8, .int .i64 128, .int .i64 136] 3) = V2 at hb hx ⊢
        generalize V1.heap.size = g5 at hx hl ⊢
        replace HB : Hid (Bel w V2) := Lib.hid (HB.out.trans hb)
        replace HXg2 : Hid (HAt V2 g2 (fun _ => 0)) := Lib.hid (HXg2.out.bel hb)
        replace HXg3 : Hid (HAt V2 g3 (up (fun _ => 0) 32 (p0))) := Lib.hid (HXg3.out.bel hb)
        replace HXg4 : Hid (AAt V2 g4 f) := Lib.hid (HXg4.out.bel hb)
        clear hb c1
        have kr : V2.cell? ⟨g5, r1, none⟩ = some (.int .i64 s1) := (cell_of_heap hx r1).trans HS1.out
        have b1 : (r1 : Int) < 4 := by have := HR4.out; omega
        have c2 : V2.cell? ⟨g3, 33, none⟩ = some (.int .i64 0) := HXg3.out.cell (by omega)
        have y2 := HXg3.out.frozen 33
        clear hx hl
        go_upto_region 9 with (fail)
        clear kr b1 c2 y2
        have hn := HXg3.out.set (j := 33) (by omega) (s1)
        have hb := (Svg.set g3 33 V2 (.int .i64 (s1))).bel HB.out (by have := HG.out; have := HG1.out; have := HG2.out; omega)
        have hg2 := ((Svg.set g3 33 V2 (.int .i64 (s1))).block g2 (lt_of_heap HXg2.out) (by have := HG.out; have := HG1.out; have := HG2.out; omega)).trans HXg2.out
        have hg4 := ((Svg.set g3 33 V2 (.int .i64 (s1))).block g4 (lt_of_heap HXg4.out) (by have := HG.out; have := HG1.out; have := HG2.out; omega)).trans HXg4.out
        generalize V2.setCell ⟨g3, 33, none⟩ (.int .i64 (s1)) = V3 at hn hb hg2 hg4  ⊢
        clear HB HXg2 HXg3 HXg4
        have HB : Hid (Bel w V3) := Lib.hid hb
        have HXg2 : Hid (HAt V3 g2 (fun _ => 0)) := Lib.hid hg2
        have HXg4 : Hid (AAt V3 g4 f) := Lib.hid hg4
        have HXg3 : Hid (HAt V3 g3 (up (up (fun _ => 0) 32 (p0)) 33 (s1))) := Lib.hid hn
        clear hn hb hg2 hg4
        have c1 := HXg4.out.cell (j := 2) (by omega)
        have c2 : V3.cell? ⟨g3, 34, none⟩ = some (.int .i64 0) := HXg3.out.cell (by omega)
        have y2 := HXg3.out.frozen 34
        go_upto_region 10 with (fail)
        rw [Q2.out]
        clear c1 c2 y2
        have hn := HXg3.out.set (j := 34) (by omega) (p2)
        have hb := (Svg.set g3 34 V3 (.int .i64 (p2))).bel HB.out (by have := HG.out; have := HG1.out; have := HG2.out; omega)
        have hg2 := ((Svg.set g3 34 V3 (.int .i64 (p2))).block g2 (lt_of_heap HXg2.out) (by have := HG.out; have := HG1.out; have := HG2.out; omega)).trans HXg2.out
        have hg4 := ((Svg.set g3 34 V3 (.int .i64 (p2))).block g4 (lt_of_heap HXg4.out) (by have := HG.out; have := HG1.out; have := HG2.out; omega)).trans HXg4.out
        generalize V3.setCell ⟨g3, 34, none⟩ (.int .i64 (p2)) = V4 at hn hb hg2 hg4  ⊢
        clear HB HXg2 HXg3 HXg4
        have HB : Hid (Bel w V4) := Lib.hid hb
        have HXg2 : Hid (HAt V4 g2 (fun _ => 0)) := Lib.hid hg2
        have HXg4 : Hid (AAt V4 g4 f) := Lib.hid hg4
        have HXg3 : Hid (HAt V4 g3 (up (up (up (fun _ => 0) 32 (p0)) 33 (s1)) 34 (p2))) := Lib.hid hn
        clear hn hb hg2 hg4
        have c1 := HXg4.out.cell (j := 3) (by omega)
        have c2 : V4.cell? ⟨g3, 35, none⟩ = some (.int .i64 0) := HXg3.out.cell (by omega)
        have y2 := HXg3.out.frozen 35
        go_upto_region 11 with (fail)
        clear c1 c2 y2
        have hn := HXg3.out.set (j := 35) (by omega) (f 3)
        have hb := (Svg.set g3 35 V4 (.int .i64 (f 3))).bel HB.out (by have := HG.out; have := HG1.out; have := HG2.out; omega)
        have hg2 := ((Svg.set g3 35 V4 (.int .i64 (f 3))).block g2 (lt_of_heap HXg2.out) (by have := HG.out; have := HG1.out; have := HG2.out; omega)).trans HXg2.out
        have hg4 := ((Svg.set g3 35 V4 (.int .i64 (f 3))).block g4 (lt_of_heap HXg4.out) (by have := HG.out; have := HG1.out; have := HG2.out; omega)).trans HXg4.out
        generalize V4.setCell ⟨g3, 35, none⟩ (.int .i64 (f 3)) = V5 at hn hb hg2 hg4  ⊢
        clear HB HXg2 HXg3 HXg4
        have HB : Hid (Bel w V5) := Lib.hid hb
        have HXg2 : Hid (HAt V5 g2 (fun _ => 0)) := Lib.hid hg2
        have HXg4 : Hid (AAt V5 g4 f) := Lib.hid hg4
        have HXg3 : Hid (HAt V5 g3 (up (up (up (up (fun _ => 0) 32 (p0)) 33 (s1)) 34 (p2)) 35 (f 3))) := Lib.hid hn
        clear hn hb hg2 hg4
        have c1 := HXg4.out.cell (j := 4) (by omega)
        have c2 : V5.cell? ⟨g3, 36, none⟩ = some (.int .i64 0) := HXg3.out.cell (by omega)
        have y2 := HXg3.out.frozen 36
        go_upto_region 12 with (fail)
        rw [Q4.out]
        clear c1 c2 y2
        have hn := HXg3.out.set (j := 36) (by omega) (p4)
        have hb := (Svg.set g3 36 V5 (.int .i64 (p4))).bel HB.out (by have := HG.out; have := HG1.out; have := HG2.out; omega)
        have hg2 := ((Svg.set g3 36 V5 (.int .i64 (p4))).block g2 (lt_of_heap HXg2.out) (by have := HG.out; have := HG1.out; have := HG2.out; omega)).trans HXg2.out
        have hg4 := ((Svg.set g3 36 V5 (.int .i64 (p4))).block g4 (lt_of_heap HXg4.out) (by have := HG.out; have := HG1.out; have := HG2.out; omega)).trans HXg4.out
        generalize V5.setCell ⟨g3, 36, none⟩ (.int .i64 (p4)) = V6 at hn hb hg2 hg4  ⊢
        clear HB HXg2 HXg3 HXg4
        have HB : Hid (Bel w V6) := Lib.hid hb
        have HXg2 : Hid (HAt V6 g2 (fun _ => 0)) := Lib.hid hg2
        have HXg4 : Hid (AAt V6 g4 f) := Lib.hid hg4
        have HXg3 : Hid (HAt V6 g3 (up (up (up (up (up (fun _ => 0) 32 (p0)) 33 (s1)) 34 (p2)) 35 (f 3)) 36 (p4))) := Lib.hid hn
        clear hn hb hg2 hg4
        have c1 := HXg4.out.cell (j := 5) (by omega)
        have c2 : V6.cell? ⟨g3, 37, none⟩ = some (.int .i64 0) := HXg3.out.cell (by omega)
        have y2 := HXg3.out.frozen 37
        go_upto_region 13 with (fail)
        clear c1 c2 y2
        have hn := HXg3.out.set (j := 37) (by omega) (f 5)
        have hb := (Svg.set g3 37 V6 (.int .i64 (f 5))).bel HB.out (by have := HG.out; have := HG1.out; have := HG2.out; omega)
        have hg2 := ((Svg.set g3 37 V6 (.int .i64 (f 5))).block g2 (lt_of_heap HXg2.out) (by have := HG.out; have := HG1.out; have := HG2.out; omega)).trans HXg2.out
        have hg4 := ((Svg.set g3 37 V6 (.int .i64 (f 5))).block g4 (lt_of_heap HXg4.out) (by have := HG.out; have := HG1.out; have := HG2.out; omega)).trans HXg4.out
        generalize V6.setCell ⟨g3, 37, none⟩ (.int .i64 (f 5)) = V7 at hn hb hg2 hg4  ⊢
        clear HB HXg2 HXg3 HXg4
        have HB : Hid (Bel w V7) := Lib.hid hb
        have HXg2 : Hid (HAt V7 g2 (fun _ => 0)) := Lib.hid hg2
        have HXg4 : Hid (AAt V7 g4 f) := Lib.hid hg4
        have HXg3 : Hid (HAt V7 g3 (up (up (up (up (up (up (fun _ => 0) 32 (p0)) 33 (s1)) 34 (p2)) 35 (f 3)) 36 (p4)) 37 (f 5))) := Lib.hid hn
        clear hn hb hg2 hg4
        have c1 := HXg4.out.cell (j := 6) (by omega)
        have c2 : V7.cell? ⟨g3, 38, none⟩ = some (.int .i64 0) := HXg3.out.cell (by omega)
        have y2 := HXg3.out.frozen 38
        go_wp2_with fail
        refine (pick14_any _ 8 (HIN.out 6).1 (HIN.out 6).2 (by decide) _).mono ?_
        rintro e V0 ⟨rfl, rfl⟩
        rw [R6.out]
        go_upto_region 14 with (fail)
        clear c1 c2 y2
        have hn := HXg3.out.set (j := 38) (by omega) (r6)
        have hb := (Svg.set g3 38 V7 (.int .i64 (r6))).bel HB.out (by have := HG.out; have := HG1.out; have := HG2.out; omega)
        have hg2 := ((Svg.set g3 38 V7 (.int .i64 (r6))).block g2 (lt_of_heap HXg2.out) (by have := HG.out; have := HG1.out; have := HG2.out; omega)).trans HXg2.out
        have hg4 := ((Svg.set g3 38 V7 (.int .i64 (r6))).block g4 (lt_of_heap HXg4.out) (by have := HG.out; have := HG1.out; have := HG2.out; omega)).trans HXg4.out
        generalize V7.setCell ⟨g3, 38, none⟩ (.int .i64 (r6)) = V8 at hn hb hg2 hg4  ⊢
        clear HB HXg2 HXg3 HXg4
        have HB : Hid (Bel w V8) := Lib.hid hb
        have HXg2 : Hid (HAt V8 g2 (fun _ => 0)) := Lib.hid hg2
        have HXg4 : Hid (AAt V8 g4 f) := Lib.hid hg4
        have HXg3 : Hid (HAt V8 g3 (up (up (up (up (up (up (up (fun _ => 0) 32 (p0)) 33 (s1)) 34 (p2)) 35 (f 3)) 36 (p4)) 37 (f 5)) 38 (r6))) := Lib.hid hn
        clear hn hb hg2 hg4
        obtain ⟨h0, hh0⟩ : ∃ h, (up (up (up (up (up (up (up (fun _ => 0) 32 (p0)) 33 (s1)) 34 (p2)) 35 (f 3)) 36 (p4)) 37 (f 5)) 38 (r6)) = h := ⟨_, rfl⟩
        rw [hh0] at HXg3
        have HH0 := Lib.hid hh0
        clear hh0
        go_wp2
        go_loopw [6] (fun i wx => ∃ (j : Nat), 1 ≤ j ∧ j ≤ 32 ∧ i = .int .i64 j ∧ Hid (Bel w wx) ∧ Hid (HAt wx g2 (fun _ => 0)) ∧ Hid (HAt wx g3 (Rk h0 f j)) ∧ Hid (AAt wx g4 f)) (fun i _ => 32 - (intOf i).toNat)
        case atStart => exact ⟨1, by omega, by omega, rfl, HB, HXg2, Lib.hid (by rw [Rk_one]; exact HXg3.out), HXg4⟩
        case round =>
          clear HB HXg2 HXg3 HXg4
          obtain ⟨j, hj1, hj2, rfl, HB, HXg2, HXg3, HXg4⟩ := hrel
          by_cases hj : j < 32
          · have i1 : (j : Int) < 32 := by omega
            have c1 := HXg4.out.cell (j := 6 + j) (by omega)
            have c2 := HXg3.out.cell (j := j) (by omega)
            have y2 := HXg3.out.frozen j
            have i2 : (6 : Int) + j < 38 := by omega
            have i3 : IntKind.i64.wrap ((6 : Int) + j) = ((6 + j : Nat) : Int) := by rw [IntWalk.i64_in _ (by omega)]; omega
            have i4 : wrap64 ((6 : Int) + j) = ((6 + j : Nat) : Int) := by rw [← i3, IntWalk.i64_left]
            have i5 : ((6 + j : Nat) : Int) < 38 := by omega
            go_wp2
            have hlt2 := lt_of_heap HXg2.out
            have hlt4 := lt_of_heap HXg4.out
            have n2 : g2 ≠ g3 := by have := HG1.out; omega
            have n4 : g4 ≠ g3 := by have := HG2.out; omega
            refine ⟨⟨j + 1, by omega, by omega, by go_num, Lib.hid ((Svg.set g3 j wr _).bel HB.out (by have := HG.out; have := HG1.out; omega)), Lib.hid (((Svg.set g3 j wr _).block g2 hlt2 n2).trans HXg2.out), Lib.hid ?_, Lib.hid (((Svg.set g3 j wr _).block g4 hlt4 n4).trans HXg4.out)⟩, by simp [intOf]; omega⟩
            rw [← Rk_succ h0 f hj1]
            exact HXg3.out.set (by omega) _
          · obtain rfl : j = 32 := by omega
            have i1 : ¬ ((32 : Nat) : Int) < 32 := by omega
            go_upto_region 18 with (fail)
            rename_i K hK
            refine wp_region_list ?_
            refine wpList_load_row rfl 28 (.tmp 3) rfl g3 rfl 28 (hC (Rk h0 f 32)) (0, 0) _ HXg3.out Tryd.underlying28 rfl (sz_hart _) ?_
            try simp only [Act.put, la, lz, ls]
            refine wpList_store_row rfl 28 (.tmp 2) (.tmp 67) rfl g2 (hC (Rk h0 f 32)) rfl rfl 28 (hC (fun _ => 0)) HXg2.out (sz_hart _) (by rw [hC_size, hC_size]) (hC_ones _) ?_
            have hn := row_same (cs := (hC (Rk h0 f 32))) HXg2.out
            have hb := row_bel HB.out (g := g2) (by have := HG.out; have := HG1.out; have := HG2.out; omega) (hC (Rk h0 f 32))
            have hg3 := (setRow_other wr g2 g3 (hC (Rk h0 f 32)) (by have := HG.out; have := HG1.out; have := HG2.out; omega)).trans HXg3.out
            have hg4 := (setRow_other wr g2 g4 (hC (Rk h0 f 32)) (by have := HG.out; have := HG1.out; have := HG2.out; omega)).trans HXg4.out
            generalize wr.setRow g2 (hC (Rk h0 f 32)) = V1 at hn hb hg3 hg4 ⊢
            clear HB HXg2 HXg3 HXg4
            have HB : Hid (Bel w V1) := Lib.hid hb
            have HXg3 : Hid (HAt V1 g3 (Rk h0 f 32)) := Lib.hid hg3
            have HXg4 : Hid (AAt V1 g4 f) := Lib.hid hg4
            have HXg2 : Hid (HAt V1 g2 (Rk h0 f 32)) := Lib.hid hn
            clear hn hb hg3 hg4
            try simp only [Act.put, la, lz, ls]
            refine wpList_nil ?_
            refine hK _ _ (wp_ret ?_)
            have e9 : Rk h0 f 32 = fitV l := by
              rw [fitV_eq (r := r1) (by have := HN.out; omega) HF.out R1.out, Q0.out, Q2.out, Q4.out, R6.out, ← ES1.out, HH0.out]
            rw [e9] at HXg2
            exact bodyPost_ret (results_cell_row Tryd.results13 _ _ g2 _ _ _ _ (by rfl) HXg2.out Tryd.underlying28 rfl (sz_hart _)) (by rfl) ⟨rfl, HB.out⟩
end Go.Proofs.YtgcgdjmlngfpeaaDoor
