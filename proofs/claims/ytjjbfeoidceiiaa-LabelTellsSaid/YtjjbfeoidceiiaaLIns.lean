/- The instructions that stand in an item's place: leading and instrs of package label. -/
import Derived.Test.YtjjbfeoidceiiaaLMul
namespace Go.Proofs.Ytjjbfeoidceiiaa
open Go.RowKit Rv Lb
set_option linter.unusedVariables false
/-- the layer as it is laid -/
structure LayD (w : World) (y : Nat) (l : List Itm) (b o c PB SB sc TB : Nat) : Prop where
  lay : w.heap[y]? = some (.cells #[.slice (some ⟨PB, 0, none⟩) (l.length + 1) (l.length + 1), .slice (some ⟨b, o, none⟩) l.length c, .slice (some ⟨SB, 0, none⟩) l.length sc, .slice (some ⟨TB, 0, none⟩) l.length l.length] 57 (0, 0))
  items : ItemsAt w b o l
  places : IntsAt w PB 0 (sumsTo (szs l (Lb.fin l)) l.length)
  sizes : IntsAt w SB 0 (szs l (Lb.fin l))
  tos : IntsAt w TB 0 (tos l l.length)
theorem LayD.both {w w' : World} {y : Nat} {l : List Itm} {b o c PB SB sc TB : Nat} (h : LayD w y l b o c PB SB sc TB) (hb : Both w w') : LayD w' y l b o c PB SB sc TB :=
  ⟨(hb.1.block _ (lt_of_heap h.lay)).trans h.lay, h.items.both hb, h.places.both hb, h.sizes.both hb, h.tos.both hb⟩
noncomputable def byOf (l : List Itm) (k : Nat) : Int := 4 * (place l (Lb.fin l) (to l k) : Int) - 4 * (place l (Lb.fin l) k : Int)
noncomputable def leadL (l : List Itm) (k : Nat) (i : Ins) : List Ins := if sz l (Lb.fin l) k = 1 then [⟨i.op, i.d, i.a, i.b, byOf l k⟩] else [⟨opp i.op, i.d, i.a, i.b, 8⟩, ⟨3, 0, 0, 0, byOf l k - 4⟩]
noncomputable def instrL (l : List Itm) (k : Nat) (x : Itm) : List Ins :=
  if x.kind = 1 then [x.i] else if x.kind = 3 then leadL l k x.i else if x.kind = 4 then number x.i.d x.n else if x.kind = 5 then List.replicate x.n.toNat nopI else []
theorem new_heap {W : World} {n : Nat} (hn : W.heap.size = n) (o : Obj) : (W.alloc o).heap[n]? = some o := by
  subst hn
  exact heap_alloc_new W o
theorem insAt_one {W : World} {n : Nat} (hn : W.heap.size = n) (t : TypeId) (i : Ins) : InsAt (W.alloc (.cells (cells5 i).toArray t)) (some ⟨n, 0, none⟩) [i] := by
  subst hn
  exact InsAt.one W t i
theorem insAt_two {W : World} {n : Nat} (hn : W.heap.size = n) (t : TypeId) (i j : Ins) : InsAt (W.alloc (.cells (cells5 i ++ cells5 j).toArray t)) (some ⟨n, 0, none⟩) [i, j] := by
  subst hn
  exact InsAt.two W t i j
set_option maxHeartbeats 4000000 in
theorem leading_any (y b o c PB SB sc TB k : Nat) (l : List Itm) (w : World) (HL : Hid (LayD w y l b o c PB SB sc TB)) (hlen : l.length ≤ 40000) (HR : Hid (allRight l)) (hk : k < l.length) (ht : to l k < l.length) (x : Itm) (HX : Hid (l[k]? = some x)) :
    Calls Try.prog 67 #[.pointer (some ⟨y, 0, none⟩), .int .i64 k] w (InsNew (leadL l k x.i) w) := by
  obtain ⟨kd, ⟨xo, xd, xa, xb, xn⟩, xs, xm⟩ := x
  show Calls _ _ _ w (InsNew (leadL l k ⟨xo, xd, xa, xb, xn⟩) w)
  obtain ⟨c0, c1, c2, c3, c4, c5, c6, c7⟩ := HL.out.items.get HX.out
  have y0 := cell_of_heap HL.out.lay 0
  have y1 := cell_of_heap HL.out.lay 1
  have y2 := cell_of_heap HL.out.lay 2
  have y3 := cell_of_heap HL.out.lay 3
  simp only [List.getElem?_toArray, List.getElem?_cons_zero, List.getElem?_cons_succ] at y0 y1 y2 y3
  have hk' : (k : Int) < l.length := by omega
  go_enter Try.func67, Try.ntmps67
  go_upto_region 2 with (fail)
  have hb1 : Both w (w.alloc (.cells #[.int .i64 xo, .int .i64 xd, .int .i64 xa, .int .i64 xb, .int .i64 xn] 24)) := (Both.refl w).alloc _ _
  have hX := heap_alloc_new w (.cells #[.int .i64 xo, .int .i64 xd, .int .i64 xa, .int .i64 xb, .int .i64 xn] 24)
  have hl1 := HL.out.both hb1
  have z0 := cell_of_heap hl1.lay 0
  have z3 := cell_of_heap hl1.lay 3
  simp only [List.getElem?_toArray, List.getElem?_cons_zero, List.getElem?_cons_succ] at z0 z3
  have htc := hl1.tos.2 k _ (tos_get hk)
  have hpk := hl1.places.2 k _ (sumsTo_get _ _ _ (Nat.le_of_lt hk))
  have hpt := hl1.places.2 (to l k) _ (sumsTo_get _ _ _ (Nat.le_of_lt ht))
  rw [Nat.zero_add] at htc
  rw [Nat.zero_add, sumAt_place _ _ _ (by omega)] at hpk hpt
  have bk := place_bd HR.out (Lb.fin l) k
  have bt := place_bd HR.out (Lb.fin l) (to l k)
  have HLE : Hid (leadL l k ⟨xo, xd, xa, xb, xn⟩ = if sz l (Lb.fin l) k = 1 then [⟨xo, xd, xa, xb, byOf l k⟩] else [⟨opp xo, xd, xa, xb, 8⟩, ⟨3, 0, 0, 0, byOf l k - 4⟩]) := rfl
  have hby : byOf l k = 4 * (place l (Lb.fin l) (to l k) : Int) - 4 * (place l (Lb.fin l) k : Int) := rfl
  generalize byOf l k = by' at HLE hby
  generalize place l (Lb.fin l) (to l k) = pt at bt hpt hby
  generalize place l (Lb.fin l) k = pk at bk hpk hby
  have HT := Lib.hid ht
  generalize to l k = t at htc hpt HT bt
  have htl := HT.out
  have hap := @apart_q PB (l.length + 1) (l.length + 1) k t (4 * pk) (4 * pt) _ (by omega) (by omega) (by omega) hpk hpt (by omega) (by omega) (by omega) (by omega)
  rw [← hby] at hap
  have HAP := Lib.hid hap
  have HBY := Lib.hid hby
  have HB1 := Lib.hid hb1
  have HXB := Lib.hid hX
  have HL1 := Lib.hid hl1
  have hb3 : -2000000000 ≤ by' ∧ by' ≤ 2000000000 := by omega
  obtain ⟨hb3, hb4⟩ := hb3
  clear hap hb1 hX hl1 hpk hpt hby bk bt HT ht c0 c1 c2 c3 c4 c5 c6 c7 y0 y1 y2 y3
  generalize w.alloc (.cells #[.int .i64 xo, .int .i64 xd, .int .i64 xa, .int .i64 xb, .int .i64 xn] 24) = W1 at z0 z3 htc HAP HB1 HXB HL1 ⊢
  go_quiet ((go_at_call 81; exact HAP.out _))
  have hl2 := HL1.out.both ((Both.refl W1).drewN nq)
  have hX2 := (((Both.refl W1).drewN nq).1.block _ (lt_of_heap HXB.out)).trans HXB.out
  have HB2 := Lib.hid (HB1.out.drewN nq)
  clear z0 z3 htc HAP HB1 HXB HL1
  generalize W1.drewN nq = W2 at hl2 hX2 HB2 ⊢
  have z2 := cell_of_heap hl2.lay 2
  simp only [List.getElem?_toArray, List.getElem?_cons_zero, List.getElem?_cons_succ] at z2
  have hsz := hl2.sizes.2 k _ (szs_get hk)
  rw [Nat.zero_add] at hsz
  have e0 := cell_of_heap hX2 0
  have e1 := cell_of_heap hX2 1
  have e2 := cell_of_heap hX2 2
  have e3 := cell_of_heap hX2 3
  have e4 := cell_of_heap hX2 4
  have f0 := frozen_of_heap hX2 0
  have f4 := frozen_of_heap hX2 4
  simp only [List.getElem?_toArray, List.getElem?_cons_zero, List.getElem?_cons_succ] at e0 e1 e2 e3 e4
  generalize sz l (Lb.fin l) k = s at hsz HLE
  have lX := lt_of_heap hX2
  clear hl2 hX2
  by_cases h1 : s = 1
  · have hle := HLE.out
    rw [if_pos h1] at hle
    have HLE2 := Lib.hid hle
    subst h1
    clear hle HLE
    go_wp2_with fail
    go_ret
    exact ⟨_, _, (by rw [HLE2.out]; rfl), (by rw [HLE2.out]; exact insAt_one (by simp) _ ⟨xo, xd, xa, xb, by'⟩), (HB2.out.setCell (Nat.le_refl _) _).alloc _ _, fun a h => (by cases h; exact ⟨_, _, new_heap (by simp) _⟩)⟩
  · have h2 : ((s : Int) == 1) = false := by simp; omega
    have hle := HLE.out
    rw [if_neg h1] at hle
    have HLE2 := Lib.hid hle
    clear h1 hle HLE
    obtain ⟨q, hq⟩ : ∃ q, opp xo = q := ⟨_, rfl⟩
    rw [hq] at HLE2
    have HQ := Lib.hid hq
    clear hq
    go_wp2_with (go_at_call 82; ((with_reducible refine (opp_lit HQ.out _).mono ?_); rintro e w' ⟨rfl, rfl⟩))
    go_ret
    exact ⟨_, _, (by rw [HLE2.out]; rfl), (by rw [HLE2.out]; exact insAt_two (by simp) _ ⟨q, xd, xa, xb, 8⟩ ⟨3, 0, 0, 0, by' - 4⟩), ((HB2.out.setCell (Nat.le_refl _) _).setCell (Nat.le_refl _) _).alloc _ _, fun a h => (by cases h; exact ⟨_, _, new_heap (by simp) _⟩)⟩
set_option maxHeartbeats 4000000 in
theorem instrs_1 (y b o c PB SB sc TB k : Nat) (l : List Itm) (w : World) (HL : Hid (LayD w y l b o c PB SB sc TB)) (hlen : l.length ≤ 40000) (HR : Hid (allRight l)) (hk : k < l.length) (ht : to l k < l.length) (xo xd xa xb xn xm : Int) (xs : ByteArray) (HX : Hid (l[k]? = some ⟨1, ⟨xo, xd, xa, xb, xn⟩, xs, xm⟩)) :
    Calls Try.prog 35 #[.pointer (some ⟨y, 0, none⟩), .int .i64 k] w (InsNew (instrL l k ⟨1, ⟨xo, xd, xa, xb, xn⟩, xs, xm⟩) w) := by
  obtain ⟨c0, c1, c2, c3, c4, c5, c6, c7⟩ := HL.out.items.get HX.out
  have y1 := cell_of_heap HL.out.lay 1
  simp only [List.getElem?_toArray, List.getElem?_cons_zero, List.getElem?_cons_succ] at y1
  have hk' : (k : Int) < l.length := by omega
  have HE : Hid (instrL l k ⟨1, ⟨xo, xd, xa, xb, xn⟩, xs, xm⟩ = [⟨xo, xd, xa, xb, xn⟩]) := by show _ = _; unfold instrL; simp
  go_enter Try.func35, Try.ntmps35
  go_wp2_with fail
  go_ret
  exact ⟨_, _, (by rw [HE.out]; rfl), (by rw [HE.out]; exact insAt_one (by simp) _ ⟨xo, xd, xa, xb, xn⟩), ((Both.refl w).alloc _ _).alloc _ _, fun a h => (by cases h; exact ⟨_, _, new_heap (by simp) _⟩)⟩
set_option maxHeartbeats 4000000 in
theorem instrs_2 (y b o c PB SB sc TB k : Nat) (l : List Itm) (w : World) (HL : Hid (LayD w y l b o c PB SB sc TB)) (hlen : l.length ≤ 40000) (HR : Hid (allRight l)) (hk : k < l.length) (ht : to l k < l.length) (xo xd xa xb xn xm : Int) (xs : ByteArray) (HX : Hid (l[k]? = some ⟨2, ⟨xo, xd, xa, xb, xn⟩, xs, xm⟩)) :
    Calls Try.prog 35 #[.pointer (some ⟨y, 0, none⟩), .int .i64 k] w (InsNew (instrL l k ⟨2, ⟨xo, xd, xa, xb, xn⟩, xs, xm⟩) w) := by
  obtain ⟨c0, c1, c2, c3, c4, c5, c6, c7⟩ := HL.out.items.get HX.out
  have y1 := cell_of_heap HL.out.lay 1
  simp only [List.getElem?_toArray, List.getElem?_cons_zero, List.getElem?_cons_succ] at y1
  have hk' : (k : Int) < l.length := by omega
  have HE : Hid (instrL l k ⟨2, ⟨xo, xd, xa, xb, xn⟩, xs, xm⟩ = []) := by show _ = _; unfold instrL; simp
  go_enter Try.func35, Try.ntmps35
  go_wp2_with fail
  go_ret
  exact ⟨none, 0, (by rw [HE.out]; rfl), (by rw [HE.out]; exact InsAt.none _ _), (Both.refl w).alloc _ _, fun a h => (by cases h)⟩
set_option maxHeartbeats 4000000 in
theorem instrs_3 (y b o c PB SB sc TB k : Nat) (l : List Itm) (w : World) (HL : Hid (LayD w y l b o c PB SB sc TB)) (hlen : l.length ≤ 40000) (HR : Hid (allRight l)) (hk : k < l.length) (ht : to l k < l.length) (xo xd xa xb xn xm : Int) (xs : ByteArray) (HX : Hid (l[k]? = some ⟨3, ⟨xo, xd, xa, xb, xn⟩, xs, xm⟩)) :
    Calls Try.prog 35 #[.pointer (some ⟨y, 0, none⟩), .int .i64 k] w (InsNew (instrL l k ⟨3, ⟨xo, xd, xa, xb, xn⟩, xs, xm⟩) w) := by
  obtain ⟨c0, c1, c2, c3, c4, c5, c6, c7⟩ := HL.out.items.get HX.out
  have y1 := cell_of_heap HL.out.lay 1
  simp only [List.getElem?_toArray, List.getElem?_cons_zero, List.getElem?_cons_succ] at y1
  have hk' : (k : Int) < l.length := by omega
  have HE : Hid (instrL l k ⟨3, ⟨xo, xd, xa, xb, xn⟩, xs, xm⟩ = leadL l k ⟨xo, xd, xa, xb, xn⟩) := by show _ = _; unfold instrL; simp
  go_enter Try.func35, Try.ntmps35
  go_wp2_with fail
  refine (leading_any y b o c PB SB sc TB k l _ (Lib.hid (HL.out.both ((Both.refl w).alloc _ _))) hlen HR hk ht _ HX).mono ?_
  rintro e w1 ⟨p, q, rfl, hat, hb1, hnew⟩
  have HNW := Lib.hid hnew
  clear hnew
  have HB := Lib.hid (((Both.refl w).alloc _ _).trans hb1)
  have HA := Lib.hid hat
  clear hb1 hat
  go_wp2_with fail
  go_ret
  exact ⟨p, q, (by rw [HE.out]; rfl), (by rw [HE.out]; exact HA.out), HB.out, HNW.out⟩
set_option maxHeartbeats 4000000 in
theorem instrs_4 (y b o c PB SB sc TB k : Nat) (l : List Itm) (w : World) (HL : Hid (LayD w y l b o c PB SB sc TB)) (hlen : l.length ≤ 40000) (HR : Hid (allRight l)) (hk : k < l.length) (ht : to l k < l.length) (xo xd xa xb xn xm : Int) (xs : ByteArray) (HX : Hid (l[k]? = some ⟨4, ⟨xo, xd, xa, xb, xn⟩, xs, xm⟩)) :
    Calls Try.prog 35 #[.pointer (some ⟨y, 0, none⟩), .int .i64 k] w (InsNew (instrL l k ⟨4, ⟨xo, xd, xa, xb, xn⟩, xs, xm⟩) w) := by
  obtain ⟨c0, c1, c2, c3, c4, c5, c6, c7⟩ := HL.out.items.get HX.out
  have y1 := cell_of_heap HL.out.lay 1
  simp only [List.getElem?_toArray, List.getElem?_cons_zero, List.getElem?_cons_succ] at y1
  have hk' : (k : Int) < l.length := by omega
  have HE : Hid (instrL l k ⟨4, ⟨xo, xd, xa, xb, xn⟩, xs, xm⟩ = number xd xm) := by show _ = _; unfold instrL; simp
  go_enter Try.func35, Try.ntmps35
  go_wp2_with fail
  refine (number_new xd xm _).mono ?_
  rintro e w1 ⟨p, q, rfl, hat, hb1, hnew⟩
  have HNW := Lib.hid hnew
  clear hnew
  have HB := Lib.hid (((Both.refl w).alloc _ _).trans hb1)
  have HA := Lib.hid hat
  clear hb1 hat
  go_wp2_with fail
  go_ret
  exact ⟨p, q, (by rw [HE.out]; rfl), (by rw [HE.out]; exact HA.out), HB.out, HNW.out⟩
set_option maxHeartbeats 4000000 in
theorem instrs_5 (y b o c PB SB sc TB k : Nat) (l : List Itm) (w : World) (HL : Hid (LayD w y l b o c PB SB sc TB)) (hlen : l.length ≤ 40000) (HR : Hid (allRight l)) (hk : k < l.length) (ht : to l k < l.length) (xo xd xa xb xn xm : Int) (xs : ByteArray) (HX : Hid (l[k]? = some ⟨5, ⟨xo, xd, xa, xb, xn⟩, xs, xm⟩)) :
    Calls Try.prog 35 #[.pointer (some ⟨y, 0, none⟩), .int .i64 k] w (InsNew (instrL l k ⟨5, ⟨xo, xd, xa, xb, xn⟩, xs, xm⟩) w) := by
  obtain ⟨c0, c1, c2, c3, c4, c5, c6, c7⟩ := HL.out.items.get HX.out
  have y1 := cell_of_heap HL.out.lay 1
  simp only [List.getElem?_toArray, List.getElem?_cons_zero, List.getElem?_cons_succ] at y1
  have hk' : (k : Int) < l.length := by omega
  have hrx := (HR.out _ (List.mem_of_getElem? HX.out)).1
  have hm : 0 ≤ xm ∧ xm ≤ 4096 := by
    unfold rightX at hrx
    rw [if_neg (by simp), if_neg (by simp), if_neg (by simp), if_neg (by simp), if_pos rfl] at hrx
    simp at hrx
    exact hrx.2
  obtain ⟨m, rfl⟩ := Int.eq_ofNat_of_zero_le hm.1
  have HE : Hid (instrL l k ⟨5, ⟨xo, xd, xa, xb, xn⟩, xs, m⟩ = List.replicate m nopI) := by show _ = _; unfold instrL; simp
  clear hrx
  go_enter Try.func35, Try.ntmps35
  go_wp2_with fail
  have hX := heap_alloc_new (w.alloc (.cells #[.int .i64 5, .int .i64 xo, .int .i64 xd, .int .i64 xa, .int .i64 xb, .int .i64 xn, .string xs, .int .i64 m] 26)) (.cells #[.int .i64 13, .int .i64 0, .int .i64 0, .int .i64 0, .int .i64 0] 24)
  have hs1 : (w.alloc (.cells #[.int .i64 5, .int .i64 xo, .int .i64 xd, .int .i64 xa, .int .i64 xb, .int .i64 xn, .string xs, .int .i64 m] 26)).heap.size = w.heap.size + 1 := by simp
  rw [hs1] at hX
  refine (repeat_any (w.heap.size + 1) m (by omega) _ (Lib.hid (fun j v hj => by rw [cell_of_heap hX, List.getElem?_toArray]; exact hj)) (by simp)).mono ?_
  rintro e w1 ⟨p, q, rfl, hat, hb1, hnew⟩
  have HNW := Lib.hid hnew
  clear hnew
  have HB := Lib.hid ((((Both.refl w).alloc _ _).alloc _ _).trans hb1)
  have HA := Lib.hid hat
  clear hb1 hat hX hs1
  go_wp2_with fail
  go_ret
  exact ⟨p, q, (by rw [HE.out, List.length_replicate]; rfl), (by rw [HE.out]; exact HA.out), HB.out, HNW.out⟩
theorem instrs_any (y b o c PB SB sc TB k : Nat) (l : List Itm) (w : World) (HL : LayD w y l b o c PB SB sc TB) (hlen : l.length ≤ 40000) (HR : allRight l) (hk : k < l.length) (ht : to l k < l.length) (x : Itm) (HX : l[k]? = some x) :
    Calls Try.prog 35 #[.pointer (some ⟨y, 0, none⟩), .int .i64 k] w (InsNew (instrL l k x) w) := by
  have hr := (HR x (List.mem_of_getElem? HX)).1
  obtain ⟨kd, ⟨xo, xd, xa, xb, xn⟩, xs, xm⟩ := x
  by_cases h1 : kd = 1
  · subst h1; exact instrs_1 y b o c PB SB sc TB k l w HL hlen HR hk ht _ _ _ _ _ _ _ HX
  by_cases h2 : kd = 2
  · subst h2; exact instrs_2 y b o c PB SB sc TB k l w HL hlen HR hk ht _ _ _ _ _ _ _ HX
  by_cases h3 : kd = 3
  · subst h3; exact instrs_3 y b o c PB SB sc TB k l w HL hlen HR hk ht _ _ _ _ _ _ _ HX
  by_cases h4 : kd = 4
  · subst h4; exact instrs_4 y b o c PB SB sc TB k l w HL hlen HR hk ht _ _ _ _ _ _ _ HX
  by_cases h5 : kd = 5
  · subst h5; exact instrs_5 y b o c PB SB sc TB k l w HL hlen HR hk ht _ _ _ _ _ _ _ HX
  unfold rightX at hr
  rw [if_neg h1, if_neg h2, if_neg h3, if_neg h4, if_neg h5] at hr
  cases hr
end Go.Proofs.Ytjjbfeoidceiiaa
