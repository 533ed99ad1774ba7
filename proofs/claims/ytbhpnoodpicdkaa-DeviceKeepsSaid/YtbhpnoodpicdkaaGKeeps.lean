/- DeviceKeeps: what was written into a register that keeps it is read. -/
import Derived.Test.YtbhpnoodpicdkaaGMade
import Derived.Test.YtbhpnoodpicdkaaGAwk
namespace Go.Proofs.Ytbhpnoodpicdkaa
open Go.RowKit Dv
set_option linter.unusedVariables false
set_option linter.unusedSimpArgs false
theorem five_new (w : World) (c0 c1 c2 c3 c4 : Array Value) (t0 t1 t2 t3 t4 : TypeId) : ∃ w', (((((w.alloc (.cells c0 t0)).alloc (.cells c1 t1)).alloc (.cells c2 t2)).alloc (.cells c3 t3)).alloc (.cells c4 t4)) = w' ∧ Bel w w' ∧
    w'.heap[w.heap.size + 1]? = some (.cells c1 t1 (0, 0)) ∧ w'.heap[w.heap.size + 1 + 1]? = some (.cells c2 t2 (0, 0)) ∧ w'.heap[w.heap.size + 1 + 1 + 1]? = some (.cells c3 t3 (0, 0)) ∧ w'.heap[w.heap.size + 1 + 1 + 1 + 1]? = some (.cells c4 t4 (0, 0)) := by
  have h1 := heap_alloc_new (w.alloc (.cells c0 t0)) (.cells c1 t1)
  have h2 := heap_alloc_new ((w.alloc (.cells c0 t0)).alloc (.cells c1 t1)) (.cells c2 t2)
  have h3 := heap_alloc_new (((w.alloc (.cells c0 t0)).alloc (.cells c1 t1)).alloc (.cells c2 t2)) (.cells c3 t3)
  have h4 := heap_alloc_new ((((w.alloc (.cells c0 t0)).alloc (.cells c1 t1)).alloc (.cells c2 t2)).alloc (.cells c3 t3)) (.cells c4 t4)
  simp only [World.size_alloc] at h1 h2 h3 h4
  exact ⟨_, rfl, (((((Bel.refl w).alloc _ _).alloc _ _).alloc _ _).alloc _ _).alloc _ _, ((((Bel.refl _).alloc _ _).alloc _ _).alloc _ _).stays h1, (((Bel.refl _).alloc _ _).alloc _ _).stays h2, ((Bel.refl _).alloc _ _).stays h3, h4⟩
set_option maxRecDepth 100000 in
set_option maxHeartbeats 4000000 in
theorem keeps_any (w : World) {kind which x : Int} {P : Option Addr} {N C : Nat} {raw : List (Int × Int × Int)} (hk : inInt kind) (hw : inInt which) (hn : raw.length = N) (hQ : TrisQ w P raw) (hN : N ≤ 9223372036854775807) :
    Calls Try.prog 3 #[.int .i64 kind, .slice P N C, .int .i64 which, .int .i64 x] w fun e w' => e = .returned (.bool true) ∧ Bel w w' := by
  obtain ⟨d, hd⟩ : ∃ d, madeV kind raw = d := ⟨_, rfl⟩
  have od : Ok d := by rw [← hd]; exact (made_ok kind raw).1
  obtain ⟨m, hm⟩ : ∃ m, wrap32 x = m := ⟨_, rfl⟩
  have hk3 := od.kind
  have hp1 := pick_bd which (n := 1) (by omega)
  have hp2 := pick_bd which (n := 2) (by omega)
  have HD := Lib.hid hd
  have OD := Lib.hid od
  have HM := Lib.hid hm
  have HK := Lib.hid hk
  have HW := Lib.hid hw
  have HT := Lib.hid hQ
  have HN := Lib.hid hn
  have HNL := Lib.hid hN
  have HBW := Lib.hid (Bel.refl w)
  have HP1 := Lib.hid hp1
  have HP2 := Lib.hid hp2
  clear hd od hm hk hw hQ hn hN hp1 hp2
  go_enter Try.func3, Try.ntmps3
  go_wp2_with fail
  refine (awake_any _).mono ?_
  rintro e W1 ⟨rfl, hb⟩
  have HBW := Lib.hid (HBW.out.trans hb)
  have HT := Lib.hid (HT.out.bel hb)
  clear hb
  go_wp2_with fail
  refine (made_lit HK.out HN.out HT.out HNL.out HD.out).mono ?_
  rintro e W2 ⟨p2, n2, c2, rfl, hb, hq⟩
  have HBW := Lib.hid (HBW.out.trans hb)
  have HT := Lib.hid (HT.out.bel hb)
  have HQv := Lib.hid hq
  clear hb hq
  go_upto_region 3 with (fail)
  have hnew : BoxAt (W2.alloc (.cells #[.int .i64 (d.kind : Int), .int .i64 d.r0, .int .i64 d.r1, .int .i64 d.r2, .int .i64 d.r3, .slice p2 n2 c2, .int .i64 d.sent, .bool d.up] 27)) W2.heap.size 27 d (.slice p2 n2 c2) := heap_alloc_new W2 _
  have hb : Bel W2 (W2.alloc (.cells #[.int .i64 (d.kind : Int), .int .i64 d.r0, .int .i64 d.r1, .int .i64 d.r2, .int .i64 d.r3, .slice p2 n2 c2, .int .i64 d.sent, .bool d.up] 27)) := (Bel.refl W2).alloc _ _
  have hge : w.heap.size ≤ W2.heap.size := HBW.out.size
  generalize hWW : (W2.alloc (.cells #[.int .i64 (d.kind : Int), .int .i64 d.r0, .int .i64 d.r1, .int .i64 d.r2, .int .i64 d.r3, .slice p2 n2 c2, .int .i64 d.sent, .bool d.up] 27)) = W3 at hnew hb ⊢
  clear hWW
  have HBW := Lib.hid (HBW.out.trans hb)
  have HQv := Lib.hid (HQv.out.bel hb)
  have HT := Lib.hid (HT.out.bel hb)
  generalize W2.heap.size = gs at hnew hge  ⊢
  have HXs := Lib.hid hnew
  have HGEs := Lib.hid hge
  clear hnew hb hge
  have HQs := HQv
  go_upto_region 4 with (fail)
  obtain ⟨W5, hW5, hb5, x1, x2, x3, x4⟩ := five_new W3 #[] #[.int .i64 2] #[.int .i64 1, .int .i64 2] #[.int .i64 0, .int .i64 2] #[.slice (some ⟨W3.heap.size, 0, none⟩) 0 0, .slice (some ⟨W3.heap.size + 1, 0, none⟩) 1 1, .slice (some ⟨W3.heap.size + 1 + 1, 0, none⟩) 2 2, .slice (some ⟨W3.heap.size + 1 + 1 + 1, 0, none⟩) 2 2] 3 3 3 3 25
  rw [hW5]
  clear hW5
  have HBW := Lib.hid (HBW.out.trans hb5)
  have HXs := Lib.hid (HXs.out.bel hb5)
  have HQs := Lib.hid (HQs.out.bel hb5)
  have HT := Lib.hid (HT.out.bel hb5)
  have X1 := Lib.hid x1
  have X2 := Lib.hid x2
  have X3 := Lib.hid x3
  have X4 := Lib.hid x4
  generalize W3.heap.size = g0 at X1 X2 X3 X4 ⊢
  clear hb5 x1 x2 x3 x4
  have hcs : (d.kind = 1 ∧ pick which 1 = 0) ∨ (d.kind = 2 ∧ pick which 2 = 0) ∨ (d.kind = 2 ∧ pick which 2 = 1) ∨ (d.kind = 3 ∧ pick which 2 = 0) ∨ (d.kind = 3 ∧ pick which 2 = 1) := by
    have h1 := HP1.out
    have h2 := HP2.out
    omega
  clear hk3
  rcases hcs with ⟨hkk, hpk⟩ | ⟨hkk, hpk⟩ | ⟨hkk, hpk⟩ | ⟨hkk, hpk⟩ | ⟨hkk, hpk⟩
  · have hrk : 2 ∈ keeps d.kind := by rw [hkk]; decide
    obtain ⟨t, ht⟩ : ∃ t, wrV d 2 x = t := ⟨_, rfl⟩
    have hrr : rdV t 2 = (m, t) := by rw [← ht, ← HM.out]; exact keeps_rd OD.out hrk x
    have ot : Ok t := by rw [← ht]; exact ok_wr OD.out _ _
    have st : sameV t t = true := sameV_refl t
    have i0 : W5.cell? ⟨gs, 0, none⟩ = some (.int .i64 1) := (HXs.out.cells.1).trans (by rw [hkk]; rfl)
    have j0 : W5.cell? ⟨g0 + 1 + 1 + 1 + 1, 1, none⟩ = some (.slice (some ⟨g0 + 1, 0, none⟩) 1 1) := cell_of_heap X4.out 1
    have l0 : W5.cell? ⟨g0 + 1, 0, none⟩ = some (.int .i64 2) := cell_of_heap X1.out 0
    have HTt := Lib.hid ht
    have HRR := Lib.hid hrr
    have OT := Lib.hid ot
    have HST := Lib.hid st
    have HPK := Lib.hid hpk
    clear hrk ht hrr ot st hpk hkk
    go_upto_region 8 with (go_at_call 12; ((with_reducible refine (pick_lit HPK.out HW.out (by decide) _).mono ?_); rintro e w' ⟨rfl, rfl⟩))
    clear i0 j0 l0
    obtain ⟨ks0, ks1, ks2, ks3, ks4, ks5, ks6, ks7⟩ := HXs.out.cells
    go_wp2_with fail
    refine (write_lit2 HQs.out OD.out HTt.out).mono ?_
    rintro e W6 ⟨p6, n6, c6, rfl, hb, hq⟩
    clear ks0 ks1 ks2 ks3 ks4 ks5 ks6 ks7
    have HBW := Lib.hid (HBW.out.trans hb)
    have HXs := Lib.hid (HXs.out.bel hb)
    have HQs := Lib.hid (HQs.out.bel hb)
    have HT := Lib.hid (HT.out.bel hb)
    have HQt := Lib.hid hq
    clear hb hq
    obtain ⟨ks0, ks1, ks2, ks3, ks4, ks5, ks6, ks7⟩ := HXs.out.cells
    go_upto_region 9 with (fail)
    clear ks0 ks1 ks2 ks3 ks4 ks5 ks6 ks7
    have hnew : BoxAt (W6.alloc (.cells #[.int .i64 (t.kind : Int), .int .i64 t.r0, .int .i64 t.r1, .int .i64 t.r2, .int .i64 t.r3, .slice p6 n6 c6, .int .i64 t.sent, .bool t.up] 27)) W6.heap.size 27 t (.slice p6 n6 c6) := heap_alloc_new W6 _
    have hb : Bel W6 (W6.alloc (.cells #[.int .i64 (t.kind : Int), .int .i64 t.r0, .int .i64 t.r1, .int .i64 t.r2, .int .i64 t.r3, .slice p6 n6 c6, .int .i64 t.sent, .bool t.up] 27)) := (Bel.refl W6).alloc _ _
    have hge : w.heap.size ≤ W6.heap.size := HBW.out.size
    have HNst : Hid (gs ≠ W6.heap.size) := Lib.hid (by have := lt_of_heap HXs.out; omega)
    generalize hWW : (W6.alloc (.cells #[.int .i64 (t.kind : Int), .int .i64 t.r0, .int .i64 t.r1, .int .i64 t.r2, .int .i64 t.r3, .slice p6 n6 c6, .int .i64 t.sent, .bool t.up] 27)) = W7 at hnew hb ⊢
    clear hWW
    have HBW := Lib.hid (HBW.out.trans hb)
    have HXs := Lib.hid (HXs.out.bel hb)
    have HQs := Lib.hid (HQs.out.bel hb)
    have HQt := Lib.hid (HQt.out.bel hb)
    have HT := Lib.hid (HT.out.bel hb)
    generalize W6.heap.size = gt at hnew hge HNst ⊢
    have HXt := Lib.hid hnew
    have HGEt := Lib.hid hge
    clear hnew hb hge
    have HQt := HQt
    obtain ⟨ks0, ks1, ks2, ks3, ks4, ks5, ks6, ks7⟩ := HXs.out.cells
    obtain ⟨kt0, kt1, kt2, kt3, kt4, kt5, kt6, kt7⟩ := HXt.out.cells
    go_wp2_with fail
    refine (read_lit2 HQt.out OT.out HRR.out).mono ?_
    rintro e W8 ⟨p8, n8, c8, rfl, hb, hq⟩
    clear ks0 ks1 ks2 ks3 ks4 ks5 ks6 ks7 kt0 kt1 kt2 kt3 kt4 kt5 kt6 kt7
    have HBW := Lib.hid (HBW.out.trans hb)
    have HXs := Lib.hid (HXs.out.bel hb)
    have HXt := Lib.hid (HXt.out.bel hb)
    have HQs := Lib.hid (HQs.out.bel hb)
    have HQt := Lib.hid (HQt.out.bel hb)
    have HT := Lib.hid (HT.out.bel hb)
    have HQu := Lib.hid hq
    clear hb hq
    obtain ⟨ks0, ks1, ks2, ks3, ks4, ks5, ks6, ks7⟩ := HXs.out.cells
    obtain ⟨kt0, kt1, kt2, kt3, kt4, kt5, kt6, kt7⟩ := HXt.out.cells
    go_upto_region 10 with (fail)
    clear ks0 ks1 ks2 ks3 ks4 ks5 ks6 ks7 kt0 kt1 kt2 kt3 kt4 kt5 kt6 kt7
    have hnew : BoxAt (W8.alloc (.cells #[.int .i64 (t.kind : Int), .int .i64 t.r0, .int .i64 t.r1, .int .i64 t.r2, .int .i64 t.r3, .slice p8 n8 c8, .int .i64 t.sent, .bool t.up] 27)) W8.heap.size 27 t (.slice p8 n8 c8) := heap_alloc_new W8 _
    have hb : Bel W8 (W8.alloc (.cells #[.int .i64 (t.kind : Int), .int .i64 t.r0, .int .i64 t.r1, .int .i64 t.r2, .int .i64 t.r3, .slice p8 n8 c8, .int .i64 t.sent, .bool t.up] 27)) := (Bel.refl W8).alloc _ _
    have hge : w.heap.size ≤ W8.heap.size := HBW.out.size
    have HNsu : Hid (gs ≠ W8.heap.size) := Lib.hid (by have := lt_of_heap HXs.out; omega)
    have HNtu : Hid (gt ≠ W8.heap.size) := Lib.hid (by have := lt_of_heap HXt.out; omega)
    generalize hWW : (W8.alloc (.cells #[.int .i64 (t.kind : Int), .int .i64 t.r0, .int .i64 t.r1, .int .i64 t.r2, .int .i64 t.r3, .slice p8 n8 c8, .int .i64 t.sent, .bool t.up] 27)) = W9 at hnew hb ⊢
    clear hWW
    have HBW := Lib.hid (HBW.out.trans hb)
    have HXs := Lib.hid (HXs.out.bel hb)
    have HXt := Lib.hid (HXt.out.bel hb)
    have HQs := Lib.hid (HQs.out.bel hb)
    have HQt := Lib.hid (HQt.out.bel hb)
    have HQu := Lib.hid (HQu.out.bel hb)
    have HT := Lib.hid (HT.out.bel hb)
    generalize W8.heap.size = gu at hnew hge HNsu HNtu ⊢
    have HXu := Lib.hid hnew
    have HGEu := Lib.hid hge
    clear hnew hb hge
    have HQu := HQu
    obtain ⟨ks0, ks1, ks2, ks3, ks4, ks5, ks6, ks7⟩ := HXs.out.cells
    obtain ⟨kt0, kt1, kt2, kt3, kt4, kt5, kt6, kt7⟩ := HXt.out.cells
    obtain ⟨ku0, ku1, ku2, ku3, ku4, ku5, ku6, ku7⟩ := HXu.out.cells
    go_wp2_with fail
    refine (read_lit2 HQu.out OT.out HRR.out).mono ?_
    rintro e W10 ⟨p10, n10, c10, rfl, hb, hq⟩
    clear ks0 ks1 ks2 ks3 ks4 ks5 ks6 ks7 kt0 kt1 kt2 kt3 kt4 kt5 kt6 kt7 ku0 ku1 ku2 ku3 ku4 ku5 ku6 ku7
    have HBW := Lib.hid (HBW.out.trans hb)
    have HXs := Lib.hid (HXs.out.bel hb)
    have HXt := Lib.hid (HXt.out.bel hb)
    have HXu := Lib.hid (HXu.out.bel hb)
    have HQs := Lib.hid (HQs.out.bel hb)
    have HQt := Lib.hid (HQt.out.bel hb)
    have HQu := Lib.hid (HQu.out.bel hb)
    have HT := Lib.hid (HT.out.bel hb)
    have HQb := Lib.hid hq
    clear hb hq
    obtain ⟨ks0, ks1, ks2, ks3, ks4, ks5, ks6, ks7⟩ := HXs.out.cells
    obtain ⟨kt0, kt1, kt2, kt3, kt4, kt5, kt6, kt7⟩ := HXt.out.cells
    obtain ⟨ku0, ku1, ku2, ku3, ku4, ku5, ku6, ku7⟩ := HXu.out.cells
    go_upto_region 11 with (fail)
    clear ks0 ks1 ks2 ks3 ks4 ks5 ks6 ks7 kt0 kt1 kt2 kt3 kt4 kt5 kt6 kt7 ku0 ku1 ku2 ku3 ku4 ku5 ku6 ku7
    have hnew : BoxAt (W10.alloc (.cells #[.int .i64 (t.kind : Int), .int .i64 t.r0, .int .i64 t.r1, .int .i64 t.r2, .int .i64 t.r3, .slice p10 n10 c10, .int .i64 t.sent, .bool t.up] 27)) W10.heap.size 27 t (.slice p10 n10 c10) := heap_alloc_new W10 _
    have hb : Bel W10 (W10.alloc (.cells #[.int .i64 (t.kind : Int), .int .i64 t.r0, .int .i64 t.r1, .int .i64 t.r2, .int .i64 t.r3, .slice p10 n10 c10, .int .i64 t.sent, .bool t.up] 27)) := (Bel.refl W10).alloc _ _
    have hge : w.heap.size ≤ W10.heap.size := HBW.out.size
    have HNsb : Hid (gs ≠ W10.heap.size) := Lib.hid (by have := lt_of_heap HXs.out; omega)
    have HNtb : Hid (gt ≠ W10.heap.size) := Lib.hid (by have := lt_of_heap HXt.out; omega)
    have HNub : Hid (gu ≠ W10.heap.size) := Lib.hid (by have := lt_of_heap HXu.out; omega)
    generalize hWW : (W10.alloc (.cells #[.int .i64 (t.kind : Int), .int .i64 t.r0, .int .i64 t.r1, .int .i64 t.r2, .int .i64 t.r3, .slice p10 n10 c10, .int .i64 t.sent, .bool t.up] 27)) = W11 at hnew hb ⊢
    clear hWW
    have HBW := Lib.hid (HBW.out.trans hb)
    have HXs := Lib.hid (HXs.out.bel hb)
    have HXt := Lib.hid (HXt.out.bel hb)
    have HXu := Lib.hid (HXu.out.bel hb)
    have HQs := Lib.hid (HQs.out.bel hb)
    have HQt := Lib.hid (HQt.out.bel hb)
    have HQu := Lib.hid (HQu.out.bel hb)
    have HQb := Lib.hid (HQb.out.bel hb)
    have HT := Lib.hid (HT.out.bel hb)
    generalize W10.heap.size = gb at hnew hge HNsb HNtb HNub ⊢
    have HXb := Lib.hid hnew
    have HGEb := Lib.hid hge
    clear hnew hb hge
    have HQb := HQb
    obtain ⟨ks0, ks1, ks2, ks3, ks4, ks5, ks6, ks7⟩ := HXs.out.cells
    obtain ⟨kt0, kt1, kt2, kt3, kt4, kt5, kt6, kt7⟩ := HXt.out.cells
    obtain ⟨ku0, ku1, ku2, ku3, ku4, ku5, ku6, ku7⟩ := HXu.out.cells
    obtain ⟨kb0, kb1, kb2, kb3, kb4, kb5, kb6, kb7⟩ := HXb.out.cells
    go_wp2_with fail
    refine (wrap_lit HM.out _).mono ?_
    rintro e w' ⟨rfl, rfl⟩
    go_wp2_with fail
    refine (samel HST.out HQt.out HQu.out OT.out).mono ?_
    rintro e W12 ⟨rfl, hb⟩
    clear ks0 ks1 ks2 ks3 ks4 ks5 ks6 ks7 kt0 kt1 kt2 kt3 kt4 kt5 kt6 kt7 ku0 ku1 ku2 ku3 ku4 ku5 ku6 ku7 kb0 kb1 kb2 kb3 kb4 kb5 kb6 kb7
    have HBW := Lib.hid (HBW.out.trans hb)
    have HXs := Lib.hid (HXs.out.bel hb)
    have HXt := Lib.hid (HXt.out.bel hb)
    have HXu := Lib.hid (HXu.out.bel hb)
    have HXb := Lib.hid (HXb.out.bel hb)
    have HQs := Lib.hid (HQs.out.bel hb)
    have HQt := Lib.hid (HQt.out.bel hb)
    have HQu := Lib.hid (HQu.out.bel hb)
    have HQb := Lib.hid (HQb.out.bel hb)
    have HT := Lib.hid (HT.out.bel hb)
    clear hb
    go_wp2
    go_ret
    exact ⟨rfl, HBW.out⟩
  · have hrk : 1 ∈ keeps d.kind := by rw [hkk]; decide
    obtain ⟨t, ht⟩ : ∃ t, wrV d 1 x = t := ⟨_, rfl⟩
    have hrr : rdV t 1 = (m, t) := by rw [← ht, ← HM.out]; exact keeps_rd OD.out hrk x
    have ot : Ok t := by rw [← ht]; exact ok_wr OD.out _ _
    have st : sameV t t = true := sameV_refl t
    have i0 : W5.cell? ⟨gs, 0, none⟩ = some (.int .i64 2) := (HXs.out.cells.1).trans (by rw [hkk]; rfl)
    have j0 : W5.cell? ⟨g0 + 1 + 1 + 1 + 1, 2, none⟩ = some (.slice (some ⟨g0 + 1 + 1, 0, none⟩) 2 2) := cell_of_heap X4.out 2
    have l0 : W5.cell? ⟨g0 + 1 + 1, 0, none⟩ = some (.int .i64 1) := cell_of_heap X2.out 0
    have HTt := Lib.hid ht
    have HRR := Lib.hid hrr
    have OT := Lib.hid ot
    have HST := Lib.hid st
    have HPK := Lib.hid hpk
    clear hrk ht hrr ot st hpk hkk
    go_upto_region 8 with (go_at_call 12; ((with_reducible refine (pick_lit HPK.out HW.out (by decide) _).mono ?_); rintro e w' ⟨rfl, rfl⟩))
    clear i0 j0 l0
    obtain ⟨ks0, ks1, ks2, ks3, ks4, ks5, ks6, ks7⟩ := HXs.out.cells
    go_wp2_with fail
    refine (write_lit1 HQs.out OD.out HTt.out).mono ?_
    rintro e W6 ⟨p6, n6, c6, rfl, hb, hq⟩
    clear ks0 ks1 ks2 ks3 ks4 ks5 ks6 ks7
    have HBW := Lib.hid (HBW.out.trans hb)
    have HXs := Lib.hid (HXs.out.bel hb)
    have HQs := Lib.hid (HQs.out.bel hb)
    have HT := Lib.hid (HT.out.bel hb)
    have HQt := Lib.hid hq
    clear hb hq
    obtain ⟨ks0, ks1, ks2, ks3, ks4, ks5, ks6, ks7⟩ := HXs.out.cells
    go_upto_region 9 with (fail)
    clear ks0 ks1 ks2 ks3 ks4 ks5 ks6 ks7
    have hnew : BoxAt (W6.alloc (.cells #[.int .i64 (t.kind : Int), .int .i64 t.r0, .int .i64 t.r1, .int .i64 t.r2, .int .i64 t.r3, .slice p6 n6 c6, .int .i64 t.sent, .bool t.up] 27)) W6.heap.size 27 t (.slice p6 n6 c6) := heap_alloc_new W6 _
    have hb : Bel W6 (W6.alloc (.cells #[.int .i64 (t.kind : Int), .int .i64 t.r0, .int .i64 t.r1, .int .i64 t.r2, .int .i64 t.r3, .slice p6 n6 c6, .int .i64 t.sent, .bool t.up] 27)) := (Bel.refl W6).alloc _ _
    have hge : w.heap.size ≤ W6.heap.size := HBW.out.size
    have HNst : Hid (gs ≠ W6.heap.size) := Lib.hid (by have := lt_of_heap HXs.out; omega)
    generalize hWW : (W6.alloc (.cells #[.int .i64 (t.kind : Int), .int .i64 t.r0, .int .i64 t.r1, .int .i64 t.r2, .int .i64 t.r3, .slice p6 n6 c6, .int .i64 t.sent, .bool t.up] 27)) = W7 at hnew hb ⊢
    clear hWW
    have HBW := Lib.hid (HBW.out.trans hb)
    have HXs := Lib.hid (HXs.out.bel hb)
    have HQs := Lib.hid (HQs.out.bel hb)
    have HQt := Lib.hid (HQt.out.bel hb)
    have HT := Lib.hid (HT.out.bel hb)
    generalize W6.heap.size = gt at hnew hge HNst ⊢
    have HXt := Lib.hid hnew
    have HGEt := Lib.hid hge
    clear hnew hb hge
    have HQt := HQt
    obtain ⟨ks0, ks1, ks2, ks3, ks4, ks5, ks6, ks7⟩ := HXs.out.cells
    obtain ⟨kt0, kt1, kt2, kt3, kt4, kt5, kt6, kt7⟩ := HXt.out.cells
    go_wp2_with fail
    refine (read_lit1 HQt.out OT.out HRR.out).mono ?_
    rintro e W8 ⟨p8, n8, c8, rfl, hb, hq⟩
    clear ks0 ks1 ks2 ks3 ks4 ks5 ks6 ks7 kt0 kt1 kt2 kt3 kt4 kt5 kt6 kt7
    have HBW := Lib.hid (HBW.out.trans hb)
    have HXs := Lib.hid (HXs.out.bel hb)
    have HXt := Lib.hid (HXt.out.bel hb)
    have HQs := Lib.hid (HQs.out.bel hb)
    have HQt := Lib.hid (HQt.out.bel hb)
    have HT := Lib.hid (HT.out.bel hb)
    have HQu := Lib.hid hq
    clear hb hq
    obtain ⟨ks0, ks1, ks2, ks3, ks4, ks5, ks6, ks7⟩ := HXs.out.cells
    obtain ⟨kt0, kt1, kt2, kt3, kt4, kt5, kt6, kt7⟩ := HXt.out.cells
    go_upto_region 10 with (fail)
    clear ks0 ks1 ks2 ks3 ks4 ks5 ks6 ks7 kt0 kt1 kt2 kt3 kt4 kt5 kt6 kt7
    have hnew : BoxAt (W8.alloc (.cells #[.int .i64 (t.kind : Int), .int .i64 t.r0, .int .i64 t.r1, .int .i64 t.r2, .int .i64 t.r3, .slice p8 n8 c8, .int .i64 t.sent, .bool t.up] 27)) W8.heap.size 27 t (.slice p8 n8 c8) := heap_alloc_new W8 _
    have hb : Bel W8 (W8.alloc (.cells #[.int .i64 (t.kind : Int), .int .i64 t.r0, .int .i64 t.r1, .int .i64 t.r2, .int .i64 t.r3, .slice p8 n8 c8, .int .i64 t.sent, .bool t.up] 27)) := (Bel.refl W8).alloc _ _
    have hge : w.heap.size ≤ W8.heap.size := HBW.out.size
    have HNsu : Hid (gs ≠ W8.heap.size) := Lib.hid (by have := lt_of_heap HXs.out; omega)
    have HNtu : Hid (gt ≠ W8.heap.size) := Lib.hid (by have := lt_of_heap HXt.out; omega)
    generalize hWW : (W8.alloc (.cells #[.int .i64 (t.kind : Int), .int .i64 t.r0, .int .i64 t.r1, .int .i64 t.r2, .int .i64 t.r3, .slice p8 n8 c8, .int .i64 t.sent, .bool t.up] 27)) = W9 at hnew hb ⊢
    clear hWW
    have HBW := Lib.hid (HBW.out.trans hb)
    have HXs := Lib.hid (HXs.out.bel hb)
    have HXt := Lib.hid (HXt.out.bel hb)
    have HQs := Lib.hid (HQs.out.bel hb)
    have HQt := Lib.hid (HQt.out.bel hb)
    have HQu := Lib.hid (HQu.out.bel hb)
    have HT := Lib.hid (HT.out.bel hb)
    generalize W8.heap.size = gu at hnew hge HNsu HNtu ⊢
    have HXu := Lib.hid hnew
    have HGEu := Lib.hid hge
    clear hnew hb hge
    have HQu := HQu
    obtain ⟨ks0, ks1, ks2, ks3, ks4, ks5, ks6, ks7⟩ := HXs.out.cells
    obtain ⟨kt0, kt1, kt2, kt3, kt4, kt5, kt6, kt7⟩ := HXt.out.cells
    obtain ⟨ku0, ku1, ku2, ku3, ku4, ku5, ku6, ku7⟩ := HXu.out.cells
    go_wp2_with fail
    refine (read_lit1 HQu.out OT.out HRR.out).mono ?_
    rintro e W10 ⟨p10, n10, c10, rfl, hb, hq⟩
    clear ks0 ks1 ks2 ks3 ks4 ks5 ks6 ks7 kt0 kt1 kt2 kt3 kt4 kt5 kt6 kt7 ku0 ku1 ku2 ku3 ku4 ku5 ku6 ku7
    have HBW := Lib.hid (HBW.out.trans hb)
    have HXs := Lib.hid (HXs.out.bel hb)
    have HXt := Lib.hid (HXt.out.bel hb)
    have HXu := Lib.hid (HXu.out.bel hb)
    have HQs := Lib.hid (HQs.out.bel hb)
    have HQt := Lib.hid (HQt.out.bel hb)
    have HQu := Lib.hid (HQu.out.bel hb)
    have HT := Lib.hid (HT.out.bel hb)
    have HQb := Lib.hid hq
    clear hb hq
    obtain ⟨ks0, ks1, ks2, ks3, ks4, ks5, ks6, ks7⟩ := HXs.out.cells
    obtain ⟨kt0, kt1, kt2, kt3, kt4, kt5, kt6, kt7⟩ := HXt.out.cells
    obtain ⟨ku0, ku1, ku2, ku3, ku4, ku5, ku6, ku7⟩ := HXu.out.cells
    go_upto_region 11 with (fail)
    clear ks0 ks1 ks2 ks3 ks4 ks5 ks6 ks7 kt0 kt1 kt2 kt3 kt4 kt5 kt6 kt7 ku0 ku1 ku2 ku3 ku4 ku5 ku6 ku7
    have hnew : BoxAt (W10.alloc (.cells #[.int .i64 (t.kind : Int), .int .i64 t.r0, .int .i64 t.r1, .int .i64 t.r2, .int .i64 t.r3, .slice p10 n10 c10, .int .i64 t.sent, .bool t.up] 27)) W10.heap.size 27 t (.slice p10 n10 c10) := heap_alloc_new W10 _
    have hb : Bel W10 (W10.alloc (.cells #[.int .i64 (t.kind : Int), .int .i64 t.r0, .int .i64 t.r1, .int .i64 t.r2, .int .i64 t.r3, .slice p10 n10 c10, .int .i64 t.sent, .bool t.up] 27)) := (Bel.refl W10).alloc _ _
    have hge : w.heap.size ≤ W10.heap.size := HBW.out.size
    have HNsb : Hid (gs ≠ W10.heap.size) := Lib.hid (by have := lt_of_heap HXs.out; omega)
    have HNtb : Hid (gt ≠ W10.heap.size) := Lib.hid (by have := lt_of_heap HXt.out; omega)
    have HNub : Hid (gu ≠ W10.heap.size) := Lib.hid (by have := lt_of_heap HXu.out; omega)
    generalize hWW : (W10.alloc (.cells #[.int .i64 (t.kind : Int), .int .i64 t.r0, .int .i64 t.r1, .int .i64 t.r2, .int .i64 t.r3, .slice p10 n10 c10, .int .i64 t.sent, .bool t.up] 27)) = W11 at hnew hb ⊢
    clear hWW
    have HBW := Lib.hid (HBW.out.trans hb)
    have HXs := Lib.hid (HXs.out.bel hb)
    have HXt := Lib.hid (HXt.out.bel hb)
    have HXu := Lib.hid (HXu.out.bel hb)
    have HQs := Lib.hid (HQs.out.bel hb)
    have HQt := Lib.hid (HQt.out.bel hb)
    have HQu := Lib.hid (HQu.out.bel hb)
    have HQb := Lib.hid (HQb.out.bel hb)
    have HT := Lib.hid (HT.out.bel hb)
    generalize W10.heap.size = gb at hnew hge HNsb HNtb HNub ⊢
    have HXb := Lib.hid hnew
    have HGEb := Lib.hid hge
    clear hnew hb hge
    have HQb := HQb
    obtain ⟨ks0, ks1, ks2, ks3, ks4, ks5, ks6, ks7⟩ := HXs.out.cells
    obtain ⟨kt0, kt1, kt2, kt3, kt4, kt5, kt6, kt7⟩ := HXt.out.cells
    obtain ⟨ku0, ku1, ku2, ku3, ku4, ku5, ku6, ku7⟩ := HXu.out.cells
    obtain ⟨kb0, kb1, kb2, kb3, kb4, kb5, kb6, kb7⟩ := HXb.out.cells
    go_wp2_with fail
    refine (wrap_lit HM.out _).mono ?_
    rintro e w' ⟨rfl, rfl⟩
    go_wp2_with fail
    refine (samel HST.out HQt.out HQu.out OT.out).mono ?_
    rintro e W12 ⟨rfl, hb⟩
    clear ks0 ks1 ks2 ks3 ks4 ks5 ks6 ks7 kt0 kt1 kt2 kt3 kt4 kt5 kt6 kt7 ku0 ku1 ku2 ku3 ku4 ku5 ku6 ku7 kb0 kb1 kb2 kb3 kb4 kb5 kb6 kb7
    have HBW := Lib.hid (HBW.out.trans hb)
    have HXs := Lib.hid (HXs.out.bel hb)
    have HXt := Lib.hid (HXt.out.bel hb)
    have HXu := Lib.hid (HXu.out.bel hb)
    have HXb := Lib.hid (HXb.out.bel hb)
    have HQs := Lib.hid (HQs.out.bel hb)
    have HQt := Lib.hid (HQt.out.bel hb)
    have HQu := Lib.hid (HQu.out.bel hb)
    have HQb := Lib.hid (HQb.out.bel hb)
    have HT := Lib.hid (HT.out.bel hb)
    clear hb
    go_wp2
    go_ret
    exact ⟨rfl, HBW.out⟩
  · have hrk : 2 ∈ keeps d.kind := by rw [hkk]; decide
    obtain ⟨t, ht⟩ : ∃ t, wrV d 2 x = t := ⟨_, rfl⟩
    have hrr : rdV t 2 = (m, t) := by rw [← ht, ← HM.out]; exact keeps_rd OD.out hrk x
    have ot : Ok t := by rw [← ht]; exact ok_wr OD.out _ _
    have st : sameV t t = true := sameV_refl t
    have i0 : W5.cell? ⟨gs, 0, none⟩ = some (.int .i64 2) := (HXs.out.cells.1).trans (by rw [hkk]; rfl)
    have j0 : W5.cell? ⟨g0 + 1 + 1 + 1 + 1, 2, none⟩ = some (.slice (some ⟨g0 + 1 + 1, 0, none⟩) 2 2) := cell_of_heap X4.out 2
    have l0 : W5.cell? ⟨g0 + 1 + 1, 1, none⟩ = some (.int .i64 2) := cell_of_heap X2.out 1
    have HTt := Lib.hid ht
    have HRR := Lib.hid hrr
    have OT := Lib.hid ot
    have HST := Lib.hid st
    have HPK := Lib.hid hpk
    clear hrk ht hrr ot st hpk hkk
    go_upto_region 8 with (go_at_call 12; ((with_reducible refine (pick_lit HPK.out HW.out (by decide) _).mono ?_); rintro e w' ⟨rfl, rfl⟩))
    clear i0 j0 l0
    obtain ⟨ks0, ks1, ks2, ks3, ks4, ks5, ks6, ks7⟩ := HXs.out.cells
    go_wp2_with fail
    refine (write_lit2 HQs.out OD.out HTt.out).mono ?_
    rintro e W6 ⟨p6, n6, c6, rfl, hb, hq⟩
    clear ks0 ks1 ks2 ks3 ks4 ks5 ks6 ks7
    have HBW := Lib.hid (HBW.out.trans hb)
    have HXs := Lib.hid (HXs.out.bel hb)
    have HQs := Lib.hid (HQs.out.bel hb)
    have HT := Lib.hid (HT.out.bel hb)
    have HQt := Lib.hid hq
    clear hb hq
    obtain ⟨ks0, ks1, ks2, ks3, ks4, ks5, ks6, ks7⟩ := HXs.out.cells
    go_upto_region 9 with (fail)
    clear ks0 ks1 ks2 ks3 ks4 ks5 ks6 ks7
    have hnew : BoxAt (W6.alloc (.cells #[.int .i64 (t.kind : Int), .int .i64 t.r0, .int .i64 t.r1, .int .i64 t.r2, .int .i64 t.r3, .slice p6 n6 c6, .int .i64 t.sent, .bool t.up] 27)) W6.heap.size 27 t (.slice p6 n6 c6) := heap_alloc_new W6 _
    have hb : Bel W6 (W6.alloc (.cells #[.int .i64 (t.kind : Int), .int .i64 t.r0, .int .i64 t.r1, .int .i64 t.r2, .int .i64 t.r3, .slice p6 n6 c6, .int .i64 t.sent, .bool t.up] 27)) := (Bel.refl W6).alloc _ _
    have hge : w.heap.size ≤ W6.heap.size := HBW.out.size
    have HNst : Hid (gs ≠ W6.heap.size) := Lib.hid (by have := lt_of_heap HXs.out; omega)
    generalize hWW : (W6.alloc (.cells #[.int .i64 (t.kind : Int), .int .i64 t.r0, .int .i64 t.r1, .int .i64 t.r2, .int .i64 t.r3, .slice p6 n6 c6, .int .i64 t.sent, .bool t.up] 27)) = W7 at hnew hb ⊢
    clear hWW
    have HBW := Lib.hid (HBW.out.trans hb)
    have HXs := Lib.hid (HXs.out.bel hb)
    have HQs := Lib.hid (HQs.out.bel hb)
    have HQt := Lib.hid (HQt.out.bel hb)
    have HT := Lib.hid (HT.out.bel hb)
    generalize W6.heap.size = gt at hnew hge HNst ⊢
    have HXt := Lib.hid hnew
    have HGEt := Lib.hid hge
    clear hnew hb hge
    have HQt := HQt
    obtain ⟨ks0, ks1, ks2, ks3, ks4, ks5, ks6, ks7⟩ := HXs.out.cells
    obtain ⟨kt0, kt1, kt2, kt3, kt4, kt5, kt6, kt7⟩ := HXt.out.cells
    go_wp2_with fail
    refine (read_lit2 HQt.out OT.out HRR.out).mono ?_
    rintro e W8 ⟨p8, n8, c8, rfl, hb, hq⟩
    clear ks0 ks1 ks2 ks3 ks4 ks5 ks6 ks7 kt0 kt1 kt2 kt3 kt4 kt5 kt6 kt7
    have HBW := Lib.hid (HBW.out.trans hb)
    have HXs := Lib.hid (HXs.out.bel hb)
    have HXt := Lib.hid (HXt.out.bel hb)
    have HQs := Lib.hid (HQs.out.bel hb)
    have HQt := Lib.hid (HQt.out.bel hb)
    have HT := Lib.hid (HT.out.bel hb)
    have HQu := Lib.hid hq
    clear hb hq
    obtain ⟨ks0, ks1, ks2, ks3, ks4, ks5, ks6, ks7⟩ := HXs.out.cells
    obtain ⟨kt0, kt1, kt2, kt3, kt4, kt5, kt6, kt7⟩ := HXt.out.cells
    go_upto_region 10 with (fail)
    clear ks0 ks1 ks2 ks3 ks4 ks5 ks6 ks7 kt0 kt1 kt2 kt3 kt4 kt5 kt6 kt7
    have hnew : BoxAt (W8.alloc (.cells #[.int .i64 (t.kind : Int), .int .i64 t.r0, .int .i64 t.r1, .int .i64 t.r2, .int .i64 t.r3, .slice p8 n8 c8, .int .i64 t.sent, .bool t.up] 27)) W8.heap.size 27 t (.slice p8 n8 c8) := heap_alloc_new W8 _
    have hb : Bel W8 (W8.alloc (.cells #[.int .i64 (t.kind : Int), .int .i64 t.r0, .int .i64 t.r1, .int .i64 t.r2, .int .i64 t.r3, .slice p8 n8 c8, .int .i64 t.sent, .bool t.up] 27)) := (Bel.refl W8).alloc _ _
    have hge : w.heap.size ≤ W8.heap.size := HBW.out.size
    have HNsu : Hid (gs ≠ W8.heap.size) := Lib.hid (by have := lt_of_heap HXs.out; omega)
    have HNtu : Hid (gt ≠ W8.heap.size) := Lib.hid (by have := lt_of_heap HXt.out; omega)
    generalize hWW : (W8.alloc (.cells #[.int .i64 (t.kind : Int), .int .i64 t.r0, .int .i64 t.r1, .int .i64 t.r2, .int .i64 t.r3, .slice p8 n8 c8, .int .i64 t.sent, .bool t.up] 27)) = W9 at hnew hb ⊢
    clear hWW
    have HBW := Lib.hid (HBW.out.trans hb)
    have HXs := Lib.hid (HXs.out.bel hb)
    have HXt := Lib.hid (HXt.out.bel hb)
    have HQs := Lib.hid (HQs.out.bel hb)
    have HQt := Lib.hid (HQt.out.bel hb)
    have HQu := Lib.hid (HQu.out.bel hb)
    have HT := Lib.hid (HT.out.bel hb)
    generalize W8.heap.size = gu at hnew hge HNsu HNtu ⊢
    have HXu := Lib.hid hnew
    have HGEu := Lib.hid hge
    clear hnew hb hge
    have HQu := HQu
    obtain ⟨ks0, ks1, ks2, ks3, ks4, ks5, ks6, ks7⟩ := HXs.out.cells
    obtain ⟨kt0, kt1, kt2, kt3, kt4, kt5, kt6, kt7⟩ := HXt.out.cells
    obtain ⟨ku0, ku1, ku2, ku3, ku4, ku5, ku6, ku7⟩ := HXu.out.cells
    go_wp2_with fail
    refine (read_lit2 HQu.out OT.out HRR.out).mono ?_
    rintro e W10 ⟨p10, n10, c10, rfl, hb, hq⟩
    clear ks0 ks1 ks2 ks3 ks4 ks5 ks6 ks7 kt0 kt1 kt2 kt3 kt4 kt5 kt6 kt7 ku0 ku1 ku2 ku3 ku4 ku5 ku6 ku7
    have HBW := Lib.hid (HBW.out.trans hb)
    have HXs := Lib.hid (HXs.out.bel hb)
    have HXt := Lib.hid (HXt.out.bel hb)
    have HXu := Lib.hid (HXu.out.bel hb)
    have HQs := Lib.hid (HQs.out.bel hb)
    have HQt := Lib.hid (HQt.out.bel hb)
    have HQu := Lib.hid (HQu.out.bel hb)
    have HT := Lib.hid (HT.out.bel hb)
    have HQb := Lib.hid hq
    clear hb hq
    obtain ⟨ks0, ks1, ks2, ks3, ks4, ks5, ks6, ks7⟩ := HXs.out.cells
    obtain ⟨kt0, kt1, kt2, kt3, kt4, kt5, kt6, kt7⟩ := HXt.out.cells
    obtain ⟨ku0, ku1, ku2, ku3, ku4, ku5, ku6, ku7⟩ := HXu.out.cells
    go_upto_region 11 with (fail)
    clear ks0 ks1 ks2 ks3 ks4 ks5 ks6 ks7 kt0 kt1 kt2 kt3 kt4 kt5 kt6 kt7 ku0 ku1 ku2 ku3 ku4 ku5 ku6 ku7
    have hnew : BoxAt (W10.alloc (.cells #[.int .i64 (t.kind : Int), .int .i64 t.r0, .int .i64 t.r1, .int .i64 t.r2, .int .i64 t.r3, .slice p10 n10 c10, .int .i64 t.sent, .bool t.up] 27)) W10.heap.size 27 t (.slice p10 n10 c10) := heap_alloc_new W10 _
    have hb : Bel W10 (W10.alloc (.cells #[.int .i64 (t.kind : Int), .int .i64 t.r0, .int .i64 t.r1, .int .i64 t.r2, .int .i64 t.r3, .slice p10 n10 c10, .int .i64 t.sent, .bool t.up] 27)) := (Bel.refl W10).alloc _ _
    have hge : w.heap.size ≤ W10.heap.size := HBW.out.size
    have HNsb : Hid (gs ≠ W10.heap.size) := Lib.hid (by have := lt_of_heap HXs.out; omega)
    have HNtb : Hid (gt ≠ W10.heap.size) := Lib.hid (by have := lt_of_heap HXt.out; omega)
    have HNub : Hid (gu ≠ W10.heap.size) := Lib.hid (by have := lt_of_heap HXu.out; omega)
    generalize hWW : (W10.alloc (.cells #[.int .i64 (t.kind : Int), .int .i64 t.r0, .int .i64 t.r1, .int .i64 t.r2, .int .i64 t.r3, .slice p10 n10 c10, .int .i64 t.sent, .bool t.up] 27)) = W11 at hnew hb ⊢
    clear hWW
    have HBW := Lib.hid (HBW.out.trans hb)
    have HXs := Lib.hid (HXs.out.bel hb)
    have HXt := Lib.hid (HXt.out.bel hb)
    have HXu := Lib.hid (HXu.out.bel hb)
    have HQs := Lib.hid (HQs.out.bel hb)
    have HQt := Lib.hid (HQt.out.bel hb)
    have HQu := Lib.hid (HQu.out.bel hb)
    have HQb := Lib.hid (HQb.out.bel hb)
    have HT := Lib.hid (HT.out.bel hb)
    generalize W10.heap.size = gb at hnew hge HNsb HNtb HNub ⊢
    have HXb := Lib.hid hnew
    have HGEb := Lib.hid hge
    clear hnew hb hge
    have HQb := HQb
    obtain ⟨ks0, ks1, ks2, ks3, ks4, ks5, ks6, ks7⟩ := HXs.out.cells
    obtain ⟨kt0, kt1, kt2, kt3, kt4, kt5, kt6, kt7⟩ := HXt.out.cells
    obtain ⟨ku0, ku1, ku2, ku3, ku4, ku5, ku6, ku7⟩ := HXu.out.cells
    obtain ⟨kb0, kb1, kb2, kb3, kb4, kb5, kb6, kb7⟩ := HXb.out.cells
    go_wp2_with fail
    refine (wrap_lit HM.out _).mono ?_
    rintro e w' ⟨rfl, rfl⟩
    go_wp2_with fail
    refine (samel HST.out HQt.out HQu.out OT.out).mono ?_
    rintro e W12 ⟨rfl, hb⟩
    clear ks0 ks1 ks2 ks3 ks4 ks5 ks6 ks7 kt0 kt1 kt2 kt3 kt4 kt5 kt6 kt7 ku0 ku1 ku2 ku3 ku4 ku5 ku6 ku7 kb0 kb1 kb2 kb3 kb4 kb5 kb6 kb7
    have HBW := Lib.hid (HBW.out.trans hb)
    have HXs := Lib.hid (HXs.out.bel hb)
    have HXt := Lib.hid (HXt.out.bel hb)
    have HXu := Lib.hid (HXu.out.bel hb)
    have HXb := Lib.hid (HXb.out.bel hb)
    have HQs := Lib.hid (HQs.out.bel hb)
    have HQt := Lib.hid (HQt.out.bel hb)
    have HQu := Lib.hid (HQu.out.bel hb)
    have HQb := Lib.hid (HQb.out.bel hb)
    have HT := Lib.hid (HT.out.bel hb)
    clear hb
    go_wp2
    go_ret
    exact ⟨rfl, HBW.out⟩
  · have hrk : 0 ∈ keeps d.kind := by rw [hkk]; decide
    obtain ⟨t, ht⟩ : ∃ t, wrV d 0 x = t := ⟨_, rfl⟩
    have hrr : rdV t 0 = (m, t) := by rw [← ht, ← HM.out]; exact keeps_rd OD.out hrk x
    have ot : Ok t := by rw [← ht]; exact ok_wr OD.out _ _
    have st : sameV t t = true := sameV_refl t
    have i0 : W5.cell? ⟨gs, 0, none⟩ = some (.int .i64 3) := (HXs.out.cells.1).trans (by rw [hkk]; rfl)
    have j0 : W5.cell? ⟨g0 + 1 + 1 + 1 + 1, 3, none⟩ = some (.slice (some ⟨g0 + 1 + 1 + 1, 0, none⟩) 2 2) := cell_of_heap X4.out 3
    have l0 : W5.cell? ⟨g0 + 1 + 1 + 1, 0, none⟩ = some (.int .i64 0) := cell_of_heap X3.out 0
    have HTt := Lib.hid ht
    have HRR := Lib.hid hrr
    have OT := Lib.hid ot
    have HST := Lib.hid st
    have HPK := Lib.hid hpk
    clear hrk ht hrr ot st hpk hkk
    go_upto_region 8 with (go_at_call 12; ((with_reducible refine (pick_lit HPK.out HW.out (by decide) _).mono ?_); rintro e w' ⟨rfl, rfl⟩))
    clear i0 j0 l0
    obtain ⟨ks0, ks1, ks2, ks3, ks4, ks5, ks6, ks7⟩ := HXs.out.cells
    go_wp2_with fail
    refine (write_lit0 HQs.out OD.out HTt.out).mono ?_
    rintro e W6 ⟨p6, n6, c6, rfl, hb, hq⟩
    clear ks0 ks1 ks2 ks3 ks4 ks5 ks6 ks7
    have HBW := Lib.hid (HBW.out.trans hb)
    have HXs := Lib.hid (HXs.out.bel hb)
    have HQs := Lib.hid (HQs.out.bel hb)
    have HT := Lib.hid (HT.out.bel hb)
    have HQt := Lib.hid hq
    clear hb hq
    obtain ⟨ks0, ks1, ks2, ks3, ks4, ks5, ks6, ks7⟩ := HXs.out.cells
    go_upto_region 9 with (fail)
    clear ks0 ks1 ks2 ks3 ks4 ks5 ks6 ks7
    have hnew : BoxAt (W6.alloc (.cells #[.int .i64 (t.kind : Int), .int .i64 t.r0, .int .i64 t.r1, .int .i64 t.r2, .int .i64 t.r3, .slice p6 n6 c6, .int .i64 t.sent, .bool t.up] 27)) W6.heap.size 27 t (.slice p6 n6 c6) := heap_alloc_new W6 _
    have hb : Bel W6 (W6.alloc (.cells #[.int .i64 (t.kind : Int), .int .i64 t.r0, .int .i64 t.r1, .int .i64 t.r2, .int .i64 t.r3, .slice p6 n6 c6, .int .i64 t.sent, .bool t.up] 27)) := (Bel.refl W6).alloc _ _
    have hge : w.heap.size ≤ W6.heap.size := HBW.out.size
    have HNst : Hid (gs ≠ W6.heap.size) := Lib.hid (by have := lt_of_heap HXs.out; omega)
    generalize hWW : (W6.alloc (.cells #[.int .i64 (t.kind : Int), .int .i64 t.r0, .int .i64 t.r1, .int .i64 t.r2, .int .i64 t.r3, .slice p6 n6 c6, .int .i64 t.sent, .bool t.up] 27)) = W7 at hnew hb ⊢
    clear hWW
    have HBW := Lib.hid (HBW.out.trans hb)
    have HXs := Lib.hid (HXs.out.bel hb)
    have HQs := Lib.hid (HQs.out.bel hb)
    have HQt := Lib.hid (HQt.out.bel hb)
    have HT := Lib.hid (HT.out.bel hb)
    generalize W6.heap.size = gt at hnew hge HNst ⊢
    have HXt := Lib.hid hnew
    have HGEt := Lib.hid hge
    clear hnew hb hge
    have HQt := HQt
    obtain ⟨ks0, ks1, ks2, ks3, ks4, ks5, ks6, ks7⟩ := HXs.out.cells
    obtain ⟨kt0, kt1, kt2, kt3, kt4, kt5, kt6, kt7⟩ := HXt.out.cells
    go_wp2_with fail
    refine (read_lit0 HQt.out OT.out HRR.out).mono ?_
    rintro e W8 ⟨p8, n8, c8, rfl, hb, hq⟩
    clear ks0 ks1 ks2 ks3 ks4 ks5 ks6 ks7 kt0 kt1 kt2 kt3 kt4 kt5 kt6 kt7
    have HBW := Lib.hid (HBW.out.trans hb)
    have HXs := Lib.hid (HXs.out.bel hb)
    have HXt := Lib.hid (HXt.out.bel hb)
    have HQs := Lib.hid (HQs.out.bel hb)
    have HQt := Lib.hid (HQt.out.bel hb)
    have HT := Lib.hid (HT.out.bel hb)
    have HQu := Lib.hid hq
    clear hb hq
    obtain ⟨ks0, ks1, ks2, ks3, ks4, ks5, ks6, ks7⟩ := HXs.out.cells
    obtain ⟨kt0, kt1, kt2, kt3, kt4, kt5, kt6, kt7⟩ := HXt.out.cells
    go_upto_region 10 with (fail)
    clear ks0 ks1 ks2 ks3 ks4 ks5 ks6 ks7 kt0 kt1 kt2 kt3 kt4 kt5 kt6 kt7
    have hnew : BoxAt (W8.alloc (.cells #[.int .i64 (t.kind : Int), .int .i64 t.r0, .int .i64 t.r1, .int .i64 t.r2, .int .i64 t.r3, .slice p8 n8 c8, .int .i64 t.sent, .bool t.up] 27)) W8.heap.size 27 t (.slice p8 n8 c8) := heap_alloc_new W8 _
    have hb : Bel W8 (W8.alloc (.cells #[.int .i64 (t.kind : Int), .int .i64 t.r0, .int .i64 t.r1, .int .i64 t.r2, .int .i64 t.r3, .slice p8 n8 c8, .int .i64 t.sent, .bool t.up] 27)) := (Bel.refl W8).alloc _ _
    have hge : w.heap.size ≤ W8.heap.size := HBW.out.size
    have HNsu : Hid (gs ≠ W8.heap.size) := Lib.hid (by have := lt_of_heap HXs.out; omega)
    have HNtu : Hid (gt ≠ W8.heap.size) := Lib.hid (by have := lt_of_heap HXt.out; omega)
    generalize hWW : (W8.alloc (.cells #[.int .i64 (t.kind : Int), .int .i64 t.r0, .int .i64 t.r1, .int .i64 t.r2, .int .i64 t.r3, .slice p8 n8 c8, .int .i64 t.sent, .bool t.up] 27)) = W9 at hnew hb ⊢
    clear hWW
    have HBW := Lib.hid (HBW.out.trans hb)
    have HXs := Lib.hid (HXs.out.bel hb)
    have HXt := Lib.hid (HXt.out.bel hb)
    have HQs := Lib.hid (HQs.out.bel hb)
    have HQt := Lib.hid (HQt.out.bel hb)
    have HQu := Lib.hid (HQu.out.bel hb)
    have HT := Lib.hid (HT.out.bel hb)
    generalize W8.heap.size = gu at hnew hge HNsu HNtu ⊢
    have HXu := Lib.hid hnew
    have HGEu := Lib.hid hge
    clear hnew hb hge
    have HQu := HQu
    obtain ⟨ks0, ks1, ks2, ks3, ks4, ks5, ks6, ks7⟩ := HXs.out.cells
    obtain ⟨kt0, kt1, kt2, kt3, kt4, kt5, kt6, kt7⟩ := HXt.out.cells
    obtain ⟨ku0, ku1, ku2, ku3, ku4, ku5, ku6, ku7⟩ := HXu.out.cells
    go_wp2_with fail
    refine (read_lit0 HQu.out OT.out HRR.out).mono ?_
    rintro e W10 ⟨p10, n10, c10, rfl, hb, hq⟩
    clear ks0 ks1 ks2 ks3 ks4 ks5 ks6 ks7 kt0 kt1 kt2 kt3 kt4 kt5 kt6 kt7 ku0 ku1 ku2 ku3 ku4 ku5 ku6 ku7
    have HBW := Lib.hid (HBW.out.trans hb)
    have HXs := Lib.hid (HXs.out.bel hb)
    have HXt := Lib.hid (HXt.out.bel hb)
    have HXu := Lib.hid (HXu.out.bel hb)
    have HQs := Lib.hid (HQs.out.bel hb)
    have HQt := Lib.hid (HQt.out.bel hb)
    have HQu := Lib.hid (HQu.out.bel hb)
    have HT := Lib.hid (HT.out.bel hb)
    have HQb := Lib.hid hq
    clear hb hq
    obtain ⟨ks0, ks1, ks2, ks3, ks4, ks5, ks6, ks7⟩ := HXs.out.cells
    obtain ⟨kt0, kt1, kt2, kt3, kt4, kt5, kt6, kt7⟩ := HXt.out.cells
    obtain ⟨ku0, ku1, ku2, ku3, ku4, ku5, ku6, ku7⟩ := HXu.out.cells
    go_upto_region 11 with (fail)
    clear ks0 ks1 ks2 ks3 ks4 ks5 ks6 ks7 kt0 kt1 kt2 kt3 kt4 kt5 kt6 kt7 ku0 ku1 ku2 ku3 ku4 ku5 ku6 ku7
    have hnew : BoxAt (W10.alloc (.cells #[.int .i64 (t.kind : Int), .int .i64 t.r0, .int .i64 t.r1, .int .i64 t.r2, .int .i64 t.r3, .slice p10 n10 c10, .int .i64 t.sent, .bool t.up] 27)) W10.heap.size 27 t (.slice p10 n10 c10) := heap_alloc_new W10 _
    have hb : Bel W10 (W10.alloc (.cells #[.int .i64 (t.kind : Int), .int .i64 t.r0, .int .i64 t.r1, .int .i64 t.r2, .int .i64 t.r3, .slice p10 n10 c10, .int .i64 t.sent, .bool t.up] 27)) := (Bel.refl W10).alloc _ _
    have hge : w.heap.size ≤ W10.heap.size := HBW.out.size
    have HNsb : Hid (gs ≠ W10.heap.size) := Lib.hid (by have := lt_of_heap HXs.out; omega)
    have HNtb : Hid (gt ≠ W10.heap.size) := Lib.hid (by have := lt_of_heap HXt.out; omega)
    have HNub : Hid (gu ≠ W10.heap.size) := Lib.hid (by have := lt_of_heap HXu.out; omega)
    generalize hWW : (W10.alloc (.cells #[.int .i64 (t.kind : Int), .int .i64 t.r0, .int .i64 t.r1, .int .i64 t.r2, .int .i64 t.r3, .slice p10 n10 c10, .int .i64 t.sent, .bool t.up] 27)) = W11 at hnew hb ⊢
    clear hWW
    have HBW := Lib.hid (HBW.out.trans hb)
    have HXs := Lib.hid (HXs.out.bel hb)
    have HXt := Lib.hid (HXt.out.bel hb)
    have HXu := Lib.hid (HXu.out.bel hb)
    have HQs := Lib.hid (HQs.out.bel hb)
    have HQt := Lib.hid (HQt.out.bel hb)
    have HQu := Lib.hid (HQu.out.bel hb)
    have HQb := Lib.hid (HQb.out.bel hb)
    have HT := Lib.hid (HT.out.bel hb)
    generalize W10.heap.size = gb at hnew hge HNsb HNtb HNub ⊢
    have HXb := Lib.hid hnew
    have HGEb := Lib.hid hge
    clear hnew hb hge
    have HQb := HQb
    obtain ⟨ks0, ks1, ks2, ks3, ks4, ks5, ks6, ks7⟩ := HXs.out.cells
    obtain ⟨kt0, kt1, kt2, kt3, kt4, kt5, kt6, kt7⟩ := HXt.out.cells
    obtain ⟨ku0, ku1, ku2, ku3, ku4, ku5, ku6, ku7⟩ := HXu.out.cells
    obtain ⟨kb0, kb1, kb2, kb3, kb4, kb5, kb6, kb7⟩ := HXb.out.cells
    go_wp2_with fail
    refine (wrap_lit HM.out _).mono ?_
    rintro e w' ⟨rfl, rfl⟩
    go_wp2_with fail
    refine (samel HST.out HQt.out HQu.out OT.out).mono ?_
    rintro e W12 ⟨rfl, hb⟩
    clear ks0 ks1 ks2 ks3 ks4 ks5 ks6 ks7 kt0 kt1 kt2 kt3 kt4 kt5 kt6 kt7 ku0 ku1 ku2 ku3 ku4 ku5 ku6 ku7 kb0 kb1 kb2 kb3 kb4 kb5 kb6 kb7
    have HBW := Lib.hid (HBW.out.trans hb)
    have HXs := Lib.hid (HXs.out.bel hb)
    have HXt := Lib.hid (HXt.out.bel hb)
    have HXu := Lib.hid (HXu.out.bel hb)
    have HXb := Lib.hid (HXb.out.bel hb)
    have HQs := Lib.hid (HQs.out.bel hb)
    have HQt := Lib.hid (HQt.out.bel hb)
    have HQu := Lib.hid (HQu.out.bel hb)
    have HQb := Lib.hid (HQb.out.bel hb)
    have HT := Lib.hid (HT.out.bel hb)
    clear hb
    go_wp2
    go_ret
    exact ⟨rfl, HBW.out⟩
  · have hrk : 2 ∈ keeps d.kind := by rw [hkk]; decide
    obtain ⟨t, ht⟩ : ∃ t, wrV d 2 x = t := ⟨_, rfl⟩
    have hrr : rdV t 2 = (m, t) := by rw [← ht, ← HM.out]; exact keeps_rd OD.out hrk x
    have ot : Ok t := by rw [← ht]; exact ok_wr OD.out _ _
    have st : sameV t t = true := sameV_refl t
    have i0 : W5.cell? ⟨gs, 0, none⟩ = some (.int .i64 3) := (HXs.out.cells.1).trans (by rw [hkk]; rfl)
    have j0 : W5.cell? ⟨g0 + 1 + 1 + 1 + 1, 3, none⟩ = some (.slice (some ⟨g0 + 1 + 1 + 1, 0, none⟩) 2 2) := cell_of_heap X4.out 3
    have l0 : W5.cell? ⟨g0 + 1 + 1 + 1, 1, none⟩ = some (.int .i64 2) := cell_of_heap X3.out 1
    have HTt := Lib.hid ht
    have HRR := Lib.hid hrr
    have OT := Lib.hid ot
    have HST := Lib.hid st
    have HPK := Lib.hid hpk
    clear hrk ht hrr ot st hpk hkk
    go_upto_region 8 with (go_at_call 12; ((with_reducible refine (pick_lit HPK.out HW.out (by decide) _).mono ?_); rintro e w' ⟨rfl, rfl⟩))
    clear i0 j0 l0
    obtain ⟨ks0, ks1, ks2, ks3, ks4, ks5, ks6, ks7⟩ := HXs.out.cells
    go_wp2_with fail
    refine (write_lit2 HQs.out OD.out HTt.out).mono ?_
    rintro e W6 ⟨p6, n6, c6, rfl, hb, hq⟩
    clear ks0 ks1 ks2 ks3 ks4 ks5 ks6 ks7
    have HBW := Lib.hid (HBW.out.trans hb)
    have HXs := Lib.hid (HXs.out.bel hb)
    have HQs := Lib.hid (HQs.out.bel hb)
    have HT := Lib.hid (HT.out.bel hb)
    have HQt := Lib.hid hq
    clear hb hq
    obtain ⟨ks0, ks1, ks2, ks3, ks4, ks5, ks6, ks7⟩ := HXs.out.cells
    go_upto_region 9 with (fail)
    clear ks0 ks1 ks2 ks3 ks4 ks5 ks6 ks7
    have hnew : BoxAt (W6.alloc (.cells #[.int .i64 (t.kind : Int), .int .i64 t.r0, .int .i64 t.r1, .int .i64 t.r2, .int .i64 t.r3, .slice p6 n6 c6, .int .i64 t.sent, .bool t.up] 27)) W6.heap.size 27 t (.slice p6 n6 c6) := heap_alloc_new W6 _
    have hb : Bel W6 (W6.alloc (.cells #[.int .i64 (t.kind : Int), .int .i64 t.r0, .int .i64 t.r1, .int .i64 t.r2, .int .i64 t.r3, .slice p6 n6 c6, .int .i64 t.sent, .bool t.up] 27)) := (Bel.refl W6).alloc _ _
    have hge : w.heap.size ≤ W6.heap.size := HBW.out.size
    have HNst : Hid (gs ≠ W6.heap.size) := Lib.hid (by have := lt_of_heap HXs.out; omega)
    generalize hWW : (W6.alloc (.cells #[.int .i64 (t.kind : Int), .int .i64 t.r0, .int .i64 t.r1, .int .i64 t.r2, .int .i64 t.r3, .slice p6 n6 c6, .int .i64 t.sent, .bool t.up] 27)) = W7 at hnew hb ⊢
    clear hWW
    have HBW := Lib.hid (HBW.out.trans hb)
    have HXs := Lib.hid (HXs.out.bel hb)
    have HQs := Lib.hid (HQs.out.bel hb)
    have HQt := Lib.hid (HQt.out.bel hb)
    have HT := Lib.hid (HT.out.bel hb)
    generalize W6.heap.size = gt at hnew hge HNst ⊢
    have HXt := Lib.hid hnew
    have HGEt := Lib.hid hge
    clear hnew hb hge
    have HQt := HQt
    obtain ⟨ks0, ks1, ks2, ks3, ks4, ks5, ks6, ks7⟩ := HXs.out.cells
    obtain ⟨kt0, kt1, kt2, kt3, kt4, kt5, kt6, kt7⟩ := HXt.out.cells
    go_wp2_with fail
    refine (read_lit2 HQt.out OT.out HRR.out).mono ?_
    rintro e W8 ⟨p8, n8, c8, rfl, hb, hq⟩
    clear ks0 ks1 ks2 ks3 ks4 ks5 ks6 ks7 kt0 kt1 kt2 kt3 kt4 kt5 kt6 kt7
    have HBW := Lib.hid (HBW.out.trans hb)
    have HXs := Lib.hid (HXs.out.bel hb)
    have HXt := Lib.hid (HXt.out.bel hb)
    have HQs := Lib.hid (HQs.out.bel hb)
    have HQt := Lib.hid (HQt.out.bel hb)
    have HT := Lib.hid (HT.out.bel hb)
    have HQu := Lib.hid hq
    clear hb hq
    obtain ⟨ks0, ks1, ks2, ks3, ks4, ks5, ks6, ks7⟩ := HXs.out.cells
    obtain ⟨kt0, kt1, kt2, kt3, kt4, kt5, kt6, kt7⟩ := HXt.out.cells
    go_upto_region 10 with (fail)
    clear ks0 ks1 ks2 ks3 ks4 ks5 ks6 ks7 kt0 kt1 kt2 kt3 kt4 kt5 kt6 kt7
    have hnew : BoxAt (W8.alloc (.cells #[.int .i64 (t.kind : Int), .int .i64 t.r0, .int .i64 t.r1, .int .i64 t.r2, .int .i64 t.r3, .slice p8 n8 c8, .int .i64 t.sent, .bool t.up] 27)) W8.heap.size 27 t (.slice p8 n8 c8) := heap_alloc_new W8 _
    have hb : Bel W8 (W8.alloc (.cells #[.int .i64 (t.kind : Int), .int .i64 t.r0, .int .i64 t.r1, .int .i64 t.r2, .int .i64 t.r3, .slice p8 n8 c8, .int .i64 t.sent, .bool t.up] 27)) := (Bel.refl W8).alloc _ _
    have hge : w.heap.size ≤ W8.heap.size := HBW.out.size
    have HNsu : Hid (gs ≠ W8.heap.size) := Lib.hid (by have := lt_of_heap HXs.out; omega)
    have HNtu : Hid (gt ≠ W8.heap.size) := Lib.hid (by have := lt_of_heap HXt.out; omega)
    generalize hWW : (W8.alloc (.cells #[.int .i64 (t.kind : Int), .int .i64 t.r0, .int .i64 t.r1, .int .i64 t.r2, .int .i64 t.r3, .slice p8 n8 c8, .int .i64 t.sent, .bool t.up] 27)) = W9 at hnew hb ⊢
    clear hWW
    have HBW := Lib.hid (HBW.out.trans hb)
    have HXs := Lib.hid (HXs.out.bel hb)
    have HXt := Lib.hid (HXt.out.bel hb)
    have HQs := Lib.hid (HQs.out.bel hb)
    have HQt := Lib.hid (HQt.out.bel hb)
    have HQu := Lib.hid (HQu.out.bel hb)
    have HT := Lib.hid (HT.out.bel hb)
    generalize W8.heap.size = gu at hnew hge HNsu HNtu ⊢
    have HXu := Lib.hid hnew
    have HGEu := Lib.hid hge
    clear hnew hb hge
    have HQu := HQu
    obtain ⟨ks0, ks1, ks2, ks3, ks4, ks5, ks6, ks7⟩ := HXs.out.cells
    obtain ⟨kt0, kt1, kt2, kt3, kt4, kt5, kt6, kt7⟩ := HXt.out.cells
    obtain ⟨ku0, ku1, ku2, ku3, ku4, ku5, ku6, ku7⟩ := HXu.out.cells
    go_wp2_with fail
    refine (read_lit2 HQu.out OT.out HRR.out).mono ?_
    rintro e W10 ⟨p10, n10, c10, rfl, hb, hq⟩
    clear ks0 ks1 ks2 ks3 ks4 ks5 ks6 ks7 kt0 kt1 kt2 kt3 kt4 kt5 kt6 kt7 ku0 ku1 ku2 ku3 ku4 ku5 ku6 ku7
    have HBW := Lib.hid (HBW.out.trans hb)
    have HXs := Lib.hid (HXs.out.bel hb)
    have HXt := Lib.hid (HXt.out.bel hb)
    have HXu := Lib.hid (HXu.out.bel hb)
    have HQs := Lib.hid (HQs.out.bel hb)
    have HQt := Lib.hid (HQt.out.bel hb)
    have HQu := Lib.hid (HQu.out.bel hb)
    have HT := Lib.hid (HT.out.bel hb)
    have HQb := Lib.hid hq
    clear hb hq
    obtain ⟨ks0, ks1, ks2, ks3, ks4, ks5, ks6, ks7⟩ := HXs.out.cells
    obtain ⟨kt0, kt1, kt2, kt3, kt4, kt5, kt6, kt7⟩ := HXt.out.cells
    obtain ⟨ku0, ku1, ku2, ku3, ku4, ku5, ku6, ku7⟩ := HXu.out.cells
    go_upto_region 11 with (fail)
    clear ks0 ks1 ks2 ks3 ks4 ks5 ks6 ks7 kt0 kt1 kt2 kt3 kt4 kt5 kt6 kt7 ku0 ku1 ku2 ku3 ku4 ku5 ku6 ku7
    have hnew : BoxAt (W10.alloc (.cells #[.int .i64 (t.kind : Int), .int .i64 t.r0, .int .i64 t.r1, .int .i64 t.r2, .int .i64 t.r3, .slice p10 n10 c10, .int .i64 t.sent, .bool t.up] 27)) W10.heap.size 27 t (.slice p10 n10 c10) := heap_alloc_new W10 _
    have hb : Bel W10 (W10.alloc (.cells #[.int .i64 (t.kind : Int), .int .i64 t.r0, .int .i64 t.r1, .int .i64 t.r2, .int .i64 t.r3, .slice p10 n10 c10, .int .i64 t.sent, .bool t.up] 27)) := (Bel.refl W10).alloc _ _
    have hge : w.heap.size ≤ W10.heap.size := HBW.out.size
    have HNsb : Hid (gs ≠ W10.heap.size) := Lib.hid (by have := lt_of_heap HXs.out; omega)
    have HNtb : Hid (gt ≠ W10.heap.size) := Lib.hid (by have := lt_of_heap HXt.out; omega)
    have HNub : Hid (gu ≠ W10.heap.size) := Lib.hid (by have := lt_of_heap HXu.out; omega)
    generalize hWW : (W10.alloc (.cells #[.int .i64 (t.kind : Int), .int .i64 t.r0, .int .i64 t.r1, .int .i64 t.r2, .int .i64 t.r3, .slice p10 n10 c10, .int .i64 t.sent, .bool t.up] 27)) = W11 at hnew hb ⊢
    clear hWW
    have HBW := Lib.hid (HBW.out.trans hb)
    have HXs := Lib.hid (HXs.out.bel hb)
    have HXt := Lib.hid (HXt.out.bel hb)
    have HXu := Lib.hid (HXu.out.bel hb)
    have HQs := Lib.hid (HQs.out.bel hb)
    have HQt := Lib.hid (HQt.out.bel hb)
    have HQu := Lib.hid (HQu.out.bel hb)
    have HQb := Lib.hid (HQb.out.bel hb)
    have HT := Lib.hid (HT.out.bel hb)
    generalize W10.heap.size = gb at hnew hge HNsb HNtb HNub ⊢
    have HXb := Lib.hid hnew
    have HGEb := Lib.hid hge
    clear hnew hb hge
    have HQb := HQb
    obtain ⟨ks0, ks1, ks2, ks3, ks4, ks5, ks6, ks7⟩ := HXs.out.cells
    obtain ⟨kt0, kt1, kt2, kt3, kt4, kt5, kt6, kt7⟩ := HXt.out.cells
    obtain ⟨ku0, ku1, ku2, ku3, ku4, ku5, ku6, ku7⟩ := HXu.out.cells
    obtain ⟨kb0, kb1, kb2, kb3, kb4, kb5, kb6, kb7⟩ := HXb.out.cells
    go_wp2_with fail
    refine (wrap_lit HM.out _).mono ?_
    rintro e w' ⟨rfl, rfl⟩
    go_wp2_with fail
    refine (samel HST.out HQt.out HQu.out OT.out).mono ?_
    rintro e W12 ⟨rfl, hb⟩
    clear ks0 ks1 ks2 ks3 ks4 ks5 ks6 ks7 kt0 kt1 kt2 kt3 kt4 kt5 kt6 kt7 ku0 ku1 ku2 ku3 ku4 ku5 ku6 ku7 kb0 kb1 kb2 kb3 kb4 kb5 kb6 kb7
    have HBW := Lib.hid (HBW.out.trans hb)
    have HXs := Lib.hid (HXs.out.bel hb)
    have HXt := Lib.hid (HXt.out.bel hb)
    have HXu := Lib.hid (HXu.out.bel hb)
    have HXb := Lib.hid (HXb.out.bel hb)
    have HQs := Lib.hid (HQs.out.bel hb)
    have HQt := Lib.hid (HQt.out.bel hb)
    have HQu := Lib.hid (HQu.out.bel hb)
    have HQb := Lib.hid (HQb.out.bel hb)
    have HT := Lib.hid (HT.out.bel hb)
    clear hb
    go_wp2
    go_ret
    exact ⟨rfl, HBW.out⟩
end Go.Proofs.Ytbhpnoodpicdkaa
