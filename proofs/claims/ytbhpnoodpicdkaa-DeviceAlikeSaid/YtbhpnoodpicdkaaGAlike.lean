/- DeviceAlike: devices that were made and worked on alike are the same. -/
import Derived.Test.YtbhpnoodpicdkaaGMade
import Derived.Test.YtbhpnoodpicdkaaGAwk
import Derived.Deep.RegionHeld3
namespace Go.Proofs.Ytbhpnoodpicdkaa
open Go.RowKit Dv
set_option linter.unusedVariables false
set_option linter.unusedSimpArgs false
set_option maxRecDepth 100000 in
set_option maxHeartbeats 8000000 in
theorem alike_any (w : World) {kind x : Int} {P : Option Addr} {N C : Nat} {raw : List (Int × Int × Int)} (hk : inInt kind) (hn : raw.length = N) (hQ : TrisQ w P raw) (hN : N ≤ 9223372036854775807) :
    Calls Try.prog 9 #[.int .i64 kind, .slice P N C, .int .i64 x] w fun e w' => e = .returned (.bool true) ∧ Bel w w' := by
  obtain ⟨d, hd⟩ : ∃ d, madeV kind raw = d := ⟨_, rfl⟩
  have od : Ok d := by rw [← hd]; exact (made_ok kind raw).1
  obtain ⟨m, hm⟩ : ∃ m, wrap32 x = m := ⟨_, rfl⟩
  obtain ⟨t, ht⟩ : ∃ t, wrV d 2 x = t := ⟨_, rfl⟩
  have hal := alike od x
  rw [ht, hm] at hal
  obtain ⟨hrr, hsm⟩ := hal
  have ot : Ok t := by rw [← ht]; exact ok_wr od _ _
  obtain ⟨b, hb⟩ : ∃ b, (d.r2 == m) = b := ⟨_, rfl⟩
  rw [hb] at hsm
  have s1 : sameV d d = true := sameV_refl d
  have s2 : sameV t t = true := sameV_refl t
  have HD := Lib.hid hd
  have OD := Lib.hid od
  have HM := Lib.hid hm
  have HK := Lib.hid hk
  have HTt := Lib.hid ht
  have HRR := Lib.hid hrr
  have HSM := Lib.hid hsm
  have OT := Lib.hid ot
  have HB := Lib.hid hb
  have S1 := Lib.hid s1
  have S2 := Lib.hid s2
  have HT := Lib.hid hQ
  have HN := Lib.hid hn
  have HNL := Lib.hid hN
  have HBW := Lib.hid (Bel.refl w)
  clear hd od hm hk ht hrr hsm ot hb s1 s2 hQ hn hN
  go_enter Try.func9, Try.ntmps9
  go_wp2_with fail
  refine (awake_any _).mono ?_
  rintro e W1 ⟨rfl, hb⟩
  have HBW := Lib.hid (HBW.out.trans hb)
  have HT := Lib.hid (HT.out.bel hb)
  clear hb
  go_wp2_with fail
  refine (made_lit HK.out HN.out HT.out HNL.out HD.out).mono ?_
  rintro e W2 ⟨p2, n2, c2, rfl, hb, hq⟩
  have HBW := Lib.hid (HBW.out.trans hb)
  have HT := Lib.hid (HT.out.bel hb)
  have HQv := Lib.hid hq
  clear hb hq
  go_upto_region 3 with (fail)
  have hnew : BoxAt (W2.alloc (.cells #[.int .i64 (d.kind : Int), .int .i64 d.r0, .int .i64 d.r1, .int .i64 d.r2, .int .i64 d.r3, .slice p2 n2 c2, .int .i64 d.sent, .bool d.up] 27)) W2.heap.size 27 d (.slice p2 n2 c2) := heap_alloc_new W2 _
  have hb : Bel W2 (W2.alloc (.cells #[.int .i64 (d.kind : Int), .int .i64 d.r0, .int .i64 d.r1, .int .i64 d.r2, .int .i64 d.r3, .slice p2 n2 c2, .int .i64 d.sent, .bool d.up] 27)) := (Bel.refl W2).alloc _ _
  have hge : w.heap.size ≤ W2.heap.size := HBW.out.size
  generalize hWW : (W2.alloc (.cells #[.int .i64 (d.kind : Int), .int .i64 d.r0, .int .i64 d.r1, .int .i64 d.r2, .int .i64 d.r3, .slice p2 n2 c2, .int .i64 d.sent, .bool d.up] 27)) = W3 at hnew hb ⊢
  clear hWW
  have HBW := Lib.hid (HBW.out.trans hb)
  have HQv := Lib.hid (HQv.out.bel hb)
  have HT := Lib.hid (HT.out.bel hb)
  generalize W2.heap.size = gs at hnew hge  ⊢
  have HXs := Lib.hid hnew
  have HGEs := Lib.hid hge
  clear hnew hb hge
  have HQs := HQv
  go_wp2_with fail
  refine (made_lit HK.out HN.out HT.out HNL.out HD.out).mono ?_
  rintro e W4 ⟨p4, n4, c4, rfl, hb, hq⟩
  have HBW := Lib.hid (HBW.out.trans hb)
  have HXs := Lib.hid (HXs.out.bel hb)
  have HQs := Lib.hid (HQs.out.bel hb)
  have HT := Lib.hid (HT.out.bel hb)
  have HQv := Lib.hid hq
  clear hb hq
  go_upto_region 4 with (fail)
  have hnew : BoxAt (W4.alloc (.cells #[.int .i64 (d.kind : Int), .int .i64 d.r0, .int .i64 d.r1, .int .i64 d.r2, .int .i64 d.r3, .slice p4 n4 c4, .int .i64 d.sent, .bool d.up] 27)) W4.heap.size 27 d (.slice p4 n4 c4) := heap_alloc_new W4 _
  have hb : Bel W4 (W4.alloc (.cells #[.int .i64 (d.kind : Int), .int .i64 d.r0, .int .i64 d.r1, .int .i64 d.r2, .int .i64 d.r3, .slice p4 n4 c4, .int .i64 d.sent, .bool d.up] 27)) := (Bel.refl W4).alloc _ _
  have hge : w.heap.size ≤ W4.heap.size := HBW.out.size
  have HNst : Hid (gs ≠ W4.heap.size) := Lib.hid (by have := lt_of_heap HXs.out; omega)
  generalize hWW : (W4.alloc (.cells #[.int .i64 (d.kind : Int), .int .i64 d.r0, .int .i64 d.r1, .int .i64 d.r2, .int .i64 d.r3, .slice p4 n4 c4, .int .i64 d.sent, .bool d.up] 27)) = W5 at hnew hb ⊢
  clear hWW
  have HBW := Lib.hid (HBW.out.trans hb)
  have HXs := Lib.hid (HXs.out.bel hb)
  have HQs := Lib.hid (HQs.out.bel hb)
  have HQv := Lib.hid (HQv.out.bel hb)
  have HT := Lib.hid (HT.out.bel hb)
  generalize W4.heap.size = gt at hnew hge HNst ⊢
  have HXt := Lib.hid hnew
  have HGEt := Lib.hid hge
  clear hnew hb hge
  have HQt := HQv
  obtain ⟨ks0, ks1, ks2, ks3, ks4, ks5, ks6, ks7⟩ := HXs.out.cells
  obtain ⟨kt0, kt1, kt2, kt3, kt4, kt5, kt6, kt7⟩ := HXt.out.cells
  go_wp2_with fail
  refine (write_lit2 HQs.out OD.out HTt.out).mono ?_
  rintro e W6 ⟨p6, n6, c6, rfl, hb, hq⟩
  clear ks0 ks1 ks2 ks3 ks4 ks5 ks6 ks7 kt0 kt1 kt2 kt3 kt4 kt5 kt6 kt7
  have HBW := Lib.hid (HBW.out.trans hb)
  have HXs := Lib.hid (HXs.out.bel hb)
  have HXt := Lib.hid (HXt.out.bel hb)
  have HQs := Lib.hid (HQs.out.bel hb)
  have HQt := Lib.hid (HQt.out.bel hb)
  have HT := Lib.hid (HT.out.bel hb)
  have HQu := Lib.hid hq
  clear hb hq
  obtain ⟨ks0, ks1, ks2, ks3, ks4, ks5, ks6, ks7⟩ := HXs.out.cells
  obtain ⟨kt0, kt1, kt2, kt3, kt4, kt5, kt6, kt7⟩ := HXt.out.cells
  go_upto_region 5 with (fail)
  clear ks0 ks1 ks2 ks3 ks4 ks5 ks6 ks7 kt0 kt1 kt2 kt3 kt4 kt5 kt6 kt7
  have hnew : BoxAt (W6.alloc (.cells #[.int .i64 (t.kind : Int), .int .i64 t.r0, .int .i64 t.r1, .int .i64 t.r2, .int .i64 t.r3, .slice p6 n6 c6, .int .i64 t.sent, .bool t.up] 27)) W6.heap.size 27 t (.slice p6 n6 c6) := heap_alloc_new W6 _
  have hb : Bel W6 (W6.alloc (.cells #[.int .i64 (t.kind : Int), .int .i64 t.r0, .int .i64 t.r1, .int .i64 t.r2, .int .i64 t.r3, .slice p6 n6 c6, .int .i64 t.sent, .bool t.up] 27)) := (Bel.refl W6).alloc _ _
  have hge : w.heap.size ≤ W6.heap.size := HBW.out.size
  have HNsu : Hid (gs ≠ W6.heap.size) := Lib.hid (by have := lt_of_heap HXs.out; omega)
  have HNtu : Hid (gt ≠ W6.heap.size) := Lib.hid (by have := lt_of_heap HXt.out; omega)
  generalize hWW : (W6.alloc (.cells #[.int .i64 (t.kind : Int), .int .i64 t.r0, .int .i64 t.r1, .int .i64 t.r2, .int .i64 t.r3, .slice p6 n6 c6, .int .i64 t.sent, .bool t.up] 27)) = W7 at hnew hb ⊢
  clear hWW
  have HBW := Lib.hid (HBW.out.trans hb)
  have HXs := Lib.hid (HXs.out.bel hb)
  have HXt := Lib.hid (HXt.out.bel hb)
  have HQs := Lib.hid (HQs.out.bel hb)
  have HQt := Lib.hid (HQt.out.bel hb)
  have HQu := Lib.hid (HQu.out.bel hb)
  have HT := Lib.hid (HT.out.bel hb)
  generalize W6.heap.size = gu at hnew hge HNsu HNtu ⊢
  have HXu := Lib.hid hnew
  have HGEu := Lib.hid hge
  clear hnew hb hge
  have HQu := HQu
  obtain ⟨ks0, ks1, ks2, ks3, ks4, ks5, ks6, ks7⟩ := HXs.out.cells
  obtain ⟨kt0, kt1, kt2, kt3, kt4, kt5, kt6, kt7⟩ := HXt.out.cells
  obtain ⟨ku0, ku1, ku2, ku3, ku4, ku5, ku6, ku7⟩ := HXu.out.cells
  go_wp2_with fail
  refine (read_lit2 HQu.out OT.out HRR.out).mono ?_
  rintro e W8 ⟨p8, n8, c8, rfl, hb, hq⟩
  clear ks0 ks1 ks2 ks3 ks4 ks5 ks6 ks7 kt0 kt1 kt2 kt3 kt4 kt5 kt6 kt7 ku0 ku1 ku2 ku3 ku4 ku5 ku6 ku7
  have HBW := Lib.hid (HBW.out.trans hb)
  have HXs := Lib.hid (HXs.out.bel hb)
  have HXt := Lib.hid (HXt.out.bel hb)
  have HXu := Lib.hid (HXu.out.bel hb)
  have HQs := Lib.hid (HQs.out.bel hb)
  have HQt := Lib.hid (HQt.out.bel hb)
  have HQu := Lib.hid (HQu.out.bel hb)
  have HT := Lib.hid (HT.out.bel hb)
  have HQv := Lib.hid hq
  clear hb hq
  go_upto_region 6 with (fail)
  have hnew : BoxAt (W8.alloc (.cells #[.int .i64 (t.kind : Int), .int .i64 t.r0, .int .i64 t.r1, .int .i64 t.r2, .int .i64 t.r3, .slice p8 n8 c8, .int .i64 t.sent, .bool t.up] 27)) W8.heap.size 27 t (.slice p8 n8 c8) := heap_alloc_new W8 _
  have hb : Bel W8 (W8.alloc (.cells #[.int .i64 (t.kind : Int), .int .i64 t.r0, .int .i64 t.r1, .int .i64 t.r2, .int .i64 t.r3, .slice p8 n8 c8, .int .i64 t.sent, .bool t.up] 27)) := (Bel.refl W8).alloc _ _
  have hge : w.heap.size ≤ W8.heap.size := HBW.out.size
  have HNsv : Hid (gs ≠ W8.heap.size) := Lib.hid (by have := lt_of_heap HXs.out; omega)
  have HNtv : Hid (gt ≠ W8.heap.size) := Lib.hid (by have := lt_of_heap HXt.out; omega)
  have HNuv : Hid (gu ≠ W8.heap.size) := Lib.hid (by have := lt_of_heap HXu.out; omega)
  generalize hWW : (W8.alloc (.cells #[.int .i64 (t.kind : Int), .int .i64 t.r0, .int .i64 t.r1, .int .i64 t.r2, .int .i64 t.r3, .slice p8 n8 c8, .int .i64 t.sent, .bool t.up] 27)) = W9 at hnew hb ⊢
  clear hWW
  have HBW := Lib.hid (HBW.out.trans hb)
  have HXs := Lib.hid (HXs.out.bel hb)
  have HXt := Lib.hid (HXt.out.bel hb)
  have HXu := Lib.hid (HXu.out.bel hb)
  have HQs := Lib.hid (HQs.out.bel hb)
  have HQt := Lib.hid (HQt.out.bel hb)
  have HQu := Lib.hid (HQu.out.bel hb)
  have HQv := Lib.hid (HQv.out.bel hb)
  have HT := Lib.hid (HT.out.bel hb)
  generalize W8.heap.size = gv at hnew hge HNsv HNtv HNuv ⊢
  have HXv := Lib.hid hnew
  have HGEv := Lib.hid hge
  clear hnew hb hge
  have HQv := HQv
  obtain ⟨ks0, ks1, ks2, ks3, ks4, ks5, ks6, ks7⟩ := HXs.out.cells
  obtain ⟨kt0, kt1, kt2, kt3, kt4, kt5, kt6, kt7⟩ := HXt.out.cells
  obtain ⟨ku0, ku1, ku2, ku3, ku4, ku5, ku6, ku7⟩ := HXu.out.cells
  obtain ⟨kv0, kv1, kv2, kv3, kv4, kv5, kv6, kv7⟩ := HXv.out.cells
  have HBC := Lib.hid ((Bel.refl W9).drew)
  have HKEEP : Hid (∀ w', Bel W9 w' → w'.cell? ⟨gs, 0, none⟩ = some (Value.int .i64 (d.kind : Int)) ∧ w'.cell? ⟨gs, 1, none⟩ = some (.int .i64 d.r0) ∧ w'.cell? ⟨gs, 2, none⟩ = some (.int .i64 d.r1) ∧ w'.cell? ⟨gs, 3, none⟩ = some (.int .i64 d.r2) ∧ w'.cell? ⟨gs, 4, none⟩ = some (.int .i64 d.r3) ∧ w'.cell? ⟨gs, 5, none⟩ = some (.slice p2 n2 c2) ∧ w'.cell? ⟨gs, 6, none⟩ = some (.int .i64 d.sent) ∧ w'.cell? ⟨gs, 7, none⟩ = some (.bool d.up) ∧ w'.cell? ⟨gt, 0, none⟩ = some (Value.int .i64 (d.kind : Int)) ∧ w'.cell? ⟨gt, 1, none⟩ = some (.int .i64 d.r0) ∧ w'.cell? ⟨gt, 2, none⟩ = some (.int .i64 d.r1) ∧ w'.cell? ⟨gt, 3, none⟩ = some (.int .i64 d.r2) ∧ w'.cell? ⟨gt, 4, none⟩ = some (.int .i64 d.r3) ∧ w'.cell? ⟨gt, 5, none⟩ = some (.slice p4 n4 c4) ∧ w'.cell? ⟨gt, 6, none⟩ = some (.int .i64 d.sent) ∧ w'.cell? ⟨gt, 7, none⟩ = some (.bool d.up) ∧ w'.cell? ⟨gu, 0, none⟩ = some (Value.int .i64 (t.kind : Int)) ∧ w'.cell? ⟨gu, 1, none⟩ = some (.int .i64 t.r0) ∧ w'.cell? ⟨gu, 2, none⟩ = some (.int .i64 t.r1) ∧ w'.cell? ⟨gu, 3, none⟩ = some (.int .i64 t.r2) ∧ w'.cell? ⟨gu, 4, none⟩ = some (.int .i64 t.r3) ∧ w'.cell? ⟨gu, 5, none⟩ = some (.slice p6 n6 c6) ∧ w'.cell? ⟨gu, 6, none⟩ = some (.int .i64 t.sent) ∧ w'.cell? ⟨gu, 7, none⟩ = some (.bool t.up) ∧ w'.cell? ⟨gv, 0, none⟩ = some (Value.int .i64 (t.kind : Int)) ∧ w'.cell? ⟨gv, 1, none⟩ = some (.int .i64 t.r0) ∧ w'.cell? ⟨gv, 2, none⟩ = some (.int .i64 t.r1) ∧ w'.cell? ⟨gv, 3, none⟩ = some (.int .i64 t.r2) ∧ w'.cell? ⟨gv, 4, none⟩ = some (.int .i64 t.r3) ∧ w'.cell? ⟨gv, 5, none⟩ = some (.slice p8 n8 c8) ∧ w'.cell? ⟨gv, 6, none⟩ = some (.int .i64 t.sent) ∧ w'.cell? ⟨gv, 7, none⟩ = some (.bool t.up)) := Lib.hid (fun w' h => by
      obtain ⟨ks0, ks1, ks2, ks3, ks4, ks5, ks6, ks7⟩ := BoxAt.cells (HXs.out.bel h)
      obtain ⟨kt0, kt1, kt2, kt3, kt4, kt5, kt6, kt7⟩ := BoxAt.cells (HXt.out.bel h)
      obtain ⟨ku0, ku1, ku2, ku3, ku4, ku5, ku6, ku7⟩ := BoxAt.cells (HXu.out.bel h)
      obtain ⟨kv0, kv1, kv2, kv3, kv4, kv5, kv6, kv7⟩ := BoxAt.cells (HXv.out.bel h)
      exact ⟨ks0, ks1, ks2, ks3, ks4, ks5, ks6, ks7, kt0, kt1, kt2, kt3, kt4, kt5, kt6, kt7, ku0, ku1, ku2, ku3, ku4, ku5, ku6, ku7, kv0, kv1, kv2, kv3, kv4, kv5, kv6, kv7⟩)
  clear ks0 ks1 ks2 ks3 ks4 ks5 ks6 ks7 kt0 kt1 kt2 kt3 kt4 kt5 kt6 kt7 ku0 ku1 ku2 ku3 ku4 ku5 ku6 ku7 kv0 kv1 kv2 kv3 kv4 kv5 kv6 kv7
  cases b
  · have hbb := HB.out
    go_region_held3 (fun w' => w'.cell? ⟨gs, 0, none⟩ = some (Value.int .i64 (d.kind : Int)) ∧ w'.cell? ⟨gs, 1, none⟩ = some (.int .i64 d.r0) ∧ w'.cell? ⟨gs, 2, none⟩ = some (.int .i64 d.r1) ∧ w'.cell? ⟨gs, 3, none⟩ = some (.int .i64 d.r2) ∧ w'.cell? ⟨gs, 4, none⟩ = some (.int .i64 d.r3) ∧ w'.cell? ⟨gs, 5, none⟩ = some (.slice p2 n2 c2) ∧ w'.cell? ⟨gs, 6, none⟩ = some (.int .i64 d.sent) ∧ w'.cell? ⟨gs, 7, none⟩ = some (.bool d.up) ∧ w'.cell? ⟨gt, 0, none⟩ = some (Value.int .i64 (d.kind : Int)) ∧ w'.cell? ⟨gt, 1, none⟩ = some (.int .i64 d.r0) ∧ w'.cell? ⟨gt, 2, none⟩ = some (.int .i64 d.r1) ∧ w'.cell? ⟨gt, 3, none⟩ = some (.int .i64 d.r2) ∧ w'.cell? ⟨gt, 4, none⟩ = some (.int .i64 d.r3) ∧ w'.cell? ⟨gt, 5, none⟩ = some (.slice p4 n4 c4) ∧ w'.cell? ⟨gt, 6, none⟩ = some (.int .i64 d.sent) ∧ w'.cell? ⟨gt, 7, none⟩ = some (.bool d.up) ∧ w'.cell? ⟨gu, 0, none⟩ = some (Value.int .i64 (t.kind : Int)) ∧ w'.cell? ⟨gu, 1, none⟩ = some (.int .i64 t.r0) ∧ w'.cell? ⟨gu, 2, none⟩ = some (.int .i64 t.r1) ∧ w'.cell? ⟨gu, 3, none⟩ = some (.int .i64 t.r2) ∧ w'.cell? ⟨gu, 4, none⟩ = some (.int .i64 t.r3) ∧ w'.cell? ⟨gu, 5, none⟩ = some (.slice p6 n6 c6) ∧ w'.cell? ⟨gu, 6, none⟩ = some (.int .i64 t.sent) ∧ w'.cell? ⟨gu, 7, none⟩ = some (.bool t.up) ∧ w'.cell? ⟨gv, 0, none⟩ = some (Value.int .i64 (t.kind : Int)) ∧ w'.cell? ⟨gv, 1, none⟩ = some (.int .i64 t.r0) ∧ w'.cell? ⟨gv, 2, none⟩ = some (.int .i64 t.r1) ∧ w'.cell? ⟨gv, 3, none⟩ = some (.int .i64 t.r2) ∧ w'.cell? ⟨gv, 4, none⟩ = some (.int .i64 t.r3) ∧ w'.cell? ⟨gv, 5, none⟩ = some (.slice p8 n8 c8) ∧ w'.cell? ⟨gv, 6, none⟩ = some (.int .i64 t.sent) ∧ w'.cell? ⟨gv, 7, none⟩ = some (.bool t.up))
      (exact HKEEP.out _ HBC.out)
      (first | (go_at_call 15; ((with_reducible refine (wrap_lit HM.out _).mono ?_); rintro e wz ⟨rfl, rfl⟩)) | (go_at_call 16; ((with_reducible refine (samel S1.out (HQs.out.bel HBC.out) (HQt.out.bel HBC.out) OD.out).mono ?_); rintro e wz ⟨rfl, hbz⟩; have HBC := Lib.hid (HBC.out.trans hbz); clear hbz)) | (go_at_call 16; ((with_reducible refine (samel S2.out (HQu.out.bel HBC.out) (HQv.out.bel HBC.out) OT.out).mono ?_); rintro e wz ⟨rfl, hbz⟩; have HBC := Lib.hid (HBC.out.trans hbz); clear hbz)) | (go_at_call 16; ((with_reducible refine (samel HSM.out (HQs.out.bel HBC.out) (HQu.out.bel HBC.out) OD.out).mono ?_); rintro e wz ⟨rfl, hbz⟩; have HBC := Lib.hid (HBC.out.trans hbz); clear hbz)))
    all_goals
      go_wp2
      go_ret
      exact ⟨rfl, HBW.out.trans HBC.out⟩
  · have hbb := HB.out
    go_region_held3 (fun w' => w'.cell? ⟨gs, 0, none⟩ = some (Value.int .i64 (d.kind : Int)) ∧ w'.cell? ⟨gs, 1, none⟩ = some (.int .i64 d.r0) ∧ w'.cell? ⟨gs, 2, none⟩ = some (.int .i64 d.r1) ∧ w'.cell? ⟨gs, 3, none⟩ = some (.int .i64 d.r2) ∧ w'.cell? ⟨gs, 4, none⟩ = some (.int .i64 d.r3) ∧ w'.cell? ⟨gs, 5, none⟩ = some (.slice p2 n2 c2) ∧ w'.cell? ⟨gs, 6, none⟩ = some (.int .i64 d.sent) ∧ w'.cell? ⟨gs, 7, none⟩ = some (.bool d.up) ∧ w'.cell? ⟨gt, 0, none⟩ = some (Value.int .i64 (d.kind : Int)) ∧ w'.cell? ⟨gt, 1, none⟩ = some (.int .i64 d.r0) ∧ w'.cell? ⟨gt, 2, none⟩ = some (.int .i64 d.r1) ∧ w'.cell? ⟨gt, 3, none⟩ = some (.int .i64 d.r2) ∧ w'.cell? ⟨gt, 4, none⟩ = some (.int .i64 d.r3) ∧ w'.cell? ⟨gt, 5, none⟩ = some (.slice p4 n4 c4) ∧ w'.cell? ⟨gt, 6, none⟩ = some (.int .i64 d.sent) ∧ w'.cell? ⟨gt, 7, none⟩ = some (.bool d.up) ∧ w'.cell? ⟨gu, 0, none⟩ = some (Value.int .i64 (t.kind : Int)) ∧ w'.cell? ⟨gu, 1, none⟩ = some (.int .i64 t.r0) ∧ w'.cell? ⟨gu, 2, none⟩ = some (.int .i64 t.r1) ∧ w'.cell? ⟨gu, 3, none⟩ = some (.int .i64 t.r2) ∧ w'.cell? ⟨gu, 4, none⟩ = some (.int .i64 t.r3) ∧ w'.cell? ⟨gu, 5, none⟩ = some (.slice p6 n6 c6) ∧ w'.cell? ⟨gu, 6, none⟩ = some (.int .i64 t.sent) ∧ w'.cell? ⟨gu, 7, none⟩ = some (.bool t.up) ∧ w'.cell? ⟨gv, 0, none⟩ = some (Value.int .i64 (t.kind : Int)) ∧ w'.cell? ⟨gv, 1, none⟩ = some (.int .i64 t.r0) ∧ w'.cell? ⟨gv, 2, none⟩ = some (.int .i64 t.r1) ∧ w'.cell? ⟨gv, 3, none⟩ = some (.int .i64 t.r2) ∧ w'.cell? ⟨gv, 4, none⟩ = some (.int .i64 t.r3) ∧ w'.cell? ⟨gv, 5, none⟩ = some (.slice p8 n8 c8) ∧ w'.cell? ⟨gv, 6, none⟩ = some (.int .i64 t.sent) ∧ w'.cell? ⟨gv, 7, none⟩ = some (.bool t.up))
      (exact HKEEP.out _ HBC.out)
      (first | (go_at_call 15; ((with_reducible refine (wrap_lit HM.out _).mono ?_); rintro e wz ⟨rfl, rfl⟩)) | (go_at_call 16; ((with_reducible refine (samel S1.out (HQs.out.bel HBC.out) (HQt.out.bel HBC.out) OD.out).mono ?_); rintro e wz ⟨rfl, hbz⟩; have HBC := Lib.hid (HBC.out.trans hbz); clear hbz)) | (go_at_call 16; ((with_reducible refine (samel S2.out (HQu.out.bel HBC.out) (HQv.out.bel HBC.out) OT.out).mono ?_); rintro e wz ⟨rfl, hbz⟩; have HBC := Lib.hid (HBC.out.trans hbz); clear hbz)) | (go_at_call 16; ((with_reducible refine (samel HSM.out (HQs.out.bel HBC.out) (HQu.out.bel HBC.out) OD.out).mono ?_); rintro e wz ⟨rfl, hbz⟩; have HBC := Lib.hid (HBC.out.trans hbz); clear hbz)))
    all_goals
      go_wp2
      go_ret
      exact ⟨rfl, HBW.out.trans HBC.out⟩
end Go.Proofs.Ytbhpnoodpicdkaa
