/- Memories tell, and become, what the document says, step by step. -/
import Derived.Test.YtobpoghophhphaaMRy
import Derived.Test.YtobpoghophhphaaMRu
import Derived.Test.YtobpoghophhphaaMRv
import Derived.Test.YtobpoghophhphaaMRb
import Derived.Test.YtobpoghophhphaaMRc
import Derived.Test.YtobpoghophhphaaMRt
import Derived.Test.YtobpoghophhphaaMAwk
import Derived.Test.YtobpoghophhphaaMFlush
import Derived.Test.YtobpoghophhphaaMRes
import Derived.Test.YtobpoghophhphaaMNew
import Derived.Test.YtobpoghophhphaaMOpen
import Derived.Deep.QuietTactic
import Derived.BigQuiet
namespace Go.Proofs.Ytobpoghophhphaa
open Go.RowKit Mm
set_option linter.unusedVariables false
set_option linter.unusedSimpArgs false
structure RC (W : World) (b o k : Nat) (x : Q4) : Prop where
  lt : b < W.heap.size
  c0 : W.cell? ⟨b, o + k * 4, none⟩ = some (.int .i64 x.1)
  c1 : W.cell? ⟨b, o + k * 4 + 1, none⟩ = some (.int .i64 x.2.1)
  c2 : W.cell? ⟨b, o + k * 4 + 2, none⟩ = some (.int .i64 x.2.2.1)
  c3 : W.cell? ⟨b, o + k * 4 + 3, none⟩ = some (.int .i64 x.2.2.2)
theorem RC.bel {W W' : World} {b o k : Nat} {x : Q4} (h : RC W b o k x) (hb : Bel W W') : RC W' b o k x :=
  ⟨Nat.lt_of_lt_of_le h.lt hb.size, (hb.cell (p := ⟨b, _, none⟩) h.lt).trans h.c0, (hb.cell (p := ⟨b, _, none⟩) h.lt).trans h.c1, (hb.cell (p := ⟨b, _, none⟩) h.lt).trans h.c2, (hb.cell (p := ⟨b, _, none⟩) h.lt).trans h.c3⟩
theorem rres_lit {w : World} {base : Nat} {v : Mv} {m : Mem} (hm : MemAt base w v m) (ho : Ok m) {h a x : Int} {m' : Mem} {r : Int} (hr : reserveV m h a = (x, m', r)) :
    Calls Try.prog 19 #[.agg #[.slice v.w.p v.w.n v.w.c, .slice v.p.p v.p.n v.p.c, .slice v.r.p v.r.n v.r.c], .int .i64 h, .int .i64 a] w (Told3 (.int .i64 x) m' r w) := by
  unfold reserveV at hr
  by_cases ht : (isH m h && isW m a) = true
  · have hb : busy m h a = if 0 < (row m h).length then 92 else 0 := by unfold busy; rw [ht, if_pos rfl]
    rw [Bool.and_eq_true] at ht
    obtain ⟨hN, rfl⟩ : ∃ hN : Nat, h = hN := ⟨h.toNat, by have := isH_iff.1 ht.1; omega⟩
    obtain ⟨aN, rfl⟩ : ∃ aN : Nat, a = aN := ⟨a.toNat, by have := isW_iff.1 ht.2; omega⟩
    by_cases hc : 0 < (row m hN).length
    · rw [hb, if_pos hc, if_neg (by decide)] at hr
      injection hr with h1 h2; injection h2 with h2 h3; rw [← h1, ← h2, ← h3]; exact rres_2 hm ho ht.1 ht.2 hc
    · rw [hb, if_neg hc, if_pos rfl] at hr
      injection hr with h1 h2; injection h2 with h2 h3; rw [← h1, ← h2, ← h3]; exact rres_3 hm ho ht.1 ht.2 (by omega)
  · have hb : busy m h a = 1 := by unfold busy; rw [if_neg ht]
    rw [hb, if_neg (by decide)] at hr
    injection hr with h1 h2; injection h2 with h2 h3; rw [← h1, ← h2, ← h3]; exact rres_1 hm ho (Bool.eq_false_iff.2 ht)
theorem rcond_lit {w : World} {base : Nat} {v : Mv} {m : Mem} (hm : MemAt base w v m) (ho : Ok m) {h a n : Int} {x : Bool} {m' : Mem} {r : Int} (hr : condV m h a n = (x, m', r)) :
    Calls Try.prog 21 #[.agg #[.slice v.w.p v.w.n v.w.c, .slice v.p.p v.p.n v.p.c, .slice v.r.p v.r.n v.r.c], .int .i64 h, .int .i64 a, .int .i64 n] w (Told3 (.bool x) m' r w) := by
  unfold condV at hr
  by_cases ht : (isH m h && isW m a) = true
  · have hb : busy m h a = if 0 < (row m h).length then 92 else 0 := by unfold busy; rw [ht, if_pos rfl]
    rw [Bool.and_eq_true] at ht
    obtain ⟨hN, rfl⟩ : ∃ hN : Nat, h = hN := ⟨h.toNat, by have := isH_iff.1 ht.1; omega⟩
    obtain ⟨aN, rfl⟩ : ∃ aN : Nat, a = aN := ⟨a.toNat, by have := isW_iff.1 ht.2; omega⟩
    by_cases hc : 0 < (row m hN).length
    · rw [hb, if_pos hc, if_neg (by decide)] at hr
      injection hr with h1 h2; injection h2 with h2 h3; rw [← h1, ← h2, ← h3]; exact rcond_2 hm ho ht.1 ht.2 hc
    · rw [hb, if_neg hc, if_pos rfl] at hr
      injection hr with h1 h2; injection h2 with h2 h3; rw [← h3]; exact rcond_3 hm ho ht.1 ht.2 (by omega) h1 h2
  · have hb : busy m h a = 1 := by unfold busy; rw [if_neg ht]
    rw [hb, if_neg (by decide)] at hr
    injection hr with h1 h2; injection h2 with h2 h3; rw [← h1, ← h2, ← h3]; exact rcond_1 hm ho (Bool.eq_false_iff.2 ht)
set_option maxRecDepth 100000 in
set_option maxHeartbeats 16000000 in
theorem tells_any {w : World} {harts words : Int} {P : Option Addr} {N C : Nat} {raw : List Q4} (hih : inInt harts) (hiw : inInt words) (hn : raw.length = N) (hQ : TrisQ w P raw) (hN : N ≤ 9223372036854775807) :
    Calls Try.prog 3 #[.int .i64 harts, .int .i64 words, .slice P N C] w fun e w' => e = .returned (.bool true) ∧ Bel w w' := by
  have HBW : Hid (Bel w w) := Lib.hid (Bel.refl w)
  have HQ := Lib.hid hQ
  have HN := Lib.hid hn
  have HIH := Lib.hid hih
  have HIW := Lib.hid hiw
  obtain ⟨ph, hph⟩ : ∃ ph, pick harts 4 = ph := ⟨_, rfl⟩
  obtain ⟨pw, hpw⟩ : ∃ pw, pick words 5 = pw := ⟨_, rfl⟩
  have hbh := pick_bd harts (n := 4) (by omega)
  have hbw := pick_bd words (n := 5) (by omega)
  rw [hph] at hbh
  rw [hpw] at hbw
  have HPH := Lib.hid hph
  have HPW := Lib.hid hpw
  obtain ⟨m1, r1, hr1⟩ : ∃ m1 r1, newV harts words = (m1, r1) := ⟨_, _, rfl⟩
  have HR1 := Lib.hid hr1
  have HO1 : Hid (Ok m1) := Lib.hid (by have := ok_new harts words; rw [hr1] at this; exact this)
  obtain ⟨m0, r0, hr0⟩ : ∃ m0 r0, newV (1 + ph) pw = (m0, r0) := ⟨_, _, rfl⟩
  have HR0 := Lib.hid hr0
  have HO0 : Hid (Ok m0) := Lib.hid (by have := ok_new (1 + ph) pw; rw [hr0] at this; exact this)
  have HSV : Hid (sameV m1 m1 = true) := Lib.hid (sameV_refl _)
  have hree : (r1 != r1) = false := by simp
  clear hQ hn hih hiw hph hpw hr1 hr0
  go_enter Try.func3, Try.ntmps3
  go_wp2_with fail
  refine (awake_any _).mono ?_
  rintro e W1 ⟨rfl, hb⟩
  have HBW := Lib.hid (HBW.out.trans hb)
  clear hb
  go_wp2_with fail
  refine (new_lit HR1.out _).mono ?_
  rintro e W2 ⟨u1, rfl, hb, hq⟩
  have HBW := Lib.hid (HBW.out.trans hb)
  have HQu1 : Hid (MemAt 0 W2 u1 m1) := Lib.hid (hq.mono (Nat.zero_le _))
  clear hb hq
  go_upto_region 3 with (fail)
  have hnew : (W2.alloc (.cells #[.slice u1.w.p u1.w.n u1.w.c, .slice u1.p.p u1.p.n u1.p.c, .slice u1.r.p u1.r.n u1.r.c] 27)).heap[W2.heap.size]? = some (.cells #[.slice u1.w.p u1.w.n u1.w.c, .slice u1.p.p u1.p.n u1.p.c, .slice u1.r.p u1.r.n u1.r.c] 27 (0, 0)) := heap_alloc_new W2 _
  have hb : Bel W2 (W2.alloc (.cells #[.slice u1.w.p u1.w.n u1.w.c, .slice u1.p.p u1.p.n u1.p.c, .slice u1.r.p u1.r.n u1.r.c] 27)) := (Bel.refl W2).alloc _ _
  have hge : w.heap.size ≤ W2.heap.size := HBW.out.size
  generalize hWW : (W2.alloc (.cells #[.slice u1.w.p u1.w.n u1.w.c, .slice u1.p.p u1.p.n u1.p.c, .slice u1.r.p u1.r.n u1.r.c] 27)) = W3 at hnew hb ⊢
  clear hWW
  have HBW := Lib.hid (HBW.out.trans hb)
  have HQu1 := Lib.hid (HQu1.out.bel hb)
  generalize W2.heap.size = g8 at hnew hge  ⊢
  have HX8 := Lib.hid hnew
  have HGE8 := Lib.hid hge
  clear hnew hb hge
  go_wp2_with fail
  refine (rnew_lit HR1.out _).mono ?_
  rintro e W4 ⟨u2, rfl, hb, hq⟩
  have HBW := Lib.hid (HBW.out.trans hb)
  have HX8 := Lib.hid (Bel.stays hb HX8.out)
  have HQu1 := Lib.hid (HQu1.out.bel hb)
  have HQu2 : Hid (MemAt 0 W4 u2 m1) := Lib.hid (hq.mono (Nat.zero_le _))
  clear hb hq
  go_upto_region 4 with (fail)
  have hnew : (W4.alloc (.cells #[.slice u2.w.p u2.w.n u2.w.c, .slice u2.p.p u2.p.n u2.p.c, .slice u2.r.p u2.r.n u2.r.c] 27)).heap[W4.heap.size]? = some (.cells #[.slice u2.w.p u2.w.n u2.w.c, .slice u2.p.p u2.p.n u2.p.c, .slice u2.r.p u2.r.n u2.r.c] 27 (0, 0)) := heap_alloc_new W4 _
  have hb : Bel W4 (W4.alloc (.cells #[.slice u2.w.p u2.w.n u2.w.c, .slice u2.p.p u2.p.n u2.p.c, .slice u2.r.p u2.r.n u2.r.c] 27)) := (Bel.refl W4).alloc _ _
  have hge : w.heap.size ≤ W4.heap.size := HBW.out.size
  have HN810 : Hid (g8 ≠ W4.heap.size) := Lib.hid (by have := lt_of_heap HX8.out; omega)
  generalize hWW : (W4.alloc (.cells #[.slice u2.w.p u2.w.n u2.w.c, .slice u2.p.p u2.p.n u2.p.c, .slice u2.r.p u2.r.n u2.r.c] 27)) = W5 at hnew hb ⊢
  clear hWW
  have HBW := Lib.hid (HBW.out.trans hb)
  have HX8 := Lib.hid (Bel.stays hb HX8.out)
  have HQu1 := Lib.hid (HQu1.out.bel hb)
  have HQu2 := Lib.hid (HQu2.out.bel hb)
  generalize W4.heap.size = g10 at hnew hge HN810 ⊢
  have HX10 := Lib.hid hnew
  have HGE10 := Lib.hid hge
  clear hnew hb hge
  have k80 := cell_of_heap HX8.out 0
  have k81 := cell_of_heap HX8.out 1
  have k82 := cell_of_heap HX8.out 2
  have k100 := cell_of_heap HX10.out 0
  have k101 := cell_of_heap HX10.out 1
  have k102 := cell_of_heap HX10.out 2
  simp only [List.getElem?_toArray, List.getElem?_cons_zero, List.getElem?_cons_succ] at k80 k81 k82 k100 k101 k102
  go_wp2_with fail
  refine (rsame_lit HSV.out HQu1.out HQu2.out HO1.out).mono ?_
  rintro e W6 ⟨rfl, hb⟩
  clear k80 k81 k82 k100 k101 k102
  have HBW := Lib.hid (HBW.out.trans hb)
  have HX8 := Lib.hid (Bel.stays hb HX8.out)
  have HX10 := Lib.hid (Bel.stays hb HX10.out)
  have HQu1 := Lib.hid (HQu1.out.bel hb)
  have HQu2 := Lib.hid (HQu2.out.bel hb)
  clear hb
  have k80 := cell_of_heap HX8.out 0
  have k81 := cell_of_heap HX8.out 1
  have k82 := cell_of_heap HX8.out 2
  have k100 := cell_of_heap HX10.out 0
  have k101 := cell_of_heap HX10.out 1
  have k102 := cell_of_heap HX10.out 2
  simp only [List.getElem?_toArray, List.getElem?_cons_zero, List.getElem?_cons_succ] at k80 k81 k82 k100 k101 k102
  go_wp2_with fail
  refine (same_lit HSV.out HQu1.out HQu2.out HO1.out).mono ?_
  rintro e W7 ⟨rfl, hb⟩
  clear k80 k81 k82 k100 k101 k102
  have HBW := Lib.hid (HBW.out.trans hb)
  have HX8 := Lib.hid (Bel.stays hb HX8.out)
  have HX10 := Lib.hid (Bel.stays hb HX10.out)
  have HQu1 := Lib.hid (HQu1.out.bel hb)
  have HQu2 := Lib.hid (HQu2.out.bel hb)
  clear hb
  go_wp2_with (first | (go_at_call 9; ((with_reducible refine (pick_lit HPH.out HIH.out (by decide) _).mono ?_); rintro e w' ⟨rfl, rfl⟩)) | (go_at_call 9; ((with_reducible refine (pick_lit HPW.out HIW.out (by decide) _).mono ?_); rintro e w' ⟨rfl, rfl⟩)))
  refine (new_lit HR0.out _).mono ?_
  rintro e W8 ⟨v, rfl, hb, hq⟩
  have HBW := Lib.hid (HBW.out.trans hb)
  have HQv : Hid (MemAt 0 W8 v m0) := Lib.hid (hq.mono (Nat.zero_le _))
  clear hb hq
  go_upto_region 7 with (fail)
  have hnew : (W8.alloc (.cells #[.slice v.w.p v.w.n v.w.c, .slice v.p.p v.p.n v.p.c, .slice v.r.p v.r.n v.r.c] 27)).heap[W8.heap.size]? = some (.cells #[.slice v.w.p v.w.n v.w.c, .slice v.p.p v.p.n v.p.c, .slice v.r.p v.r.n v.r.c] 27 (0, 0)) := heap_alloc_new W8 _
  have hb : Bel W8 (W8.alloc (.cells #[.slice v.w.p v.w.n v.w.c, .slice v.p.p v.p.n v.p.c, .slice v.r.p v.r.n v.r.c] 27)) := (Bel.refl W8).alloc _ _
  have hge : w.heap.size ≤ W8.heap.size := HBW.out.size
  generalize hWW : (W8.alloc (.cells #[.slice v.w.p v.w.n v.w.c, .slice v.p.p v.p.n v.p.c, .slice v.r.p v.r.n v.r.c] 27)) = W9 at hnew hb ⊢
  clear hWW
  have HBW := Lib.hid (HBW.out.trans hb)
  have HQv := Lib.hid (HQv.out.bel hb)
  generalize W8.heap.size = g12 at hnew hge  ⊢
  have HX12 := Lib.hid hnew
  have HGE12 := Lib.hid hge
  clear hnew hb hge
  clear hree hbh hbw
  have HGE12' := HGE12
  go_wp2_with fail
  go_loopw [13] (fun i wr => ∃ (k : Nat) (v : Mv) (m : Mem), k ≤ N ∧ k ≤ 40 ∧ i = .int .i64 k ∧ Hid (Bel w wr) ∧ Hid (wr.heap[g12]? = some (.cells #[.slice v.w.p v.w.n v.w.c, .slice v.p.p v.p.n v.p.c, .slice v.r.p v.r.n v.r.c] 27 (0, 0))) ∧ Hid (MemAt 0 wr v m) ∧ Hid (Ok m)) (fun i _ => 40 - (intOf i).toNat)
  case atStart => exact ⟨0, v, m0, Nat.zero_le _, Nat.zero_le _, rfl, HBW, HX12, HQv, HO0⟩
  case round =>
    clear HX12 HQv HBW HO0
    obtain ⟨k, v, m, hkN, hk40, rfl, HBW, HX12, HQv, HO⟩ := hrel
    by_cases hlt : k < N
    · by_cases hl4 : k < 40
      · have hlt2 : (k : Int) < N := by omega
        have hl42 : (k : Int) < 40 := by omega
        obtain ⟨x, hx⟩ : ∃ x, raw[k]? = some x := ⟨_, List.getElem?_eq_getElem (by rw [HN.out]; exact hlt)⟩
        obtain ⟨i1, i2, i3, i4, b, o, rfl, hbl, c0, c1, c2, c3⟩ := (HQ.out.bel HBW.out) k x hx
        obtain ⟨x1, x2, x3, x4⟩ := x
        have HRC : Hid (RC wr b o k (x1, x2, x3, x4)) := Lib.hid ⟨hbl, c0, c1, c2, c3⟩
        have HI1 : Hid (inInt x1) := Lib.hid i1
        have HI2 : Hid (inInt x2) := Lib.hid i2
        have HI3 : Hid (inInt x3) := Lib.hid i3
        have HI4 : Hid (inInt x4) := Lib.hid i4
        obtain ⟨p2, hp2⟩ : ∃ p, pick x2 6 = p := ⟨_, rfl⟩
        obtain ⟨p3, hp3⟩ : ∃ p, pick x3 7 = p := ⟨_, rfl⟩
        obtain ⟨p4, hp4⟩ : ∃ p, pick x4 20 = p := ⟨_, rfl⟩
        obtain ⟨pk, hpk⟩ : ∃ p, pick x1 8 = p := ⟨_, rfl⟩
        have hb2 := pick_bd x2 (n := 6) (by omega)
        have hb3 := pick_bd x3 (n := 7) (by omega)
        have hb4 := pick_bd x4 (n := 20) (by omega)
        have hbk := pick_bd x1 (n := 8) (by omega)
        rw [hp2] at hb2
        rw [hp3] at hb3
        rw [hp4] at hb4
        rw [hpk] at hbk
        have HP2 := Lib.hid hp2
        have HP3 := Lib.hid hp3
        have HP4 := Lib.hid hp4
        have HPK := Lib.hid hpk
        have HBK := Lib.hid hbk
        have HB4 := Lib.hid hb4
        clear hx i1 i2 i3 i4 hbl c0 c1 c2 c3 hp2 hp3 hp4 hpk hbk hb4
        have c1 := HRC.out.c1
        have c2 := HRC.out.c2
        have c3 := HRC.out.c3
        simp only at c1 c2 c3
        have k120 := cell_of_heap HX12.out 0
        have k121 := cell_of_heap HX12.out 1
        have k122 := cell_of_heap HX12.out 2
        simp only [List.getElem?_toArray, List.getElem?_cons_zero, List.getElem?_cons_succ] at k120 k121 k122
        go_upto_region 15 with (first | (go_at_call 9; ((with_reducible refine (pick_lit HP2.out HI2.out (by decide) _).mono ?_); rintro e w' ⟨rfl, rfl⟩)) | (go_at_call 9; ((with_reducible refine (pick_lit HP3.out HI3.out (by decide) _).mono ?_); rintro e w' ⟨rfl, rfl⟩)))
        clear c1 c2 c3 hb2 hb3
        generalize p2 - 1 = h
        generalize p3 - 1 = a
        go_upto_region 16 with (fail)
        clear k120 k121 k122
        have hnew : (wr.alloc (.cells #[.slice v.w.p v.w.n v.w.c, .slice v.p.p v.p.n v.p.c, .slice v.r.p v.r.n v.r.c] 27)).heap[wr.heap.size]? = some (.cells #[.slice v.w.p v.w.n v.w.c, .slice v.p.p v.p.n v.p.c, .slice v.r.p v.r.n v.r.c] 27 (0, 0)) := heap_alloc_new wr _
        have hb : Bel wr (wr.alloc (.cells #[.slice v.w.p v.w.n v.w.c, .slice v.p.p v.p.n v.p.c, .slice v.r.p v.r.n v.r.c] 27)) := (Bel.refl wr).alloc _ _
        have hge : w.heap.size ≤ wr.heap.size := HBW.out.size
        have HN1219 : Hid (g12 ≠ wr.heap.size) := Lib.hid (by have := lt_of_heap HX12.out; omega)
        generalize hWW : (wr.alloc (.cells #[.slice v.w.p v.w.n v.w.c, .slice v.p.p v.p.n v.p.c, .slice v.r.p v.r.n v.r.c] 27)) = W10 at hnew hb ⊢
        clear hWW
        have HBW := Lib.hid (HBW.out.trans hb)
        have HX12 := Lib.hid (Bel.stays hb HX12.out)
        have HQv := Lib.hid (HQv.out.bel hb)
        have HRC := Lib.hid (HRC.out.bel hb)
        generalize wr.heap.size = g19 at hnew hge HN1219 ⊢
        have HX19 := Lib.hid hnew
        have HGE19 := Lib.hid hge
        clear hnew hb hge
        have k120 := cell_of_heap HX12.out 0
        have k121 := cell_of_heap HX12.out 1
        have k122 := cell_of_heap HX12.out 2
        simp only [List.getElem?_toArray, List.getElem?_cons_zero, List.getElem?_cons_succ] at k120 k121 k122
        go_upto_region 17 with (fail)
        clear k120 k121 k122
        have hnew : (W10.alloc (.cells #[.slice v.w.p v.w.n v.w.c, .slice v.p.p v.p.n v.p.c, .slice v.r.p v.r.n v.r.c] 27)).heap[W10.heap.size]? = some (.cells #[.slice v.w.p v.w.n v.w.c, .slice v.p.p v.p.n v.p.c, .slice v.r.p v.r.n v.r.c] 27 (0, 0)) := heap_alloc_new W10 _
        have hb : Bel W10 (W10.alloc (.cells #[.slice v.w.p v.w.n v.w.c, .slice v.p.p v.p.n v.p.c, .slice v.r.p v.r.n v.r.c] 27)) := (Bel.refl W10).alloc _ _
        have hge : w.heap.size ≤ W10.heap.size := HBW.out.size
        have HN1220 : Hid (g12 ≠ W10.heap.size) := Lib.hid (by have := lt_of_heap HX12.out; omega)
        have HN1920 : Hid (g19 ≠ W10.heap.size) := Lib.hid (by have := lt_of_heap HX19.out; omega)
        generalize hWW : (W10.alloc (.cells #[.slice v.w.p v.w.n v.w.c, .slice v.p.p v.p.n v.p.c, .slice v.r.p v.r.n v.r.c] 27)) = W11 at hnew hb ⊢
        clear hWW
        have HBW := Lib.hid (HBW.out.trans hb)
        have HX12 := Lib.hid (Bel.stays hb HX12.out)
        have HX19 := Lib.hid (Bel.stays hb HX19.out)
        have HQv := Lib.hid (HQv.out.bel hb)
        have HRC := Lib.hid (HRC.out.bel hb)
        generalize W10.heap.size = g20 at hnew hge HN1220 HN1920 ⊢
        have HX20 := Lib.hid hnew
        have HGE20 := Lib.hid hge
        clear hnew hb hge
        have k120 := cell_of_heap HX12.out 0
        have k121 := cell_of_heap HX12.out 1
        have k122 := cell_of_heap HX12.out 2
        simp only [List.getElem?_toArray, List.getElem?_cons_zero, List.getElem?_cons_succ] at k120 k121 k122
        have c0 := HRC.out.c0
        simp only at c0
        skip
        go_upto_block 2 with (go_at_call 9; ((with_reducible refine (pick_lit HPK.out HI1.out (by decide) _).mono ?_); rintro e w' ⟨rfl, rfl⟩))
        have hcase : pk = 0 ∨ pk = 1 ∨ pk = 2 ∨ pk = 3 ∨ pk = 4 ∨ pk = 5 ∨ pk = 6 ∨ pk = 7 := by have := HBK.out; omega
        clear HBK
        clear c0
        clear k120 k121 k122
        go_cut [9, 17, 18, 21] (fun v9 v17 v18 v21 wx => ∃ (u1 u2 : Mv) (m2 : Mem) (r xx : Int), v9 = .int .i64 r ∧ v17 = .int .i64 xx ∧ v18 = .int .i64 xx ∧ v21 = .int .i64 r ∧ Hid (Bel w wx) ∧ Hid (wx.heap[g12]? = some (.cells #[.slice v.w.p v.w.n v.w.c, .slice v.p.p v.p.n v.p.c, .slice v.r.p v.r.n v.r.c] 27 (0, 0))) ∧ Hid (wx.heap[g19]? = some (.cells #[.slice u1.w.p u1.w.n u1.w.c, .slice u1.p.p u1.p.n u1.p.c, .slice u1.r.p u1.r.n u1.r.c] 27 (0, 0))) ∧ Hid (wx.heap[g20]? = some (.cells #[.slice u2.w.p u2.w.n u2.w.c, .slice u2.p.p u2.p.n u2.p.c, .slice u2.r.p u2.r.n u2.r.c] 27 (0, 0))) ∧ Hid (MemAt 0 wx v m) ∧ Hid (MemAt 0 wx u1 m2) ∧ Hid (MemAt 0 wx u2 m2) ∧ Hid (Ok m2))
        case first =>
          rcases hcase with rfl | rfl | rfl | rfl | rfl | rfl | rfl | rfl
          · as_aux_lemma =>
            obtain ⟨xx, r, hr⟩ : ∃ xx r, loadV m h a = (xx, r) := ⟨_, _, rfl⟩
            have HO2 := HO
            have HR := Lib.hid hr
            clear hr
            have hxx : (xx != xx) = false := by simp
            have hrre : (r != r) = false := by simp
            have k120 := cell_of_heap HX12.out 0
            have k121 := cell_of_heap HX12.out 1
            have k122 := cell_of_heap HX12.out 2
            simp only [List.getElem?_toArray, List.getElem?_cons_zero, List.getElem?_cons_succ] at k120 k121 k122
            go_wp2_with fail
            refine (load_lit HQv.out HO.out HR.out).mono ?_
            rintro e W12 ⟨rfl, hb⟩
            clear k120 k121 k122
            have HBW := Lib.hid (HBW.out.trans hb)
            have HX12 := Lib.hid (Bel.stays hb HX12.out)
            have HX19 := Lib.hid (Bel.stays hb HX19.out)
            have HX20 := Lib.hid (Bel.stays hb HX20.out)
            have HQv := Lib.hid (HQv.out.bel hb)
            clear hb
            have k120 := cell_of_heap HX12.out 0
            have k121 := cell_of_heap HX12.out 1
            have k122 := cell_of_heap HX12.out 2
            simp only [List.getElem?_toArray, List.getElem?_cons_zero, List.getElem?_cons_succ] at k120 k121 k122
            go_wp2_with fail
            refine (rload_lit HQv.out HO.out HR.out).mono ?_
            rintro e W13 ⟨rfl, hb⟩
            clear k120 k121 k122
            have HBW := Lib.hid (HBW.out.trans hb)
            have HX12 := Lib.hid (Bel.stays hb HX12.out)
            have HX19 := Lib.hid (Bel.stays hb HX19.out)
            have HX20 := Lib.hid (Bel.stays hb HX20.out)
            have HQv := Lib.hid (HQv.out.bel hb)
            clear hb
            have k120 := cell_of_heap HX12.out 0
            have k121 := cell_of_heap HX12.out 1
            have k122 := cell_of_heap HX12.out 2
            simp only [List.getElem?_toArray, List.getElem?_cons_zero, List.getElem?_cons_succ] at k120 k121 k122
            go_wp2_with fail
            go_meet
            exact ⟨v, v, m, r, xx, rfl, rfl, rfl, rfl, HBW, HX12, HX19, HX20, HQv, HQv, HQv, HO2⟩
          · as_aux_lemma =>
            obtain ⟨m2, r, hr⟩ : ∃ m2 r, storeV m h a x4 = (m2, r) := ⟨_, _, rfl⟩
            have HO2 : Hid (Ok m2) := Lib.hid (by have h0 := ok_store HO.out h a x4; rw [hr] at h0; exact h0)
            have HR := Lib.hid hr
            clear hr
            have hrre : (r != r) = false := by simp
            have k120 := cell_of_heap HX12.out 0
            have k121 := cell_of_heap HX12.out 1
            have k122 := cell_of_heap HX12.out 2
            simp only [List.getElem?_toArray, List.getElem?_cons_zero, List.getElem?_cons_succ] at k120 k121 k122
            go_wp2_with fail
            refine (store_lit HQv.out HO.out HR.out).mono ?_
            rintro e W12 ⟨u1, rfl, hb, hq⟩
            clear k120 k121 k122
            have HBW := Lib.hid (HBW.out.trans hb)
            have HX12 := Lib.hid (Bel.stays hb HX12.out)
            have HX19 := Lib.hid (Bel.stays hb HX19.out)
            have HX20 := Lib.hid (Bel.stays hb HX20.out)
            have HQv := Lib.hid (HQv.out.bel hb)
            have HQu1 : Hid (MemAt 0 W12 u1 m2) := Lib.hid (hq.mono (Nat.zero_le _))
            clear hb hq
            have k120 := cell_of_heap HX12.out 0
            have k121 := cell_of_heap HX12.out 1
            have k122 := cell_of_heap HX12.out 2
            have k190 := cell_of_heap HX19.out 0
            have y190 := frozen_of_heap HX19.out 0
            have k191 := cell_of_heap HX19.out 1
            have y191 := frozen_of_heap HX19.out 1
            have k192 := cell_of_heap HX19.out 2
            have y192 := frozen_of_heap HX19.out 2
            simp only [List.getElem?_toArray, List.getElem?_cons_zero, List.getElem?_cons_succ] at k120 k121 k122 k190 k191 k192
            go_upto_region 27 with (fail)
            clear y190 y191 y192 k120 k121 k122 k190 k191 k192
            have hs3 : Svg g19 W12 (((W12.setCell ⟨g19, 0, none⟩ (.slice u1.w.p u1.w.n u1.w.c)).setCell ⟨g19, 1, none⟩ (.slice u1.p.p u1.p.n u1.p.c)).setCell ⟨g19, 2, none⟩ (.slice u1.r.p u1.r.n u1.r.c)) := set3_svg W12 g19 (.slice u1.w.p u1.w.n u1.w.c) (.slice u1.p.p u1.p.n u1.p.c) (.slice u1.r.p u1.r.n u1.r.c)
            have hh := set3_heap HX19.out (.slice u1.w.p u1.w.n u1.w.c) (.slice u1.p.p u1.p.n u1.p.c) (.slice u1.r.p u1.r.n u1.r.c)
            generalize hWW : (((W12.setCell ⟨g19, 0, none⟩ (.slice u1.w.p u1.w.n u1.w.c)).setCell ⟨g19, 1, none⟩ (.slice u1.p.p u1.p.n u1.p.c)).setCell ⟨g19, 2, none⟩ (.slice u1.r.p u1.r.n u1.r.c)) = W13 at hs3 hh ⊢
            clear hWW
            have HBW := Lib.hid (hs3.bel HBW.out HGE19.out)
            have HX12 := Lib.hid ((hs3.block _ (lt_of_heap HX12.out) HN1219.out).trans HX12.out)
            have HX20 := Lib.hid ((hs3.block _ (lt_of_heap HX20.out) HN1920.out.symm).trans HX20.out)
            have HQv := Lib.hid (HQv.out.keep hs3 HX19.out (by decide) (by decide) (by decide))
            have HQu1 := Lib.hid (HQu1.out.keep hs3 HX19.out (by decide) (by decide) (by decide))
            have HX19 := Lib.hid hh
            clear hs3 hh
            have k120 := cell_of_heap HX12.out 0
            have k121 := cell_of_heap HX12.out 1
            have k122 := cell_of_heap HX12.out 2
            simp only [List.getElem?_toArray, List.getElem?_cons_zero, List.getElem?_cons_succ] at k120 k121 k122
            go_wp2_with fail
            refine (rstore_lit HQv.out HO.out HR.out).mono ?_
            rintro e W14 ⟨u2, rfl, hb, hq⟩
            clear k120 k121 k122
            have HBW := Lib.hid (HBW.out.trans hb)
            have HX12 := Lib.hid (Bel.stays hb HX12.out)
            have HX19 := Lib.hid (Bel.stays hb HX19.out)
            have HX20 := Lib.hid (Bel.stays hb HX20.out)
            have HQv := Lib.hid (HQv.out.bel hb)
            have HQu1 := Lib.hid (HQu1.out.bel hb)
            have HQu2 : Hid (MemAt 0 W14 u2 m2) := Lib.hid (hq.mono (Nat.zero_le _))
            clear hb hq
            have k120 := cell_of_heap HX12.out 0
            have k121 := cell_of_heap HX12.out 1
            have k122 := cell_of_heap HX12.out 2
            have k200 := cell_of_heap HX20.out 0
            have y200 := frozen_of_heap HX20.out 0
            have k201 := cell_of_heap HX20.out 1
            have y201 := frozen_of_heap HX20.out 1
            have k202 := cell_of_heap HX20.out 2
            have y202 := frozen_of_heap HX20.out 2
            simp only [List.getElem?_toArray, List.getElem?_cons_zero, List.getElem?_cons_succ] at k120 k121 k122 k200 k201 k202
            go_wp2_with fail
            go_meet
            have hs3 : Svg g20 W14 (((W14.setCell ⟨g20, 0, none⟩ (.slice u2.w.p u2.w.n u2.w.c)).setCell ⟨g20, 1, none⟩ (.slice u2.p.p u2.p.n u2.p.c)).setCell ⟨g20, 2, none⟩ (.slice u2.r.p u2.r.n u2.r.c)) := set3_svg W14 g20 (.slice u2.w.p u2.w.n u2.w.c) (.slice u2.p.p u2.p.n u2.p.c) (.slice u2.r.p u2.r.n u2.r.c)
            have hh := set3_heap HX20.out (.slice u2.w.p u2.w.n u2.w.c) (.slice u2.p.p u2.p.n u2.p.c) (.slice u2.r.p u2.r.n u2.r.c)
            have HBW := Lib.hid (hs3.bel HBW.out HGE20.out)
            have HX12 := Lib.hid ((hs3.block _ (lt_of_heap HX12.out) HN1220.out).trans HX12.out)
            have HX19 := Lib.hid ((hs3.block _ (lt_of_heap HX19.out) HN1920.out).trans HX19.out)
            have HQv := Lib.hid (HQv.out.keep hs3 HX20.out (by decide) (by decide) (by decide))
            have HQu1 := Lib.hid (HQu1.out.keep hs3 HX20.out (by decide) (by decide) (by decide))
            have HQu2 := Lib.hid (HQu2.out.keep hs3 HX20.out (by decide) (by decide) (by decide))
            have HX20 := Lib.hid hh
            clear hs3 hh
            exact ⟨u1, u2, m2, r, 0, rfl, rfl, rfl, rfl, HBW, HX12, HX19, HX20, HQv, HQu1, HQu2, HO2⟩
          · as_aux_lemma =>
            obtain ⟨m2, r, hr⟩ : ∃ m2 r, storeV m h a x4 = (m2, r) := ⟨_, _, rfl⟩
            have HO2 : Hid (Ok m2) := Lib.hid (by have h0 := ok_store HO.out h a x4; rw [hr] at h0; exact h0)
            have HR := Lib.hid hr
            clear hr
            have hrre : (r != r) = false := by simp
            have k120 := cell_of_heap HX12.out 0
            have k121 := cell_of_heap HX12.out 1
            have k122 := cell_of_heap HX12.out 2
            simp only [List.getElem?_toArray, List.getElem?_cons_zero, List.getElem?_cons_succ] at k120 k121 k122
            go_wp2_with fail
            refine (store_lit HQv.out HO.out HR.out).mono ?_
            rintro e W12 ⟨u1, rfl, hb, hq⟩
            clear k120 k121 k122
            have HBW := Lib.hid (HBW.out.trans hb)
            have HX12 := Lib.hid (Bel.stays hb HX12.out)
            have HX19 := Lib.hid (Bel.stays hb HX19.out)
            have HX20 := Lib.hid (Bel.stays hb HX20.out)
            have HQv := Lib.hid (HQv.out.bel hb)
            have HQu1 : Hid (MemAt 0 W12 u1 m2) := Lib.hid (hq.mono (Nat.zero_le _))
            clear hb hq
            have k120 := cell_of_heap HX12.out 0
            have k121 := cell_of_heap HX12.out 1
            have k122 := cell_of_heap HX12.out 2
            have k190 := cell_of_heap HX19.out 0
            have y190 := frozen_of_heap HX19.out 0
            have k191 := cell_of_heap HX19.out 1
            have y191 := frozen_of_heap HX19.out 1
            have k192 := cell_of_heap HX19.out 2
            have y192 := frozen_of_heap HX19.out 2
            simp only [List.getElem?_toArray, List.getElem?_cons_zero, List.getElem?_cons_succ] at k120 k121 k122 k190 k191 k192
            go_upto_region 27 with (fail)
            clear y190 y191 y192 k120 k121 k122 k190 k191 k192
            have hs3 : Svg g19 W12 (((W12.setCell ⟨g19, 0, none⟩ (.slice u1.w.p u1.w.n u1.w.c)).setCell ⟨g19, 1, none⟩ (.slice u1.p.p u1.p.n u1.p.c)).setCell ⟨g19, 2, none⟩ (.slice u1.r.p u1.r.n u1.r.c)) := set3_svg W12 g19 (.slice u1.w.p u1.w.n u1.w.c) (.slice u1.p.p u1.p.n u1.p.c) (.slice u1.r.p u1.r.n u1.r.c)
            have hh := set3_heap HX19.out (.slice u1.w.p u1.w.n u1.w.c) (.slice u1.p.p u1.p.n u1.p.c) (.slice u1.r.p u1.r.n u1.r.c)
            generalize hWW : (((W12.setCell ⟨g19, 0, none⟩ (.slice u1.w.p u1.w.n u1.w.c)).setCell ⟨g19, 1, none⟩ (.slice u1.p.p u1.p.n u1.p.c)).setCell ⟨g19, 2, none⟩ (.slice u1.r.p u1.r.n u1.r.c)) = W13 at hs3 hh ⊢
            clear hWW
            have HBW := Lib.hid (hs3.bel HBW.out HGE19.out)
            have HX12 := Lib.hid ((hs3.block _ (lt_of_heap HX12.out) HN1219.out).trans HX12.out)
            have HX20 := Lib.hid ((hs3.block _ (lt_of_heap HX20.out) HN1920.out.symm).trans HX20.out)
            have HQv := Lib.hid (HQv.out.keep hs3 HX19.out (by decide) (by decide) (by decide))
            have HQu1 := Lib.hid (HQu1.out.keep hs3 HX19.out (by decide) (by decide) (by decide))
            have HX19 := Lib.hid hh
            clear hs3 hh
            have k120 := cell_of_heap HX12.out 0
            have k121 := cell_of_heap HX12.out 1
            have k122 := cell_of_heap HX12.out 2
            simp only [List.getElem?_toArray, List.getElem?_cons_zero, List.getElem?_cons_succ] at k120 k121 k122
            go_wp2_with fail
            refine (rstore_lit HQv.out HO.out HR.out).mono ?_
            rintro e W14 ⟨u2, rfl, hb, hq⟩
            clear k120 k121 k122
            have HBW := Lib.hid (HBW.out.trans hb)
            have HX12 := Lib.hid (Bel.stays hb HX12.out)
            have HX19 := Lib.hid (Bel.stays hb HX19.out)
            have HX20 := Lib.hid (Bel.stays hb HX20.out)
            have HQv := Lib.hid (HQv.out.bel hb)
            have HQu1 := Lib.hid (HQu1.out.bel hb)
            have HQu2 : Hid (MemAt 0 W14 u2 m2) := Lib.hid (hq.mono (Nat.zero_le _))
            clear hb hq
            have k120 := cell_of_heap HX12.out 0
            have k121 := cell_of_heap HX12.out 1
            have k122 := cell_of_heap HX12.out 2
            have k200 := cell_of_heap HX20.out 0
            have y200 := frozen_of_heap HX20.out 0
            have k201 := cell_of_heap HX20.out 1
            have y201 := frozen_of_heap HX20.out 1
            have k202 := cell_of_heap HX20.out 2
            have y202 := frozen_of_heap HX20.out 2
            simp only [List.getElem?_toArray, List.getElem?_cons_zero, List.getElem?_cons_succ] at k120 k121 k122 k200 k201 k202
            go_wp2_with fail
            go_meet
            have hs3 : Svg g20 W14 (((W14.setCell ⟨g20, 0, none⟩ (.slice u2.w.p u2.w.n u2.w.c)).setCell ⟨g20, 1, none⟩ (.slice u2.p.p u2.p.n u2.p.c)).setCell ⟨g20, 2, none⟩ (.slice u2.r.p u2.r.n u2.r.c)) := set3_svg W14 g20 (.slice u2.w.p u2.w.n u2.w.c) (.slice u2.p.p u2.p.n u2.p.c) (.slice u2.r.p u2.r.n u2.r.c)
            have hh := set3_heap HX20.out (.slice u2.w.p u2.w.n u2.w.c) (.slice u2.p.p u2.p.n u2.p.c) (.slice u2.r.p u2.r.n u2.r.c)
            have HBW := Lib.hid (hs3.bel HBW.out HGE20.out)
            have HX12 := Lib.hid ((hs3.block _ (lt_of_heap HX12.out) HN1220.out).trans HX12.out)
            have HX19 := Lib.hid ((hs3.block _ (lt_of_heap HX19.out) HN1920.out).trans HX19.out)
            have HQv := Lib.hid (HQv.out.keep hs3 HX20.out (by decide) (by decide) (by decide))
            have HQu1 := Lib.hid (HQu1.out.keep hs3 HX20.out (by decide) (by decide) (by decide))
            have HQu2 := Lib.hid (HQu2.out.keep hs3 HX20.out (by decide) (by decide) (by decide))
            have HX20 := Lib.hid hh
            clear hs3 hh
            exact ⟨u1, u2, m2, r, 0, rfl, rfl, rfl, rfl, HBW, HX12, HX19, HX20, HQv, HQu1, HQu2, HO2⟩
          · as_aux_lemma =>
            obtain ⟨m2, r, hr⟩ : ∃ m2 r, drainV m h a = (m2, r) := ⟨_, _, rfl⟩
            have HO2 : Hid (Ok m2) := Lib.hid (by have h0 := ok_drain HO.out h a; rw [hr] at h0; exact h0)
            have HR := Lib.hid hr
            clear hr
            have hrre : (r != r) = false := by simp
            have k120 := cell_of_heap HX12.out 0
            have k121 := cell_of_heap HX12.out 1
            have k122 := cell_of_heap HX12.out 2
            simp only [List.getElem?_toArray, List.getElem?_cons_zero, List.getElem?_cons_succ] at k120 k121 k122
            go_wp2_with fail
            refine (drain_lit HQv.out HO.out HR.out).mono ?_
            rintro e W12 ⟨u1, rfl, hb, hq⟩
            clear k120 k121 k122
            have HBW := Lib.hid (HBW.out.trans hb)
            have HX12 := Lib.hid (Bel.stays hb HX12.out)
            have HX19 := Lib.hid (Bel.stays hb HX19.out)
            have HX20 := Lib.hid (Bel.stays hb HX20.out)
            have HQv := Lib.hid (HQv.out.bel hb)
            have HQu1 : Hid (MemAt 0 W12 u1 m2) := Lib.hid (hq.mono (Nat.zero_le _))
            clear hb hq
            have k120 := cell_of_heap HX12.out 0
            have k121 := cell_of_heap HX12.out 1
            have k122 := cell_of_heap HX12.out 2
            have k190 := cell_of_heap HX19.out 0
            have y190 := frozen_of_heap HX19.out 0
            have k191 := cell_of_heap HX19.out 1
            have y191 := frozen_of_heap HX19.out 1
            have k192 := cell_of_heap HX19.out 2
            have y192 := frozen_of_heap HX19.out 2
            simp only [List.getElem?_toArray, List.getElem?_cons_zero, List.getElem?_cons_succ] at k120 k121 k122 k190 k191 k192
            go_upto_region 30 with (fail)
            clear y190 y191 y192 k120 k121 k122 k190 k191 k192
            have hs3 : Svg g19 W12 (((W12.setCell ⟨g19, 0, none⟩ (.slice u1.w.p u1.w.n u1.w.c)).setCell ⟨g19, 1, none⟩ (.slice u1.p.p u1.p.n u1.p.c)).setCell ⟨g19, 2, none⟩ (.slice u1.r.p u1.r.n u1.r.c)) := set3_svg W12 g19 (.slice u1.w.p u1.w.n u1.w.c) (.slice u1.p.p u1.p.n u1.p.c) (.slice u1.r.p u1.r.n u1.r.c)
            have hh := set3_heap HX19.out (.slice u1.w.p u1.w.n u1.w.c) (.slice u1.p.p u1.p.n u1.p.c) (.slice u1.r.p u1.r.n u1.r.c)
            generalize hWW : (((W12.setCell ⟨g19, 0, none⟩ (.slice u1.w.p u1.w.n u1.w.c)).setCell ⟨g19, 1, none⟩ (.slice u1.p.p u1.p.n u1.p.c)).setCell ⟨g19, 2, none⟩ (.slice u1.r.p u1.r.n u1.r.c)) = W13 at hs3 hh ⊢
            clear hWW
            have HBW := Lib.hid (hs3.bel HBW.out HGE19.out)
            have HX12 := Lib.hid ((hs3.block _ (lt_of_heap HX12.out) HN1219.out).trans HX12.out)
            have HX20 := Lib.hid ((hs3.block _ (lt_of_heap HX20.out) HN1920.out.symm).trans HX20.out)
            have HQv := Lib.hid (HQv.out.keep hs3 HX19.out (by decide) (by decide) (by decide))
            have HQu1 := Lib.hid (HQu1.out.keep hs3 HX19.out (by decide) (by decide) (by decide))
            have HX19 := Lib.hid hh
            clear hs3 hh
            have k120 := cell_of_heap HX12.out 0
            have k121 := cell_of_heap HX12.out 1
            have k122 := cell_of_heap HX12.out 2
            simp only [List.getElem?_toArray, List.getElem?_cons_zero, List.getElem?_cons_succ] at k120 k121 k122
            go_wp2_with fail
            refine (rdrain_lit HQv.out HO.out HR.out).mono ?_
            rintro e W14 ⟨u2, rfl, hb, hq⟩
            clear k120 k121 k122
            have HBW := Lib.hid (HBW.out.trans hb)
            have HX12 := Lib.hid (Bel.stays hb HX12.out)
            have HX19 := Lib.hid (Bel.stays hb HX19.out)
            have HX20 := Lib.hid (Bel.stays hb HX20.out)
            have HQv := Lib.hid (HQv.out.bel hb)
            have HQu1 := Lib.hid (HQu1.out.bel hb)
            have HQu2 : Hid (MemAt 0 W14 u2 m2) := Lib.hid (hq.mono (Nat.zero_le _))
            clear hb hq
            have k120 := cell_of_heap HX12.out 0
            have k121 := cell_of_heap HX12.out 1
            have k122 := cell_of_heap HX12.out 2
            have k200 := cell_of_heap HX20.out 0
            have y200 := frozen_of_heap HX20.out 0
            have k201 := cell_of_heap HX20.out 1
            have y201 := frozen_of_heap HX20.out 1
            have k202 := cell_of_heap HX20.out 2
            have y202 := frozen_of_heap HX20.out 2
            simp only [List.getElem?_toArray, List.getElem?_cons_zero, List.getElem?_cons_succ] at k120 k121 k122 k200 k201 k202
            go_wp2_with fail
            go_meet
            have hs3 : Svg g20 W14 (((W14.setCell ⟨g20, 0, none⟩ (.slice u2.w.p u2.w.n u2.w.c)).setCell ⟨g20, 1, none⟩ (.slice u2.p.p u2.p.n u2.p.c)).setCell ⟨g20, 2, none⟩ (.slice u2.r.p u2.r.n u2.r.c)) := set3_svg W14 g20 (.slice u2.w.p u2.w.n u2.w.c) (.slice u2.p.p u2.p.n u2.p.c) (.slice u2.r.p u2.r.n u2.r.c)
            have hh := set3_heap HX20.out (.slice u2.w.p u2.w.n u2.w.c) (.slice u2.p.p u2.p.n u2.p.c) (.slice u2.r.p u2.r.n u2.r.c)
            have HBW := Lib.hid (hs3.bel HBW.out HGE20.out)
            have HX12 := Lib.hid ((hs3.block _ (lt_of_heap HX12.out) HN1220.out).trans HX12.out)
            have HX19 := Lib.hid ((hs3.block _ (lt_of_heap HX19.out) HN1920.out).trans HX19.out)
            have HQv := Lib.hid (HQv.out.keep hs3 HX20.out (by decide) (by decide) (by decide))
            have HQu1 := Lib.hid (HQu1.out.keep hs3 HX20.out (by decide) (by decide) (by decide))
            have HQu2 := Lib.hid (HQu2.out.keep hs3 HX20.out (by decide) (by decide) (by decide))
            have HX20 := Lib.hid hh
            clear hs3 hh
            exact ⟨u1, u2, m2, r, 0, rfl, rfl, rfl, rfl, HBW, HX12, HX19, HX20, HQv, HQu1, HQu2, HO2⟩
          · as_aux_lemma =>
            obtain ⟨m2, r, hr⟩ : ∃ m2 r, flushV m h = (m2, r) := ⟨_, _, rfl⟩
            have HO2 : Hid (Ok m2) := Lib.hid (by have h0 := ok_flush HO.out h; rw [hr] at h0; exact h0)
            have HR := Lib.hid hr
            clear hr
            have hrre : (r != r) = false := by simp
            have k120 := cell_of_heap HX12.out 0
            have k121 := cell_of_heap HX12.out 1
            have k122 := cell_of_heap HX12.out 2
            simp only [List.getElem?_toArray, List.getElem?_cons_zero, List.getElem?_cons_succ] at k120 k121 k122
            go_wp2_with fail
            refine (flush_lit HQv.out HO.out HR.out).mono ?_
            rintro e W12 ⟨u1, rfl, hb, hq⟩
            clear k120 k121 k122
            have HBW := Lib.hid (HBW.out.trans hb)
            have HX12 := Lib.hid (Bel.stays hb HX12.out)
            have HX19 := Lib.hid (Bel.stays hb HX19.out)
            have HX20 := Lib.hid (Bel.stays hb HX20.out)
            have HQv := Lib.hid (HQv.out.bel hb)
            have HQu1 : Hid (MemAt 0 W12 u1 m2) := Lib.hid (hq.mono (Nat.zero_le _))
            clear hb hq
            have k120 := cell_of_heap HX12.out 0
            have k121 := cell_of_heap HX12.out 1
            have k122 := cell_of_heap HX12.out 2
            have k190 := cell_of_heap HX19.out 0
            have y190 := frozen_of_heap HX19.out 0
            have k191 := cell_of_heap HX19.out 1
            have y191 := frozen_of_heap HX19.out 1
            have k192 := cell_of_heap HX19.out 2
            have y192 := frozen_of_heap HX19.out 2
            simp only [List.getElem?_toArray, List.getElem?_cons_zero, List.getElem?_cons_succ] at k120 k121 k122 k190 k191 k192
            go_upto_region 33 with (fail)
            clear y190 y191 y192 k120 k121 k122 k190 k191 k192
            have hs3 : Svg g19 W12 (((W12.setCell ⟨g19, 0, none⟩ (.slice u1.w.p u1.w.n u1.w.c)).setCell ⟨g19, 1, none⟩ (.slice u1.p.p u1.p.n u1.p.c)).setCell ⟨g19, 2, none⟩ (.slice u1.r.p u1.r.n u1.r.c)) := set3_svg W12 g19 (.slice u1.w.p u1.w.n u1.w.c) (.slice u1.p.p u1.p.n u1.p.c) (.slice u1.r.p u1.r.n u1.r.c)
            have hh := set3_heap HX19.out (.slice u1.w.p u1.w.n u1.w.c) (.slice u1.p.p u1.p.n u1.p.c) (.slice u1.r.p u1.r.n u1.r.c)
            generalize hWW : (((W12.setCell ⟨g19, 0, none⟩ (.slice u1.w.p u1.w.n u1.w.c)).setCell ⟨g19, 1, none⟩ (.slice u1.p.p u1.p.n u1.p.c)).setCell ⟨g19, 2, none⟩ (.slice u1.r.p u1.r.n u1.r.c)) = W13 at hs3 hh ⊢
            clear hWW
            have HBW := Lib.hid (hs3.bel HBW.out HGE19.out)
            have HX12 := Lib.hid ((hs3.block _ (lt_of_heap HX12.out) HN1219.out).trans HX12.out)
            have HX20 := Lib.hid ((hs3.block _ (lt_of_heap HX20.out) HN1920.out.symm).trans HX20.out)
            have HQv := Lib.hid (HQv.out.keep hs3 HX19.out (by decide) (by decide) (by decide))
            have HQu1 := Lib.hid (HQu1.out.keep hs3 HX19.out (by decide) (by decide) (by decide))
            have HX19 := Lib.hid hh
            clear hs3 hh
            have k120 := cell_of_heap HX12.out 0
            have k121 := cell_of_heap HX12.out 1
            have k122 := cell_of_heap HX12.out 2
            simp only [List.getElem?_toArray, List.getElem?_cons_zero, List.getElem?_cons_succ] at k120 k121 k122
            go_wp2_with fail
            refine (rflush_lit HQv.out HO.out HR.out).mono ?_
            rintro e W14 ⟨u2, rfl, hb, hq⟩
            clear k120 k121 k122
            have HBW := Lib.hid (HBW.out.trans hb)
            have HX12 := Lib.hid (Bel.stays hb HX12.out)
            have HX19 := Lib.hid (Bel.stays hb HX19.out)
            have HX20 := Lib.hid (Bel.stays hb HX20.out)
            have HQv := Lib.hid (HQv.out.bel hb)
            have HQu1 := Lib.hid (HQu1.out.bel hb)
            have HQu2 : Hid (MemAt 0 W14 u2 m2) := Lib.hid (hq.mono (Nat.zero_le _))
            clear hb hq
            have k120 := cell_of_heap HX12.out 0
            have k121 := cell_of_heap HX12.out 1
            have k122 := cell_of_heap HX12.out 2
            have k200 := cell_of_heap HX20.out 0
            have y200 := frozen_of_heap HX20.out 0
            have k201 := cell_of_heap HX20.out 1
            have y201 := frozen_of_heap HX20.out 1
            have k202 := cell_of_heap HX20.out 2
            have y202 := frozen_of_heap HX20.out 2
            simp only [List.getElem?_toArray, List.getElem?_cons_zero, List.getElem?_cons_succ] at k120 k121 k122 k200 k201 k202
            go_wp2_with fail
            go_meet
            have hs3 : Svg g20 W14 (((W14.setCell ⟨g20, 0, none⟩ (.slice u2.w.p u2.w.n u2.w.c)).setCell ⟨g20, 1, none⟩ (.slice u2.p.p u2.p.n u2.p.c)).setCell ⟨g20, 2, none⟩ (.slice u2.r.p u2.r.n u2.r.c)) := set3_svg W14 g20 (.slice u2.w.p u2.w.n u2.w.c) (.slice u2.p.p u2.p.n u2.p.c) (.slice u2.r.p u2.r.n u2.r.c)
            have hh := set3_heap HX20.out (.slice u2.w.p u2.w.n u2.w.c) (.slice u2.p.p u2.p.n u2.p.c) (.slice u2.r.p u2.r.n u2.r.c)
            have HBW := Lib.hid (hs3.bel HBW.out HGE20.out)
            have HX12 := Lib.hid ((hs3.block _ (lt_of_heap HX12.out) HN1220.out).trans HX12.out)
            have HX19 := Lib.hid ((hs3.block _ (lt_of_heap HX19.out) HN1920.out).trans HX19.out)
            have HQv := Lib.hid (HQv.out.keep hs3 HX20.out (by decide) (by decide) (by decide))
            have HQu1 := Lib.hid (HQu1.out.keep hs3 HX20.out (by decide) (by decide) (by decide))
            have HQu2 := Lib.hid (HQu2.out.keep hs3 HX20.out (by decide) (by decide) (by decide))
            have HX20 := Lib.hid hh
            clear hs3 hh
            exact ⟨u1, u2, m2, r, 0, rfl, rfl, rfl, rfl, HBW, HX12, HX19, HX20, HQv, HQu1, HQu2, HO2⟩
          · as_aux_lemma =>
            obtain ⟨qq, m2, r, hr⟩ : ∃ qq m2 r, reserveV m h a = (qq, m2, r) := ⟨_, _, _, rfl⟩
            have HO2 : Hid (Ok m2) := Lib.hid (by have h0 := ok_reserve HO.out h a; rw [hr] at h0; exact h0)
            have HR := Lib.hid hr
            clear hr
            have hxx : (qq != qq) = false := by simp
            have hrre : (r != r) = false := by simp
            have k120 := cell_of_heap HX12.out 0
            have k121 := cell_of_heap HX12.out 1
            have k122 := cell_of_heap HX12.out 2
            simp only [List.getElem?_toArray, List.getElem?_cons_zero, List.getElem?_cons_succ] at k120 k121 k122
            go_wp2_with fail
            refine (reserve_lit HQv.out HO.out HR.out).mono ?_
            rintro e W12 ⟨u1, rfl, hb, hq⟩
            clear k120 k121 k122
            have HBW := Lib.hid (HBW.out.trans hb)
            have HX12 := Lib.hid (Bel.stays hb HX12.out)
            have HX19 := Lib.hid (Bel.stays hb HX19.out)
            have HX20 := Lib.hid (Bel.stays hb HX20.out)
            have HQv := Lib.hid (HQv.out.bel hb)
            have HQu1 : Hid (MemAt 0 W12 u1 m2) := Lib.hid (hq.mono (Nat.zero_le _))
            clear hb hq
            have k120 := cell_of_heap HX12.out 0
            have k121 := cell_of_heap HX12.out 1
            have k122 := cell_of_heap HX12.out 2
            have k190 := cell_of_heap HX19.out 0
            have y190 := frozen_of_heap HX19.out 0
            have k191 := cell_of_heap HX19.out 1
            have y191 := frozen_of_heap HX19.out 1
            have k192 := cell_of_heap HX19.out 2
            have y192 := frozen_of_heap HX19.out 2
            simp only [List.getElem?_toArray, List.getElem?_cons_zero, List.getElem?_cons_succ] at k120 k121 k122 k190 k191 k192
            go_upto_region 36 with (fail)
            clear y190 y191 y192 k120 k121 k122 k190 k191 k192
            have hs3 : Svg g19 W12 (((W12.setCell ⟨g19, 0, none⟩ (.slice u1.w.p u1.w.n u1.w.c)).setCell ⟨g19, 1, none⟩ (.slice u1.p.p u1.p.n u1.p.c)).setCell ⟨g19, 2, none⟩ (.slice u1.r.p u1.r.n u1.r.c)) := set3_svg W12 g19 (.slice u1.w.p u1.w.n u1.w.c) (.slice u1.p.p u1.p.n u1.p.c) (.slice u1.r.p u1.r.n u1.r.c)
            have hh := set3_heap HX19.out (.slice u1.w.p u1.w.n u1.w.c) (.slice u1.p.p u1.p.n u1.p.c) (.slice u1.r.p u1.r.n u1.r.c)
            generalize hWW : (((W12.setCell ⟨g19, 0, none⟩ (.slice u1.w.p u1.w.n u1.w.c)).setCell ⟨g19, 1, none⟩ (.slice u1.p.p u1.p.n u1.p.c)).setCell ⟨g19, 2, none⟩ (.slice u1.r.p u1.r.n u1.r.c)) = W13 at hs3 hh ⊢
            clear hWW
            have HBW := Lib.hid (hs3.bel HBW.out HGE19.out)
            have HX12 := Lib.hid ((hs3.block _ (lt_of_heap HX12.out) HN1219.out).trans HX12.out)
            have HX20 := Lib.hid ((hs3.block _ (lt_of_heap HX20.out) HN1920.out.symm).trans HX20.out)
            have HQv := Lib.hid (HQv.out.keep hs3 HX19.out (by decide) (by decide) (by decide))
            have HQu1 := Lib.hid (HQu1.out.keep hs3 HX19.out (by decide) (by decide) (by decide))
            have HX19 := Lib.hid hh
            clear hs3 hh
            have k120 := cell_of_heap HX12.out 0
            have k121 := cell_of_heap HX12.out 1
            have k122 := cell_of_heap HX12.out 2
            simp only [List.getElem?_toArray, List.getElem?_cons_zero, List.getElem?_cons_succ] at k120 k121 k122
            go_wp2_with fail
            refine (rres_lit HQv.out HO.out HR.out).mono ?_
            rintro e W14 ⟨u2, rfl, hb, hq⟩
            clear k120 k121 k122
            have HBW := Lib.hid (HBW.out.trans hb)
            have HX12 := Lib.hid (Bel.stays hb HX12.out)
            have HX19 := Lib.hid (Bel.stays hb HX19.out)
            have HX20 := Lib.hid (Bel.stays hb HX20.out)
            have HQv := Lib.hid (HQv.out.bel hb)
            have HQu1 := Lib.hid (HQu1.out.bel hb)
            have HQu2 : Hid (MemAt 0 W14 u2 m2) := Lib.hid (hq.mono (Nat.zero_le _))
            clear hb hq
            have k120 := cell_of_heap HX12.out 0
            have k121 := cell_of_heap HX12.out 1
            have k122 := cell_of_heap HX12.out 2
            have k200 := cell_of_heap HX20.out 0
            have y200 := frozen_of_heap HX20.out 0
            have k201 := cell_of_heap HX20.out 1
            have y201 := frozen_of_heap HX20.out 1
            have k202 := cell_of_heap HX20.out 2
            have y202 := frozen_of_heap HX20.out 2
            simp only [List.getElem?_toArray, List.getElem?_cons_zero, List.getElem?_cons_succ] at k120 k121 k122 k200 k201 k202
            go_wp2_with fail
            go_meet
            have hs3 : Svg g20 W14 (((W14.setCell ⟨g20, 0, none⟩ (.slice u2.w.p u2.w.n u2.w.c)).setCell ⟨g20, 1, none⟩ (.slice u2.p.p u2.p.n u2.p.c)).setCell ⟨g20, 2, none⟩ (.slice u2.r.p u2.r.n u2.r.c)) := set3_svg W14 g20 (.slice u2.w.p u2.w.n u2.w.c) (.slice u2.p.p u2.p.n u2.p.c) (.slice u2.r.p u2.r.n u2.r.c)
            have hh := set3_heap HX20.out (.slice u2.w.p u2.w.n u2.w.c) (.slice u2.p.p u2.p.n u2.p.c) (.slice u2.r.p u2.r.n u2.r.c)
            have HBW := Lib.hid (hs3.bel HBW.out HGE20.out)
            have HX12 := Lib.hid ((hs3.block _ (lt_of_heap HX12.out) HN1220.out).trans HX12.out)
            have HX19 := Lib.hid ((hs3.block _ (lt_of_heap HX19.out) HN1920.out).trans HX19.out)
            have HQv := Lib.hid (HQv.out.keep hs3 HX20.out (by decide) (by decide) (by decide))
            have HQu1 := Lib.hid (HQu1.out.keep hs3 HX20.out (by decide) (by decide) (by decide))
            have HQu2 := Lib.hid (HQu2.out.keep hs3 HX20.out (by decide) (by decide) (by decide))
            have HX20 := Lib.hid hh
            clear hs3 hh
            exact ⟨u1, u2, m2, r, qq, rfl, rfl, rfl, rfl, HBW, HX12, HX19, HX20, HQv, HQu1, HQu2, HO2⟩
          · as_aux_lemma =>
            obtain ⟨qq, m2, r, hr⟩ : ∃ qq m2 r, condV m h a x4 = (qq, m2, r) := ⟨_, _, _, rfl⟩
            have HO2 : Hid (Ok m2) := Lib.hid (by have h0 := ok_cond HO.out h a x4; rw [hr] at h0; exact h0)
            have HR := Lib.hid hr
            clear hr
            have hqq : (qq != qq) = false := by cases qq <;> rfl
            have hrre : (r != r) = false := by simp
            have k120 := cell_of_heap HX12.out 0
            have k121 := cell_of_heap HX12.out 1
            have k122 := cell_of_heap HX12.out 2
            simp only [List.getElem?_toArray, List.getElem?_cons_zero, List.getElem?_cons_succ] at k120 k121 k122
            go_wp2_with fail
            refine (cond_lit HQv.out HO.out HR.out).mono ?_
            rintro e W12 ⟨u1, rfl, hb, hq⟩
            clear k120 k121 k122
            have HBW := Lib.hid (HBW.out.trans hb)
            have HX12 := Lib.hid (Bel.stays hb HX12.out)
            have HX19 := Lib.hid (Bel.stays hb HX19.out)
            have HX20 := Lib.hid (Bel.stays hb HX20.out)
            have HQv := Lib.hid (HQv.out.bel hb)
            have HQu1 : Hid (MemAt 0 W12 u1 m2) := Lib.hid (hq.mono (Nat.zero_le _))
            clear hb hq
            have k120 := cell_of_heap HX12.out 0
            have k121 := cell_of_heap HX12.out 1
            have k122 := cell_of_heap HX12.out 2
            have k190 := cell_of_heap HX19.out 0
            have y190 := frozen_of_heap HX19.out 0
            have k191 := cell_of_heap HX19.out 1
            have y191 := frozen_of_heap HX19.out 1
            have k192 := cell_of_heap HX19.out 2
            have y192 := frozen_of_heap HX19.out 2
            simp only [List.getElem?_toArray, List.getElem?_cons_zero, List.getElem?_cons_succ] at k120 k121 k122 k190 k191 k192
            go_upto_region 41 with (fail)
            clear y190 y191 y192 k120 k121 k122 k190 k191 k192
            have hs3 : Svg g19 W12 (((W12.setCell ⟨g19, 0, none⟩ (.slice u1.w.p u1.w.n u1.w.c)).setCell ⟨g19, 1, none⟩ (.slice u1.p.p u1.p.n u1.p.c)).setCell ⟨g19, 2, none⟩ (.slice u1.r.p u1.r.n u1.r.c)) := set3_svg W12 g19 (.slice u1.w.p u1.w.n u1.w.c) (.slice u1.p.p u1.p.n u1.p.c) (.slice u1.r.p u1.r.n u1.r.c)
            have hh := set3_heap HX19.out (.slice u1.w.p u1.w.n u1.w.c) (.slice u1.p.p u1.p.n u1.p.c) (.slice u1.r.p u1.r.n u1.r.c)
            generalize hWW : (((W12.setCell ⟨g19, 0, none⟩ (.slice u1.w.p u1.w.n u1.w.c)).setCell ⟨g19, 1, none⟩ (.slice u1.p.p u1.p.n u1.p.c)).setCell ⟨g19, 2, none⟩ (.slice u1.r.p u1.r.n u1.r.c)) = W13 at hs3 hh ⊢
            clear hWW
            have HBW := Lib.hid (hs3.bel HBW.out HGE19.out)
            have HX12 := Lib.hid ((hs3.block _ (lt_of_heap HX12.out) HN1219.out).trans HX12.out)
            have HX20 := Lib.hid ((hs3.block _ (lt_of_heap HX20.out) HN1920.out.symm).trans HX20.out)
            have HQv := Lib.hid (HQv.out.keep hs3 HX19.out (by decide) (by decide) (by decide))
            have HQu1 := Lib.hid (HQu1.out.keep hs3 HX19.out (by decide) (by decide) (by decide))
            have HX19 := Lib.hid hh
            clear hs3 hh
            have k120 := cell_of_heap HX12.out 0
            have k121 := cell_of_heap HX12.out 1
            have k122 := cell_of_heap HX12.out 2
            simp only [List.getElem?_toArray, List.getElem?_cons_zero, List.getElem?_cons_succ] at k120 k121 k122
            go_wp2_with fail
            refine (rcond_lit HQv.out HO.out HR.out).mono ?_
            rintro e W14 ⟨u2, rfl, hb, hq⟩
            clear k120 k121 k122
            have HBW := Lib.hid (HBW.out.trans hb)
            have HX12 := Lib.hid (Bel.stays hb HX12.out)
            have HX19 := Lib.hid (Bel.stays hb HX19.out)
            have HX20 := Lib.hid (Bel.stays hb HX20.out)
            have HQv := Lib.hid (HQv.out.bel hb)
            have HQu1 := Lib.hid (HQu1.out.bel hb)
            have HQu2 : Hid (MemAt 0 W14 u2 m2) := Lib.hid (hq.mono (Nat.zero_le _))
            clear hb hq
            have k120 := cell_of_heap HX12.out 0
            have k121 := cell_of_heap HX12.out 1
            have k122 := cell_of_heap HX12.out 2
            have k200 := cell_of_heap HX20.out 0
            have y200 := frozen_of_heap HX20.out 0
            have k201 := cell_of_heap HX20.out 1
            have y201 := frozen_of_heap HX20.out 1
            have k202 := cell_of_heap HX20.out 2
            have y202 := frozen_of_heap HX20.out 2
            simp only [List.getElem?_toArray, List.getElem?_cons_zero, List.getElem?_cons_succ] at k120 k121 k122 k200 k201 k202
            go_wp2_with fail
            go_meet
            have hs3 : Svg g20 W14 (((W14.setCell ⟨g20, 0, none⟩ (.slice u2.w.p u2.w.n u2.w.c)).setCell ⟨g20, 1, none⟩ (.slice u2.p.p u2.p.n u2.p.c)).setCell ⟨g20, 2, none⟩ (.slice u2.r.p u2.r.n u2.r.c)) := set3_svg W14 g20 (.slice u2.w.p u2.w.n u2.w.c) (.slice u2.p.p u2.p.n u2.p.c) (.slice u2.r.p u2.r.n u2.r.c)
            have hh := set3_heap HX20.out (.slice u2.w.p u2.w.n u2.w.c) (.slice u2.p.p u2.p.n u2.p.c) (.slice u2.r.p u2.r.n u2.r.c)
            have HBW := Lib.hid (hs3.bel HBW.out HGE20.out)
            have HX12 := Lib.hid ((hs3.block _ (lt_of_heap HX12.out) HN1220.out).trans HX12.out)
            have HX19 := Lib.hid ((hs3.block _ (lt_of_heap HX19.out) HN1920.out).trans HX19.out)
            have HQv := Lib.hid (HQv.out.keep hs3 HX20.out (by decide) (by decide) (by decide))
            have HQu1 := Lib.hid (HQu1.out.keep hs3 HX20.out (by decide) (by decide) (by decide))
            have HQu2 := Lib.hid (HQu2.out.keep hs3 HX20.out (by decide) (by decide) (by decide))
            have HX20 := Lib.hid hh
            clear hs3 hh
            exact ⟨u1, u2, m2, r, 0, rfl, rfl, rfl, rfl, HBW, HX12, HX19, HX20, HQv, HQu1, HQu2, HO2⟩
          · as_aux_lemma =>
            obtain ⟨qq, m2, r, hr⟩ : ∃ qq m2 r, changeV m h a (IntKind.i64.wrap (p4 - 1)) x4 = (qq, m2, r) := ⟨_, _, _, rfl⟩
            have HO2 : Hid (Ok m2) := Lib.hid (by have h0 := ok_change HO.out h a (IntKind.i64.wrap (p4 - 1)) x4; rw [hr] at h0; exact h0)
            have HR := Lib.hid hr
            clear hr
            have hxx : (qq != qq) = false := by simp
            have hrre : (r != r) = false := by simp
            go_upto_region 19 with (fail)
            have HKEEP : Hid (∀ w', Bel W11 w' → w'.cell? ⟨g12, 0, none⟩ = some (.slice v.w.p v.w.n v.w.c) ∧ w'.cell? ⟨g12, 1, none⟩ = some (.slice v.p.p v.p.n v.p.c) ∧ w'.cell? ⟨g12, 2, none⟩ = some (.slice v.r.p v.r.n v.r.c)) := Lib.hid (fun w' hh => by
              have h1 := hh.stays HX12.out
              exact ⟨cell_of_heap h1 0, cell_of_heap h1 1, cell_of_heap h1 2⟩)
            have HKEEP2 : Hid (∀ w' w'', Bel W11 w' → Svg g19 w' w'' → w''.cell? ⟨g12, 0, none⟩ = some (.slice v.w.p v.w.n v.w.c) ∧ w''.cell? ⟨g12, 1, none⟩ = some (.slice v.p.p v.p.n v.p.c) ∧ w''.cell? ⟨g12, 2, none⟩ = some (.slice v.r.p v.r.n v.r.c)) := Lib.hid (fun w' w'' hh hs => by
              have h1 := (hs.block _ (lt_of_heap (hh.stays HX12.out)) HN1219.out).trans (hh.stays HX12.out)
              exact ⟨cell_of_heap h1 0, cell_of_heap h1 1, cell_of_heap h1 2⟩)
            have HBC : Hid (Bel W11 W11.drew) := Lib.hid (Bel.refl W11).drew
            have hb4 := HB4.out
            go_region_held3 (fun w' => w'.cell? ⟨g12, 0, none⟩ = some (.slice v.w.p v.w.n v.w.c) ∧ w'.cell? ⟨g12, 1, none⟩ = some (.slice v.p.p v.p.n v.p.c) ∧ w'.cell? ⟨g12, 2, none⟩ = some (.slice v.r.p v.r.n v.r.c))
              (first | exact HKEEP.out _ HBC.out | exact HKEEP.out _ (Bel.refl _) | exact HKEEP2.out _ _ HBC.out (((Svg.set _ _ _ _).trans (Svg.set _ _ _ _)).trans (Svg.set _ _ _ _)))
              (first | (go_at_call 9; ((with_reducible refine (pick_lit HP4.out HI4.out (by decide) _).mono ?_); rintro e w' ⟨rfl, rfl⟩)) | (go_at_call 22; ((with_reducible refine (change_lit (HQv.out.bel HBC.out) HO.out HR.out).mono ?_); rintro e wz ⟨u1, rfl, hbz, hmz⟩; have HMZ := Lib.hid (hmz.mono (Nat.zero_le _)); have y90 := frozen_of_heap (hbz.stays (HBC.out.stays HX19.out)) 0; have k90 := cell_of_heap (hbz.stays (HBC.out.stays HX19.out)) 0; have y91 := frozen_of_heap (hbz.stays (HBC.out.stays HX19.out)) 1; have k91 := cell_of_heap (hbz.stays (HBC.out.stays HX19.out)) 1; have y92 := frozen_of_heap (hbz.stays (HBC.out.stays HX19.out)) 2; have k92 := cell_of_heap (hbz.stays (HBC.out.stays HX19.out)) 2; simp only [List.getElem?_toArray, List.getElem?_cons_zero, List.getElem?_cons_succ] at k90 k91 k92; have HBC := Lib.hid (HBC.out.trans hbz); clear hbz hmz)))
            go_upto_region 20 with (fail)
            clear y90 y91 y92 k90 k91 k92 HKEEP HKEEP2 hb4
            have hb := HBC.out
            have HBW := Lib.hid (HBW.out.trans hb)
            have HX12 := Lib.hid (Bel.stays hb HX12.out)
            have HX19 := Lib.hid (Bel.stays hb HX19.out)
            have HX20 := Lib.hid (Bel.stays hb HX20.out)
            have HQv := Lib.hid (HQv.out.bel hb)
            have HQu1 := HMZ
            clear hb HBC
            have hs3 : Svg g19 wz (((wz.setCell ⟨g19, 0, none⟩ (.slice u1.w.p u1.w.n u1.w.c)).setCell ⟨g19, 1, none⟩ (.slice u1.p.p u1.p.n u1.p.c)).setCell ⟨g19, 2, none⟩ (.slice u1.r.p u1.r.n u1.r.c)) := set3_svg wz g19 (.slice u1.w.p u1.w.n u1.w.c) (.slice u1.p.p u1.p.n u1.p.c) (.slice u1.r.p u1.r.n u1.r.c)
            have hh := set3_heap HX19.out (.slice u1.w.p u1.w.n u1.w.c) (.slice u1.p.p u1.p.n u1.p.c) (.slice u1.r.p u1.r.n u1.r.c)
            generalize hWW : (((wz.setCell ⟨g19, 0, none⟩ (.slice u1.w.p u1.w.n u1.w.c)).setCell ⟨g19, 1, none⟩ (.slice u1.p.p u1.p.n u1.p.c)).setCell ⟨g19, 2, none⟩ (.slice u1.r.p u1.r.n u1.r.c)) = W12 at hs3 hh ⊢
            clear hWW
            have HBW := Lib.hid (hs3.bel HBW.out HGE19.out)
            have HX12 := Lib.hid ((hs3.block _ (lt_of_heap HX12.out) HN1219.out).trans HX12.out)
            have HX20 := Lib.hid ((hs3.block _ (lt_of_heap HX20.out) HN1920.out.symm).trans HX20.out)
            have HQv := Lib.hid (HQv.out.keep hs3 HX19.out (by decide) (by decide) (by decide))
            have HQu1 := Lib.hid (HQu1.out.keep hs3 HX19.out (by decide) (by decide) (by decide))
            have HX19 := Lib.hid hh
            clear hs3 hh
            have HKEEP : Hid (∀ w', Bel W12 w' → w'.cell? ⟨g12, 0, none⟩ = some (.slice v.w.p v.w.n v.w.c) ∧ w'.cell? ⟨g12, 1, none⟩ = some (.slice v.p.p v.p.n v.p.c) ∧ w'.cell? ⟨g12, 2, none⟩ = some (.slice v.r.p v.r.n v.r.c)) := Lib.hid (fun w' hh => by
              have h1 := hh.stays HX12.out
              exact ⟨cell_of_heap h1 0, cell_of_heap h1 1, cell_of_heap h1 2⟩)
            have HKEEP2 : Hid (∀ w' w'', Bel W12 w' → Svg g20 w' w'' → w''.cell? ⟨g12, 0, none⟩ = some (.slice v.w.p v.w.n v.w.c) ∧ w''.cell? ⟨g12, 1, none⟩ = some (.slice v.p.p v.p.n v.p.c) ∧ w''.cell? ⟨g12, 2, none⟩ = some (.slice v.r.p v.r.n v.r.c)) := Lib.hid (fun w' w'' hh hs => by
              have h1 := (hs.block _ (lt_of_heap (hh.stays HX12.out)) HN1220.out).trans (hh.stays HX12.out)
              exact ⟨cell_of_heap h1 0, cell_of_heap h1 1, cell_of_heap h1 2⟩)
            have HBC : Hid (Bel W12 W12.drew) := Lib.hid (Bel.refl W12).drew
            have hb4 := HB4.out
            go_region_held3 (fun w' => w'.cell? ⟨g12, 0, none⟩ = some (.slice v.w.p v.w.n v.w.c) ∧ w'.cell? ⟨g12, 1, none⟩ = some (.slice v.p.p v.p.n v.p.c) ∧ w'.cell? ⟨g12, 2, none⟩ = some (.slice v.r.p v.r.n v.r.c))
              (first | exact HKEEP.out _ HBC.out | exact HKEEP.out _ (Bel.refl _) | exact HKEEP2.out _ _ HBC.out (((Svg.set _ _ _ _).trans (Svg.set _ _ _ _)).trans (Svg.set _ _ _ _)))
              (first | (go_at_call 9; ((with_reducible refine (pick_lit HP4.out HI4.out (by decide) _).mono ?_); rintro e w' ⟨rfl, rfl⟩)) | (go_at_call 23; ((with_reducible refine (rchange_lit (HQv.out.bel HBC.out) HO.out HR.out).mono ?_); rintro e wz ⟨u2, rfl, hbz, hmz⟩; have HMZ := Lib.hid (hmz.mono (Nat.zero_le _)); have y90 := frozen_of_heap (hbz.stays (HBC.out.stays HX20.out)) 0; have k90 := cell_of_heap (hbz.stays (HBC.out.stays HX20.out)) 0; have y91 := frozen_of_heap (hbz.stays (HBC.out.stays HX20.out)) 1; have k91 := cell_of_heap (hbz.stays (HBC.out.stays HX20.out)) 1; have y92 := frozen_of_heap (hbz.stays (HBC.out.stays HX20.out)) 2; have k92 := cell_of_heap (hbz.stays (HBC.out.stays HX20.out)) 2; simp only [List.getElem?_toArray, List.getElem?_cons_zero, List.getElem?_cons_succ] at k90 k91 k92; have HBC := Lib.hid (HBC.out.trans hbz); clear hbz hmz)))
            go_wp2_with fail
            go_meet
            clear y90 y91 y92 k90 k91 k92 HKEEP HKEEP2 hb4
            have hb := HBC.out
            have HBW := Lib.hid (HBW.out.trans hb)
            have HX12 := Lib.hid (Bel.stays hb HX12.out)
            have HX19 := Lib.hid (Bel.stays hb HX19.out)
            have HX20 := Lib.hid (Bel.stays hb HX20.out)
            have HQv := Lib.hid (HQv.out.bel hb)
            have HQu1 := Lib.hid (HQu1.out.bel hb)
            have HQu2 := HMZ
            clear hb HBC
            have hs3 : Svg g20 wz (((wz.setCell ⟨g20, 0, none⟩ (.slice u2.w.p u2.w.n u2.w.c)).setCell ⟨g20, 1, none⟩ (.slice u2.p.p u2.p.n u2.p.c)).setCell ⟨g20, 2, none⟩ (.slice u2.r.p u2.r.n u2.r.c)) := set3_svg wz g20 (.slice u2.w.p u2.w.n u2.w.c) (.slice u2.p.p u2.p.n u2.p.c) (.slice u2.r.p u2.r.n u2.r.c)
            have hh := set3_heap HX20.out (.slice u2.w.p u2.w.n u2.w.c) (.slice u2.p.p u2.p.n u2.p.c) (.slice u2.r.p u2.r.n u2.r.c)
            have HBW := Lib.hid (hs3.bel HBW.out HGE20.out)
            have HX12 := Lib.hid ((hs3.block _ (lt_of_heap HX12.out) HN1220.out).trans HX12.out)
            have HX19 := Lib.hid ((hs3.block _ (lt_of_heap HX19.out) HN1920.out).trans HX19.out)
            have HQv := Lib.hid (HQv.out.keep hs3 HX20.out (by decide) (by decide) (by decide))
            have HQu1 := Lib.hid (HQu1.out.keep hs3 HX20.out (by decide) (by decide) (by decide))
            have HQu2 := Lib.hid (HQu2.out.keep hs3 HX20.out (by decide) (by decide) (by decide))
            have HX20 := Lib.hid hh
            clear hs3 hh
            exact ⟨u1, u2, m2, r, qq, rfl, rfl, rfl, rfl, HBW, HX12, HX19, HX20, HQv, HQu1, HQu2, HO2⟩
        case rest =>
          as_aux_lemma =>
            clear HX12 HX19 HX20 HQv HBW hcase HRC
            obtain ⟨u1, u2, m2, r, xx, rfl, rfl, rfl, rfl, HBW, HX12, HX19, HX20, HQv, HQu1, HQu2, HO2⟩ := hcut
            have hxx : (xx != xx) = false := by simp
            have hrre : (r != r) = false := by simp
            go_upto_region 44 with (fail)
            have HKEEP : Hid (∀ w', Bel wc w' → w'.cell? ⟨g19, 0, none⟩ = some (.slice u1.w.p u1.w.n u1.w.c) ∧ w'.cell? ⟨g19, 1, none⟩ = some (.slice u1.p.p u1.p.n u1.p.c) ∧ w'.cell? ⟨g19, 2, none⟩ = some (.slice u1.r.p u1.r.n u1.r.c) ∧ w'.cell? ⟨g20, 0, none⟩ = some (.slice u2.w.p u2.w.n u2.w.c) ∧ w'.cell? ⟨g20, 1, none⟩ = some (.slice u2.p.p u2.p.n u2.p.c) ∧ w'.cell? ⟨g20, 2, none⟩ = some (.slice u2.r.p u2.r.n u2.r.c) ∧ w'.cell? ⟨g12, 0, none⟩ = some (.slice v.w.p v.w.n v.w.c) ∧ w'.cell? ⟨g12, 1, none⟩ = some (.slice v.p.p v.p.n v.p.c) ∧ w'.cell? ⟨g12, 2, none⟩ = some (.slice v.r.p v.r.n v.r.c)) := Lib.hid (fun w' hh => ⟨cell_of_heap (hh.stays HX19.out) 0, cell_of_heap (hh.stays HX19.out) 1, cell_of_heap (hh.stays HX19.out) 2, cell_of_heap (hh.stays HX20.out) 0, cell_of_heap (hh.stays HX20.out) 1, cell_of_heap (hh.stays HX20.out) 2, cell_of_heap (hh.stays HX12.out) 0, cell_of_heap (hh.stays HX12.out) 1, cell_of_heap (hh.stays HX12.out) 2⟩)
            obtain ⟨rr, hrr⟩ : ∃ rr, sameV m2 m = rr := ⟨_, rfl⟩
            have HRR := Lib.hid hrr
            have HSV : Hid (sameV m2 m2 = true) := Lib.hid (sameV_refl _)
            clear hrr
            have hrr2 : (rr != rr) = false := by cases rr <;> rfl
            refine wp_region_held_drew (S := (fun w' => w'.cell? ⟨g19, 0, none⟩ = some (.slice u1.w.p u1.w.n u1.w.c) ∧ w'.cell? ⟨g19, 1, none⟩ = some (.slice u1.p.p u1.p.n u1.p.c) ∧ w'.cell? ⟨g19, 2, none⟩ = some (.slice u1.r.p u1.r.n u1.r.c) ∧ w'.cell? ⟨g20, 0, none⟩ = some (.slice u2.w.p u2.w.n u2.w.c) ∧ w'.cell? ⟨g20, 1, none⟩ = some (.slice u2.p.p u2.p.n u2.p.c) ∧ w'.cell? ⟨g20, 2, none⟩ = some (.slice u2.r.p u2.r.n u2.r.c) ∧ w'.cell? ⟨g12, 0, none⟩ = some (.slice v.w.p v.w.n v.w.c) ∧ w'.cell? ⟨g12, 1, none⟩ = some (.slice v.p.p v.p.n v.p.c) ∧ w'.cell? ⟨g12, 2, none⟩ = some (.slice v.r.p v.r.n v.r.c))) (by kernel_rfl) (HKEEP.out _ ((Bel.refl wc).drew)) (fun hS0 => ?_)
            refine takeD 228 (i := 0) (v := ?v1) rfl rfl (by kernel_rfl) (by kernel_rfl) (by kernel_rfl) (fun _ _ _ h => h) (by kernel_rfl) ?hy1 hS0 ?rest1
            case hy1 => (intro w0 hSw; obtain ⟨s0, s1, s2, s3, s4, s5, s6, s7, s8⟩ := hSw; first | (go_simp; done) | (go_simp; with_reducible rfl))
            simp only [List.setIfInBounds_toArray, List.set_cons_zero, List.set_cons_succ]
            refine takeD 229 (i := 1) (v := ?v2) rfl rfl (by kernel_rfl) (by kernel_rfl) (by kernel_rfl) (fun _ _ _ h => h) (by kernel_rfl) ?hy2 hS0 ?rest2
            case hy2 => (intro w0 hSw; obtain ⟨s0, s1, s2, s3, s4, s5, s6, s7, s8⟩ := hSw; first | (go_simp; done) | (go_simp; with_reducible rfl))
            simp only [List.setIfInBounds_toArray, List.set_cons_zero, List.set_cons_succ]
            refine takeD 230 (i := 2) (v := ?v3) rfl rfl (by kernel_rfl) (by kernel_rfl) (by kernel_rfl) (fun _ _ _ h => h) (by kernel_rfl) ?hy3 hS0 ?rest3
            case hy3 => (intro w0 hSw; obtain ⟨s0, s1, s2, s3, s4, s5, s6, s7, s8⟩ := hSw; first | (go_simp; done) | (go_simp; with_reducible rfl))
            simp only [List.setIfInBounds_toArray, List.set_cons_zero, List.set_cons_succ]
            refine takeD 231 (i := 3) (v := ?v4) rfl rfl (by kernel_rfl) (by kernel_rfl) (by kernel_rfl) (fun _ _ _ h => h) (by kernel_rfl) ?hy4 hS0 ?rest4
            case hy4 => (intro w0 hSw; obtain ⟨s0, s1, s2, s3, s4, s5, s6, s7, s8⟩ := hSw; first | (go_simp; done) | (go_simp; with_reducible rfl))
            simp only [List.setIfInBounds_toArray, List.set_cons_zero, List.set_cons_succ]
            refine takeD 232 (i := 4) (v := ?v5) rfl rfl (by kernel_rfl) (by kernel_rfl) (by kernel_rfl) (fun _ _ _ h => h) (by kernel_rfl) ?hy5 hS0 ?rest5
            case hy5 => (intro w0 hSw; obtain ⟨s0, s1, s2, s3, s4, s5, s6, s7, s8⟩ := hSw; first | (go_simp; done) | (go_simp; with_reducible rfl))
            simp only [List.setIfInBounds_toArray, List.set_cons_zero, List.set_cons_succ]
            refine takeD 233 (i := 5) (v := ?v6) rfl rfl (by kernel_rfl) (by kernel_rfl) (by kernel_rfl) (fun _ _ _ h => h) (by kernel_rfl) ?hy6 hS0 ?rest6
            case hy6 => (intro w0 hSw; obtain ⟨s0, s1, s2, s3, s4, s5, s6, s7, s8⟩ := hSw; first | (go_simp; done) | (go_simp; with_reducible rfl))
            simp only [List.setIfInBounds_toArray, List.set_cons_zero, List.set_cons_succ]
            refine takeD 234 (i := 6) (v := ?v7) rfl rfl (by kernel_rfl) (by kernel_rfl) (by kernel_rfl) (fun _ _ _ h => h) (by kernel_rfl) ?hy7 hS0 ?rest7
            case hy7 => (intro w0 hSw; obtain ⟨s0, s1, s2, s3, s4, s5, s6, s7, s8⟩ := hSw; first | (go_simp; done) | (go_simp; with_reducible rfl))
            simp only [List.setIfInBounds_toArray, List.set_cons_zero, List.set_cons_succ]
            refine takeD 235 (i := 7) (v := ?v8) rfl rfl (by kernel_rfl) (by kernel_rfl) (by kernel_rfl) (fun _ _ _ h => h) (by kernel_rfl) ?hy8 hS0 ?rest8
            case hy8 => (intro w0 hSw; obtain ⟨s0, s1, s2, s3, s4, s5, s6, s7, s8⟩ := hSw; first | (go_simp; done) | (go_simp; with_reducible rfl))
            simp only [List.setIfInBounds_toArray, List.set_cons_zero, List.set_cons_succ]
            refine takeD 236 (i := 8) (v := ?v9) rfl rfl (by kernel_rfl) (by kernel_rfl) (by kernel_rfl) (fun _ _ _ h => h) (by kernel_rfl) ?hy9 hS0 ?rest9
            case hy9 => (intro w0 hSw; obtain ⟨s0, s1, s2, s3, s4, s5, s6, s7, s8⟩ := hSw; first | (go_simp; done) | (go_simp; with_reducible rfl))
            simp only [List.setIfInBounds_toArray, List.set_cons_zero, List.set_cons_succ]
            refine takeD 237 (i := 9) (v := ?v10) rfl rfl (by kernel_rfl) (by kernel_rfl) (by kernel_rfl) (fun _ _ _ h => h) (by kernel_rfl) ?hy10 hS0 ?rest10
            case hy10 => (intro w0 hSw; obtain ⟨s0, s1, s2, s3, s4, s5, s6, s7, s8⟩ := hSw; first | (go_simp; done) | (go_simp; with_reducible rfl))
            simp only [List.setIfInBounds_toArray, List.set_cons_zero, List.set_cons_succ]
            refine takeD 238 (i := 10) (v := ?v11) rfl rfl (by kernel_rfl) (by kernel_rfl) (by kernel_rfl) (fun _ _ _ h => h) (by kernel_rfl) ?hy11 hS0 ?rest11
            case hy11 => (intro w0 hSw; obtain ⟨s0, s1, s2, s3, s4, s5, s6, s7, s8⟩ := hSw; first | (go_simp; done) | (go_simp; with_reducible rfl))
            simp only [List.setIfInBounds_toArray, List.set_cons_zero, List.set_cons_succ]
            refine onlyD 239 (i := 11) rfl rfl (by kernel_rfl) (by kernel_rfl) (fun K hK => ?_)
            go_simp
            go_at_call 7
            refine (rsame_lit HSV.out (HQu1.out.bel ((Bel.refl wc).drew)) (HQu2.out.bel ((Bel.refl wc).drew)) HO2.out).mono ?_
            rintro e whb11 ⟨rfl, hb11⟩
            have hS1 := HKEEP.out _ (((Bel.refl wc).drew).trans hb11)
            refine hK.out _ _ hS1 (fun _ => ?_)
            clear hK K
            simp only [List.setIfInBounds_toArray, List.set_cons_zero, List.set_cons_succ]
            refine takeD 240 (i := 12) (v := ?v12) rfl rfl (by kernel_rfl) (by kernel_rfl) (by kernel_rfl) (fun _ _ _ h => h) (by kernel_rfl) ?hy12 hS1 ?rest12
            case hy12 => (intro w0 hSw; obtain ⟨s0, s1, s2, s3, s4, s5, s6, s7, s8⟩ := hSw; first | (go_simp; done) | (go_simp; with_reducible rfl))
            simp only [List.setIfInBounds_toArray, List.set_cons_zero, List.set_cons_succ]
            refine takeD 241 (i := 13) (v := ?v13) rfl rfl (by kernel_rfl) (by kernel_rfl) (by kernel_rfl) (fun _ _ _ h => h) (by kernel_rfl) ?hy13 hS1 ?rest13
            case hy13 => (intro w0 hSw; obtain ⟨s0, s1, s2, s3, s4, s5, s6, s7, s8⟩ := hSw; first | (go_simp; done) | (go_simp; with_reducible rfl))
            simp only [List.setIfInBounds_toArray, List.set_cons_zero, List.set_cons_succ]
            refine takeD 242 (i := 14) (v := ?v14) rfl rfl (by kernel_rfl) (by kernel_rfl) (by kernel_rfl) (fun _ _ _ h => h) (by kernel_rfl) ?hy14 hS1 ?rest14
            case hy14 => (intro w0 hSw; obtain ⟨s0, s1, s2, s3, s4, s5, s6, s7, s8⟩ := hSw; first | (go_simp; done) | (go_simp; with_reducible rfl))
            simp only [List.setIfInBounds_toArray, List.set_cons_zero, List.set_cons_succ]
            refine takeD 243 (i := 15) (v := ?v15) rfl rfl (by kernel_rfl) (by kernel_rfl) (by kernel_rfl) (fun _ _ _ h => h) (by kernel_rfl) ?hy15 hS1 ?rest15
            case hy15 => (intro w0 hSw; obtain ⟨s0, s1, s2, s3, s4, s5, s6, s7, s8⟩ := hSw; first | (go_simp; done) | (go_simp; with_reducible rfl))
            simp only [List.setIfInBounds_toArray, List.set_cons_zero, List.set_cons_succ]
            refine takeD 244 (i := 16) (v := ?v16) rfl rfl (by kernel_rfl) (by kernel_rfl) (by kernel_rfl) (fun _ _ _ h => h) (by kernel_rfl) ?hy16 hS1 ?rest16
            case hy16 => (intro w0 hSw; obtain ⟨s0, s1, s2, s3, s4, s5, s6, s7, s8⟩ := hSw; first | (go_simp; done) | (go_simp; with_reducible rfl))
            simp only [List.setIfInBounds_toArray, List.set_cons_zero, List.set_cons_succ]
            refine onlyD 245 (i := 17) rfl rfl (by kernel_rfl) (by kernel_rfl) (fun K hK => ?_)
            go_simp
            go_at_call 8
            refine (same_lit HSV.out (HQu1.out.bel (((Bel.refl wc).drew).trans hb11)) (HQu2.out.bel (((Bel.refl wc).drew).trans hb11)) HO2.out).mono ?_
            rintro e whb12 ⟨rfl, hb12⟩
            have hS2 := HKEEP.out _ ((((Bel.refl wc).drew).trans hb11).trans hb12)
            refine hK.out _ _ hS2 (fun _ => ?_)
            clear hK K
            simp only [List.setIfInBounds_toArray, List.set_cons_zero, List.set_cons_succ]
            refine takeD 246 (i := 18) (v := ?v17) rfl rfl (by kernel_rfl) (by kernel_rfl) (by kernel_rfl) (fun _ _ _ h => h) (by kernel_rfl) ?hy17 hS2 ?rest17
            case hy17 => (intro w0 hSw; obtain ⟨s0, s1, s2, s3, s4, s5, s6, s7, s8⟩ := hSw; first | (go_simp; done) | (go_simp; with_reducible rfl))
            simp only [List.setIfInBounds_toArray, List.set_cons_zero, List.set_cons_succ]
            refine takeD 247 (i := 19) (v := ?v18) rfl rfl (by kernel_rfl) (by kernel_rfl) (by kernel_rfl) (fun _ _ _ h => h) (by kernel_rfl) ?hy18 hS2 ?rest18
            case hy18 => (intro w0 hSw; obtain ⟨s0, s1, s2, s3, s4, s5, s6, s7, s8⟩ := hSw; first | (go_simp; done) | (go_simp; with_reducible rfl))
            simp only [List.setIfInBounds_toArray, List.set_cons_zero, List.set_cons_succ]
            refine takeD 248 (i := 20) (v := ?v19) rfl rfl (by kernel_rfl) (by kernel_rfl) (by kernel_rfl) (fun _ _ _ h => h) (by kernel_rfl) ?hy19 hS2 ?rest19
            case hy19 => (intro w0 hSw; obtain ⟨s0, s1, s2, s3, s4, s5, s6, s7, s8⟩ := hSw; first | (go_simp; done) | (go_simp; with_reducible rfl))
            simp only [List.setIfInBounds_toArray, List.set_cons_zero, List.set_cons_succ]
            refine takeD 249 (i := 21) (v := ?v20) rfl rfl (by kernel_rfl) (by kernel_rfl) (by kernel_rfl) (fun _ _ _ h => h) (by kernel_rfl) ?hy20 hS2 ?rest20
            case hy20 => (intro w0 hSw; obtain ⟨s0, s1, s2, s3, s4, s5, s6, s7, s8⟩ := hSw; first | (go_simp; done) | (go_simp; with_reducible rfl))
            simp only [List.setIfInBounds_toArray, List.set_cons_zero, List.set_cons_succ]
            refine takeD 250 (i := 22) (v := ?v21) rfl rfl (by kernel_rfl) (by kernel_rfl) (by kernel_rfl) (fun _ _ _ h => h) (by kernel_rfl) ?hy21 hS2 ?rest21
            case hy21 => (intro w0 hSw; obtain ⟨s0, s1, s2, s3, s4, s5, s6, s7, s8⟩ := hSw; first | (go_simp; done) | (go_simp; with_reducible rfl))
            simp only [List.setIfInBounds_toArray, List.set_cons_zero, List.set_cons_succ]
            refine takeD 252 (i := 24) (v := ?v22) rfl rfl (by kernel_rfl) (by kernel_rfl) (by kernel_rfl) (fun _ _ _ h => h) (by kernel_rfl) ?hy22 hS2 ?rest22
            case hy22 => (intro w0 hSw; obtain ⟨s0, s1, s2, s3, s4, s5, s6, s7, s8⟩ := hSw; first | (go_simp; done) | (go_simp; with_reducible rfl))
            simp only [List.setIfInBounds_toArray, List.set_cons_zero, List.set_cons_succ]
            refine takeD 253 (i := 25) (v := ?v23) rfl rfl (by kernel_rfl) (by kernel_rfl) (by kernel_rfl) (fun _ _ _ h => h) (by kernel_rfl) ?hy23 hS2 ?rest23
            case hy23 => (intro w0 hSw; obtain ⟨s0, s1, s2, s3, s4, s5, s6, s7, s8⟩ := hSw; first | (go_simp; done) | (go_simp; with_reducible rfl))
            simp only [List.setIfInBounds_toArray, List.set_cons_zero, List.set_cons_succ]
            refine onlyD 251 (i := 23) rfl rfl (by kernel_rfl) (by kernel_rfl) (fun K hK => ?_)
            go_simp
            go_at_call 8
            refine (same_lit HRR.out (HQu1.out.bel ((((Bel.refl wc).drew).trans hb11).trans hb12)) (HQv.out.bel ((((Bel.refl wc).drew).trans hb11).trans hb12)) HO2.out).mono ?_
            rintro e whb13 ⟨rfl, hb13⟩
            have hS3 := HKEEP.out _ (((((Bel.refl wc).drew).trans hb11).trans hb12).trans hb13)
            refine hK.out _ _ hS3 (fun _ => ?_)
            clear hK K
            simp only [List.setIfInBounds_toArray, List.set_cons_zero, List.set_cons_succ]
            refine onlyD 254 (i := 26) rfl rfl (by kernel_rfl) (by kernel_rfl) (fun K hK => ?_)
            go_simp
            go_at_call 7
            refine (rsame_lit HRR.out (HQu1.out.bel (((((Bel.refl wc).drew).trans hb11).trans hb12).trans hb13)) (HQv.out.bel (((((Bel.refl wc).drew).trans hb11).trans hb12).trans hb13)) HO2.out).mono ?_
            rintro e whb14 ⟨rfl, hb14⟩
            have hS4 := HKEEP.out _ ((((((Bel.refl wc).drew).trans hb11).trans hb12).trans hb13).trans hb14)
            refine hK.out _ _ hS4 (fun _ => ?_)
            clear hK K
            simp only [List.setIfInBounds_toArray, List.set_cons_zero, List.set_cons_succ]
            refine takeD 255 (i := 27) (v := ?v24) rfl rfl (by kernel_rfl) (by kernel_rfl) (by kernel_rfl) (fun _ _ _ h => h) (by kernel_rfl) ?hy24 hS4 ?rest24
            case hy24 => (intro w0 hSw; obtain ⟨s0, s1, s2, s3, s4, s5, s6, s7, s8⟩ := hSw; first | (go_simp; done) | (go_simp; with_reducible rfl))
            simp only [List.setIfInBounds_toArray, List.set_cons_zero, List.set_cons_succ]
            refine takeD 256 (i := 28) (v := ?v25) rfl rfl (by kernel_rfl) (by kernel_rfl) (by kernel_rfl) (fun _ _ _ h => h) (by kernel_rfl) ?hy25 hS4 ?rest25
            case hy25 => (intro w0 hSw; obtain ⟨s0, s1, s2, s3, s4, s5, s6, s7, s8⟩ := hSw; first | (go_simp; done) | (go_simp; with_reducible rfl))
            simp only [List.setIfInBounds_toArray, List.set_cons_zero, List.set_cons_succ]
            refine wpAnyH_done (by kernel_rfl) ?_ _
            have HBC := Lib.hid ((((((Bel.refl wc).drew).trans hb11).trans hb12).trans hb13).trans hb14)
            clear hb11 hb12 hb13 hb14 hS0 hS1 hS2 hS3 hS4
            clear HKEEP hrr2
            have hbz := HBC.out
            have HBW := Lib.hid (HBW.out.trans hbz)
            have HX12 := Lib.hid (Bel.stays hbz HX12.out)
            have HX19 := Lib.hid (Bel.stays hbz HX19.out)
            have HX20 := Lib.hid (Bel.stays hbz HX20.out)
            have HQv := Lib.hid (HQv.out.bel hbz)
            have HQu1 := Lib.hid (HQu1.out.bel hbz)
            have HQu2 := Lib.hid (HQu2.out.bel hbz)
            clear hbz HBC
            by_cases hz : r = 0
            · have hzb : (r == 0) = true := by rw [hz]; rfl
              clear hz
              have k190 := cell_of_heap HX19.out 0
              have k191 := cell_of_heap HX19.out 1
              have k192 := cell_of_heap HX19.out 2
              have k120 := cell_of_heap HX12.out 0
              have y120 := frozen_of_heap HX12.out 0
              have k121 := cell_of_heap HX12.out 1
              have y121 := frozen_of_heap HX12.out 1
              have k122 := cell_of_heap HX12.out 2
              have y122 := frozen_of_heap HX12.out 2
              simp only [List.getElem?_toArray, List.getElem?_cons_zero, List.getElem?_cons_succ] at k190 k191 k192 k120 k121 k122
              go_wp2_with fail
              have hs3 : Svg g12 whb14 (((whb14.setCell ⟨g12, 0, none⟩ (.slice u1.w.p u1.w.n u1.w.c)).setCell ⟨g12, 1, none⟩ (.slice u1.p.p u1.p.n u1.p.c)).setCell ⟨g12, 2, none⟩ (.slice u1.r.p u1.r.n u1.r.c)) := set3_svg whb14 g12 (.slice u1.w.p u1.w.n u1.w.c) (.slice u1.p.p u1.p.n u1.p.c) (.slice u1.r.p u1.r.n u1.r.c)
              have hh := set3_heap HX12.out (.slice u1.w.p u1.w.n u1.w.c) (.slice u1.p.p u1.p.n u1.p.c) (.slice u1.r.p u1.r.n u1.r.c)
              exact ⟨⟨k + 1, u1, m2, by omega, by omega, by go_num, Lib.hid (hs3.bel HBW.out HGE12.out), Lib.hid hh, Lib.hid (HQu1.out.keep hs3 HX12.out (by decide) (by decide) (by decide)), HO2⟩, by simp [intOf]; omega⟩
            · have hzb : (r == 0) = false := by exact beq_eq_false_iff_ne.2 hz
              clear hz
              go_wp2_with fail
              exact ⟨⟨k + 1, v, m, by omega, by omega, by go_num, HBW, HX12, HQv, HO⟩, by simp [intOf]; omega⟩
      · have hl42 : ¬ (k : Int) < 40 := by omega
        have hlt2 : (k : Int) < N := by omega
        go_wp2
        go_ret
        exact ⟨rfl, HBW.out⟩
    · have hlt2 : ¬ (k : Int) < N := by omega
      go_wp2
      go_ret
      exact ⟨rfl, HBW.out⟩
end Go.Proofs.Ytobpoghophhphaa
