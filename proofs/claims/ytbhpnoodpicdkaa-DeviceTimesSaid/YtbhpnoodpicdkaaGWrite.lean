/- device.Write and device.Input: the device whose register was written, or that was handed something. -/
import Derived.Test.YtbhpnoodpicdkaaGRd
namespace Go.Proofs.Ytbhpnoodpicdkaa
open Go.RowKit Dv
open Plain (w32_lo w32_hi w32_w32 w32_in)
set_option linter.unusedVariables false
set_option linter.unusedSimpArgs false
theorem mwrite1_0 {B g : Nat} {t : TypeId} {d d' : Dev} {x m : Int} {w : World} (h : Held B g t d w) (hg : B ≤ g) (hd : Ok d) (hk : d.kind = 1) (hm : wrap32 x = m) (hr : wrV d 0 x = d') :
    Calls Try.prog 44 #[.pointer (some ⟨g, 0, none⟩), .int .i64 0, .int .i64 m] w (Left B g t d' (.tuple #[]) w) := by
  have e : wrU d 0 m = d' := by rw [← hr, ← hm]; unfold wrV; rw [if_pos hk]
  rw [← e]
  exact uwrite0 (B := B) h hg hd.sent m
theorem mwrite1_1 {B g : Nat} {t : TypeId} {d d' : Dev} {x m : Int} {w : World} (h : Held B g t d w) (hg : B ≤ g) (hd : Ok d) (hk : d.kind = 1) (hm : wrap32 x = m) (hr : wrV d 1 x = d') :
    Calls Try.prog 44 #[.pointer (some ⟨g, 0, none⟩), .int .i64 1, .int .i64 m] w (Left B g t d' (.tuple #[]) w) := by
  have e : wrU d 1 m = d' := by rw [← hr, ← hm]; unfold wrV; rw [if_pos hk]
  rw [← e]
  exact uwrite1 (B := B) h m
theorem mwrite1_2 {B g : Nat} {t : TypeId} {d d' : Dev} {x m : Int} {w : World} (h : Held B g t d w) (hg : B ≤ g) (hd : Ok d) (hk : d.kind = 1) (hm : wrap32 x = m) (hr : wrV d 2 x = d') :
    Calls Try.prog 44 #[.pointer (some ⟨g, 0, none⟩), .int .i64 2, .int .i64 m] w (Left B g t d' (.tuple #[]) w) := by
  have e : wrU d 2 m = d' := by rw [← hr, ← hm]; unfold wrV; rw [if_pos hk]
  rw [← e]
  exact uwrite2 (B := B) h hg m
theorem mwrite1_3 {B g : Nat} {t : TypeId} {d d' : Dev} {x m : Int} {w : World} (h : Held B g t d w) (hg : B ≤ g) (hd : Ok d) (hk : d.kind = 1) (hm : wrap32 x = m) (hr : wrV d 3 x = d') :
    Calls Try.prog 44 #[.pointer (some ⟨g, 0, none⟩), .int .i64 3, .int .i64 m] w (Left B g t d' (.tuple #[]) w) := by
  have e : wrU d 3 m = d' := by rw [← hr, ← hm]; unfold wrV; rw [if_pos hk]
  rw [← e]
  exact uwrite3 (B := B) h m
theorem mwrite2_0 {B g : Nat} {t : TypeId} {d d' : Dev} {x m : Int} {w : World} (h : Held B g t d w) (hg : B ≤ g) (hd : Ok d) (hk : d.kind = 2) (hm : wrap32 x = m) (hr : wrV d 0 x = d') :
    Calls Try.prog 51 #[.pointer (some ⟨g, 0, none⟩), .int .i64 0, .int .i64 m] w (Left B g t d' (.tuple #[]) w) := by
  have e : wrT d 0 m = d' := by rw [← hr, ← hm]; unfold wrV; rw [if_neg (by omega), if_pos hk]
  rw [← e]
  exact twrite0 (B := B) h m
theorem mwrite2_1 {B g : Nat} {t : TypeId} {d d' : Dev} {x m : Int} {w : World} (h : Held B g t d w) (hg : B ≤ g) (hd : Ok d) (hk : d.kind = 2) (hm : wrap32 x = m) (hr : wrV d 1 x = d') :
    Calls Try.prog 51 #[.pointer (some ⟨g, 0, none⟩), .int .i64 1, .int .i64 m] w (Left B g t d' (.tuple #[]) w) := by
  have e : wrT d 1 m = d' := by rw [← hr, ← hm]; unfold wrV; rw [if_neg (by omega), if_pos hk]
  rw [← e]
  exact twrite1 (B := B) h hg m
theorem mwrite2_2 {B g : Nat} {t : TypeId} {d d' : Dev} {x m : Int} {w : World} (h : Held B g t d w) (hg : B ≤ g) (hd : Ok d) (hk : d.kind = 2) (hm : wrap32 x = m) (hr : wrV d 2 x = d') :
    Calls Try.prog 51 #[.pointer (some ⟨g, 0, none⟩), .int .i64 2, .int .i64 m] w (Left B g t d' (.tuple #[]) w) := by
  have e : wrT d 2 m = d' := by rw [← hr, ← hm]; unfold wrV; rw [if_neg (by omega), if_pos hk]
  rw [← e]
  exact twrite2 (B := B) h hg m
theorem mwrite2_3 {B g : Nat} {t : TypeId} {d d' : Dev} {x m : Int} {w : World} (h : Held B g t d w) (hg : B ≤ g) (hd : Ok d) (hk : d.kind = 2) (hm : wrap32 x = m) (hr : wrV d 3 x = d') :
    Calls Try.prog 51 #[.pointer (some ⟨g, 0, none⟩), .int .i64 3, .int .i64 m] w (Left B g t d' (.tuple #[]) w) := by
  have e : wrT d 3 m = d' := by rw [← hr, ← hm]; unfold wrV; rw [if_neg (by omega), if_pos hk]
  rw [← e]
  exact twrite3 (B := B) h hg m
theorem mwrite3_0 {B g : Nat} {t : TypeId} {d d' : Dev} {x m : Int} {w : World} (h : Held B g t d w) (hg : B ≤ g) (hd : Ok d) (hk : d.kind = 3) (hm : wrap32 x = m) (hr : wrV d 0 x = d') :
    Calls Try.prog 54 #[.pointer (some ⟨g, 0, none⟩), .int .i64 0, .int .i64 m] w (Left B g t d' (.tuple #[]) w) := by
  have e : wrG d 0 m = d' := by rw [← hr, ← hm]; unfold wrV; rw [if_neg (by omega), if_neg (by omega)]
  rw [← e]
  exact gwrite0 (B := B) h hg m
theorem mwrite3_1 {B g : Nat} {t : TypeId} {d d' : Dev} {x m : Int} {w : World} (h : Held B g t d w) (hg : B ≤ g) (hd : Ok d) (hk : d.kind = 3) (hm : wrap32 x = m) (hr : wrV d 1 x = d') :
    Calls Try.prog 54 #[.pointer (some ⟨g, 0, none⟩), .int .i64 1, .int .i64 m] w (Left B g t d' (.tuple #[]) w) := by
  have e : wrG d 1 m = d' := by rw [← hr, ← hm]; unfold wrV; rw [if_neg (by omega), if_neg (by omega)]
  rw [← e]
  exact gwrite1 (B := B) h m
theorem mwrite3_2 {B g : Nat} {t : TypeId} {d d' : Dev} {x m : Int} {w : World} (h : Held B g t d w) (hg : B ≤ g) (hd : Ok d) (hk : d.kind = 3) (hm : wrap32 x = m) (hr : wrV d 2 x = d') :
    Calls Try.prog 54 #[.pointer (some ⟨g, 0, none⟩), .int .i64 2, .int .i64 m] w (Left B g t d' (.tuple #[]) w) := by
  have e : wrG d 2 m = d' := by rw [← hr, ← hm]; unfold wrV; rw [if_neg (by omega), if_neg (by omega)]
  rw [← e]
  exact gwrite2 (B := B) h hg m
theorem mwrite3_3 {B g : Nat} {t : TypeId} {d d' : Dev} {x m : Int} {w : World} (h : Held B g t d w) (hg : B ≤ g) (hd : Ok d) (hk : d.kind = 3) (hm : wrap32 x = m) (hr : wrV d 3 x = d') :
    Calls Try.prog 54 #[.pointer (some ⟨g, 0, none⟩), .int .i64 3, .int .i64 m] w (Left B g t d' (.tuple #[]) w) := by
  have e : wrG d 3 m = d' := by rw [← hr, ← hm]; unfold wrV; rw [if_neg (by omega), if_neg (by omega)]
  rw [← e]
  exact gwrite3 (B := B) h hg m
theorem minput1 {B g : Nat} {t : TypeId} {d d' : Dev} {x m : Int} {w : World} (h : Fresh B g t d w) (ht : t ≠ 3) (hg : B ≤ g) (hd : Ok d) (hk : d.kind = 1) (hm : wrap32 x = m) (hr : inV d x = d') :
    Calls Try.prog 40 #[.pointer (some ⟨g, 0, none⟩), .int .i64 m] w (Left B g t d' (.tuple #[]) w) := by
  have e : inU d m = d' := by rw [← hr, ← hm]; unfold inV; rw [if_pos hk]
  rw [← e]
  by_cases hl : d.q.length < 16
  · exact uinput_yes h ht hg hl m
  · exact uinput_no h.held hl m
theorem minput2 {B g : Nat} {t : TypeId} {d d' : Dev} {x m : Int} {w : World} (h : Fresh B g t d w) (ht : t ≠ 3) (hg : B ≤ g) (hd : Ok d) (hk : d.kind = 2) (hm : wrap32 x = m) (hr : inV d x = d') :
    Calls Try.prog 49 #[.pointer (some ⟨g, 0, none⟩), .int .i64 m] w (Left B g t d' (.tuple #[]) w) := by
  have e : inT d = d' := by rw [← hr]; unfold inV; rw [if_neg (by omega), if_pos hk]
  rw [← e]
  exact tinput h.held hg hd.r0 m
theorem minput3 {B g : Nat} {t : TypeId} {d d' : Dev} {x m : Int} {w : World} (h : Fresh B g t d w) (ht : t ≠ 3) (hg : B ≤ g) (hd : Ok d) (hk : d.kind = 3) (hm : wrap32 x = m) (hr : inV d x = d') :
    Calls Try.prog 53 #[.pointer (some ⟨g, 0, none⟩), .int .i64 m] w (Left B g t d' (.tuple #[]) w) := by
  have e : inG d m = d' := by rw [← hr, ← hm]; unfold inV; rw [if_neg (by omega), if_neg (by omega)]
  rw [← e]
  exact ginput h.held hg m
set_option maxRecDepth 100000 in
theorem write1_0 {w : World} {d : Dev} {v : Value} (x : Int) (h : StAt w v d) (hd : Ok d) (hk : d.kind = 1) :
    Calls Try.prog 13 #[v, .int .i64 0, .int .i64 x] w (OnePost (wrV d 0 x) w) := by
  obtain ⟨d', hrd⟩ : ∃ d', wrV d 0 x = d' := ⟨_, rfl⟩
  obtain ⟨m, hm⟩ : ∃ m, wrap32 x = m := ⟨_, rfl⟩
  have HM := Lib.hid hm
  clear hm
  rw [hrd]
  have HRD := Lib.hid hrd
  clear hrd
  obtain ⟨u, rfl, hQ⟩ := h
  obtain ⟨p, n, c, rfl⟩ := qat_slice hQ
  have hb1 : Bel w ((w.alloc (.cells #[.int .i64 (d.kind : Int), .int .i64 d.r0, .int .i64 d.r1, .int .i64 d.r2, .int .i64 d.r3, .slice p n c, .int .i64 d.sent, .bool d.up] 27)).alloc (.cells #[.int .i64 0, .int .i64 0, .int .i64 0, .int .i64 0, .int .i64 0, .slice none 0 0, .int .i64 0, .bool false] 27)) := ((Bel.refl w).alloc _ _).alloc _ _
  have hq1 := hQ.bel hb1
  have hx2 : ((w.alloc (.cells #[.int .i64 (d.kind : Int), .int .i64 d.r0, .int .i64 d.r1, .int .i64 d.r2, .int .i64 d.r3, .slice p n c, .int .i64 d.sent, .bool d.up] 27)).alloc (.cells #[.int .i64 0, .int .i64 0, .int .i64 0, .int .i64 0, .int .i64 0, .slice none 0 0, .int .i64 0, .bool false] 27)).heap[w.heap.size + 1]? = some (.cells #[.int .i64 0, .int .i64 0, .int .i64 0, .int .i64 0, .int .i64 0, .slice none 0 0, .int .i64 0, .bool false] 27 (0, 0)) := by
    have h1 := heap_alloc_new (w.alloc (.cells #[.int .i64 (d.kind : Int), .int .i64 d.r0, .int .i64 d.r1, .int .i64 d.r2, .int .i64 d.r3, .slice p n c, .int .i64 d.sent, .bool d.up] 27)) (.cells #[.int .i64 0, .int .i64 0, .int .i64 0, .int .i64 0, .int .i64 0, .slice none 0 0, .int .i64 0, .bool false] 27)
    rw [World.size_alloc] at h1
    exact h1
  have HL := Lib.hid hd.len
  have HD := Lib.hid hd
  have HK := Lib.hid hk
  clear hQ hd hk
  show Calls Try.prog 13 #[.agg #[.int .i64 (d.kind : Int), .int .i64 d.r0, .int .i64 d.r1, .int .i64 d.r2, .int .i64 d.r3, .slice p n c, .int .i64 d.sent, .bool d.up], .int .i64 0, .int .i64 x] w (OnePost d' w)
  have na : ∀ (a : Addr) (w : World), (nilAhead 185 58 (.pointer (some a)) "headstock/device.write").run Try.prog w = .ok (some false) w := fun a w => by kernel_rfl
  go_enter Try.func13, Try.ntmps13
  go_upto_region 1 with (fail)
  go_wp2_with fail
  generalize ((w.alloc (.cells #[.int .i64 (d.kind : Int), .int .i64 d.r0, .int .i64 d.r1, .int .i64 d.r2, .int .i64 d.r3, .slice p n c, .int .i64 d.sent, .bool d.up] 27)).alloc (.cells #[.int .i64 0, .int .i64 0, .int .i64 0, .int .i64 0, .int .i64 0, .slice none 0 0, .int .i64 0, .bool false] 27)) = W1 at hb1 hx2 hq1 ⊢
  have HB1 := Lib.hid hb1
  have HX2 := Lib.hid hx2
  have HQ1 := Lib.hid hq1
  obtain ⟨G2, hG2⟩ : ∃ G2, w.heap.size + 1 = G2 := ⟨_, rfl⟩
  rw [hG2] at hx2 ⊢
  have HG2 := Lib.hid hG2
  have HX2 := Lib.hid hx2
  clear hb1 hx2 hq1 hG2
  refine (model1 HQ1.out HL.out HK.out).mono ?_
  rintro e W2 ⟨g, rfl, hb2, hg, hF⟩
  have HB2 := Lib.hid hb2
  have HGE := Lib.hid hg
  have HF := Lib.hid hF
  have HX3 := Lib.hid (hb2.stays HX2.out)
  clear hb2 hg hF
  go_wp2_with (go_at_call 22; ((with_reducible refine (reg0 _).mono ?_); rintro e w' ⟨rfl, rfl⟩))
  go_still_tail 7, (by kernel_rfl)
  still_call ((wrap_lit HM.out _).mono fun e' w' h => ⟨h.1, h.2.symm⟩)
  repeat still_step
  refine wpStill_nil ?_
  change wpList _ _ _ _ _ W2.drew
  go_wp2_with fail
  refine (mwrite1_0 (B := W1.heap.size) (HF.out.held.drew) HGE.out HD.out HK.out HM.out HRD.out).mono ?_
  rintro e W3 ⟨rfl, hs3, p3, n3, c3, hB3, hQ3, hO3⟩
  have HS3 := Lib.hid hs3
  have HB3 := Lib.hid hB3
  have HQ3 := Lib.hid hQ3
  have HLT := Lib.hid (lt_of_heap HX2.out)
  have HX4 := Lib.hid ((hs3.block G2 (Nat.lt_of_lt_of_le HLT.out HB2.out.drew.size) (by have := HLT.out; omega)).trans HX3.out)
  have HO3 := Lib.hid hO3
  clear hs3 hB3 hQ3 hO3
  go_wp2_with fail
  refine (told_lit HB3.out).mono ?_
  rintro e W4 ⟨rfl, hb4⟩
  have HB4 := Lib.hid hb4
  have hx5 := hb4.stays HX4.out
  have HX5 := Lib.hid hx5
  have z0 := cell_of_heap hx5 0
  have z1 := cell_of_heap hx5 1
  have z2 := cell_of_heap hx5 2
  have z3 := cell_of_heap hx5 3
  have z4 := cell_of_heap hx5 4
  have z5 := cell_of_heap hx5 5
  have z6 := cell_of_heap hx5 6
  have z7 := cell_of_heap hx5 7
  have y0 := frozen_of_heap hx5 0
  have y1 := frozen_of_heap hx5 1
  have y2 := frozen_of_heap hx5 2
  have y3 := frozen_of_heap hx5 3
  have y4 := frozen_of_heap hx5 4
  have y5 := frozen_of_heap hx5 5
  have y6 := frozen_of_heap hx5 6
  have y7 := frozen_of_heap hx5 7
  simp only [List.getElem?_toArray, List.getElem?_cons_zero, List.getElem?_cons_succ] at z0 z1 z2 z3 z4 z5 z6 z7
  clear hb4 hx5
  go_wp2
  have hh := set8_heap HX5.out (.int .i64 (d'.kind : Int)) (.int .i64 d'.r0) (.int .i64 d'.r1) (.int .i64 d'.r2) (.int .i64 d'.r3) (.slice p3 n3 c3) (.int .i64 d'.sent) (.bool d'.up)
  have hs8 := set8_svg W4 G2 (.int .i64 (d'.kind : Int)) (.int .i64 d'.r0) (.int .i64 d'.r1) (.int .i64 d'.r2) (.int .i64 d'.r3) (.slice p3 n3 c3) (.int .i64 d'.sent) (.bool d'.up)
  have hw4 : Bel w W4 := (Ysv.bel HS3.out (HB1.out.trans HB2.out.drew) HB1.out.size).trans HB4.out
  refine bodyPost_ret (results_cell1 Try.results13 _ _ G2 _ _ _ _ rfl hh Try.underlying27 rfl (by kernel_rfl)) rfl ⟨_, rfl, hs8.bel hw4 (by have := HG2.out; omega), .slice p3 n3 c3, rfl, ?_⟩
  exact (HQ3.out.bel HB4.out).svg (B := W1.heap.size) hs8 (fun b o n c hv => ⟨(HO3.out b o n c hv).1, by have := (HO3.out b o n c hv).1; have := HLT.out; omega⟩)
set_option maxRecDepth 100000 in
theorem write1_1 {w : World} {d : Dev} {v : Value} (x : Int) (h : StAt w v d) (hd : Ok d) (hk : d.kind = 1) :
    Calls Try.prog 13 #[v, .int .i64 1, .int .i64 x] w (OnePost (wrV d 1 x) w) := by
  obtain ⟨d', hrd⟩ : ∃ d', wrV d 1 x = d' := ⟨_, rfl⟩
  obtain ⟨m, hm⟩ : ∃ m, wrap32 x = m := ⟨_, rfl⟩
  have HM := Lib.hid hm
  clear hm
  rw [hrd]
  have HRD := Lib.hid hrd
  clear hrd
  obtain ⟨u, rfl, hQ⟩ := h
  obtain ⟨p, n, c, rfl⟩ := qat_slice hQ
  have hb1 : Bel w ((w.alloc (.cells #[.int .i64 (d.kind : Int), .int .i64 d.r0, .int .i64 d.r1, .int .i64 d.r2, .int .i64 d.r3, .slice p n c, .int .i64 d.sent, .bool d.up] 27)).alloc (.cells #[.int .i64 0, .int .i64 0, .int .i64 0, .int .i64 0, .int .i64 0, .slice none 0 0, .int .i64 0, .bool false] 27)) := ((Bel.refl w).alloc _ _).alloc _ _
  have hq1 := hQ.bel hb1
  have hx2 : ((w.alloc (.cells #[.int .i64 (d.kind : Int), .int .i64 d.r0, .int .i64 d.r1, .int .i64 d.r2, .int .i64 d.r3, .slice p n c, .int .i64 d.sent, .bool d.up] 27)).alloc (.cells #[.int .i64 0, .int .i64 0, .int .i64 0, .int .i64 0, .int .i64 0, .slice none 0 0, .int .i64 0, .bool false] 27)).heap[w.heap.size + 1]? = some (.cells #[.int .i64 0, .int .i64 0, .int .i64 0, .int .i64 0, .int .i64 0, .slice none 0 0, .int .i64 0, .bool false] 27 (0, 0)) := by
    have h1 := heap_alloc_new (w.alloc (.cells #[.int .i64 (d.kind : Int), .int .i64 d.r0, .int .i64 d.r1, .int .i64 d.r2, .int .i64 d.r3, .slice p n c, .int .i64 d.sent, .bool d.up] 27)) (.cells #[.int .i64 0, .int .i64 0, .int .i64 0, .int .i64 0, .int .i64 0, .slice none 0 0, .int .i64 0, .bool false] 27)
    rw [World.size_alloc] at h1
    exact h1
  have HL := Lib.hid hd.len
  have HD := Lib.hid hd
  have HK := Lib.hid hk
  clear hQ hd hk
  show Calls Try.prog 13 #[.agg #[.int .i64 (d.kind : Int), .int .i64 d.r0, .int .i64 d.r1, .int .i64 d.r2, .int .i64 d.r3, .slice p n c, .int .i64 d.sent, .bool d.up], .int .i64 1, .int .i64 x] w (OnePost d' w)
  have na : ∀ (a : Addr) (w : World), (nilAhead 185 58 (.pointer (some a)) "headstock/device.write").run Try.prog w = .ok (some false) w := fun a w => by kernel_rfl
  go_enter Try.func13, Try.ntmps13
  go_upto_region 1 with (fail)
  go_wp2_with fail
  generalize ((w.alloc (.cells #[.int .i64 (d.kind : Int), .int .i64 d.r0, .int .i64 d.r1, .int .i64 d.r2, .int .i64 d.r3, .slice p n c, .int .i64 d.sent, .bool d.up] 27)).alloc (.cells #[.int .i64 0, .int .i64 0, .int .i64 0, .int .i64 0, .int .i64 0, .slice none 0 0, .int .i64 0, .bool false] 27)) = W1 at hb1 hx2 hq1 ⊢
  have HB1 := Lib.hid hb1
  have HX2 := Lib.hid hx2
  have HQ1 := Lib.hid hq1
  obtain ⟨G2, hG2⟩ : ∃ G2, w.heap.size + 1 = G2 := ⟨_, rfl⟩
  rw [hG2] at hx2 ⊢
  have HG2 := Lib.hid hG2
  have HX2 := Lib.hid hx2
  clear hb1 hx2 hq1 hG2
  refine (model1 HQ1.out HL.out HK.out).mono ?_
  rintro e W2 ⟨g, rfl, hb2, hg, hF⟩
  have HB2 := Lib.hid hb2
  have HGE := Lib.hid hg
  have HF := Lib.hid hF
  have HX3 := Lib.hid (hb2.stays HX2.out)
  clear hb2 hg hF
  go_wp2_with (go_at_call 22; ((with_reducible refine (reg1 _).mono ?_); rintro e w' ⟨rfl, rfl⟩))
  go_still_tail 7, (by kernel_rfl)
  still_call ((wrap_lit HM.out _).mono fun e' w' h => ⟨h.1, h.2.symm⟩)
  repeat still_step
  refine wpStill_nil ?_
  change wpList _ _ _ _ _ W2.drew
  go_wp2_with fail
  refine (mwrite1_1 (B := W1.heap.size) (HF.out.held.drew) HGE.out HD.out HK.out HM.out HRD.out).mono ?_
  rintro e W3 ⟨rfl, hs3, p3, n3, c3, hB3, hQ3, hO3⟩
  have HS3 := Lib.hid hs3
  have HB3 := Lib.hid hB3
  have HQ3 := Lib.hid hQ3
  have HLT := Lib.hid (lt_of_heap HX2.out)
  have HX4 := Lib.hid ((hs3.block G2 (Nat.lt_of_lt_of_le HLT.out HB2.out.drew.size) (by have := HLT.out; omega)).trans HX3.out)
  have HO3 := Lib.hid hO3
  clear hs3 hB3 hQ3 hO3
  go_wp2_with fail
  refine (told_lit HB3.out).mono ?_
  rintro e W4 ⟨rfl, hb4⟩
  have HB4 := Lib.hid hb4
  have hx5 := hb4.stays HX4.out
  have HX5 := Lib.hid hx5
  have z0 := cell_of_heap hx5 0
  have z1 := cell_of_heap hx5 1
  have z2 := cell_of_heap hx5 2
  have z3 := cell_of_heap hx5 3
  have z4 := cell_of_heap hx5 4
  have z5 := cell_of_heap hx5 5
  have z6 := cell_of_heap hx5 6
  have z7 := cell_of_heap hx5 7
  have y0 := frozen_of_heap hx5 0
  have y1 := frozen_of_heap hx5 1
  have y2 := frozen_of_heap hx5 2
  have y3 := frozen_of_heap hx5 3
  have y4 := frozen_of_heap hx5 4
  have y5 := frozen_of_heap hx5 5
  have y6 := frozen_of_heap hx5 6
  have y7 := frozen_of_heap hx5 7
  simp only [List.getElem?_toArray, List.getElem?_cons_zero, List.getElem?_cons_succ] at z0 z1 z2 z3 z4 z5 z6 z7
  clear hb4 hx5
  go_wp2
  have hh := set8_heap HX5.out (.int .i64 (d'.kind : Int)) (.int .i64 d'.r0) (.int .i64 d'.r1) (.int .i64 d'.r2) (.int .i64 d'.r3) (.slice p3 n3 c3) (.int .i64 d'.sent) (.bool d'.up)
  have hs8 := set8_svg W4 G2 (.int .i64 (d'.kind : Int)) (.int .i64 d'.r0) (.int .i64 d'.r1) (.int .i64 d'.r2) (.int .i64 d'.r3) (.slice p3 n3 c3) (.int .i64 d'.sent) (.bool d'.up)
  have hw4 : Bel w W4 := (Ysv.bel HS3.out (HB1.out.trans HB2.out.drew) HB1.out.size).trans HB4.out
  refine bodyPost_ret (results_cell1 Try.results13 _ _ G2 _ _ _ _ rfl hh Try.underlying27 rfl (by kernel_rfl)) rfl ⟨_, rfl, hs8.bel hw4 (by have := HG2.out; omega), .slice p3 n3 c3, rfl, ?_⟩
  exact (HQ3.out.bel HB4.out).svg (B := W1.heap.size) hs8 (fun b o n c hv => ⟨(HO3.out b o n c hv).1, by have := (HO3.out b o n c hv).1; have := HLT.out; omega⟩)
set_option maxRecDepth 100000 in
theorem write1_2 {w : World} {d : Dev} {v : Value} (x : Int) (h : StAt w v d) (hd : Ok d) (hk : d.kind = 1) :
    Calls Try.prog 13 #[v, .int .i64 2, .int .i64 x] w (OnePost (wrV d 2 x) w) := by
  obtain ⟨d', hrd⟩ : ∃ d', wrV d 2 x = d' := ⟨_, rfl⟩
  obtain ⟨m, hm⟩ : ∃ m, wrap32 x = m := ⟨_, rfl⟩
  have HM := Lib.hid hm
  clear hm
  rw [hrd]
  have HRD := Lib.hid hrd
  clear hrd
  obtain ⟨u, rfl, hQ⟩ := h
  obtain ⟨p, n, c, rfl⟩ := qat_slice hQ
  have hb1 : Bel w ((w.alloc (.cells #[.int .i64 (d.kind : Int), .int .i64 d.r0, .int .i64 d.r1, .int .i64 d.r2, .int .i64 d.r3, .slice p n c, .int .i64 d.sent, .bool d.up] 27)).alloc (.cells #[.int .i64 0, .int .i64 0, .int .i64 0, .int .i64 0, .int .i64 0, .slice none 0 0, .int .i64 0, .bool false] 27)) := ((Bel.refl w).alloc _ _).alloc _ _
  have hq1 := hQ.bel hb1
  have hx2 : ((w.alloc (.cells #[.int .i64 (d.kind : Int), .int .i64 d.r0, .int .i64 d.r1, .int .i64 d.r2, .int .i64 d.r3, .slice p n c, .int .i64 d.sent, .bool d.up] 27)).alloc (.cells #[.int .i64 0, .int .i64 0, .int .i64 0, .int .i64 0, .int .i64 0, .slice none 0 0, .int .i64 0, .bool false] 27)).heap[w.heap.size + 1]? = some (.cells #[.int .i64 0, .int .i64 0, .int .i64 0, .int .i64 0, .int .i64 0, .slice none 0 0, .int .i64 0, .bool false] 27 (0, 0)) := by
    have h1 := heap_alloc_new (w.alloc (.cells #[.int .i64 (d.kind : Int), .int .i64 d.r0, .int .i64 d.r1, .int .i64 d.r2, .int .i64 d.r3, .slice p n c, .int .i64 d.sent, .bool d.up] 27)) (.cells #[.int .i64 0, .int .i64 0, .int .i64 0, .int .i64 0, .int .i64 0, .slice none 0 0, .int .i64 0, .bool false] 27)
    rw [World.size_alloc] at h1
    exact h1
  have HL := Lib.hid hd.len
  have HD := Lib.hid hd
  have HK := Lib.hid hk
  clear hQ hd hk
  show Calls Try.prog 13 #[.agg #[.int .i64 (d.kind : Int), .int .i64 d.r0, .int .i64 d.r1, .int .i64 d.r2, .int .i64 d.r3, .slice p n c, .int .i64 d.sent, .bool d.up], .int .i64 2, .int .i64 x] w (OnePost d' w)
  have na : ∀ (a : Addr) (w : World), (nilAhead 185 58 (.pointer (some a)) "headstock/device.write").run Try.prog w = .ok (some false) w := fun a w => by kernel_rfl
  go_enter Try.func13, Try.ntmps13
  go_upto_region 1 with (fail)
  go_wp2_with fail
  generalize ((w.alloc (.cells #[.int .i64 (d.kind : Int), .int .i64 d.r0, .int .i64 d.r1, .int .i64 d.r2, .int .i64 d.r3, .slice p n c, .int .i64 d.sent, .bool d.up] 27)).alloc (.cells #[.int .i64 0, .int .i64 0, .int .i64 0, .int .i64 0, .int .i64 0, .slice none 0 0, .int .i64 0, .bool false] 27)) = W1 at hb1 hx2 hq1 ⊢
  have HB1 := Lib.hid hb1
  have HX2 := Lib.hid hx2
  have HQ1 := Lib.hid hq1
  obtain ⟨G2, hG2⟩ : ∃ G2, w.heap.size + 1 = G2 := ⟨_, rfl⟩
  rw [hG2] at hx2 ⊢
  have HG2 := Lib.hid hG2
  have HX2 := Lib.hid hx2
  clear hb1 hx2 hq1 hG2
  refine (model1 HQ1.out HL.out HK.out).mono ?_
  rintro e W2 ⟨g, rfl, hb2, hg, hF⟩
  have HB2 := Lib.hid hb2
  have HGE := Lib.hid hg
  have HF := Lib.hid hF
  have HX3 := Lib.hid (hb2.stays HX2.out)
  clear hb2 hg hF
  go_wp2_with (go_at_call 22; ((with_reducible refine (reg2 _).mono ?_); rintro e w' ⟨rfl, rfl⟩))
  go_still_tail 7, (by kernel_rfl)
  still_call ((wrap_lit HM.out _).mono fun e' w' h => ⟨h.1, h.2.symm⟩)
  repeat still_step
  refine wpStill_nil ?_
  change wpList _ _ _ _ _ W2.drew
  go_wp2_with fail
  refine (mwrite1_2 (B := W1.heap.size) (HF.out.held.drew) HGE.out HD.out HK.out HM.out HRD.out).mono ?_
  rintro e W3 ⟨rfl, hs3, p3, n3, c3, hB3, hQ3, hO3⟩
  have HS3 := Lib.hid hs3
  have HB3 := Lib.hid hB3
  have HQ3 := Lib.hid hQ3
  have HLT := Lib.hid (lt_of_heap HX2.out)
  have HX4 := Lib.hid ((hs3.block G2 (Nat.lt_of_lt_of_le HLT.out HB2.out.drew.size) (by have := HLT.out; omega)).trans HX3.out)
  have HO3 := Lib.hid hO3
  clear hs3 hB3 hQ3 hO3
  go_wp2_with fail
  refine (told_lit HB3.out).mono ?_
  rintro e W4 ⟨rfl, hb4⟩
  have HB4 := Lib.hid hb4
  have hx5 := hb4.stays HX4.out
  have HX5 := Lib.hid hx5
  have z0 := cell_of_heap hx5 0
  have z1 := cell_of_heap hx5 1
  have z2 := cell_of_heap hx5 2
  have z3 := cell_of_heap hx5 3
  have z4 := cell_of_heap hx5 4
  have z5 := cell_of_heap hx5 5
  have z6 := cell_of_heap hx5 6
  have z7 := cell_of_heap hx5 7
  have y0 := frozen_of_heap hx5 0
  have y1 := frozen_of_heap hx5 1
  have y2 := frozen_of_heap hx5 2
  have y3 := frozen_of_heap hx5 3
  have y4 := frozen_of_heap hx5 4
  have y5 := frozen_of_heap hx5 5
  have y6 := frozen_of_heap hx5 6
  have y7 := frozen_of_heap hx5 7
  simp only [List.getElem?_toArray, List.getElem?_cons_zero, List.getElem?_cons_succ] at z0 z1 z2 z3 z4 z5 z6 z7
  clear hb4 hx5
  go_wp2
  have hh := set8_heap HX5.out (.int .i64 (d'.kind : Int)) (.int .i64 d'.r0) (.int .i64 d'.r1) (.int .i64 d'.r2) (.int .i64 d'.r3) (.slice p3 n3 c3) (.int .i64 d'.sent) (.bool d'.up)
  have hs8 := set8_svg W4 G2 (.int .i64 (d'.kind : Int)) (.int .i64 d'.r0) (.int .i64 d'.r1) (.int .i64 d'.r2) (.int .i64 d'.r3) (.slice p3 n3 c3) (.int .i64 d'.sent) (.bool d'.up)
  have hw4 : Bel w W4 := (Ysv.bel HS3.out (HB1.out.trans HB2.out.drew) HB1.out.size).trans HB4.out
  refine bodyPost_ret (results_cell1 Try.results13 _ _ G2 _ _ _ _ rfl hh Try.underlying27 rfl (by kernel_rfl)) rfl ⟨_, rfl, hs8.bel hw4 (by have := HG2.out; omega), .slice p3 n3 c3, rfl, ?_⟩
  exact (HQ3.out.bel HB4.out).svg (B := W1.heap.size) hs8 (fun b o n c hv => ⟨(HO3.out b o n c hv).1, by have := (HO3.out b o n c hv).1; have := HLT.out; omega⟩)
set_option maxRecDepth 100000 in
theorem write1_3 {w : World} {d : Dev} {v : Value} (x : Int) (h : StAt w v d) (hd : Ok d) (hk : d.kind = 1) :
    Calls Try.prog 13 #[v, .int .i64 3, .int .i64 x] w (OnePost (wrV d 3 x) w) := by
  obtain ⟨d', hrd⟩ : ∃ d', wrV d 3 x = d' := ⟨_, rfl⟩
  obtain ⟨m, hm⟩ : ∃ m, wrap32 x = m := ⟨_, rfl⟩
  have HM := Lib.hid hm
  clear hm
  rw [hrd]
  have HRD := Lib.hid hrd
  clear hrd
  obtain ⟨u, rfl, hQ⟩ := h
  obtain ⟨p, n, c, rfl⟩ := qat_slice hQ
  have hb1 : Bel w ((w.alloc (.cells #[.int .i64 (d.kind : Int), .int .i64 d.r0, .int .i64 d.r1, .int .i64 d.r2, .int .i64 d.r3, .slice p n c, .int .i64 d.sent, .bool d.up] 27)).alloc (.cells #[.int .i64 0, .int .i64 0, .int .i64 0, .int .i64 0, .int .i64 0, .slice none 0 0, .int .i64 0, .bool false] 27)) := ((Bel.refl w).alloc _ _).alloc _ _
  have hq1 := hQ.bel hb1
  have hx2 : ((w.alloc (.cells #[.int .i64 (d.kind : Int), .int .i64 d.r0, .int .i64 d.r1, .int .i64 d.r2, .int .i64 d.r3, .slice p n c, .int .i64 d.sent, .bool d.up] 27)).alloc (.cells #[.int .i64 0, .int .i64 0, .int .i64 0, .int .i64 0, .int .i64 0, .slice none 0 0, .int .i64 0, .bool false] 27)).heap[w.heap.size + 1]? = some (.cells #[.int .i64 0, .int .i64 0, .int .i64 0, .int .i64 0, .int .i64 0, .slice none 0 0, .int .i64 0, .bool false] 27 (0, 0)) := by
    have h1 := heap_alloc_new (w.alloc (.cells #[.int .i64 (d.kind : Int), .int .i64 d.r0, .int .i64 d.r1, .int .i64 d.r2, .int .i64 d.r3, .slice p n c, .int .i64 d.sent, .bool d.up] 27)) (.cells #[.int .i64 0, .int .i64 0, .int .i64 0, .int .i64 0, .int .i64 0, .slice none 0 0, .int .i64 0, .bool false] 27)
    rw [World.size_alloc] at h1
    exact h1
  have HL := Lib.hid hd.len
  have HD := Lib.hid hd
  have HK := Lib.hid hk
  clear hQ hd hk
  show Calls Try.prog 13 #[.agg #[.int .i64 (d.kind : Int), .int .i64 d.r0, .int .i64 d.r1, .int .i64 d.r2, .int .i64 d.r3, .slice p n c, .int .i64 d.sent, .bool d.up], .int .i64 3, .int .i64 x] w (OnePost d' w)
  have na : ∀ (a : Addr) (w : World), (nilAhead 185 58 (.pointer (some a)) "headstock/device.write").run Try.prog w = .ok (some false) w := fun a w => by kernel_rfl
  go_enter Try.func13, Try.ntmps13
  go_upto_region 1 with (fail)
  go_wp2_with fail
  generalize ((w.alloc (.cells #[.int .i64 (d.kind : Int), .int .i64 d.r0, .int .i64 d.r1, .int .i64 d.r2, .int .i64 d.r3, .slice p n c, .int .i64 d.sent, .bool d.up] 27)).alloc (.cells #[.int .i64 0, .int .i64 0, .int .i64 0, .int .i64 0, .int .i64 0, .slice none 0 0, .int .i64 0, .bool false] 27)) = W1 at hb1 hx2 hq1 ⊢
  have HB1 := Lib.hid hb1
  have HX2 := Lib.hid hx2
  have HQ1 := Lib.hid hq1
  obtain ⟨G2, hG2⟩ : ∃ G2, w.heap.size + 1 = G2 := ⟨_, rfl⟩
  rw [hG2] at hx2 ⊢
  have HG2 := Lib.hid hG2
  have HX2 := Lib.hid hx2
  clear hb1 hx2 hq1 hG2
  refine (model1 HQ1.out HL.out HK.out).mono ?_
  rintro e W2 ⟨g, rfl, hb2, hg, hF⟩
  have HB2 := Lib.hid hb2
  have HGE := Lib.hid hg
  have HF := Lib.hid hF
  have HX3 := Lib.hid (hb2.stays HX2.out)
  clear hb2 hg hF
  go_wp2_with (go_at_call 22; ((with_reducible refine (reg3 _).mono ?_); rintro e w' ⟨rfl, rfl⟩))
  go_still_tail 7, (by kernel_rfl)
  still_call ((wrap_lit HM.out _).mono fun e' w' h => ⟨h.1, h.2.symm⟩)
  repeat still_step
  refine wpStill_nil ?_
  change wpList _ _ _ _ _ W2.drew
  go_wp2_with fail
  refine (mwrite1_3 (B := W1.heap.size) (HF.out.held.drew) HGE.out HD.out HK.out HM.out HRD.out).mono ?_
  rintro e W3 ⟨rfl, hs3, p3, n3, c3, hB3, hQ3, hO3⟩
  have HS3 := Lib.hid hs3
  have HB3 := Lib.hid hB3
  have HQ3 := Lib.hid hQ3
  have HLT := Lib.hid (lt_of_heap HX2.out)
  have HX4 := Lib.hid ((hs3.block G2 (Nat.lt_of_lt_of_le HLT.out HB2.out.drew.size) (by have := HLT.out; omega)).trans HX3.out)
  have HO3 := Lib.hid hO3
  clear hs3 hB3 hQ3 hO3
  go_wp2_with fail
  refine (told_lit HB3.out).mono ?_
  rintro e W4 ⟨rfl, hb4⟩
  have HB4 := Lib.hid hb4
  have hx5 := hb4.stays HX4.out
  have HX5 := Lib.hid hx5
  have z0 := cell_of_heap hx5 0
  have z1 := cell_of_heap hx5 1
  have z2 := cell_of_heap hx5 2
  have z3 := cell_of_heap hx5 3
  have z4 := cell_of_heap hx5 4
  have z5 := cell_of_heap hx5 5
  have z6 := cell_of_heap hx5 6
  have z7 := cell_of_heap hx5 7
  have y0 := frozen_of_heap hx5 0
  have y1 := frozen_of_heap hx5 1
  have y2 := frozen_of_heap hx5 2
  have y3 := frozen_of_heap hx5 3
  have y4 := frozen_of_heap hx5 4
  have y5 := frozen_of_heap hx5 5
  have y6 := frozen_of_heap hx5 6
  have y7 := frozen_of_heap hx5 7
  simp only [List.getElem?_toArray, List.getElem?_cons_zero, List.getElem?_cons_succ] at z0 z1 z2 z3 z4 z5 z6 z7
  clear hb4 hx5
  go_wp2
  have hh := set8_heap HX5.out (.int .i64 (d'.kind : Int)) (.int .i64 d'.r0) (.int .i64 d'.r1) (.int .i64 d'.r2) (.int .i64 d'.r3) (.slice p3 n3 c3) (.int .i64 d'.sent) (.bool d'.up)
  have hs8 := set8_svg W4 G2 (.int .i64 (d'.kind : Int)) (.int .i64 d'.r0) (.int .i64 d'.r1) (.int .i64 d'.r2) (.int .i64 d'.r3) (.slice p3 n3 c3) (.int .i64 d'.sent) (.bool d'.up)
  have hw4 : Bel w W4 := (Ysv.bel HS3.out (HB1.out.trans HB2.out.drew) HB1.out.size).trans HB4.out
  refine bodyPost_ret (results_cell1 Try.results13 _ _ G2 _ _ _ _ rfl hh Try.underlying27 rfl (by kernel_rfl)) rfl ⟨_, rfl, hs8.bel hw4 (by have := HG2.out; omega), .slice p3 n3 c3, rfl, ?_⟩
  exact (HQ3.out.bel HB4.out).svg (B := W1.heap.size) hs8 (fun b o n c hv => ⟨(HO3.out b o n c hv).1, by have := (HO3.out b o n c hv).1; have := HLT.out; omega⟩)
set_option maxRecDepth 100000 in
theorem write2_0 {w : World} {d : Dev} {v : Value} (x : Int) (h : StAt w v d) (hd : Ok d) (hk : d.kind = 2) :
    Calls Try.prog 13 #[v, .int .i64 0, .int .i64 x] w (OnePost (wrV d 0 x) w) := by
  obtain ⟨d', hrd⟩ : ∃ d', wrV d 0 x = d' := ⟨_, rfl⟩
  obtain ⟨m, hm⟩ : ∃ m, wrap32 x = m := ⟨_, rfl⟩
  have HM := Lib.hid hm
  clear hm
  rw [hrd]
  have HRD := Lib.hid hrd
  clear hrd
  obtain ⟨u, rfl, hQ⟩ := h
  obtain ⟨p, n, c, rfl⟩ := qat_slice hQ
  have hb1 : Bel w ((w.alloc (.cells #[.int .i64 (d.kind : Int), .int .i64 d.r0, .int .i64 d.r1, .int .i64 d.r2, .int .i64 d.r3, .slice p n c, .int .i64 d.sent, .bool d.up] 27)).alloc (.cells #[.int .i64 0, .int .i64 0, .int .i64 0, .int .i64 0, .int .i64 0, .slice none 0 0, .int .i64 0, .bool false] 27)) := ((Bel.refl w).alloc _ _).alloc _ _
  have hq1 := hQ.bel hb1
  have hx2 : ((w.alloc (.cells #[.int .i64 (d.kind : Int), .int .i64 d.r0, .int .i64 d.r1, .int .i64 d.r2, .int .i64 d.r3, .slice p n c, .int .i64 d.sent, .bool d.up] 27)).alloc (.cells #[.int .i64 0, .int .i64 0, .int .i64 0, .int .i64 0, .int .i64 0, .slice none 0 0, .int .i64 0, .bool false] 27)).heap[w.heap.size + 1]? = some (.cells #[.int .i64 0, .int .i64 0, .int .i64 0, .int .i64 0, .int .i64 0, .slice none 0 0, .int .i64 0, .bool false] 27 (0, 0)) := by
    have h1 := heap_alloc_new (w.alloc (.cells #[.int .i64 (d.kind : Int), .int .i64 d.r0, .int .i64 d.r1, .int .i64 d.r2, .int .i64 d.r3, .slice p n c, .int .i64 d.sent, .bool d.up] 27)) (.cells #[.int .i64 0, .int .i64 0, .int .i64 0, .int .i64 0, .int .i64 0, .slice none 0 0, .int .i64 0, .bool false] 27)
    rw [World.size_alloc] at h1
    exact h1
  have HL := Lib.hid hd.len
  have HD := Lib.hid hd
  have HK := Lib.hid hk
  clear hQ hd hk
  show Calls Try.prog 13 #[.agg #[.int .i64 (d.kind : Int), .int .i64 d.r0, .int .i64 d.r1, .int .i64 d.r2, .int .i64 d.r3, .slice p n c, .int .i64 d.sent, .bool d.up], .int .i64 0, .int .i64 x] w (OnePost d' w)
  have na : ∀ (a : Addr) (w : World), (nilAhead 185 61 (.pointer (some a)) "headstock/device.write").run Try.prog w = .ok (some false) w := fun a w => by kernel_rfl
  go_enter Try.func13, Try.ntmps13
  go_upto_region 1 with (fail)
  go_wp2_with fail
  generalize ((w.alloc (.cells #[.int .i64 (d.kind : Int), .int .i64 d.r0, .int .i64 d.r1, .int .i64 d.r2, .int .i64 d.r3, .slice p n c, .int .i64 d.sent, .bool d.up] 27)).alloc (.cells #[.int .i64 0, .int .i64 0, .int .i64 0, .int .i64 0, .int .i64 0, .slice none 0 0, .int .i64 0, .bool false] 27)) = W1 at hb1 hx2 hq1 ⊢
  have HB1 := Lib.hid hb1
  have HX2 := Lib.hid hx2
  have HQ1 := Lib.hid hq1
  obtain ⟨G2, hG2⟩ : ∃ G2, w.heap.size + 1 = G2 := ⟨_, rfl⟩
  rw [hG2] at hx2 ⊢
  have HG2 := Lib.hid hG2
  have HX2 := Lib.hid hx2
  clear hb1 hx2 hq1 hG2
  refine (model2 HQ1.out HL.out HK.out).mono ?_
  rintro e W2 ⟨g, rfl, hb2, hg, hF⟩
  have HB2 := Lib.hid hb2
  have HGE := Lib.hid hg
  have HF := Lib.hid hF
  have HX3 := Lib.hid (hb2.stays HX2.out)
  clear hb2 hg hF
  go_wp2_with (go_at_call 22; ((with_reducible refine (reg0 _).mono ?_); rintro e w' ⟨rfl, rfl⟩))
  go_still_tail 7, (by kernel_rfl)
  still_call ((wrap_lit HM.out _).mono fun e' w' h => ⟨h.1, h.2.symm⟩)
  repeat still_step
  refine wpStill_nil ?_
  change wpList _ _ _ _ _ W2.drew
  go_wp2_with fail
  refine (mwrite2_0 (B := W1.heap.size) (HF.out.held.drew) HGE.out HD.out HK.out HM.out HRD.out).mono ?_
  rintro e W3 ⟨rfl, hs3, p3, n3, c3, hB3, hQ3, hO3⟩
  have HS3 := Lib.hid hs3
  have HB3 := Lib.hid hB3
  have HQ3 := Lib.hid hQ3
  have HLT := Lib.hid (lt_of_heap HX2.out)
  have HX4 := Lib.hid ((hs3.block G2 (Nat.lt_of_lt_of_le HLT.out HB2.out.drew.size) (by have := HLT.out; omega)).trans HX3.out)
  have HO3 := Lib.hid hO3
  clear hs3 hB3 hQ3 hO3
  go_wp2_with fail
  refine (told_lit HB3.out).mono ?_
  rintro e W4 ⟨rfl, hb4⟩
  have HB4 := Lib.hid hb4
  have hx5 := hb4.stays HX4.out
  have HX5 := Lib.hid hx5
  have z0 := cell_of_heap hx5 0
  have z1 := cell_of_heap hx5 1
  have z2 := cell_of_heap hx5 2
  have z3 := cell_of_heap hx5 3
  have z4 := cell_of_heap hx5 4
  have z5 := cell_of_heap hx5 5
  have z6 := cell_of_heap hx5 6
  have z7 := cell_of_heap hx5 7
  have y0 := frozen_of_heap hx5 0
  have y1 := frozen_of_heap hx5 1
  have y2 := frozen_of_heap hx5 2
  have y3 := frozen_of_heap hx5 3
  have y4 := frozen_of_heap hx5 4
  have y5 := frozen_of_heap hx5 5
  have y6 := frozen_of_heap hx5 6
  have y7 := frozen_of_heap hx5 7
  simp only [List.getElem?_toArray, List.getElem?_cons_zero, List.getElem?_cons_succ] at z0 z1 z2 z3 z4 z5 z6 z7
  clear hb4 hx5
  go_wp2
  have hh := set8_heap HX5.out (.int .i64 (d'.kind : Int)) (.int .i64 d'.r0) (.int .i64 d'.r1) (.int .i64 d'.r2) (.int .i64 d'.r3) (.slice p3 n3 c3) (.int .i64 d'.sent) (.bool d'.up)
  have hs8 := set8_svg W4 G2 (.int .i64 (d'.kind : Int)) (.int .i64 d'.r0) (.int .i64 d'.r1) (.int .i64 d'.r2) (.int .i64 d'.r3) (.slice p3 n3 c3) (.int .i64 d'.sent) (.bool d'.up)
  have hw4 : Bel w W4 := (Ysv.bel HS3.out (HB1.out.trans HB2.out.drew) HB1.out.size).trans HB4.out
  refine bodyPost_ret (results_cell1 Try.results13 _ _ G2 _ _ _ _ rfl hh Try.underlying27 rfl (by kernel_rfl)) rfl ⟨_, rfl, hs8.bel hw4 (by have := HG2.out; omega), .slice p3 n3 c3, rfl, ?_⟩
  exact (HQ3.out.bel HB4.out).svg (B := W1.heap.size) hs8 (fun b o n c hv => ⟨(HO3.out b o n c hv).1, by have := (HO3.out b o n c hv).1; have := HLT.out; omega⟩)
set_option maxRecDepth 100000 in
theorem write2_1 {w : World} {d : Dev} {v : Value} (x : Int) (h : StAt w v d) (hd : Ok d) (hk : d.kind = 2) :
    Calls Try.prog 13 #[v, .int .i64 1, .int .i64 x] w (OnePost (wrV d 1 x) w) := by
  obtain ⟨d', hrd⟩ : ∃ d', wrV d 1 x = d' := ⟨_, rfl⟩
  obtain ⟨m, hm⟩ : ∃ m, wrap32 x = m := ⟨_, rfl⟩
  have HM := Lib.hid hm
  clear hm
  rw [hrd]
  have HRD := Lib.hid hrd
  clear hrd
  obtain ⟨u, rfl, hQ⟩ := h
  obtain ⟨p, n, c, rfl⟩ := qat_slice hQ
  have hb1 : Bel w ((w.alloc (.cells #[.int .i64 (d.kind : Int), .int .i64 d.r0, .int .i64 d.r1, .int .i64 d.r2, .int .i64 d.r3, .slice p n c, .int .i64 d.sent, .bool d.up] 27)).alloc (.cells #[.int .i64 0, .int .i64 0, .int .i64 0, .int .i64 0, .int .i64 0, .slice none 0 0, .int .i64 0, .bool false] 27)) := ((Bel.refl w).alloc _ _).alloc _ _
  have hq1 := hQ.bel hb1
  have hx2 : ((w.alloc (.cells #[.int .i64 (d.kind : Int), .int .i64 d.r0, .int .i64 d.r1, .int .i64 d.r2, .int .i64 d.r3, .slice p n c, .int .i64 d.sent, .bool d.up] 27)).alloc (.cells #[.int .i64 0, .int .i64 0, .int .i64 0, .int .i64 0, .int .i64 0, .slice none 0 0, .int .i64 0, .bool false] 27)).heap[w.heap.size + 1]? = some (.cells #[.int .i64 0, .int .i64 0, .int .i64 0, .int .i64 0, .int .i64 0, .slice none 0 0, .int .i64 0, .bool false] 27 (0, 0)) := by
    have h1 := heap_alloc_new (w.alloc (.cells #[.int .i64 (d.kind : Int), .int .i64 d.r0, .int .i64 d.r1, .int .i64 d.r2, .int .i64 d.r3, .slice p n c, .int .i64 d.sent, .bool d.up] 27)) (.cells #[.int .i64 0, .int .i64 0, .int .i64 0, .int .i64 0, .int .i64 0, .slice none 0 0, .int .i64 0, .bool false] 27)
    rw [World.size_alloc] at h1
    exact h1
  have HL := Lib.hid hd.len
  have HD := Lib.hid hd
  have HK := Lib.hid hk
  clear hQ hd hk
  show Calls Try.prog 13 #[.agg #[.int .i64 (d.kind : Int), .int .i64 d.r0, .int .i64 d.r1, .int .i64 d.r2, .int .i64 d.r3, .slice p n c, .int .i64 d.sent, .bool d.up], .int .i64 1, .int .i64 x] w (OnePost d' w)
  have na : ∀ (a : Addr) (w : World), (nilAhead 185 61 (.pointer (some a)) "headstock/device.write").run Try.prog w = .ok (some false) w := fun a w => by kernel_rfl
  go_enter Try.func13, Try.ntmps13
  go_upto_region 1 with (fail)
  go_wp2_with fail
  generalize ((w.alloc (.cells #[.int .i64 (d.kind : Int), .int .i64 d.r0, .int .i64 d.r1, .int .i64 d.r2, .int .i64 d.r3, .slice p n c, .int .i64 d.sent, .bool d.up] 27)).alloc (.cells #[.int .i64 0, .int .i64 0, .int .i64 0, .int .i64 0, .int .i64 0, .slice none 0 0, .int .i64 0, .bool false] 27)) = W1 at hb1 hx2 hq1 ⊢
  have HB1 := Lib.hid hb1
  have HX2 := Lib.hid hx2
  have HQ1 := Lib.hid hq1
  obtain ⟨G2, hG2⟩ : ∃ G2, w.heap.size + 1 = G2 := ⟨_, rfl⟩
  rw [hG2] at hx2 ⊢
  have HG2 := Lib.hid hG2
  have HX2 := Lib.hid hx2
  clear hb1 hx2 hq1 hG2
  refine (model2 HQ1.out HL.out HK.out).mono ?_
  rintro e W2 ⟨g, rfl, hb2, hg, hF⟩
  have HB2 := Lib.hid hb2
  have HGE := Lib.hid hg
  have HF := Lib.hid hF
  have HX3 := Lib.hid (hb2.stays HX2.out)
  clear hb2 hg hF
  go_wp2_with (go_at_call 22; ((with_reducible refine (reg1 _).mono ?_); rintro e w' ⟨rfl, rfl⟩))
  go_still_tail 7, (by kernel_rfl)
  still_call ((wrap_lit HM.out _).mono fun e' w' h => ⟨h.1, h.2.symm⟩)
  repeat still_step
  refine wpStill_nil ?_
  change wpList _ _ _ _ _ W2.drew
  go_wp2_with fail
  refine (mwrite2_1 (B := W1.heap.size) (HF.out.held.drew) HGE.out HD.out HK.out HM.out HRD.out).mono ?_
  rintro e W3 ⟨rfl, hs3, p3, n3, c3, hB3, hQ3, hO3⟩
  have HS3 := Lib.hid hs3
  have HB3 := Lib.hid hB3
  have HQ3 := Lib.hid hQ3
  have HLT := Lib.hid (lt_of_heap HX2.out)
  have HX4 := Lib.hid ((hs3.block G2 (Nat.lt_of_lt_of_le HLT.out HB2.out.drew.size) (by have := HLT.out; omega)).trans HX3.out)
  have HO3 := Lib.hid hO3
  clear hs3 hB3 hQ3 hO3
  go_wp2_with fail
  refine (told_lit HB3.out).mono ?_
  rintro e W4 ⟨rfl, hb4⟩
  have HB4 := Lib.hid hb4
  have hx5 := hb4.stays HX4.out
  have HX5 := Lib.hid hx5
  have z0 := cell_of_heap hx5 0
  have z1 := cell_of_heap hx5 1
  have z2 := cell_of_heap hx5 2
  have z3 := cell_of_heap hx5 3
  have z4 := cell_of_heap hx5 4
  have z5 := cell_of_heap hx5 5
  have z6 := cell_of_heap hx5 6
  have z7 := cell_of_heap hx5 7
  have y0 := frozen_of_heap hx5 0
  have y1 := frozen_of_heap hx5 1
  have y2 := frozen_of_heap hx5 2
  have y3 := frozen_of_heap hx5 3
  have y4 := frozen_of_heap hx5 4
  have y5 := frozen_of_heap hx5 5
  have y6 := frozen_of_heap hx5 6
  have y7 := frozen_of_heap hx5 7
  simp only [List.getElem?_toArray, List.getElem?_cons_zero, List.getElem?_cons_succ] at z0 z1 z2 z3 z4 z5 z6 z7
  clear hb4 hx5
  go_wp2
  have hh := set8_heap HX5.out (.int .i64 (d'.kind : Int)) (.int .i64 d'.r0) (.int .i64 d'.r1) (.int .i64 d'.r2) (.int .i64 d'.r3) (.slice p3 n3 c3) (.int .i64 d'.sent) (.bool d'.up)
  have hs8 := set8_svg W4 G2 (.int .i64 (d'.kind : Int)) (.int .i64 d'.r0) (.int .i64 d'.r1) (.int .i64 d'.r2) (.int .i64 d'.r3) (.slice p3 n3 c3) (.int .i64 d'.sent) (.bool d'.up)
  have hw4 : Bel w W4 := (Ysv.bel HS3.out (HB1.out.trans HB2.out.drew) HB1.out.size).trans HB4.out
  refine bodyPost_ret (results_cell1 Try.results13 _ _ G2 _ _ _ _ rfl hh Try.underlying27 rfl (by kernel_rfl)) rfl ⟨_, rfl, hs8.bel hw4 (by have := HG2.out; omega), .slice p3 n3 c3, rfl, ?_⟩
  exact (HQ3.out.bel HB4.out).svg (B := W1.heap.size) hs8 (fun b o n c hv => ⟨(HO3.out b o n c hv).1, by have := (HO3.out b o n c hv).1; have := HLT.out; omega⟩)
set_option maxRecDepth 100000 in
theorem write2_2 {w : World} {d : Dev} {v : Value} (x : Int) (h : StAt w v d) (hd : Ok d) (hk : d.kind = 2) :
    Calls Try.prog 13 #[v, .int .i64 2, .int .i64 x] w (OnePost (wrV d 2 x) w) := by
  obtain ⟨d', hrd⟩ : ∃ d', wrV d 2 x = d' := ⟨_, rfl⟩
  obtain ⟨m, hm⟩ : ∃ m, wrap32 x = m := ⟨_, rfl⟩
  have HM := Lib.hid hm
  clear hm
  rw [hrd]
  have HRD := Lib.hid hrd
  clear hrd
  obtain ⟨u, rfl, hQ⟩ := h
  obtain ⟨p, n, c, rfl⟩ := qat_slice hQ
  have hb1 : Bel w ((w.alloc (.cells #[.int .i64 (d.kind : Int), .int .i64 d.r0, .int .i64 d.r1, .int .i64 d.r2, .int .i64 d.r3, .slice p n c, .int .i64 d.sent, .bool d.up] 27)).alloc (.cells #[.int .i64 0, .int .i64 0, .int .i64 0, .int .i64 0, .int .i64 0, .slice none 0 0, .int .i64 0, .bool false] 27)) := ((Bel.refl w).alloc _ _).alloc _ _
  have hq1 := hQ.bel hb1
  have hx2 : ((w.alloc (.cells #[.int .i64 (d.kind : Int), .int .i64 d.r0, .int .i64 d.r1, .int .i64 d.r2, .int .i64 d.r3, .slice p n c, .int .i64 d.sent, .bool d.up] 27)).alloc (.cells #[.int .i64 0, .int .i64 0, .int .i64 0, .int .i64 0, .int .i64 0, .slice none 0 0, .int .i64 0, .bool false] 27)).heap[w.heap.size + 1]? = some (.cells #[.int .i64 0, .int .i64 0, .int .i64 0, .int .i64 0, .int .i64 0, .slice none 0 0, .int .i64 0, .bool false] 27 (0, 0)) := by
    have h1 := heap_alloc_new (w.alloc (.cells #[.int .i64 (d.kind : Int), .int .i64 d.r0, .int .i64 d.r1, .int .i64 d.r2, .int .i64 d.r3, .slice p n c, .int .i64 d.sent, .bool d.up] 27)) (.cells #[.int .i64 0, .int .i64 0, .int .i64 0, .int .i64 0, .int .i64 0, .slice none 0 0, .int .i64 0, .bool false] 27)
    rw [World.size_alloc] at h1
    exact h1
  have HL := Lib.hid hd.len
  have HD := Lib.hid hd
  have HK := Lib.hid hk
  clear hQ hd hk
  show Calls Try.prog 13 #[.agg #[.int .i64 (d.kind : Int), .int .i64 d.r0, .int .i64 d.r1, .int .i64 d.r2, .int .i64 d.r3, .slice p n c, .int .i64 d.sent, .bool d.up], .int .i64 2, .int .i64 x] w (OnePost d' w)
  have na : ∀ (a : Addr) (w : World), (nilAhead 185 61 (.pointer (some a)) "headstock/device.write").run Try.prog w = .ok (some false) w := fun a w => by kernel_rfl
  go_enter Try.func13, Try.ntmps13
  go_upto_region 1 with (fail)
  go_wp2_with fail
  generalize ((w.alloc (.cells #[.int .i64 (d.kind : Int), .int .i64 d.r0, .int .i64 d.r1, .int .i64 d.r2, .int .i64 d.r3, .slice p n c, .int .i64 d.sent, .bool d.up] 27)).alloc (.cells #[.int .i64 0, .int .i64 0, .int .i64 0, .int .i64 0, .int .i64 0, .slice none 0 0, .int .i64 0, .bool false] 27)) = W1 at hb1 hx2 hq1 ⊢
  have HB1 := Lib.hid hb1
  have HX2 := Lib.hid hx2
  have HQ1 := Lib.hid hq1
  obtain ⟨G2, hG2⟩ : ∃ G2, w.heap.size + 1 = G2 := ⟨_, rfl⟩
  rw [hG2] at hx2 ⊢
  have HG2 := Lib.hid hG2
  have HX2 := Lib.hid hx2
  clear hb1 hx2 hq1 hG2
  refine (model2 HQ1.out HL.out HK.out).mono ?_
  rintro e W2 ⟨g, rfl, hb2, hg, hF⟩
  have HB2 := Lib.hid hb2
  have HGE := Lib.hid hg
  have HF := Lib.hid hF
  have HX3 := Lib.hid (hb2.stays HX2.out)
  clear hb2 hg hF
  go_wp2_with (go_at_call 22; ((with_reducible refine (reg2 _).mono ?_); rintro e w' ⟨rfl, rfl⟩))
  go_still_tail 7, (by kernel_rfl)
  still_call ((wrap_lit HM.out _).mono fun e' w' h => ⟨h.1, h.2.symm⟩)
  repeat still_step
  refine wpStill_nil ?_
  change wpList _ _ _ _ _ W2.drew
  go_wp2_with fail
  refine (mwrite2_2 (B := W1.heap.size) (HF.out.held.drew) HGE.out HD.out HK.out HM.out HRD.out).mono ?_
  rintro e W3 ⟨rfl, hs3, p3, n3, c3, hB3, hQ3, hO3⟩
  have HS3 := Lib.hid hs3
  have HB3 := Lib.hid hB3
  have HQ3 := Lib.hid hQ3
  have HLT := Lib.hid (lt_of_heap HX2.out)
  have HX4 := Lib.hid ((hs3.block G2 (Nat.lt_of_lt_of_le HLT.out HB2.out.drew.size) (by have := HLT.out; omega)).trans HX3.out)
  have HO3 := Lib.hid hO3
  clear hs3 hB3 hQ3 hO3
  go_wp2_with fail
  refine (told_lit HB3.out).mono ?_
  rintro e W4 ⟨rfl, hb4⟩
  have HB4 := Lib.hid hb4
  have hx5 := hb4.stays HX4.out
  have HX5 := Lib.hid hx5
  have z0 := cell_of_heap hx5 0
  have z1 := cell_of_heap hx5 1
  have z2 := cell_of_heap hx5 2
  have z3 := cell_of_heap hx5 3
  have z4 := cell_of_heap hx5 4
  have z5 := cell_of_heap hx5 5
  have z6 := cell_of_heap hx5 6
  have z7 := cell_of_heap hx5 7
  have y0 := frozen_of_heap hx5 0
  have y1 := frozen_of_heap hx5 1
  have y2 := frozen_of_heap hx5 2
  have y3 := frozen_of_heap hx5 3
  have y4 := frozen_of_heap hx5 4
  have y5 := frozen_of_heap hx5 5
  have y6 := frozen_of_heap hx5 6
  have y7 := frozen_of_heap hx5 7
  simp only [List.getElem?_toArray, List.getElem?_cons_zero, List.getElem?_cons_succ] at z0 z1 z2 z3 z4 z5 z6 z7
  clear hb4 hx5
  go_wp2
  have hh := set8_heap HX5.out (.int .i64 (d'.kind : Int)) (.int .i64 d'.r0) (.int .i64 d'.r1) (.int .i64 d'.r2) (.int .i64 d'.r3) (.slice p3 n3 c3) (.int .i64 d'.sent) (.bool d'.up)
  have hs8 := set8_svg W4 G2 (.int .i64 (d'.kind : Int)) (.int .i64 d'.r0) (.int .i64 d'.r1) (.int .i64 d'.r2) (.int .i64 d'.r3) (.slice p3 n3 c3) (.int .i64 d'.sent) (.bool d'.up)
  have hw4 : Bel w W4 := (Ysv.bel HS3.out (HB1.out.trans HB2.out.drew) HB1.out.size).trans HB4.out
  refine bodyPost_ret (results_cell1 Try.results13 _ _ G2 _ _ _ _ rfl hh Try.underlying27 rfl (by kernel_rfl)) rfl ⟨_, rfl, hs8.bel hw4 (by have := HG2.out; omega), .slice p3 n3 c3, rfl, ?_⟩
  exact (HQ3.out.bel HB4.out).svg (B := W1.heap.size) hs8 (fun b o n c hv => ⟨(HO3.out b o n c hv).1, by have := (HO3.out b o n c hv).1; have := HLT.out; omega⟩)
set_option maxRecDepth 100000 in
theorem write2_3 {w : World} {d : Dev} {v : Value} (x : Int) (h : StAt w v d) (hd : Ok d) (hk : d.kind = 2) :
    Calls Try.prog 13 #[v, .int .i64 3, .int .i64 x] w (OnePost (wrV d 3 x) w) := by
  obtain ⟨d', hrd⟩ : ∃ d', wrV d 3 x = d' := ⟨_, rfl⟩
  obtain ⟨m, hm⟩ : ∃ m, wrap32 x = m := ⟨_, rfl⟩
  have HM := Lib.hid hm
  clear hm
  rw [hrd]
  have HRD := Lib.hid hrd
  clear hrd
  obtain ⟨u, rfl, hQ⟩ := h
  obtain ⟨p, n, c, rfl⟩ := qat_slice hQ
  have hb1 : Bel w ((w.alloc (.cells #[.int .i64 (d.kind : Int), .int .i64 d.r0, .int .i64 d.r1, .int .i64 d.r2, .int .i64 d.r3, .slice p n c, .int .i64 d.sent, .bool d.up] 27)).alloc (.cells #[.int .i64 0, .int .i64 0, .int .i64 0, .int .i64 0, .int .i64 0, .slice none 0 0, .int .i64 0, .bool false] 27)) := ((Bel.refl w).alloc _ _).alloc _ _
  have hq1 := hQ.bel hb1
  have hx2 : ((w.alloc (.cells #[.int .i64 (d.kind : Int), .int .i64 d.r0, .int .i64 d.r1, .int .i64 d.r2, .int .i64 d.r3, .slice p n c, .int .i64 d.sent, .bool d.up] 27)).alloc (.cells #[.int .i64 0, .int .i64 0, .int .i64 0, .int .i64 0, .int .i64 0, .slice none 0 0, .int .i64 0, .bool false] 27)).heap[w.heap.size + 1]? = some (.cells #[.int .i64 0, .int .i64 0, .int .i64 0, .int .i64 0, .int .i64 0, .slice none 0 0, .int .i64 0, .bool false] 27 (0, 0)) := by
    have h1 := heap_alloc_new (w.alloc (.cells #[.int .i64 (d.kind : Int), .int .i64 d.r0, .int .i64 d.r1, .int .i64 d.r2, .int .i64 d.r3, .slice p n c, .int .i64 d.sent, .bool d.up] 27)) (.cells #[.int .i64 0, .int .i64 0, .int .i64 0, .int .i64 0, .int .i64 0, .slice none 0 0, .int .i64 0, .bool false] 27)
    rw [World.size_alloc] at h1
    exact h1
  have HL := Lib.hid hd.len
  have HD := Lib.hid hd
  have HK := Lib.hid hk
  clear hQ hd hk
  show Calls Try.prog 13 #[.agg #[.int .i64 (d.kind : Int), .int .i64 d.r0, .int .i64 d.r1, .int .i64 d.r2, .int .i64 d.r3, .slice p n c, .int .i64 d.sent, .bool d.up], .int .i64 3, .int .i64 x] w (OnePost d' w)
  have na : ∀ (a : Addr) (w : World), (nilAhead 185 61 (.pointer (some a)) "headstock/device.write").run Try.prog w = .ok (some false) w := fun a w => by kernel_rfl
  go_enter Try.func13, Try.ntmps13
  go_upto_region 1 with (fail)
  go_wp2_with fail
  generalize ((w.alloc (.cells #[.int .i64 (d.kind : Int), .int .i64 d.r0, .int .i64 d.r1, .int .i64 d.r2, .int .i64 d.r3, .slice p n c, .int .i64 d.sent, .bool d.up] 27)).alloc (.cells #[.int .i64 0, .int .i64 0, .int .i64 0, .int .i64 0, .int .i64 0, .slice none 0 0, .int .i64 0, .bool false] 27)) = W1 at hb1 hx2 hq1 ⊢
  have HB1 := Lib.hid hb1
  have HX2 := Lib.hid hx2
  have HQ1 := Lib.hid hq1
  obtain ⟨G2, hG2⟩ : ∃ G2, w.heap.size + 1 = G2 := ⟨_, rfl⟩
  rw [hG2] at hx2 ⊢
  have HG2 := Lib.hid hG2
  have HX2 := Lib.hid hx2
  clear hb1 hx2 hq1 hG2
  refine (model2 HQ1.out HL.out HK.out).mono ?_
  rintro e W2 ⟨g, rfl, hb2, hg, hF⟩
  have HB2 := Lib.hid hb2
  have HGE := Lib.hid hg
  have HF := Lib.hid hF
  have HX3 := Lib.hid (hb2.stays HX2.out)
  clear hb2 hg hF
  go_wp2_with (go_at_call 22; ((with_reducible refine (reg3 _).mono ?_); rintro e w' ⟨rfl, rfl⟩))
  go_still_tail 7, (by kernel_rfl)
  still_call ((wrap_lit HM.out _).mono fun e' w' h => ⟨h.1, h.2.symm⟩)
  repeat still_step
  refine wpStill_nil ?_
  change wpList _ _ _ _ _ W2.drew
  go_wp2_with fail
  refine (mwrite2_3 (B := W1.heap.size) (HF.out.held.drew) HGE.out HD.out HK.out HM.out HRD.out).mono ?_
  rintro e W3 ⟨rfl, hs3, p3, n3, c3, hB3, hQ3, hO3⟩
  have HS3 := Lib.hid hs3
  have HB3 := Lib.hid hB3
  have HQ3 := Lib.hid hQ3
  have HLT := Lib.hid (lt_of_heap HX2.out)
  have HX4 := Lib.hid ((hs3.block G2 (Nat.lt_of_lt_of_le HLT.out HB2.out.drew.size) (by have := HLT.out; omega)).trans HX3.out)
  have HO3 := Lib.hid hO3
  clear hs3 hB3 hQ3 hO3
  go_wp2_with fail
  refine (told_lit HB3.out).mono ?_
  rintro e W4 ⟨rfl, hb4⟩
  have HB4 := Lib.hid hb4
  have hx5 := hb4.stays HX4.out
  have HX5 := Lib.hid hx5
  have z0 := cell_of_heap hx5 0
  have z1 := cell_of_heap hx5 1
  have z2 := cell_of_heap hx5 2
  have z3 := cell_of_heap hx5 3
  have z4 := cell_of_heap hx5 4
  have z5 := cell_of_heap hx5 5
  have z6 := cell_of_heap hx5 6
  have z7 := cell_of_heap hx5 7
  have y0 := frozen_of_heap hx5 0
  have y1 := frozen_of_heap hx5 1
  have y2 := frozen_of_heap hx5 2
  have y3 := frozen_of_heap hx5 3
  have y4 := frozen_of_heap hx5 4
  have y5 := frozen_of_heap hx5 5
  have y6 := frozen_of_heap hx5 6
  have y7 := frozen_of_heap hx5 7
  simp only [List.getElem?_toArray, List.getElem?_cons_zero, List.getElem?_cons_succ] at z0 z1 z2 z3 z4 z5 z6 z7
  clear hb4 hx5
  go_wp2
  have hh := set8_heap HX5.out (.int .i64 (d'.kind : Int)) (.int .i64 d'.r0) (.int .i64 d'.r1) (.int .i64 d'.r2) (.int .i64 d'.r3) (.slice p3 n3 c3) (.int .i64 d'.sent) (.bool d'.up)
  have hs8 := set8_svg W4 G2 (.int .i64 (d'.kind : Int)) (.int .i64 d'.r0) (.int .i64 d'.r1) (.int .i64 d'.r2) (.int .i64 d'.r3) (.slice p3 n3 c3) (.int .i64 d'.sent) (.bool d'.up)
  have hw4 : Bel w W4 := (Ysv.bel HS3.out (HB1.out.trans HB2.out.drew) HB1.out.size).trans HB4.out
  refine bodyPost_ret (results_cell1 Try.results13 _ _ G2 _ _ _ _ rfl hh Try.underlying27 rfl (by kernel_rfl)) rfl ⟨_, rfl, hs8.bel hw4 (by have := HG2.out; omega), .slice p3 n3 c3, rfl, ?_⟩
  exact (HQ3.out.bel HB4.out).svg (B := W1.heap.size) hs8 (fun b o n c hv => ⟨(HO3.out b o n c hv).1, by have := (HO3.out b o n c hv).1; have := HLT.out; omega⟩)
set_option maxRecDepth 100000 in
theorem write3_0 {w : World} {d : Dev} {v : Value} (x : Int) (h : StAt w v d) (hd : Ok d) (hk : d.kind = 3) :
    Calls Try.prog 13 #[v, .int .i64 0, .int .i64 x] w (OnePost (wrV d 0 x) w) := by
  obtain ⟨d', hrd⟩ : ∃ d', wrV d 0 x = d' := ⟨_, rfl⟩
  obtain ⟨m, hm⟩ : ∃ m, wrap32 x = m := ⟨_, rfl⟩
  have HM := Lib.hid hm
  clear hm
  rw [hrd]
  have HRD := Lib.hid hrd
  clear hrd
  obtain ⟨u, rfl, hQ⟩ := h
  obtain ⟨p, n, c, rfl⟩ := qat_slice hQ
  have hb1 : Bel w ((w.alloc (.cells #[.int .i64 (d.kind : Int), .int .i64 d.r0, .int .i64 d.r1, .int .i64 d.r2, .int .i64 d.r3, .slice p n c, .int .i64 d.sent, .bool d.up] 27)).alloc (.cells #[.int .i64 0, .int .i64 0, .int .i64 0, .int .i64 0, .int .i64 0, .slice none 0 0, .int .i64 0, .bool false] 27)) := ((Bel.refl w).alloc _ _).alloc _ _
  have hq1 := hQ.bel hb1
  have hx2 : ((w.alloc (.cells #[.int .i64 (d.kind : Int), .int .i64 d.r0, .int .i64 d.r1, .int .i64 d.r2, .int .i64 d.r3, .slice p n c, .int .i64 d.sent, .bool d.up] 27)).alloc (.cells #[.int .i64 0, .int .i64 0, .int .i64 0, .int .i64 0, .int .i64 0, .slice none 0 0, .int .i64 0, .bool false] 27)).heap[w.heap.size + 1]? = some (.cells #[.int .i64 0, .int .i64 0, .int .i64 0, .int .i64 0, .int .i64 0, .slice none 0 0, .int .i64 0, .bool false] 27 (0, 0)) := by
    have h1 := heap_alloc_new (w.alloc (.cells #[.int .i64 (d.kind : Int), .int .i64 d.r0, .int .i64 d.r1, .int .i64 d.r2, .int .i64 d.r3, .slice p n c, .int .i64 d.sent, .bool d.up] 27)) (.cells #[.int .i64 0, .int .i64 0, .int .i64 0, .int .i64 0, .int .i64 0, .slice none 0 0, .int .i64 0, .bool false] 27)
    rw [World.size_alloc] at h1
    exact h1
  have HL := Lib.hid hd.len
  have HD := Lib.hid hd
  have HK := Lib.hid hk
  clear hQ hd hk
  show Calls Try.prog 13 #[.agg #[.int .i64 (d.kind : Int), .int .i64 d.r0, .int .i64 d.r1, .int .i64 d.r2, .int .i64 d.r3, .slice p n c, .int .i64 d.sent, .bool d.up], .int .i64 0, .int .i64 x] w (OnePost d' w)
  have na : ∀ (a : Addr) (w : World), (nilAhead 185 63 (.pointer (some a)) "headstock/device.write").run Try.prog w = .ok (some false) w := fun a w => by kernel_rfl
  go_enter Try.func13, Try.ntmps13
  go_upto_region 1 with (fail)
  go_wp2_with fail
  generalize ((w.alloc (.cells #[.int .i64 (d.kind : Int), .int .i64 d.r0, .int .i64 d.r1, .int .i64 d.r2, .int .i64 d.r3, .slice p n c, .int .i64 d.sent, .bool d.up] 27)).alloc (.cells #[.int .i64 0, .int .i64 0, .int .i64 0, .int .i64 0, .int .i64 0, .slice none 0 0, .int .i64 0, .bool false] 27)) = W1 at hb1 hx2 hq1 ⊢
  have HB1 := Lib.hid hb1
  have HX2 := Lib.hid hx2
  have HQ1 := Lib.hid hq1
  obtain ⟨G2, hG2⟩ : ∃ G2, w.heap.size + 1 = G2 := ⟨_, rfl⟩
  rw [hG2] at hx2 ⊢
  have HG2 := Lib.hid hG2
  have HX2 := Lib.hid hx2
  clear hb1 hx2 hq1 hG2
  refine (model3 HQ1.out HL.out HK.out).mono ?_
  rintro e W2 ⟨g, rfl, hb2, hg, hF⟩
  have HB2 := Lib.hid hb2
  have HGE := Lib.hid hg
  have HF := Lib.hid hF
  have HX3 := Lib.hid (hb2.stays HX2.out)
  clear hb2 hg hF
  go_wp2_with (go_at_call 22; ((with_reducible refine (reg0 _).mono ?_); rintro e w' ⟨rfl, rfl⟩))
  go_still_tail 7, (by kernel_rfl)
  still_call ((wrap_lit HM.out _).mono fun e' w' h => ⟨h.1, h.2.symm⟩)
  repeat still_step
  refine wpStill_nil ?_
  change wpList _ _ _ _ _ W2.drew
  go_wp2_with fail
  refine (mwrite3_0 (B := W1.heap.size) (HF.out.held.drew) HGE.out HD.out HK.out HM.out HRD.out).mono ?_
  rintro e W3 ⟨rfl, hs3, p3, n3, c3, hB3, hQ3, hO3⟩
  have HS3 := Lib.hid hs3
  have HB3 := Lib.hid hB3
  have HQ3 := Lib.hid hQ3
  have HLT := Lib.hid (lt_of_heap HX2.out)
  have HX4 := Lib.hid ((hs3.block G2 (Nat.lt_of_lt_of_le HLT.out HB2.out.drew.size) (by have := HLT.out; omega)).trans HX3.out)
  have HO3 := Lib.hid hO3
  clear hs3 hB3 hQ3 hO3
  go_wp2_with fail
  refine (told_lit HB3.out).mono ?_
  rintro e W4 ⟨rfl, hb4⟩
  have HB4 := Lib.hid hb4
  have hx5 := hb4.stays HX4.out
  have HX5 := Lib.hid hx5
  have z0 := cell_of_heap hx5 0
  have z1 := cell_of_heap hx5 1
  have z2 := cell_of_heap hx5 2
  have z3 := cell_of_heap hx5 3
  have z4 := cell_of_heap hx5 4
  have z5 := cell_of_heap hx5 5
  have z6 := cell_of_heap hx5 6
  have z7 := cell_of_heap hx5 7
  have y0 := frozen_of_heap hx5 0
  have y1 := frozen_of_heap hx5 1
  have y2 := frozen_of_heap hx5 2
  have y3 := frozen_of_heap hx5 3
  have y4 := frozen_of_heap hx5 4
  have y5 := frozen_of_heap hx5 5
  have y6 := frozen_of_heap hx5 6
  have y7 := frozen_of_heap hx5 7
  simp only [List.getElem?_toArray, List.getElem?_cons_zero, List.getElem?_cons_succ] at z0 z1 z2 z3 z4 z5 z6 z7
  clear hb4 hx5
  go_wp2
  have hh := set8_heap HX5.out (.int .i64 (d'.kind : Int)) (.int .i64 d'.r0) (.int .i64 d'.r1) (.int .i64 d'.r2) (.int .i64 d'.r3) (.slice p3 n3 c3) (.int .i64 d'.sent) (.bool d'.up)
  have hs8 := set8_svg W4 G2 (.int .i64 (d'.kind : Int)) (.int .i64 d'.r0) (.int .i64 d'.r1) (.int .i64 d'.r2) (.int .i64 d'.r3) (.slice p3 n3 c3) (.int .i64 d'.sent) (.bool d'.up)
  have hw4 : Bel w W4 := (Ysv.bel HS3.out (HB1.out.trans HB2.out.drew) HB1.out.size).trans HB4.out
  refine bodyPost_ret (results_cell1 Try.results13 _ _ G2 _ _ _ _ rfl hh Try.underlying27 rfl (by kernel_rfl)) rfl ⟨_, rfl, hs8.bel hw4 (by have := HG2.out; omega), .slice p3 n3 c3, rfl, ?_⟩
  exact (HQ3.out.bel HB4.out).svg (B := W1.heap.size) hs8 (fun b o n c hv => ⟨(HO3.out b o n c hv).1, by have := (HO3.out b o n c hv).1; have := HLT.out; omega⟩)
set_option maxRecDepth 100000 in
theorem write3_1 {w : World} {d : Dev} {v : Value} (x : Int) (h : StAt w v d) (hd : Ok d) (hk : d.kind = 3) :
    Calls Try.prog 13 #[v, .int .i64 1, .int .i64 x] w (OnePost (wrV d 1 x) w) := by
  obtain ⟨d', hrd⟩ : ∃ d', wrV d 1 x = d' := ⟨_, rfl⟩
  obtain ⟨m, hm⟩ : ∃ m, wrap32 x = m := ⟨_, rfl⟩
  have HM := Lib.hid hm
  clear hm
  rw [hrd]
  have HRD := Lib.hid hrd
  clear hrd
  obtain ⟨u, rfl, hQ⟩ := h
  obtain ⟨p, n, c, rfl⟩ := qat_slice hQ
  have hb1 : Bel w ((w.alloc (.cells #[.int .i64 (d.kind : Int), .int .i64 d.r0, .int .i64 d.r1, .int .i64 d.r2, .int .i64 d.r3, .slice p n c, .int .i64 d.sent, .bool d.up] 27)).alloc (.cells #[.int .i64 0, .int .i64 0, .int .i64 0, .int .i64 0, .int .i64 0, .slice none 0 0, .int .i64 0, .bool false] 27)) := ((Bel.refl w).alloc _ _).alloc _ _
  have hq1 := hQ.bel hb1
  have hx2 : ((w.alloc (.cells #[.int .i64 (d.kind : Int), .int .i64 d.r0, .int .i64 d.r1, .int .i64 d.r2, .int .i64 d.r3, .slice p n c, .int .i64 d.sent, .bool d.up] 27)).alloc (.cells #[.int .i64 0, .int .i64 0, .int .i64 0, .int .i64 0, .int .i64 0, .slice none 0 0, .int .i64 0, .bool false] 27)).heap[w.heap.size + 1]? = some (.cells #[.int .i64 0, .int .i64 0, .int .i64 0, .int .i64 0, .int .i64 0, .slice none 0 0, .int .i64 0, .bool false] 27 (0, 0)) := by
    have h1 := heap_alloc_new (w.alloc (.cells #[.int .i64 (d.kind : Int), .int .i64 d.r0, .int .i64 d.r1, .int .i64 d.r2, .int .i64 d.r3, .slice p n c, .int .i64 d.sent, .bool d.up] 27)) (.cells #[.int .i64 0, .int .i64 0, .int .i64 0, .int .i64 0, .int .i64 0, .slice none 0 0, .int .i64 0, .bool false] 27)
    rw [World.size_alloc] at h1
    exact h1
  have HL := Lib.hid hd.len
  have HD := Lib.hid hd
  have HK := Lib.hid hk
  clear hQ hd hk
  show Calls Try.prog 13 #[.agg #[.int .i64 (d.kind : Int), .int .i64 d.r0, .int .i64 d.r1, .int .i64 d.r2, .int .i64 d.r3, .slice p n c, .int .i64 d.sent, .bool d.up], .int .i64 1, .int .i64 x] w (OnePost d' w)
  have na : ∀ (a : Addr) (w : World), (nilAhead 185 63 (.pointer (some a)) "headstock/device.write").run Try.prog w = .ok (some false) w := fun a w => by kernel_rfl
  go_enter Try.func13, Try.ntmps13
  go_upto_region 1 with (fail)
  go_wp2_with fail
  generalize ((w.alloc (.cells #[.int .i64 (d.kind : Int), .int .i64 d.r0, .int .i64 d.r1, .int .i64 d.r2, .int .i64 d.r3, .slice p n c, .int .i64 d.sent, .bool d.up] 27)).alloc (.cells #[.int .i64 0, .int .i64 0, .int .i64 0, .int .i64 0, .int .i64 0, .slice none 0 0, .int .i64 0, .bool false] 27)) = W1 at hb1 hx2 hq1 ⊢
  have HB1 := Lib.hid hb1
  have HX2 := Lib.hid hx2
  have HQ1 := Lib.hid hq1
  obtain ⟨G2, hG2⟩ : ∃ G2, w.heap.size + 1 = G2 := ⟨_, rfl⟩
  rw [hG2] at hx2 ⊢
  have HG2 := Lib.hid hG2
  have HX2 := Lib.hid hx2
  clear hb1 hx2 hq1 hG2
  refine (model3 HQ1.out HL.out HK.out).mono ?_
  rintro e W2 ⟨g, rfl, hb2, hg, hF⟩
  have HB2 := Lib.hid hb2
  have HGE := Lib.hid hg
  have HF := Lib.hid hF
  have HX3 := Lib.hid (hb2.stays HX2.out)
  clear hb2 hg hF
  go_wp2_with (go_at_call 22; ((with_reducible refine (reg1 _).mono ?_); rintro e w' ⟨rfl, rfl⟩))
  go_still_tail 7, (by kernel_rfl)
  still_call ((wrap_lit HM.out _).mono fun e' w' h => ⟨h.1, h.2.symm⟩)
  repeat still_step
  refine wpStill_nil ?_
  change wpList _ _ _ _ _ W2.drew
  go_wp2_with fail
  refine (mwrite3_1 (B := W1.heap.size) (HF.out.held.drew) HGE.out HD.out HK.out HM.out HRD.out).mono ?_
  rintro e W3 ⟨rfl, hs3, p3, n3, c3, hB3, hQ3, hO3⟩
  have HS3 := Lib.hid hs3
  have HB3 := Lib.hid hB3
  have HQ3 := Lib.hid hQ3
  have HLT := Lib.hid (lt_of_heap HX2.out)
  have HX4 := Lib.hid ((hs3.block G2 (Nat.lt_of_lt_of_le HLT.out HB2.out.drew.size) (by have := HLT.out; omega)).trans HX3.out)
  have HO3 := Lib.hid hO3
  clear hs3 hB3 hQ3 hO3
  go_wp2_with fail
  refine (told_lit HB3.out).mono ?_
  rintro e W4 ⟨rfl, hb4⟩
  have HB4 := Lib.hid hb4
  have hx5 := hb4.stays HX4.out
  have HX5 := Lib.hid hx5
  have z0 := cell_of_heap hx5 0
  have z1 := cell_of_heap hx5 1
  have z2 := cell_of_heap hx5 2
  have z3 := cell_of_heap hx5 3
  have z4 := cell_of_heap hx5 4
  have z5 := cell_of_heap hx5 5
  have z6 := cell_of_heap hx5 6
  have z7 := cell_of_heap hx5 7
  have y0 := frozen_of_heap hx5 0
  have y1 := frozen_of_heap hx5 1
  have y2 := frozen_of_heap hx5 2
  have y3 := frozen_of_heap hx5 3
  have y4 := frozen_of_heap hx5 4
  have y5 := frozen_of_heap hx5 5
  have y6 := frozen_of_heap hx5 6
  have y7 := frozen_of_heap hx5 7
  simp only [List.getElem?_toArray, List.getElem?_cons_zero, List.getElem?_cons_succ] at z0 z1 z2 z3 z4 z5 z6 z7
  clear hb4 hx5
  go_wp2
  have hh := set8_heap HX5.out (.int .i64 (d'.kind : Int)) (.int .i64 d'.r0) (.int .i64 d'.r1) (.int .i64 d'.r2) (.int .i64 d'.r3) (.slice p3 n3 c3) (.int .i64 d'.sent) (.bool d'.up)
  have hs8 := set8_svg W4 G2 (.int .i64 (d'.kind : Int)) (.int .i64 d'.r0) (.int .i64 d'.r1) (.int .i64 d'.r2) (.int .i64 d'.r3) (.slice p3 n3 c3) (.int .i64 d'.sent) (.bool d'.up)
  have hw4 : Bel w W4 := (Ysv.bel HS3.out (HB1.out.trans HB2.out.drew) HB1.out.size).trans HB4.out
  refine bodyPost_ret (results_cell1 Try.results13 _ _ G2 _ _ _ _ rfl hh Try.underlying27 rfl (by kernel_rfl)) rfl ⟨_, rfl, hs8.bel hw4 (by have := HG2.out; omega), .slice p3 n3 c3, rfl, ?_⟩
  exact (HQ3.out.bel HB4.out).svg (B := W1.heap.size) hs8 (fun b o n c hv => ⟨(HO3.out b o n c hv).1, by have := (HO3.out b o n c hv).1; have := HLT.out; omega⟩)
set_option maxRecDepth 100000 in
theorem write3_2 {w : World} {d : Dev} {v : Value} (x : Int) (h : StAt w v d) (hd : Ok d) (hk : d.kind = 3) :
    Calls Try.prog 13 #[v, .int .i64 2, .int .i64 x] w (OnePost (wrV d 2 x) w) := by
  obtain ⟨d', hrd⟩ : ∃ d', wrV d 2 x = d' := ⟨_, rfl⟩
  obtain ⟨m, hm⟩ : ∃ m, wrap32 x = m := ⟨_, rfl⟩
  have HM := Lib.hid hm
  clear hm
  rw [hrd]
  have HRD := Lib.hid hrd
  clear hrd
  obtain ⟨u, rfl, hQ⟩ := h
  obtain ⟨p, n, c, rfl⟩ := qat_slice hQ
  have hb1 : Bel w ((w.alloc (.cells #[.int .i64 (d.kind : Int), .int .i64 d.r0, .int .i64 d.r1, .int .i64 d.r2, .int .i64 d.r3, .slice p n c, .int .i64 d.sent, .bool d.up] 27)).alloc (.cells #[.int .i64 0, .int .i64 0, .int .i64 0, .int .i64 0, .int .i64 0, .slice none 0 0, .int .i64 0, .bool false] 27)) := ((Bel.refl w).alloc _ _).alloc _ _
  have hq1 := hQ.bel hb1
  have hx2 : ((w.alloc (.cells #[.int .i64 (d.kind : Int), .int .i64 d.r0, .int .i64 d.r1, .int .i64 d.r2, .int .i64 d.r3, .slice p n c, .int .i64 d.sent, .bool d.up] 27)).alloc (.cells #[.int .i64 0, .int .i64 0, .int .i64 0, .int .i64 0, .int .i64 0, .slice none 0 0, .int .i64 0, .bool false] 27)).heap[w.heap.size + 1]? = some (.cells #[.int .i64 0, .int .i64 0, .int .i64 0, .int .i64 0, .int .i64 0, .slice none 0 0, .int .i64 0, .bool false] 27 (0, 0)) := by
    have h1 := heap_alloc_new (w.alloc (.cells #[.int .i64 (d.kind : Int), .int .i64 d.r0, .int .i64 d.r1, .int .i64 d.r2, .int .i64 d.r3, .slice p n c, .int .i64 d.sent, .bool d.up] 27)) (.cells #[.int .i64 0, .int .i64 0, .int .i64 0, .int .i64 0, .int .i64 0, .slice none 0 0, .int .i64 0, .bool false] 27)
    rw [World.size_alloc] at h1
    exact h1
  have HL := Lib.hid hd.len
  have HD := Lib.hid hd
  have HK := Lib.hid hk
  clear hQ hd hk
  show Calls Try.prog 13 #[.agg #[.int .i64 (d.kind : Int), .int .i64 d.r0, .int .i64 d.r1, .int .i64 d.r2, .int .i64 d.r3, .slice p n c, .int .i64 d.sent, .bool d.up], .int .i64 2, .int .i64 x] w (OnePost d' w)
  have na : ∀ (a : Addr) (w : World), (nilAhead 185 63 (.pointer (some a)) "headstock/device.write").run Try.prog w = .ok (some false) w := fun a w => by kernel_rfl
  go_enter Try.func13, Try.ntmps13
  go_upto_region 1 with (fail)
  go_wp2_with fail
  generalize ((w.alloc (.cells #[.int .i64 (d.kind : Int), .int .i64 d.r0, .int .i64 d.r1, .int .i64 d.r2, .int .i64 d.r3, .slice p n c, .int .i64 d.sent, .bool d.up] 27)).alloc (.cells #[.int .i64 0, .int .i64 0, .int .i64 0, .int .i64 0, .int .i64 0, .slice none 0 0, .int .i64 0, .bool false] 27)) = W1 at hb1 hx2 hq1 ⊢
  have HB1 := Lib.hid hb1
  have HX2 := Lib.hid hx2
  have HQ1 := Lib.hid hq1
  obtain ⟨G2, hG2⟩ : ∃ G2, w.heap.size + 1 = G2 := ⟨_, rfl⟩
  rw [hG2] at hx2 ⊢
  have HG2 := Lib.hid hG2
  have HX2 := Lib.hid hx2
  clear hb1 hx2 hq1 hG2
  refine (model3 HQ1.out HL.out HK.out).mono ?_
  rintro e W2 ⟨g, rfl, hb2, hg, hF⟩
  have HB2 := Lib.hid hb2
  have HGE := Lib.hid hg
  have HF := Lib.hid hF
  have HX3 := Lib.hid (hb2.stays HX2.out)
  clear hb2 hg hF
  go_wp2_with (go_at_call 22; ((with_reducible refine (reg2 _).mono ?_); rintro e w' ⟨rfl, rfl⟩))
  go_still_tail 7, (by kernel_rfl)
  still_call ((wrap_lit HM.out _).mono fun e' w' h => ⟨h.1, h.2.symm⟩)
  repeat still_step
  refine wpStill_nil ?_
  change wpList _ _ _ _ _ W2.drew
  go_wp2_with fail
  refine (mwrite3_2 (B := W1.heap.size) (HF.out.held.drew) HGE.out HD.out HK.out HM.out HRD.out).mono ?_
  rintro e W3 ⟨rfl, hs3, p3, n3, c3, hB3, hQ3, hO3⟩
  have HS3 := Lib.hid hs3
  have HB3 := Lib.hid hB3
  have HQ3 := Lib.hid hQ3
  have HLT := Lib.hid (lt_of_heap HX2.out)
  have HX4 := Lib.hid ((hs3.block G2 (Nat.lt_of_lt_of_le HLT.out HB2.out.drew.size) (by have := HLT.out; omega)).trans HX3.out)
  have HO3 := Lib.hid hO3
  clear hs3 hB3 hQ3 hO3
  go_wp2_with fail
  refine (told_lit HB3.out).mono ?_
  rintro e W4 ⟨rfl, hb4⟩
  have HB4 := Lib.hid hb4
  have hx5 := hb4.stays HX4.out
  have HX5 := Lib.hid hx5
  have z0 := cell_of_heap hx5 0
  have z1 := cell_of_heap hx5 1
  have z2 := cell_of_heap hx5 2
  have z3 := cell_of_heap hx5 3
  have z4 := cell_of_heap hx5 4
  have z5 := cell_of_heap hx5 5
  have z6 := cell_of_heap hx5 6
  have z7 := cell_of_heap hx5 7
  have y0 := frozen_of_heap hx5 0
  have y1 := frozen_of_heap hx5 1
  have y2 := frozen_of_heap hx5 2
  have y3 := frozen_of_heap hx5 3
  have y4 := frozen_of_heap hx5 4
  have y5 := frozen_of_heap hx5 5
  have y6 := frozen_of_heap hx5 6
  have y7 := frozen_of_heap hx5 7
  simp only [List.getElem?_toArray, List.getElem?_cons_zero, List.getElem?_cons_succ] at z0 z1 z2 z3 z4 z5 z6 z7
  clear hb4 hx5
  go_wp2
  have hh := set8_heap HX5.out (.int .i64 (d'.kind : Int)) (.int .i64 d'.r0) (.int .i64 d'.r1) (.int .i64 d'.r2) (.int .i64 d'.r3) (.slice p3 n3 c3) (.int .i64 d'.sent) (.bool d'.up)
  have hs8 := set8_svg W4 G2 (.int .i64 (d'.kind : Int)) (.int .i64 d'.r0) (.int .i64 d'.r1) (.int .i64 d'.r2) (.int .i64 d'.r3) (.slice p3 n3 c3) (.int .i64 d'.sent) (.bool d'.up)
  have hw4 : Bel w W4 := (Ysv.bel HS3.out (HB1.out.trans HB2.out.drew) HB1.out.size).trans HB4.out
  refine bodyPost_ret (results_cell1 Try.results13 _ _ G2 _ _ _ _ rfl hh Try.underlying27 rfl (by kernel_rfl)) rfl ⟨_, rfl, hs8.bel hw4 (by have := HG2.out; omega), .slice p3 n3 c3, rfl, ?_⟩
  exact (HQ3.out.bel HB4.out).svg (B := W1.heap.size) hs8 (fun b o n c hv => ⟨(HO3.out b o n c hv).1, by have := (HO3.out b o n c hv).1; have := HLT.out; omega⟩)
set_option maxRecDepth 100000 in
theorem write3_3 {w : World} {d : Dev} {v : Value} (x : Int) (h : StAt w v d) (hd : Ok d) (hk : d.kind = 3) :
    Calls Try.prog 13 #[v, .int .i64 3, .int .i64 x] w (OnePost (wrV d 3 x) w) := by
  obtain ⟨d', hrd⟩ : ∃ d', wrV d 3 x = d' := ⟨_, rfl⟩
  obtain ⟨m, hm⟩ : ∃ m, wrap32 x = m := ⟨_, rfl⟩
  have HM := Lib.hid hm
  clear hm
  rw [hrd]
  have HRD := Lib.hid hrd
  clear hrd
  obtain ⟨u, rfl, hQ⟩ := h
  obtain ⟨p, n, c, rfl⟩ := qat_slice hQ
  have hb1 : Bel w ((w.alloc (.cells #[.int .i64 (d.kind : Int), .int .i64 d.r0, .int .i64 d.r1, .int .i64 d.r2, .int .i64 d.r3, .slice p n c, .int .i64 d.sent, .bool d.up] 27)).alloc (.cells #[.int .i64 0, .int .i64 0, .int .i64 0, .int .i64 0, .int .i64 0, .slice none 0 0, .int .i64 0, .bool false] 27)) := ((Bel.refl w).alloc _ _).alloc _ _
  have hq1 := hQ.bel hb1
  have hx2 : ((w.alloc (.cells #[.int .i64 (d.kind : Int), .int .i64 d.r0, .int .i64 d.r1, .int .i64 d.r2, .int .i64 d.r3, .slice p n c, .int .i64 d.sent, .bool d.up] 27)).alloc (.cells #[.int .i64 0, .int .i64 0, .int .i64 0, .int .i64 0, .int .i64 0, .slice none 0 0, .int .i64 0, .bool false] 27)).heap[w.heap.size + 1]? = some (.cells #[.int .i64 0, .int .i64 0, .int .i64 0, .int .i64 0, .int .i64 0, .slice none 0 0, .int .i64 0, .bool false] 27 (0, 0)) := by
    have h1 := heap_alloc_new (w.alloc (.cells #[.int .i64 (d.kind : Int), .int .i64 d.r0, .int .i64 d.r1, .int .i64 d.r2, .int .i64 d.r3, .slice p n c, .int .i64 d.sent, .bool d.up] 27)) (.cells #[.int .i64 0, .int .i64 0, .int .i64 0, .int .i64 0, .int .i64 0, .slice none 0 0, .int .i64 0, .bool false] 27)
    rw [World.size_alloc] at h1
    exact h1
  have HL := Lib.hid hd.len
  have HD := Lib.hid hd
  have HK := Lib.hid hk
  clear hQ hd hk
  show Calls Try.prog 13 #[.agg #[.int .i64 (d.kind : Int), .int .i64 d.r0, .int .i64 d.r1, .int .i64 d.r2, .int .i64 d.r3, .slice p n c, .int .i64 d.sent, .bool d.up], .int .i64 3, .int .i64 x] w (OnePost d' w)
  have na : ∀ (a : Addr) (w : World), (nilAhead 185 63 (.pointer (some a)) "headstock/device.write").run Try.prog w = .ok (some false) w := fun a w => by kernel_rfl
  go_enter Try.func13, Try.ntmps13
  go_upto_region 1 with (fail)
  go_wp2_with fail
  generalize ((w.alloc (.cells #[.int .i64 (d.kind : Int), .int .i64 d.r0, .int .i64 d.r1, .int .i64 d.r2, .int .i64 d.r3, .slice p n c, .int .i64 d.sent, .bool d.up] 27)).alloc (.cells #[.int .i64 0, .int .i64 0, .int .i64 0, .int .i64 0, .int .i64 0, .slice none 0 0, .int .i64 0, .bool false] 27)) = W1 at hb1 hx2 hq1 ⊢
  have HB1 := Lib.hid hb1
  have HX2 := Lib.hid hx2
  have HQ1 := Lib.hid hq1
  obtain ⟨G2, hG2⟩ : ∃ G2, w.heap.size + 1 = G2 := ⟨_, rfl⟩
  rw [hG2] at hx2 ⊢
  have HG2 := Lib.hid hG2
  have HX2 := Lib.hid hx2
  clear hb1 hx2 hq1 hG2
  refine (model3 HQ1.out HL.out HK.out).mono ?_
  rintro e W2 ⟨g, rfl, hb2, hg, hF⟩
  have HB2 := Lib.hid hb2
  have HGE := Lib.hid hg
  have HF := Lib.hid hF
  have HX3 := Lib.hid (hb2.stays HX2.out)
  clear hb2 hg hF
  go_wp2_with (go_at_call 22; ((with_reducible refine (reg3 _).mono ?_); rintro e w' ⟨rfl, rfl⟩))
  go_still_tail 7, (by kernel_rfl)
  still_call ((wrap_lit HM.out _).mono fun e' w' h => ⟨h.1, h.2.symm⟩)
  repeat still_step
  refine wpStill_nil ?_
  change wpList _ _ _ _ _ W2.drew
  go_wp2_with fail
  refine (mwrite3_3 (B := W1.heap.size) (HF.out.held.drew) HGE.out HD.out HK.out HM.out HRD.out).mono ?_
  rintro e W3 ⟨rfl, hs3, p3, n3, c3, hB3, hQ3, hO3⟩
  have HS3 := Lib.hid hs3
  have HB3 := Lib.hid hB3
  have HQ3 := Lib.hid hQ3
  have HLT := Lib.hid (lt_of_heap HX2.out)
  have HX4 := Lib.hid ((hs3.block G2 (Nat.lt_of_lt_of_le HLT.out HB2.out.drew.size) (by have := HLT.out; omega)).trans HX3.out)
  have HO3 := Lib.hid hO3
  clear hs3 hB3 hQ3 hO3
  go_wp2_with fail
  refine (told_lit HB3.out).mono ?_
  rintro e W4 ⟨rfl, hb4⟩
  have HB4 := Lib.hid hb4
  have hx5 := hb4.stays HX4.out
  have HX5 := Lib.hid hx5
  have z0 := cell_of_heap hx5 0
  have z1 := cell_of_heap hx5 1
  have z2 := cell_of_heap hx5 2
  have z3 := cell_of_heap hx5 3
  have z4 := cell_of_heap hx5 4
  have z5 := cell_of_heap hx5 5
  have z6 := cell_of_heap hx5 6
  have z7 := cell_of_heap hx5 7
  have y0 := frozen_of_heap hx5 0
  have y1 := frozen_of_heap hx5 1
  have y2 := frozen_of_heap hx5 2
  have y3 := frozen_of_heap hx5 3
  have y4 := frozen_of_heap hx5 4
  have y5 := frozen_of_heap hx5 5
  have y6 := frozen_of_heap hx5 6
  have y7 := frozen_of_heap hx5 7
  simp only [List.getElem?_toArray, List.getElem?_cons_zero, List.getElem?_cons_succ] at z0 z1 z2 z3 z4 z5 z6 z7
  clear hb4 hx5
  go_wp2
  have hh := set8_heap HX5.out (.int .i64 (d'.kind : Int)) (.int .i64 d'.r0) (.int .i64 d'.r1) (.int .i64 d'.r2) (.int .i64 d'.r3) (.slice p3 n3 c3) (.int .i64 d'.sent) (.bool d'.up)
  have hs8 := set8_svg W4 G2 (.int .i64 (d'.kind : Int)) (.int .i64 d'.r0) (.int .i64 d'.r1) (.int .i64 d'.r2) (.int .i64 d'.r3) (.slice p3 n3 c3) (.int .i64 d'.sent) (.bool d'.up)
  have hw4 : Bel w W4 := (Ysv.bel HS3.out (HB1.out.trans HB2.out.drew) HB1.out.size).trans HB4.out
  refine bodyPost_ret (results_cell1 Try.results13 _ _ G2 _ _ _ _ rfl hh Try.underlying27 rfl (by kernel_rfl)) rfl ⟨_, rfl, hs8.bel hw4 (by have := HG2.out; omega), .slice p3 n3 c3, rfl, ?_⟩
  exact (HQ3.out.bel HB4.out).svg (B := W1.heap.size) hs8 (fun b o n c hv => ⟨(HO3.out b o n c hv).1, by have := (HO3.out b o n c hv).1; have := HLT.out; omega⟩)
set_option maxRecDepth 100000 in
theorem input1 {w : World} {d : Dev} {v : Value} (x : Int) (h : StAt w v d) (hd : Ok d) (hk : d.kind = 1) :
    Calls Try.prog 18 #[v, .int .i64 x] w (OnePost (inV d x) w) := by
  obtain ⟨d', hrd⟩ : ∃ d', inV d x = d' := ⟨_, rfl⟩
  obtain ⟨m, hm⟩ : ∃ m, wrap32 x = m := ⟨_, rfl⟩
  have HM := Lib.hid hm
  clear hm
  rw [hrd]
  have HRD := Lib.hid hrd
  clear hrd
  obtain ⟨u, rfl, hQ⟩ := h
  obtain ⟨p, n, c, rfl⟩ := qat_slice hQ
  have hb1 : Bel w ((w.alloc (.cells #[.int .i64 (d.kind : Int), .int .i64 d.r0, .int .i64 d.r1, .int .i64 d.r2, .int .i64 d.r3, .slice p n c, .int .i64 d.sent, .bool d.up] 27)).alloc (.cells #[.int .i64 0, .int .i64 0, .int .i64 0, .int .i64 0, .int .i64 0, .slice none 0 0, .int .i64 0, .bool false] 27)) := ((Bel.refl w).alloc _ _).alloc _ _
  have hq1 := hQ.bel hb1
  have hx2 : ((w.alloc (.cells #[.int .i64 (d.kind : Int), .int .i64 d.r0, .int .i64 d.r1, .int .i64 d.r2, .int .i64 d.r3, .slice p n c, .int .i64 d.sent, .bool d.up] 27)).alloc (.cells #[.int .i64 0, .int .i64 0, .int .i64 0, .int .i64 0, .int .i64 0, .slice none 0 0, .int .i64 0, .bool false] 27)).heap[w.heap.size + 1]? = some (.cells #[.int .i64 0, .int .i64 0, .int .i64 0, .int .i64 0, .int .i64 0, .slice none 0 0, .int .i64 0, .bool false] 27 (0, 0)) := by
    have h1 := heap_alloc_new (w.alloc (.cells #[.int .i64 (d.kind : Int), .int .i64 d.r0, .int .i64 d.r1, .int .i64 d.r2, .int .i64 d.r3, .slice p n c, .int .i64 d.sent, .bool d.up] 27)) (.cells #[.int .i64 0, .int .i64 0, .int .i64 0, .int .i64 0, .int .i64 0, .slice none 0 0, .int .i64 0, .bool false] 27)
    rw [World.size_alloc] at h1
    exact h1
  have HL := Lib.hid hd.len
  have HD := Lib.hid hd
  have HK := Lib.hid hk
  clear hQ hd hk
  show Calls Try.prog 18 #[.agg #[.int .i64 (d.kind : Int), .int .i64 d.r0, .int .i64 d.r1, .int .i64 d.r2, .int .i64 d.r3, .slice p n c, .int .i64 d.sent, .bool d.up], .int .i64 x] w (OnePost d' w)
  have na : ∀ (a : Addr) (w : World), (nilAhead 185 58 (.pointer (some a)) "headstock/device.input").run Try.prog w = .ok (some false) w := fun a w => by kernel_rfl
  go_enter Try.func18, Try.ntmps18
  go_upto_region 1 with (fail)
  go_wp2_with fail
  generalize ((w.alloc (.cells #[.int .i64 (d.kind : Int), .int .i64 d.r0, .int .i64 d.r1, .int .i64 d.r2, .int .i64 d.r3, .slice p n c, .int .i64 d.sent, .bool d.up] 27)).alloc (.cells #[.int .i64 0, .int .i64 0, .int .i64 0, .int .i64 0, .int .i64 0, .slice none 0 0, .int .i64 0, .bool false] 27)) = W1 at hb1 hx2 hq1 ⊢
  have HB1 := Lib.hid hb1
  have HX2 := Lib.hid hx2
  have HQ1 := Lib.hid hq1
  obtain ⟨G2, hG2⟩ : ∃ G2, w.heap.size + 1 = G2 := ⟨_, rfl⟩
  rw [hG2] at hx2 ⊢
  have HG2 := Lib.hid hG2
  have HX2 := Lib.hid hx2
  clear hb1 hx2 hq1 hG2
  refine (model1 HQ1.out HL.out HK.out).mono ?_
  rintro e W2 ⟨g, rfl, hb2, hg, hF⟩
  have HB2 := Lib.hid hb2
  have HGE := Lib.hid hg
  have HF := Lib.hid hF
  have HX3 := Lib.hid (hb2.stays HX2.out)
  clear hb2 hg hF
  go_upto_region 2 with (fail)
  go_still_tail 6, (by kernel_rfl)
  still_call ((wrap_lit HM.out _).mono fun e' w' h => ⟨h.1, h.2.symm⟩)
  repeat still_step
  refine wpStill_nil ?_
  change wpList _ _ _ _ _ W2.drew
  go_wp2_with fail
  refine (minput1 (B := W1.heap.size) (HF.out.drew) (by decide) HGE.out HD.out HK.out HM.out HRD.out).mono ?_
  rintro e W3 ⟨rfl, hs3, p3, n3, c3, hB3, hQ3, hO3⟩
  have HS3 := Lib.hid hs3
  have HB3 := Lib.hid hB3
  have HQ3 := Lib.hid hQ3
  have HLT := Lib.hid (lt_of_heap HX2.out)
  have HX4 := Lib.hid ((hs3.block G2 (Nat.lt_of_lt_of_le HLT.out HB2.out.drew.size) (by have := HLT.out; omega)).trans HX3.out)
  have HO3 := Lib.hid hO3
  clear hs3 hB3 hQ3 hO3
  go_wp2_with fail
  refine (told_lit HB3.out).mono ?_
  rintro e W4 ⟨rfl, hb4⟩
  have HB4 := Lib.hid hb4
  have hx5 := hb4.stays HX4.out
  have HX5 := Lib.hid hx5
  have z0 := cell_of_heap hx5 0
  have z1 := cell_of_heap hx5 1
  have z2 := cell_of_heap hx5 2
  have z3 := cell_of_heap hx5 3
  have z4 := cell_of_heap hx5 4
  have z5 := cell_of_heap hx5 5
  have z6 := cell_of_heap hx5 6
  have z7 := cell_of_heap hx5 7
  have y0 := frozen_of_heap hx5 0
  have y1 := frozen_of_heap hx5 1
  have y2 := frozen_of_heap hx5 2
  have y3 := frozen_of_heap hx5 3
  have y4 := frozen_of_heap hx5 4
  have y5 := frozen_of_heap hx5 5
  have y6 := frozen_of_heap hx5 6
  have y7 := frozen_of_heap hx5 7
  simp only [List.getElem?_toArray, List.getElem?_cons_zero, List.getElem?_cons_succ] at z0 z1 z2 z3 z4 z5 z6 z7
  clear hb4 hx5
  go_wp2
  have hh := set8_heap HX5.out (.int .i64 (d'.kind : Int)) (.int .i64 d'.r0) (.int .i64 d'.r1) (.int .i64 d'.r2) (.int .i64 d'.r3) (.slice p3 n3 c3) (.int .i64 d'.sent) (.bool d'.up)
  have hs8 := set8_svg W4 G2 (.int .i64 (d'.kind : Int)) (.int .i64 d'.r0) (.int .i64 d'.r1) (.int .i64 d'.r2) (.int .i64 d'.r3) (.slice p3 n3 c3) (.int .i64 d'.sent) (.bool d'.up)
  have hw4 : Bel w W4 := (Ysv.bel HS3.out (HB1.out.trans HB2.out.drew) HB1.out.size).trans HB4.out
  refine bodyPost_ret (results_cell1 Try.results18 _ _ G2 _ _ _ _ rfl hh Try.underlying27 rfl (by kernel_rfl)) rfl ⟨_, rfl, hs8.bel hw4 (by have := HG2.out; omega), .slice p3 n3 c3, rfl, ?_⟩
  exact (HQ3.out.bel HB4.out).svg (B := W1.heap.size) hs8 (fun b o n c hv => ⟨(HO3.out b o n c hv).1, by have := (HO3.out b o n c hv).1; have := HLT.out; omega⟩)
set_option maxRecDepth 100000 in
theorem input2 {w : World} {d : Dev} {v : Value} (x : Int) (h : StAt w v d) (hd : Ok d) (hk : d.kind = 2) :
    Calls Try.prog 18 #[v, .int .i64 x] w (OnePost (inV d x) w) := by
  obtain ⟨d', hrd⟩ : ∃ d', inV d x = d' := ⟨_, rfl⟩
  obtain ⟨m, hm⟩ : ∃ m, wrap32 x = m := ⟨_, rfl⟩
  have HM := Lib.hid hm
  clear hm
  rw [hrd]
  have HRD := Lib.hid hrd
  clear hrd
  obtain ⟨u, rfl, hQ⟩ := h
  obtain ⟨p, n, c, rfl⟩ := qat_slice hQ
  have hb1 : Bel w ((w.alloc (.cells #[.int .i64 (d.kind : Int), .int .i64 d.r0, .int .i64 d.r1, .int .i64 d.r2, .int .i64 d.r3, .slice p n c, .int .i64 d.sent, .bool d.up] 27)).alloc (.cells #[.int .i64 0, .int .i64 0, .int .i64 0, .int .i64 0, .int .i64 0, .slice none 0 0, .int .i64 0, .bool false] 27)) := ((Bel.refl w).alloc _ _).alloc _ _
  have hq1 := hQ.bel hb1
  have hx2 : ((w.alloc (.cells #[.int .i64 (d.kind : Int), .int .i64 d.r0, .int .i64 d.r1, .int .i64 d.r2, .int .i64 d.r3, .slice p n c, .int .i64 d.sent, .bool d.up] 27)).alloc (.cells #[.int .i64 0, .int .i64 0, .int .i64 0, .int .i64 0, .int .i64 0, .slice none 0 0, .int .i64 0, .bool false] 27)).heap[w.heap.size + 1]? = some (.cells #[.int .i64 0, .int .i64 0, .int .i64 0, .int .i64 0, .int .i64 0, .slice none 0 0, .int .i64 0, .bool false] 27 (0, 0)) := by
    have h1 := heap_alloc_new (w.alloc (.cells #[.int .i64 (d.kind : Int), .int .i64 d.r0, .int .i64 d.r1, .int .i64 d.r2, .int .i64 d.r3, .slice p n c, .int .i64 d.sent, .bool d.up] 27)) (.cells #[.int .i64 0, .int .i64 0, .int .i64 0, .int .i64 0, .int .i64 0, .slice none 0 0, .int .i64 0, .bool false] 27)
    rw [World.size_alloc] at h1
    exact h1
  have HL := Lib.hid hd.len
  have HD := Lib.hid hd
  have HK := Lib.hid hk
  clear hQ hd hk
  show Calls Try.prog 18 #[.agg #[.int .i64 (d.kind : Int), .int .i64 d.r0, .int .i64 d.r1, .int .i64 d.r2, .int .i64 d.r3, .slice p n c, .int .i64 d.sent, .bool d.up], .int .i64 x] w (OnePost d' w)
  have na : ∀ (a : Addr) (w : World), (nilAhead 185 61 (.pointer (some a)) "headstock/device.input").run Try.prog w = .ok (some false) w := fun a w => by kernel_rfl
  go_enter Try.func18, Try.ntmps18
  go_upto_region 1 with (fail)
  go_wp2_with fail
  generalize ((w.alloc (.cells #[.int .i64 (d.kind : Int), .int .i64 d.r0, .int .i64 d.r1, .int .i64 d.r2, .int .i64 d.r3, .slice p n c, .int .i64 d.sent, .bool d.up] 27)).alloc (.cells #[.int .i64 0, .int .i64 0, .int .i64 0, .int .i64 0, .int .i64 0, .slice none 0 0, .int .i64 0, .bool false] 27)) = W1 at hb1 hx2 hq1 ⊢
  have HB1 := Lib.hid hb1
  have HX2 := Lib.hid hx2
  have HQ1 := Lib.hid hq1
  obtain ⟨G2, hG2⟩ : ∃ G2, w.heap.size + 1 = G2 := ⟨_, rfl⟩
  rw [hG2] at hx2 ⊢
  have HG2 := Lib.hid hG2
  have HX2 := Lib.hid hx2
  clear hb1 hx2 hq1 hG2
  refine (model2 HQ1.out HL.out HK.out).mono ?_
  rintro e W2 ⟨g, rfl, hb2, hg, hF⟩
  have HB2 := Lib.hid hb2
  have HGE := Lib.hid hg
  have HF := Lib.hid hF
  have HX3 := Lib.hid (hb2.stays HX2.out)
  clear hb2 hg hF
  go_upto_region 2 with (fail)
  go_still_tail 6, (by kernel_rfl)
  still_call ((wrap_lit HM.out _).mono fun e' w' h => ⟨h.1, h.2.symm⟩)
  repeat still_step
  refine wpStill_nil ?_
  change wpList _ _ _ _ _ W2.drew
  go_wp2_with fail
  refine (minput2 (B := W1.heap.size) (HF.out.drew) (by decide) HGE.out HD.out HK.out HM.out HRD.out).mono ?_
  rintro e W3 ⟨rfl, hs3, p3, n3, c3, hB3, hQ3, hO3⟩
  have HS3 := Lib.hid hs3
  have HB3 := Lib.hid hB3
  have HQ3 := Lib.hid hQ3
  have HLT := Lib.hid (lt_of_heap HX2.out)
  have HX4 := Lib.hid ((hs3.block G2 (Nat.lt_of_lt_of_le HLT.out HB2.out.drew.size) (by have := HLT.out; omega)).trans HX3.out)
  have HO3 := Lib.hid hO3
  clear hs3 hB3 hQ3 hO3
  go_wp2_with fail
  refine (told_lit HB3.out).mono ?_
  rintro e W4 ⟨rfl, hb4⟩
  have HB4 := Lib.hid hb4
  have hx5 := hb4.stays HX4.out
  have HX5 := Lib.hid hx5
  have z0 := cell_of_heap hx5 0
  have z1 := cell_of_heap hx5 1
  have z2 := cell_of_heap hx5 2
  have z3 := cell_of_heap hx5 3
  have z4 := cell_of_heap hx5 4
  have z5 := cell_of_heap hx5 5
  have z6 := cell_of_heap hx5 6
  have z7 := cell_of_heap hx5 7
  have y0 := frozen_of_heap hx5 0
  have y1 := frozen_of_heap hx5 1
  have y2 := frozen_of_heap hx5 2
  have y3 := frozen_of_heap hx5 3
  have y4 := frozen_of_heap hx5 4
  have y5 := frozen_of_heap hx5 5
  have y6 := frozen_of_heap hx5 6
  have y7 := frozen_of_heap hx5 7
  simp only [List.getElem?_toArray, List.getElem?_cons_zero, List.getElem?_cons_succ] at z0 z1 z2 z3 z4 z5 z6 z7
  clear hb4 hx5
  go_wp2
  have hh := set8_heap HX5.out (.int .i64 (d'.kind : Int)) (.int .i64 d'.r0) (.int .i64 d'.r1) (.int .i64 d'.r2) (.int .i64 d'.r3) (.slice p3 n3 c3) (.int .i64 d'.sent) (.bool d'.up)
  have hs8 := set8_svg W4 G2 (.int .i64 (d'.kind : Int)) (.int .i64 d'.r0) (.int .i64 d'.r1) (.int .i64 d'.r2) (.int .i64 d'.r3) (.slice p3 n3 c3) (.int .i64 d'.sent) (.bool d'.up)
  have hw4 : Bel w W4 := (Ysv.bel HS3.out (HB1.out.trans HB2.out.drew) HB1.out.size).trans HB4.out
  refine bodyPost_ret (results_cell1 Try.results18 _ _ G2 _ _ _ _ rfl hh Try.underlying27 rfl (by kernel_rfl)) rfl ⟨_, rfl, hs8.bel hw4 (by have := HG2.out; omega), .slice p3 n3 c3, rfl, ?_⟩
  exact (HQ3.out.bel HB4.out).svg (B := W1.heap.size) hs8 (fun b o n c hv => ⟨(HO3.out b o n c hv).1, by have := (HO3.out b o n c hv).1; have := HLT.out; omega⟩)
set_option maxRecDepth 100000 in
theorem input3 {w : World} {d : Dev} {v : Value} (x : Int) (h : StAt w v d) (hd : Ok d) (hk : d.kind = 3) :
    Calls Try.prog 18 #[v, .int .i64 x] w (OnePost (inV d x) w) := by
  obtain ⟨d', hrd⟩ : ∃ d', inV d x = d' := ⟨_, rfl⟩
  obtain ⟨m, hm⟩ : ∃ m, wrap32 x = m := ⟨_, rfl⟩
  have HM := Lib.hid hm
  clear hm
  rw [hrd]
  have HRD := Lib.hid hrd
  clear hrd
  obtain ⟨u, rfl, hQ⟩ := h
  obtain ⟨p, n, c, rfl⟩ := qat_slice hQ
  have hb1 : Bel w ((w.alloc (.cells #[.int .i64 (d.kind : Int), .int .i64 d.r0, .int .i64 d.r1, .int .i64 d.r2, .int .i64 d.r3, .slice p n c, .int .i64 d.sent, .bool d.up] 27)).alloc (.cells #[.int .i64 0, .int .i64 0, .int .i64 0, .int .i64 0, .int .i64 0, .slice none 0 0, .int .i64 0, .bool false] 27)) := ((Bel.refl w).alloc _ _).alloc _ _
  have hq1 := hQ.bel hb1
  have hx2 : ((w.alloc (.cells #[.int .i64 (d.kind : Int), .int .i64 d.r0, .int .i64 d.r1, .int .i64 d.r2, .int .i64 d.r3, .slice p n c, .int .i64 d.sent, .bool d.up] 27)).alloc (.cells #[.int .i64 0, .int .i64 0, .int .i64 0, .int .i64 0, .int .i64 0, .slice none 0 0, .int .i64 0, .bool false] 27)).heap[w.heap.size + 1]? = some (.cells #[.int .i64 0, .int .i64 0, .int .i64 0, .int .i64 0, .int .i64 0, .slice none 0 0, .int .i64 0, .bool false] 27 (0, 0)) := by
    have h1 := heap_alloc_new (w.alloc (.cells #[.int .i64 (d.kind : Int), .int .i64 d.r0, .int .i64 d.r1, .int .i64 d.r2, .int .i64 d.r3, .slice p n c, .int .i64 d.sent, .bool d.up] 27)) (.cells #[.int .i64 0, .int .i64 0, .int .i64 0, .int .i64 0, .int .i64 0, .slice none 0 0, .int .i64 0, .bool false] 27)
    rw [World.size_alloc] at h1
    exact h1
  have HL := Lib.hid hd.len
  have HD := Lib.hid hd
  have HK := Lib.hid hk
  clear hQ hd hk
  show Calls Try.prog 18 #[.agg #[.int .i64 (d.kind : Int), .int .i64 d.r0, .int .i64 d.r1, .int .i64 d.r2, .int .i64 d.r3, .slice p n c, .int .i64 d.sent, .bool d.up], .int .i64 x] w (OnePost d' w)
  have na : ∀ (a : Addr) (w : World), (nilAhead 185 63 (.pointer (some a)) "headstock/device.input").run Try.prog w = .ok (some false) w := fun a w => by kernel_rfl
  go_enter Try.func18, Try.ntmps18
  go_upto_region 1 with (fail)
  go_wp2_with fail
  generalize ((w.alloc (.cells #[.int .i64 (d.kind : Int), .int .i64 d.r0, .int .i64 d.r1, .int .i64 d.r2, .int .i64 d.r3, .slice p n c, .int .i64 d.sent, .bool d.up] 27)).alloc (.cells #[.int .i64 0, .int .i64 0, .int .i64 0, .int .i64 0, .int .i64 0, .slice none 0 0, .int .i64 0, .bool false] 27)) = W1 at hb1 hx2 hq1 ⊢
  have HB1 := Lib.hid hb1
  have HX2 := Lib.hid hx2
  have HQ1 := Lib.hid hq1
  obtain ⟨G2, hG2⟩ : ∃ G2, w.heap.size + 1 = G2 := ⟨_, rfl⟩
  rw [hG2] at hx2 ⊢
  have HG2 := Lib.hid hG2
  have HX2 := Lib.hid hx2
  clear hb1 hx2 hq1 hG2
  refine (model3 HQ1.out HL.out HK.out).mono ?_
  rintro e W2 ⟨g, rfl, hb2, hg, hF⟩
  have HB2 := Lib.hid hb2
  have HGE := Lib.hid hg
  have HF := Lib.hid hF
  have HX3 := Lib.hid (hb2.stays HX2.out)
  clear hb2 hg hF
  go_upto_region 2 with (fail)
  go_still_tail 6, (by kernel_rfl)
  still_call ((wrap_lit HM.out _).mono fun e' w' h => ⟨h.1, h.2.symm⟩)
  repeat still_step
  refine wpStill_nil ?_
  change wpList _ _ _ _ _ W2.drew
  go_wp2_with fail
  refine (minput3 (B := W1.heap.size) (HF.out.drew) (by decide) HGE.out HD.out HK.out HM.out HRD.out).mono ?_
  rintro e W3 ⟨rfl, hs3, p3, n3, c3, hB3, hQ3, hO3⟩
  have HS3 := Lib.hid hs3
  have HB3 := Lib.hid hB3
  have HQ3 := Lib.hid hQ3
  have HLT := Lib.hid (lt_of_heap HX2.out)
  have HX4 := Lib.hid ((hs3.block G2 (Nat.lt_of_lt_of_le HLT.out HB2.out.drew.size) (by have := HLT.out; omega)).trans HX3.out)
  have HO3 := Lib.hid hO3
  clear hs3 hB3 hQ3 hO3
  go_wp2_with fail
  refine (told_lit HB3.out).mono ?_
  rintro e W4 ⟨rfl, hb4⟩
  have HB4 := Lib.hid hb4
  have hx5 := hb4.stays HX4.out
  have HX5 := Lib.hid hx5
  have z0 := cell_of_heap hx5 0
  have z1 := cell_of_heap hx5 1
  have z2 := cell_of_heap hx5 2
  have z3 := cell_of_heap hx5 3
  have z4 := cell_of_heap hx5 4
  have z5 := cell_of_heap hx5 5
  have z6 := cell_of_heap hx5 6
  have z7 := cell_of_heap hx5 7
  have y0 := frozen_of_heap hx5 0
  have y1 := frozen_of_heap hx5 1
  have y2 := frozen_of_heap hx5 2
  have y3 := frozen_of_heap hx5 3
  have y4 := frozen_of_heap hx5 4
  have y5 := frozen_of_heap hx5 5
  have y6 := frozen_of_heap hx5 6
  have y7 := frozen_of_heap hx5 7
  simp only [List.getElem?_toArray, List.getElem?_cons_zero, List.getElem?_cons_succ] at z0 z1 z2 z3 z4 z5 z6 z7
  clear hb4 hx5
  go_wp2
  have hh := set8_heap HX5.out (.int .i64 (d'.kind : Int)) (.int .i64 d'.r0) (.int .i64 d'.r1) (.int .i64 d'.r2) (.int .i64 d'.r3) (.slice p3 n3 c3) (.int .i64 d'.sent) (.bool d'.up)
  have hs8 := set8_svg W4 G2 (.int .i64 (d'.kind : Int)) (.int .i64 d'.r0) (.int .i64 d'.r1) (.int .i64 d'.r2) (.int .i64 d'.r3) (.slice p3 n3 c3) (.int .i64 d'.sent) (.bool d'.up)
  have hw4 : Bel w W4 := (Ysv.bel HS3.out (HB1.out.trans HB2.out.drew) HB1.out.size).trans HB4.out
  refine bodyPost_ret (results_cell1 Try.results18 _ _ G2 _ _ _ _ rfl hh Try.underlying27 rfl (by kernel_rfl)) rfl ⟨_, rfl, hs8.bel hw4 (by have := HG2.out; omega), .slice p3 n3 c3, rfl, ?_⟩
  exact (HQ3.out.bel HB4.out).svg (B := W1.heap.size) hs8 (fun b o n c hv => ⟨(HO3.out b o n c hv).1, by have := (HO3.out b o n c hv).1; have := HLT.out; omega⟩)
theorem write_any {w : World} {d : Dev} {v : Value} (h : StAt w v d) (hd : Ok d) {r : Nat} (hr : r < 4) (x : Int) :
    Calls Try.prog 13 #[v, .int .i64 (r : Int), .int .i64 x] w (OnePost (wrV d r x) w) := by
  have hk := hd.kind
  have hk' : d.kind = 1 ∨ d.kind = 2 ∨ d.kind = 3 := by omega
  rcases r with _ | _ | _ | _ | r
  · rcases hk' with hk | hk | hk
    · exact write1_0 x h hd hk
    · exact write2_0 x h hd hk
    · exact write3_0 x h hd hk
  · rcases hk' with hk | hk | hk
    · exact write1_1 x h hd hk
    · exact write2_1 x h hd hk
    · exact write3_1 x h hd hk
  · rcases hk' with hk | hk | hk
    · exact write1_2 x h hd hk
    · exact write2_2 x h hd hk
    · exact write3_2 x h hd hk
  · rcases hk' with hk | hk | hk
    · exact write1_3 x h hd hk
    · exact write2_3 x h hd hk
    · exact write3_3 x h hd hk
  · omega
theorem input_any {w : World} {d : Dev} {v : Value} (h : StAt w v d) (hd : Ok d) (x : Int) :
    Calls Try.prog 18 #[v, .int .i64 x] w (OnePost (inV d x) w) := by
  have hk := hd.kind
  have hk' : d.kind = 1 ∨ d.kind = 2 ∨ d.kind = 3 := by omega
  rcases hk' with hk | hk | hk
  · exact input1 x h hd hk
  · exact input2 x h hd hk
  · exact input3 x h hd hk
end Go.Proofs.Ytbhpnoodpicdkaa
