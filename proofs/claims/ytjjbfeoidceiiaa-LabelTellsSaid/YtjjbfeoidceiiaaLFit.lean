/- Of raw items such that may be: the law's Fit. -/
import Derived.Test.YtjjbfeoidceiiaaLFitA
import Derived.StillTailTactics
namespace Go.Proofs.Ytjjbfeoidceiiaa
open Go.RowKit Rv Lb
set_option linter.unusedVariables false
set_option maxRecDepth 100000 in
set_option maxHeartbeats 8000000 in
theorem fit3_any (p : Option Addr) (n c : Nat) (raw : List Itm) (w : World) (hn : raw.length = n) (hm : n ≤ 9223372036854775807) (HP : Hid (1 ≤ n → ∃ b o, p = some ⟨b, o, none⟩ ∧ ItemsAt w b o raw)) (HWF : Hid (∀ x ∈ raw, Itm.wf x)) :
    Calls Try.prog 12 #[.slice p n c] w (FitIs w) := by
  have HNN := Lib.hid hn
  clear hn
  have HS0 : Hid (FaAny w w (.slice none 0 0) (.slice none 0 0) 0) := ⟨[], [], Both.refl _, World.ownsRow_nil _ _ _ _, World.ownsRow_nil _ _ _ _, FitInv.nil, Nat.le_refl _, Nat.le_refl _, fun i j h => by cases h⟩
  go_enter Try.func12, Try.ntmps12
  go_wp2_with fail
  go_loopw [3, 4, 5] (fun v u i wr => ∃ k : Nat, k ≤ n ∧ k ≤ 16 ∧ i = .int .i64 k ∧ Hid (FaAny w wr v u k)) (fun _ _ i _ => n - (intOf i).toNat)
  case atStart => exact ⟨0, by omega, by omega, rfl, HS0.out⟩
  case round =>
    obtain ⟨k, hk, hk2, rfl, HF⟩ := hrel
    by_cases hlt : k < n ∧ k < 16
    · obtain ⟨hlt, hl16⟩ := hlt
      obtain ⟨b, o, rfl, hit⟩ := HP.out (by omega)
      obtain ⟨kd, xo, xd, xa, xb, xn, xm, xs, hx⟩ := items_one (l := raw) (k := k) (by rw [HNN.out]; exact hlt)
      obtain ⟨O, Nm, hfa⟩ := HF.out
      have HFA := Lib.hid hfa
      obtain ⟨c0, c1, c2, c3, c4, c5, c6, c7⟩ := (hit.both hfa.both).get hx
      have hwx := HWF.out _ (List.mem_of_getElem? hx)
      have HWX := Lib.hid hwx
      have hk' : (k : Int) < n := by omega
      have hk16 : (k : Int) < 16 := by omega
      obtain ⟨q1, q2⟩ := pick_bd kd 5 (by omega)
      obtain ⟨q, hq⟩ : ∃ q, pick kd 5 = q := ⟨_, rfl⟩
      rw [hq] at q1 q2
      have HQ := Lib.hid hq
      have h5 : q = 0 ∨ q = 1 ∨ q = 2 ∨ q = 3 ∨ q = 4 := by omega
      clear hq hwx hfa hit hx q1 q2 HF HS0
      rcases h5 with rfl | rfl | rfl | rfl | rfl
      · obtain ⟨⟨fo, fd, fa, fb, fn⟩, hfit⟩ : ∃ j, fit ⟨xo, xd, xa, xb, xn⟩ = j := ⟨_, rfl⟩
        have hok := ok_ins (right_fit ⟨xo, xd, xa, xb, xn⟩)
        rw [hfit] at hok
        have HOK := Lib.hid hok
        have HFIT := Lib.hid hfit
        clear hok hfit
        go_upto_region 13 with (go_at_call 13; ((with_reducible refine (pick3 HWX.out.kind (by omega) HQ.out _).mono ?_); rintro e w' ⟨rfl, rfl⟩))
        have HFA1 := Lib.hid (HFA.out.both' ((Both.refl wr).alloc #[.int .i64 kd, .int .i64 xo, .int .i64 xd, .int .i64 xa, .int .i64 xb, .int .i64 xn, .string xs, .int .i64 xm] 26))
        have hX := heap_alloc_new wr (.cells #[.int .i64 kd, .int .i64 xo, .int .i64 xd, .int .i64 xa, .int .i64 xb, .int .i64 xn, .string xs, .int .i64 xm] 26)
        generalize wr.alloc (.cells #[.int .i64 kd, .int .i64 xo, .int .i64 xd, .int .i64 xa, .int .i64 xb, .int .i64 xn, .string xs, .int .i64 xm] 26) = W1 at HFA1 hX ⊢
        generalize wr.heap.size = xB at hX ⊢
        have e1 := cell_of_heap hX 1
        have e2 := cell_of_heap hX 2
        have e3 := cell_of_heap hX 3
        have e4 := cell_of_heap hX 4
        have e5 := cell_of_heap hX 5
        simp only [List.getElem?_toArray, List.getElem?_cons_zero, List.getElem?_cons_succ] at e1 e2 e3 e4 e5
        clear c0 c1 c2 c3 c4 c5 c6 c7 HFA HQ hX
        go_wp2_with (first
          | (at_builtin; refine wpList_xrow rfl (.tmp 50) (.tmp 55) rfl w.heap.size u3 O rfl (ownsRow_sav HFA1.out.out ((hb1.alloc _ _).sav fun _ => False) (fun _ _ => id)) _ ⟨1, ⟨fo, fd, fa, fb, fn⟩, ⟨#[]⟩, 0⟩ rfl (new8 _ _ ⟨1, ⟨fo, fd, fa, fb, fn⟩, ⟨#[]⟩, 0⟩) (HFA1.out.bound hk2).1 (by have h1 := (HFA1.out.bound hk2).2; have h2 := hb1.1.size; simp; omega) ?_; intro v' w2 h1 h2 h3)
          | (go_at_call 30; refine (fit3_lit HFIT.out HWX.out.i _).mono ?_; rintro e w1 ⟨rfl, hb1⟩))
        have HN : Hid (FaAny w w2 v' u4 (k + 1)) := ⟨_, _, HFA1.out.put h1 (((hb1.alloc _ _).sav _).trans h2) (HFA1.out.inv.other HOK.out (by simp))⟩
        go_roundw
        case rel => exact ⟨k + 1, by omega, by omega, by go_num, HN.out⟩
        case measure => simp [intOf]; omega
      · go_upto_region 17 with (first
          | (go_at_call 13; ((with_reducible refine (pick3 HWX.out.kind (by omega) HQ.out _).mono ?_); rintro e w' ⟨rfl, rfl⟩))
          | (go_at_call 31; refine (name3_any xm HWX.out.n _).mono ?_; rintro e w1 ⟨s, hs, rfl, hb1⟩))
        have HS := Lib.hid hs
        have HFA1 := Lib.hid (HFA.out.both' (((Both.refl wr).alloc #[.int .i64 kd, .int .i64 xo, .int .i64 xd, .int .i64 xa, .int .i64 xb, .int .i64 xn, .string xs, .int .i64 xm] 26).trans hb1))
        clear c0 c1 c2 c3 c4 c5 c6 c7 HFA HQ hs hb1
        obtain ⟨UB, uc, rfl, HU⟩ := HFA1.out.nam.some
        have hNl : Nm.length ≤ 1000 := by
          have h1 := HFA1.out.few
          omega
        go_wp2_with fail
        go_loopw [8, 9] (fun hd i w9 => ∃ j : Nat, j ≤ Nm.length ∧ i = .int .i64 j ∧ hd = .bool (hadTo Nm s j) ∧ w9 = w1) (fun _ i _ => Nm.length - (intOf i).toNat)
        case atStart => exact ⟨0, by omega, rfl, by simp [hadTo], rfl⟩
        case round =>
          obtain ⟨j, hj, rfl, rfl, rfl⟩ := hrel
          by_cases hjl : j < Nm.length
          · have hjt : Nm[j]? = some Nm[j] := List.getElem?_eq_getElem hjl
            obtain ⟨t, ht⟩ : ∃ t, Nm[j] = t := ⟨_, rfl⟩
            rw [ht] at hjt
            obtain ⟨g, rfl, hg⟩ := HU.out j t hjt
            have hsu := hadTo_succ s hjt
            have HSU := Lib.hid hsu
            obtain ⟨hd, hhd⟩ : ∃ q, hadTo Nm s j = q := ⟨_, rfl⟩
            rw [hhd] at HSU ⊢
            have hj' : (j : Int) < Nm.length := by omega
            clear hhd hsu ht hjt
            cases hd with
            | true =>
              go_wp2_with fail
              go_roundw
              case rel => exact ⟨j + 1, by omega, by go_num, by rw [HSU.out]; rfl, trivial⟩
              case measure => simp [intOf]; omega
            | false =>
              go_wp2_with fail
              go_roundw
              case rel =>
                refine ⟨j + 1, by omega, by go_num, ?_, trivial⟩
                rw [HSU.out, Bool.false_or]
                by_cases e : t = s
                · subst e; simp
                · have e2 : (t.toList == s.toList) = false := by simpa using (fun q => e (bytes_list q) : ¬ t.toList = s.toList)
                  rw [e2]; simp [e]
              case measure => simp [intOf]; omega
          · obtain rfl : j = Nm.length := by omega
            obtain ⟨hd, hhd⟩ : ∃ q, hadTo Nm s Nm.length = q := ⟨_, rfl⟩
            rw [hhd]
            have HHD := Lib.hid hhd
            clear hhd
            cases hd with
            | true =>
              go_wp2_with fail
              have HN : Hid (FaAny w wr u3 (.slice UB Nm.length uc) (k + 1)) := ⟨_, _, HFA1.out.more⟩
              go_roundw
              case rel => exact ⟨k + 1, by omega, by omega, by go_num, HN.out⟩
              case measure => simp [intOf]; omega
            | false =>
              have hni : s ∉ Nm := fun c => by
                have h1 := hadTo_all.2 c
                rw [HHD.out] at h1
                cases h1
              have HNI := Lib.hid hni
              clear hni
              go_wp2_with (first
                | (at_builtin; refine wpList_srow rfl (.tmp 79) (.tmp 81) rfl w.heap.size (.slice UB Nm.length uc) Nm rfl (ownsRow_sav HFA1.out.nam (((Both.refl wr).alloc _ _).sav fun _ => False) (fun _ _ => id)) _ s rfl (World.cell?_alloc_new _ _ _ 0) hNl (by have h1 := (HFA1.out.bound hk2).2; simp; omega) ?_; intro v' w2 h1 h2 h3)
                | (at_builtin; refine wpList_xrow rfl (.tmp 83) (.tmp 86) rfl w.heap.size u3 O rfl (ownsRow_sav HFA1.out.out (((((Both.refl wr).alloc _ _).sav _).trans h2).trans (((Both.refl _).alloc _ _).sav _)) (fun j hj e => HFA1.out.apart j j hj e rfl)) _ ⟨2, ⟨0, 0, 0, 0, 0⟩, s, 0⟩ rfl (new8 _ _ ⟨2, ⟨0, 0, 0, 0, 0⟩, s, 0⟩) (HFA1.out.bound hk2).1 (by have h1 := (HFA1.out.bound hk2).2; have h4 := h2.size; simp at h4 ⊢; omega) ?_; intro v2 w3 g1 g2 g3))
              have HN : Hid (FaAny w w3 v2 v' (k + 1)) := ⟨_, _, HFA1.out.lab h1 ((((Both.refl wr).alloc _ _).sav _).trans h2) g1 ((((Both.refl w2).alloc _ _).sav _).trans g2) (HFA1.out.inv.label (List.mem_cons_of_mem _ HS.out) HNI.out)⟩
              go_roundw
              case rel => exact ⟨k + 1, by omega, by omega, by go_num, HN.out⟩
              case measure => simp [intOf]; omega
      · go_upto_region 25 with (go_at_call 13; ((with_reducible refine (pick3 HWX.out.kind (by omega) HQ.out _).mono ?_); rintro e w' ⟨rfl, rfl⟩))
        have HFA1 := Lib.hid (HFA.out.both' ((Both.refl wr).alloc #[.int .i64 kd, .int .i64 xo, .int .i64 xd, .int .i64 xa, .int .i64 xb, .int .i64 xn, .string xs, .int .i64 xm] 26))
        have hX := heap_alloc_new wr (.cells #[.int .i64 kd, .int .i64 xo, .int .i64 xd, .int .i64 xa, .int .i64 xb, .int .i64 xn, .string xs, .int .i64 xm] 26)
        have lX := lt_of_heap hX
        generalize wr.alloc (.cells #[.int .i64 kd, .int .i64 xo, .int .i64 xd, .int .i64 xa, .int .i64 xb, .int .i64 xn, .string xs, .int .i64 xm] 26) = W1 at HFA1 hX lX ⊢
        generalize wr.heap.size = xB at hX lX ⊢
        have hkeep : ∀ w', Both W1 w' → w'.cell? ⟨xB, 1, none⟩ = some (.int .i64 xo) ∧ w'.cell? ⟨xB, 3, none⟩ = some (.int .i64 xa) ∧ w'.cell? ⟨xB, 4, none⟩ = some (.int .i64 xb) := fun w' h =>
          have hY := (h.1.block xB lX).trans hX
          ⟨cell_of_heap hY 1, cell_of_heap hY 3, cell_of_heap hY 4⟩
        have e1 := cell_of_heap hX 1
        have e3 := cell_of_heap hX 3
        have e4 := cell_of_heap hX 4
        simp only [List.getElem?_toArray, List.getElem?_cons_zero, List.getElem?_cons_succ] at e1 e3 e4
        have HKEEP := Lib.hid hkeep
        have HX := Lib.hid hX
        clear c0 c1 c2 c3 c4 c5 c6 c7 hkeep hX HFA HQ
        obtain ⟨po1, po2⟩ := pick_bd xo 6 (by omega)
        obtain ⟨po, hpo⟩ : ∃ q, pick xo 6 = q := ⟨_, rfl⟩
        rw [hpo] at po1 po2
        have HPO := Lib.hid hpo
        clear hpo
        obtain ⟨pa1, pa2⟩ := pick_bd xa 32 (by omega)
        obtain ⟨pa, hpa⟩ : ∃ q, pick xa 32 = q := ⟨_, rfl⟩
        rw [hpa] at pa1 pa2
        have HPA := Lib.hid hpa
        clear hpa
        obtain ⟨pb1, pb2⟩ := pick_bd xb 32 (by omega)
        obtain ⟨pb, hpb⟩ : ∃ q, pick xb 32 = q := ⟨_, rfl⟩
        rw [hpb] at pb1 pb2
        have HPB := Lib.hid hpb
        clear hpb
        have v1 : IntKind.i64.wrap (5 + po) = 5 + po := IntWalk.i64_in _ (by constructor <;> omega)
        have HL1 := Lib.hid (leads_br po1 po2 pa1 pa2 pb1 pb2)
        have HL2 := Lib.hid (leads_jal pa1 pa2)
        exact wp_meet _ _ (by
          go_region_held3 (fun w' => w'.cell? ⟨xB, 1, none⟩ = some (.int .i64 xo) ∧ w'.cell? ⟨xB, 3, none⟩ = some (.int .i64 xa) ∧ w'.cell? ⟨xB, 4, none⟩ = some (.int .i64 xb))
            (first | exact HKEEP.out _ (Both.refl _).drew | exact HKEEP.out _ ((Both.refl _).drew.alloc _ _) | exact HKEEP.out _ (((Both.refl _).alloc _ _).drew))
            (first
              | (go_at_call 13; ((with_reducible refine (pick3 HWX.out.i.op (by omega) HPO.out _).mono ?_); rintro e w' ⟨rfl, rfl⟩))
              | (go_at_call 13; ((with_reducible refine (pick3 HWX.out.i.a (by omega) HPA.out _).mono ?_); rintro e w' ⟨rfl, rfl⟩))
              | (go_at_call 13; ((with_reducible refine (pick3 HWX.out.i.b (by omega) HPB.out _).mono ?_); rintro e w' ⟨rfl, rfl⟩)))
          all_goals exact ⟨rfl, rfl, rfl⟩) (by
          have hFA2 := HFA1.out.both' (((Both.refl W1).alloc #[.int .i64 (5 + po), .int .i64 0, .int .i64 pa, .int .i64 pb, .int .i64 0] 24).drew)
          have hI := heap_alloc_new W1 (.cells #[.int .i64 (5 + po), .int .i64 0, .int .i64 pa, .int .i64 pb, .int .i64 0] 24)
          have hI2 : ((W1.alloc (.cells #[.int .i64 (5 + po), .int .i64 0, .int .i64 pa, .int .i64 pb, .int .i64 0] 24)).drew).heap[W1.heap.size]? = some (.cells #[.int .i64 (5 + po), .int .i64 0, .int .i64 pa, .int .i64 pb, .int .i64 0] 24 (0, 0)) := hI
          have hX2 := (((Both.refl W1).alloc #[.int .i64 (5 + po), .int .i64 0, .int .i64 pa, .int .i64 pb, .int .i64 0] 24).drew.1.block xB lX).trans HX.out
          have lXI : xB ≠ W1.heap.size := by omega
          have hwi : w.heap.size ≤ W1.heap.size := HFA1.out.both.1.size
          have HOI : Hid (∀ j, u3.ownBlock = some j → j ≠ W1.heap.size) := fun j hj => by have := (HFA1.out.out.lt j hj).2; omega
          have HNI : Hid (∀ j, u4.ownBlock = some j → j ≠ W1.heap.size) := fun j hj => by have := (HFA1.out.nam.lt j hj).2; omega
          have HFA2 := Lib.hid hFA2
          clear hFA2 hI e1 e3 e4 HKEEP HX HFA1 HPO HPB po1 po2 pb1 pb2 v1
          generalize (W1.alloc (.cells #[.int .i64 (5 + po), .int .i64 0, .int .i64 pa, .int .i64 pb, .int .i64 0] 24)).drew = W2 at HFA2 hI2 hX2 ⊢
          generalize W1.heap.size = iB at hI2 lXI hwi HOI HNI ⊢
          have lI := lt_of_heap hI2
          have lX2 := lt_of_heap hX2
          obtain ⟨pt, hpt⟩ : ∃ q, pick xd 4 = q := ⟨_, rfl⟩
          have HPT := Lib.hid hpt
          have x1 := cell_of_heap hX2 2
          have x2 := cell_of_heap hX2 3
          have x7 := cell_of_heap hX2 7
          have i0 := cell_of_heap hI2 0
          have i1 := cell_of_heap hI2 1
          have i2 := cell_of_heap hI2 2
          have i3 := cell_of_heap hI2 3
          have i4 := cell_of_heap hI2 4
          simp only [List.getElem?_toArray, List.getElem?_cons_zero, List.getElem?_cons_succ] at x1 x2 x7 i0 i1 i2 i3 i4
          have f0 := frozen_of_heap hI2 0
          have f1 := frozen_of_heap hI2 1
          have f2 := frozen_of_heap hI2 2
          have f3 := frozen_of_heap hI2 3
          have f4 := frozen_of_heap hI2 4
          have HI2 := Lib.hid hI2
          have HX2 := Lib.hid hX2
          clear hpt hI2 hX2
          have HRW : Hid (∀ W, Both W2 W → XRow W w.heap.size u3 O ∧ w.heap.size ≤ W.heap.size) := fun W h => ⟨ownsRow_sav HFA2.out.out (h.sav fun _ => False) (fun _ _ => id), (HFA2.out.both.trans h).1.size⟩
          have T3 := Lib.hid (HFA2.out.bound hk2).1
          cases ht : (pt == 0) with
          | false =>
            go_upto_region 28 with (go_at_call 13; ((with_reducible refine (pick3 HWX.out.i.d (by omega) HPT.out _).mono ?_); rintro e w' ⟨rfl, rfl⟩))
            have hcel : ∀ w', Both W2 w' → w'.cell? ⟨iB, 0, none⟩ = some (.int .i64 (5 + po)) ∧ w'.cell? ⟨iB, 1, none⟩ = some (.int .i64 0) ∧ w'.cell? ⟨iB, 2, none⟩ = some (.int .i64 pa) ∧ w'.cell? ⟨iB, 3, none⟩ = some (.int .i64 pb) ∧ w'.cell? ⟨iB, 4, none⟩ = some (.int .i64 0) := fun w' h =>
              ⟨(h.cell (p := ⟨iB, 0, none⟩) (World.block_lt_of_cell? _ ⟨iB, 0, none⟩ i0)).trans i0, (h.cell (p := ⟨iB, 1, none⟩) (World.block_lt_of_cell? _ ⟨iB, 0, none⟩ i0)).trans i1, (h.cell (p := ⟨iB, 2, none⟩) (World.block_lt_of_cell? _ ⟨iB, 0, none⟩ i0)).trans i2, (h.cell (p := ⟨iB, 3, none⟩) (World.block_lt_of_cell? _ ⟨iB, 0, none⟩ i0)).trans i3, (h.cell (p := ⟨iB, 4, none⟩) (World.block_lt_of_cell? _ ⟨iB, 0, none⟩ i0)).trans i4⟩
            have HCEL := Lib.hid hcel
            clear hcel
            go_region_law (first
              | (refine step_xrow rfl (.tmp 114) (.tmp 120) rfl w.heap.size u3 O (by simp [Act.eval]) (HRW.out _ (((Both.refl _).drew.trans hb9).alloc _ _)).1 w9.heap.size ⟨3, ⟨(5 + po), 0, pa, pb, 0⟩, s, 0⟩ (by simp [Act.eval]) (new8 w9 _ ⟨3, ⟨(5 + po), 0, pa, pb, 0⟩, s, 0⟩) T3.out (HRW.out _ (((Both.refl _).drew.trans hb9).alloc _ _)).2 ?_; intro v' w2 h1 h2 h3)
              | (go_simp; refine (name3_any xm HWX.out.n _).mono ?_; rintro e w9 ⟨s, hs, rfl, hb9⟩; obtain ⟨j0, j1, j2, j3, j4⟩ := HCEL.out _ ((Both.refl _).drew.trans hb9)))
            all_goals
              have HN : Hid (FaAny w w2 v' u4 (k + 1)) := ⟨_, _, HFA2.out.put h1 (((((Both.refl _).drew.trans hb9).alloc _ _).sav _).trans h2) (HFA2.out.inv.other (ok_to HL1.out hs) (by simp))⟩
              clear h1 h2 h3 hb9 j0 j1 j2 j3 j4
              go_wp2_with fail
              go_roundw
              case rel => exact ⟨k + 1, by omega, by omega, by go_num, HN.out⟩
              case measure => simp [intOf]; omega
          | true =>
            go_upto_region 28 with (first
              | (go_at_call 13; ((with_reducible refine (pick3 HWX.out.i.d (by omega) HPT.out _).mono ?_); rintro e w' ⟨rfl, rfl⟩))
              | (go_at_call 13; ((with_reducible refine (pick3 HWX.out.i.a (by omega) HPA.out _).mono ?_); rintro e w' ⟨rfl, rfl⟩)))
            have hFA3 := HFA2.out.set5 hwi HOI.out HNI.out (.int .i64 3) (.int .i64 pa) (.int .i64 0) (.int .i64 0) (.int .i64 0)
            have hI3 := set5 HI2.out (.int .i64 3) (.int .i64 pa) (.int .i64 0) (.int .i64 0) (.int .i64 0)
            have hne : ∀ j, (⟨iB, j, none⟩ : Addr) ≠ ⟨xB, 7, none⟩ := fun j e => lXI (congrArg Addr.block e).symm
            have hX3 : (((((W2.setCell ⟨iB, 0, none⟩ (.int .i64 3)).setCell ⟨iB, 1, none⟩ (.int .i64 pa)).setCell ⟨iB, 2, none⟩ (.int .i64 0)).setCell ⟨iB, 3, none⟩ (.int .i64 0)).setCell ⟨iB, 4, none⟩ (.int .i64 0)).cell? ⟨xB, 7, none⟩ = some (.int .i64 xm) := (World.cell?_setCell_other _ _ _ _ (hne 4)).trans ((World.cell?_setCell_other _ _ _ _ (hne 3)).trans ((World.cell?_setCell_other _ _ _ _ (hne 2)).trans ((World.cell?_setCell_other _ _ _ _ (hne 1)).trans ((World.cell?_setCell_other _ _ _ _ (hne 0)).trans x7))))
            have HFA3 := Lib.hid hFA3
            clear hFA3 HRW HFA2 hne i0 i1 i2 i3 i4 x1 x2 x7 f0 f1 f2 f3 f4 HI2 HX2 HOI HNI lX2 lI
            generalize (((((W2.setCell ⟨iB, 0, none⟩ (.int .i64 3)).setCell ⟨iB, 1, none⟩ (.int .i64 pa)).setCell ⟨iB, 2, none⟩ (.int .i64 0)).setCell ⟨iB, 3, none⟩ (.int .i64 0)).setCell ⟨iB, 4, none⟩ (.int .i64 0)) = Wj at HFA3 hI3 hX3 ⊢
            have i0 := cell_of_heap hI3 0
            have i1 := cell_of_heap hI3 1
            have i2 := cell_of_heap hI3 2
            have i3 := cell_of_heap hI3 3
            have i4 := cell_of_heap hI3 4
            simp only [List.getElem?_toArray, List.getElem?_cons_zero, List.getElem?_cons_succ] at i0 i1 i2 i3 i4
            clear hI3
            have HRW : Hid (∀ W, Both Wj W → XRow W w.heap.size u3 O ∧ w.heap.size ≤ W.heap.size) := fun W h => ⟨ownsRow_sav HFA3.out.out (h.sav fun _ => False) (fun _ _ => id), (HFA3.out.both.trans h).1.size⟩
            have hcel : ∀ w', Both Wj w' → w'.cell? ⟨iB, 0, none⟩ = some (.int .i64 3) ∧ w'.cell? ⟨iB, 1, none⟩ = some (.int .i64 pa) ∧ w'.cell? ⟨iB, 2, none⟩ = some (.int .i64 0) ∧ w'.cell? ⟨iB, 3, none⟩ = some (.int .i64 0) ∧ w'.cell? ⟨iB, 4, none⟩ = some (.int .i64 0) := fun w' h =>
              ⟨(h.cell (p := ⟨iB, 0, none⟩) (World.block_lt_of_cell? _ ⟨iB, 0, none⟩ i0)).trans i0, (h.cell (p := ⟨iB, 1, none⟩) (World.block_lt_of_cell? _ ⟨iB, 0, none⟩ i0)).trans i1, (h.cell (p := ⟨iB, 2, none⟩) (World.block_lt_of_cell? _ ⟨iB, 0, none⟩ i0)).trans i2, (h.cell (p := ⟨iB, 3, none⟩) (World.block_lt_of_cell? _ ⟨iB, 0, none⟩ i0)).trans i3, (h.cell (p := ⟨iB, 4, none⟩) (World.block_lt_of_cell? _ ⟨iB, 0, none⟩ i0)).trans i4⟩
            have HCEL := Lib.hid hcel
            clear hcel
            go_region_law (first
              | (refine step_xrow rfl (.tmp 114) (.tmp 120) rfl w.heap.size u3 O (by simp [Act.eval]) (HRW.out _ (((Both.refl _).drew.trans hb9).alloc _ _)).1 w9.heap.size ⟨3, ⟨3, pa, 0, 0, 0⟩, s, 0⟩ (by simp [Act.eval]) (new8 w9 _ ⟨3, ⟨3, pa, 0, 0, 0⟩, s, 0⟩) T3.out (HRW.out _ (((Both.refl _).drew.trans hb9).alloc _ _)).2 ?_; intro v' w2 h1 h2 h3)
              | (go_simp; refine (name3_any xm HWX.out.n _).mono ?_; rintro e w9 ⟨s, hs, rfl, hb9⟩; obtain ⟨j0, j1, j2, j3, j4⟩ := HCEL.out _ ((Both.refl _).drew.trans hb9)))
            all_goals
              have HN : Hid (FaAny w w2 v' u4 (k + 1)) := ⟨_, _, HFA3.out.put h1 (((((Both.refl _).drew.trans hb9).alloc _ _).sav _).trans h2) (HFA3.out.inv.other (ok_to HL2.out hs) (by simp))⟩
              clear h1 h2 h3 hb9 j0 j1 j2 j3 j4
              go_wp2_with fail
              go_roundw
              case rel => exact ⟨k + 1, by omega, by omega, by go_num, HN.out⟩
              case measure => simp [intOf]; omega)
      · go_upto_region 30 with (go_at_call 13; ((with_reducible refine (pick3 HWX.out.kind (by omega) HQ.out _).mono ?_); rintro e w' ⟨rfl, rfl⟩))
        have HFA1 := Lib.hid (HFA.out.both' ((Both.refl wr).alloc #[.int .i64 kd, .int .i64 xo, .int .i64 xd, .int .i64 xa, .int .i64 xb, .int .i64 xn, .string xs, .int .i64 xm] 26))
        have hX := heap_alloc_new wr (.cells #[.int .i64 kd, .int .i64 xo, .int .i64 xd, .int .i64 xa, .int .i64 xb, .int .i64 xn, .string xs, .int .i64 xm] 26)
        have lX := lt_of_heap hX
        generalize wr.alloc (.cells #[.int .i64 kd, .int .i64 xo, .int .i64 xd, .int .i64 xa, .int .i64 xb, .int .i64 xn, .string xs, .int .i64 xm] 26) = W1 at HFA1 hX lX ⊢
        generalize wr.heap.size = xB at hX lX ⊢
        have e2 := cell_of_heap hX 2
        have e7 := cell_of_heap hX 7
        simp only [List.getElem?_toArray, List.getElem?_cons_zero, List.getElem?_cons_succ] at e2 e7
        clear c0 c1 c2 c3 c4 c5 c6 c7 HFA HQ hX
        obtain ⟨pd1, pd2⟩ := pick_bd xd 31 (by omega)
        obtain ⟨pd, hpd⟩ : ∃ q, pick xd 31 = q := ⟨_, rfl⟩
        rw [hpd] at pd1 pd2
        have HPD := Lib.hid hpd
        clear hpd
        obtain ⟨m, hm'⟩ : ∃ q, wrap32 xm = q := ⟨_, rfl⟩
        have m1 := wr_lo xm
        have m2 := wr_hi xm
        rw [hm'] at m1 m2
        have HM := Lib.hid hm'
        clear hm'
        have v1 : IntKind.i64.wrap (1 + pd) = 1 + pd := IntWalk.i64_in _ (by constructor <;> omega)
        have HOK := Lib.hid (ok_num (d := 1 + pd) (n := m) (by omega) (by omega) m1 m2)
        clear m1 m2
        have hT1 : XRow ((W1.alloc (.cells #[.int .i64 4, .int .i64 0, .int .i64 (1 + pd), .int .i64 0, .int .i64 0, .int .i64 0, .string ⟨#[]⟩, .int .i64 m] 26)).drew) w.heap.size u3 O := ownsRow_sav HFA1.out.out (((Both.refl W1).alloc _ _).drew.sav fun _ => False) (fun _ _ => id)
        have hT2 : ∀ j u, (cells8 ⟨4, ⟨0, 1 + pd, 0, 0, 0⟩, ⟨#[]⟩, m⟩)[j]? = some u → ((W1.alloc (.cells #[.int .i64 4, .int .i64 0, .int .i64 (1 + pd), .int .i64 0, .int .i64 0, .int .i64 0, .string ⟨#[]⟩, .int .i64 m] 26)).drew).cell? ⟨W1.heap.size, j, none⟩ = some u := new8 W1 _ ⟨4, ⟨0, 1 + pd, 0, 0, 0⟩, ⟨#[]⟩, m⟩
        have hT4 : w.heap.size ≤ ((W1.alloc (.cells #[.int .i64 4, .int .i64 0, .int .i64 (1 + pd), .int .i64 0, .int .i64 0, .int .i64 0, .string ⟨#[]⟩, .int .i64 m] 26)).drew).heap.size := by
          have h1 := (HFA1.out.bound hk2).2
          have h2 := (((Both.refl W1).alloc #[.int .i64 4, .int .i64 0, .int .i64 (1 + pd), .int .i64 0, .int .i64 0, .int .i64 0, .string ⟨#[]⟩, .int .i64 m] 26).drew).1.size
          omega
        have T1 := Lib.hid hT1
        have T2 := Lib.hid hT2
        have T4 := Lib.hid hT4
        have T3 := Lib.hid (HFA1.out.bound hk2).1
        clear hT1 hT2 hT4
        go_region_law (first
          | (refine step_xrow rfl (.tmp 124) (.tmp 135) rfl w.heap.size u3 O (by simp [Act.eval]) T1.out W1.heap.size ⟨4, ⟨0, 1 + pd, 0, 0, 0⟩, ⟨#[]⟩, m⟩ (by simp [Act.eval]) T2.out T3.out T4.out ?_; intro v' w2 h1 h2 h3)
          | (go_simp; (with_reducible refine (pick3 HWX.out.i.d (by omega) HPD.out _).mono ?_); rintro e w' ⟨rfl, rfl⟩)
          | (go_simp; (with_reducible refine (wrap_is HM.out _).mono ?_); rintro e w' ⟨rfl, rfl⟩))
        all_goals
          have HN : Hid (FaAny w w2 v' u4 (k + 1)) := ⟨_, _, HFA1.out.put h1 ((((Both.refl W1).alloc _ _).drew.sav _).trans h2) (HFA1.out.inv.other HOK.out (by simp))⟩
          clear h1 h2 h3 T1 T2 T3 T4 e2 e7
          go_wp2_with fail
          go_roundw
          case rel => exact ⟨k + 1, by omega, by omega, by go_num, HN.out⟩
          case measure => simp [intOf]; omega
      · go_upto_region 8 with (go_at_call 13; ((with_reducible refine (pick3 HWX.out.kind (by omega) HQ.out _).mono ?_); rintro e w' ⟨rfl, rfl⟩))
        have HFA1 := Lib.hid (HFA.out.both' ((Both.refl wr).alloc #[.int .i64 kd, .int .i64 xo, .int .i64 xd, .int .i64 xa, .int .i64 xb, .int .i64 xn, .string xs, .int .i64 xm] 26))
        have hX := heap_alloc_new wr (.cells #[.int .i64 kd, .int .i64 xo, .int .i64 xd, .int .i64 xa, .int .i64 xb, .int .i64 xn, .string xs, .int .i64 xm] 26)
        have lX := lt_of_heap hX
        generalize wr.alloc (.cells #[.int .i64 kd, .int .i64 xo, .int .i64 xd, .int .i64 xa, .int .i64 xb, .int .i64 xn, .string xs, .int .i64 xm] 26) = W1 at HFA1 hX lX ⊢
        generalize wr.heap.size = xB at hX lX ⊢
        have e2 := cell_of_heap hX 2
        have e7 := cell_of_heap hX 7
        simp only [List.getElem?_toArray, List.getElem?_cons_zero, List.getElem?_cons_succ] at e2 e7
        clear c0 c1 c2 c3 c4 c5 c6 c7 HFA HQ hX
        obtain ⟨pn1, pn2⟩ := pick_bd xm 40 (by omega)
        obtain ⟨pn, hpn⟩ : ∃ q, pick xm 40 = q := ⟨_, rfl⟩
        rw [hpn] at pn1 pn2
        have HPN := Lib.hid hpn
        clear hpn
        obtain ⟨pt1, pt2⟩ := pick_bd xd 3 (by omega)
        obtain ⟨pt, hpt⟩ : ∃ q, pick xd 3 = q := ⟨_, rfl⟩
        rw [hpt] at pt1 pt2
        have HPT := Lib.hid hpt
        clear hpt
        obtain ⟨pl1, pl2⟩ := pick_bd xm 240 (by omega)
        obtain ⟨pl, hpl⟩ : ∃ q, pick xm 240 = q := ⟨_, rfl⟩
        rw [hpl] at pl1 pl2
        have HPL := Lib.hid hpl
        clear hpl
        have v1 : IntKind.i64.wrap (900 + pl) = 900 + pl := IntWalk.i64_in _ (by constructor <;> omega)
        have HOK := Lib.hid (ok_nops (n := pn) (by omega) (by omega))
        have HOL := Lib.hid (ok_nops (n := 900 + pl) (by omega) (by omega))
        cases ht : (pt == 0) with
        | false =>
          go_wp2_with (first
            | (at_builtin; refine wpList_xrow rfl (.tmp 43) (.tmp 46) rfl w.heap.size u3 O rfl (ownsRow_sav HFA1.out.out (((Both.refl W1).alloc _ _).sav fun _ => False) (fun _ _ => id)) _ ⟨5, ⟨0, 0, 0, 0, 0⟩, ⟨#[]⟩, pn⟩ rfl (new8 _ _ ⟨5, ⟨0, 0, 0, 0, 0⟩, ⟨#[]⟩, pn⟩) (HFA1.out.bound hk2).1 (by have h1 := (HFA1.out.bound hk2).2; simp; omega) ?_; intro v' w2 h1 h2 h3)
            | (go_at_call 13; ((with_reducible refine (pick3 HWX.out.n (by omega) HPN.out _).mono ?_); rintro e w' ⟨rfl, rfl⟩))
            | (go_at_call 13; ((with_reducible refine (pick3 HWX.out.i.d (by omega) HPT.out _).mono ?_); rintro e w' ⟨rfl, rfl⟩)))
          have HN : Hid (FaAny w w2 v' u4 (k + 1)) := ⟨_, _, HFA1.out.put h1 ((((Both.refl W1).alloc _ _).sav _).trans h2) (HFA1.out.inv.other HOK.out (by simp))⟩
          go_roundw
          case rel => exact ⟨k + 1, by omega, by omega, by go_num, HN.out⟩
          case measure => simp [intOf]; omega
        | true =>
          go_wp2_with (first
            | (at_builtin; refine wpList_xrow rfl (.tmp 43) (.tmp 46) rfl w.heap.size u3 O rfl (ownsRow_sav HFA1.out.out (((Both.refl W1).alloc _ _).sav fun _ => False) (fun _ _ => id)) _ ⟨5, ⟨0, 0, 0, 0, 0⟩, ⟨#[]⟩, (900 + pl)⟩ rfl (new8 _ _ ⟨5, ⟨0, 0, 0, 0, 0⟩, ⟨#[]⟩, (900 + pl)⟩) (HFA1.out.bound hk2).1 (by have h1 := (HFA1.out.bound hk2).2; simp; omega) ?_; intro v' w2 h1 h2 h3)
            | (go_at_call 13; ((with_reducible refine (pick3 HWX.out.n (by omega) HPN.out _).mono ?_); rintro e w' ⟨rfl, rfl⟩))
            | (go_at_call 13; ((with_reducible refine (pick3 HWX.out.i.d (by omega) HPT.out _).mono ?_); rintro e w' ⟨rfl, rfl⟩))
            | (go_at_call 13; ((with_reducible refine (pick3 HWX.out.n (by omega) HPL.out _).mono ?_); rintro e w' ⟨rfl, rfl⟩)))
          have HN : Hid (FaAny w w2 v' u4 (k + 1)) := ⟨_, _, HFA1.out.put h1 ((((Both.refl W1).alloc _ _).sav _).trans h2) (HFA1.out.inv.other HOL.out (by simp))⟩
          go_roundw
          case rel => exact ⟨k + 1, by omega, by omega, by go_num, HN.out⟩
          case measure => simp [intOf]; omega
    · obtain ⟨O, Nm, hfa⟩ := HF.out
      have hOl := hfa.len
      have hNl := hfa.few
      have HFA := Lib.hid hfa
      obtain ⟨UB, uc, rfl, HU⟩ := hfa.nam.some
      clear hfa HF HS0
      have hways : (k = 16 ∧ (16 : Int) < n) ∨ ¬ k < n := by omega
      rcases hways with ⟨rfl, hkn⟩ | hkn
      · cases hNm : (((Nm.length : Int)) == 0) with
        | true =>
          have hz : Nm = [] := List.eq_nil_of_length_eq_zero (by
            have : (Nm.length : Int) = 0 := by simpa using hNm
            omega)
          go_upto_region 34 with (first
            | (at_builtin; refine wpList_srow rfl (.tmp 140) (.tmp 141) rfl w.heap.size (.slice UB Nm.length uc) Nm rfl (ownsRow_sav HFA.out.nam (((Both.refl wr).alloc _ _).sav fun _ => False) (fun _ _ => id)) _ endName rfl (World.cell?_alloc_new _ _ _ 0) (by omega) (by have h1 := (HFA.out.bound hk2).2; simp; omega) ?_; intro v' w2 h1 h2 h3)
            | (at_builtin; refine wpList_xrow rfl (.tmp 143) (.tmp 145) rfl w.heap.size u3 O rfl (ownsRow_sav HFA.out.out (((((Both.refl wr).alloc _ _).sav _).trans h2).trans (((Both.refl _).alloc _ _).sav _)) (fun j hj e => HFA.out.apart j j hj e rfl)) _ ⟨2, ⟨0, 0, 0, 0, 0⟩, endName, 0⟩ rfl (new8 _ _ ⟨2, ⟨0, 0, 0, 0, 0⟩, endName, 0⟩) (HFA.out.bound hk2).1 (by have h1 := (HFA.out.bound hk2).2; have h4 := h2.size; simp at h4 ⊢; omega) ?_; intro v2 w3 g1 g2 g3))
          have hn := HFA.out.lab h1 ((((Both.refl wr).alloc _ _).sav _).trans h2) g1 ((((Both.refl w2).alloc _ _).sav _).trans g2) (HFA.out.inv.label (List.mem_cons_self) (by rw [hz]; simp))
          have hO1 : 1 ≤ (O ++ [labI endName]).length := by simp
          have hN1 : 1 ≤ (Nm ++ [endName]).length := by simp
          have hO17 : (O ++ [labI endName]).length ≤ 17 := by simp; omega
          have hN17 : (Nm ++ [endName]).length ≤ 17 := by simp; omega
          obtain ⟨UB2, uc2, rfl, HU2⟩ := hn.nam.some
          have HFB := Lib.hid hn
          clear hn h1 h2 h3 g1 g2 g3 hz hNm HFA HU hOl hNl
          generalize O ++ [labI endName] = O2 at hO1 hO17 HFB ⊢
          generalize Nm ++ [endName] = Nm2 at hN1 hN17 HFB HU2 ⊢
          obtain ⟨B, oc, rfl, hB, hit, hfr, hcap, hcap2⟩ := HFB.out.out.form (HFB.out.out.ne hO1)
          have HCA := Lib.hid hcap
          have HCB := Lib.hid hcap2
          clear hcap hcap2
          obtain ⟨G, rfl, _⟩ := HU2.out 0 _ (List.getElem?_eq_getElem (by omega : 0 < Nm2.length))
          have hGB : B ≠ G := HFB.out.apart B G rfl rfl
          have HFL : Hid (Fl w w3 B G O2 O2 Nm2 0) := ⟨HFB.out.both, hit, hfr, fun j t hj => by
            obtain ⟨g, hg, hc⟩ := HU2.out j t hj
            cases hg
            exact hc, Led.start _ _⟩
          have HIV := Lib.hid HFB.out.inv
          clear HFB HU2 hit hfr
          go_wp2_with fail
          go_loopw [12] (fun i wr' => ∃ j : Nat, j ≤ O2.length ∧ i = .int .i64 j ∧ ∃ L, Hid (Fl w wr' B G O2 L Nm2 j)) (fun i _ => O2.length - (intOf i).toNat)
          case atStart => exact ⟨0, by omega, rfl, _, HFL.out⟩
          case round =>
            obtain ⟨j, hj, rfl, L, HL⟩ := hrel
            by_cases hjl : j < O2.length
            · obtain ⟨kd, xo, xd, xa, xb, xn, xm, xs, hx⟩ := items_one (l := L) (k := j) (by rw [HL.out.led.len]; exact hjl)
              obtain ⟨c0, c1, c2, c3, c4, c5, c6, c7⟩ := HL.out.items.get hx
              rw [Nat.zero_add] at c0 c6
              have HX := Lib.hid hx
              have hj' : (j : Int) < O2.length := by omega
              cases h3 : (kd == 3) with
              | false =>
                have hk3 : kd ≠ 3 := fun e => by rw [e] at h3; simp at h3
                have HN : Hid (Fl w _ B G O2 L Nm2 (j + 1)) := ⟨HL.out.both, HL.out.items, HL.out.fro, HL.out.names, HL.out.led.skip hx hk3⟩
                clear hk3 hx c1 c2 c3 c4 c5 c7
                go_wp2_with fail
                go_roundw
                case rel => exact ⟨j + 1, by omega, by go_num, _, HN.out⟩
                case measure => simp [intOf]; omega
              | true =>
                obtain rfl : kd = 3 := by simpa using h3
                have hxO : xs.size ≤ 40 := by
                  have h1 : O2[j]? = some (O2[j]) := List.getElem?_eq_getElem hjl
                  have h2 := HL.out.led.same j _ h1 (Or.inr (Nat.le_refl _))
                  rw [hx] at h2
                  exact to_size (HIV.out.right _ (List.mem_of_getElem? (h1.trans h2.symm))).1
                have hrl : (xs.size + j) % Nm2.length < Nm2.length := Nat.mod_lt _ (by omega)
                obtain ⟨t, ht⟩ : ∃ t, Nm2[(xs.size + j) % Nm2.length]? = some t := ⟨_, List.getElem?_eq_getElem hrl⟩
                have hg := HL.out.names _ t ht
                have hfr := HL.out.fro (j * 8 + 6)
                have v1 : IntKind.i64.wrap ((xs.size : Int) + j) = (xs.size : Int) + j := IntWalk.i64_in _ (by constructor <;> omega)
                have v2 : 0 ≤ ((xs.size : Int) + j) % (Nm2.length : Int) := Int.emod_nonneg _ (by omega)
                have v4 : ((xs.size : Int) + j) % (Nm2.length : Int) < Nm2.length := Int.emod_lt_of_pos _ (by omega)
                have v3 : ((Nm2.length : Int) == 0) = false := by rw [beq_eq_false_iff_ne]; omega
                have HTM := Lib.hid (List.mem_of_getElem? ht)
                have HN := Lib.hid (HL.out.put hB hGB hx rfl (List.mem_of_getElem? ht))
                clear hx ht hrl h3 c1 c2 c3 c4 c5 c7
                go_wp2_with fail
                go_roundw
                case rel => exact ⟨j + 1, by omega, by go_num, _, HN.out⟩
                case measure => simp [intOf]; omega
            · obtain rfl : j = O2.length := by omega
              go_wp2_with fail
              go_ret
              exact HL.out.fit HIV.out hO1 hO17 oc HCA.out HCB.out
        | false =>
          have hz : Nm ≠ [] := fun e => by rw [e] at hNm; simp at hNm
          have hN1 : 1 ≤ Nm.length := by
            have : Nm.length ≠ 0 := fun e => hz (List.eq_nil_of_length_eq_zero e)
            omega
          have hN17 : Nm.length ≤ 17 := by omega
          have hO1 : 1 ≤ O.length := by
            obtain ⟨x, hx, _⟩ := HFA.out.inv.has _ (List.getElem_mem (by omega : 0 < Nm.length))
            exact List.length_pos_of_mem hx
          have hO17 : O.length ≤ 17 := by omega
          go_upto_region 34 with (fail)
          clear hz hNm
          obtain ⟨B, oc, rfl, hB, hit, hfr, hcap, hcap2⟩ := HFA.out.out.form (HFA.out.out.ne hO1)
          have HCA := Lib.hid hcap
          have HCB := Lib.hid hcap2
          clear hcap hcap2
          obtain ⟨G, rfl, _⟩ := HU.out 0 _ (List.getElem?_eq_getElem (by omega : 0 < Nm.length))
          have hGB : B ≠ G := HFA.out.apart B G rfl rfl
          have HFL : Hid (Fl w wr B G O O Nm 0) := ⟨HFA.out.both, hit, hfr, fun j t hj => by
            obtain ⟨g, hg, hc⟩ := HU.out j t hj
            cases hg
            exact hc, Led.start _ _⟩
          have HIV := Lib.hid HFA.out.inv
          clear HFA HU hit hfr
          go_wp2_with fail
          go_loopw [12] (fun i wr' => ∃ j : Nat, j ≤ O.length ∧ i = .int .i64 j ∧ ∃ L, Hid (Fl w wr' B G O L Nm j)) (fun i _ => O.length - (intOf i).toNat)
          case atStart => exact ⟨0, by omega, rfl, _, HFL.out⟩
          case round =>
            obtain ⟨j, hj, rfl, L, HL⟩ := hrel
            by_cases hjl : j < O.length
            · obtain ⟨kd, xo, xd, xa, xb, xn, xm, xs, hx⟩ := items_one (l := L) (k := j) (by rw [HL.out.led.len]; exact hjl)
              obtain ⟨c0, c1, c2, c3, c4, c5, c6, c7⟩ := HL.out.items.get hx
              rw [Nat.zero_add] at c0 c6
              have HX := Lib.hid hx
              have hj' : (j : Int) < O.length := by omega
              cases h3 : (kd == 3) with
              | false =>
                have hk3 : kd ≠ 3 := fun e => by rw [e] at h3; simp at h3
                have HN : Hid (Fl w _ B G O L Nm (j + 1)) := ⟨HL.out.both, HL.out.items, HL.out.fro, HL.out.names, HL.out.led.skip hx hk3⟩
                clear hk3 hx c1 c2 c3 c4 c5 c7
                go_wp2_with fail
                go_roundw
                case rel => exact ⟨j + 1, by omega, by go_num, _, HN.out⟩
                case measure => simp [intOf]; omega
              | true =>
                obtain rfl : kd = 3 := by simpa using h3
                have hxO : xs.size ≤ 40 := by
                  have h1 : O[j]? = some (O[j]) := List.getElem?_eq_getElem hjl
                  have h2 := HL.out.led.same j _ h1 (Or.inr (Nat.le_refl _))
                  rw [hx] at h2
                  exact to_size (HIV.out.right _ (List.mem_of_getElem? (h1.trans h2.symm))).1
                have hrl : (xs.size + j) % Nm.length < Nm.length := Nat.mod_lt _ (by omega)
                obtain ⟨t, ht⟩ : ∃ t, Nm[(xs.size + j) % Nm.length]? = some t := ⟨_, List.getElem?_eq_getElem hrl⟩
                have hg := HL.out.names _ t ht
                have hfr := HL.out.fro (j * 8 + 6)
                have v1 : IntKind.i64.wrap ((xs.size : Int) + j) = (xs.size : Int) + j := IntWalk.i64_in _ (by constructor <;> omega)
                have v2 : 0 ≤ ((xs.size : Int) + j) % (Nm.length : Int) := Int.emod_nonneg _ (by omega)
                have v4 : ((xs.size : Int) + j) % (Nm.length : Int) < Nm.length := Int.emod_lt_of_pos _ (by omega)
                have v3 : ((Nm.length : Int) == 0) = false := by rw [beq_eq_false_iff_ne]; omega
                have HTM := Lib.hid (List.mem_of_getElem? ht)
                have HN := Lib.hid (HL.out.put hB hGB hx rfl (List.mem_of_getElem? ht))
                clear hx ht hrl h3 c1 c2 c3 c4 c5 c7
                go_wp2_with fail
                go_roundw
                case rel => exact ⟨j + 1, by omega, by go_num, _, HN.out⟩
                case measure => simp [intOf]; omega
            · obtain rfl : j = O.length := by omega
              go_wp2_with fail
              go_ret
              exact HL.out.fit HIV.out hO1 hO17 oc HCA.out HCB.out
      · cases hNm : (((Nm.length : Int)) == 0) with
        | true =>
          have hz : Nm = [] := List.eq_nil_of_length_eq_zero (by
            have : (Nm.length : Int) = 0 := by simpa using hNm
            omega)
          go_upto_region 34 with (first
            | (at_builtin; refine wpList_srow rfl (.tmp 140) (.tmp 141) rfl w.heap.size (.slice UB Nm.length uc) Nm rfl (ownsRow_sav HFA.out.nam (((Both.refl wr).alloc _ _).sav fun _ => False) (fun _ _ => id)) _ endName rfl (World.cell?_alloc_new _ _ _ 0) (by omega) (by have h1 := (HFA.out.bound hk2).2; simp; omega) ?_; intro v' w2 h1 h2 h3)
            | (at_builtin; refine wpList_xrow rfl (.tmp 143) (.tmp 145) rfl w.heap.size u3 O rfl (ownsRow_sav HFA.out.out (((((Both.refl wr).alloc _ _).sav _).trans h2).trans (((Both.refl _).alloc _ _).sav _)) (fun j hj e => HFA.out.apart j j hj e rfl)) _ ⟨2, ⟨0, 0, 0, 0, 0⟩, endName, 0⟩ rfl (new8 _ _ ⟨2, ⟨0, 0, 0, 0, 0⟩, endName, 0⟩) (HFA.out.bound hk2).1 (by have h1 := (HFA.out.bound hk2).2; have h4 := h2.size; simp at h4 ⊢; omega) ?_; intro v2 w3 g1 g2 g3))
          have hn := HFA.out.lab h1 ((((Both.refl wr).alloc _ _).sav _).trans h2) g1 ((((Both.refl w2).alloc _ _).sav _).trans g2) (HFA.out.inv.label (List.mem_cons_self) (by rw [hz]; simp))
          have hO1 : 1 ≤ (O ++ [labI endName]).length := by simp
          have hN1 : 1 ≤ (Nm ++ [endName]).length := by simp
          have hO17 : (O ++ [labI endName]).length ≤ 17 := by simp; omega
          have hN17 : (Nm ++ [endName]).length ≤ 17 := by simp; omega
          obtain ⟨UB2, uc2, rfl, HU2⟩ := hn.nam.some
          have HFB := Lib.hid hn
          clear hn h1 h2 h3 g1 g2 g3 hz hNm HFA HU hOl hNl
          generalize O ++ [labI endName] = O2 at hO1 hO17 HFB ⊢
          generalize Nm ++ [endName] = Nm2 at hN1 hN17 HFB HU2 ⊢
          obtain ⟨B, oc, rfl, hB, hit, hfr, hcap, hcap2⟩ := HFB.out.out.form (HFB.out.out.ne hO1)
          have HCA := Lib.hid hcap
          have HCB := Lib.hid hcap2
          clear hcap hcap2
          obtain ⟨G, rfl, _⟩ := HU2.out 0 _ (List.getElem?_eq_getElem (by omega : 0 < Nm2.length))
          have hGB : B ≠ G := HFB.out.apart B G rfl rfl
          have HFL : Hid (Fl w w3 B G O2 O2 Nm2 0) := ⟨HFB.out.both, hit, hfr, fun j t hj => by
            obtain ⟨g, hg, hc⟩ := HU2.out j t hj
            cases hg
            exact hc, Led.start _ _⟩
          have HIV := Lib.hid HFB.out.inv
          clear HFB HU2 hit hfr
          go_wp2_with fail
          go_loopw [12] (fun i wr' => ∃ j : Nat, j ≤ O2.length ∧ i = .int .i64 j ∧ ∃ L, Hid (Fl w wr' B G O2 L Nm2 j)) (fun i _ => O2.length - (intOf i).toNat)
          case atStart => exact ⟨0, by omega, rfl, _, HFL.out⟩
          case round =>
            obtain ⟨j, hj, rfl, L, HL⟩ := hrel
            by_cases hjl : j < O2.length
            · obtain ⟨kd, xo, xd, xa, xb, xn, xm, xs, hx⟩ := items_one (l := L) (k := j) (by rw [HL.out.led.len]; exact hjl)
              obtain ⟨c0, c1, c2, c3, c4, c5, c6, c7⟩ := HL.out.items.get hx
              rw [Nat.zero_add] at c0 c6
              have HX := Lib.hid hx
              have hj' : (j : Int) < O2.length := by omega
              cases h3 : (kd == 3) with
              | false =>
                have hk3 : kd ≠ 3 := fun e => by rw [e] at h3; simp at h3
                have HN : Hid (Fl w _ B G O2 L Nm2 (j + 1)) := ⟨HL.out.both, HL.out.items, HL.out.fro, HL.out.names, HL.out.led.skip hx hk3⟩
                clear hk3 hx c1 c2 c3 c4 c5 c7
                go_wp2_with fail
                go_roundw
                case rel => exact ⟨j + 1, by omega, by go_num, _, HN.out⟩
                case measure => simp [intOf]; omega
              | true =>
                obtain rfl : kd = 3 := by simpa using h3
                have hxO : xs.size ≤ 40 := by
                  have h1 : O2[j]? = some (O2[j]) := List.getElem?_eq_getElem hjl
                  have h2 := HL.out.led.same j _ h1 (Or.inr (Nat.le_refl _))
                  rw [hx] at h2
                  exact to_size (HIV.out.right _ (List.mem_of_getElem? (h1.trans h2.symm))).1
                have hrl : (xs.size + j) % Nm2.length < Nm2.length := Nat.mod_lt _ (by omega)
                obtain ⟨t, ht⟩ : ∃ t, Nm2[(xs.size + j) % Nm2.length]? = some t := ⟨_, List.getElem?_eq_getElem hrl⟩
                have hg := HL.out.names _ t ht
                have hfr := HL.out.fro (j * 8 + 6)
                have v1 : IntKind.i64.wrap ((xs.size : Int) + j) = (xs.size : Int) + j := IntWalk.i64_in _ (by constructor <;> omega)
                have v2 : 0 ≤ ((xs.size : Int) + j) % (Nm2.length : Int) := Int.emod_nonneg _ (by omega)
                have v4 : ((xs.size : Int) + j) % (Nm2.length : Int) < Nm2.length := Int.emod_lt_of_pos _ (by omega)
                have v3 : ((Nm2.length : Int) == 0) = false := by rw [beq_eq_false_iff_ne]; omega
                have HTM := Lib.hid (List.mem_of_getElem? ht)
                have HN := Lib.hid (HL.out.put hB hGB hx rfl (List.mem_of_getElem? ht))
                clear hx ht hrl h3 c1 c2 c3 c4 c5 c7
                go_wp2_with fail
                go_roundw
                case rel => exact ⟨j + 1, by omega, by go_num, _, HN.out⟩
                case measure => simp [intOf]; omega
            · obtain rfl : j = O2.length := by omega
              go_wp2_with fail
              go_ret
              exact HL.out.fit HIV.out hO1 hO17 oc HCA.out HCB.out
        | false =>
          have hz : Nm ≠ [] := fun e => by rw [e] at hNm; simp at hNm
          have hN1 : 1 ≤ Nm.length := by
            have : Nm.length ≠ 0 := fun e => hz (List.eq_nil_of_length_eq_zero e)
            omega
          have hN17 : Nm.length ≤ 17 := by omega
          have hO1 : 1 ≤ O.length := by
            obtain ⟨x, hx, _⟩ := HFA.out.inv.has _ (List.getElem_mem (by omega : 0 < Nm.length))
            exact List.length_pos_of_mem hx
          have hO17 : O.length ≤ 17 := by omega
          go_upto_region 34 with (fail)
          clear hz hNm
          obtain ⟨B, oc, rfl, hB, hit, hfr, hcap, hcap2⟩ := HFA.out.out.form (HFA.out.out.ne hO1)
          have HCA := Lib.hid hcap
          have HCB := Lib.hid hcap2
          clear hcap hcap2
          obtain ⟨G, rfl, _⟩ := HU.out 0 _ (List.getElem?_eq_getElem (by omega : 0 < Nm.length))
          have hGB : B ≠ G := HFA.out.apart B G rfl rfl
          have HFL : Hid (Fl w wr B G O O Nm 0) := ⟨HFA.out.both, hit, hfr, fun j t hj => by
            obtain ⟨g, hg, hc⟩ := HU.out j t hj
            cases hg
            exact hc, Led.start _ _⟩
          have HIV := Lib.hid HFA.out.inv
          clear HFA HU hit hfr
          go_wp2_with fail
          go_loopw [12] (fun i wr' => ∃ j : Nat, j ≤ O.length ∧ i = .int .i64 j ∧ ∃ L, Hid (Fl w wr' B G O L Nm j)) (fun i _ => O.length - (intOf i).toNat)
          case atStart => exact ⟨0, by omega, rfl, _, HFL.out⟩
          case round =>
            obtain ⟨j, hj, rfl, L, HL⟩ := hrel
            by_cases hjl : j < O.length
            · obtain ⟨kd, xo, xd, xa, xb, xn, xm, xs, hx⟩ := items_one (l := L) (k := j) (by rw [HL.out.led.len]; exact hjl)
              obtain ⟨c0, c1, c2, c3, c4, c5, c6, c7⟩ := HL.out.items.get hx
              rw [Nat.zero_add] at c0 c6
              have HX := Lib.hid hx
              have hj' : (j : Int) < O.length := by omega
              cases h3 : (kd == 3) with
              | false =>
                have hk3 : kd ≠ 3 := fun e => by rw [e] at h3; simp at h3
                have HN : Hid (Fl w _ B G O L Nm (j + 1)) := ⟨HL.out.both, HL.out.items, HL.out.fro, HL.out.names, HL.out.led.skip hx hk3⟩
                clear hk3 hx c1 c2 c3 c4 c5 c7
                go_wp2_with fail
                go_roundw
                case rel => exact ⟨j + 1, by omega, by go_num, _, HN.out⟩
                case measure => simp [intOf]; omega
              | true =>
                obtain rfl : kd = 3 := by simpa using h3
                have hxO : xs.size ≤ 40 := by
                  have h1 : O[j]? = some (O[j]) := List.getElem?_eq_getElem hjl
                  have h2 := HL.out.led.same j _ h1 (Or.inr (Nat.le_refl _))
                  rw [hx] at h2
                  exact to_size (HIV.out.right _ (List.mem_of_getElem? (h1.trans h2.symm))).1
                have hrl : (xs.size + j) % Nm.length < Nm.length := Nat.mod_lt _ (by omega)
                obtain ⟨t, ht⟩ : ∃ t, Nm[(xs.size + j) % Nm.length]? = some t := ⟨_, List.getElem?_eq_getElem hrl⟩
                have hg := HL.out.names _ t ht
                have hfr := HL.out.fro (j * 8 + 6)
                have v1 : IntKind.i64.wrap ((xs.size : Int) + j) = (xs.size : Int) + j := IntWalk.i64_in _ (by constructor <;> omega)
                have v2 : 0 ≤ ((xs.size : Int) + j) % (Nm.length : Int) := Int.emod_nonneg _ (by omega)
                have v4 : ((xs.size : Int) + j) % (Nm.length : Int) < Nm.length := Int.emod_lt_of_pos _ (by omega)
                have v3 : ((Nm.length : Int) == 0) = false := by rw [beq_eq_false_iff_ne]; omega
                have HTM := Lib.hid (List.mem_of_getElem? ht)
                have HN := Lib.hid (HL.out.put hB hGB hx rfl (List.mem_of_getElem? ht))
                clear hx ht hrl h3 c1 c2 c3 c4 c5 c7
                go_wp2_with fail
                go_roundw
                case rel => exact ⟨j + 1, by omega, by go_num, _, HN.out⟩
                case measure => simp [intOf]; omega
            · obtain rfl : j = O.length := by omega
              go_wp2_with fail
              go_ret
              exact HL.out.fit HIV.out hO1 hO17 oc HCA.out HCB.out
end Go.Proofs.Ytjjbfeoidceiiaa
