/- What lift of a form is: the instruction that a word's fields make. -/
import Derived.Test.YtjjbfeoidceiiaaDLay
namespace Go.Proofs.Ytjjbfeoidceiiaa
open Go.RowKit Rv
set_option linter.unusedVariables false
set_option linter.unusedSimpArgs false
structure Q4 where
  a : Int
  b : Int
  c : Int
  d : Int
def liftT (z : Int) (x : Pc) : Int := IntKind.i64.wrap (bits .and .i64 (z / 2 ^ x.a.toNat) (maskV x.w) * 2 ^ x.f.toNat)
def liftS (z : Int) (s : Q4) (x : Pc) : Q4 :=
  if x.p = 0 then ⟨bits .or .i64 s.a (liftT z x), s.b, s.c, s.d⟩ else
  if x.p = 1 then ⟨s.a, bits .or .i64 s.b (liftT z x), s.c, s.d⟩ else
  if x.p = 2 then ⟨s.a, s.b, bits .or .i64 s.c (liftT z x), s.d⟩ else ⟨s.a, s.b, s.c, bits .or .i64 s.d (liftT z x)⟩
def liftK (z : Int) (ps : List Pc) (k : Nat) : Q4 := (ps.take k).foldl (liftS z) ⟨0, 0, 0, 0⟩
theorem liftK_next {z : Int} {ps : List Pc} {k : Nat} {x : Pc} {s : Q4} (hu : liftK z ps k = s) (hx : ps[k]? = some x) : liftK z ps (k + 1) = liftS z s x := by
  subst hu
  obtain ⟨h, e⟩ := List.getElem?_eq_some_iff.1 hx
  unfold liftK
  rw [List.take_succ_eq_append_getElem h, List.foldl_append, e]
  rfl
theorem liftK_next0 {z : Int} {ps : List Pc} {k : Nat} {xf xa xw va vb vc vd : Int} (hu : liftK z ps k = ⟨va, vb, vc, vd⟩) (hx : ps[k]? = some ⟨0, xf, xa, xw⟩) :
    liftK z ps (k + 1) = ⟨bits .or .i64 va (IntKind.i64.wrap (bits .and .i64 (z / 2 ^ xa.toNat) (maskV xw) * 2 ^ xf.toNat)), vb, vc, vd⟩ := by
  rw [liftK_next hu hx]
  unfold liftS liftT
  rfl
theorem liftK_next1 {z : Int} {ps : List Pc} {k : Nat} {xf xa xw va vb vc vd : Int} (hu : liftK z ps k = ⟨va, vb, vc, vd⟩) (hx : ps[k]? = some ⟨1, xf, xa, xw⟩) :
    liftK z ps (k + 1) = ⟨va, bits .or .i64 vb (IntKind.i64.wrap (bits .and .i64 (z / 2 ^ xa.toNat) (maskV xw) * 2 ^ xf.toNat)), vc, vd⟩ := by
  rw [liftK_next hu hx]
  unfold liftS liftT
  rfl
theorem liftK_next2 {z : Int} {ps : List Pc} {k : Nat} {xf xa xw va vb vc vd : Int} (hu : liftK z ps k = ⟨va, vb, vc, vd⟩) (hx : ps[k]? = some ⟨2, xf, xa, xw⟩) :
    liftK z ps (k + 1) = ⟨va, vb, bits .or .i64 vc (IntKind.i64.wrap (bits .and .i64 (z / 2 ^ xa.toNat) (maskV xw) * 2 ^ xf.toNat)), vd⟩ := by
  rw [liftK_next hu hx]
  unfold liftS liftT
  rfl
theorem liftK_next3 {z : Int} {ps : List Pc} {k : Nat} {xf xa xw va vb vc vd : Int} (hu : liftK z ps k = ⟨va, vb, vc, vd⟩) (hx : ps[k]? = some ⟨3, xf, xa, xw⟩) :
    liftK z ps (k + 1) = ⟨va, vb, vc, bits .or .i64 vd (IntKind.i64.wrap (bits .and .i64 (z / 2 ^ xa.toNat) (maskV xw) * 2 ^ xf.toNat))⟩ := by
  rw [liftK_next hu hx]
  unfold liftS liftT
  rfl
/-- the three blocks that lift keeps: the form's, the result's, the parts' -/
structure LiftW (w wr : World) (fc : Array Value) (va vb vc vd : Int) : Prop where
  both : Both w wr
  h0 : wr.heap[w.heap.size]? = some (.cells fc 79 (0, 0))
  h1 : wr.heap[w.heap.size + 1]? = some (.cells #[.int .i64 0, .int .i64 0, .int .i64 0, .int .i64 0, .int .i64 0] 24 (0, 0))
  h2 : wr.heap[w.heap.size + 1 + 1]? = some (.cells #[.int .i64 va, .int .i64 vb, .int .i64 vc, .int .i64 vd] 85 (0, 0))
theorem LiftW.size {w wr : World} {fc : Array Value} {va vb vc vd : Int} (h : LiftW w wr fc va vb vc vd) : w.heap.size + 1 + 1 < wr.heap.size := by
  refine Nat.lt_of_not_le fun hge => ?_
  have := h.h2
  rw [Array.getElem?_eq_none hge] at this
  cases this
theorem LiftW.step {w wr w' : World} {fc : Array Value} {va vb vc vd : Int} (h : LiftW w wr fc va vb vc vd) (hb : Both wr w') : LiftW w w' fc va vb vc vd := by
  have hs := h.size
  exact ⟨h.both.trans hb, (hb.1.block _ (by omega)).trans h.h0, (hb.1.block _ (by omega)).trans h.h1, (hb.1.block _ hs).trans h.h2⟩
theorem LiftW.put {w wr : World} {fc : Array Value} {va vb vc vd ua ub uc ud v : Int} {i : Nat} (h : LiftW w wr fc va vb vc vd)
    (he : (#[.int .i64 va, .int .i64 vb, .int .i64 vc, .int .i64 vd] : Array Value).setIfInBounds i (.int .i64 v) = #[.int .i64 ua, .int .i64 ub, .int .i64 uc, .int .i64 ud]) : LiftW w (wr.setCell ⟨w.heap.size + 1 + 1, i, none⟩ (.int .i64 v)) fc ua ub uc ud := by
  rw [setCell_eq_setRow wr _ i _ _ (0, 0) _ h.h2, he]
  exact ⟨h.both.setRow (by omega) _, (setRow_other _ _ _ _ (by omega)).trans h.h0, (setRow_other _ _ _ _ (by omega)).trans h.h1, setRow_heap _ _ _ _ _ _ h.h2⟩
theorem frozen_of_heap {w : World} {g : Nat} {cs : Array Value} {t : TypeId} (h : w.heap[g]? = some (.cells cs t (0, 0))) (o : Nat) : w.frozen? ⟨g, o, none⟩ = false := by
  rw [frozen_marks, h]
  simp [marks]
set_option maxRecDepth 100000 in
set_option maxHeartbeats 4000000 in
theorem lift_any (lo hi st op z ra rb rc rd rn : Int) (ps : List Pc) (H6 : Hid (ps.length = 6)) (HRes : Hid (liftK z ps 6 = ⟨ra, rb, rc, rd⟩)) (hn0 : 0 ≤ rd) (hn1 : rd < 4294967296) (hlo : -1048576 ≤ lo) (hlo' : lo ≤ 0) (HN : Hid ((if hi < rd then rd + 2 * lo else rd) = rn))
    (HOK : Hid (∀ x ∈ ps, Pc.ok x)) (w : World) :
    Calls Try.prog 51 #[.agg (formCells lo hi st ps).toArray, .int .i64 op, .int .i64 z] w fun e w' => e = .returned (.agg #[.int .i64 op, .int .i64 ra, .int .i64 rb, .int .i64 rc, .int .i64 rn]) ∧ Both w w' := by
  go_enter Try.func51, Try.ntmps51
  go_upto_region 2 with (fail)
  rename_i K2 hK2 K hK
  have hL1 : LiftW w (((w.alloc (.cells (formCells lo hi st ps).toArray 79)).alloc (.cells #[.int .i64 0, .int .i64 0, .int .i64 0, .int .i64 0, .int .i64 0] 24)).alloc (.cells #[.int .i64 0, .int .i64 0, .int .i64 0, .int .i64 0] 85)) (formCells lo hi st ps).toArray 0 0 0 0 := by
    have s1 : (w.alloc (.cells (formCells lo hi st ps).toArray 79)).heap.size = w.heap.size + 1 := by simp
    have s2 : ((w.alloc (.cells (formCells lo hi st ps).toArray 79)).alloc (.cells #[.int .i64 0, .int .i64 0, .int .i64 0, .int .i64 0, .int .i64 0] 24)).heap.size = w.heap.size + 1 + 1 := by simp
    refine ⟨(((Both.refl w).alloc _ _).alloc _ _).alloc _ _, ?_, ?_, ?_⟩
    · rw [heap_alloc_old _ _ (by rw [s2]; omega), heap_alloc_old _ _ (by rw [s1]; omega)]
      exact heap_alloc_new _ _
    · rw [heap_alloc_old _ _ (by rw [s2]; omega), ← s1]
      exact heap_alloc_new _ _
    · rw [← s2]
      exact heap_alloc_new _ _
  generalize ((w.alloc (.cells (formCells lo hi st ps).toArray 79)).alloc (.cells #[.int .i64 0, .int .i64 0, .int .i64 0, .int .i64 0, .int .i64 0] 24)).alloc (.cells #[.int .i64 0, .int .i64 0, .int .i64 0, .int .i64 0] 85) = W1 at hL1 ⊢
  have hsz : (Try.prog.info? 77).map (·.size) = some (ps.flatMap pcV).length := by rw [pcV_len, H6.out]; exact pieces_size
  refine wp_region_list ?_
  refine wpList_one rfl (w' := W1) (v := .pointer (some ⟨w.heap.size, 3, none⟩)) (by kernel_rfl) ?_
  refine wpList_load_mid rfl 77 (.tmp 11) rfl w.heap.size 3 (by kernel_rfl) (ps.flatMap pcV) (.array _ _) (pieces_at hL1.h0) Try.underlying77 rfl hsz ?_
  refine wpList_one rfl (w' := W1) (v := .int .i64 0) (by kernel_rfl) ?_
  refine wpList_nil ?_
  refine hK _ _ ?_
  have HSZ := Lib.hid hsz
  have HL1 := Lib.hid hL1
  clear hsz hL1 hK K
  have e0 : (formCells lo hi st ps).toArray[0]? = some (.int .i64 lo) := rfl
  have e1 : (formCells lo hi st ps).toArray[1]? = some (.int .i64 hi) := rfl
  generalize (formCells lo hi st ps).toArray = fc at HL1 e0 e1 ⊢
  have E0 := Lib.hid e0
  have E1 := Lib.hid e1
  clear e0 e1
  generalize hcs : (ps.flatMap pcV).toArray = cs
  have HCS := Lib.hid hcs
  clear hcs
  go_wp2_with fail
  go_loopw [13] (fun i wr => ∃ k : Nat, k ≤ 6 ∧ i = .int .i64 k ∧ ∃ va vb vc vd, LiftW w wr fc va vb vc vd ∧ Hid (liftK z ps k = ⟨va, vb, vc, vd⟩)) (fun i _ => 6 - (intOf i).toNat)
  case atStart => exact ⟨0, by omega, rfl, 0, 0, 0, 0, HL1.out, rfl⟩
  case round =>
    obtain ⟨k, hk, rfl, va, vb, vc, vd, hl, HU⟩ := hrel
    have HL := Lib.hid hl
    clear hl
    by_cases hlt : k < 6
    · have hkl : k < ps.length := by rw [H6.out]; exact hlt
      obtain ⟨x, hx⟩ : ∃ x, ps[k]? = some x := ⟨ps[k], List.getElem?_eq_getElem hkl⟩
      obtain ⟨p0, p1, f0, f1, a0, a1, w0, w1⟩ := HOK.out x (List.mem_of_getElem? hx)
      have hidx : ∀ W, (Instr.index 77 (.agg cs) (.int .i64 (k : Int))).run Try.prog W = .ok (.agg #[.int .u8 x.p, .int .u8 x.f, .int .u8 x.a, .int .u8 x.w]) W := fun W => by
        rw [← HCS.out]
        exact index_piece ps H6.out k x hx W
      have HX := Lib.hid hx
      obtain ⟨xp, xf, xa, xw⟩ := x
      simp only at p0 p1 f0 f1 a0 a1 w0 w1 hidx
      clear hx hkl
      have hlt' : (k : Int) < 6 := by omega
      go_wp2_with fail
      have HL2 : Hid (LiftW w (wr.alloc (.cells #[.int .u8 xp, .int .u8 xf, .int .u8 xa, .int .u8 xw] 76)) fc va vb vc vd) := HL.out.step ((Both.refl _).alloc _ _)
      have c0 := World.cell?_alloc_new wr #[.int .u8 xp, .int .u8 xf, .int .u8 xa, .int .u8 xw] 76 0
      have c1 := World.cell?_alloc_new wr #[.int .u8 xp, .int .u8 xf, .int .u8 xa, .int .u8 xw] 76 1
      have c2 := World.cell?_alloc_new wr #[.int .u8 xp, .int .u8 xf, .int .u8 xa, .int .u8 xw] 76 2
      have c3 := World.cell?_alloc_new wr #[.int .u8 xp, .int .u8 xf, .int .u8 xa, .int .u8 xw] 76 3
      have hlB : wr.heap.size < (wr.alloc (.cells #[.int .u8 xp, .int .u8 xf, .int .u8 xa, .int .u8 xw] 76)).heap.size := by simp
      simp only [List.getElem?_toArray, List.getElem?_cons_zero, List.getElem?_cons_succ] at c0 c1 c2 c3
      have hpB : w.heap.size + 1 + 1 < wr.heap.size := HL.out.size
      generalize wr.alloc (.cells #[.int .u8 xp, .int .u8 xf, .int .u8 xa, .int .u8 xw] 76) = W2 at HL2 c0 c1 c2 c3 hlB ⊢
      generalize wr.heap.size = B at c0 c1 c2 c3 hlB hpB ⊢
      have hlP : w.heap.size + 1 + 1 < W2.heap.size := Nat.lt_trans hpB hlB
      have hkeep : ∀ w', Both W2 w' → w'.cell? ⟨B, 0, none⟩ = some (.int .u8 xp) ∧ w'.cell? ⟨B, 1, none⟩ = some (.int .u8 xf) ∧ w'.cell? ⟨B, 2, none⟩ = some (.int .u8 xa) ∧ w'.cell? ⟨B, 3, none⟩ = some (.int .u8 xw) := fun w' h =>
        ⟨(h.cell (p := ⟨B, 0, none⟩) hlB).trans c0, (h.cell (p := ⟨B, 1, none⟩) hlB).trans c1, (h.cell (p := ⟨B, 2, none⟩) hlB).trans c2, (h.cell (p := ⟨B, 3, none⟩) hlB).trans c3⟩
      have HKEEP := Lib.hid hkeep
      have hkeep2 : ∀ w' i v, Both W2 w' → (w'.setCell ⟨w.heap.size + 1 + 1, i, none⟩ v).cell? ⟨B, 0, none⟩ = some (.int .u8 xp) ∧ (w'.setCell ⟨w.heap.size + 1 + 1, i, none⟩ v).cell? ⟨B, 1, none⟩ = some (.int .u8 xf) ∧ (w'.setCell ⟨w.heap.size + 1 + 1, i, none⟩ v).cell? ⟨B, 2, none⟩ = some (.int .u8 xa) ∧ (w'.setCell ⟨w.heap.size + 1 + 1, i, none⟩ v).cell? ⟨B, 3, none⟩ = some (.int .u8 xw) := fun w' i v h => by
        have hne : ∀ o, (⟨w.heap.size + 1 + 1, i, none⟩ : Addr) ≠ ⟨B, o, none⟩ := fun o he => by
          have := congrArg Addr.block he
          simp only at this
          omega
        obtain ⟨k0, k1, k2, k3⟩ := hkeep w' h
        exact ⟨(World.cell?_setCell_other _ _ _ _ (hne 0)).trans k0, (World.cell?_setCell_other _ _ _ _ (hne 1)).trans k1, (World.cell?_setCell_other _ _ _ _ (hne 2)).trans k2, (World.cell?_setCell_other _ _ _ _ (hne 3)).trans k3⟩
      have HKEEP2 := Lib.hid hkeep2
      clear hkeep hkeep2 c0 c1 c2 c3 hlB
      clear HL hidx
      have hxp : xp = 0 ∨ xp = 1 ∨ xp = 2 ∨ xp = 3 := by omega
      clear p0 p1
      rcases hxp with rfl | rfl | rfl | rfl
      · have q' : W2.drew.cell? ⟨w.heap.size + 1 + 1, 0, none⟩ = some (.int .i64 va) := cell_of_heap HL2.out.h2 0
        have f' : W2.drew.frozen? ⟨w.heap.size + 1 + 1, 0, none⟩ = false := frozen_of_heap HL2.out.h2 0
        refine wp_region_held_drew (S := fun w' => w'.cell? ⟨B, 0, none⟩ = some (.int .u8 0) ∧ w'.cell? ⟨B, 1, none⟩ = some (.int .u8 xf) ∧ w'.cell? ⟨B, 2, none⟩ = some (.int .u8 xa) ∧ w'.cell? ⟨B, 3, none⟩ = some (.int .u8 xw)) (by kernel_rfl) (HKEEP.out _ ((Both.refl _).drew)) (fun hS => ?_)
        refine wpAnyH_take (i := 0) (v := ?v1) rfl (by kernel_rfl) (by kernel_rfl) (by kernel_rfl) (fun _ _ _ h => h) (Or.inl ⟨by rfl, ?hy1⟩) hS ?rest1
        case hy1 => (intro w0 hSw; obtain ⟨s0, s1, s2, s3⟩ := hSw; first | (go_simp; done) | (go_simp; with_reducible rfl))
        simp only [Act.put, List.setIfInBounds_toArray, List.set_cons_zero, List.set_cons_succ]
        refine wpAnyH_take (i := 1) (v := ?v2) rfl (by kernel_rfl) (by kernel_rfl) (by kernel_rfl) (fun _ _ _ h => h) (Or.inl ⟨by rfl, ?hy2⟩) hS ?rest2
        case hy2 => (intro w0 hSw; obtain ⟨s0, s1, s2, s3⟩ := hSw; first | (go_simp; done) | (go_simp; with_reducible rfl))
        simp only [Act.put, List.setIfInBounds_toArray, List.set_cons_zero, List.set_cons_succ]
        refine wpAnyH_take (i := 2) (v := ?v3) rfl (by kernel_rfl) (by kernel_rfl) (by kernel_rfl) (fun _ _ _ h => h) (Or.inl ⟨by rfl, ?hy3⟩) hS ?rest3
        case hy3 => (intro w0 hSw; obtain ⟨s0, s1, s2, s3⟩ := hSw; first | (go_simp; done) | (go_simp; with_reducible rfl))
        simp only [Act.put, List.setIfInBounds_toArray, List.set_cons_zero, List.set_cons_succ]
        refine wpAnyH_take (i := 4) (v := ?v4) rfl (by kernel_rfl) (by kernel_rfl) (by kernel_rfl) (fun _ _ _ h => h) (Or.inl ⟨by rfl, ?hy4⟩) hS ?rest4
        case hy4 => (intro w0 hSw; obtain ⟨s0, s1, s2, s3⟩ := hSw; first | (go_simp; done) | (go_simp; with_reducible rfl))
        simp only [Act.put, List.setIfInBounds_toArray, List.set_cons_zero, List.set_cons_succ]
        refine wpAnyH_take (i := 5) (v := ?v5) rfl (by kernel_rfl) (by kernel_rfl) (by kernel_rfl) (fun _ _ _ h => h) (Or.inl ⟨by rfl, ?hy5⟩) hS ?rest5
        case hy5 => (intro w0 hSw; obtain ⟨s0, s1, s2, s3⟩ := hSw; first | (go_simp; done) | (go_simp; with_reducible rfl))
        simp only [Act.put, List.setIfInBounds_toArray, List.set_cons_zero, List.set_cons_succ]
        refine wpAnyH_take (i := 6) (v := ?v6) rfl (by kernel_rfl) (by kernel_rfl) (by kernel_rfl) (fun _ _ _ h => h) (Or.inl ⟨by rfl, ?hy6⟩) hS ?rest6
        case hy6 => (intro w0 hSw; obtain ⟨s0, s1, s2, s3⟩ := hSw; first | (go_simp; done) | (go_simp; with_reducible rfl))
        simp only [Act.put, List.setIfInBounds_toArray, List.set_cons_zero, List.set_cons_succ]
        refine wpAnyH_take (i := 7) (v := ?v7) rfl (by kernel_rfl) (by kernel_rfl) (by kernel_rfl) (fun _ _ _ h => h) (Or.inl ⟨by rfl, ?hy7⟩) hS ?rest7
        case hy7 => (intro w0 hSw; obtain ⟨s0, s1, s2, s3⟩ := hSw; first | (go_simp; done) | (go_simp; with_reducible rfl))
        simp only [Act.put, List.setIfInBounds_toArray, List.set_cons_zero, List.set_cons_succ]
        refine wpAnyH_take (i := 8) (v := ?v8) rfl (by kernel_rfl) (by kernel_rfl) (by kernel_rfl) (fun _ _ _ h => h) (Or.inl ⟨by rfl, ?hy8⟩) hS ?rest8
        case hy8 => (intro w0 hSw; obtain ⟨s0, s1, s2, s3⟩ := hSw; first | (go_simp; done) | (go_simp; with_reducible rfl))
        simp only [Act.put, List.setIfInBounds_toArray, List.set_cons_zero, List.set_cons_succ]
        refine wpAnyH_take (i := 11) (v := ?v9) rfl (by kernel_rfl) (by kernel_rfl) (by kernel_rfl) (fun _ _ _ h => h) (Or.inl ⟨by rfl, ?hy9⟩) hS ?rest9
        case hy9 => (intro w0 hSw; obtain ⟨s0, s1, s2, s3⟩ := hSw; first | (go_simp; done) | (go_simp; with_reducible rfl))
        simp only [Act.put, List.setIfInBounds_toArray, List.set_cons_zero, List.set_cons_succ]
        refine wpAnyH_take (i := 12) (v := ?v10) rfl (by kernel_rfl) (by kernel_rfl) (by kernel_rfl) (fun _ _ _ h => h) (Or.inl ⟨by rfl, ?hy10⟩) hS ?rest10
        case hy10 => (intro w0 hSw; obtain ⟨s0, s1, s2, s3⟩ := hSw; first | (go_simp; done) | (go_simp; with_reducible rfl))
        simp only [Act.put, List.setIfInBounds_toArray, List.set_cons_zero, List.set_cons_succ]
        refine wpAnyH_ready (rs := [3, 9]) (by kernel_rfl) (by simp) ?_
        refine AllReadyH.cons rfl (fun K hK => ?_) (AllReadyH.cons rfl (fun K hK => ?_) AllReadyH.nil)
        · go_simp
          refine hK.out _ _ hS (fun _ => ?_)
          clear hK K
          refine wpAnyH_ready (rs := [9]) (by kernel_rfl) (by simp) ?_
          refine AllReadyH.cons rfl (fun K hK => ?_) AllReadyH.nil
          go_simp
          go_at_call 76
          refine (mask_lit w0 w1 rfl _).mono ?_
          rintro e w' ⟨rfl, hb3⟩
          have q2 := (hb3.cell (p := ⟨w.heap.size + 1 + 1, 0, none⟩) hlP).trans q'
          have f2 := (hb3.2 ⟨w.heap.size + 1 + 1, 0, none⟩).trans f'
          have hS2 := HKEEP.out _ ((Both.refl _).drew.trans hb3)
          refine hK.out _ _ hS2 (fun _ => ?_)
          clear hK K
          refine wpAnyH_take (i := 10) (v := ?v11) rfl (by kernel_rfl) (by kernel_rfl) (by kernel_rfl) (fun _ _ _ h => h) (Or.inl ⟨by rfl, ?hy11⟩) hS2 ?rest11
          case hy11 => (intro w0 hSw; obtain ⟨s0, s1, s2, s3⟩ := hSw; first | (go_simp; done) | (go_simp; with_reducible rfl))
          simp only [Act.put, List.setIfInBounds_toArray, List.set_cons_zero, List.set_cons_succ]
          refine wpAnyH_take (i := 13) (v := ?v12) rfl (by kernel_rfl) (by kernel_rfl) (by kernel_rfl) (fun _ _ _ h => h) (Or.inl ⟨by rfl, ?hy12⟩) hS2 ?rest12
          case hy12 => (intro w0 hSw; obtain ⟨s0, s1, s2, s3⟩ := hSw; first | (go_simp; done) | (go_simp; with_reducible rfl))
          simp only [Act.put, List.setIfInBounds_toArray, List.set_cons_zero, List.set_cons_succ]
          refine wpAnyH_take (i := 14) (v := ?v13) rfl (by kernel_rfl) (by kernel_rfl) (by kernel_rfl) (fun _ _ _ h => h) (Or.inl ⟨by rfl, ?hy13⟩) hS2 ?rest13
          case hy13 => (intro w0 hSw; obtain ⟨s0, s1, s2, s3⟩ := hSw; first | (go_simp; done) | (go_simp; with_reducible rfl))
          simp only [Act.put, List.setIfInBounds_toArray, List.set_cons_zero, List.set_cons_succ]
          refine wpAnyH_take (i := 15) (v := ?v14) rfl (by kernel_rfl) (by kernel_rfl) (by kernel_rfl) (fun _ _ _ h => h) (Or.inl ⟨by rfl, ?hy14⟩) hS2 ?rest14
          case hy14 => (intro w0 hSw; obtain ⟨s0, s1, s2, s3⟩ := hSw; first | (go_simp; done) | (go_simp; with_reducible rfl))
          simp only [Act.put, List.setIfInBounds_toArray, List.set_cons_zero, List.set_cons_succ]
          refine wpAnyH_ready (rs := [16]) (by kernel_rfl) (by simp) ?_
          refine AllReadyH.cons rfl (fun K hK => ?_) AllReadyH.nil
          go_simp
          refine hK.out _ _ (HKEEP2.out _ _ _ ((Both.refl _).drew.trans hb3)) (fun _ => ?_)
          clear hK K
          refine wpAnyH_done (by kernel_rfl) ?_ _
          have HNN := Lib.hid (liftK_next0 HU.out HX.out)
          have HL3 := Lib.hid ((HL2.out.step ((Both.refl _).drew.trans hb3)).put (i := 0) (v := bits .or .i64 va (IntKind.i64.wrap (bits .and .i64 (z / 2 ^ xa.toNat) (maskV xw) * 2 ^ xf.toNat))) rfl)
          generalize bits .or .i64 va (IntKind.i64.wrap (bits .and .i64 (z / 2 ^ xa.toNat) (maskV xw) * 2 ^ xf.toNat)) = nv at HL3 HNN ⊢
          clear hb3 hlP q' f' q2 f2 hpB hS hS2
          go_wp2
          go_roundw
          case rel => exact ⟨k + 1, by omega, by go_num, _, _, _, _, HL3.out, HNN⟩
          case measure => simp [intOf]; omega
        · go_simp
          go_at_call 76
          refine (mask_lit w0 w1 rfl _).mono ?_
          rintro e w' ⟨rfl, hb3⟩
          have q2 := (hb3.cell (p := ⟨w.heap.size + 1 + 1, 0, none⟩) hlP).trans q'
          have f2 := (hb3.2 ⟨w.heap.size + 1 + 1, 0, none⟩).trans f'
          have hS2 := HKEEP.out _ ((Both.refl _).drew.trans hb3)
          refine hK.out _ _ hS2 (fun _ => ?_)
          clear hK K
          refine wpAnyH_take (i := 10) (v := ?v15) rfl (by kernel_rfl) (by kernel_rfl) (by kernel_rfl) (fun _ _ _ h => h) (Or.inl ⟨by rfl, ?hy15⟩) hS2 ?rest15
          case hy15 => (intro w0 hSw; obtain ⟨s0, s1, s2, s3⟩ := hSw; first | (go_simp; done) | (go_simp; with_reducible rfl))
          simp only [Act.put, List.setIfInBounds_toArray, List.set_cons_zero, List.set_cons_succ]
          refine wpAnyH_take (i := 13) (v := ?v16) rfl (by kernel_rfl) (by kernel_rfl) (by kernel_rfl) (fun _ _ _ h => h) (Or.inl ⟨by rfl, ?hy16⟩) hS2 ?rest16
          case hy16 => (intro w0 hSw; obtain ⟨s0, s1, s2, s3⟩ := hSw; first | (go_simp; done) | (go_simp; with_reducible rfl))
          simp only [Act.put, List.setIfInBounds_toArray, List.set_cons_zero, List.set_cons_succ]
          refine wpAnyH_ready (rs := [3]) (by kernel_rfl) (by simp) ?_
          refine AllReadyH.cons rfl (fun K hK => ?_) AllReadyH.nil
          go_simp
          refine hK.out _ _ hS2 (fun _ => ?_)
          clear hK K
          refine wpAnyH_take (i := 14) (v := ?v17) rfl (by kernel_rfl) (by kernel_rfl) (by kernel_rfl) (fun _ _ _ h => h) (Or.inl ⟨by rfl, ?hy17⟩) hS2 ?rest17
          case hy17 => (intro w0 hSw; obtain ⟨s0, s1, s2, s3⟩ := hSw; first | (go_simp; done) | (go_simp; with_reducible rfl))
          simp only [Act.put, List.setIfInBounds_toArray, List.set_cons_zero, List.set_cons_succ]
          refine wpAnyH_take (i := 15) (v := ?v18) rfl (by kernel_rfl) (by kernel_rfl) (by kernel_rfl) (fun _ _ _ h => h) (Or.inl ⟨by rfl, ?hy18⟩) hS2 ?rest18
          case hy18 => (intro w0 hSw; obtain ⟨s0, s1, s2, s3⟩ := hSw; first | (go_simp; done) | (go_simp; with_reducible rfl))
          simp only [Act.put, List.setIfInBounds_toArray, List.set_cons_zero, List.set_cons_succ]
          refine wpAnyH_ready (rs := [16]) (by kernel_rfl) (by simp) ?_
          refine AllReadyH.cons rfl (fun K hK => ?_) AllReadyH.nil
          go_simp
          refine hK.out _ _ (HKEEP2.out _ _ _ ((Both.refl _).drew.trans hb3)) (fun _ => ?_)
          clear hK K
          refine wpAnyH_done (by kernel_rfl) ?_ _
          have HNN := Lib.hid (liftK_next0 HU.out HX.out)
          have HL3 := Lib.hid ((HL2.out.step ((Both.refl _).drew.trans hb3)).put (i := 0) (v := bits .or .i64 va (IntKind.i64.wrap (bits .and .i64 (z / 2 ^ xa.toNat) (maskV xw) * 2 ^ xf.toNat))) rfl)
          generalize bits .or .i64 va (IntKind.i64.wrap (bits .and .i64 (z / 2 ^ xa.toNat) (maskV xw) * 2 ^ xf.toNat)) = nv at HL3 HNN ⊢
          clear hb3 hlP q' f' q2 f2 hpB hS hS2
          go_wp2
          go_roundw
          case rel => exact ⟨k + 1, by omega, by go_num, _, _, _, _, HL3.out, HNN⟩
          case measure => simp [intOf]; omega
      · have q' : W2.drew.cell? ⟨w.heap.size + 1 + 1, 1, none⟩ = some (.int .i64 vb) := cell_of_heap HL2.out.h2 1
        have f' : W2.drew.frozen? ⟨w.heap.size + 1 + 1, 1, none⟩ = false := frozen_of_heap HL2.out.h2 1
        refine wp_region_held_drew (S := fun w' => w'.cell? ⟨B, 0, none⟩ = some (.int .u8 1) ∧ w'.cell? ⟨B, 1, none⟩ = some (.int .u8 xf) ∧ w'.cell? ⟨B, 2, none⟩ = some (.int .u8 xa) ∧ w'.cell? ⟨B, 3, none⟩ = some (.int .u8 xw)) (by kernel_rfl) (HKEEP.out _ ((Both.refl _).drew)) (fun hS => ?_)
        refine wpAnyH_take (i := 0) (v := ?v19) rfl (by kernel_rfl) (by kernel_rfl) (by kernel_rfl) (fun _ _ _ h => h) (Or.inl ⟨by rfl, ?hy19⟩) hS ?rest19
        case hy19 => (intro w0 hSw; obtain ⟨s0, s1, s2, s3⟩ := hSw; first | (go_simp; done) | (go_simp; with_reducible rfl))
        simp only [Act.put, List.setIfInBounds_toArray, List.set_cons_zero, List.set_cons_succ]
        refine wpAnyH_take (i := 1) (v := ?v20) rfl (by kernel_rfl) (by kernel_rfl) (by kernel_rfl) (fun _ _ _ h => h) (Or.inl ⟨by rfl, ?hy20⟩) hS ?rest20
        case hy20 => (intro w0 hSw; obtain ⟨s0, s1, s2, s3⟩ := hSw; first | (go_simp; done) | (go_simp; with_reducible rfl))
        simp only [Act.put, List.setIfInBounds_toArray, List.set_cons_zero, List.set_cons_succ]
        refine wpAnyH_take (i := 2) (v := ?v21) rfl (by kernel_rfl) (by kernel_rfl) (by kernel_rfl) (fun _ _ _ h => h) (Or.inl ⟨by rfl, ?hy21⟩) hS ?rest21
        case hy21 => (intro w0 hSw; obtain ⟨s0, s1, s2, s3⟩ := hSw; first | (go_simp; done) | (go_simp; with_reducible rfl))
        simp only [Act.put, List.setIfInBounds_toArray, List.set_cons_zero, List.set_cons_succ]
        refine wpAnyH_take (i := 4) (v := ?v22) rfl (by kernel_rfl) (by kernel_rfl) (by kernel_rfl) (fun _ _ _ h => h) (Or.inl ⟨by rfl, ?hy22⟩) hS ?rest22
        case hy22 => (intro w0 hSw; obtain ⟨s0, s1, s2, s3⟩ := hSw; first | (go_simp; done) | (go_simp; with_reducible rfl))
        simp only [Act.put, List.setIfInBounds_toArray, List.set_cons_zero, List.set_cons_succ]
        refine wpAnyH_take (i := 5) (v := ?v23) rfl (by kernel_rfl) (by kernel_rfl) (by kernel_rfl) (fun _ _ _ h => h) (Or.inl ⟨by rfl, ?hy23⟩) hS ?rest23
        case hy23 => (intro w0 hSw; obtain ⟨s0, s1, s2, s3⟩ := hSw; first | (go_simp; done) | (go_simp; with_reducible rfl))
        simp only [Act.put, List.setIfInBounds_toArray, List.set_cons_zero, List.set_cons_succ]
        refine wpAnyH_take (i := 6) (v := ?v24) rfl (by kernel_rfl) (by kernel_rfl) (by kernel_rfl) (fun _ _ _ h => h) (Or.inl ⟨by rfl, ?hy24⟩) hS ?rest24
        case hy24 => (intro w0 hSw; obtain ⟨s0, s1, s2, s3⟩ := hSw; first | (go_simp; done) | (go_simp; with_reducible rfl))
        simp only [Act.put, List.setIfInBounds_toArray, List.set_cons_zero, List.set_cons_succ]
        refine wpAnyH_take (i := 7) (v := ?v25) rfl (by kernel_rfl) (by kernel_rfl) (by kernel_rfl) (fun _ _ _ h => h) (Or.inl ⟨by rfl, ?hy25⟩) hS ?rest25
        case hy25 => (intro w0 hSw; obtain ⟨s0, s1, s2, s3⟩ := hSw; first | (go_simp; done) | (go_simp; with_reducible rfl))
        simp only [Act.put, List.setIfInBounds_toArray, List.set_cons_zero, List.set_cons_succ]
        refine wpAnyH_take (i := 8) (v := ?v26) rfl (by kernel_rfl) (by kernel_rfl) (by kernel_rfl) (fun _ _ _ h => h) (Or.inl ⟨by rfl, ?hy26⟩) hS ?rest26
        case hy26 => (intro w0 hSw; obtain ⟨s0, s1, s2, s3⟩ := hSw; first | (go_simp; done) | (go_simp; with_reducible rfl))
        simp only [Act.put, List.setIfInBounds_toArray, List.set_cons_zero, List.set_cons_succ]
        refine wpAnyH_take (i := 11) (v := ?v27) rfl (by kernel_rfl) (by kernel_rfl) (by kernel_rfl) (fun _ _ _ h => h) (Or.inl ⟨by rfl, ?hy27⟩) hS ?rest27
        case hy27 => (intro w0 hSw; obtain ⟨s0, s1, s2, s3⟩ := hSw; first | (go_simp; done) | (go_simp; with_reducible rfl))
        simp only [Act.put, List.setIfInBounds_toArray, List.set_cons_zero, List.set_cons_succ]
        refine wpAnyH_take (i := 12) (v := ?v28) rfl (by kernel_rfl) (by kernel_rfl) (by kernel_rfl) (fun _ _ _ h => h) (Or.inl ⟨by rfl, ?hy28⟩) hS ?rest28
        case hy28 => (intro w0 hSw; obtain ⟨s0, s1, s2, s3⟩ := hSw; first | (go_simp; done) | (go_simp; with_reducible rfl))
        simp only [Act.put, List.setIfInBounds_toArray, List.set_cons_zero, List.set_cons_succ]
        refine wpAnyH_ready (rs := [3, 9]) (by kernel_rfl) (by simp) ?_
        refine AllReadyH.cons rfl (fun K hK => ?_) (AllReadyH.cons rfl (fun K hK => ?_) AllReadyH.nil)
        · go_simp
          refine hK.out _ _ hS (fun _ => ?_)
          clear hK K
          refine wpAnyH_ready (rs := [9]) (by kernel_rfl) (by simp) ?_
          refine AllReadyH.cons rfl (fun K hK => ?_) AllReadyH.nil
          go_simp
          go_at_call 76
          refine (mask_lit w0 w1 rfl _).mono ?_
          rintro e w' ⟨rfl, hb3⟩
          have q2 := (hb3.cell (p := ⟨w.heap.size + 1 + 1, 1, none⟩) hlP).trans q'
          have f2 := (hb3.2 ⟨w.heap.size + 1 + 1, 1, none⟩).trans f'
          have hS2 := HKEEP.out _ ((Both.refl _).drew.trans hb3)
          refine hK.out _ _ hS2 (fun _ => ?_)
          clear hK K
          refine wpAnyH_take (i := 10) (v := ?v29) rfl (by kernel_rfl) (by kernel_rfl) (by kernel_rfl) (fun _ _ _ h => h) (Or.inl ⟨by rfl, ?hy29⟩) hS2 ?rest29
          case hy29 => (intro w0 hSw; obtain ⟨s0, s1, s2, s3⟩ := hSw; first | (go_simp; done) | (go_simp; with_reducible rfl))
          simp only [Act.put, List.setIfInBounds_toArray, List.set_cons_zero, List.set_cons_succ]
          refine wpAnyH_take (i := 13) (v := ?v30) rfl (by kernel_rfl) (by kernel_rfl) (by kernel_rfl) (fun _ _ _ h => h) (Or.inl ⟨by rfl, ?hy30⟩) hS2 ?rest30
          case hy30 => (intro w0 hSw; obtain ⟨s0, s1, s2, s3⟩ := hSw; first | (go_simp; done) | (go_simp; with_reducible rfl))
          simp only [Act.put, List.setIfInBounds_toArray, List.set_cons_zero, List.set_cons_succ]
          refine wpAnyH_take (i := 14) (v := ?v31) rfl (by kernel_rfl) (by kernel_rfl) (by kernel_rfl) (fun _ _ _ h => h) (Or.inl ⟨by rfl, ?hy31⟩) hS2 ?rest31
          case hy31 => (intro w0 hSw; obtain ⟨s0, s1, s2, s3⟩ := hSw; first | (go_simp; done) | (go_simp; with_reducible rfl))
          simp only [Act.put, List.setIfInBounds_toArray, List.set_cons_zero, List.set_cons_succ]
          refine wpAnyH_take (i := 15) (v := ?v32) rfl (by kernel_rfl) (by kernel_rfl) (by kernel_rfl) (fun _ _ _ h => h) (Or.inl ⟨by rfl, ?hy32⟩) hS2 ?rest32
          case hy32 => (intro w0 hSw; obtain ⟨s0, s1, s2, s3⟩ := hSw; first | (go_simp; done) | (go_simp; with_reducible rfl))
          simp only [Act.put, List.setIfInBounds_toArray, List.set_cons_zero, List.set_cons_succ]
          refine wpAnyH_ready (rs := [16]) (by kernel_rfl) (by simp) ?_
          refine AllReadyH.cons rfl (fun K hK => ?_) AllReadyH.nil
          go_simp
          refine hK.out _ _ (HKEEP2.out _ _ _ ((Both.refl _).drew.trans hb3)) (fun _ => ?_)
          clear hK K
          refine wpAnyH_done (by kernel_rfl) ?_ _
          have HNN := Lib.hid (liftK_next1 HU.out HX.out)
          have HL3 := Lib.hid ((HL2.out.step ((Both.refl _).drew.trans hb3)).put (i := 1) (v := bits .or .i64 vb (IntKind.i64.wrap (bits .and .i64 (z / 2 ^ xa.toNat) (maskV xw) * 2 ^ xf.toNat))) rfl)
          generalize bits .or .i64 vb (IntKind.i64.wrap (bits .and .i64 (z / 2 ^ xa.toNat) (maskV xw) * 2 ^ xf.toNat)) = nv at HL3 HNN ⊢
          clear hb3 hlP q' f' q2 f2 hpB hS hS2
          go_wp2
          go_roundw
          case rel => exact ⟨k + 1, by omega, by go_num, _, _, _, _, HL3.out, HNN⟩
          case measure => simp [intOf]; omega
        · go_simp
          go_at_call 76
          refine (mask_lit w0 w1 rfl _).mono ?_
          rintro e w' ⟨rfl, hb3⟩
          have q2 := (hb3.cell (p := ⟨w.heap.size + 1 + 1, 1, none⟩) hlP).trans q'
          have f2 := (hb3.2 ⟨w.heap.size + 1 + 1, 1, none⟩).trans f'
          have hS2 := HKEEP.out _ ((Both.refl _).drew.trans hb3)
          refine hK.out _ _ hS2 (fun _ => ?_)
          clear hK K
          refine wpAnyH_take (i := 10) (v := ?v33) rfl (by kernel_rfl) (by kernel_rfl) (by kernel_rfl) (fun _ _ _ h => h) (Or.inl ⟨by rfl, ?hy33⟩) hS2 ?rest33
          case hy33 => (intro w0 hSw; obtain ⟨s0, s1, s2, s3⟩ := hSw; first | (go_simp; done) | (go_simp; with_reducible rfl))
          simp only [Act.put, List.setIfInBounds_toArray, List.set_cons_zero, List.set_cons_succ]
          refine wpAnyH_take (i := 13) (v := ?v34) rfl (by kernel_rfl) (by kernel_rfl) (by kernel_rfl) (fun _ _ _ h => h) (Or.inl ⟨by rfl, ?hy34⟩) hS2 ?rest34
          case hy34 => (intro w0 hSw; obtain ⟨s0, s1, s2, s3⟩ := hSw; first | (go_simp; done) | (go_simp; with_reducible rfl))
          simp only [Act.put, List.setIfInBounds_toArray, List.set_cons_zero, List.set_cons_succ]
          refine wpAnyH_ready (rs := [3]) (by kernel_rfl) (by simp) ?_
          refine AllReadyH.cons rfl (fun K hK => ?_) AllReadyH.nil
          go_simp
          refine hK.out _ _ hS2 (fun _ => ?_)
          clear hK K
          refine wpAnyH_take (i := 14) (v := ?v35) rfl (by kernel_rfl) (by kernel_rfl) (by kernel_rfl) (fun _ _ _ h => h) (Or.inl ⟨by rfl, ?hy35⟩) hS2 ?rest35
          case hy35 => (intro w0 hSw; obtain ⟨s0, s1, s2, s3⟩ := hSw; first | (go_simp; done) | (go_simp; with_reducible rfl))
          simp only [Act.put, List.setIfInBounds_toArray, List.set_cons_zero, List.set_cons_succ]
          refine wpAnyH_take (i := 15) (v := ?v36) rfl (by kernel_rfl) (by kernel_rfl) (by kernel_rfl) (fun _ _ _ h => h) (Or.inl ⟨by rfl, ?hy36⟩) hS2 ?rest36
          case hy36 => (intro w0 hSw; obtain ⟨s0, s1, s2, s3⟩ := hSw; first | (go_simp; done) | (go_simp; with_reducible rfl))
          simp only [Act.put, List.setIfInBounds_toArray, List.set_cons_zero, List.set_cons_succ]
          refine wpAnyH_ready (rs := [16]) (by kernel_rfl) (by simp) ?_
          refine AllReadyH.cons rfl (fun K hK => ?_) AllReadyH.nil
          go_simp
          refine hK.out _ _ (HKEEP2.out _ _ _ ((Both.refl _).drew.trans hb3)) (fun _ => ?_)
          clear hK K
          refine wpAnyH_done (by kernel_rfl) ?_ _
          have HNN := Lib.hid (liftK_next1 HU.out HX.out)
          have HL3 := Lib.hid ((HL2.out.step ((Both.refl _).drew.trans hb3)).put (i := 1) (v := bits .or .i64 vb (IntKind.i64.wrap (bits .and .i64 (z / 2 ^ xa.toNat) (maskV xw) * 2 ^ xf.toNat))) rfl)
          generalize bits .or .i64 vb (IntKind.i64.wrap (bits .and .i64 (z / 2 ^ xa.toNat) (maskV xw) * 2 ^ xf.toNat)) = nv at HL3 HNN ⊢
          clear hb3 hlP q' f' q2 f2 hpB hS hS2
          go_wp2
          go_roundw
          case rel => exact ⟨k + 1, by omega, by go_num, _, _, _, _, HL3.out, HNN⟩
          case measure => simp [intOf]; omega
      · have q' : W2.drew.cell? ⟨w.heap.size + 1 + 1, 2, none⟩ = some (.int .i64 vc) := cell_of_heap HL2.out.h2 2
        have f' : W2.drew.frozen? ⟨w.heap.size + 1 + 1, 2, none⟩ = false := frozen_of_heap HL2.out.h2 2
        refine wp_region_held_drew (S := fun w' => w'.cell? ⟨B, 0, none⟩ = some (.int .u8 2) ∧ w'.cell? ⟨B, 1, none⟩ = some (.int .u8 xf) ∧ w'.cell? ⟨B, 2, none⟩ = some (.int .u8 xa) ∧ w'.cell? ⟨B, 3, none⟩ = some (.int .u8 xw)) (by kernel_rfl) (HKEEP.out _ ((Both.refl _).drew)) (fun hS => ?_)
        refine wpAnyH_take (i := 0) (v := ?v37) rfl (by kernel_rfl) (by kernel_rfl) (by kernel_rfl) (fun _ _ _ h => h) (Or.inl ⟨by rfl, ?hy37⟩) hS ?rest37
        case hy37 => (intro w0 hSw; obtain ⟨s0, s1, s2, s3⟩ := hSw; first | (go_simp; done) | (go_simp; with_reducible rfl))
        simp only [Act.put, List.setIfInBounds_toArray, List.set_cons_zero, List.set_cons_succ]
        refine wpAnyH_take (i := 1) (v := ?v38) rfl (by kernel_rfl) (by kernel_rfl) (by kernel_rfl) (fun _ _ _ h => h) (Or.inl ⟨by rfl, ?hy38⟩) hS ?rest38
        case hy38 => (intro w0 hSw; obtain ⟨s0, s1, s2, s3⟩ := hSw; first | (go_simp; done) | (go_simp; with_reducible rfl))
        simp only [Act.put, List.setIfInBounds_toArray, List.set_cons_zero, List.set_cons_succ]
        refine wpAnyH_take (i := 2) (v := ?v39) rfl (by kernel_rfl) (by kernel_rfl) (by kernel_rfl) (fun _ _ _ h => h) (Or.inl ⟨by rfl, ?hy39⟩) hS ?rest39
        case hy39 => (intro w0 hSw; obtain ⟨s0, s1, s2, s3⟩ := hSw; first | (go_simp; done) | (go_simp; with_reducible rfl))
        simp only [Act.put, List.setIfInBounds_toArray, List.set_cons_zero, List.set_cons_succ]
        refine wpAnyH_take (i := 4) (v := ?v40) rfl (by kernel_rfl) (by kernel_rfl) (by kernel_rfl) (fun _ _ _ h => h) (Or.inl ⟨by rfl, ?hy40⟩) hS ?rest40
        case hy40 => (intro w0 hSw; obtain ⟨s0, s1, s2, s3⟩ := hSw; first | (go_simp; done) | (go_simp; with_reducible rfl))
        simp only [Act.put, List.setIfInBounds_toArray, List.set_cons_zero, List.set_cons_succ]
        refine wpAnyH_take (i := 5) (v := ?v41) rfl (by kernel_rfl) (by kernel_rfl) (by kernel_rfl) (fun _ _ _ h => h) (Or.inl ⟨by rfl, ?hy41⟩) hS ?rest41
        case hy41 => (intro w0 hSw; obtain ⟨s0, s1, s2, s3⟩ := hSw; first | (go_simp; done) | (go_simp; with_reducible rfl))
        simp only [Act.put, List.setIfInBounds_toArray, List.set_cons_zero, List.set_cons_succ]
        refine wpAnyH_take (i := 6) (v := ?v42) rfl (by kernel_rfl) (by kernel_rfl) (by kernel_rfl) (fun _ _ _ h => h) (Or.inl ⟨by rfl, ?hy42⟩) hS ?rest42
        case hy42 => (intro w0 hSw; obtain ⟨s0, s1, s2, s3⟩ := hSw; first | (go_simp; done) | (go_simp; with_reducible rfl))
        simp only [Act.put, List.setIfInBounds_toArray, List.set_cons_zero, List.set_cons_succ]
        refine wpAnyH_take (i := 7) (v := ?v43) rfl (by kernel_rfl) (by kernel_rfl) (by kernel_rfl) (fun _ _ _ h => h) (Or.inl ⟨by rfl, ?hy43⟩) hS ?rest43
        case hy43 => (intro w0 hSw; obtain ⟨s0, s1, s2, s3⟩ := hSw; first | (go_simp; done) | (go_simp; with_reducible rfl))
        simp only [Act.put, List.setIfInBounds_toArray, List.set_cons_zero, List.set_cons_succ]
        refine wpAnyH_take (i := 8) (v := ?v44) rfl (by kernel_rfl) (by kernel_rfl) (by kernel_rfl) (fun _ _ _ h => h) (Or.inl ⟨by rfl, ?hy44⟩) hS ?rest44
        case hy44 => (intro w0 hSw; obtain ⟨s0, s1, s2, s3⟩ := hSw; first | (go_simp; done) | (go_simp; with_reducible rfl))
        simp only [Act.put, List.setIfInBounds_toArray, List.set_cons_zero, List.set_cons_succ]
        refine wpAnyH_take (i := 11) (v := ?v45) rfl (by kernel_rfl) (by kernel_rfl) (by kernel_rfl) (fun _ _ _ h => h) (Or.inl ⟨by rfl, ?hy45⟩) hS ?rest45
        case hy45 => (intro w0 hSw; obtain ⟨s0, s1, s2, s3⟩ := hSw; first | (go_simp; done) | (go_simp; with_reducible rfl))
        simp only [Act.put, List.setIfInBounds_toArray, List.set_cons_zero, List.set_cons_succ]
        refine wpAnyH_take (i := 12) (v := ?v46) rfl (by kernel_rfl) (by kernel_rfl) (by kernel_rfl) (fun _ _ _ h => h) (Or.inl ⟨by rfl, ?hy46⟩) hS ?rest46
        case hy46 => (intro w0 hSw; obtain ⟨s0, s1, s2, s3⟩ := hSw; first | (go_simp; done) | (go_simp; with_reducible rfl))
        simp only [Act.put, List.setIfInBounds_toArray, List.set_cons_zero, List.set_cons_succ]
        refine wpAnyH_ready (rs := [3, 9]) (by kernel_rfl) (by simp) ?_
        refine AllReadyH.cons rfl (fun K hK => ?_) (AllReadyH.cons rfl (fun K hK => ?_) AllReadyH.nil)
        · go_simp
          refine hK.out _ _ hS (fun _ => ?_)
          clear hK K
          refine wpAnyH_ready (rs := [9]) (by kernel_rfl) (by simp) ?_
          refine AllReadyH.cons rfl (fun K hK => ?_) AllReadyH.nil
          go_simp
          go_at_call 76
          refine (mask_lit w0 w1 rfl _).mono ?_
          rintro e w' ⟨rfl, hb3⟩
          have q2 := (hb3.cell (p := ⟨w.heap.size + 1 + 1, 2, none⟩) hlP).trans q'
          have f2 := (hb3.2 ⟨w.heap.size + 1 + 1, 2, none⟩).trans f'
          have hS2 := HKEEP.out _ ((Both.refl _).drew.trans hb3)
          refine hK.out _ _ hS2 (fun _ => ?_)
          clear hK K
          refine wpAnyH_take (i := 10) (v := ?v47) rfl (by kernel_rfl) (by kernel_rfl) (by kernel_rfl) (fun _ _ _ h => h) (Or.inl ⟨by rfl, ?hy47⟩) hS2 ?rest47
          case hy47 => (intro w0 hSw; obtain ⟨s0, s1, s2, s3⟩ := hSw; first | (go_simp; done) | (go_simp; with_reducible rfl))
          simp only [Act.put, List.setIfInBounds_toArray, List.set_cons_zero, List.set_cons_succ]
          refine wpAnyH_take (i := 13) (v := ?v48) rfl (by kernel_rfl) (by kernel_rfl) (by kernel_rfl) (fun _ _ _ h => h) (Or.inl ⟨by rfl, ?hy48⟩) hS2 ?rest48
          case hy48 => (intro w0 hSw; obtain ⟨s0, s1, s2, s3⟩ := hSw; first | (go_simp; done) | (go_simp; with_reducible rfl))
          simp only [Act.put, List.setIfInBounds_toArray, List.set_cons_zero, List.set_cons_succ]
          refine wpAnyH_take (i := 14) (v := ?v49) rfl (by kernel_rfl) (by kernel_rfl) (by kernel_rfl) (fun _ _ _ h => h) (Or.inl ⟨by rfl, ?hy49⟩) hS2 ?rest49
          case hy49 => (intro w0 hSw; obtain ⟨s0, s1, s2, s3⟩ := hSw; first | (go_simp; done) | (go_simp; with_reducible rfl))
          simp only [Act.put, List.setIfInBounds_toArray, List.set_cons_zero, List.set_cons_succ]
          refine wpAnyH_take (i := 15) (v := ?v50) rfl (by kernel_rfl) (by kernel_rfl) (by kernel_rfl) (fun _ _ _ h => h) (Or.inl ⟨by rfl, ?hy50⟩) hS2 ?rest50
          case hy50 => (intro w0 hSw; obtain ⟨s0, s1, s2, s3⟩ := hSw; first | (go_simp; done) | (go_simp; with_reducible rfl))
          simp only [Act.put, List.setIfInBounds_toArray, List.set_cons_zero, List.set_cons_succ]
          refine wpAnyH_ready (rs := [16]) (by kernel_rfl) (by simp) ?_
          refine AllReadyH.cons rfl (fun K hK => ?_) AllReadyH.nil
          go_simp
          refine hK.out _ _ (HKEEP2.out _ _ _ ((Both.refl _).drew.trans hb3)) (fun _ => ?_)
          clear hK K
          refine wpAnyH_done (by kernel_rfl) ?_ _
          have HNN := Lib.hid (liftK_next2 HU.out HX.out)
          have HL3 := Lib.hid ((HL2.out.step ((Both.refl _).drew.trans hb3)).put (i := 2) (v := bits .or .i64 vc (IntKind.i64.wrap (bits .and .i64 (z / 2 ^ xa.toNat) (maskV xw) * 2 ^ xf.toNat))) rfl)
          generalize bits .or .i64 vc (IntKind.i64.wrap (bits .and .i64 (z / 2 ^ xa.toNat) (maskV xw) * 2 ^ xf.toNat)) = nv at HL3 HNN ⊢
          clear hb3 hlP q' f' q2 f2 hpB hS hS2
          go_wp2
          go_roundw
          case rel => exact ⟨k + 1, by omega, by go_num, _, _, _, _, HL3.out, HNN⟩
          case measure => simp [intOf]; omega
        · go_simp
          go_at_call 76
          refine (mask_lit w0 w1 rfl _).mono ?_
          rintro e w' ⟨rfl, hb3⟩
          have q2 := (hb3.cell (p := ⟨w.heap.size + 1 + 1, 2, none⟩) hlP).trans q'
          have f2 := (hb3.2 ⟨w.heap.size + 1 + 1, 2, none⟩).trans f'
          have hS2 := HKEEP.out _ ((Both.refl _).drew.trans hb3)
          refine hK.out _ _ hS2 (fun _ => ?_)
          clear hK K
          refine wpAnyH_take (i := 10) (v := ?v51) rfl (by kernel_rfl) (by kernel_rfl) (by kernel_rfl) (fun _ _ _ h => h) (Or.inl ⟨by rfl, ?hy51⟩) hS2 ?rest51
          case hy51 => (intro w0 hSw; obtain ⟨s0, s1, s2, s3⟩ := hSw; first | (go_simp; done) | (go_simp; with_reducible rfl))
          simp only [Act.put, List.setIfInBounds_toArray, List.set_cons_zero, List.set_cons_succ]
          refine wpAnyH_take (i := 13) (v := ?v52) rfl (by kernel_rfl) (by kernel_rfl) (by kernel_rfl) (fun _ _ _ h => h) (Or.inl ⟨by rfl, ?hy52⟩) hS2 ?rest52
          case hy52 => (intro w0 hSw; obtain ⟨s0, s1, s2, s3⟩ := hSw; first | (go_simp; done) | (go_simp; with_reducible rfl))
          simp only [Act.put, List.setIfInBounds_toArray, List.set_cons_zero, List.set_cons_succ]
          refine wpAnyH_ready (rs := [3]) (by kernel_rfl) (by simp) ?_
          refine AllReadyH.cons rfl (fun K hK => ?_) AllReadyH.nil
          go_simp
          refine hK.out _ _ hS2 (fun _ => ?_)
          clear hK K
          refine wpAnyH_take (i := 14) (v := ?v53) rfl (by kernel_rfl) (by kernel_rfl) (by kernel_rfl) (fun _ _ _ h => h) (Or.inl ⟨by rfl, ?hy53⟩) hS2 ?rest53
          case hy53 => (intro w0 hSw; obtain ⟨s0, s1, s2, s3⟩ := hSw; first | (go_simp; done) | (go_simp; with_reducible rfl))
          simp only [Act.put, List.setIfInBounds_toArray, List.set_cons_zero, List.set_cons_succ]
          refine wpAnyH_take (i := 15) (v := ?v54) rfl (by kernel_rfl) (by kernel_rfl) (by kernel_rfl) (fun _ _ _ h => h) (Or.inl ⟨by rfl, ?hy54⟩) hS2 ?rest54
          case hy54 => (intro w0 hSw; obtain ⟨s0, s1, s2, s3⟩ := hSw; first | (go_simp; done) | (go_simp; with_reducible rfl))
          simp only [Act.put, List.setIfInBounds_toArray, List.set_cons_zero, List.set_cons_succ]
          refine wpAnyH_ready (rs := [16]) (by kernel_rfl) (by simp) ?_
          refine AllReadyH.cons rfl (fun K hK => ?_) AllReadyH.nil
          go_simp
          refine hK.out _ _ (HKEEP2.out _ _ _ ((Both.refl _).drew.trans hb3)) (fun _ => ?_)
          clear hK K
          refine wpAnyH_done (by kernel_rfl) ?_ _
          have HNN := Lib.hid (liftK_next2 HU.out HX.out)
          have HL3 := Lib.hid ((HL2.out.step ((Both.refl _).drew.trans hb3)).put (i := 2) (v := bits .or .i64 vc (IntKind.i64.wrap (bits .and .i64 (z / 2 ^ xa.toNat) (maskV xw) * 2 ^ xf.toNat))) rfl)
          generalize bits .or .i64 vc (IntKind.i64.wrap (bits .and .i64 (z / 2 ^ xa.toNat) (maskV xw) * 2 ^ xf.toNat)) = nv at HL3 HNN ⊢
          clear hb3 hlP q' f' q2 f2 hpB hS hS2
          go_wp2
          go_roundw
          case rel => exact ⟨k + 1, by omega, by go_num, _, _, _, _, HL3.out, HNN⟩
          case measure => simp [intOf]; omega
      · have q' : W2.drew.cell? ⟨w.heap.size + 1 + 1, 3, none⟩ = some (.int .i64 vd) := cell_of_heap HL2.out.h2 3
        have f' : W2.drew.frozen? ⟨w.heap.size + 1 + 1, 3, none⟩ = false := frozen_of_heap HL2.out.h2 3
        refine wp_region_held_drew (S := fun w' => w'.cell? ⟨B, 0, none⟩ = some (.int .u8 3) ∧ w'.cell? ⟨B, 1, none⟩ = some (.int .u8 xf) ∧ w'.cell? ⟨B, 2, none⟩ = some (.int .u8 xa) ∧ w'.cell? ⟨B, 3, none⟩ = some (.int .u8 xw)) (by kernel_rfl) (HKEEP.out _ ((Both.refl _).drew)) (fun hS => ?_)
        refine wpAnyH_take (i := 0) (v := ?v55) rfl (by kernel_rfl) (by kernel_rfl) (by kernel_rfl) (fun _ _ _ h => h) (Or.inl ⟨by rfl, ?hy55⟩) hS ?rest55
        case hy55 => (intro w0 hSw; obtain ⟨s0, s1, s2, s3⟩ := hSw; first | (go_simp; done) | (go_simp; with_reducible rfl))
        simp only [Act.put, List.setIfInBounds_toArray, List.set_cons_zero, List.set_cons_succ]
        refine wpAnyH_take (i := 1) (v := ?v56) rfl (by kernel_rfl) (by kernel_rfl) (by kernel_rfl) (fun _ _ _ h => h) (Or.inl ⟨by rfl, ?hy56⟩) hS ?rest56
        case hy56 => (intro w0 hSw; obtain ⟨s0, s1, s2, s3⟩ := hSw; first | (go_simp; done) | (go_simp; with_reducible rfl))
        simp only [Act.put, List.setIfInBounds_toArray, List.set_cons_zero, List.set_cons_succ]
        refine wpAnyH_take (i := 2) (v := ?v57) rfl (by kernel_rfl) (by kernel_rfl) (by kernel_rfl) (fun _ _ _ h => h) (Or.inl ⟨by rfl, ?hy57⟩) hS ?rest57
        case hy57 => (intro w0 hSw; obtain ⟨s0, s1, s2, s3⟩ := hSw; first | (go_simp; done) | (go_simp; with_reducible rfl))
        simp only [Act.put, List.setIfInBounds_toArray, List.set_cons_zero, List.set_cons_succ]
        refine wpAnyH_take (i := 4) (v := ?v58) rfl (by kernel_rfl) (by kernel_rfl) (by kernel_rfl) (fun _ _ _ h => h) (Or.inl ⟨by rfl, ?hy58⟩) hS ?rest58
        case hy58 => (intro w0 hSw; obtain ⟨s0, s1, s2, s3⟩ := hSw; first | (go_simp; done) | (go_simp; with_reducible rfl))
        simp only [Act.put, List.setIfInBounds_toArray, List.set_cons_zero, List.set_cons_succ]
        refine wpAnyH_take (i := 5) (v := ?v59) rfl (by kernel_rfl) (by kernel_rfl) (by kernel_rfl) (fun _ _ _ h => h) (Or.inl ⟨by rfl, ?hy59⟩) hS ?rest59
        case hy59 => (intro w0 hSw; obtain ⟨s0, s1, s2, s3⟩ := hSw; first | (go_simp; done) | (go_simp; with_reducible rfl))
        simp only [Act.put, List.setIfInBounds_toArray, List.set_cons_zero, List.set_cons_succ]
        refine wpAnyH_take (i := 6) (v := ?v60) rfl (by kernel_rfl) (by kernel_rfl) (by kernel_rfl) (fun _ _ _ h => h) (Or.inl ⟨by rfl, ?hy60⟩) hS ?rest60
        case hy60 => (intro w0 hSw; obtain ⟨s0, s1, s2, s3⟩ := hSw; first | (go_simp; done) | (go_simp; with_reducible rfl))
        simp only [Act.put, List.setIfInBounds_toArray, List.set_cons_zero, List.set_cons_succ]
        refine wpAnyH_take (i := 7) (v := ?v61) rfl (by kernel_rfl) (by kernel_rfl) (by kernel_rfl) (fun _ _ _ h => h) (Or.inl ⟨by rfl, ?hy61⟩) hS ?rest61
        case hy61 => (intro w0 hSw; obtain ⟨s0, s1, s2, s3⟩ := hSw; first | (go_simp; done) | (go_simp; with_reducible rfl))
        simp only [Act.put, List.setIfInBounds_toArray, List.set_cons_zero, List.set_cons_succ]
        refine wpAnyH_take (i := 8) (v := ?v62) rfl (by kernel_rfl) (by kernel_rfl) (by kernel_rfl) (fun _ _ _ h => h) (Or.inl ⟨by rfl, ?hy62⟩) hS ?rest62
        case hy62 => (intro w0 hSw; obtain ⟨s0, s1, s2, s3⟩ := hSw; first | (go_simp; done) | (go_simp; with_reducible rfl))
        simp only [Act.put, List.setIfInBounds_toArray, List.set_cons_zero, List.set_cons_succ]
        refine wpAnyH_take (i := 11) (v := ?v63) rfl (by kernel_rfl) (by kernel_rfl) (by kernel_rfl) (fun _ _ _ h => h) (Or.inl ⟨by rfl, ?hy63⟩) hS ?rest63
        case hy63 => (intro w0 hSw; obtain ⟨s0, s1, s2, s3⟩ := hSw; first | (go_simp; done) | (go_simp; with_reducible rfl))
        simp only [Act.put, List.setIfInBounds_toArray, List.set_cons_zero, List.set_cons_succ]
        refine wpAnyH_take (i := 12) (v := ?v64) rfl (by kernel_rfl) (by kernel_rfl) (by kernel_rfl) (fun _ _ _ h => h) (Or.inl ⟨by rfl, ?hy64⟩) hS ?rest64
        case hy64 => (intro w0 hSw; obtain ⟨s0, s1, s2, s3⟩ := hSw; first | (go_simp; done) | (go_simp; with_reducible rfl))
        simp only [Act.put, List.setIfInBounds_toArray, List.set_cons_zero, List.set_cons_succ]
        refine wpAnyH_ready (rs := [3, 9]) (by kernel_rfl) (by simp) ?_
        refine AllReadyH.cons rfl (fun K hK => ?_) (AllReadyH.cons rfl (fun K hK => ?_) AllReadyH.nil)
        · go_simp
          refine hK.out _ _ hS (fun _ => ?_)
          clear hK K
          refine wpAnyH_ready (rs := [9]) (by kernel_rfl) (by simp) ?_
          refine AllReadyH.cons rfl (fun K hK => ?_) AllReadyH.nil
          go_simp
          go_at_call 76
          refine (mask_lit w0 w1 rfl _).mono ?_
          rintro e w' ⟨rfl, hb3⟩
          have q2 := (hb3.cell (p := ⟨w.heap.size + 1 + 1, 3, none⟩) hlP).trans q'
          have f2 := (hb3.2 ⟨w.heap.size + 1 + 1, 3, none⟩).trans f'
          have hS2 := HKEEP.out _ ((Both.refl _).drew.trans hb3)
          refine hK.out _ _ hS2 (fun _ => ?_)
          clear hK K
          refine wpAnyH_take (i := 10) (v := ?v65) rfl (by kernel_rfl) (by kernel_rfl) (by kernel_rfl) (fun _ _ _ h => h) (Or.inl ⟨by rfl, ?hy65⟩) hS2 ?rest65
          case hy65 => (intro w0 hSw; obtain ⟨s0, s1, s2, s3⟩ := hSw; first | (go_simp; done) | (go_simp; with_reducible rfl))
          simp only [Act.put, List.setIfInBounds_toArray, List.set_cons_zero, List.set_cons_succ]
          refine wpAnyH_take (i := 13) (v := ?v66) rfl (by kernel_rfl) (by kernel_rfl) (by kernel_rfl) (fun _ _ _ h => h) (Or.inl ⟨by rfl, ?hy66⟩) hS2 ?rest66
          case hy66 => (intro w0 hSw; obtain ⟨s0, s1, s2, s3⟩ := hSw; first | (go_simp; done) | (go_simp; with_reducible rfl))
          simp only [Act.put, List.setIfInBounds_toArray, List.set_cons_zero, List.set_cons_succ]
          refine wpAnyH_take (i := 14) (v := ?v67) rfl (by kernel_rfl) (by kernel_rfl) (by kernel_rfl) (fun _ _ _ h => h) (Or.inl ⟨by rfl, ?hy67⟩) hS2 ?rest67
          case hy67 => (intro w0 hSw; obtain ⟨s0, s1, s2, s3⟩ := hSw; first | (go_simp; done) | (go_simp; with_reducible rfl))
          simp only [Act.put, List.setIfInBounds_toArray, List.set_cons_zero, List.set_cons_succ]
          refine wpAnyH_take (i := 15) (v := ?v68) rfl (by kernel_rfl) (by kernel_rfl) (by kernel_rfl) (fun _ _ _ h => h) (Or.inl ⟨by rfl, ?hy68⟩) hS2 ?rest68
          case hy68 => (intro w0 hSw; obtain ⟨s0, s1, s2, s3⟩ := hSw; first | (go_simp; done) | (go_simp; with_reducible rfl))
          simp only [Act.put, List.setIfInBounds_toArray, List.set_cons_zero, List.set_cons_succ]
          refine wpAnyH_ready (rs := [16]) (by kernel_rfl) (by simp) ?_
          refine AllReadyH.cons rfl (fun K hK => ?_) AllReadyH.nil
          go_simp
          refine hK.out _ _ (HKEEP2.out _ _ _ ((Both.refl _).drew.trans hb3)) (fun _ => ?_)
          clear hK K
          refine wpAnyH_done (by kernel_rfl) ?_ _
          have HNN := Lib.hid (liftK_next3 HU.out HX.out)
          have HL3 := Lib.hid ((HL2.out.step ((Both.refl _).drew.trans hb3)).put (i := 3) (v := bits .or .i64 vd (IntKind.i64.wrap (bits .and .i64 (z / 2 ^ xa.toNat) (maskV xw) * 2 ^ xf.toNat))) rfl)
          generalize bits .or .i64 vd (IntKind.i64.wrap (bits .and .i64 (z / 2 ^ xa.toNat) (maskV xw) * 2 ^ xf.toNat)) = nv at HL3 HNN ⊢
          clear hb3 hlP q' f' q2 f2 hpB hS hS2
          go_wp2
          go_roundw
          case rel => exact ⟨k + 1, by omega, by go_num, _, _, _, _, HL3.out, HNN⟩
          case measure => simp [intOf]; omega
        · go_simp
          go_at_call 76
          refine (mask_lit w0 w1 rfl _).mono ?_
          rintro e w' ⟨rfl, hb3⟩
          have q2 := (hb3.cell (p := ⟨w.heap.size + 1 + 1, 3, none⟩) hlP).trans q'
          have f2 := (hb3.2 ⟨w.heap.size + 1 + 1, 3, none⟩).trans f'
          have hS2 := HKEEP.out _ ((Both.refl _).drew.trans hb3)
          refine hK.out _ _ hS2 (fun _ => ?_)
          clear hK K
          refine wpAnyH_take (i := 10) (v := ?v69) rfl (by kernel_rfl) (by kernel_rfl) (by kernel_rfl) (fun _ _ _ h => h) (Or.inl ⟨by rfl, ?hy69⟩) hS2 ?rest69
          case hy69 => (intro w0 hSw; obtain ⟨s0, s1, s2, s3⟩ := hSw; first | (go_simp; done) | (go_simp; with_reducible rfl))
          simp only [Act.put, List.setIfInBounds_toArray, List.set_cons_zero, List.set_cons_succ]
          refine wpAnyH_take (i := 13) (v := ?v70) rfl (by kernel_rfl) (by kernel_rfl) (by kernel_rfl) (fun _ _ _ h => h) (Or.inl ⟨by rfl, ?hy70⟩) hS2 ?rest70
          case hy70 => (intro w0 hSw; obtain ⟨s0, s1, s2, s3⟩ := hSw; first | (go_simp; done) | (go_simp; with_reducible rfl))
          simp only [Act.put, List.setIfInBounds_toArray, List.set_cons_zero, List.set_cons_succ]
          refine wpAnyH_ready (rs := [3]) (by kernel_rfl) (by simp) ?_
          refine AllReadyH.cons rfl (fun K hK => ?_) AllReadyH.nil
          go_simp
          refine hK.out _ _ hS2 (fun _ => ?_)
          clear hK K
          refine wpAnyH_take (i := 14) (v := ?v71) rfl (by kernel_rfl) (by kernel_rfl) (by kernel_rfl) (fun _ _ _ h => h) (Or.inl ⟨by rfl, ?hy71⟩) hS2 ?rest71
          case hy71 => (intro w0 hSw; obtain ⟨s0, s1, s2, s3⟩ := hSw; first | (go_simp; done) | (go_simp; with_reducible rfl))
          simp only [Act.put, List.setIfInBounds_toArray, List.set_cons_zero, List.set_cons_succ]
          refine wpAnyH_take (i := 15) (v := ?v72) rfl (by kernel_rfl) (by kernel_rfl) (by kernel_rfl) (fun _ _ _ h => h) (Or.inl ⟨by rfl, ?hy72⟩) hS2 ?rest72
          case hy72 => (intro w0 hSw; obtain ⟨s0, s1, s2, s3⟩ := hSw; first | (go_simp; done) | (go_simp; with_reducible rfl))
          simp only [Act.put, List.setIfInBounds_toArray, List.set_cons_zero, List.set_cons_succ]
          refine wpAnyH_ready (rs := [16]) (by kernel_rfl) (by simp) ?_
          refine AllReadyH.cons rfl (fun K hK => ?_) AllReadyH.nil
          go_simp
          refine hK.out _ _ (HKEEP2.out _ _ _ ((Both.refl _).drew.trans hb3)) (fun _ => ?_)
          clear hK K
          refine wpAnyH_done (by kernel_rfl) ?_ _
          have HNN := Lib.hid (liftK_next3 HU.out HX.out)
          have HL3 := Lib.hid ((HL2.out.step ((Both.refl _).drew.trans hb3)).put (i := 3) (v := bits .or .i64 vd (IntKind.i64.wrap (bits .and .i64 (z / 2 ^ xa.toNat) (maskV xw) * 2 ^ xf.toNat))) rfl)
          generalize bits .or .i64 vd (IntKind.i64.wrap (bits .and .i64 (z / 2 ^ xa.toNat) (maskV xw) * 2 ^ xf.toNat)) = nv at HL3 HNN ⊢
          clear hb3 hlP q' f' q2 f2 hpB hS hS2
          go_wp2
          go_roundw
          case rel => exact ⟨k + 1, by omega, by go_num, _, _, _, _, HL3.out, HNN⟩
          case measure => simp [intOf]; omega
    · obtain rfl : k = 6 := by omega
      have hl := HL.out
      have m3 := cell_of_heap hl.h2 3
      have m2 := cell_of_heap hl.h2 2
      have m1 := cell_of_heap hl.h2 1
      have m0 := cell_of_heap hl.h2 0
      have l0 := (cell_of_heap hl.h0 0).trans E0.out
      have l1 := (cell_of_heap hl.h0 1).trans E1.out
      simp only [List.getElem?_toArray, List.getElem?_cons_zero, List.getElem?_cons_succ] at m0 m1 m2 m3
      have hinj := HU.out.symm.trans HRes.out
      simp only [Q4.mk.injEq] at hinj
      obtain ⟨rfl, rfl, rfl, rfl⟩ := hinj
      clear hl HU HRes
      by_cases hc : hi < vd
      · have hrn : vd + 2 * lo = rn := by have := HN.out; rwa [if_pos hc] at this
        subst hrn
        go_upto_region 10 with (fail)
        rename_i K4 hK4
        refine wp_region_list ?_
        iterate 9 (refine wpList_plain rfl fun K5 hK5 => ?_; go_simp; refine hK5 _ _ ?_; clear hK5 K5)
        refine wpList_store_row rfl 24 (.tmp 6) (.tmp 52) rfl (w.heap.size + 1) _ rfl rfl _ _ HL.out.h1 (by kernel_rfl) rfl (by kernel_rfl) ?_
        have hr := setRow_heap _ _ _ #[.int .i64 op, .int .i64 va, .int .i64 vb, .int .i64 vc, .int .i64 (vd + 2 * lo)] _ _ HL.out.h1
        have hb := HL.out.both.setRow (Nat.le_succ _) #[.int .i64 op, .int .i64 va, .int .i64 vb, .int .i64 vc, .int .i64 (vd + 2 * lo)]
        generalize wr.setRow (w.heap.size + 1) #[.int .i64 op, .int .i64 va, .int .i64 vb, .int .i64 vc, .int .i64 (vd + 2 * lo)] = W5 at hr hb ⊢
        have HRR := Lib.hid hr
        have HBB := Lib.hid hb
        clear hr hb m0 m1 m2 m3 l0 l1
        refine wpList_nil ?_
        refine hK4 _ _ ?_
        clear hK4 K4
        go_wp2
        exact bodyPost_ret (results_cell_row Try.results51 _ _ (w.heap.size + 1) _ _ _ _ rfl HRR.out Try.underlying24 rfl (by kernel_rfl)) rfl ⟨rfl, HBB.out⟩
      · have hrn : vd = rn := by have := HN.out; rwa [if_neg hc] at this
        subst hrn
        go_upto_region 10 with (fail)
        rename_i K4 hK4
        refine wp_region_list ?_
        iterate 9 (refine wpList_plain rfl fun K5 hK5 => ?_; go_simp; refine hK5 _ _ ?_; clear hK5 K5)
        refine wpList_store_row rfl 24 (.tmp 6) (.tmp 52) rfl (w.heap.size + 1) _ rfl rfl _ _ HL.out.h1 (by kernel_rfl) rfl (by kernel_rfl) ?_
        have hr := setRow_heap _ _ _ #[.int .i64 op, .int .i64 va, .int .i64 vb, .int .i64 vc, .int .i64 vd] _ _ HL.out.h1
        have hb := HL.out.both.setRow (Nat.le_succ _) #[.int .i64 op, .int .i64 va, .int .i64 vb, .int .i64 vc, .int .i64 vd]
        generalize wr.setRow (w.heap.size + 1) #[.int .i64 op, .int .i64 va, .int .i64 vb, .int .i64 vc, .int .i64 vd] = W5 at hr hb ⊢
        have HRR := Lib.hid hr
        have HBB := Lib.hid hb
        clear hr hb m0 m1 m2 m3 l0 l1
        refine wpList_nil ?_
        refine hK4 _ _ ?_
        clear hK4 K4
        go_wp2
        exact bodyPost_ret (results_cell_row Try.results51 _ _ (w.heap.size + 1) _ _ _ _ rfl HRR.out Try.underlying24 rfl (by kernel_rfl)) rfl ⟨rfl, HBB.out⟩
end Go.Proofs.Ytjjbfeoidceiiaa
