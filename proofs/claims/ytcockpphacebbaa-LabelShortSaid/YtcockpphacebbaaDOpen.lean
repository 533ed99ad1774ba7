/- What open of a form is: all bits that its pieces may fill. -/
import Derived.Test.YtcockpphacebbaaDBounds
namespace Go.Proofs.Ytcockpphacebbaa
open Go.RowKit Rv
set_option linter.unusedVariables false
theorem mask_lit {p f a wd m : Int} (h1 : 0 ≤ wd) (h2 : wd < 32) (hm : maskV wd = m) (w : World) :
    Calls Try.prog 76 #[.agg #[.int .u8 p, .int .u8 f, .int .u8 a, .int .u8 wd]] w fun e w' => e = .returned (.int .i64 m) ∧ Both w w' := by
  subst hm
  exact mask_any p f a wd w h1 h2
def openS (u : Int) (x : Pc) : Int := bits .or .i64 u (IntKind.i64.wrap (maskV x.w * 2 ^ x.a.toNat))
def openK (ps : List Pc) (k : Nat) : Int := (ps.take k).foldl openS 0
theorem openK_next {ps : List Pc} {k : Nat} {x : Pc} {u : Int} (hu : openK ps k = u) (hx : ps[k]? = some x) : openK ps (k + 1) = openS u x := by
  subst hu
  obtain ⟨h, e⟩ := List.getElem?_eq_some_iff.1 hx
  unfold openK
  rw [List.take_succ_eq_append_getElem h, List.foldl_append, e]
  rfl
theorem openK_next' {ps : List Pc} {k : Nat} {xp xf xa xw u : Int} (hu : openK ps k = u) (hx : ps[k]? = some ⟨xp, xf, xa, xw⟩) : openK ps (k + 1) = bits .or .i64 u (IntKind.i64.wrap (maskV xw * 2 ^ xa.toNat)) := by
  rw [openK_next hu hx]
  unfold openS
  rfl
set_option maxRecDepth 100000 in
set_option maxHeartbeats 4000000 in
theorem open_any (lo hi st r : Int) (ps : List Pc) (H6 : Hid (ps.length = 6)) (HRes : Hid (openK ps 6 = r)) (HOK : Hid (∀ x ∈ ps, Pc.ok x)) (w : World) :
    Calls Try.prog 49 #[.agg (formCells lo hi st ps).toArray] w fun e w' => e = .returned (.int .i64 r) ∧ Both w w' := by
  go_enter Try.func49, Try.ntmps49
  go_upto_region 2 with (fail)
  rename_i K2 hK2 K hK
  have hB1 : Both w (w.alloc (.cells (formCells lo hi st ps).toArray 79)) := (Both.refl w).alloc _ _
  have hr1 : (w.alloc (.cells (formCells lo hi st ps).toArray 79)).heap[w.heap.size]? = some (.cells (formCells lo hi st ps).toArray 79 (0, 0)) := heap_alloc_new _ _
  generalize w.alloc (.cells (formCells lo hi st ps).toArray 79) = W1 at hB1 hr1 ⊢
  have hsz : (Try.prog.info? 77).map (·.size) = some (ps.flatMap pcV).length := by rw [pcV_len, H6.out]; exact pieces_size
  refine wp_region_list ?_
  refine wpList_one rfl (w' := W1) (v := .pointer (some ⟨w.heap.size, 3, none⟩)) (by kernel_rfl) ?_
  refine wpList_load_mid rfl 77 (.tmp 6) rfl w.heap.size 3 (by kernel_rfl) (ps.flatMap pcV) (.array _ _) (pieces_at hr1) Try.underlying77 rfl hsz ?_
  refine wpList_one rfl (w' := W1) (v := .int .i64 0) (by kernel_rfl) ?_
  refine wpList_nil ?_
  refine hK _ _ ?_
  have HSZ := Lib.hid hsz
  have HB1 := Lib.hid hB1
  clear hsz hr1 hB1 hK K
  generalize hcs : (ps.flatMap pcV).toArray = cs
  have HCS := Lib.hid hcs
  clear hcs
  go_wp2_with fail
  go_loopw [3, 8] (fun wd i wr => ∃ k : Nat, k ≤ 6 ∧ i = .int .i64 k ∧ Both W1 wr ∧ ∃ u, wd = .int .i64 u ∧ Hid (openK ps k = u)) (fun _ i _ => 6 - (intOf i).toNat)
  case atStart => exact ⟨0, by omega, rfl, Both.refl _, 0, rfl, rfl⟩
  case round =>
    obtain ⟨k, hk, rfl, hb, u, rfl, HU⟩ := hrel
    have HB := Lib.hid hb
    clear hb
    by_cases hlt : k < 6
    · have hkl : k < ps.length := by rw [H6.out]; exact hlt
      obtain ⟨x, hx⟩ : ∃ x, ps[k]? = some x := ⟨ps[k], List.getElem?_eq_getElem hkl⟩
      obtain ⟨p0, p1, f0, f1, a0, a1, w0, w1⟩ := HOK.out x (List.mem_of_getElem? hx)
      have hidx : ∀ W, (Instr.index 77 (.agg cs) (.int .i64 (k : Int))).run Try.prog W = .ok (.agg #[.int .u8 x.p, .int .u8 x.f, .int .u8 x.a, .int .u8 x.w]) W := fun W => by
        rw [← HCS.out]
        exact index_piece ps H6.out k x hx W
      have HX := Lib.hid hx
      obtain ⟨xp, xf, xa, xw⟩ := x
      simp only at p0 p1 f0 f1 a0 a1 w0 w1 hidx
      clear hx hkl
      have hlt' : (k : Int) < 6 := by omega
      obtain ⟨m, hm⟩ : ∃ m, maskV xw = m := ⟨_, rfl⟩
      have HM := Lib.hid hm
      clear hm
      go_wp2_with fail
      have HB2 : Hid (Both W1 (wr.alloc (.cells #[.int .u8 xp, .int .u8 xf, .int .u8 xa, .int .u8 xw] 76))) := HB.out.alloc _ _
      have c0 := World.cell?_alloc_new wr #[.int .u8 xp, .int .u8 xf, .int .u8 xa, .int .u8 xw] 76 0
      have c1 := World.cell?_alloc_new wr #[.int .u8 xp, .int .u8 xf, .int .u8 xa, .int .u8 xw] 76 1
      have c2 := World.cell?_alloc_new wr #[.int .u8 xp, .int .u8 xf, .int .u8 xa, .int .u8 xw] 76 2
      have c3 := World.cell?_alloc_new wr #[.int .u8 xp, .int .u8 xf, .int .u8 xa, .int .u8 xw] 76 3
      have hlB : wr.heap.size < (wr.alloc (.cells #[.int .u8 xp, .int .u8 xf, .int .u8 xa, .int .u8 xw] 76)).heap.size := by simp
      simp only [List.getElem?_toArray, List.getElem?_cons_zero, List.getElem?_cons_succ] at c0 c1 c2 c3
      generalize wr.alloc (.cells #[.int .u8 xp, .int .u8 xf, .int .u8 xa, .int .u8 xw] 76) = W2 at HB2 c0 c1 c2 c3 hlB ⊢
      generalize wr.heap.size = B at c0 c1 c2 c3 hlB ⊢
      have hkeep : ∀ w', Both W2 w' → w'.cell? ⟨B, 0, none⟩ = some (.int .u8 xp) ∧ w'.cell? ⟨B, 1, none⟩ = some (.int .u8 xf) ∧ w'.cell? ⟨B, 2, none⟩ = some (.int .u8 xa) ∧ w'.cell? ⟨B, 3, none⟩ = some (.int .u8 xw) := fun w' h =>
        ⟨(h.cell (p := ⟨B, 0, none⟩) hlB).trans c0, (h.cell (p := ⟨B, 1, none⟩) hlB).trans c1, (h.cell (p := ⟨B, 2, none⟩) hlB).trans c2, (h.cell (p := ⟨B, 3, none⟩) hlB).trans c3⟩
      have HKEEP := Lib.hid hkeep
      clear hkeep c0 c1 c2 c3
      clear HB HM hidx
      go_region_held3 (fun w' => w'.cell? ⟨B, 0, none⟩ = some (.int .u8 xp) ∧ w'.cell? ⟨B, 1, none⟩ = some (.int .u8 xf) ∧ w'.cell? ⟨B, 2, none⟩ = some (.int .u8 xa) ∧ w'.cell? ⟨B, 3, none⟩ = some (.int .u8 xw))
        (first | exact HKEEP.out _ ((Both.refl _).drew) | exact HKEEP.out _ ((Both.refl _).drew.trans ‹Both _ _›))
        (first | (go_at_call 76; refine (mask_lit w0 w1 rfl _).mono ?_; rintro e w' ⟨rfl, hb3⟩))
      have HB3 := Lib.hid (HB2.out.trans ((Both.refl _).drew.trans hb3))
      clear hb3 hlB
      rename_i hh
      clear hh
      go_wp2
      go_roundw
      case rel => exact ⟨k + 1, by omega, by go_num, HB3.out, _, rfl, Lib.hid (openK_next' HU.out HX.out)⟩
      case measure => simp [intOf]; omega
    · obtain rfl : k = 6 := by omega
      have HRR : Hid (u = r) := HU.out.symm.trans HRes.out
      go_wp2
      go_ret
      exact ⟨by have e := HRR.out; subst e; rfl, HB1.out.trans HB.out⟩
end Go.Proofs.Ytcockpphacebbaa
