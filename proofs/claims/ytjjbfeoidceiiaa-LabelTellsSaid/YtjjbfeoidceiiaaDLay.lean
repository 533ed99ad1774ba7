/- What lay of a form is: the bits that an instruction's parts fill. -/
import Derived.Test.YtjjbfeoidceiiaaDOpen
namespace Go.Proofs.Ytjjbfeoidceiiaa
open Go.RowKit Rv
set_option linter.unusedVariables false
def partV (d a b n p : Int) : Int := if p = 0 then d else if p = 1 then a else if p = 2 then b else n
def layS (d a b n u : Int) (x : Pc) : Int := bits .or .i64 u (IntKind.i64.wrap (bits .and .i64 (partV d a b n x.p / 2 ^ x.f.toNat) (maskV x.w) * 2 ^ x.a.toNat))
def layK (d a b n : Int) (ps : List Pc) (k : Nat) : Int := (ps.take k).foldl (layS d a b n) 0
theorem layK_next {d a b n : Int} {ps : List Pc} {k : Nat} {x : Pc} {u : Int} (hu : layK d a b n ps k = u) (hx : ps[k]? = some x) : layK d a b n ps (k + 1) = layS d a b n u x := by
  subst hu
  obtain ⟨h, e⟩ := List.getElem?_eq_some_iff.1 hx
  unfold layK
  rw [List.take_succ_eq_append_getElem h, List.foldl_append, e]
  rfl
theorem layK_next0 {d a b n : Int} {ps : List Pc} {k : Nat} {xf xa xw u : Int} (hu : layK d a b n ps k = u) (hx : ps[k]? = some ⟨0, xf, xa, xw⟩) : layK d a b n ps (k + 1) = bits .or .i64 u (IntKind.i64.wrap (bits .and .i64 (d / 2 ^ xf.toNat) (maskV xw) * 2 ^ xa.toNat)) := by
  rw [layK_next hu hx]
  unfold layS
  rfl
theorem layK_next1 {d a b n : Int} {ps : List Pc} {k : Nat} {xf xa xw u : Int} (hu : layK d a b n ps k = u) (hx : ps[k]? = some ⟨1, xf, xa, xw⟩) : layK d a b n ps (k + 1) = bits .or .i64 u (IntKind.i64.wrap (bits .and .i64 (a / 2 ^ xf.toNat) (maskV xw) * 2 ^ xa.toNat)) := by
  rw [layK_next hu hx]
  unfold layS
  rfl
theorem layK_next2 {d a b n : Int} {ps : List Pc} {k : Nat} {xf xa xw u : Int} (hu : layK d a b n ps k = u) (hx : ps[k]? = some ⟨2, xf, xa, xw⟩) : layK d a b n ps (k + 1) = bits .or .i64 u (IntKind.i64.wrap (bits .and .i64 (b / 2 ^ xf.toNat) (maskV xw) * 2 ^ xa.toNat)) := by
  rw [layK_next hu hx]
  unfold layS
  rfl
theorem layK_next3 {d a b n : Int} {ps : List Pc} {k : Nat} {xf xa xw u : Int} (hu : layK d a b n ps k = u) (hx : ps[k]? = some ⟨3, xf, xa, xw⟩) : layK d a b n ps (k + 1) = bits .or .i64 u (IntKind.i64.wrap (bits .and .i64 (n / 2 ^ xf.toNat) (maskV xw) * 2 ^ xa.toNat)) := by
  rw [layK_next hu hx]
  unfold layS
  rfl
set_option maxRecDepth 100000 in
set_option maxHeartbeats 4000000 in
theorem lay_any (lo hi st r o d a b n : Int) (ps : List Pc) (H6 : Hid (ps.length = 6)) (HRes : Hid (layK d a b n ps 6 = r)) (HOK : Hid (∀ x ∈ ps, Pc.ok x)) (w : World) :
    Calls Try.prog 69 #[.agg (formCells lo hi st ps).toArray, .agg #[.int .i64 o, .int .i64 d, .int .i64 a, .int .i64 b, .int .i64 n]] w fun e w' => e = .returned (.int .i64 r) ∧ Both w w' := by
  go_enter Try.func69, Try.ntmps69
  go_wp2_with fail
  refine (parts_any o d a b n _).mono ?_
  rintro e Wp ⟨rfl, hbp⟩
  have hB0 : Both (w.alloc (.cells (formCells lo hi st ps).toArray 79)) Wp := Both.trans (by repeat (first | exact Both.refl _ | refine Both.alloc ?_ _ _)) hbp
  have hr0 : Wp.heap[w.heap.size]? = some (.cells (formCells lo hi st ps).toArray 79 (0, 0)) := (hB0.1.block w.heap.size (by simp)).trans (heap_alloc_new _ _)
  have hlp : w.heap.size < Wp.heap.size := by have := hB0.1.size; simp at this; omega
  have HB0 := Lib.hid (((Both.refl w).alloc _ _).trans hB0)
  clear hbp hB0
  have HR0 := Lib.hid hr0
  clear hr0
  go_upto_region 3 with (fail)
  rename_i K2 hK2 K hK
  have hB1 : Both w (Wp.alloc (.cells #[.int .i64 d, .int .i64 a, .int .i64 b, .int .i64 n] 85)) := HB0.out.alloc _ _
  have hr1 : (Wp.alloc (.cells #[.int .i64 d, .int .i64 a, .int .i64 b, .int .i64 n] 85)).heap[w.heap.size]? = some (.cells (formCells lo hi st ps).toArray 79 (0, 0)) := (heap_alloc_old _ _ hlp).trans HR0.out
  have hrp : (Wp.alloc (.cells #[.int .i64 d, .int .i64 a, .int .i64 b, .int .i64 n] 85)).heap[Wp.heap.size]? = some (.cells #[.int .i64 d, .int .i64 a, .int .i64 b, .int .i64 n] 85 (0, 0)) := heap_alloc_new _ _
  have hlq : Wp.heap.size < (Wp.alloc (.cells #[.int .i64 d, .int .i64 a, .int .i64 b, .int .i64 n] 85)).heap.size := by simp
  generalize Wp.alloc (.cells #[.int .i64 d, .int .i64 a, .int .i64 b, .int .i64 n] 85) = W1 at hB1 hr1 hrp hlq ⊢
  generalize Wp.heap.size = pb at hrp hlq hlp ⊢
  have hsz : (Try.prog.info? 77).map (·.size) = some (ps.flatMap pcV).length := by rw [pcV_len, H6.out]; exact pieces_size
  refine wp_region_list ?_
  refine wpList_one rfl (w' := W1) (v := .pointer (some ⟨w.heap.size, 3, none⟩)) (by kernel_rfl) ?_
  refine wpList_load_mid rfl 77 (.tmp 11) rfl w.heap.size 3 (by kernel_rfl) (ps.flatMap pcV) (.array _ _) (pieces_at hr1) Try.underlying77 rfl hsz ?_
  refine wpList_one rfl (w' := W1) (v := .int .i64 0) (by kernel_rfl) ?_
  refine wpList_nil ?_
  refine hK _ _ ?_
  have HSZ := Lib.hid hsz
  have HB1 := Lib.hid hB1
  have HRP := Lib.hid hrp
  clear hsz hr1 hrp hB1 hK K HR0 HB0
  generalize hcs : (ps.flatMap pcV).toArray = cs
  have HCS := Lib.hid hcs
  clear hcs
  go_wp2_with fail
  go_loopw [6, 13] (fun wd i wr => ∃ k : Nat, k ≤ 6 ∧ i = .int .i64 k ∧ Both W1 wr ∧ ∃ u, wd = .int .i64 u ∧ Hid (layK d a b n ps k = u)) (fun _ i _ => 6 - (intOf i).toNat)
  case atStart => exact ⟨0, by omega, rfl, Both.refl _, 0, rfl, rfl⟩
  case round =>
    obtain ⟨k, hk, rfl, hb, u, rfl, HU⟩ := hrel
    have HB := Lib.hid hb
    clear hb
    by_cases hlt : k < 6
    · have hkl : k < ps.length := by rw [H6.out]; exact hlt
      obtain ⟨x, hx⟩ : ∃ x, ps[k]? = some x := ⟨ps[k], List.getElem?_eq_getElem hkl⟩
      obtain ⟨p0, p1, f0, f1, a0, a1, w0, w1⟩ := HOK.out x (List.mem_of_getElem? hx)
      have hidx : ∀ W, (Instr.index 77 (.agg cs) (.int .i64 (k : Int))).run Try.prog W = .ok (.agg #[.int .u8 x.p, .int .u8 x.f, .int .u8 x.a, .int .u8 x.w]) W := fun W => by
        rw [← HCS.out]
        exact index_piece ps H6.out k x hx W
      have HX := Lib.hid hx
      obtain ⟨xp, xf, xa, xw⟩ := x
      simp only at p0 p1 f0 f1 a0 a1 w0 w1 hidx
      clear hx hkl
      have hlt' : (k : Int) < 6 := by omega
      go_wp2_with fail
      have HB2 : Hid (Both W1 (wr.alloc (.cells #[.int .u8 xp, .int .u8 xf, .int .u8 xa, .int .u8 xw] 76))) := HB.out.alloc _ _
      have c0 := World.cell?_alloc_new wr #[.int .u8 xp, .int .u8 xf, .int .u8 xa, .int .u8 xw] 76 0
      have c1 := World.cell?_alloc_new wr #[.int .u8 xp, .int .u8 xf, .int .u8 xa, .int .u8 xw] 76 1
      have c2 := World.cell?_alloc_new wr #[.int .u8 xp, .int .u8 xf, .int .u8 xa, .int .u8 xw] 76 2
      have c3 := World.cell?_alloc_new wr #[.int .u8 xp, .int .u8 xf, .int .u8 xa, .int .u8 xw] 76 3
      have hlB : wr.heap.size < (wr.alloc (.cells #[.int .u8 xp, .int .u8 xf, .int .u8 xa, .int .u8 xw] 76)).heap.size := by simp
      simp only [List.getElem?_toArray, List.getElem?_cons_zero, List.getElem?_cons_succ] at c0 c1 c2 c3
      generalize wr.alloc (.cells #[.int .u8 xp, .int .u8 xf, .int .u8 xa, .int .u8 xw] 76) = W2 at HB2 c0 c1 c2 c3 hlB ⊢
      generalize wr.heap.size = B at c0 c1 c2 c3 hlB ⊢
      have q0 := (HB2.out.cell (p := ⟨pb, 0, none⟩) hlq).trans (cell_of_heap HRP.out 0)
      have q1 := (HB2.out.cell (p := ⟨pb, 1, none⟩) hlq).trans (cell_of_heap HRP.out 1)
      have q2 := (HB2.out.cell (p := ⟨pb, 2, none⟩) hlq).trans (cell_of_heap HRP.out 2)
      have q3 := (HB2.out.cell (p := ⟨pb, 3, none⟩) hlq).trans (cell_of_heap HRP.out 3)
      simp only [List.getElem?_toArray, List.getElem?_cons_zero, List.getElem?_cons_succ] at q0 q1 q2 q3
      have hlP : pb < W2.heap.size := Nat.lt_of_lt_of_le hlq HB2.out.1.size
      have hkeep : ∀ w', Both W2 w' → w'.cell? ⟨B, 0, none⟩ = some (.int .u8 xp) ∧ w'.cell? ⟨B, 1, none⟩ = some (.int .u8 xf) ∧ w'.cell? ⟨B, 2, none⟩ = some (.int .u8 xa) ∧ w'.cell? ⟨B, 3, none⟩ = some (.int .u8 xw) ∧
          w'.cell? ⟨pb, 0, none⟩ = some (.int .i64 d) ∧ w'.cell? ⟨pb, 1, none⟩ = some (.int .i64 a) ∧ w'.cell? ⟨pb, 2, none⟩ = some (.int .i64 b) ∧ w'.cell? ⟨pb, 3, none⟩ = some (.int .i64 n) := fun w' h =>
        ⟨(h.cell (p := ⟨B, 0, none⟩) hlB).trans c0, (h.cell (p := ⟨B, 1, none⟩) hlB).trans c1, (h.cell (p := ⟨B, 2, none⟩) hlB).trans c2, (h.cell (p := ⟨B, 3, none⟩) hlB).trans c3,
          (h.cell (p := ⟨pb, 0, none⟩) hlP).trans q0, (h.cell (p := ⟨pb, 1, none⟩) hlP).trans q1, (h.cell (p := ⟨pb, 2, none⟩) hlP).trans q2, (h.cell (p := ⟨pb, 3, none⟩) hlP).trans q3⟩
      have HKEEP := Lib.hid hkeep
      clear hkeep c0 c1 c2 c3 q0 q1 q2 q3
      clear HB hidx
      have hxp : xp = 0 ∨ xp = 1 ∨ xp = 2 ∨ xp = 3 := by omega
      clear p0 p1
      rcases hxp with rfl | rfl | rfl | rfl
      · have HNN := Lib.hid (layK_next0 HU.out HX.out)
        go_region_held3 (fun w' => w'.cell? ⟨B, 0, none⟩ = some (.int .u8 0) ∧ w'.cell? ⟨B, 1, none⟩ = some (.int .u8 xf) ∧ w'.cell? ⟨B, 2, none⟩ = some (.int .u8 xa) ∧ w'.cell? ⟨B, 3, none⟩ = some (.int .u8 xw) ∧
          w'.cell? ⟨pb, 0, none⟩ = some (.int .i64 d) ∧ w'.cell? ⟨pb, 1, none⟩ = some (.int .i64 a) ∧ w'.cell? ⟨pb, 2, none⟩ = some (.int .i64 b) ∧ w'.cell? ⟨pb, 3, none⟩ = some (.int .i64 n))
          (first | exact HKEEP.out _ ((Both.refl _).drew) | exact HKEEP.out _ ((Both.refl _).drew.trans ‹Both _ _›))
          (first | (go_at_call 76; refine (mask_lit w0 w1 rfl _).mono ?_; rintro e w' ⟨rfl, hb3⟩))
        have HB3 := Lib.hid (HB2.out.trans ((Both.refl _).drew.trans hb3))
        clear hb3 hlB hlP hlq
        rename_i hh
        clear hh
        go_wp2
        go_roundw
        case rel => exact ⟨k + 1, by omega, by go_num, HB3.out, _, rfl, HNN⟩
        case measure => simp [intOf]; omega
      · have HNN := Lib.hid (layK_next1 HU.out HX.out)
        go_region_held3 (fun w' => w'.cell? ⟨B, 0, none⟩ = some (.int .u8 1) ∧ w'.cell? ⟨B, 1, none⟩ = some (.int .u8 xf) ∧ w'.cell? ⟨B, 2, none⟩ = some (.int .u8 xa) ∧ w'.cell? ⟨B, 3, none⟩ = some (.int .u8 xw) ∧
          w'.cell? ⟨pb, 0, none⟩ = some (.int .i64 d) ∧ w'.cell? ⟨pb, 1, none⟩ = some (.int .i64 a) ∧ w'.cell? ⟨pb, 2, none⟩ = some (.int .i64 b) ∧ w'.cell? ⟨pb, 3, none⟩ = some (.int .i64 n))
          (first | exact HKEEP.out _ ((Both.refl _).drew) | exact HKEEP.out _ ((Both.refl _).drew.trans ‹Both _ _›))
          (first | (go_at_call 76; refine (mask_lit w0 w1 rfl _).mono ?_; rintro e w' ⟨rfl, hb3⟩))
        have HB3 := Lib.hid (HB2.out.trans ((Both.refl _).drew.trans hb3))
        clear hb3 hlB hlP hlq
        rename_i hh
        clear hh
        go_wp2
        go_roundw
        case rel => exact ⟨k + 1, by omega, by go_num, HB3.out, _, rfl, HNN⟩
        case measure => simp [intOf]; omega
      · have HNN := Lib.hid (layK_next2 HU.out HX.out)
        go_region_held3 (fun w' => w'.cell? ⟨B, 0, none⟩ = some (.int .u8 2) ∧ w'.cell? ⟨B, 1, none⟩ = some (.int .u8 xf) ∧ w'.cell? ⟨B, 2, none⟩ = some (.int .u8 xa) ∧ w'.cell? ⟨B, 3, none⟩ = some (.int .u8 xw) ∧
          w'.cell? ⟨pb, 0, none⟩ = some (.int .i64 d) ∧ w'.cell? ⟨pb, 1, none⟩ = some (.int .i64 a) ∧ w'.cell? ⟨pb, 2, none⟩ = some (.int .i64 b) ∧ w'.cell? ⟨pb, 3, none⟩ = some (.int .i64 n))
          (first | exact HKEEP.out _ ((Both.refl _).drew) | exact HKEEP.out _ ((Both.refl _).drew.trans ‹Both _ _›))
          (first | (go_at_call 76; refine (mask_lit w0 w1 rfl _).mono ?_; rintro e w' ⟨rfl, hb3⟩))
        have HB3 := Lib.hid (HB2.out.trans ((Both.refl _).drew.trans hb3))
        clear hb3 hlB hlP hlq
        rename_i hh
        clear hh
        go_wp2
        go_roundw
        case rel => exact ⟨k + 1, by omega, by go_num, HB3.out, _, rfl, HNN⟩
        case measure => simp [intOf]; omega
      · have HNN := Lib.hid (layK_next3 HU.out HX.out)
        go_region_held3 (fun w' => w'.cell? ⟨B, 0, none⟩ = some (.int .u8 3) ∧ w'.cell? ⟨B, 1, none⟩ = some (.int .u8 xf) ∧ w'.cell? ⟨B, 2, none⟩ = some (.int .u8 xa) ∧ w'.cell? ⟨B, 3, none⟩ = some (.int .u8 xw) ∧
          w'.cell? ⟨pb, 0, none⟩ = some (.int .i64 d) ∧ w'.cell? ⟨pb, 1, none⟩ = some (.int .i64 a) ∧ w'.cell? ⟨pb, 2, none⟩ = some (.int .i64 b) ∧ w'.cell? ⟨pb, 3, none⟩ = some (.int .i64 n))
          (first | exact HKEEP.out _ ((Both.refl _).drew) | exact HKEEP.out _ ((Both.refl _).drew.trans ‹Both _ _›))
          (first | (go_at_call 76; refine (mask_lit w0 w1 rfl _).mono ?_; rintro e w' ⟨rfl, hb3⟩))
        have HB3 := Lib.hid (HB2.out.trans ((Both.refl _).drew.trans hb3))
        clear hb3 hlB hlP hlq
        rename_i hh
        clear hh
        go_wp2
        go_roundw
        case rel => exact ⟨k + 1, by omega, by go_num, HB3.out, _, rfl, HNN⟩
        case measure => simp [intOf]; omega
    · obtain rfl : k = 6 := by omega
      have HRR : Hid (u = r) := HU.out.symm.trans HRes.out
      go_wp2
      go_ret
      exact ⟨by have e := HRR.out; subst e; rfl, HB1.out.trans HB.out⟩
end Go.Proofs.Ytjjbfeoidceiiaa
