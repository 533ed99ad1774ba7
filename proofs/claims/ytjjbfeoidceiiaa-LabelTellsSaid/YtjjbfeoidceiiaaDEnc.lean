/- What Encode of package code answers. -/
import Derived.Test.YtjjbfeoidceiiaaDRightW
namespace Go.Proofs.Ytjjbfeoidceiiaa
open Go.RowKit Rv
set_option linter.unusedVariables false
set_option linter.unusedSimpArgs false
theorem bits_lit {s : ByteArray} {f lo mi hi se r : Int} (h1 : 0 ≤ lo) (h2 : lo < 128) (h3 : 0 ≤ mi) (h4 : mi < 8) (h5 : 0 ≤ hi) (h6 : hi < 128) (h7 : 0 ≤ se) (h8 : se < 32) (h : bitsV lo mi hi se = r) (w : World) :
    Calls Try.prog 50 #[.agg #[.string s, .int .u8 f, .int .i64 lo, .int .i64 mi, .int .i64 hi, .int .i64 se]] w fun e w' => e = .returned (.int .i64 r) ∧ Both w w' := by
  subst h
  exact bits_any s f lo mi hi se w h1 h2 h3 h4 h5 h6 h7 h8
theorem lay_lit {op f o d a b n r : Int} (h1 : 1 ≤ op) (h2 : op ≤ 49) (hf : form op = f) (h : layK d a b n (six (pcs f)) 6 = r) (w : World) :
    Calls Try.prog 69 #[.agg (formV f), .agg #[.int .i64 o, .int .i64 d, .int .i64 a, .int .i64 b, .int .i64 n]] w fun e w' => e = .returned (.int .i64 r) ∧ Both w w' := by
  subst hf
  exact lay_any _ _ _ r o d a b n _ (six_len _) h (pcs_ok h1 h2) w
set_option maxRecDepth 100000 in
set_option maxHeartbeats 4000000 in
theorem encode_no (op d a b n : Int) (hi : Ins.wf ⟨op, d, a, b, n⟩) (hr : right ⟨op, d, a, b, n⟩ = false) (w : World) :
    Calls Try.prog 36 #[.agg #[.int .i64 op, .int .i64 d, .int .i64 a, .int .i64 b, .int .i64 n]] w fun e w' => e = .returned (.tuple #[.int .i64 0, .int .i64 1]) ∧ Both w w' := by
  have HW := Lib.hid hi
  have HR := Lib.hid hr
  clear hi hr
  go_enter Try.func36, Try.ntmps36
  go_wp2_with fail
  refine (right_val HW.out HR.out _).mono ?_
  rintro e W1 ⟨rfl, hb1⟩
  have HB1 := Lib.hid (((Both.refl w).alloc _ _).trans hb1)
  clear hb1
  go_wp2
  go_ret2
  exact ⟨rfl, HB1.out⟩
set_option maxRecDepth 100000 in
set_option maxHeartbeats 4000000 in
theorem encode_yes (op d a b n f lo mi hi se u v r : Int) (s : ByteArray) (hi' : Ins.wf ⟨op, d, a, b, n⟩) (h1 : 1 ≤ op) (h2 : op ≤ 49) (l0 : 0 ≤ lo) (l1 : lo < 128) (m0 : 0 ≤ mi) (m1 : mi < 8) (i0 : 0 ≤ hi) (i1 : hi < 128) (s0 : 0 ≤ se) (s1 : se < 32) (Hs : Hid ((⟨(name op).toArray⟩ : ByteArray) = s)) (Hf : Hid (form op = f)) (Hl : Hid (low op = lo)) (Hm : Hid (mid op = mi)) (Hh : Hid (high op = hi)) (He : Hid (extra op = se)) (hr : right ⟨op, d, a, b, n⟩ = true) (HO : Hid (decide (1 ≤ op ∧ op ≤ 49) = true))
    (HU : Hid (bitsV lo mi hi se = u)) (HV : Hid (layK d a b n (six (pcs f)) 6 = v)) (HRR : Hid (bits .or .i64 u v = r)) (w : World) :
    Calls Try.prog 36 #[.agg #[.int .i64 op, .int .i64 d, .int .i64 a, .int .i64 b, .int .i64 n]] w fun e w' => e = .returned (.tuple #[.int .i64 r, .int .i64 0]) ∧ Both w w' := by
  have HW := Lib.hid hi'
  have HR := Lib.hid hr
  clear hi' hr
  go_enter Try.func36, Try.ntmps36
  go_wp2_with fail
  refine (right_val HW.out HR.out _).mono ?_
  rintro e W1 ⟨rfl, hb1⟩
  have hri := (hb1.1.block w.heap.size (by simp)).trans (heap_alloc_new _ _)
  have hli : w.heap.size < W1.heap.size := by have := hb1.1.size; simp at this; omega
  have c0 := cell_of_heap hri 0
  simp only [List.getElem?_toArray, List.getElem?_cons_zero, List.getElem?_cons_succ] at c0
  have HRI := Lib.hid hri
  have HB1 := Lib.hid (((Both.refl w).alloc _ _).trans hb1)
  clear hb1 hri
  go_wp2_with fail
  clear c0
  refine (rowof_lit2 (nm' := 0) Hs.out Hf.out Hl.out Hm.out Hh.out He.out HO.out _).mono ?_
  rintro e W2 ⟨rfl, hb2⟩
  have HRI2 := Lib.hid ((hb2.1.block w.heap.size hli).trans HRI.out)
  have hli2 : w.heap.size < W2.heap.size := Nat.lt_of_lt_of_le hli hb2.1.size
  have HB2 := Lib.hid (HB1.out.trans hb2)
  clear hb2 HB1 HRI
  go_upto_region 4 with (fail)
  have HB3 : Hid (Both w (W2.alloc (.cells #[.string s, .int .u8 f, .int .i64 lo, .int .i64 mi, .int .i64 hi, .int .i64 se] 72))) := HB2.out.alloc _ _
  have HRI3 := Lib.hid ((heap_alloc_old W2 (.cells #[.string s, .int .u8 f, .int .i64 lo, .int .i64 mi, .int .i64 hi, .int .i64 se] 72) hli2).trans HRI2.out)
  have HRO3 := Lib.hid (heap_alloc_new W2 (.cells #[.string s, .int .u8 f, .int .i64 lo, .int .i64 mi, .int .i64 hi, .int .i64 se] 72))
  have hlB : W2.heap.size < (W2.alloc (.cells #[.string s, .int .u8 f, .int .i64 lo, .int .i64 mi, .int .i64 hi, .int .i64 se] 72)).heap.size := by simp
  generalize W2.alloc (.cells #[.string s, .int .u8 f, .int .i64 lo, .int .i64 mi, .int .i64 hi, .int .i64 se] 72) = W3 at HB3 HRI3 HRO3 hlB ⊢
  generalize W2.heap.size = B at HRO3 hlB hli2 ⊢
  have hlI : w.heap.size < W3.heap.size := Nat.lt_trans hli2 hlB
  have hkeep : ∀ w', Both W3 w' → w'.cell? ⟨B, 0, none⟩ = some (.string s) ∧ w'.cell? ⟨B, 1, none⟩ = some (.int .u8 f) ∧ w'.cell? ⟨B, 2, none⟩ = some (.int .i64 lo) ∧ w'.cell? ⟨B, 3, none⟩ = some (.int .i64 mi) ∧ w'.cell? ⟨B, 4, none⟩ = some (.int .i64 hi) ∧ w'.cell? ⟨B, 5, none⟩ = some (.int .i64 se) ∧
      w'.cell? ⟨w.heap.size, 0, none⟩ = some (.int .i64 op) ∧ w'.cell? ⟨w.heap.size, 1, none⟩ = some (.int .i64 d) ∧ w'.cell? ⟨w.heap.size, 2, none⟩ = some (.int .i64 a) ∧ w'.cell? ⟨w.heap.size, 3, none⟩ = some (.int .i64 b) ∧ w'.cell? ⟨w.heap.size, 4, none⟩ = some (.int .i64 n) := fun w' h =>
    have hB := (h.1.block B hlB).trans HRO3.out
    have hI := (h.1.block w.heap.size hlI).trans HRI3.out
    ⟨cell_of_heap hB 0, cell_of_heap hB 1, cell_of_heap hB 2, cell_of_heap hB 3, cell_of_heap hB 4, cell_of_heap hB 5, cell_of_heap hI 0, cell_of_heap hI 1, cell_of_heap hI 2, cell_of_heap hI 3, cell_of_heap hI 4⟩
  have HKEEP := Lib.hid hkeep
  clear hkeep hlB hlI hli2 hli
  go_region_held3 (fun w' => w'.cell? ⟨B, 0, none⟩ = some (.string s) ∧ w'.cell? ⟨B, 1, none⟩ = some (.int .u8 f) ∧ w'.cell? ⟨B, 2, none⟩ = some (.int .i64 lo) ∧ w'.cell? ⟨B, 3, none⟩ = some (.int .i64 mi) ∧ w'.cell? ⟨B, 4, none⟩ = some (.int .i64 hi) ∧ w'.cell? ⟨B, 5, none⟩ = some (.int .i64 se) ∧
      w'.cell? ⟨w.heap.size, 0, none⟩ = some (.int .i64 op) ∧ w'.cell? ⟨w.heap.size, 1, none⟩ = some (.int .i64 d) ∧ w'.cell? ⟨w.heap.size, 2, none⟩ = some (.int .i64 a) ∧ w'.cell? ⟨w.heap.size, 3, none⟩ = some (.int .i64 b) ∧ w'.cell? ⟨w.heap.size, 4, none⟩ = some (.int .i64 n))
    (first | exact HKEEP.out _ ((((Both.refl _).drew.trans hb3).trans hb4).trans hb5) | exact HKEEP.out _ (((Both.refl _).drew.trans hb3).trans hb4) | exact HKEEP.out _ ((Both.refl _).drew.trans hb3) | exact HKEEP.out _ ((Both.refl _).drew))
    (first
      | (go_at_call 50; refine (bits_lit l0 l1 m0 m1 i0 i1 s0 s1 HU.out _).mono ?_; rintro e w' ⟨rfl, hb3⟩)
      | (go_at_call 48; refine (formof_lit h1 h2 Hf.out _).mono ?_; rintro e w' ⟨rfl, hb4⟩)
      | (go_at_call 69; refine (lay_lit h1 h2 Hf.out HV.out _).mono ?_; rintro e w' ⟨rfl, hb5⟩))
  have HB6 := Lib.hid (HB3.out.trans ((((Both.refl _).drew.trans hb3).trans hb4).trans hb5))
  clear hb3 hb4 hb5
  rename_i hh
  clear hh
  go_wp2
  go_ret2
  exact ⟨by have e := HRR.out; subst e; rfl, HB6.out⟩
theorem encode_is : EncodeIs := by
  intro i w hi
  obtain ⟨op, d, a, b, n⟩ := i
  cases hr : right ⟨op, d, a, b, n⟩ with
  | false =>
    have e1 : encV ⟨op, d, a, b, n⟩ = 0 := by unfold encV; rw [hr]; rfl
    have e2 : encE ⟨op, d, a, b, n⟩ = 1 := by unfold encE; rw [hr]; rfl
    rw [e1, e2]
    exact encode_no op d a b n hi hr w
  | true =>
    have e1 : encV ⟨op, d, a, b, n⟩ = enc ⟨op, d, a, b, n⟩ := by unfold encV; rw [hr]; rfl
    have e2 : encE ⟨op, d, a, b, n⟩ = 0 := by unfold encE; rw [hr]; rfl
    rw [e1, e2]
    obtain ⟨h1, h2, _⟩ := right_parts hr
    simp only at h1 h2
    obtain ⟨b1, b2, b3, b4, b5, b6, _⟩ := bounds h1 h2
    have e := extra_bd op
    exact encode_yes op d a b n _ _ _ _ _ _ _ _ _ hi h1 h2 b1 b2 b3 b4 b5 b6 e.1 e.2 rfl rfl rfl rfl rfl rfl hr (decide_eq_true ⟨h1, h2⟩) rfl rfl (enc_is hr) w
end Go.Proofs.Ytjjbfeoidceiiaa
