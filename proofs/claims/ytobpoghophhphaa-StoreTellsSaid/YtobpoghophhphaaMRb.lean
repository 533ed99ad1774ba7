/- The document's own Load. -/
import Derived.Test.YtobpoghophhphaaMRa
namespace Go.Proofs.Ytobpoghophhphaa
open Go.RowKit Mm
set_option linter.unusedVariables false
set_option linter.unusedSimpArgs false
set_option maxRecDepth 100000 in
set_option maxHeartbeats 4000000 in
theorem rload_no {w : World} {base : Nat} {v : Mv} {m : Mem} (hm : MemAt base w v m) (ho : Ok m) {h a : Int} (hr : (isH m h && isW m a) = false) :
    Calls Try.prog 11 #[.agg #[.slice v.w.p v.w.n v.w.c, .slice v.p.p v.p.n v.p.c, .slice v.r.p v.r.n v.r.c], .int .i64 h, .int .i64 a] w fun e w' => e = .returned (.tuple #[.int .i64 0, .int .i64 1]) ∧ Bel w w' := by
  have HQv := Lib.hid hm
  have HO := Lib.hid ho
  have HBW : Hid (Bel w w) := Lib.hid (Bel.refl w)
  clear hm ho
  have HR := Lib.hid hr
  clear hr
  go_enter Try.func11, Try.ntmps11
  go_upto_region 1 with (fail)
  have hnew : (w.alloc (.cells #[.slice v.w.p v.w.n v.w.c, .slice v.p.p v.p.n v.p.c, .slice v.r.p v.r.n v.r.c] 27)).heap[w.heap.size]? = some (.cells #[.slice v.w.p v.w.n v.w.c, .slice v.p.p v.p.n v.p.c, .slice v.r.p v.r.n v.r.c] 27 (0, 0)) := heap_alloc_new w _
  have hb : Bel w (w.alloc (.cells #[.slice v.w.p v.w.n v.w.c, .slice v.p.p v.p.n v.p.c, .slice v.r.p v.r.n v.r.c] 27)) := (Bel.refl w).alloc _ _
  have hge : w.heap.size ≤ w.heap.size := HBW.out.size
  generalize hWW : (w.alloc (.cells #[.slice v.w.p v.w.n v.w.c, .slice v.p.p v.p.n v.p.c, .slice v.r.p v.r.n v.r.c] 27)) = W1 at hnew hb ⊢
  clear hWW
  have HBW := Lib.hid (HBW.out.trans hb)
  have HQv := Lib.hid (HQv.out.bel hb)
  generalize w.heap.size = g3 at hnew hge  ⊢
  have HX3 := Lib.hid hnew
  have HGE3 := Lib.hid hge
  clear hnew hb hge
  have k30 := cell_of_heap HX3.out 0
  have k31 := cell_of_heap HX3.out 1
  have k32 := cell_of_heap HX3.out 2
  simp only [List.getElem?_toArray, List.getElem?_cons_zero, List.getElem?_cons_succ] at k30 k31 k32
  go_wp2_with fail
  refine (rthere_lit HQv.out HO.out HR.out _).mono ?_
  rintro e W2 ⟨rfl, hb⟩
  clear k30 k31 k32
  have HBW := Lib.hid (HBW.out.trans hb)
  have HX3 := Lib.hid (Bel.stays hb HX3.out)
  have HQv := Lib.hid (HQv.out.bel hb)
  clear hb
  have k30 := cell_of_heap HX3.out 0
  have k31 := cell_of_heap HX3.out 1
  have k32 := cell_of_heap HX3.out 2
  simp only [List.getElem?_toArray, List.getElem?_cons_zero, List.getElem?_cons_succ] at k30 k31 k32
  go_wp2
  exact bodyPost_ret (v := .tuple #[.int .i64 0, .int .i64 1]) (by simp [results, Try.f11, go_sem]) rfl ⟨rfl, HBW.out⟩
set_option maxRecDepth 100000 in
set_option maxHeartbeats 4000000 in
theorem rload_yes {w : World} {base : Nat} {v : Mv} {m : Mem} (hm : MemAt base w v m) (ho : Ok m) {h a : Nat} (hh : isH m h = true) (hw : isW m a = true) :
    Calls Try.prog 11 #[.agg #[.slice v.w.p v.w.n v.w.c, .slice v.p.p v.p.n v.p.c, .slice v.r.p v.r.n v.r.c], .int .i64 h, .int .i64 a] w fun e w' => e = .returned (.tuple #[.int .i64 (loadN m h a), .int .i64 0]) ∧ Bel w w' := by
  have HR : Hid ((isH m h && isW m a) = true) := Lib.hid (by rw [hh, hw]; rfl)
  have HQv := Lib.hid hm
  have HO := Lib.hid ho
  have HBW : Hid (Bel w w) := Lib.hid (Bel.refl w)
  clear hm ho
  go_enter Try.func11, Try.ntmps11
  go_upto_region 1 with (fail)
  have hnew : (w.alloc (.cells #[.slice v.w.p v.w.n v.w.c, .slice v.p.p v.p.n v.p.c, .slice v.r.p v.r.n v.r.c] 27)).heap[w.heap.size]? = some (.cells #[.slice v.w.p v.w.n v.w.c, .slice v.p.p v.p.n v.p.c, .slice v.r.p v.r.n v.r.c] 27 (0, 0)) := heap_alloc_new w _
  have hb : Bel w (w.alloc (.cells #[.slice v.w.p v.w.n v.w.c, .slice v.p.p v.p.n v.p.c, .slice v.r.p v.r.n v.r.c] 27)) := (Bel.refl w).alloc _ _
  have hge : w.heap.size ≤ w.heap.size := HBW.out.size
  generalize hWW : (w.alloc (.cells #[.slice v.w.p v.w.n v.w.c, .slice v.p.p v.p.n v.p.c, .slice v.r.p v.r.n v.r.c] 27)) = W1 at hnew hb ⊢
  clear hWW
  have HBW := Lib.hid (HBW.out.trans hb)
  have HQv := Lib.hid (HQv.out.bel hb)
  generalize w.heap.size = g3 at hnew hge  ⊢
  have HX3 := Lib.hid hnew
  have HGE3 := Lib.hid hge
  clear hnew hb hge
  have k30 := cell_of_heap HX3.out 0
  have k31 := cell_of_heap HX3.out 1
  have k32 := cell_of_heap HX3.out 2
  simp only [List.getElem?_toArray, List.getElem?_cons_zero, List.getElem?_cons_succ] at k30 k31 k32
  go_wp2_with fail
  refine (rthere_lit HQv.out HO.out HR.out _).mono ?_
  rintro e W2 ⟨rfl, hb⟩
  clear k30 k31 k32
  have HBW := Lib.hid (HBW.out.trans hb)
  have HX3 := Lib.hid (Bel.stays hb HX3.out)
  have HQv := Lib.hid (HQv.out.bel hb)
  clear hb
  have k30 := cell_of_heap HX3.out 0
  have k31 := cell_of_heap HX3.out 1
  have k32 := cell_of_heap HX3.out 2
  simp only [List.getElem?_toArray, List.getElem?_cons_zero, List.getElem?_cons_succ] at k30 k31 k32
  obtain ⟨bp, csp, s, ep, -, -, -, hlt0, pa, -, -, hra⟩ := HQv.out.hart hh
  have hns := hra.n (s := s)
  have HRA := Lib.hid hra
  have HNS := Lib.hid hns
  obtain ⟨bw, csw, ew, -, -, -, hlw, cw, -⟩ := HQv.out.word hw
  have hlt2 : (h : Int) < (v.p.n : Int) := by omega
  have hlw2 : (a : Int) < (v.w.n : Int) := by omega
  clear hra hns hlt0 hlw
  rw [ep] at k31
  rw [ew] at k30
  clear ep ew
  generalize hd : wordN m a = d at cw
  obtain ⟨L, hL⟩ : ∃ L, row m h = L := ⟨_, rfl⟩
  have HRL : Hid (ERow encE 48 2 W2 base (.slice s.p s.n s.c) L) := Lib.hid (by rw [← hL]; exact HRA.out)
  have HNL : Hid (s.n = L.length) := Lib.hid (by rw [← hL]; exact HNS.out)
  have HFIN : Hid (loadN m h a = last L a d) := Lib.hid (by unfold loadN; rw [hL, hd])
  have hN8 : s.n ≤ 9000 := by have := HNS.out; have := HO.out.p8 _ (row_mem hh); omega
  clear hd hL hh hw
  go_wp2
  go_loopw [9, 10] (fun nv i wr => ∃ k : Nat, k ≤ s.n ∧ nv = .int .i64 (last (L.take k) a d) ∧ i = .int .i64 k ∧ wr = W2) (fun _ i _ => s.n - (intOf i).toNat)
  case atStart => exact ⟨0, Nat.zero_le _, rfl, rfl, rfl⟩
  case round =>
    obtain ⟨k, hk, rfl, rfl, rfl⟩ := hrel
    by_cases hlt : k < s.n
    · obtain ⟨x, hx⟩ : ∃ x, L[k]? = some x := ⟨_, List.getElem?_eq_getElem (by have := HNL.out; omega)⟩
      obtain ⟨be, cse, es, -, -, -, hnc, -, -, hce⟩ := ERow.at (enc := encE) (k := 2) (s := s) encE_len HRL.out hx
      have c0 := hce 0 _ rfl
      have c1 := hce 1 _ rfl
      rw [Nat.add_zero] at c0
      rw [es] at pa
      have hk2 : (k : Int) < (s.n : Int) := by omega
      have hst : last (L.take (k + 1)) a d = if x.1 = (a : Int) then x.2 else last (L.take k) a d := by rw [List.take_add_one, hx]; exact last_app _ [x] _ _
      clear hce es hx
      by_cases hxa : x.1 = (a : Int)
      · have hxb : (x.1 == (a : Int)) = true := beq_iff_eq.2 hxa
        rw [if_pos hxa] at hst
        have HST := Lib.hid hst
        clear hst
        go_wp2
        exact ⟨⟨k + 1, by omega, by rw [HST.out], by go_num, trivial⟩, by simp [intOf]; omega⟩
      · have hxb : (x.1 == (a : Int)) = false := beq_eq_false_iff_ne.2 hxa
        rw [if_neg hxa] at hst
        have HST := Lib.hid hst
        clear hst
        go_wp2
        exact ⟨⟨k + 1, by omega, by rw [HST.out], by go_num, trivial⟩, by simp [intOf]; omega⟩
    · have hk2 : ¬ (k : Int) < (s.n : Int) := by omega
      go_wp2
      exact bodyPost_ret (v := .tuple #[.int .i64 (last (L.take k) a d), .int .i64 0]) (by simp [results, Try.f11, go_sem]) rfl ⟨by rw [List.take_of_length_le (by have := HNL.out; omega), ← HFIN.out], HBW.out⟩
theorem rload_lit {w : World} {base : Nat} {v : Mv} {m : Mem} (hm : MemAt base w v m) (ho : Ok m) {h a x r : Int} (hr : loadV m h a = (x, r)) :
    Calls Try.prog 11 #[.agg #[.slice v.w.p v.w.n v.w.c, .slice v.p.p v.p.n v.p.c, .slice v.r.p v.r.n v.r.c], .int .i64 h, .int .i64 a] w fun e w' => e = .returned (.tuple #[.int .i64 x, .int .i64 r]) ∧ Bel w w' := by
  unfold loadV at hr
  cases hh : isH m h && isW m a with
  | false => rw [hh] at hr; injection hr with h1 h2; rw [← h1, ← h2]; exact rload_no hm ho hh
  | true =>
    rw [hh] at hr
    obtain ⟨h1, h2⟩ := Bool.and_eq_true_iff.1 hh
    obtain ⟨hN, rfl⟩ : ∃ hN : Nat, h = hN := ⟨h.toNat, by have := isH_iff.1 h1; omega⟩
    obtain ⟨aN, rfl⟩ : ∃ aN : Nat, a = aN := ⟨a.toNat, by have := isW_iff.1 h2; omega⟩
    injection hr with e1 e2
    rw [← e1, ← e2]
    exact rload_yes hm ho h1 h2
end Go.Proofs.Ytobpoghophhphaa
