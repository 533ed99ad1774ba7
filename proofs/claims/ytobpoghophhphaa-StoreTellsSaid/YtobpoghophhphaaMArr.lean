/- store.arrive: a number goes to memory. -/
import Derived.Test.YtobpoghophhphaaMCopied
namespace Go.Proofs.Ytobpoghophhphaa
open Go.RowKit Mm
set_option linter.unusedVariables false
set_option linter.unusedSimpArgs false
/-- of what was there nothing turns but in blocks of ints, of one's own -/
def Ivg (base : Nat) (w w' : World) : Prop := Sv (fun k => base ≤ k ∧ ∃ cs fr, w.heap[k]? = some (.cells cs 3 fr)) w w'
theorem Ivg.bel {base : Nat} {w w' w0 : World} (h : Ivg base w w') (h0 : Bel w0 w) (hb : w0.heap.size ≤ base) : Bel w0 w' := Sv.bel h h0 fun k hk => Nat.le_trans hb hk.1
theorem Ivg.stays {base : Nat} {w w' : World} (h : Ivg base w w') {g : Nat} {cs : Array Value} {t : TypeId} {fr : Nat × Nat} (hg : w.heap[g]? = some (.cells cs t fr)) (ht : t ≠ 3) : w'.heap[g]? = some (.cells cs t fr) :=
  (h.block g (lt_of_heap hg) fun c => by
    obtain ⟨_, cs', fr', h'⟩ := c
    rw [hg] at h'
    injection h' with h'
    injection h' with _ h' _
    exact ht h').trans hg
theorem setInt_ivg {base b : Nat} {w : World} {cs : Array Value} (hb : base ≤ b) (h : w.heap[b]? = some (.cells cs 3 (0, 0))) (j : Nat) (u : Value) : Ivg base w (w.setCell ⟨b, j, none⟩ u) :=
  ⟨rfl, rfl, rfl, by simp [World.setCell], fun k _ hk => Below.heap_setCell _ _ _ _ (by rintro rfl; exact hk ⟨hb, cs, _, h⟩)⟩
theorem Ivg.trans {base : Nat} {a b c : World} (h : Ivg base a b) (k : Ivg base b c) : Ivg base a c :=
  ⟨k.os.trans h.os, k.tape.trans h.tape, k.output.trans h.output, Nat.le_trans h.size k.size, fun j hj hs => by
    have hb := h.block j hj hs
    rw [← hb]
    exact k.block j (Nat.lt_of_lt_of_le hj h.size) (by rw [hb]; exact hs)⟩
theorem Bel.ivg {w w' : World} (h : Bel w w') (base : Nat) : Ivg base w w' := h.sv _
theorem MemAt.setW {base : Nat} {W : World} {v : Mv} {m : Mem} (h : MemAt base W v m) {b a : Nat} (hb : v.w.p = some ⟨b, 0, none⟩) (ha : a < m.words.length) (x : Int) : MemAt base (W.setCell ⟨b, a, none⟩ (.int .i64 x)) v { m with words := m.words.set a x } := by
  obtain ⟨⟨wp, wn, wc⟩, ⟨pp, pn, pc⟩, ⟨rp, rn, rc⟩, rows⟩ := v
  simp only at hb
  subst hb
  obtain ⟨_, cs, hg⟩ := h.wd.blk rfl
  have hs : Svg b W (W.setCell ⟨b, a, none⟩ (.int .i64 x)) := Svg.set _ _ _ _
  exact ⟨ERow.set (fun _ => rfl) h.wd ha x _ rfl rfl, h.pd.keep hs hg (by decide), h.rl, fun i s l h1 h2 => (h.ro i s l h1 h2).keep hs hg (by decide), h.rs.sv hs fun k hk c => by subst c; exact h.ne _ rfl hk, h.ne, h.ap⟩
theorem MemAt.setRs {base : Nat} {W : World} {v : Mv} {m : Mem} (h : MemAt base W v m) {b a : Nat} (hb : v.r.p = some ⟨b, 0, none⟩) (ha : a < m.res.length) (x : Int) : MemAt base (W.setCell ⟨b, a, none⟩ (.int .i64 x)) v { m with res := m.res.set a x } := by
  obtain ⟨⟨wp, wn, wc⟩, ⟨pp, pn, pc⟩, ⟨rp, rn, rc⟩, rows⟩ := v
  simp only at hb
  subst hb
  obtain ⟨_, cs, hg⟩ := h.rs.blk rfl
  have hs : Svg b W (W.setCell ⟨b, a, none⟩ (.int .i64 x)) := Svg.set _ _ _ _
  exact ⟨h.wd.sv hs fun k hk c => by subst c; exact h.ne _ hk rfl, h.pd.keep hs hg (by decide), h.rl, fun i s l h1 h2 => (h.ro i s l h1 h2).keep hs hg (by decide), ERow.set (fun _ => rfl) h.rs ha x _ rfl rfl, h.ne, h.ap⟩
/-- some rounds of it -/
def arrK (m : Mem) (h a n : Int) (k : Nat) : Mem := ⟨m.words.set a.toNat n, m.pend, m.res.mapIdx fun i r => if i < k ∧ (i : Int) ≠ h ∧ r = a then -1 else r⟩
theorem arrK_zero (m : Mem) (h a n : Int) : arrK m h a n 0 = { m with words := m.words.set a.toNat n } := by
  unfold arrK
  congr 1
  apply List.ext_getElem?
  intro i
  rw [List.getElem?_mapIdx]
  cases m.res[i]? with
  | none => rfl
  | some r => simp
theorem arrK_all (m : Mem) (h a n : Int) {k : Nat} (hk : m.res.length ≤ k) : arrK m h a n k = arr m h a n := by
  unfold arrK arr
  congr 1
  apply List.ext_getElem?
  intro i
  rw [List.getElem?_mapIdx, List.getElem?_mapIdx]
  by_cases hi : i < m.res.length
  · rw [List.getElem?_eq_getElem hi]
    simp [show i < k by omega]
  · rw [List.getElem?_eq_none (by omega)]
    rfl
theorem arrK_get (m : Mem) (h a n : Int) (k : Nat) : (arrK m h a n k).res[k]? = m.res[k]? := by
  unfold arrK
  simp only [List.getElem?_mapIdx]
  cases m.res[k]? with
  | none => rfl
  | some r => simp
theorem arrK_no (m : Mem) (h a n : Int) {k : Nat} {r : Int} (hr : m.res[k]? = some r) (hc : ¬ ((k : Int) ≠ h ∧ r = a)) : arrK m h a n (k + 1) = arrK m h a n k := by
  unfold arrK
  congr 1
  apply List.ext_getElem?
  intro i
  rw [List.getElem?_mapIdx, List.getElem?_mapIdx]
  by_cases hi : i = k
  · subst hi
    rw [hr]
    simp
    intro h1 h2
    exact absurd ⟨h1, h2⟩ hc
  · have : i < k + 1 ↔ i < k := by omega
    simp only [this]
theorem arrK_yes (m : Mem) (h a n : Int) {k : Nat} {r : Int} (hr : m.res[k]? = some r) (hc : (k : Int) ≠ h ∧ r = a) : arrK m h a n (k + 1) = { arrK m h a n k with res := (arrK m h a n k).res.set k (-1) } := by
  unfold arrK
  congr 1
  apply List.ext_getElem?
  intro i
  simp only [List.getElem?_mapIdx, List.getElem?_set, List.length_mapIdx]
  have hlt := (List.getElem?_eq_some_iff.1 hr).1
  by_cases hi : i = k
  · subst hi
    rw [hr]
    simp [hc.1, hc.2, hlt]
  · have : i < k + 1 ↔ i < k := by omega
    simp only [this]
    rw [if_neg (fun c => hi c.symm)]
theorem arrK_len (m : Mem) (h a n : Int) (k : Nat) : (arrK m h a n k).res.length = m.res.length := by
  unfold arrK
  simp
set_option maxRecDepth 100000 in
theorem arrive_any {w : World} {base : Nat} {v : Mv} {m : Mem} (hm : MemAt base w v m) (ho : Ok m) {a : Nat} {h : Int} (hw : isW m a = true) (hh : isH m h = true) (n : Int) :
    Calls Try.prog 39 #[.agg #[.slice v.w.p v.w.n v.w.c, .slice v.p.p v.p.n v.p.c, .slice v.r.p v.r.n v.r.c], .int .i64 h, .int .i64 (a : Int), .int .i64 n] w fun e w' => e = .returned (.tuple #[]) ∧ MemAt base w' v (arr m h a n) ∧ Ivg base w w' := by
  obtain ⟨⟨wp, wn, wc⟩, ⟨pp, pn, pc⟩, ⟨rp, rn, rc⟩, rows⟩ := v
  have hrn : rn = m.res.length := hm.rs.n
  simp only
  obtain ⟨bw, csw, e1, _, hgw, hle1, hlt1, hcw, hfw⟩ := hm.word hw
  obtain ⟨hN, rfl⟩ : ∃ hN : Nat, h = hN := ⟨h.toNat, by have := isH_iff.1 hh; omega⟩
  obtain ⟨br, csr, e2, _, hgr, hle2, hlt2, _, _⟩ := hm.resv ho hh
  simp only at e1 e2 hle1 hle2 hlt1 hlt2
  subst e1 e2
  obtain ⟨hb1, hx1⟩ := box1 w #[.slice (some ⟨bw, 0, none⟩) wn wc, .slice pp pn pc, .slice (some ⟨br, 0, none⟩) rn rc] 27
  have HM := Lib.hid (hm.bel hb1)
  have HM0 := Lib.hid hm
  have HO := Lib.hid ho
  have HW := Lib.hid hw
  have HRN := Lib.hid hrn
  have HAL : Hid (a < m.words.length) := Lib.hid (by have := isW_iff.1 hw; omega)
  clear hrn
  go_enter Try.func39, Try.ntmps39
  go_upto_region 1 with (fail)
  generalize hW1 : w.alloc (.cells #[.slice (some ⟨bw, 0, none⟩) wn wc, .slice pp pn pc, .slice (some ⟨br, 0, none⟩) rn rc] 27) = W1 at hb1 hx1 HM ⊢
  clear hW1
  generalize w.heap.size = g at hx1 ⊢
  have HX1 := Lib.hid hx1
  have HB := Lib.hid hb1
  have k0 := cell_of_heap hx1 0
  have k1 := cell_of_heap hx1 1
  have k2 := cell_of_heap hx1 2
  simp only [List.getElem?_toArray, List.getElem?_cons_zero, List.getElem?_cons_succ] at k0 k1 k2
  clear hx1 hb1 hgw hgr hcw hfw hm ho hw hh
  go_upto_region 3 with (go_at_call 29; ((with_reducible refine (isWord_lit HM0.out HW.out _).mono ?_); rintro e w2 ⟨rfl, hb2⟩; have HB2 := Lib.hid hb2; have HX2 := Lib.hid (hb2.stays HX1.out); have hx2 := HX2.out; have k0 := cell_of_heap hx2 0; have k1 := cell_of_heap hx2 1; have k2 := cell_of_heap hx2 2; simp only [List.getElem?_toArray, List.getElem?_cons_zero, List.getElem?_cons_succ] at k0 k1 k2; have HM2 := Lib.hid (HM.out.bel hb2); obtain ⟨bw', csw, ew, hbw, hgw, _, _, hcw, hfw⟩ := HM2.out.word HW.out; injection ew with ew; injection ew with ew; subst ew; have HGW := Lib.hid hgw; have HBW := Lib.hid hbw; clear hx2 hb2 hgw hbw))
  have hs3 : Ivg base w2 (w2.setCell ⟨bw, a, none⟩ (.int .i64 n)) := setInt_ivg HBW.out HGW.out _ _
  have hm3 : MemAt base (w2.setCell ⟨bw, a, none⟩ (.int .i64 n)) ⟨⟨some ⟨bw, 0, none⟩, wn, wc⟩, ⟨pp, pn, pc⟩, ⟨some ⟨br, 0, none⟩, rn, rc⟩, rows⟩ (arrK m hN a n 0) := by
    rw [arrK_zero]
    exact HM2.out.setW rfl HAL.out n
  have hx3 := hs3.stays HX2.out (by decide)
  have hi3 : Ivg base w (w2.setCell ⟨bw, a, none⟩ (.int .i64 n)) := ((HB.out.trans HB2.out).ivg base).trans hs3
  generalize w2.setCell ⟨bw, a, none⟩ (.int .i64 n) = W3 at hs3 hm3 hx3 hi3 ⊢
  clear hs3 k0 k1 k2 hcw hfw
  have k0 := cell_of_heap hx3 0
  have k1 := cell_of_heap hx3 1
  have k2 := cell_of_heap hx3 2
  simp only [List.getElem?_toArray, List.getElem?_cons_zero, List.getElem?_cons_succ] at k0 k1 k2
  have HM3 := Lib.hid hm3
  have HX3 := Lib.hid hx3
  have HI3 := Lib.hid hi3
  clear HM HM2 HX1 HX2 HB HB2 HGW HM0 HW hm3 hx3 hi3
  have h4 : rn ≤ 4 := by have := HRN.out; have := HO.out.p4; have := HO.out.pr; omega
  go_wp2
  clear k0 k1 k2
  go_loopw [22] (fun i wr => ∃ (k : Nat), k ≤ rn ∧ i = .int .i64 k ∧ Hid (wr.heap[g]? = some (.cells #[.slice (some ⟨bw, 0, none⟩) wn wc, .slice pp pn pc, .slice (some ⟨br, 0, none⟩) rn rc] 27 (0, 0))) ∧ Hid (MemAt base wr ⟨⟨some ⟨bw, 0, none⟩, wn, wc⟩, ⟨pp, pn, pc⟩, ⟨some ⟨br, 0, none⟩, rn, rc⟩, rows⟩ (arrK m hN a n k)) ∧ Hid (Ivg base w wr)) (fun i _ => rn - (intOf i).toNat)
  case atStart => exact ⟨0, Nat.zero_le _, rfl, HX3, HM3, HI3⟩
  case round =>
    clear HX3 HM3 HI3
    obtain ⟨k, hk, rfl, HX3, HM3, HI3⟩ := hrel
    by_cases hlt : k < rn
    · obtain ⟨r, hr⟩ : ∃ r, m.res[k]? = some r := ⟨_, List.getElem?_eq_getElem (by have := HRN.out; omega)⟩
      have hr2 : (arrK m hN a n k).res[k]? = some r := by rw [arrK_get]; exact hr
      obtain ⟨br', csr, er, hbr, hgr, _, _, hcr, hfr⟩ := ERow.at1 (enc := encI) (fun _ => rfl) HM3.out.rs hr2 rfl
      simp only at er
      injection er with er
      injection er with er
      subst er
      have hlt3 : (k : Int) < rn := by omega
      have HGR := Lib.hid hgr
      have HBR := Lib.hid hbr
      have HR := Lib.hid hr
      have k2 := cell_of_heap HX3.out 2
      simp only [List.getElem?_toArray, List.getElem?_cons_zero, List.getElem?_cons_succ] at k2
      clear hr hr2 hgr hbr
      by_cases h1 : k = hN
      · have HS := Lib.hid (arrK_no m hN a n HR.out (fun c => c.1 (by rw [h1])))
        have e1 : ((k : Int) != (hN : Int)) = false := by simp [h1]
        clear h1
        go_wp2
        exact ⟨⟨k + 1, by omega, by go_num, HX3, by rw [HS.out]; exact HM3, HI3⟩, by simp [intOf]; omega⟩
      · by_cases h2 : r = (a : Int)
        · have HS := Lib.hid (arrK_yes m hN a n HR.out ⟨by omega, h2⟩)
          have e1 : ((k : Int) != (hN : Int)) = true := by simp; omega
          subst h2
          clear h1
          go_wp2
          have hs4 : Ivg base wr (wr.setCell ⟨br, k, none⟩ (.int .i64 (-1))) := setInt_ivg HBR.out HGR.out _ _
          exact ⟨⟨k + 1, by omega, by go_num, Lib.hid (hs4.stays HX3.out (by decide)), by rw [HS.out]; exact Lib.hid (HM3.out.setRs rfl (by rw [arrK_len]; have := HRN.out; omega) (-1)), Lib.hid (HI3.out.trans hs4)⟩, by simp [intOf]; omega⟩
        · have HS := Lib.hid (arrK_no m hN a n HR.out (fun c => h2 c.2))
          have e1 : ((k : Int) != (hN : Int)) = true := by simp; omega
          have e2 : (r == (a : Int)) = false := beq_eq_false_iff_ne.2 h2
          clear h1 h2
          go_wp2
          exact ⟨⟨k + 1, by omega, by go_num, HX3, by rw [HS.out]; exact HM3, HI3⟩, by simp [intOf]; omega⟩
    · go_wp2
      go_end0
      refine ⟨rfl, ?_, HI3.out⟩
      rw [← arrK_all m hN a n (k := k) (by have := HRN.out; omega)]
      exact HM3.out
end Go.Proofs.Ytobpoghophhphaa
