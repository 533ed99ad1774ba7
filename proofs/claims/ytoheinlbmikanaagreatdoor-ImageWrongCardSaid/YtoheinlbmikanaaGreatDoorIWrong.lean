/- What may not be is refused: the law ImageWrong, walked. -/
import Derived.Test.YtoheinlbmikanaaGreatDoorIFit
import Derived.Test.YtoheinlbmikanaaGreatDoorIAwk2
import Derived.Test.YtoheinlbmikanaaGreatDoorIFind
import Derived.Test.YtoheinlbmikanaaGreatDoorIWrongS
namespace Go.Proofs.YtoheinlbmikanaaGreatDoor
open Go.RowKit Im
set_option linter.unusedVariables false
theorem wf_app {α : Type} {P : α → Prop} {l : List α} {y : α} (h : ∀ x ∈ l, P x) (hy : P y) : ∀ x ∈ l ++ [y], P x := by
  intro x hx
  rcases List.mem_append.1 hx with hx | hx
  · exact h x hx
  · obtain rfl := List.mem_singleton.1 hx
    exact hy
set_option maxRecDepth 100000 in
set_option maxHeartbeats 8000000 in
theorem imageWrong_any {wp sp : Option Addr} {wc sc : Nat} {raw : Img} {what by' : Int} (w : World) (H : Hid (ImgAt w wp sp raw)) (hL : LibAt w) (hw : inInt what) (hb' : inInt by') :
    Calls Tryz.prog 8 #[imgV wp sp wc sc raw, .int .i64 what, .int .i64 by'] w fun e w' => e = .returned (.bool true) ∧ Bel w w' := by
  have HL := Lib.hid hL
  have HW := Lib.hid hw
  have HBY := Lib.hid hb'
  obtain ⟨pv, hpv⟩ : ∃ v, pick by' 1000 = v := ⟨_, rfl⟩
  obtain ⟨p1, p2⟩ := pick_bd by' (n := 1000) (by decide)
  rw [hpv] at p1 p2
  obtain ⟨kv, hkv⟩ : ∃ v, pick what 6 = v := ⟨_, rfl⟩
  obtain ⟨k1, k2⟩ := pick_bd what (n := 6) (by decide)
  rw [hkv] at k1 k2
  have HPV := Lib.hid hpv
  have HKV := Lib.hid hkv
  have HK12 : Hid (0 ≤ kv ∧ kv < 6) := Lib.hid ⟨k1, k2⟩
  have vn : IntKind.i64.wrap (1 + pv) = 1 + pv := IntWalk.i64_in _ (by constructor <;> omega)
  clear hL hw hb' hpv hkv k1 k2
  go_enter Tryz.func8, Tryz.ntmps8
  go_wp2_with fail
  have hb0 := (Bel.refl w).alloc (boxV wp sp wc sc raw) 25
  have hx0 := heap_alloc_new w (.cells (boxV wp sp wc sc raw) 25)
  have hlo : w.heap.size < (w.alloc (.cells (boxV wp sp wc sc raw) 25)).heap.size := lt_of_heap hx0
  generalize w.alloc (.cells (boxV wp sp wc sc raw) 25) = W0 at hb0 hx0 hlo ⊢
  generalize w.heap.size = bx at hx0 hlo ⊢
  have HB := Lib.hid hb0
  have HX0 := Lib.hid hx0
  clear hb0 hx0 hlo
  refine (awake_any _ (HL.out.bel HB.out)).mono ?_
  rintro e w1 ⟨rfl, hb⟩
  have HB := Lib.hid (HB.out.trans hb)
  have HX0 := Lib.hid (hb.stays HX0.out)
  clear hb
  have c0 : w1.cell? ⟨bx, 0, none⟩ = some (.slice wp raw.words.length wc) := cell_of_heap HX0.out 0
  have c1 : w1.cell? ⟨bx, 1, none⟩ = some (.int .i64 raw.mem) := cell_of_heap HX0.out 1
  have c2 : w1.cell? ⟨bx, 2, none⟩ = some (.slice sp raw.syms.length sc) := cell_of_heap HX0.out 2
  go_wp2_with fail
  refine (fit_own (wp := wp) (sp := sp) (wc := wc) (sc := sc) _ (Lib.hid (H.out.bel HB.out))).mono ?_
  rintro e w2 ⟨hb, p, q, c, d, rfl, hI, hEW, hES⟩
  have HB2 := Lib.hid hb
  have HX2 := Lib.hid (hb.stays HX0.out)
  clear hb c0 c1 c2
  have hr := fit_right raw
  generalize fitV raw = m at hI hEW hES hr ⊢
  have HI := Lib.hid hI
  have HR := Lib.hid hr
  have HEW := Lib.hid hEW
  have HES := Lib.hid hES
  clear hI hEW hES hr
  go_wp2_with fail
  have hb3 := (Bel.refl w2).alloc (boxV p q c d m) 25
  have hx3 := heap_alloc_new w2 (.cells (boxV p q c d m) 25)
  generalize w2.alloc (.cells (boxV p q c d m) 25) = W3 at hb3 hx3 ⊢
  have hst : FitSt w1 bx w2.heap.size (boxV wp sp wc sc raw) m.mem (.slice p m.words.length c) m.words (.slice q m.syms.length d) m.syms W3 :=
    ⟨HB2.out.trans hb3, hb3.stays HX2.out, hx3, HEW.out.bel hb3, HES.out.bel hb3, Nat.ne_of_lt (lt_of_heap HX2.out), HB2.out.size⟩
  generalize w2.heap.size = b8 at hx3 hst ⊢
  have HI := Lib.hid (HI.out.bel hb3)
  have HST := Lib.hid hst
  clear hb3 hx3 hst
  refine (pick_lit HPV.out HBY.out (by decide) _).mono ?_
  rintro e w4 ⟨rfl, rfl⟩
  go_wp2_with fail
  refine (pick_lit HKV.out HW.out (by decide) _).mono ?_
  rintro e w5 ⟨rfl, rfl⟩
  have hk6 : kv = 0 ∨ kv = 1 ∨ kv = 2 ∨ kv = 3 ∨ kv = 4 ∨ kv = 5 := by have := HK12.out; omega
  clear HKV HK12 HPV HX0 HB2 HX2 HEW HES
  have hwl : m.words.length ≤ 65536 := (right_parts HR.out).1
  have hsl : m.syms.length ≤ 1000 := (right_parts HR.out).2.1
  have HRP := Lib.hid (right_parts HR.out)
  have HF := Lib.hid HST.out
  rcases hk6 with rfl | rfl | rfl | rfl | rfl | rfl
  · obtain ⟨v', W2, hrun, hc, hf, ⟨p', c', rfl⟩, hall, hF⟩ := HST.out.word (4294967296 + (1 + pv)) (by omega)
    have HRUN := Lib.hid hrun
    have hE := (erow_at (enc := icell) (k := 1) (fun _ => rfl) hF.ws).1
    have hS := (erow_at (enc := scell) (k := 2) (fun _ => rfl) hF.ss).1
    obtain ⟨m', hm'⟩ : ∃ x : Img, (⟨m.words ++ [4294967296 + (1 + pv)], m.mem, m.syms⟩ : Img) = x := ⟨_, rfl⟩
    have hlw : m'.words.length = m.words.length + 1 := by subst hm'; first | rfl | simp
    have hls : m'.syms.length = m.syms.length := by subst hm'; first | rfl | simp
    have hme : m'.mem = m.mem := by subst hm'; rfl
    have HRF : Hid (right m' = false) := Lib.hid (by rw [← hm']; exact wrong0 m (n := 1 + pv) (by omega))
    have HT : Hid (Bel w (W2.setCell ⟨b8, 0, none⟩ (.slice p' (m.words.length + 1) c')) ∧ (W2.setCell ⟨b8, 0, none⟩ (.slice p' (m.words.length + 1) c')).heap[b8]? = some (.cells (boxV p' q c' d m') 25 (0, 0)) ∧ ImgAt (W2.setCell ⟨b8, 0, none⟩ (.slice p' (m.words.length + 1) c')) p' q m') := Lib.hid ⟨HB.out.trans hF.bel, by
      show _ = some (Obj.cells #[.slice p' m'.words.length c', .int .i64 m'.mem, .slice q m'.syms.length d] 25 (0, 0))
      rw [hlw, hls, hme]
      exact hF.hb3, by
      subst hm'
      exact ⟨hE, hS, wf_app HI.out.wfw ⟨by omega, by omega⟩, HI.out.wfs, HI.out.mem, by simp; omega, by simp; omega⟩⟩
    have x0 : W3.cell? ⟨b8, 0, none⟩ = some (.slice p m.words.length c) := cell_of_heap HST.out.hb3 0
    have v1 : IntKind.i64.wrap (4294967296 + (1 + pv)) = 4294967296 + (1 + pv) := IntWalk.i64_in _ (by constructor <;> omega)
    clear hrun hE hS hall hF hm' hlw hls hme HF HST HI HRP
    have q0 : (W2.setCell ⟨b8, 0, none⟩ (.slice p' (m.words.length + 1) c')).cell? ⟨b8, 0, none⟩ = some (.slice p' m'.words.length c') := cell_of_heap HT.out.2.1 0
    have q1 : (W2.setCell ⟨b8, 0, none⟩ (.slice p' (m.words.length + 1) c')).cell? ⟨b8, 1, none⟩ = some (.int .i64 m'.mem) := cell_of_heap HT.out.2.1 1
    have q2 : (W2.setCell ⟨b8, 0, none⟩ (.slice p' (m.words.length + 1) c')).cell? ⟨b8, 2, none⟩ = some (.slice q m'.syms.length d) := cell_of_heap HT.out.2.1 2
    go_wp2_with (at_builtin; refine wpList_app rfl (.tmp 29) (.tmp 32) 22 rfl _ _ _ (by rfl) (by rfl) HRUN.out ?_)
    refine (print_no (wp := p') (sp := q) (wc := c') (sc := d) (m := m') HRF.out _ (Lib.hid HT.out.2.2)).mono ?_
    rintro e X1 ⟨rfl, hb⟩
    have HT : Hid (Bel w X1 ∧ X1.heap[b8]? = some (.cells (boxV p' q c' d m') 25 (0, 0)) ∧ ImgAt X1 p' q m') := Lib.hid ⟨HT.out.1.trans hb, hb.stays HT.out.2.1, HT.out.2.2.bel hb⟩
    clear hb q0 q1 q2
    have q0 : X1.cell? ⟨b8, 0, none⟩ = some (.slice p' m'.words.length c') := cell_of_heap HT.out.2.1 0
    have q1 : X1.cell? ⟨b8, 1, none⟩ = some (.int .i64 m'.mem) := cell_of_heap HT.out.2.1 1
    have q2 : X1.cell? ⟨b8, 2, none⟩ = some (.slice q m'.syms.length d) := cell_of_heap HT.out.2.1 2
    go_wp2_with fail
    refine (right_lit (wp := p') (sp := q) (wc := c') (sc := d) (m := m') HRF.out _ (Lib.hid HT.out.2.2)).mono ?_
    rintro e X2 ⟨rfl, hb⟩
    have HT : Hid (Bel w X2 ∧ X2.heap[b8]? = some (.cells (boxV p' q c' d m') 25 (0, 0)) ∧ ImgAt X2 p' q m') := Lib.hid ⟨HT.out.1.trans hb, hb.stays HT.out.2.1, HT.out.2.2.bel hb⟩
    clear hb q0 q1 q2
    have q0 : X2.cell? ⟨b8, 0, none⟩ = some (.slice p' m'.words.length c') := cell_of_heap HT.out.2.1 0
    have q1 : X2.cell? ⟨b8, 1, none⟩ = some (.int .i64 m'.mem) := cell_of_heap HT.out.2.1 1
    have q2 : X2.cell? ⟨b8, 2, none⟩ = some (.slice q m'.syms.length d) := cell_of_heap HT.out.2.1 2
    go_wp2_with fail
    refine (sum_no (wp := p') (sp := q) (wc := c') (sc := d) (m := m') HRF.out _ (Lib.hid HT.out.2.2)).mono ?_
    rintro e X3 ⟨rfl, hb⟩
    have HT : Hid (Bel w X3 ∧ X3.heap[b8]? = some (.cells (boxV p' q c' d m') 25 (0, 0)) ∧ ImgAt X3 p' q m') := Lib.hid ⟨HT.out.1.trans hb, hb.stays HT.out.2.1, HT.out.2.2.bel hb⟩
    clear hb q0 q1 q2
    have q0 : X3.cell? ⟨b8, 0, none⟩ = some (.slice p' m'.words.length c') := cell_of_heap HT.out.2.1 0
    have q1 : X3.cell? ⟨b8, 1, none⟩ = some (.int .i64 m'.mem) := cell_of_heap HT.out.2.1 1
    have q2 : X3.cell? ⟨b8, 2, none⟩ = some (.slice q m'.syms.length d) := cell_of_heap HT.out.2.1 2
    go_wp2_with fail
    refine (find_no (wp := p') (sp := q) (wc := c') (sc := d) (m := m') HRF.out _ (Lib.hid HT.out.2.2)).mono ?_
    rintro e X4 ⟨rfl, hb⟩
    have HT : Hid (Bel w X4 ∧ X4.heap[b8]? = some (.cells (boxV p' q c' d m') 25 (0, 0)) ∧ ImgAt X4 p' q m') := Lib.hid ⟨HT.out.1.trans hb, hb.stays HT.out.2.1, HT.out.2.2.bel hb⟩
    clear hb q0 q1 q2
    go_wp2_with fail
    go_ret
    exact ⟨rfl, HT.out.1⟩
  · obtain ⟨v', W2, hrun, hc, hf, ⟨p', c', rfl⟩, hall, hF⟩ := HST.out.word (-(1 + pv)) (by omega)
    have HRUN := Lib.hid hrun
    have hE := (erow_at (enc := icell) (k := 1) (fun _ => rfl) hF.ws).1
    have hS := (erow_at (enc := scell) (k := 2) (fun _ => rfl) hF.ss).1
    obtain ⟨m', hm'⟩ : ∃ x : Img, (⟨m.words ++ [-(1 + pv)], m.mem, m.syms⟩ : Img) = x := ⟨_, rfl⟩
    have hlw : m'.words.length = m.words.length + 1 := by subst hm'; first | rfl | simp
    have hls : m'.syms.length = m.syms.length := by subst hm'; first | rfl | simp
    have hme : m'.mem = m.mem := by subst hm'; rfl
    have HRF : Hid (right m' = false) := Lib.hid (by rw [← hm']; exact wrong1 m (n := 1 + pv) (by omega))
    have HT : Hid (Bel w (W2.setCell ⟨b8, 0, none⟩ (.slice p' (m.words.length + 1) c')) ∧ (W2.setCell ⟨b8, 0, none⟩ (.slice p' (m.words.length + 1) c')).heap[b8]? = some (.cells (boxV p' q c' d m') 25 (0, 0)) ∧ ImgAt (W2.setCell ⟨b8, 0, none⟩ (.slice p' (m.words.length + 1) c')) p' q m') := Lib.hid ⟨HB.out.trans hF.bel, by
      show _ = some (Obj.cells #[.slice p' m'.words.length c', .int .i64 m'.mem, .slice q m'.syms.length d] 25 (0, 0))
      rw [hlw, hls, hme]
      exact hF.hb3, by
      subst hm'
      exact ⟨hE, hS, wf_app HI.out.wfw ⟨by omega, by omega⟩, HI.out.wfs, HI.out.mem, by simp; omega, by simp; omega⟩⟩
    have x0 : W3.cell? ⟨b8, 0, none⟩ = some (.slice p m.words.length c) := cell_of_heap HST.out.hb3 0
    have v1 : IntKind.i64.wrap (-(1 + pv)) = -(1 + pv) := IntWalk.i64_in _ (by constructor <;> omega)
    clear hrun hE hS hall hF hm' hlw hls hme HF HST HI HRP
    have q0 : (W2.setCell ⟨b8, 0, none⟩ (.slice p' (m.words.length + 1) c')).cell? ⟨b8, 0, none⟩ = some (.slice p' m'.words.length c') := cell_of_heap HT.out.2.1 0
    have q1 : (W2.setCell ⟨b8, 0, none⟩ (.slice p' (m.words.length + 1) c')).cell? ⟨b8, 1, none⟩ = some (.int .i64 m'.mem) := cell_of_heap HT.out.2.1 1
    have q2 : (W2.setCell ⟨b8, 0, none⟩ (.slice p' (m.words.length + 1) c')).cell? ⟨b8, 2, none⟩ = some (.slice q m'.syms.length d) := cell_of_heap HT.out.2.1 2
    go_wp2_with (at_builtin; refine wpList_app rfl (.tmp 38) (.tmp 41) 22 rfl _ _ _ (by rfl) (by rfl) HRUN.out ?_)
    refine (print_no (wp := p') (sp := q) (wc := c') (sc := d) (m := m') HRF.out _ (Lib.hid HT.out.2.2)).mono ?_
    rintro e X1 ⟨rfl, hb⟩
    have HT : Hid (Bel w X1 ∧ X1.heap[b8]? = some (.cells (boxV p' q c' d m') 25 (0, 0)) ∧ ImgAt X1 p' q m') := Lib.hid ⟨HT.out.1.trans hb, hb.stays HT.out.2.1, HT.out.2.2.bel hb⟩
    clear hb q0 q1 q2
    have q0 : X1.cell? ⟨b8, 0, none⟩ = some (.slice p' m'.words.length c') := cell_of_heap HT.out.2.1 0
    have q1 : X1.cell? ⟨b8, 1, none⟩ = some (.int .i64 m'.mem) := cell_of_heap HT.out.2.1 1
    have q2 : X1.cell? ⟨b8, 2, none⟩ = some (.slice q m'.syms.length d) := cell_of_heap HT.out.2.1 2
    go_wp2_with fail
    refine (right_lit (wp := p') (sp := q) (wc := c') (sc := d) (m := m') HRF.out _ (Lib.hid HT.out.2.2)).mono ?_
    rintro e X2 ⟨rfl, hb⟩
    have HT : Hid (Bel w X2 ∧ X2.heap[b8]? = some (.cells (boxV p' q c' d m') 25 (0, 0)) ∧ ImgAt X2 p' q m') := Lib.hid ⟨HT.out.1.trans hb, hb.stays HT.out.2.1, HT.out.2.2.bel hb⟩
    clear hb q0 q1 q2
    have q0 : X2.cell? ⟨b8, 0, none⟩ = some (.slice p' m'.words.length c') := cell_of_heap HT.out.2.1 0
    have q1 : X2.cell? ⟨b8, 1, none⟩ = some (.int .i64 m'.mem) := cell_of_heap HT.out.2.1 1
    have q2 : X2.cell? ⟨b8, 2, none⟩ = some (.slice q m'.syms.length d) := cell_of_heap HT.out.2.1 2
    go_wp2_with fail
    refine (sum_no (wp := p') (sp := q) (wc := c') (sc := d) (m := m') HRF.out _ (Lib.hid HT.out.2.2)).mono ?_
    rintro e X3 ⟨rfl, hb⟩
    have HT : Hid (Bel w X3 ∧ X3.heap[b8]? = some (.cells (boxV p' q c' d m') 25 (0, 0)) ∧ ImgAt X3 p' q m') := Lib.hid ⟨HT.out.1.trans hb, hb.stays HT.out.2.1, HT.out.2.2.bel hb⟩
    clear hb q0 q1 q2
    have q0 : X3.cell? ⟨b8, 0, none⟩ = some (.slice p' m'.words.length c') := cell_of_heap HT.out.2.1 0
    have q1 : X3.cell? ⟨b8, 1, none⟩ = some (.int .i64 m'.mem) := cell_of_heap HT.out.2.1 1
    have q2 : X3.cell? ⟨b8, 2, none⟩ = some (.slice q m'.syms.length d) := cell_of_heap HT.out.2.1 2
    go_wp2_with fail
    refine (find_no (wp := p') (sp := q) (wc := c') (sc := d) (m := m') HRF.out _ (Lib.hid HT.out.2.2)).mono ?_
    rintro e X4 ⟨rfl, hb⟩
    have HT : Hid (Bel w X4 ∧ X4.heap[b8]? = some (.cells (boxV p' q c' d m') 25 (0, 0)) ∧ ImgAt X4 p' q m') := Lib.hid ⟨HT.out.1.trans hb, hb.stays HT.out.2.1, HT.out.2.2.bel hb⟩
    clear hb q0 q1 q2
    go_wp2_with fail
    go_ret
    exact ⟨rfl, HT.out.1⟩
  · have hnw := (erow_at (enc := icell) (k := 1) (fun _ => rfl) HST.out.ws).2 HST.out.hb3 (by decide)
    have hns := (erow_at (enc := scell) (k := 2) (fun _ => rfl) HST.out.ss).2 HST.out.hb3 (by decide)
    have hI2 := HI.out.set hnw hns (i := 1) (.int .i64 (4096 + (1 + pv)))
    obtain ⟨m', hm'⟩ : ∃ x : Img, (⟨m.words, 4096 + (1 + pv), m.syms⟩ : Img) = x := ⟨_, rfl⟩
    have hlw : m'.words.length = m.words.length := by subst hm'; first | rfl | simp
    have hls : m'.syms.length = m.syms.length := by subst hm'; first | rfl | simp
    have hme : m'.mem = 4096 + (1 + pv) := by subst hm'; rfl
    have HRF : Hid (right m' = false) := Lib.hid (by rw [← hm']; exact wrong2 m (n := 1 + pv) (by omega))
    have HT : Hid (Bel w (W3.setCell ⟨b8, 1, none⟩ (.int .i64 (4096 + (1 + pv)))) ∧ (W3.setCell ⟨b8, 1, none⟩ (.int .i64 (4096 + (1 + pv)))).heap[b8]? = some (.cells (boxV p q c d m') 25 (0, 0)) ∧ ImgAt (W3.setCell ⟨b8, 1, none⟩ (.int .i64 (4096 + (1 + pv)))) p q m') := Lib.hid ⟨HB.out.trans (HST.out.bel.setCell (p := ⟨b8, 1, none⟩) HST.out.lo _), by
      show _ = some (Obj.cells #[.slice p m'.words.length c, .int .i64 m'.mem, .slice q m'.syms.length d] 25 (0, 0))
      rw [hlw, hls, hme]
      exact heap_set_b3 HST.out.hb3 1 _, by
      subst hm'
      exact ⟨hI2.words, hI2.syms, hI2.wfw, hI2.wfs, ⟨by show _ ≤ (4096 + (1 + pv) : Int); omega, by show (4096 + (1 + pv) : Int) ≤ _; omega⟩, hI2.lw, hI2.ls⟩⟩
    have x1 : W3.cell? ⟨b8, 1, none⟩ = some (.int .i64 m.mem) := cell_of_heap HST.out.hb3 1
    have x2 : W3.frozen? ⟨b8, 1, none⟩ = false := frozen_of_heap HST.out.hb3 1
    have v1 : IntKind.i64.wrap (4096 + (1 + pv)) = 4096 + (1 + pv) := IntWalk.i64_in _ (by constructor <;> omega)
    clear hnw hns hI2 hm' hlw hls hme HF HST HI HRP
    have q0 : (W3.setCell ⟨b8, 1, none⟩ (.int .i64 (4096 + (1 + pv)))).cell? ⟨b8, 0, none⟩ = some (.slice p m'.words.length c) := cell_of_heap HT.out.2.1 0
    have q1 : (W3.setCell ⟨b8, 1, none⟩ (.int .i64 (4096 + (1 + pv)))).cell? ⟨b8, 1, none⟩ = some (.int .i64 m'.mem) := cell_of_heap HT.out.2.1 1
    have q2 : (W3.setCell ⟨b8, 1, none⟩ (.int .i64 (4096 + (1 + pv)))).cell? ⟨b8, 2, none⟩ = some (.slice q m'.syms.length d) := cell_of_heap HT.out.2.1 2
    go_wp2_with fail
    refine (print_no (wp := p) (sp := q) (wc := c) (sc := d) (m := m') HRF.out _ (Lib.hid HT.out.2.2)).mono ?_
    rintro e X1 ⟨rfl, hb⟩
    have HT : Hid (Bel w X1 ∧ X1.heap[b8]? = some (.cells (boxV p q c d m') 25 (0, 0)) ∧ ImgAt X1 p q m') := Lib.hid ⟨HT.out.1.trans hb, hb.stays HT.out.2.1, HT.out.2.2.bel hb⟩
    clear hb q0 q1 q2
    have q0 : X1.cell? ⟨b8, 0, none⟩ = some (.slice p m'.words.length c) := cell_of_heap HT.out.2.1 0
    have q1 : X1.cell? ⟨b8, 1, none⟩ = some (.int .i64 m'.mem) := cell_of_heap HT.out.2.1 1
    have q2 : X1.cell? ⟨b8, 2, none⟩ = some (.slice q m'.syms.length d) := cell_of_heap HT.out.2.1 2
    go_wp2_with fail
    refine (right_lit (wp := p) (sp := q) (wc := c) (sc := d) (m := m') HRF.out _ (Lib.hid HT.out.2.2)).mono ?_
    rintro e X2 ⟨rfl, hb⟩
    have HT : Hid (Bel w X2 ∧ X2.heap[b8]? = some (.cells (boxV p q c d m') 25 (0, 0)) ∧ ImgAt X2 p q m') := Lib.hid ⟨HT.out.1.trans hb, hb.stays HT.out.2.1, HT.out.2.2.bel hb⟩
    clear hb q0 q1 q2
    have q0 : X2.cell? ⟨b8, 0, none⟩ = some (.slice p m'.words.length c) := cell_of_heap HT.out.2.1 0
    have q1 : X2.cell? ⟨b8, 1, none⟩ = some (.int .i64 m'.mem) := cell_of_heap HT.out.2.1 1
    have q2 : X2.cell? ⟨b8, 2, none⟩ = some (.slice q m'.syms.length d) := cell_of_heap HT.out.2.1 2
    go_wp2_with fail
    refine (sum_no (wp := p) (sp := q) (wc := c) (sc := d) (m := m') HRF.out _ (Lib.hid HT.out.2.2)).mono ?_
    rintro e X3 ⟨rfl, hb⟩
    have HT : Hid (Bel w X3 ∧ X3.heap[b8]? = some (.cells (boxV p q c d m') 25 (0, 0)) ∧ ImgAt X3 p q m') := Lib.hid ⟨HT.out.1.trans hb, hb.stays HT.out.2.1, HT.out.2.2.bel hb⟩
    clear hb q0 q1 q2
    have q0 : X3.cell? ⟨b8, 0, none⟩ = some (.slice p m'.words.length c) := cell_of_heap HT.out.2.1 0
    have q1 : X3.cell? ⟨b8, 1, none⟩ = some (.int .i64 m'.mem) := cell_of_heap HT.out.2.1 1
    have q2 : X3.cell? ⟨b8, 2, none⟩ = some (.slice q m'.syms.length d) := cell_of_heap HT.out.2.1 2
    go_wp2_with fail
    refine (find_no (wp := p) (sp := q) (wc := c) (sc := d) (m := m') HRF.out _ (Lib.hid HT.out.2.2)).mono ?_
    rintro e X4 ⟨rfl, hb⟩
    have HT : Hid (Bel w X4 ∧ X4.heap[b8]? = some (.cells (boxV p q c d m') 25 (0, 0)) ∧ ImgAt X4 p q m') := Lib.hid ⟨HT.out.1.trans hb, hb.stays HT.out.2.1, HT.out.2.2.bel hb⟩
    clear hb q0 q1 q2
    go_wp2_with fail
    go_ret
    exact ⟨rfl, HT.out.1⟩
  · obtain ⟨v', W2, hrun, hc, hf, ⟨p', c', rfl⟩, hall, hF⟩ := HST.out.sym2 ⟨#[126]⟩ 0 ⟨#[126]⟩ 0 (by omega)
    have HRUN := Lib.hid hrun
    have hE := (erow_at (enc := icell) (k := 1) (fun _ => rfl) hF.ws).1
    have hS := (erow_at (enc := scell) (k := 2) (fun _ => rfl) hF.ss).1
    obtain ⟨m', hm'⟩ : ∃ x : Img, (⟨m.words, m.mem, m.syms ++ [⟨⟨#[126]⟩, 0⟩, ⟨⟨#[126]⟩, 0⟩]⟩ : Img) = x := ⟨_, rfl⟩
    have hlw : m'.words.length = m.words.length := by subst hm'; first | rfl | simp
    have hls : m'.syms.length = m.syms.length + 2 := by subst hm'; first | rfl | simp
    have hme : m'.mem = m.mem := by subst hm'; rfl
    have HRF : Hid (right m' = false) := Lib.hid (by rw [← hm']; exact wrong3 m)
    have hwf : (⟨⟨#[126]⟩, 0⟩ : Sym).name.size ≤ maxLen ∧ -9223372036854775808 ≤ (⟨⟨#[126]⟩, 0⟩ : Sym).place ∧ (⟨⟨#[126]⟩, 0⟩ : Sym).place ≤ 9223372036854775807 := ⟨Nat.le_trans (show (⟨#[126]⟩ : ByteArray).size ≤ 3 by decide) (by unfold maxLen; decide), by decide, by decide⟩
    have HT : Hid (Bel w (W2.setCell ⟨b8, 2, none⟩ (.slice p' (m.syms.length + 2) c')) ∧ (W2.setCell ⟨b8, 2, none⟩ (.slice p' (m.syms.length + 2) c')).heap[b8]? = some (.cells (boxV p p' c c' m') 25 (0, 0)) ∧ ImgAt (W2.setCell ⟨b8, 2, none⟩ (.slice p' (m.syms.length + 2) c')) p p' m') := Lib.hid ⟨HB.out.trans hF.bel, by
      show _ = some (Obj.cells #[.slice p m'.words.length c, .int .i64 m'.mem, .slice p' m'.syms.length c'] 25 (0, 0))
      rw [hlw, hls, hme]
      exact hF.hb3, by
      subst hm'
      exact ⟨hE, hS, HI.out.wfw, by rw [List.append_cons]; exact wf_app (wf_app HI.out.wfs hwf) hwf, HI.out.mem, by simp; omega, by simp; omega⟩⟩
    have x2 : W3.cell? ⟨b8, 2, none⟩ = some (.slice q m.syms.length d) := cell_of_heap HST.out.hb3 2
    clear hrun hE hS hall hF hm' hlw hls hme hwf HF HST HI HRP
    have q0 : (W2.setCell ⟨b8, 2, none⟩ (.slice p' (m.syms.length + 2) c')).cell? ⟨b8, 0, none⟩ = some (.slice p m'.words.length c) := cell_of_heap HT.out.2.1 0
    have q1 : (W2.setCell ⟨b8, 2, none⟩ (.slice p' (m.syms.length + 2) c')).cell? ⟨b8, 1, none⟩ = some (.int .i64 m'.mem) := cell_of_heap HT.out.2.1 1
    have q2 : (W2.setCell ⟨b8, 2, none⟩ (.slice p' (m.syms.length + 2) c')).cell? ⟨b8, 2, none⟩ = some (.slice p' m'.syms.length c') := cell_of_heap HT.out.2.1 2
    go_wp2_with (at_builtin; refine wpList_app rfl (.tmp 52) (.tmp 55) 23 rfl _ _ _ (by rfl) (by rfl) HRUN.out ?_)
    refine (print_no (wp := p) (sp := p') (wc := c) (sc := c') (m := m') HRF.out _ (Lib.hid HT.out.2.2)).mono ?_
    rintro e X1 ⟨rfl, hb⟩
    have HT : Hid (Bel w X1 ∧ X1.heap[b8]? = some (.cells (boxV p p' c c' m') 25 (0, 0)) ∧ ImgAt X1 p p' m') := Lib.hid ⟨HT.out.1.trans hb, hb.stays HT.out.2.1, HT.out.2.2.bel hb⟩
    clear hb q0 q1 q2
    have q0 : X1.cell? ⟨b8, 0, none⟩ = some (.slice p m'.words.length c) := cell_of_heap HT.out.2.1 0
    have q1 : X1.cell? ⟨b8, 1, none⟩ = some (.int .i64 m'.mem) := cell_of_heap HT.out.2.1 1
    have q2 : X1.cell? ⟨b8, 2, none⟩ = some (.slice p' m'.syms.length c') := cell_of_heap HT.out.2.1 2
    go_wp2_with fail
    refine (right_lit (wp := p) (sp := p') (wc := c) (sc := c') (m := m') HRF.out _ (Lib.hid HT.out.2.2)).mono ?_
    rintro e X2 ⟨rfl, hb⟩
    have HT : Hid (Bel w X2 ∧ X2.heap[b8]? = some (.cells (boxV p p' c c' m') 25 (0, 0)) ∧ ImgAt X2 p p' m') := Lib.hid ⟨HT.out.1.trans hb, hb.stays HT.out.2.1, HT.out.2.2.bel hb⟩
    clear hb q0 q1 q2
    have q0 : X2.cell? ⟨b8, 0, none⟩ = some (.slice p m'.words.length c) := cell_of_heap HT.out.2.1 0
    have q1 : X2.cell? ⟨b8, 1, none⟩ = some (.int .i64 m'.mem) := cell_of_heap HT.out.2.1 1
    have q2 : X2.cell? ⟨b8, 2, none⟩ = some (.slice p' m'.syms.length c') := cell_of_heap HT.out.2.1 2
    go_wp2_with fail
    refine (sum_no (wp := p) (sp := p') (wc := c) (sc := c') (m := m') HRF.out _ (Lib.hid HT.out.2.2)).mono ?_
    rintro e X3 ⟨rfl, hb⟩
    have HT : Hid (Bel w X3 ∧ X3.heap[b8]? = some (.cells (boxV p p' c c' m') 25 (0, 0)) ∧ ImgAt X3 p p' m') := Lib.hid ⟨HT.out.1.trans hb, hb.stays HT.out.2.1, HT.out.2.2.bel hb⟩
    clear hb q0 q1 q2
    have q0 : X3.cell? ⟨b8, 0, none⟩ = some (.slice p m'.words.length c) := cell_of_heap HT.out.2.1 0
    have q1 : X3.cell? ⟨b8, 1, none⟩ = some (.int .i64 m'.mem) := cell_of_heap HT.out.2.1 1
    have q2 : X3.cell? ⟨b8, 2, none⟩ = some (.slice p' m'.syms.length c') := cell_of_heap HT.out.2.1 2
    go_wp2_with fail
    refine (find_no (wp := p) (sp := p') (wc := c) (sc := c') (m := m') HRF.out _ (Lib.hid HT.out.2.2)).mono ?_
    rintro e X4 ⟨rfl, hb⟩
    have HT : Hid (Bel w X4 ∧ X4.heap[b8]? = some (.cells (boxV p p' c c' m') 25 (0, 0)) ∧ ImgAt X4 p p' m') := Lib.hid ⟨HT.out.1.trans hb, hb.stays HT.out.2.1, HT.out.2.2.bel hb⟩
    clear hb q0 q1 q2
    go_wp2_with fail
    go_ret
    exact ⟨rfl, HT.out.1⟩
  · obtain ⟨v', W2, hrun, hc, hf, ⟨p', c', rfl⟩, hall, hF⟩ := HST.out.sym ⟨#[126, 126]⟩ (4 * (m.words.length : Int) + 4 * (1 + pv)) (by omega)
    have HRUN := Lib.hid hrun
    have hE := (erow_at (enc := icell) (k := 1) (fun _ => rfl) hF.ws).1
    have hS := (erow_at (enc := scell) (k := 2) (fun _ => rfl) hF.ss).1
    obtain ⟨m', hm'⟩ : ∃ x : Img, (⟨m.words, m.mem, m.syms ++ [⟨⟨#[126, 126]⟩, 4 * (m.words.length : Int) + 4 * (1 + pv)⟩]⟩ : Img) = x := ⟨_, rfl⟩
    have hlw : m'.words.length = m.words.length := by subst hm'; first | rfl | simp
    have hls : m'.syms.length = m.syms.length + 1 := by subst hm'; first | rfl | simp
    have hme : m'.mem = m.mem := by subst hm'; rfl
    have HRF : Hid (right m' = false) := Lib.hid (by rw [← hm']; exact wrong4 m (n := 1 + pv) (by omega))
    have HT : Hid (Bel w (W2.setCell ⟨b8, 2, none⟩ (.slice p' (m.syms.length + 1) c')) ∧ (W2.setCell ⟨b8, 2, none⟩ (.slice p' (m.syms.length + 1) c')).heap[b8]? = some (.cells (boxV p p' c c' m') 25 (0, 0)) ∧ ImgAt (W2.setCell ⟨b8, 2, none⟩ (.slice p' (m.syms.length + 1) c')) p p' m') := Lib.hid ⟨HB.out.trans hF.bel, by
      show _ = some (Obj.cells #[.slice p m'.words.length c, .int .i64 m'.mem, .slice p' m'.syms.length c'] 25 (0, 0))
      rw [hlw, hls, hme]
      exact hF.hb3, by
      subst hm'
      exact ⟨hE, hS, HI.out.wfw, wf_app HI.out.wfs ⟨Nat.le_trans (show (⟨#[126, 126]⟩ : ByteArray).size ≤ 3 by decide) (by unfold maxLen; decide), by show _ ≤ (4 * (m.words.length : Int) + 4 * (1 + pv) : Int); omega, by show (4 * (m.words.length : Int) + 4 * (1 + pv) : Int) ≤ _; omega⟩, HI.out.mem, by simp; omega, by simp; omega⟩⟩
    have x2 : W3.cell? ⟨b8, 2, none⟩ = some (.slice q m.syms.length d) := cell_of_heap HST.out.hb3 2
    have x0 : W3.cell? ⟨b8, 0, none⟩ = some (.slice p m.words.length c) := cell_of_heap HST.out.hb3 0
    have v1 : IntKind.i64.wrap (4 * (m.words.length : Int)) = 4 * (m.words.length : Int) := IntWalk.i64_in _ (by constructor <;> omega)
    have v2 : IntKind.i64.wrap (4 * (1 + pv)) = 4 * (1 + pv) := IntWalk.i64_in _ (by constructor <;> omega)
    have v3 : IntKind.i64.wrap (4 * (m.words.length : Int) + 4 * (1 + pv)) = 4 * (m.words.length : Int) + 4 * (1 + pv) := IntWalk.i64_in _ (by constructor <;> omega)
    clear hrun hE hS hall hF hm' hlw hls hme HF HST HI HRP
    have q0 : (W2.setCell ⟨b8, 2, none⟩ (.slice p' (m.syms.length + 1) c')).cell? ⟨b8, 0, none⟩ = some (.slice p m'.words.length c) := cell_of_heap HT.out.2.1 0
    have q1 : (W2.setCell ⟨b8, 2, none⟩ (.slice p' (m.syms.length + 1) c')).cell? ⟨b8, 1, none⟩ = some (.int .i64 m'.mem) := cell_of_heap HT.out.2.1 1
    have q2 : (W2.setCell ⟨b8, 2, none⟩ (.slice p' (m.syms.length + 1) c')).cell? ⟨b8, 2, none⟩ = some (.slice p' m'.syms.length c') := cell_of_heap HT.out.2.1 2
    go_wp2_with (at_builtin; refine wpList_app rfl (.tmp 61) (.tmp 70) 23 rfl _ _ _ (by rfl) (by rfl) HRUN.out ?_)
    refine (print_no (wp := p) (sp := p') (wc := c) (sc := c') (m := m') HRF.out _ (Lib.hid HT.out.2.2)).mono ?_
    rintro e X1 ⟨rfl, hb⟩
    have HT : Hid (Bel w X1 ∧ X1.heap[b8]? = some (.cells (boxV p p' c c' m') 25 (0, 0)) ∧ ImgAt X1 p p' m') := Lib.hid ⟨HT.out.1.trans hb, hb.stays HT.out.2.1, HT.out.2.2.bel hb⟩
    clear hb q0 q1 q2
    have q0 : X1.cell? ⟨b8, 0, none⟩ = some (.slice p m'.words.length c) := cell_of_heap HT.out.2.1 0
    have q1 : X1.cell? ⟨b8, 1, none⟩ = some (.int .i64 m'.mem) := cell_of_heap HT.out.2.1 1
    have q2 : X1.cell? ⟨b8, 2, none⟩ = some (.slice p' m'.syms.length c') := cell_of_heap HT.out.2.1 2
    go_wp2_with fail
    refine (right_lit (wp := p) (sp := p') (wc := c) (sc := c') (m := m') HRF.out _ (Lib.hid HT.out.2.2)).mono ?_
    rintro e X2 ⟨rfl, hb⟩
    have HT : Hid (Bel w X2 ∧ X2.heap[b8]? = some (.cells (boxV p p' c c' m') 25 (0, 0)) ∧ ImgAt X2 p p' m') := Lib.hid ⟨HT.out.1.trans hb, hb.stays HT.out.2.1, HT.out.2.2.bel hb⟩
    clear hb q0 q1 q2
    have q0 : X2.cell? ⟨b8, 0, none⟩ = some (.slice p m'.words.length c) := cell_of_heap HT.out.2.1 0
    have q1 : X2.cell? ⟨b8, 1, none⟩ = some (.int .i64 m'.mem) := cell_of_heap HT.out.2.1 1
    have q2 : X2.cell? ⟨b8, 2, none⟩ = some (.slice p' m'.syms.length c') := cell_of_heap HT.out.2.1 2
    go_wp2_with fail
    refine (sum_no (wp := p) (sp := p') (wc := c) (sc := c') (m := m') HRF.out _ (Lib.hid HT.out.2.2)).mono ?_
    rintro e X3 ⟨rfl, hb⟩
    have HT : Hid (Bel w X3 ∧ X3.heap[b8]? = some (.cells (boxV p p' c c' m') 25 (0, 0)) ∧ ImgAt X3 p p' m') := Lib.hid ⟨HT.out.1.trans hb, hb.stays HT.out.2.1, HT.out.2.2.bel hb⟩
    clear hb q0 q1 q2
    have q0 : X3.cell? ⟨b8, 0, none⟩ = some (.slice p m'.words.length c) := cell_of_heap HT.out.2.1 0
    have q1 : X3.cell? ⟨b8, 1, none⟩ = some (.int .i64 m'.mem) := cell_of_heap HT.out.2.1 1
    have q2 : X3.cell? ⟨b8, 2, none⟩ = some (.slice p' m'.syms.length c') := cell_of_heap HT.out.2.1 2
    go_wp2_with fail
    refine (find_no (wp := p) (sp := p') (wc := c) (sc := c') (m := m') HRF.out _ (Lib.hid HT.out.2.2)).mono ?_
    rintro e X4 ⟨rfl, hb⟩
    have HT : Hid (Bel w X4 ∧ X4.heap[b8]? = some (.cells (boxV p p' c c' m') 25 (0, 0)) ∧ ImgAt X4 p p' m') := Lib.hid ⟨HT.out.1.trans hb, hb.stays HT.out.2.1, HT.out.2.2.bel hb⟩
    clear hb q0 q1 q2
    go_wp2_with fail
    go_ret
    exact ⟨rfl, HT.out.1⟩
  · obtain ⟨v', W2, hrun, hc, hf, ⟨p', c', rfl⟩, hall, hF⟩ := HST.out.sym ⟨#[97, 32, 98]⟩ (0) (by omega)
    have HRUN := Lib.hid hrun
    have hE := (erow_at (enc := icell) (k := 1) (fun _ => rfl) hF.ws).1
    have hS := (erow_at (enc := scell) (k := 2) (fun _ => rfl) hF.ss).1
    obtain ⟨m', hm'⟩ : ∃ x : Img, (⟨m.words, m.mem, m.syms ++ [⟨⟨#[97, 32, 98]⟩, 0⟩]⟩ : Img) = x := ⟨_, rfl⟩
    have hlw : m'.words.length = m.words.length := by subst hm'; first | rfl | simp
    have hls : m'.syms.length = m.syms.length + 1 := by subst hm'; first | rfl | simp
    have hme : m'.mem = m.mem := by subst hm'; rfl
    have HRF : Hid (right m' = false) := Lib.hid (by rw [← hm']; exact wrong5 m)
    have HT : Hid (Bel w (W2.setCell ⟨b8, 2, none⟩ (.slice p' (m.syms.length + 1) c')) ∧ (W2.setCell ⟨b8, 2, none⟩ (.slice p' (m.syms.length + 1) c')).heap[b8]? = some (.cells (boxV p p' c c' m') 25 (0, 0)) ∧ ImgAt (W2.setCell ⟨b8, 2, none⟩ (.slice p' (m.syms.length + 1) c')) p p' m') := Lib.hid ⟨HB.out.trans hF.bel, by
      show _ = some (Obj.cells #[.slice p m'.words.length c, .int .i64 m'.mem, .slice p' m'.syms.length c'] 25 (0, 0))
      rw [hlw, hls, hme]
      exact hF.hb3, by
      subst hm'
      exact ⟨hE, hS, HI.out.wfw, wf_app HI.out.wfs ⟨Nat.le_trans (show (⟨#[97, 32, 98]⟩ : ByteArray).size ≤ 3 by decide) (by unfold maxLen; decide), by show _ ≤ (0 : Int); omega, by show (0 : Int) ≤ _; omega⟩, HI.out.mem, by simp; omega, by simp; omega⟩⟩
    have x2 : W3.cell? ⟨b8, 2, none⟩ = some (.slice q m.syms.length d) := cell_of_heap HST.out.hb3 2
    clear hrun hE hS hall hF hm' hlw hls hme HF HST HI HRP
    have q0 : (W2.setCell ⟨b8, 2, none⟩ (.slice p' (m.syms.length + 1) c')).cell? ⟨b8, 0, none⟩ = some (.slice p m'.words.length c) := cell_of_heap HT.out.2.1 0
    have q1 : (W2.setCell ⟨b8, 2, none⟩ (.slice p' (m.syms.length + 1) c')).cell? ⟨b8, 1, none⟩ = some (.int .i64 m'.mem) := cell_of_heap HT.out.2.1 1
    have q2 : (W2.setCell ⟨b8, 2, none⟩ (.slice p' (m.syms.length + 1) c')).cell? ⟨b8, 2, none⟩ = some (.slice p' m'.syms.length c') := cell_of_heap HT.out.2.1 2
    go_wp2_with (at_builtin; refine wpList_app rfl (.tmp 21) (.tmp 23) 23 rfl _ _ _ (by rfl) (by rfl) HRUN.out ?_)
    refine (print_no (wp := p) (sp := p') (wc := c) (sc := c') (m := m') HRF.out _ (Lib.hid HT.out.2.2)).mono ?_
    rintro e X1 ⟨rfl, hb⟩
    have HT : Hid (Bel w X1 ∧ X1.heap[b8]? = some (.cells (boxV p p' c c' m') 25 (0, 0)) ∧ ImgAt X1 p p' m') := Lib.hid ⟨HT.out.1.trans hb, hb.stays HT.out.2.1, HT.out.2.2.bel hb⟩
    clear hb q0 q1 q2
    have q0 : X1.cell? ⟨b8, 0, none⟩ = some (.slice p m'.words.length c) := cell_of_heap HT.out.2.1 0
    have q1 : X1.cell? ⟨b8, 1, none⟩ = some (.int .i64 m'.mem) := cell_of_heap HT.out.2.1 1
    have q2 : X1.cell? ⟨b8, 2, none⟩ = some (.slice p' m'.syms.length c') := cell_of_heap HT.out.2.1 2
    go_wp2_with fail
    refine (right_lit (wp := p) (sp := p') (wc := c) (sc := c') (m := m') HRF.out _ (Lib.hid HT.out.2.2)).mono ?_
    rintro e X2 ⟨rfl, hb⟩
    have HT : Hid (Bel w X2 ∧ X2.heap[b8]? = some (.cells (boxV p p' c c' m') 25 (0, 0)) ∧ ImgAt X2 p p' m') := Lib.hid ⟨HT.out.1.trans hb, hb.stays HT.out.2.1, HT.out.2.2.bel hb⟩
    clear hb q0 q1 q2
    have q0 : X2.cell? ⟨b8, 0, none⟩ = some (.slice p m'.words.length c) := cell_of_heap HT.out.2.1 0
    have q1 : X2.cell? ⟨b8, 1, none⟩ = some (.int .i64 m'.mem) := cell_of_heap HT.out.2.1 1
    have q2 : X2.cell? ⟨b8, 2, none⟩ = some (.slice p' m'.syms.length c') := cell_of_heap HT.out.2.1 2
    go_wp2_with fail
    refine (sum_no (wp := p) (sp := p') (wc := c) (sc := c') (m := m') HRF.out _ (Lib.hid HT.out.2.2)).mono ?_
    rintro e X3 ⟨rfl, hb⟩
    have HT : Hid (Bel w X3 ∧ X3.heap[b8]? = some (.cells (boxV p p' c c' m') 25 (0, 0)) ∧ ImgAt X3 p p' m') := Lib.hid ⟨HT.out.1.trans hb, hb.stays HT.out.2.1, HT.out.2.2.bel hb⟩
    clear hb q0 q1 q2
    have q0 : X3.cell? ⟨b8, 0, none⟩ = some (.slice p m'.words.length c) := cell_of_heap HT.out.2.1 0
    have q1 : X3.cell? ⟨b8, 1, none⟩ = some (.int .i64 m'.mem) := cell_of_heap HT.out.2.1 1
    have q2 : X3.cell? ⟨b8, 2, none⟩ = some (.slice p' m'.syms.length c') := cell_of_heap HT.out.2.1 2
    go_wp2_with fail
    refine (find_no (wp := p) (sp := p') (wc := c) (sc := c') (m := m') HRF.out _ (Lib.hid HT.out.2.2)).mono ?_
    rintro e X4 ⟨rfl, hb⟩
    have HT : Hid (Bel w X4 ∧ X4.heap[b8]? = some (.cells (boxV p p' c c' m') 25 (0, 0)) ∧ ImgAt X4 p p' m') := Lib.hid ⟨HT.out.1.trans hb, hb.stays HT.out.2.1, HT.out.2.2.bel hb⟩
    clear hb q0 q1 q2
    go_wp2_with fail
    go_ret
    exact ⟨rfl, HT.out.1⟩
end Go.Proofs.YtoheinlbmikanaaGreatDoor
