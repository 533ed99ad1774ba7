/- The walk of CodeTells. -/
import Derived.Test.YtphnagkicboglaaEDec
import Derived.Test.YtphnagkicboglaaEReads
import Derived.Test.YtphnagkicboglaaCAwake
namespace Go.Proofs.Ytphnagkicboglaa
open Go.RowKit Rv
set_option linter.unusedVariables false
set_option linter.unusedSimpArgs false
theorem reads_row' {i_o i_d i_a i_b i_n : Int} {l : List Int} (hw : Ins.wf ⟨i_o, i_d, i_a, i_b, i_n⟩) (h : readsL ⟨i_o, i_d, i_a, i_b, i_n⟩ = l) (w : World) :
    Calls Try.prog 20 #[.agg #[.int .i64 i_o, .int .i64 i_d, .int .i64 i_a, .int .i64 i_b, .int .i64 i_n]] w (IntRow l w) := by
  subst h
  exact reads_is ⟨i_o, i_d, i_a, i_b, i_n⟩ w hw
theorem reads_two (i : Ins) : (readsL i).length ≤ 2 := by
  unfold readsL
  split
  · split <;> split <;> simp
  · simp
theorem five_at {p g v f1 f2 : Int} (hp : inInt p) (hg : inInt g) (hv : inInt v) (h1 : inInt f1) (h2 : inInt f2) (k : Nat) (h : k < 5) : ∃ z, inInt z ∧ (#[.int .i64 p, .int .i64 g, .int .i64 v, .int .i64 f1, .int .i64 f2] : Array Value)[k]? = some (.int .i64 z) := by
  match k, h with
  | 0, _ => exact ⟨p, hp, rfl⟩
  | 1, _ => exact ⟨g, hg, rfl⟩
  | 2, _ => exact ⟨v, hv, rfl⟩
  | 3, _ => exact ⟨f1, h1, rfl⟩
  | 4, _ => exact ⟨f2, h2, rfl⟩
theorem exec_at {o : Oper} {ρ : Operand → Value} {t : TypeId} {x y : Operand} {vx vy r : Value} (ho : o.op = .indexAddr t x y) (hx : ρ x = vx) (hy : ρ y = vy) (w : World) (h : (Instr.indexAt t vx vy).run Try.prog w = .ok r w) :
    (execOp ρ o).run Try.prog w = .ok (.value r) w := by
  unfold execOp
  simp only [ho, hx, hy, Sem.run_bind, Sem.run_pure, Result.andThen_ok, h]
theorem ins_index (b k : Nat) (h : k < 2) (w : World) : (Instr.indexAt 26 (.slice (some ⟨b, 0, none⟩) 2 2) (.int .i64 (k : Int))).run Try.prog w = .ok (.pointer (some ⟨b, k * 5, none⟩)) w := by
  match k, h with
  | 0, _ => (show _ = _; kernel_rfl)
  | 1, _ => (show _ = _; kernel_rfl)
theorem ins_at (i x : Ins) (hi : Ins.wf i) (hx : Ins.wf x) (k : Nat) (h : k < 2) : ∃ y : Ins, Ins.wf y ∧ ∀ j v, ([.int .i64 y.op, .int .i64 y.d, .int .i64 y.a, .int .i64 y.b, .int .i64 y.n] : List Value)[j]? = some v →
    (#[.int .i64 i.op, .int .i64 i.d, .int .i64 i.a, .int .i64 i.b, .int .i64 i.n, .int .i64 x.op, .int .i64 x.d, .int .i64 x.a, .int .i64 x.b, .int .i64 x.n] : Array Value)[k * 5 + j]? = some v := by
  match k, h with
  | 0, _ =>
    refine ⟨i, hi, fun j v hj => ?_⟩
    match j, hj with
    | 0, hj => exact hj
    | 1, hj => exact hj
    | 2, hj => exact hj
    | 3, hj => exact hj
    | 4, hj => exact hj
  | 1, _ =>
    refine ⟨x, hx, fun j v hj => ?_⟩
    match j, hj with
    | 0, hj => exact hj
    | 1, hj => exact hj
    | 2, hj => exact hj
    | 3, hj => exact hj
    | 4, hj => exact hj
theorem encR_val {op d a b n v u : Int} (h : encV ⟨op, d, a, b, n⟩ = v) (h' : encE ⟨op, d, a, b, n⟩ = u) (w : World) :
    Calls Try.prog 14 #[.agg #[.int .i64 op, .int .i64 d, .int .i64 a, .int .i64 b, .int .i64 n]] w fun e w' => e = .returned (.tuple #[.int .i64 v, .int .i64 u]) ∧ Both w w' := by
  subst h h'
  cases hr : right ⟨op, d, a, b, n⟩ with
  | false =>
    have e1 : encV ⟨op, d, a, b, n⟩ = 0 := by unfold encV; rw [hr]; rfl
    have e2 : encE ⟨op, d, a, b, n⟩ = 1 := by unfold encE; rw [hr]; rfl
    rw [e1, e2]
    exact encR_no op d a b n hr w
  | true =>
    have e1 : encV ⟨op, d, a, b, n⟩ = enc ⟨op, d, a, b, n⟩ := by unfold encV; rw [hr]; rfl
    have e2 : encE ⟨op, d, a, b, n⟩ = 0 := by unfold encE; rw [hr]; rfl
    rw [e1, e2]
    exact encR_any hr rfl w
theorem nameR_lit {op : Int} {s : ByteArray} (h : (⟨(name op).toArray⟩ : ByteArray) = s) (w : World) : Calls Try.prog 18 #[.int .i64 op] w fun e w' => e = .returned (.string s) ∧ Both w w' := by
  subst h
  exact nameR_any op w
theorem Lies.of {w w' : World} {p : Option Addr} {l : List Int} (h : ∀ j x, l[j]? = some x → ∃ b o, p = some ⟨b, o, none⟩ ∧ w.cell? ⟨b, o + j, none⟩ = some (.int .i64 x)) (hb : Both w w') : Lies w' p l := by
  intro j x hj
  obtain ⟨b, o, h1, h2⟩ := h j x hj
  have hlt : b < w.heap.size := by
    refine Nat.lt_of_not_le fun hge => ?_
    unfold World.cell? at h2
    simp [Array.getElem?_eq_none hge] at h2
  exact ⟨b, o, h1, Nat.lt_of_lt_of_le hlt hb.1.size, (hb.cell (p := ⟨b, o + j, none⟩) hlt).trans h2⟩
set_option maxRecDepth 100000 in
set_option maxHeartbeats 8000000 in
theorem tells_x (i_o i_d i_a i_b i_n x_o x_d x_a x_b x_n p q g k1 k2 v : Int) (h1 : Ins.wf ⟨i_o, i_d, i_a, i_b, i_n⟩) (hp : inInt p) (hq : inInt q)
    (HX : Hid (fit ⟨i_o, i_d, i_a, i_b, i_n⟩ = ⟨x_o, x_d, x_a, x_b, x_n⟩)) (wx : Ins.wf ⟨x_o, x_d, x_a, x_b, x_n⟩) (HG : Hid (pick p 4294967296 = g)) (g0 : 0 ≤ g) (g1 : g < 4294967296)
    (HK1 : Hid (pick q 32 = k1)) (k10 : 0 ≤ k1) (k11 : k1 < 32) (HK2 : Hid (pick q 64 = k2)) (k20 : 0 ≤ k2) (k21 : k2 < 64) (HV : Hid (encV ⟨x_o, x_d, x_a, x_b, x_n⟩ = v)) (HV0 : Hid (encE ⟨x_o, x_d, x_a, x_b, x_n⟩ = 0)) (v0 : 0 ≤ v) (v1 : v < 4294967296)
    (hA : AwakeIs) (w : World) :
    Calls Try.prog 3 #[.agg #[.int .i64 i_o, .int .i64 i_d, .int .i64 i_a, .int .i64 i_b, .int .i64 i_n], .int .i64 p, .int .i64 q] w fun e w' => e = .returned (.bool true) ∧ Both w w' := by
  have WX := Lib.hid wx
  have WI := Lib.hid h1
  have HP := Lib.hid hp
  have HQ := Lib.hid hq
  clear wx h1 hp hq
  go_enter Try.func3, Try.ntmps3
  go_wp2_with fail
  refine (hA _).mono ?_
  rintro e W1 ⟨rfl, hb⟩
  have sI := (Has5.new w 23 _ _ _ _ _).both hb
  have B1 := Lib.hid (Both.trans ((Both.refl w).alloc _ _) hb)
  clear hb
  have SI1 := Lib.hid sI
  obtain ⟨l0, c0, c1, c2, c3, c4⟩ := sI
  go_wp2_with fail
  refine (fit_lit WI.out HX.out _).mono ?_
  rintro e W2 ⟨rfl, hb⟩
  clear l0 c0 c1 c2 c3 c4
  have sI := SI1.out.both hb
  have B2 := Lib.hid (B1.out.trans hb)
  clear hb B1 SI1
  have sI2 := (sI.alloc #[.int .i64 x_o, .int .i64 x_d, .int .i64 x_a, .int .i64 x_b, .int .i64 x_n] 23)
  obtain ⟨l0, c0, c1, c2, c3, c4⟩ := sI2
  clear sI
  go_wp2_with fail
  clear l0 c0 c1 c2 c3 c4
  have z1 : (W2.alloc (.cells #[.int .i64 x_o, .int .i64 x_d, .int .i64 x_a, .int .i64 x_b, .int .i64 x_n] 23)).heap.size = W2.heap.size + 1 := by simp
  have HXB := Lib.hid (show ((W2.alloc (.cells #[.int .i64 x_o, .int .i64 x_d, .int .i64 x_a, .int .i64 x_b, .int .i64 x_n] 23)).alloc (.cells #[.int .i64 i_o, .int .i64 i_d, .int .i64 i_a, .int .i64 i_b, .int .i64 i_n, .int .i64 x_o, .int .i64 x_d, .int .i64 x_a, .int .i64 x_b, .int .i64 x_n] 23)).heap[W2.heap.size]? = _ from (heap_alloc_old _ _ (by rw [z1]; omega)).trans (heap_alloc_new _ _))
  have HSB : Hid (((W2.alloc (.cells #[.int .i64 x_o, .int .i64 x_d, .int .i64 x_a, .int .i64 x_b, .int .i64 x_n] 23)).alloc (.cells #[.int .i64 i_o, .int .i64 i_d, .int .i64 i_a, .int .i64 i_b, .int .i64 i_n, .int .i64 x_o, .int .i64 x_d, .int .i64 x_a, .int .i64 x_b, .int .i64 x_n] 23)).heap[W2.heap.size + 1]? = some (.cells #[.int .i64 i_o, .int .i64 i_d, .int .i64 i_a, .int .i64 i_b, .int .i64 i_n, .int .i64 x_o, .int .i64 x_d, .int .i64 x_a, .int .i64 x_b, .int .i64 x_n] 23 (0, 0))) := by
    show _ = _
    rw [← z1]
    exact heap_alloc_new _ _
  have B3 := Lib.hid ((B2.out.alloc #[.int .i64 x_o, .int .i64 x_d, .int .i64 x_a, .int .i64 x_b, .int .i64 x_n] 23).alloc #[.int .i64 i_o, .int .i64 i_d, .int .i64 i_a, .int .i64 i_b, .int .i64 i_n, .int .i64 x_o, .int .i64 x_d, .int .i64 x_a, .int .i64 x_b, .int .i64 x_n] 23)
  clear B2 z1
  generalize (W2.alloc (.cells #[.int .i64 x_o, .int .i64 x_d, .int .i64 x_a, .int .i64 x_b, .int .i64 x_n] 23)).alloc (.cells #[.int .i64 i_o, .int .i64 i_d, .int .i64 i_a, .int .i64 i_b, .int .i64 i_n, .int .i64 x_o, .int .i64 x_d, .int .i64 x_a, .int .i64 x_b, .int .i64 x_n] 23) = W3 at HXB HSB B3 ⊢
  generalize W2.heap.size = xb at HXB HSB ⊢
  generalize xb + 1 = sb at HSB ⊢
  have hxl : xb < W3.heap.size := by
    refine Nat.lt_of_not_le fun hge => ?_
    have := HXB.out
    rw [Array.getElem?_eq_none hge] at this
    cases this
  have hsl : sb < W3.heap.size := by
    refine Nat.lt_of_not_le fun hge => ?_
    have := HSB.out
    rw [Array.getElem?_eq_none hge] at this
    cases this
  go_loopw [30] (fun i wr => ∃ k : Nat, k ≤ 2 ∧ i = .int .i64 k ∧ Both W3 wr) (fun i _ => 2 - (intOf i).toNat)
  case atStart => exact ⟨0, by omega, rfl, Both.refl _⟩
  case round =>
    obtain ⟨k, hk, rfl, hb⟩ := hrel
    have HB := Lib.hid hb
    clear hb
    by_cases hlt : k < 2
    · obtain ⟨y, wy, hy⟩ := ins_at ⟨i_o, i_d, i_a, i_b, i_n⟩ ⟨x_o, x_d, x_a, x_b, x_n⟩ WI.out WX.out k hlt
      obtain ⟨y_o, y_d, y_a, y_b, y_n⟩ := y
      have WY := Lib.hid wy
      have HYC := Lib.hid hy
      clear wy hy
      have hlt' : (k : Int) < 2 := by omega
      go_upto_region 5 with (fail)
      rename_i K2 hK2 K hK
      refine wp_region_list ?_
      refine wpList_one rfl (exec_at rfl (by kernel_rfl) (by kernel_rfl) _ (ins_index sb k hlt wr)) ?_
      refine wpList_load_mid rfl 23 (.tmp 32) rfl sb (k * 5) (by kernel_rfl) [.int .i64 y_o, .int .i64 y_d, .int .i64 y_a, .int .i64 y_b, .int .i64 y_n] (.struct _) (fun j v hj => (cell_of_heap ((HB.out.1.block sb hsl).trans HSB.out) _).trans (HYC.out j v hj)) Try.underlying23 rfl (by kernel_rfl) ?_
      refine wpList_one rfl (w' := wr.alloc (.cells #[.int .i64 0, .int .i64 0, .int .i64 0, .int .i64 0, .int .i64 0] 23)) (v := .pointer (some ⟨wr.heap.size, 0, none⟩)) (by kernel_rfl) ?_
      refine wpList_store_row rfl 23 (.tmp 10) (.tmp 33) rfl wr.heap.size #[.int .i64 y_o, .int .i64 y_d, .int .i64 y_a, .int .i64 y_b, .int .i64 y_n] (by kernel_rfl) (by kernel_rfl) _ _ (heap_alloc_new _ _) (by kernel_rfl) rfl (by kernel_rfl) ?_
      have HRY := Lib.hid (setRow_heap _ _ _ #[.int .i64 y_o, .int .i64 y_d, .int .i64 y_a, .int .i64 y_b, .int .i64 y_n] _ _ (heap_alloc_new wr (.cells #[.int .i64 0, .int .i64 0, .int .i64 0, .int .i64 0, .int .i64 0] 23)))
      have HB4 := Lib.hid ((HB.out.alloc #[.int .i64 0, .int .i64 0, .int .i64 0, .int .i64 0, .int .i64 0] 23).setRow (g := wr.heap.size) HB.out.1.size #[.int .i64 y_o, .int .i64 y_d, .int .i64 y_a, .int .i64 y_b, .int .i64 y_n])
      generalize (wr.alloc (.cells #[.int .i64 0, .int .i64 0, .int .i64 0, .int .i64 0, .int .i64 0] 23)).setRow wr.heap.size #[.int .i64 y_o, .int .i64 y_d, .int .i64 y_a, .int .i64 y_b, .int .i64 y_n] = W4 at HRY HB4 ⊢
      generalize wr.heap.size = yb at HRY ⊢
      have hyl : yb < W4.heap.size := by
        refine Nat.lt_of_not_le fun hge => ?_
        have := HRY.out
        rw [Array.getElem?_eq_none hge] at this
        cases this
      refine wpList_nil ?_
      refine hK _ _ ?_
      clear hK K HB
      obtain ⟨ev, hev⟩ : ∃ v, encV ⟨y_o, y_d, y_a, y_b, y_n⟩ = v := ⟨_, rfl⟩
      obtain ⟨eu, heu⟩ : ∃ v, encE ⟨y_o, y_d, y_a, y_b, y_n⟩ = v := ⟨_, rfl⟩
      obtain ⟨rr, hrr⟩ : ∃ v, right ⟨y_o, y_d, y_a, y_b, y_n⟩ = v := ⟨_, rfl⟩
      obtain ⟨s, hs⟩ : ∃ v, (⟨(name y_o).toArray⟩ : ByteArray) = v := ⟨_, rfl⟩
      obtain ⟨l, hl⟩ : ∃ v, readsL ⟨y_o, y_d, y_a, y_b, y_n⟩ = v := ⟨_, rfl⟩
      obtain ⟨nl, hnl⟩ : ∃ v, l.length = v := ⟨_, rfl⟩
      obtain ⟨wv, hwv⟩ : ∃ v, (if rr then y_d else 0) = v := ⟨_, rfl⟩
      have hl2 : nl ≤ 2 := by rw [← hnl, ← hl]; exact reads_two _
      have EV := Lib.hid hev
      have EU := Lib.hid heu
      have RR := Lib.hid hrr
      have HS := Lib.hid hs
      have HLL := Lib.hid hl
      have HNL := Lib.hid hnl
      have HWV := Lib.hid hwv
      clear hev heu hrr hs hl hnl hwv
      have c0 : W4.cell? ⟨yb, 0, none⟩ = some (.int .i64 y_o) := cell_of_heap HRY.out 0
      have c1 : W4.cell? ⟨yb, 1, none⟩ = some (.int .i64 y_d) := cell_of_heap HRY.out 1
      have c2 : W4.cell? ⟨yb, 2, none⟩ = some (.int .i64 y_a) := cell_of_heap HRY.out 2
      have c3 : W4.cell? ⟨yb, 3, none⟩ = some (.int .i64 y_b) := cell_of_heap HRY.out 3
      have c4 : W4.cell? ⟨yb, 4, none⟩ = some (.int .i64 y_n) := cell_of_heap HRY.out 4
      go_wp2_with fail
      clear c0 c1 c2 c3 c4
      refine (enc_lit encode_is WY.out EV.out EU.out _).mono ?_
      rintro e W5 ⟨rfl, hb5⟩
      have HRY5 := Lib.hid ((hb5.1.block yb hyl).trans HRY.out)
      have hyl5 : yb < W5.heap.size := Nat.lt_of_lt_of_le hyl hb5.1.size
      have HB5 := Lib.hid (HB4.out.trans hb5)
      clear hb5 HB4 HRY hyl
      have c0 : W5.cell? ⟨yb, 0, none⟩ = some (.int .i64 y_o) := cell_of_heap HRY5.out 0
      have c1 : W5.cell? ⟨yb, 1, none⟩ = some (.int .i64 y_d) := cell_of_heap HRY5.out 1
      have c2 : W5.cell? ⟨yb, 2, none⟩ = some (.int .i64 y_a) := cell_of_heap HRY5.out 2
      have c3 : W5.cell? ⟨yb, 3, none⟩ = some (.int .i64 y_b) := cell_of_heap HRY5.out 3
      have c4 : W5.cell? ⟨yb, 4, none⟩ = some (.int .i64 y_n) := cell_of_heap HRY5.out 4
      go_wp2_with fail
      clear c0 c1 c2 c3 c4
      refine (encR_val EV.out EU.out _).mono ?_
      rintro e W6 ⟨rfl, hb6⟩
      have HRY6 := Lib.hid ((hb6.1.block yb hyl5).trans HRY5.out)
      have hyl6 : yb < W6.heap.size := Nat.lt_of_lt_of_le hyl5 hb6.1.size
      have HB6 := Lib.hid (HB5.out.trans hb6)
      clear hb6 HB5 HRY5 hyl5
      go_wp2_with fail
      have hkeep : ∀ w', Both W6 w' → w'.cell? ⟨yb, 0, none⟩ = some (.int .i64 y_o) ∧ w'.cell? ⟨yb, 1, none⟩ = some (.int .i64 y_d) ∧ w'.cell? ⟨yb, 2, none⟩ = some (.int .i64 y_a) ∧ w'.cell? ⟨yb, 3, none⟩ = some (.int .i64 y_b) ∧ w'.cell? ⟨yb, 4, none⟩ = some (.int .i64 y_n) := fun w' h =>
        have hX := (h.1.block yb hyl6).trans HRY6.out
        ⟨cell_of_heap hX 0, cell_of_heap hX 1, cell_of_heap hX 2, cell_of_heap hX 3, cell_of_heap hX 4⟩
      have HKEEP := Lib.hid hkeep
      clear hkeep hyl6
      have WYO := Lib.hid WY.out.op
      have HWV2 : Hid ((if right ⟨y_o, y_d, y_a, y_b, y_n⟩ then y_d else 0) = wv) := by
        show _ = _
        rw [RR.out]
        exact HWV.out
      go_region_held3 (fun w' => w'.cell? ⟨yb, 0, none⟩ = some (.int .i64 y_o) ∧ w'.cell? ⟨yb, 1, none⟩ = some (.int .i64 y_d) ∧ w'.cell? ⟨yb, 2, none⟩ = some (.int .i64 y_a) ∧ w'.cell? ⟨yb, 3, none⟩ = some (.int .i64 y_b) ∧ w'.cell? ⟨yb, 4, none⟩ = some (.int .i64 y_n))
        (first | exact HKEEP.out _ (((((((((((Both.refl _).drew).trans hb11).trans hb12).trans hb13).trans hb14).trans hb15).trans hb16).trans hb17).trans hb18).trans hb19) | exact HKEEP.out _ ((((((((((Both.refl _).drew).trans hb11).trans hb12).trans hb13).trans hb14).trans hb15).trans hb16).trans hb17).trans hb18) | exact HKEEP.out _ (((((((((Both.refl _).drew).trans hb11).trans hb12).trans hb13).trans hb14).trans hb15).trans hb16).trans hb17) | exact HKEEP.out _ ((((((((Both.refl _).drew).trans hb11).trans hb12).trans hb13).trans hb14).trans hb15).trans hb16) | exact HKEEP.out _ (((((((Both.refl _).drew).trans hb11).trans hb12).trans hb13).trans hb14).trans hb15) | exact HKEEP.out _ ((((((Both.refl _).drew).trans hb11).trans hb12).trans hb13).trans hb14) | exact HKEEP.out _ (((((Both.refl _).drew).trans hb11).trans hb12).trans hb13) | exact HKEEP.out _ ((((Both.refl _).drew).trans hb11).trans hb12) | exact HKEEP.out _ (((Both.refl _).drew).trans hb11) | exact HKEEP.out _ ((Both.refl _).drew))
        (first
          | (go_at_call 15; refine (right_val WY.out RR.out _).mono ?_; rintro e w' ⟨rfl, hb11⟩)
          | (go_at_call 16; refine (rightR_val RR.out _).mono ?_; rintro e w' ⟨rfl, hb12⟩)
          | (go_at_call 17; refine (name_lit name_is WYO.out HS.out _).mono ?_; rintro e w' ⟨rfl, hb13⟩)
          | (go_at_call 18; refine (nameR_lit HS.out _).mono ?_; rintro e w' ⟨rfl, hb14⟩)
          | (go_at_call 20; refine (reads_row' WY.out HLL.out _).mono ?_; intro e w' hr; obtain ⟨pl, cl, he, hl, hb15⟩ := hr; rw [HNL.out] at he; subst he; have HLA := Lib.hid hl; clear hl)
          | (go_at_call 21; refine (readsR_any WY.out HLL.out _).mono ?_; intro e w' hr; obtain ⟨pm, cm, he, hl, hb16⟩ := hr; rw [HNL.out] at he; subst he; have HLB := Lib.hid hl; clear hl)
          | (go_at_call 19; refine (ints_same l nl HNL hl2 pl pm cl cm _ (Lies.of HLA.out hb16) (Lies.of HLB.out (Both.refl _))).mono ?_; rintro e w' ⟨rfl, hb17⟩)
          | (go_at_call 22; refine (writes_lit writes_is WY.out HWV2.out _).mono ?_; rintro e w' ⟨rfl, hb18⟩)
          | (go_at_call 23; refine (writesR_any y_o y_d y_a y_b y_n RR HWV _).mono ?_; rintro e w' ⟨rfl, hb19⟩))
      have HB7 := Lib.hid (HB6.out.trans (((((((((((Both.refl _).drew).trans hb11).trans hb12).trans hb13).trans hb14).trans hb15).trans hb16).trans hb17).trans hb18).trans hb19))
      clear hb11 hb12 hb13 hb14 hb15 hb16 hb17 hb18 hb19
      rename_i hh
      clear hh
      go_wp2
      go_roundw
      case rel => exact ⟨k + 1, by omega, by go_num, HB7.out⟩
      case measure => simp [intOf]; omega
    · obtain rfl : k = 2 := by omega
      have HRX := Lib.hid ((HB.out.1.block xb hxl).trans HXB.out)
      have BW := Lib.hid (B3.out.trans HB.out)
      have c0 : wr.cell? ⟨xb, 0, none⟩ = some (.int .i64 x_o) := cell_of_heap HRX.out 0
      have c1 : wr.cell? ⟨xb, 1, none⟩ = some (.int .i64 x_d) := cell_of_heap HRX.out 1
      have c2 : wr.cell? ⟨xb, 2, none⟩ = some (.int .i64 x_a) := cell_of_heap HRX.out 2
      have c3 : wr.cell? ⟨xb, 3, none⟩ = some (.int .i64 x_b) := cell_of_heap HRX.out 3
      have c4 : wr.cell? ⟨xb, 4, none⟩ = some (.int .i64 x_n) := cell_of_heap HRX.out 4
      clear HB HXB HSB B3 hxl hsl
      go_wp2_with fail
      clear c0 c1 c2 c3 c4
      refine (encR_val HV.out HV0.out _).mono ?_
      rintro e W9 ⟨rfl, hb9⟩
      have B9 := Lib.hid (BW.out.trans hb9)
      clear hb9 BW HRX
      have hp := HP.out
      have hq := HQ.out
      obtain ⟨pp0, pp1⟩ := hp
      obtain ⟨qq0, qq1⟩ := hq
      go_wp2_with fail
      go_region_held3 (fun _ => True) (exact trivial)
        (first
          | (go_at_call 24; ((with_reducible refine (pick_lit pp0 pp1 (by omega) HG.out _).mono ?_); rintro e w' ⟨rfl, rfl⟩))
          | (go_at_call 24; ((with_reducible refine (pick_lit qq0 qq1 (by omega) HK1.out _).mono ?_); rintro e w' ⟨rfl, rfl⟩))
          | (go_at_call 24; ((with_reducible refine (pick_lit qq0 qq1 (by omega) HK2.out _).mono ?_); rintro e w' ⟨rfl, rfl⟩)))
      rename_i hh
      clear hh
      have w1 : inInt (bits .xor .i64 v (IntKind.i64.wrap (2 ^ k1.toNat))) := bits_bd _ _ _
      have w2 : inInt (bits .xor .i64 v (IntKind.i64.wrap (2 ^ k2.toNat))) := bits_bd _ _ _
      generalize bits .xor .i64 v (IntKind.i64.wrap (2 ^ k1.toNat)) = f1 at w1 ⊢
      generalize bits .xor .i64 v (IntKind.i64.wrap (2 ^ k2.toNat)) = f2 at w2 ⊢
      have HFV := Lib.hid (five_at (p := p) (g := g) (v := v) HP.out ⟨by omega, by omega⟩ ⟨by omega, by omega⟩ w1 w2)
      have HTB := Lib.hid (show ((W9.alloc (.cells #[.int .i64 p, .int .i64 g, .int .i64 v, .int .i64 f1, .int .i64 f2] 3)).drew).heap[W9.heap.size]? = some (.cells #[.int .i64 p, .int .i64 g, .int .i64 v, .int .i64 f1, .int .i64 f2] 3 (0, 0)) from heap_alloc_new _ _)
      have B10 := Lib.hid ((B9.out.alloc #[.int .i64 p, .int .i64 g, .int .i64 v, .int .i64 f1, .int .i64 f2] 3).drew)
      clear w1 w2 B9
      generalize (W9.alloc (.cells #[.int .i64 p, .int .i64 g, .int .i64 v, .int .i64 f1, .int .i64 f2] 3)).drew = W10 at HTB B10 ⊢
      generalize W9.heap.size = tb at HTB ⊢
      have htl : tb < W10.heap.size := by
        refine Nat.lt_of_not_le fun hge => ?_
        have := HTB.out
        rw [Array.getElem?_eq_none hge] at this
        cases this
      go_wp2_with fail
      go_loopw [105] (fun i wr2 => ∃ k : Nat, k ≤ 5 ∧ i = .int .i64 k ∧ Both W10 wr2) (fun i _ => 5 - (intOf i).toNat)
      case atStart => exact ⟨0, by omega, rfl, Both.refl _⟩
      case round =>
        obtain ⟨k, hk, rfl, hb⟩ := hrel
        have HB := Lib.hid hb
        clear hb
        by_cases hlt : k < 5
        · obtain ⟨z, hz, hzc⟩ := HFV.out k hlt
          have hcell := (cell_of_heap ((HB.out.1.block tb htl).trans HTB.out) k).trans hzc
          obtain ⟨y, hy⟩ : ∃ y, decV z = y := ⟨_, rfl⟩
          obtain ⟨u, hu⟩ : ∃ u, decE z = u := ⟨_, rfl⟩
          obtain ⟨y_o, y_d, y_a, y_b, y_n⟩ := y
          have HZ := Lib.hid hz
          have HY := Lib.hid hy
          have HU := Lib.hid hu
          clear hz hzc hy hu
          have hlt' : (k : Int) < 5 := by omega
          go_wp2_with fail
          refine (dec_lit decode_is HZ.out HY.out HU.out _).mono ?_
          rintro e W11 ⟨rfl, hb⟩
          have HB11 := Lib.hid (HB.out.trans hb)
          clear hb hcell HB
          go_wp2_with fail
          refine (decR_lit HY.out HU.out _).mono ?_
          rintro e W12 ⟨rfl, hb⟩
          have s5 := (Has5.new W11 23 y_o y_d y_a y_b y_n).both hb
          have HB12 := Lib.hid ((HB11.out.alloc _ _).trans hb)
          clear hb HB11
          obtain ⟨l5, c0, c1, c2, c3, c4⟩ := s5
          go_wp2
          go_roundw
          case rel => exact ⟨k + 1, by omega, by go_num, HB12.out.alloc _ _⟩
          case measure => simp [intOf]; omega
        · have hge : ¬ (k : Int) < 5 := by omega
          go_wp2
          go_ret
          exact ⟨rfl, B10.out.trans HB.out⟩
theorem tells_law (i : Ins) (p q : Int) (h1 : Ins.wf i) (hp : inInt p) (hq : inInt q) (hA : AwakeIs) (w : World) :
    Calls Try.prog 3 #[ival i, .int .i64 p, .int .i64 q] w fun e w' => e = .returned (.bool true) ∧ Both w w' := by
  have rx := right_fit i
  obtain ⟨g0, g1⟩ := pick_bd p 4294967296 (by omega)
  obtain ⟨k10, k11⟩ := pick_bd q 32 (by omega)
  obtain ⟨k20, k21⟩ := pick_bd q 64 (by omega)
  have e1 : encV (fit i) = enc (fit i) := by unfold encV; rw [rx]; rfl
  have e2 : encE (fit i) = 0 := by unfold encE; rw [rx]; rfl
  obtain ⟨v0, v1⟩ := enc_bd rx
  obtain ⟨i_o, i_d, i_a, i_b, i_n⟩ := i
  exact tells_x i_o i_d i_a i_b i_n (fit ⟨i_o, i_d, i_a, i_b, i_n⟩).op (fit ⟨i_o, i_d, i_a, i_b, i_n⟩).d (fit ⟨i_o, i_d, i_a, i_b, i_n⟩).a (fit ⟨i_o, i_d, i_a, i_b, i_n⟩).b (fit ⟨i_o, i_d, i_a, i_b, i_n⟩).n p q _ _ _ _ h1 hp hq rfl (wf_right rx) rfl g0 g1 rfl k10 k11 rfl k20 k21 e1 e2 v0 v1 hA w
end Go.Proofs.Ytphnagkicboglaa
