/- Items are laid: lay of package label. -/
import Derived.Test.YtjjbfeoidceiiaaLLen
namespace Go.Proofs.Ytjjbfeoidceiiaa
open Go.RowKit Rv Lb
set_option linter.unusedVariables false
noncomputable def layE (l : List Itm) : Int := if 40000 < l.length then 2 else if l.all rightX = false then 1 else if okT l = false then 30 else if 65536 < place l (Lb.fin l) l.length then 2 else 0
def noLayer : Array Value := #[.slice none 0 0, .slice none 0 0, .slice none 0 0, .slice none 0 0]
/-- what lay answers -/
def LayIs (l : List Itm) (b o c : Nat) (w : World) (e : Ending) (w' : World) : Prop :=
  Both w w' ∧ ((layE l ≠ 0 ∧ e = .returned (.tuple #[.agg noLayer, .int .i64 (layE l)])) ∨
    (layE l = 0 ∧ ∃ PB SB sc TB, e = .returned (.tuple #[.agg #[.slice (some ⟨PB, 0, none⟩) (l.length + 1) (l.length + 1), .slice (some ⟨b, o, none⟩) l.length c, .slice (some ⟨SB, 0, none⟩) l.length sc, .slice (some ⟨TB, 0, none⟩) l.length l.length], .int .i64 0]) ∧
      IntsAt w' PB 0 (sumsTo (szs l (Lb.fin l)) l.length) ∧ IntsAt w' SB 0 (szs l (Lb.fin l)) ∧ IntsAt w' TB 0 (tos l l.length)))
theorem lay_size : (Try.prog.info? 57).map (·.size) = some 4 := by kernel_rfl
set_option maxHeartbeats 2000000 in
theorem lay_long (b o c : Nat) (l : List Itm) (w : World) (h : 40000 < l.length) (hm : l.length ≤ 9223372036854775807) : Calls Try.prog 32 #[.slice (some ⟨b, o, none⟩) l.length c] w (LayIs l b o c w) := by
  have e : layE l = 2 := by unfold layE; rw [if_pos h]
  have HE := Lib.hid e
  clear e
  go_enter Try.func32, Try.ntmps32
  go_wp2_with fail
  refine bodyPost_ret (v := .tuple #[.agg noLayer, .int .i64 2]) (results_cell_slot Try.results32 _ _ w.heap.size _ _ _ _ _ rfl rfl (heap_alloc_new w _) Try.underlying57 rfl lay_size) rfl ?_
  exact ⟨(Both.refl w).alloc _ _, Or.inl ⟨by rw [HE.out]; decide, by rw [HE.out]⟩⟩
theorem set4 {w : World} {R : Nat} {x0 x1 x2 x3 : Value} {t : TypeId} (h : w.heap[R]? = some (.cells #[x0, x1, x2, x3] t (0, 0))) (v0 v1 v2 v3 : Value) :
    ((((w.setCell ⟨R, 0, none⟩ v0).setCell ⟨R, 1, none⟩ v1).setCell ⟨R, 2, none⟩ v2).setCell ⟨R, 3, none⟩ v3).heap[R]? = some (.cells #[v0, v1, v2, v3] t (0, 0)) := by
  have step : ∀ (W : World) (cs : Array Value) (i : Nat) (v : Value), W.heap[R]? = some (.cells cs t (0, 0)) → (W.setCell ⟨R, i, none⟩ v).heap[R]? = some (.cells (cs.setIfInBounds i v) t (0, 0)) := fun W cs i v hW => by
    rw [setCell_eq_setRow W R i cs t (0, 0) v hW]
    exact setRow_heap _ _ _ _ _ _ hW
  exact step _ _ 3 v3 (step _ _ 2 v2 (step _ _ 1 v1 (step _ _ 0 v0 h)))
theorem both4 {w0 w : World} {R : Nat} (h : Both w0 w) (hR : w0.heap.size ≤ R) (v0 v1 v2 v3 : Value) : Both w0 ((((w.setCell ⟨R, 0, none⟩ v0).setCell ⟨R, 1, none⟩ v1).setCell ⟨R, 2, none⟩ v2).setCell ⟨R, 3, none⟩ v3) :=
  (((h.setCell hR _).setCell hR _).setCell hR _).setCell hR _
/-- at the head of lay's first loop -/
structure La (w wr : World) (l : List Itm) (k : Nat) : Prop where
  both : Both w wr
  res : wr.heap[w.heap.size]? = some (.cells noLayer 57 (0, 0))
  ok : ∀ j x, j < k → l[j]? = some x → rightX x = true
theorem La.step {w wr w' : World} {l : List Itm} {k : Nat} (h : La w wr l k) (hb : Both wr w') {x : Itm} (hx : l[k]? = some x) (hr : rightX x = true) : La w w' l (k + 1) :=
  ⟨h.both.trans hb, (hb.1.block _ (lt_of_heap h.res)).trans h.res, fun j y hj hy => by
    by_cases e : j < k
    · exact h.ok j y e hy
    · obtain rfl : j = k := by omega
      obtain rfl : x = y := Option.some.inj (hx.symm.trans hy)
      exact hr⟩
theorem not_all {l : List Itm} {k : Nat} {x : Itm} (hx : l[k]? = some x) (hr : rightX x = false) : l.all rightX = false := by
  cases e : l.all rightX with
  | false => rfl
  | true =>
    have := (List.all_eq_true.1 e) x (List.mem_of_getElem? hx)
    rw [hr] at this
    cases this
theorem rightX_lit {k o d a b n m : Int} {s : ByteArray} {q : Bool} (h : rightX ⟨k, ⟨o, d, a, b, n⟩, s, m⟩ = q) (hx : Itm.wf ⟨k, ⟨o, d, a, b, n⟩, s, m⟩) (w : World) :
    Calls Try.prog 23 #[.agg #[.int .i64 k, .int .i64 o, .int .i64 d, .int .i64 a, .int .i64 b, .int .i64 n, .string s, .int .i64 m]] w fun e w' => e = .returned (.bool q) ∧ Both w w' := by
  subst h
  exact rightX_any _ hx w
/-- what is known behind the append of a size -/
structure LaS (w9 W' : World) (y base : Nat) (P I T v v' : Value) (l : List Int) : Prop where
  row : IRow W' base v' l
  lay : W'.heap[y]? = some (.cells #[P, I, v, T] 57 (0, 0))
  sav : Sav (fun k => v.ownBlock = some k) w9 W'
  ne : v' ≠ .slice none 0 0
theorem step_lay {ops : Array Oper} {o : Oper} {a : Act} {w9 : World} {K : Act → World → Prop} {Q : Exit → Act → World → Prop} {E : Prop}
    (hg : o.guard = none) (s x : Operand) (hop : o.op = Op.call { callee := Callee.builtin Builtin.append, args := #[s, x], argTypes := #[31, 31] })
    (y base : Nat) (v : Value) (l : List Int) (s0 : Int) (P I T : Value) (hs : a.eval s = v) (hx : a.eval x = .slice (some ⟨w9.heap.size, 0, none⟩) 1 1) (hr : IRow w9 base v l) (hy : w9.heap[y]? = some (.cells #[P, I, v, T] 57 (0, 0)))
    (hny : ∀ k, v.ownBlock = some k → k ≠ y) (hlen : l.length + 1 ≤ 1099511627776) (hbase : base ≤ w9.heap.size)
    (hK : ∀ (B' n' c' : Nat) (W' : World), W'.cell? ⟨y, 2, none⟩ = some v → W'.frozen? ⟨y, 2, none⟩ = false → Hid (LaS w9 W' y base P I T v (.slice (some ⟨B', 0, none⟩) n' c') (l ++ [s0])) → K (a.put o.dst (.slice (some ⟨B', 0, none⟩) n' c')) W') :
    if Region.wanted o (yielded ops a.tmps) = true then Oper.wp Try.prog o a (w9.alloc (.cells #[.int .i64 s0] 3)) K Q else E := by
  have hr' : IRow (w9.alloc (.cells #[.int .i64 s0] 3)) base v l := hr.alloc _
  obtain ⟨v', w', hrun, h1, h2, h3⟩ := irow_one hr' 31 o.type Try.underlying31 w9.heap.size s0 (World.cell?_alloc_new _ _ _ 0) hlen (by simp; omega)
  have hy' : (w9.alloc (.cells #[.int .i64 s0] 3)).heap[y]? = some (.cells #[P, I, v, T] 57 (0, 0)) := (heap_alloc_old _ _ (lt_of_heap hy)).trans hy
  have hy2 : w'.heap[y]? = some (.cells #[P, I, v, T] 57 (0, 0)) := (h2.block y (lt_of_heap hy') (fun e => hny y e rfl)).trans hy'
  obtain ⟨B', c', rfl, _⟩ := h1.form h3
  exact step_app hg s x 31 hop v _ _ hs hx hrun (hK B' _ c' w' (cell_of_heap hy2 2) (frozen_of_heap hy2 2) ⟨h1, hy2, (((Both.refl w9).alloc _ _).sav _).trans h2, h3⟩)
/-- at the head of lay's second loop -/
structure Lc (w wr : World) (l : List Itm) (y TB : Nat) (I T v : Value) (k : Nat) : Prop where
  both : Both w wr
  res : wr.heap[w.heap.size]? = some (.cells noLayer 57 (0, 0))
  lay : wr.heap[y]? = some (.cells #[.slice none 0 0, I, v, T] 57 (0, 0))
  row : IRow wr (y + 1) v ((szs l none').take k)
  tos : wr.heap[TB]? = some (.cells (ints (tos l l.length)).toArray 3 (0, 0))
  first : 1 ≤ k → v ≠ .slice none 0 0
theorem sizeOf_lit {k o d a b n m s0 : Int} {s : ByteArray} (h : ((size1 ⟨k, ⟨o, d, a, b, n⟩, s, m⟩ : Nat) : Int) = s0) (hr : rightX ⟨k, ⟨o, d, a, b, n⟩, s, m⟩ = true) (hx : Itm.wf ⟨k, ⟨o, d, a, b, n⟩, s, m⟩) (w : World) :
    Calls Try.prog 63 #[.agg #[.int .i64 k, .int .i64 o, .int .i64 d, .int .i64 a, .int .i64 b, .int .i64 n, .string s, .int .i64 m]] w fun e w' => e = .returned (.int .i64 s0) ∧ Both w w' := by
  subst h
  exact sizeOf_any _ hr hx w
theorem Lc.next {w wr w9 W' : World} {l : List Itm} {y TB k : Nat} {I T v v' : Value} {x : Itm} (h : Lc w wr l y TB I T v k) (h9 : Both wr w9) (hs : LaS w9 W' y (y + 1) (.slice none 0 0) I T v v' ((szs l none').take k ++ [((size1 x : Nat) : Int)])) (hx : l[k]? = some x)
    (hyw : w.heap.size < y) (hTy : TB < y) (hTw : w.heap.size ≤ TB) : Lc w (W'.setCell ⟨y, 2, none⟩ v') l y TB I T v' (k + 1) := by
  have hlt : k < l.length := (List.getElem?_eq_some_iff.1 hx).1
  have hv : ∀ j, v.ownBlock = some j → y + 1 ≤ j := fun j hj => (h.row.lt j hj).1
  have l9 := h9.1.size
  have ly := lt_of_heap h.lay
  have hb' : Both w W' := hs.sav.both (h.both.trans h9) (fun j hj => by have := hv j hj; omega)
  rw [setCell_eq_setRow W' y 2 _ _ (0, 0) v' hs.lay]
  refine ⟨hb'.setRow (by omega) _, ?_, setRow_heap _ _ _ _ _ _ hs.lay, ?_, ?_, fun _ => hs.ne⟩
  · rw [setRow_other _ _ _ _ (by omega)]
    have h1 := (h9.1.block _ (lt_of_heap h.res)).trans h.res
    exact (hs.sav.block _ (lt_of_heap h1) (fun e => by have := hv _ e; omega)).trans h1
  · have e : (szs l none').take (k + 1) = (szs l none').take k ++ [((size1 x : Nat) : Int)] := by
      have hg := szs_get (l := l) (g := none') hlt
      obtain ⟨h1, h2⟩ := List.getElem?_eq_some_iff.1 hg
      rw [List.take_succ_eq_append_getElem h1, h2]
      unfold sz
      rw [hx]
      simp [none']
    rw [e]
    refine ownsRow_sav hs.row (S := fun j => j = y) (sav_setRow (g := y) (fun j => j = y) (Or.inl rfl) _) (fun j hj e => ?_)
    have := (hs.row.lt j hj).1
    omega
  · rw [setRow_other _ _ _ _ (by omega)]
    have h1 := (h9.1.block _ (lt_of_heap h.tos)).trans h.tos
    exact (hs.sav.block _ (lt_of_heap h1) (fun e => by have := hv _ e; omega)).trans h1
theorem named_lt {l : List Itm} {s : ByteArray} {j : Nat} (h : named l s = some j) : j < l.length ∧ ∀ x, l[j]? = some x → x.kind = 2 ∧ x.name = s := by
  unfold named at h
  obtain ⟨h1, h2, _⟩ := List.findIdx?_eq_some_iff_getElem.1 h
  refine ⟨h1, fun x hx => ?_⟩
  rw [List.getElem?_eq_getElem h1] at hx
  obtain rfl := Option.some.inj hx
  unfold isNamed at h2
  simpa using h2
theorem to_lt {l : List Itm} (hpos : 1 ≤ l.length) (k : Nat) (hk : k < l.length) : to l k < l.length := by
  unfold to
  cases l[k]? with
  | none => exact hpos
  | some x =>
    simp only
    split
    · cases e : named l x.name with
      | none => exact hpos
      | some j => exact (named_lt e).1
    · exact hpos
theorem br_named {l : List Itm} {k : Nat} (hok : okT l = true) {x : Itm} (hx : l[k]? = some x) (hk : x.kind = 3) : ∃ j, named l x.name = some j ∧ to l k = j := by
  have h1 := (List.all_eq_true.1 hok) k (List.mem_range.2 (List.getElem?_eq_some_iff.1 hx).1)
  rw [Bool.and_eq_true] at h1
  have h2 := h1.2
  unfold lostAt at h2
  rw [hx] at h2
  simp only [hk, decide_true, Bool.true_and, Bool.not_eq_true'] at h2
  cases e : named l x.name with
  | none => rw [e] at h2; cases h2
  | some j =>
    refine ⟨j, rfl, ?_⟩
    unfold to
    rw [hx]
    simp [hk, e]
theorem toLab_ok {l : List Itm} (hok : okT l = true) : toLab l := by
  intro k hk
  unfold brAt at hk
  cases hx : l[k]? with
  | none => rw [hx] at hk; cases hk
  | some x =>
    rw [hx] at hk
    simp only [isBr, Bool.and_eq_true, decide_eq_true_eq] at hk
    obtain ⟨j, h1, h2⟩ := br_named hok hx hk.1
    rw [h2]
    unfold brAt
    cases hy : l[j]? with
    | none => rfl
    | some z =>
      have := ((named_lt h1).2 z hy).1
      simp [isBr, this]
theorem ints_at {w : World} {B : Nat} {t : TypeId} {xs ys : List Int} (h : w.heap[B]? = some (.cells (ints (xs ++ ys)).toArray t (0, 0))) : IntsAt w B 0 xs := by
  refine ⟨lt_of_heap h, fun j i hj => ?_⟩
  rw [Nat.zero_add, cell_of_heap h, List.getElem?_toArray]
  unfold ints
  rw [List.getElem?_map, List.getElem?_append_left (List.getElem?_eq_some_iff.1 hj).1, hj]
  rfl
theorem ints_at0 {w : World} {B : Nat} {t : TypeId} {xs : List Int} (h : w.heap[B]? = some (.cells (ints xs).toArray t (0, 0))) : IntsAt w B 0 xs := ints_at (ys := []) (by rw [List.append_nil]; exact h)
set_option maxRecDepth 100000 in
set_option maxHeartbeats 4000000 in
theorem layer_any (b o c : Nat) (l : List Itm) (w : World) (HI : Hid (ItemsAt w b o l)) (hlen : l.length ≤ 40000) (hpos : 1 ≤ l.length) (HWF : Hid (∀ x ∈ l, Itm.wf x)) : Calls Try.prog 32 #[.slice (some ⟨b, o, none⟩) l.length c] w (LayIs l b o c w) := by
  have ex0 : ∀ (x y : Value) (W : World), (Instr.extract (.tuple #[x, y]) 0).run Try.prog W = .ok x W := fun x y W => by kernel_rfl
  have ex1 : ∀ (x y : Value) (W : World), (Instr.extract (.tuple #[x, y]) 1).run Try.prog W = .ok y W := fun x y W => by kernel_rfl
  go_enter Try.func32, Try.ntmps32
  go_wp2_with fail
  go_loopw [17] (fun i wr => ∃ k : Nat, k ≤ l.length ∧ i = .int .i64 k ∧ Hid (La w wr l k)) (fun i _ => l.length - (intOf i).toNat)
  case atStart => exact ⟨0, by omega, rfl, ⟨(Both.refl w).alloc _ _, heap_alloc_new w _, fun j x hj _ => by omega⟩⟩
  case round =>
    rename_i wr
    obtain ⟨k, hk, rfl, HL⟩ := hrel
    by_cases hlt : k < l.length
    · obtain ⟨kd, xo, xd, xa, xb, xn, xm, xs, hx⟩ := items_one hlt
      obtain ⟨c0, c1, c2, c3, c4, c5, c6, c7⟩ := (HI.out.both HL.out.both).get hx
      have HX := Lib.hid hx
      have HW1 := Lib.hid (HWF.out _ (List.mem_of_getElem? hx))
      clear hx
      cases hq : rightX ⟨kd, ⟨xo, xd, xa, xb, xn⟩, xs, xm⟩ with
      | false =>
        have HE : Hid (layE l = 1) := by
          show layE l = 1
          unfold layE
          rw [if_neg (by omega), if_pos (not_all HX.out hq)]
        have HQ := Lib.hid hq
        clear hq
        go_wp2_with fail
        refine (rightX_lit HQ.out HW1.out _).mono ?_
        rintro e w1 ⟨rfl, hb1⟩
        have hbw := (HL.out.both.alloc #[.int .i64 kd, .int .i64 xo, .int .i64 xd, .int .i64 xa, .int .i64 xb, .int .i64 xn, .string xs, .int .i64 xm] 26).trans hb1
        have hres := ((((Both.refl wr).alloc #[.int .i64 kd, .int .i64 xo, .int .i64 xd, .int .i64 xa, .int .i64 xb, .int .i64 xn, .string xs, .int .i64 xm] 26).trans hb1).1.block _ (lt_of_heap HL.out.res)).trans HL.out.res
        have r0 := cell_of_heap hres 0
        have r1 := cell_of_heap hres 1
        have r2 := cell_of_heap hres 2
        have r3 := cell_of_heap hres 3
        have f0 := frozen_of_heap hres 0
        have f1 := frozen_of_heap hres 1
        have f2 := frozen_of_heap hres 2
        have f3 := frozen_of_heap hres 3
        simp only [noLayer, List.getElem?_toArray, List.getElem?_cons_zero, List.getElem?_cons_succ] at r0 r1 r2 r3
        have HB := Lib.hid hbw
        have HRES := Lib.hid hres
        clear hbw hres hb1 c0 c1 c2 c3 c4 c5 c6 c7
        go_wp2_with fail
        refine bodyPost_ret (v := .tuple #[.agg noLayer, .int .i64 1]) (results_cell_slot Try.results32 _ _ w.heap.size _ _ _ _ _ rfl rfl (set4 HRES.out _ _ _ _) Try.underlying57 rfl lay_size) rfl ?_
        exact ⟨both4 HB.out (Nat.le_refl _) _ _ _ _, Or.inl ⟨by rw [HE.out]; decide, by rw [HE.out]⟩⟩
      | true =>
        have HQ := Lib.hid hq
        clear hq
        go_wp2_with (go_at_call 23; ((with_reducible refine (rightX_lit HQ.out HW1.out _).mono ?_); rintro e w1 ⟨rfl, hb1⟩))
        have HST := Lib.hid (HL.out.step (((Both.refl wr).alloc _ _).trans hb1) HX.out HQ.out)
        clear hb1
        go_roundw
        case rel => exact ⟨k + 1, hlt, by go_num, HST.out⟩
        case measure => simp [intOf]; omega
    · obtain rfl : k = l.length := by omega
      go_wp2_with fail
      have hall : ∀ x ∈ l, rightX x = true := fun x hx => by
        obtain ⟨j, hj⟩ := List.mem_iff_getElem?.1 hx
        exact HL.out.ok j x (List.getElem?_eq_some_iff.1 hj).1 hj
      have HALL := Lib.hid hall
      clear hall
      refine (targets_any b o c l wr (HI.out.both HL.out.both) hlen HWF).mono ?_
      rintro e w1 ⟨hb1, ⟨hok, TB, rfl, hTB, hT⟩ | ⟨hok, rfl⟩⟩
      · have HOK := Lib.hid hok
        have HB1 := Lib.hid (HL.out.both.trans hb1)
        have HRES : Hid (w1.heap[w.heap.size]? = some (.cells noLayer 57 (0, 0))) := (hb1.1.block _ (lt_of_heap HL.out.res)).trans HL.out.res
        have HTT := Lib.hid hT
        clear hb1 hok hT
        go_wp2_with fail
        have hTs := lt_of_heap HTT.out
        have hws := lt_of_heap HRES.out
        have hTw : w.heap.size ≤ TB := by have := HL.out.both.1.size; omega
        have hLc : Lc w (w1.alloc (.cells #[.slice none 0 0, .slice (some ⟨b, o, none⟩) l.length c, .slice none 0 0, .slice (some ⟨TB, 0, none⟩) l.length l.length] 57)) l w1.heap.size TB (.slice (some ⟨b, o, none⟩) l.length c) (.slice (some ⟨TB, 0, none⟩) l.length l.length) (.slice none 0 0) 0 :=
          ⟨HB1.out.alloc _ _, (heap_alloc_old _ _ hws).trans HRES.out, heap_alloc_new _ _, IRow.nil _ _, (heap_alloc_old _ _ hTs).trans HTT.out, fun h => by omega⟩
        have HLC := Lib.hid hLc
        clear hLc HRES HTT HB1 HL hk hlt
        generalize w1.alloc (.cells #[.slice none 0 0, .slice (some ⟨b, o, none⟩) l.length c, .slice none 0 0, .slice (some ⟨TB, 0, none⟩) l.length l.length] 57) = W0 at HLC ⊢
        generalize w1.heap.size = y at HLC hTs hws ⊢
        go_loopw [39] (fun i wr => ∃ k : Nat, k ≤ l.length ∧ i = .int .i64 k ∧ ∃ v, Hid (Lc w wr l y TB (.slice (some ⟨b, o, none⟩) l.length c) (.slice (some ⟨TB, 0, none⟩) l.length l.length) v k)) (fun i _ => l.length - (intOf i).toNat)
        case atStart => exact ⟨0, by omega, rfl, _, HLC.out⟩
        case round =>
          obtain ⟨k, hk, rfl, v, HC⟩ := hrel
          by_cases hlt : k < l.length
          · obtain ⟨kd, xo, xd, xa, xb, xn, xm, xs, hx⟩ := items_one hlt
            obtain ⟨c0, c1, c2, c3, c4, c5, c6, c7⟩ := (HI.out.both HC.out.both).get hx
            have HX := Lib.hid hx
            have HW1 := Lib.hid (HWF.out _ (List.mem_of_getElem? hx))
            have HRX := Lib.hid (HALL.out _ (List.mem_of_getElem? hx))
            obtain ⟨s0, hs0⟩ : ∃ s0, ((size1 ⟨kd, ⟨xo, xd, xa, xb, xn⟩, xs, xm⟩ : Nat) : Int) = s0 := ⟨_, rfl⟩
            have HS0 := Lib.hid hs0
            clear hx hs0
            go_upto_region 16 with (fail)
            have hb2 : Both wr (wr.alloc (.cells #[.int .i64 kd, .int .i64 xo, .int .i64 xd, .int .i64 xa, .int .i64 xb, .int .i64 xn, .string xs, .int .i64 xm] 26)) := (Both.refl wr).alloc _ _
            have hX := heap_alloc_new wr (.cells #[.int .i64 kd, .int .i64 xo, .int .i64 xd, .int .i64 xa, .int .i64 xb, .int .i64 xn, .string xs, .int .i64 xm] 26)
            have e0 := cell_of_heap hX 0
            have e1 := cell_of_heap hX 1
            have e2 := cell_of_heap hX 2
            have e3 := cell_of_heap hX 3
            have e4 := cell_of_heap hX 4
            have e5 := cell_of_heap hX 5
            have e6 := cell_of_heap hX 6
            have e7 := cell_of_heap hX 7
            have hy2 := (hb2.1.block _ (lt_of_heap HC.out.lay)).trans HC.out.lay
            have q2 := cell_of_heap hy2 2
            simp only [List.getElem?_toArray, List.getElem?_cons_zero, List.getElem?_cons_succ] at e0 e1 e2 e3 e4 e5 e6 e7 q2
            have HY2 := Lib.hid hy2
            have HB2 := Lib.hid hb2
            clear hb2 hX hy2 c0 c1 c2 c3 c4 c5 c6 c7
            generalize wr.alloc (.cells #[.int .i64 kd, .int .i64 xo, .int .i64 xd, .int .i64 xa, .int .i64 xb, .int .i64 xn, .string xs, .int .i64 xm] 26) = W2 at e0 e1 e2 e3 e4 e5 e6 e7 q2 HY2 HB2 ⊢
            have HROW : Hid (∀ W, Both W2 W → IRow W (y + 1) v ((szs l none').take k) ∧ W.heap[y]? = some (.cells #[.slice none 0 0, .slice (some ⟨b, o, none⟩) l.length c, v, .slice (some ⟨TB, 0, none⟩) l.length l.length] 57 (0, 0)) ∧ W.cell? ⟨y, 2, none⟩ = some v ∧ y + 1 ≤ W.heap.size) := fun W h =>
              ⟨ownsRow_sav HC.out.row ((HB2.out.trans h).sav fun _ => False) (fun _ _ => id), (h.1.block _ (lt_of_heap HY2.out)).trans HY2.out, (h.cell (p := ⟨y, 2, none⟩) (lt_of_heap HY2.out)).trans q2, by have h1 := lt_of_heap HY2.out; have h2 := h.1.size; omega⟩
            have HNY : Hid (∀ k, v.ownBlock = some k → k ≠ y) := fun k hk => by have := (HC.out.row.lt k hk).1; omega
            have HTL : Hid (((szs l none').take k).length + 1 ≤ 1099511627776) := by
              show _ ≤ _
              rw [List.length_take, szs_len]
              omega
            go_region_law (first
              | (refine step_lay rfl (.tmp 44) (.tmp 47) rfl y (y + 1) v ((szs l none').take k) s0 (.slice none 0 0) (.slice (some ⟨b, o, none⟩) l.length c) (.slice (some ⟨TB, 0, none⟩) l.length l.length) (by simp [Act.eval]) (by simp [Act.eval]) (HROW.out _ ((Both.refl _).drew.trans hb9)).1 (HROW.out _ ((Both.refl _).drew.trans hb9)).2.1 HNY.out HTL.out (HROW.out _ ((Both.refl _).drew.trans hb9)).2.2.2 ?_; intro B' n' c' W' hc2 hf2 HF2)
              | (go_simp; refine (sizeOf_lit HS0.out HRX.out HW1.out _).mono ?_; rintro e w9 ⟨rfl, hb9⟩; have z2 := (HROW.out _ ((Both.refl _).drew.trans hb9)).2.2.1; have z3 : (w9.alloc (.cells #[.int .i64 s0] 3)).cell? ⟨y, 2, none⟩ = some v := (World.cell?_alloc_lt _ _ _ (by have := (HROW.out _ ((Both.refl _).drew.trans hb9)).2.2.2; simp only; omega)).trans z2))
            all_goals
              have HNX := Lib.hid (HC.out.next (HB2.out.trans ((Both.refl _).drew.trans hb9)) (by have h1 := HF2.out; rw [← HS0.out] at h1; exact h1) HX.out hws hTs hTw)
              clear HF2 hc2 hf2 e0 e1 e2 e3 e4 e5 e6 e7 q2 hb9
              go_wp2_with fail
              go_roundw
              case rel => exact ⟨k + 1, hlt, by go_num, _, HNX.out⟩
              case measure => simp [intOf]; omega
          · obtain rfl : k = l.length := by omega
            have htk : (szs l none').take l.length = szs l none' := List.take_of_length_le (by rw [szs_len]; exact Nat.le_refl _)
            have hrow := HC.out.row
            rw [htk] at hrow
            obtain ⟨SB, sc, hv, hSy, hSs, hSat, _⟩ := hrow.form (HC.out.first hpos)
            rw [szs_len] at hv
            subst hv
            have HRW := Lib.hid hrow
            have HSA := Lib.hid hSat
            have HAR : Hid (allRight l) := fun x hx => ⟨HALL.out x hx, HWF.out x hx⟩
            have HIT := Lib.hid (HI.out.both HC.out.both)
            have HBO := Lib.hid HC.out.both
            have HRS := Lib.hid HC.out.res
            have HLY := Lib.hid HC.out.lay
            have HTO := Lib.hid (ints_at0 HC.out.tos)
            have hw0 := HC.out.both.1.size
            have hb0 := HI.out.1
            clear hrow hSat htk HC hlt hk HLC
            go_wp2_with fail
            refine (reckon_any y SB l.length c sc (some ⟨b, o, none⟩) _ _ _ _ (szs l none') wr rfl rfl HLY.out HSA (Lib.hid (szs_len l none')) hlen (Lib.hid (szs_bd HAR.out none')) (by omega)).mono ?_
            rintro e w2 ⟨rfl, PB, hPB, hk2⟩
            rw [szs_len] at hk2
            have hl2 := hk2.lay
            rw [szs_len] at hl2
            have hLB : LayB w2 y l b o c PB (l.length + 1) TB (.slice (some ⟨SB, 0, none⟩) l.length sc) :=
              ⟨hl2, HIT.out.sav hk2.sav (by omega), ints_at hk2.row, HTO.out.sav hk2.sav (by omega)⟩
            have hrow2 : IRow w2 (y + 1) (.slice (some ⟨SB, 0, none⟩) l.length sc) (szs l none') := by
              refine ownsRow_sav ?_ hk2.sav (fun k hk e => by have : SB = k := Option.some.inj hk; omega)
              exact HRW.out
            have HK2 := Lib.hid hk2
            have HLB := Lib.hid hLB
            have HR2 := Lib.hid hrow2
            clear hk2 hl2 hLB hrow2
            go_wp2_with fail
            refine (lengthen_any y b o c PB (l.length + 1) TB SB sc (y + 1) l w2 HLB HR2 hlen HAR (Lib.hid (to_lt hpos)) (Lib.hid (toLab_ok HOK.out)) (by omega)).mono ?_
            rintro e w3 ⟨rfl, hr3, hs3⟩
            have hl3 := (hs3.block y (lt_of_heap HLB.out.lay) (by omega)).trans HLB.out.lay
            have HR3 := Lib.hid hr3
            have HS3 := Lib.hid hs3
            have HL3 := Lib.hid hl3
            obtain ⟨SB', sc', hv', _, _, hSA3, _⟩ := hr3.form (by simp)
            obtain rfl : SB = SB' := by
              simp only [Value.slice.injEq, Option.some.injEq, Addr.mk.injEq, and_true] at hv'
              exact hv'.1
            have HSA3 := Lib.hid hSA3
            clear hr3 hs3 hl3 hv' hSA3
            go_wp2_with fail
            refine (reckon_any y SB l.length c sc (some ⟨b, o, none⟩) _ _ _ _ (szs l (Lb.fin l)) w3 rfl rfl HL3.out HSA3 (Lib.hid (szs_len l _)) hlen (Lib.hid (szs_bd HAR.out _)) (by omega)).mono ?_
            rintro e w4 ⟨rfl, P4, hP4, hk4⟩
            rw [szs_len] at hk4
            have hl4 := hk4.lay
            rw [szs_len] at hl4
            have hpl := ints_at hk4.row
            have hend := hpl.2 l.length _ (sumsTo_get _ _ _ (Nat.le_refl _))
            rw [Nat.zero_add, sumAt_place _ _ _ (Nat.le_refl _)] at hend
            have y0 := cell_of_heap hl4 0
            have y1 := cell_of_heap hl4 1
            have y2 := cell_of_heap hl4 2
            have y3 := cell_of_heap hl4 3
            simp only [List.getElem?_toArray, List.getElem?_cons_zero, List.getElem?_cons_succ] at y0 y1 y2 y3
            have hs23 : Sav (fun j => j = SB) w2 w3 := HS3.out
            have z2 := HK2.out.sav.size
            have z3 := hs23.size
            have z4 := hk4.sav.size
            have hSAV : Sav (fun j => y ≤ j) wr w4 := ((HK2.out.sav.mono (T := fun j => y ≤ j) (fun k _ e => by omega)).trans (hs23.mono (fun k _ e => by omega))).trans (hk4.sav.mono (fun k _ e => by omega))
            have hres4 := (hSAV.block w.heap.size (lt_of_heap HRS.out) (by omega)).trans HRS.out
            have r0 := cell_of_heap hres4 0
            have r1 := cell_of_heap hres4 1
            have r2 := cell_of_heap hres4 2
            have r3 := cell_of_heap hres4 3
            simp only [noLayer, List.getElem?_toArray, List.getElem?_cons_zero, List.getElem?_cons_succ] at r0 r1 r2 r3
            have f0 := frozen_of_heap hres4 0
            have f1 := frozen_of_heap hres4 1
            have f2 := frozen_of_heap hres4 2
            have f3 := frozen_of_heap hres4 3
            have HRES4 := Lib.hid hres4
            have HB4 := Lib.hid (hSAV.both HBO.out (fun j hj => by omega))
            have HP4 := Lib.hid hpl
            have HSZ4 := Lib.hid (HSA3.out.sav hk4.sav (by omega))
            have HT4 := Lib.hid (HTO.out.sav hSAV (by omega))
            have hpb := place_bd HAR.out (Lb.fin l) l.length
            have HE : Hid (layE l = if 65536 < place l (Lb.fin l) l.length then 2 else 0) := by
              show layE l = _
              unfold layE
              rw [if_neg (by omega), if_neg (by rw [List.all_eq_true.2 HALL.out]; decide), if_neg (by rw [HOK.out]; decide)]
            generalize place l (Lb.fin l) l.length = pe at hend hpb HE
            clear hk4 hl4 hpl hres4 hSAV HRS HBO HSA3 HTO HL3 HS3 HR3 HK2 HLB HR2 HSA HRW HIT HLY hs23
            go_wp2_with (go_at_call 34; refine (end_any P4 (l.length + 1) (l.length + 1) (4 * pe) _ (by omega) (by omega) (by exact hend)).mono ?_; rintro e w' ⟨rfl, rfl⟩)
            · have HE2 : Hid (layE l = 2) := by
                show layE l = 2
                rw [HE.out, if_pos (by omega)]
              refine bodyPost_ret (v := .tuple #[.agg noLayer, .int .i64 2]) (results_cell_slot Try.results32 _ _ w.heap.size _ _ _ _ _ rfl rfl (set4 HRES4.out _ _ _ _) Try.underlying57 rfl lay_size) rfl ?_
              exact ⟨both4 HB4.out (Nat.le_refl _) _ _ _ _, Or.inl ⟨by rw [HE2.out]; decide, by rw [HE2.out]⟩⟩
            · have HE2 : Hid (layE l = 0) := by
                show layE l = 0
                rw [HE.out, if_neg (by omega)]
              refine bodyPost_ret (v := .tuple #[.agg #[.slice (some ⟨P4, 0, none⟩) (l.length + 1) (l.length + 1), .slice (some ⟨b, o, none⟩) l.length c, .slice (some ⟨SB, 0, none⟩) l.length sc, .slice (some ⟨TB, 0, none⟩) l.length l.length], .int .i64 0]) (results_cell_slot Try.results32 _ _ w.heap.size _ _ _ _ _ rfl rfl (set4 HRES4.out _ _ _ _) Try.underlying57 rfl lay_size) rfl ?_
              have h4 : Sav (fun j => j = w.heap.size) w4 ((((w4.setCell ⟨w.heap.size, 0, none⟩ (.slice (some ⟨P4, 0, none⟩) (l.length + 1) (l.length + 1))).setCell ⟨w.heap.size, 1, none⟩ (.slice (some ⟨b, o, none⟩) l.length c)).setCell ⟨w.heap.size, 2, none⟩ (.slice (some ⟨SB, 0, none⟩) l.length sc)).setCell ⟨w.heap.size, 3, none⟩ (.slice (some ⟨TB, 0, none⟩) l.length l.length)) :=
                Sav.setCell (p := ⟨w.heap.size, 3, none⟩) (Sav.setCell (p := ⟨w.heap.size, 2, none⟩) (Sav.setCell (p := ⟨w.heap.size, 1, none⟩) (Sav.setCell (p := ⟨w.heap.size, 0, none⟩) (Sav.refl (fun j => j = w.heap.size) w4) (Or.inl rfl) _) (Or.inl rfl) _) (Or.inl rfl) _) (Or.inl rfl) _
              have hTr : TB ≠ w.heap.size := fun e => by
                have h1 := cell_of_heap HRES4.out 0
                have h2 := HT4.out.2 0 _ (tos_get (by omega))
                rw [e, Nat.zero_add] at h2
                rw [h1] at h2
                simp [noLayer] at h2
              exact ⟨both4 HB4.out (Nat.le_refl _) _ _ _ _, Or.inr ⟨HE2.out, P4, SB, sc, TB, rfl, HP4.out.sav h4 (by omega), HSZ4.out.sav h4 (by omega), HT4.out.sav h4 hTr⟩⟩
      · have HE : Hid (layE l = 30) := by
          show layE l = 30
          unfold layE
          rw [if_neg (by omega), if_neg (by rw [List.all_eq_true.2 HALL.out]; decide), if_pos hok]
        have hres := (hb1.1.block _ (lt_of_heap HL.out.res)).trans HL.out.res
        have r0 := cell_of_heap hres 0
        have r1 := cell_of_heap hres 1
        have r2 := cell_of_heap hres 2
        have r3 := cell_of_heap hres 3
        have f0 := frozen_of_heap hres 0
        have f1 := frozen_of_heap hres 1
        have f2 := frozen_of_heap hres 2
        have f3 := frozen_of_heap hres 3
        simp only [noLayer, List.getElem?_toArray, List.getElem?_cons_zero, List.getElem?_cons_succ] at r0 r1 r2 r3
        have HB := Lib.hid (HL.out.both.trans hb1)
        have HRES := Lib.hid hres
        clear hres hb1 hok
        go_wp2_with fail
        refine bodyPost_ret (v := .tuple #[.agg noLayer, .int .i64 30]) (results_cell_slot Try.results32 _ _ w.heap.size _ _ _ _ _ rfl rfl (set4 HRES.out _ _ _ _) Try.underlying57 rfl lay_size) rfl ?_
        exact ⟨both4 HB.out (Nat.le_refl _) _ _ _ _, Or.inl ⟨by rw [HE.out]; decide, by rw [HE.out]⟩⟩
end Go.Proofs.Ytjjbfeoidceiiaa
