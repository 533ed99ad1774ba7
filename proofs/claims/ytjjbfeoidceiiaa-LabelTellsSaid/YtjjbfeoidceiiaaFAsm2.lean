/- What the document's own instrs and Encode answer. -/
import Derived.Test.YtjjbfeoidceiiaaFPl2
import Derived.Test.YtjjbfeoidceiiaaFEnc
import Derived.Test.YtjjbfeoidceiiaaFLaid
namespace Go.Proofs.Ytjjbfeoidceiiaa
open Go.RowKit Rv Lb
set_option linter.unusedVariables false
theorem encR_val {op d a b n v : Int} (h : encV ⟨op, d, a, b, n⟩ = v) (w : World) : Calls Try.prog 39 #[.agg #[.int .i64 op, .int .i64 d, .int .i64 a, .int .i64 b, .int .i64 n]] w fun e w' => (∃ u : Int, e = .returned (.tuple #[.int .i64 v, .int .i64 u])) ∧ Both w w' := by
  unfold encV at h
  cases hr : right ⟨op, d, a, b, n⟩ with
  | true =>
    rw [hr, if_pos rfl] at h
    exact (encR_any hr h w).mono fun e w' ⟨h1, h2⟩ => ⟨⟨0, h1⟩, h2⟩
  | false =>
    rw [hr] at h
    obtain rfl : v = 0 := by simpa using h.symm
    exact (encR_no op d a b n hr w).mono fun e w' ⟨h1, h2⟩ => ⟨⟨1, h1⟩, h2⟩
theorem opposite3 {op o : Int} (hB : isB op = true) (h : opp op = o) (w : World) : Calls Try.prog 26 #[.int .i64 op] w fun e w' => e = .returned (.int .i64 o) ∧ w = w' := by
  subst h
  unfold isB at hB
  rw [decide_eq_true_eq] at hB
  have h6 : op = 5 ∨ op = 6 ∨ op = 7 ∨ op = 8 ∨ op = 9 ∨ op = 10 := by omega
  clear hB
  rcases h6 with rfl | rfl | rfl | rfl | rfl | rfl
  all_goals
    go_enter Try.func26, Try.ntmps26
    go_wp2
    go_ret
    exact ⟨rfl, rfl⟩
theorem info_ins5 : ∃ i : TypeInfo, Try.prog.info? 24 = some i ∧ (∃ z, i.zero = some z ∧ z.cells.size = 5) ∧ i.size = 5 ∧ i.bytes = 40 := ⟨(Try.prog.info? 24).get (by kernel_rfl), by kernel_rfl, ⟨.agg #[.int .i64 0, .int .i64 0, .int .i64 0, .int .i64 0, .int .i64 0], by kernel_rfl, rfl⟩, by kernel_rfl, by kernel_rfl⟩
theorem flat5_get {l : List Ins} {j k : Nat} {x : Ins} {u : Value} (hj : l[j]? = some x) (hu : (cells5 x)[k]? = some u) : (l.flatMap cells5)[j * 5 + k]? = some u := by
  have hk5 : k < 5 := by have := (List.getElem?_eq_some_iff.1 hu).1; simpa [cells5] using this
  induction l generalizing j with
  | nil => simp at hj
  | cons y l ih =>
    rw [List.flatMap_cons]
    cases j with
    | zero =>
      simp only [List.getElem?_cons_zero, Option.some.injEq] at hj
      subst hj
      rw [Nat.zero_mul, Nat.zero_add, List.getElem?_append_left (by simpa [cells5] using hk5)]
      exact hu
    | succ j =>
      simp only [List.getElem?_cons_succ] at hj
      rw [List.getElem?_append_right (by simp [cells5]; omega), show (j + 1) * 5 + k - (cells5 y).length = j * 5 + k by simp [cells5]; omega]
      exact ih hj
theorem len5 (l : List Ins) : (l.flatMap cells5).length = l.length * 5 := by
  induction l with
  | nil => rfl
  | cons x l ih => rw [List.flatMap_cons, List.length_append, ih, List.length_cons]; simp [cells5]; omega
/-- a row of instructions of the call's own -/
abbrev NRow (w : World) (base : Nat) (v : Value) (l : List Ins) : Prop := w.ownsRow base 24 5 v l.length (l.flatMap cells5)
theorem nrow_one {w : World} {base : Nat} {v : Value} {l : List Ins} (h : NRow w base v l) (ty : TypeId) (B : Nat) (y : Ins) (hc : ∀ j u, (cells5 y)[j]? = some u → w.cell? ⟨B, j, none⟩ = some u) (hlen : l.length ≤ 5000) (hbase : base ≤ w.heap.size) :
    ∃ v' w', (Builtin.append_ #[37, 37] ty #[v, .slice (some ⟨B, 0, none⟩) 1 1]).run Try.prog w = .ok v' w' ∧ NRow w' base v' (l ++ [y]) ∧ Sav (fun k => v.ownBlock = some k) w w' ∧ v' ≠ .slice none 0 0 := by
  obtain ⟨i, hi, ⟨z, hz, hzs⟩, hsz, hb⟩ := info_ins5
  obtain ⟨v', w', hrun, h1, h2, h3⟩ := append_sav (P := Try.prog) w base 37 ty 24 i z 5 40 Try.underlying37 hi hz hsz hb hzs (by decide) v l.length _ h ⟨B, 0, none⟩ 1 1 (cells5 y) rfl
    (by intro j u hj; rw [Addr.add_lit, Nat.zero_add]; exact hc j u hj) (by intro u hu; simp only [cells5, List.mem_cons, List.not_mem_nil, or_false] at hu; rcases hu with rfl | rfl | rfl | rfl | rfl <;> rfl) (by unfold maxLen; omega) (by omega) hbase (Or.inl (by omega))
  have e1 : (l ++ [y]).length = l.length + 1 := by simp
  have e2 : (l ++ [y]).flatMap cells5 = l.flatMap cells5 ++ cells5 y := by simp
  refine ⟨v', w', hrun, ?_, h2, h3⟩
  unfold NRow
  rw [e1, e2]
  exact h1
theorem NRow.ins {w : World} {base : Nat} {v : Value} {l : List Ins} (h : NRow w base v l) : ∃ p c, v = .slice p l.length c ∧ InsAt w p l ∧ ∀ a : Addr, p = some a → ∃ cs fr, w.heap[a.block]? = some (.cells cs 24 fr) := by
  rcases h.2 with ⟨rfl, h0⟩ | ⟨g, cap, cur, rfl, hb, hg, hnc, hcm, hcs, htake⟩
  · have hl : l = [] := List.eq_nil_of_length_eq_zero (by simpa using h0)
    subst hl
    exact ⟨none, 0, rfl, InsAt.none _ _, fun a h => by cases h⟩
  · have hlt := (Array.getElem?_eq_some_iff.1 hg).1
    refine ⟨_, cap, rfl, fun j x hj => ⟨g, 0, rfl, hlt, fun k u hu => ?_⟩, fun a h => by cases h; exact ⟨_, _, hg⟩⟩
    have hjl := (List.getElem?_eq_some_iff.1 hj).1
    have hk5 : k < 5 := by have := (List.getElem?_eq_some_iff.1 hu).1; simpa [cells5] using this
    rw [Nat.zero_add, World.ownsRow.cellAt h (j * 5 + k) (by omega)]
    exact flat5_get hj hu
/-- the instructions of an item, long or not -/
def instrRef (x : Itm) (lg : Bool) (far : Int) : List Ins :=
  if x.kind = 1 then [x.i] else if x.kind = 3 then (if lg then [⟨opp x.i.op, x.i.d, x.i.a, x.i.b, 8⟩, ⟨3, 0, 0, 0, far - 4⟩] else [⟨x.i.op, x.i.d, x.i.a, x.i.b, far⟩]) else if x.kind = 4 then number x.i.d x.n else if x.kind = 5 then List.replicate x.n.toNat nopI else []
theorem wpList_nrow {ops : Array Oper} {rest : List Oper} {o : Oper} {a : Act} {w : World} {Q : Exit → Act → World → Prop} (hgd : o.guard = none) (s x : Operand)
    (ho : o.op = .call { callee := .builtin .append, args := #[s, x], argTypes := #[37, 37] }) (base : Nat) (v : Value) (l : List Ins) (hs : a.eval s = v) (h : NRow w base v l) (B : Nat) (y : Ins) (hx : a.eval x = .slice (some ⟨B, 0, none⟩) 1 1)
    (hc : ∀ j u, (cells5 y)[j]? = some u → w.cell? ⟨B, j, none⟩ = some u) (hlen : l.length ≤ 5000) (hbase : base ≤ w.heap.size)
    (hK : ∀ v' w', NRow w' base v' (l ++ [y]) → Sav (fun k => v.ownBlock = some k) w w' → v' ≠ .slice none 0 0 → wpList Try.prog ops Q rest (a.put o.dst v') w') : wpList Try.prog ops Q (o :: rest) a w := by
  obtain ⟨v', w', hrun, h1, h2, h3⟩ := nrow_one h o.type B y hc hlen hbase
  exact wpList_app hgd s x _ ho v _ v' hs hx hrun (hK v' w' h1 h2 h3)
theorem new5 (W : World) (t : TypeId) (y : Ins) : ∀ j u, (cells5 y)[j]? = some u → (W.alloc (.cells #[.int .i64 y.op, .int .i64 y.d, .int .i64 y.a, .int .i64 y.b, .int .i64 y.n] t)).cell? ⟨W.heap.size, j, none⟩ = some u := by
  intro j u hj
  rw [← List.getElem?_toArray] at hj
  exact (World.cell?_alloc_new W _ _ j).trans hj
set_option maxHeartbeats 2000000 in
theorem instrsR_any (k o d a b n m far : Int) (s : ByteArray) (lg : Bool) (hr : rightX ⟨k, ⟨o, d, a, b, n⟩, s, m⟩ = true) (hm : inInt m) (hl : lg = true → isBr ⟨k, ⟨o, d, a, b, n⟩, s, m⟩ = true) (f1 : -2000000000 ≤ far) (f2 : far ≤ 2000000000) (w : World) :
    Calls Try.prog 38 #[.agg #[.int .i64 k, .int .i64 o, .int .i64 d, .int .i64 a, .int .i64 b, .int .i64 n, .string s, .int .i64 m], .bool lg, .int .i64 far] w (InsNew (instrRef ⟨k, ⟨o, d, a, b, n⟩, s, m⟩ lg far) w) := by
  have HM := Lib.hid hm
  have HR := Lib.hid hr
  have HL := Lib.hid hl
  clear hm hr hl
  by_cases h1 : k = 1
  · subst h1
    have e : instrRef ⟨1, ⟨o, d, a, b, n⟩, s, m⟩ lg far = [⟨o, d, a, b, n⟩] := rfl
    rw [e]
    clear e
    go_enter Try.func38, Try.ntmps38
    go_wp2_with fail
    go_ret
    exact ⟨_, _, rfl, insAt_one (by simp) _ ⟨o, d, a, b, n⟩, (((Both.refl _).alloc _ _).alloc _ _).alloc _ _, fun a h => by cases h; exact ⟨_, _, new_heap (by simp) _⟩⟩
  by_cases h2 : k = 2
  · subst h2
    have e : instrRef ⟨2, ⟨o, d, a, b, n⟩, s, m⟩ lg far = [] := rfl
    rw [e]
    clear e h1
    go_enter Try.func38, Try.ntmps38
    go_wp2_with fail
    go_ret
    exact ⟨none, 0, rfl, InsAt.none _ _, ((Both.refl _).alloc _ _).alloc _ _, fun a h => by cases h⟩
  by_cases h4 : k = 4
  · subst h4
    have e : instrRef ⟨4, ⟨o, d, a, b, n⟩, s, m⟩ lg far = number d m := rfl
    rw [e]
    clear e h1 h2
    go_enter Try.func38, Try.ntmps38
    go_wp2_with fail
    refine (numberR_any d m HM.out _).mono ?_
    rintro e w1 ⟨P, pc, rfl, hat, hb, hty⟩
    have HTY := Lib.hid hty
    clear hty
    go_wp2_with fail
    go_ret
    exact ⟨P, pc, rfl, hat, (((Both.refl _).alloc _ _).alloc _ _).trans hb, HTY.out⟩
  by_cases h3 : k = 3
  · subst h3
    cases lg with
    | true =>
      have hB : isB o = true := by
        have := HL.out rfl
        unfold isBr at this
        simpa using this
      obtain ⟨q, hq⟩ : ∃ q, opp o = q := ⟨_, rfl⟩
      have e : instrRef ⟨3, ⟨o, d, a, b, n⟩, s, m⟩ true far = [⟨q, d, a, b, 8⟩, ⟨3, 0, 0, 0, far - 4⟩] := by unfold instrRef; simp [hq]
      rw [e]
      have HB := Lib.hid hB
      have HQ := Lib.hid hq
      clear e h1 h2 h4 hB hq
      go_enter Try.func38, Try.ntmps38
      go_wp2_with (go_at_call 26; ((with_reducible refine (opposite3 HB.out HQ.out _).mono ?_); rintro e w' ⟨rfl, rfl⟩))
      go_ret
      exact ⟨_, _, rfl, insAt_two (by simp) _ ⟨q, d, a, b, 8⟩ ⟨3, 0, 0, 0, far - 4⟩, (((Both.refl _).alloc _ _).alloc _ _).alloc _ _, fun a h => by cases h; exact ⟨_, _, new_heap (by simp) _⟩⟩
    | false =>
      have e : instrRef ⟨3, ⟨o, d, a, b, n⟩, s, m⟩ false far = [⟨o, d, a, b, far⟩] := rfl
      rw [e]
      clear e h1 h2 h4
      go_enter Try.func38, Try.ntmps38
      go_wp2_with fail
      go_ret
      exact ⟨_, _, rfl, insAt_one (by simp) _ ⟨o, d, a, b, far⟩, (((Both.refl _).alloc _ _).alloc _ _).alloc _ _, fun a h => by cases h; exact ⟨_, _, new_heap (by simp) _⟩⟩
  by_cases h5 : k = 5
  · subst h5
    have e : instrRef ⟨5, ⟨o, d, a, b, n⟩, s, m⟩ lg far = List.replicate m.toNat nopI := rfl
    rw [e]
    have hr := HR.out
    unfold rightX at hr
    simp at hr
    obtain ⟨M, rfl⟩ := Int.eq_ofNat_of_zero_le (show 0 ≤ m by omega)
    have hM : M ≤ 4096 := by omega
    rw [show ((M : Int)).toNat = M by omega]
    clear e h1 h2 h4 h3 hr
    go_enter Try.func38, Try.ntmps38
    go_wp2_with fail
    have hb0 := ((Both.refl w).alloc #[.int .i64 5, .int .i64 o, .int .i64 d, .int .i64 a, .int .i64 b, .int .i64 n, .string s, .int .i64 (M : Int)] 26).alloc #[.int .i64 o, .int .i64 d, .int .i64 a, .int .i64 b, .int .i64 n] 24
    have hx0 := (heap_alloc_old (w.alloc (.cells #[.int .i64 5, .int .i64 o, .int .i64 d, .int .i64 a, .int .i64 b, .int .i64 n, .string s, .int .i64 (M : Int)] 26)) (.cells #[.int .i64 o, .int .i64 d, .int .i64 a, .int .i64 b, .int .i64 n] 24) (by simp : w.heap.size < _)).trans (heap_alloc_new w (.cells #[.int .i64 5, .int .i64 o, .int .i64 d, .int .i64 a, .int .i64 b, .int .i64 n, .string s, .int .i64 (M : Int)] 26))
    generalize (w.alloc (.cells #[.int .i64 5, .int .i64 o, .int .i64 d, .int .i64 a, .int .i64 b, .int .i64 n, .string s, .int .i64 (M : Int)] 26)).alloc (.cells #[.int .i64 o, .int .i64 d, .int .i64 a, .int .i64 b, .int .i64 n] 24) = W0 at hb0 hx0 ⊢
    have HB0 := Lib.hid hb0
    generalize w.heap.size = xB at hx0 ⊢
    have hc7 := cell_of_heap hx0 7
    simp only [List.getElem?_toArray, List.getElem?_cons_zero, List.getElem?_cons_succ] at hc7
    have hlx := lt_of_heap hx0
    have HC7 : Hid (∀ W, Both W0 W → W.cell? ⟨xB, 7, none⟩ = some (.int .i64 (M : Int))) := fun W h => (h.cell (p := ⟨xB, 7, none⟩) hlx).trans hc7
    clear hb0 hx0 hc7 hlx
    go_loopw [8, 9] (fun v i wr => ∃ j : Nat, j ≤ M ∧ i = .int .i64 j ∧ Hid (Both W0 wr ∧ NRow wr W0.heap.size v (List.replicate j nopI))) (fun _ i _ => M - (intOf i).toNat)
    case atStart => exact ⟨0, Nat.zero_le _, rfl, Both.refl _, World.ownsRow_nil _ _ _ _⟩
    case round =>
      obtain ⟨j, hj, rfl, HA⟩ := hrel
      have c7 := HC7.out _ HA.out.1
      by_cases hlt : j < M
      · have hj' : (j : Int) < (M : Int) := by omega
        have HLT := Lib.hid hlt
        have HLL := Lib.hid (show (List.replicate j nopI).length ≤ 5000 by rw [List.length_replicate]; omega)
        clear hlt
        go_wp2_with (at_builtin; refine wpList_nrow rfl (.tmp 33) (.tmp 35) rfl W0.heap.size u8 (List.replicate j nopI) rfl (ownsRow_sav HA.out.2 (((Both.refl _).alloc _ _).sav fun _ => False) (fun _ _ => id)) wr.heap.size nopI rfl (new5 wr _ nopI) HLL.out (HA.out.1.alloc #[.int .i64 13, .int .i64 0, .int .i64 0, .int .i64 0, .int .i64 0] 24).1.size ?_; intro v' w5 h1 h2 h3)
        have HN : Hid (Both W0 w5 ∧ NRow w5 W0.heap.size v' (List.replicate (j + 1) nopI)) := ⟨((((Both.refl _).alloc _ _).sav _).trans h2).both HA.out.1 (fun q hq => (HA.out.2.lt q hq).1), by rw [List.replicate_succ']; exact h1⟩
        clear h1 h2 h3 c7
        go_roundw
        case rel => exact ⟨j + 1, HLT.out, by go_num, HN.out⟩
        case measure => simp [intOf]; have := HLT.out; omega
      · obtain rfl : j = M := by omega
        obtain ⟨p, pc, rfl, hat, hty⟩ := HA.out.2.ins
        have HAT := Lib.hid hat
        have HTY := Lib.hid hty
        clear hat hty
        go_wp2_with fail
        go_ret
        exact ⟨p, pc, rfl, HAT.out, HB0.out.trans HA.out.1, HTY.out⟩
  exfalso
  have hr := HR.out
  unfold rightX at hr
  rw [if_neg h1, if_neg h2, if_neg h3, if_neg h4, if_neg h5] at hr
  cases hr
end Go.Proofs.Ytjjbfeoidceiiaa
/- What the document's own Places, Find and Assemble answer; the law's ints. -/
namespace Go.Proofs.Ytjjbfeoidceiiaa
open Go.RowKit Rv Lb
set_option linter.unusedVariables false
theorem ext0 (x y z : Value) (W : World) : (Instr.extract (.tuple #[x, y, z]) 0).run Try.prog W = .ok x W := by kernel_rfl
theorem ext1 (x y z : Value) (W : World) : (Instr.extract (.tuple #[x, y, z]) 1).run Try.prog W = .ok y W := by kernel_rfl
theorem ext2 (x y z : Value) (W : World) : (Instr.extract (.tuple #[x, y, z]) 2).run Try.prog W = .ok z W := by kernel_rfl
theorem exd0 (x y : Value) (W : World) : (Instr.extract (.tuple #[x, y]) 0).run Try.prog W = .ok x W := by kernel_rfl
theorem exd1 (x y : Value) (W : World) : (Instr.extract (.tuple #[x, y]) 1).run Try.prog W = .ok y W := by kernel_rfl
def PlRIs (l : List Itm) (w : World) (e : Ending) (w' : World) : Prop :=
  Both w w' ∧ ((layE l ≠ 0 ∧ e = .returned (.tuple #[.slice none 0 0, .int .i64 (layE l)])) ∨
    (layE l = 0 ∧ ∃ PB pc, e = .returned (.tuple #[.slice (some ⟨PB, 0, none⟩) (l.length + 1) pc, .int .i64 0]) ∧ IntsAt w' PB 0 (sumsTo (szs l (Lb.fin l)) l.length)))
set_option maxHeartbeats 2000000 in
theorem plR_any (b o c : Nat) (l : List Itm) (w : World) (HI : Hid (ItemsAt w b o l)) (hpos : 1 ≤ l.length) (hlen : l.length ≤ 20) (HWF : Hid (∀ x ∈ l, Itm.wf x)) :
    Calls Try.prog 15 #[.slice (some ⟨b, o, none⟩) l.length c] w (PlRIs l w) := by
  have x0 := ext0
  have x1 := ext1
  have x2 := ext2
  go_enter Try.func15, Try.ntmps15
  go_wp2_with fail
  refine (laidR_any b o c l w HI hpos hlen HWF).mono ?_
  rintro e w1 ⟨hb, ⟨hne, rfl⟩ | ⟨h0, PB, pc, LB, lc, rfl, hP, hL⟩⟩
  · have HB := Lib.hid hb
    have HNE := Lib.hid hne
    clear hb hne
    go_wp2_with fail
    go_ret2
    exact ⟨HB.out, Or.inl ⟨HNE.out, rfl⟩⟩
  · have HB := Lib.hid hb
    have H0 := Lib.hid h0
    have HP := Lib.hid hP
    clear hb h0 hP hL
    go_wp2_with fail
    go_ret2
    exact ⟨HB.out, Or.inr ⟨H0.out, PB, pc, rfl, HP.out⟩⟩
set_option maxHeartbeats 2000000 in
theorem findR_any (b o c : Nat) (l : List Itm) (s : ByteArray) (w : World) (HI : Hid (ItemsAt w b o l)) (hpos : 1 ≤ l.length) (hlen : l.length ≤ 20) (HWF : Hid (∀ x ∈ l, Itm.wf x)) :
    Calls Try.prog 20 #[.slice (some ⟨b, o, none⟩) l.length c, .string s] w fun e w' => e = .returned (.int .i64 (findV l s)) ∧ Both w w' := by
  have x0 := exd0
  have x1 := exd1
  go_enter Try.func20, Try.ntmps20
  go_wp2_with fail
  refine (plR_any b o c l w HI hpos hlen HWF).mono ?_
  rintro e w1 ⟨hb, ⟨hne, rfl⟩ | ⟨h0, PB, pc, rfl, hP⟩⟩
  · have HB := Lib.hid hb
    have HF := Lib.hid (show findV l s = -1 by unfold findV; rw [if_neg hne])
    have hE : (layE l != 0) = true := by simpa using hne
    have hc := labelR_any b o c l s w1 (Lib.hid (HI.out.both hb)) (by omega)
    have HC := Lib.hid hc
    clear hb hne hc
    go_wp2_with fail
    refine HC.out.mono ?_
    rintro e w2 ⟨rfl, rfl⟩
    generalize labV l s = V
    go_wp2_with fail
    go_ret
    exact ⟨ri HF.out.symm, HB.out⟩
  · have HB := Lib.hid hb
    have HP := Lib.hid hP
    have hc := labelR_any b o c l s w1 (Lib.hid (HI.out.both hb)) (by omega)
    cases hn : Lb.named l s with
    | none =>
      have HF := Lib.hid (show findV l s = -1 by unfold findV; rw [if_pos h0, hn])
      have hV : labV l s = -1 := by unfold labV; rw [hn]
      rw [hV] at hc
      have HC := Lib.hid hc
      clear hb h0 hP hc hn hV
      go_wp2_with fail
      refine HC.out.mono ?_
      rintro e w2 ⟨rfl, rfl⟩
      go_wp2_with fail
      go_ret
      exact ⟨ri HF.out.symm, HB.out⟩
    | some j =>
      have hj := (named_lt hn).1
      have HF := Lib.hid (show findV l s = 4 * (Lb.place l (Lb.fin l) j : Int) by unfold findV; rw [if_pos h0, hn])
      have hV : labV l s = (j : Int) := by unfold labV; rw [hn]
      rw [hV] at hc
      have HC := Lib.hid hc
      have hpj := hP.2 j _ (sumsTo_get _ _ _ (Nat.le_of_lt hj))
      rw [Nat.zero_add, sumAt_place _ _ _ (Nat.le_of_lt hj)] at hpj
      have hj' : (j : Int) < (l.length : Int) + 1 := by omega
      generalize 4 * (Lb.place l (Lb.fin l) j : Int) = a at hpj HF
      clear hb h0 hP hc hn hV hj
      go_wp2_with fail
      refine HC.out.mono ?_
      rintro e w2 ⟨rfl, rfl⟩
      go_wp2_with fail
      go_ret
      exact ⟨ri HF.out.symm, HB.out⟩
/-- ints lie at a place, if there are any -/
def IntsQ (w : World) (p : Option Addr) (l : List Int) : Prop := ∀ (j : Nat) (i : Int), l[j]? = some i → ∃ b o, p = some ⟨b, o, none⟩ ∧ b < w.heap.size ∧ w.cell? ⟨b, o + j, none⟩ = some (.int .i64 i)
theorem IntsQ.both {w w' : World} {p : Option Addr} {l : List Int} (h : IntsQ w p l) (hb : Both w w') : IntsQ w' p l := fun j i hj => by
  obtain ⟨b, o, h1, h2, h3⟩ := h j i hj
  exact ⟨b, o, h1, Nat.lt_of_lt_of_le h2 hb.1.size, (hb.cell (p := ⟨b, o + j, none⟩) h2).trans h3⟩
theorem IntsAt.q {w : World} {B : Nat} {l : List Int} (h : IntsAt w B 0 l) : IntsQ w (some ⟨B, 0, none⟩) l := fun j i hj => ⟨B, 0, rfl, h.1, h.2 j i hj⟩
theorem IRow.q {w : World} {base : Nat} {v : Value} {l : List Int} (h : IRow w base v l) : ∃ p c, v = .slice p l.length c ∧ IntsQ w p l := by
  by_cases hv : v = .slice none 0 0
  · subst hv
    rcases h.2 with ⟨_, h0⟩ | ⟨g, cap, cur, hh, _⟩
    · have hl : l = [] := List.eq_nil_of_length_eq_zero (by simpa using h0)
      subst hl
      exact ⟨none, 0, rfl, fun j i hj => by simp at hj⟩
    · cases hh
  · obtain ⟨B, c, h1, _, _, h2, _⟩ := h.form hv
    exact ⟨_, c, h1, h2.q⟩
set_option maxHeartbeats 2000000 in
theorem ints_same (p q : Option Addr) (c c' : Nat) (l : List Int) (w : World) (hl : l.length ≤ 9223372036854775807) (HP : Hid (IntsQ w p l)) (HQ : Hid (IntsQ w q l)) :
    Calls Try.prog 18 #[.slice p l.length c, .slice q l.length c'] w fun e w' => e = .returned (.bool true) ∧ Both w w' := by
  have z0 : ((l.length : Int) != (l.length : Int)) = false := by simp
  go_enter Try.func18, Try.ntmps18
  go_wp2_with fail
  clear z0
  go_loopw [5] (fun i wr => ∃ j : Nat, j ≤ l.length ∧ i = .int .i64 j ∧ Hid (Both w wr)) (fun i _ => l.length - (intOf i).toNat)
  case atStart => exact ⟨0, Nat.zero_le _, rfl, Both.refl _⟩
  case round =>
    obtain ⟨j, hj, rfl, HB⟩ := hrel
    by_cases hlt : j < l.length
    · obtain ⟨z, hz⟩ : ∃ z, l[j]? = some z := ⟨_, List.getElem?_eq_getElem hlt⟩
      obtain ⟨b, o, rfl, _, e1⟩ := (HP.out.both HB.out) j z hz
      obtain ⟨b2, o2, rfl, _, e2⟩ := (HQ.out.both HB.out) j z hz
      have hj' : (j : Int) < (l.length : Int) := by omega
      have z3 : (z != z) = false := by simp
      have HLT := Lib.hid hlt
      clear hz hlt
      go_upto_region 6 with (fail)
      go_quiet (fail)
      have HN := Lib.hid (HB.out.trans ((Both.refl wr).drewN nq))
      go_wp2_with fail
      go_roundw
      case rel => exact ⟨j + 1, HLT.out, by go_num, HN.out⟩
      case measure => simp [intOf]; have := HLT.out; omega
    · obtain rfl : j = l.length := by omega
      go_wp2_with fail
      go_ret
      exact ⟨rfl, HB.out⟩
end Go.Proofs.Ytjjbfeoidceiiaa
/- What the document's own Assemble answers. -/
namespace Go.Proofs.Ytjjbfeoidceiiaa
open Go.RowKit Rv Lb
set_option linter.unusedVariables false
theorem instr_ref {l : List Itm} {k : Nat} {x : Itm} (hx : l[k]? = some x) {far : Int} (hf : x.kind = 3 → far = byOf l k) : instrRef x (Lb.fin l k) far = instrL l k x := by
  unfold instrRef instrL
  by_cases h1 : x.kind = 1
  · rw [if_pos h1, if_pos h1]
  rw [if_neg h1, if_neg h1]
  by_cases h3 : x.kind = 3
  · rw [if_pos h3, if_pos h3, hf h3]
    unfold leadL
    have h31 : size1 x = 1 := by
      unfold size1
      rw [if_neg (by omega), if_neg (by omega), if_neg (by omega)]
    cases hg : Lb.fin l k with
    | true =>
      have hb := fin_br hg
      rw [sz_br3 hb, hg]
      simp
    | false =>
      have : sz l (Lb.fin l) k = 1 := by
        unfold sz
        rw [hx]
        simp [hg, h31]
      rw [this]
      simp
  · rw [if_neg h3, if_neg h3]
theorem InsAt.sav {S : Nat → Prop} {w w' : World} {p : Option Addr} {l : List Ins} (h : InsAt w p l) (hs : Sav S w w') (hn : ∀ a : Addr, p = some a → ¬ S a.block) : InsAt w' p l := fun j i hj => by
  obtain ⟨b, o, hp, hlt, hc⟩ := h j i hj
  exact ⟨b, o, hp, Nat.lt_of_lt_of_le hlt hs.size, fun k v hk => (hs.cell (p := ⟨b, o + j * 5 + k, Option.none⟩) hlt (hn ⟨b, o, Option.none⟩ hp)).trans (hc k v hk)⟩
def AsmRIs (l : List Itm) (w : World) (e : Ending) (w' : World) : Prop :=
  Both w w' ∧ ((layE l ≠ 0 ∧ e = .returned (.tuple #[.slice none 0 0, .int .i64 (layE l)])) ∨
    (layE l = 0 ∧ ∃ p c, e = .returned (.tuple #[.slice p (wordsTo l l.length).length c, .int .i64 0]) ∧ IntsQ w' p (wordsTo l l.length)))
set_option maxRecDepth 100000 in
set_option maxHeartbeats 2000000 in
theorem asmR_any (b o c : Nat) (l : List Itm) (w : World) (HI : Hid (ItemsAt w b o l)) (hpos : 1 ≤ l.length) (hlen : l.length ≤ 20) (HWF : Hid (∀ x ∈ l, Itm.wf x)) :
    Calls Try.prog 17 #[.slice (some ⟨b, o, none⟩) l.length c] w (AsmRIs l w) := by
  have x0 := ext0
  have x1 := ext1
  have x2 := ext2
  go_enter Try.func17, Try.ntmps17
  go_wp2_with fail
  refine (laidR_any b o c l w HI hpos hlen HWF).mono ?_
  rintro e w1 ⟨hb, ⟨hne, rfl⟩ | ⟨h0, PB, pc, LB, lc, rfl, hP, hL⟩⟩
  · have HB := Lib.hid hb
    have HNE := Lib.hid hne
    have hE : (layE l != 0) = true := by simpa using hne
    clear hb hne
    go_wp2_with fail
    go_ret2
    exact ⟨HB.out, Or.inl ⟨HNE.out, rfl⟩⟩
  · have HB := Lib.hid hb
    have HP := Lib.hid hP
    have HL := Lib.hid hL
    have H0 := Lib.hid h0
    obtain ⟨_, hR, hok, hpl⟩ := layE_ok h0
    have HALL := Lib.hid (show allRight l from fun x hx => ⟨hR x hx, HWF.out x hx⟩)
    have HOK := Lib.hid hok
    have HI1 := Lib.hid (HI.out.both hb)
    clear hb h0 hP hL hR hok hpl x0 x1 x2
    go_wp2_with fail
    go_loopw [7, 8] (fun v i wr => ∃ k : Nat, k ≤ l.length ∧ i = .int .i64 k ∧ Hid (Both w1 wr ∧ IRow wr w1.heap.size v (wordsTo l k))) (fun _ i _ => l.length - (intOf i).toNat)
    case atStart => exact ⟨0, Nat.zero_le _, rfl, Both.refl _, IRow.nil _ _⟩
    case round =>
      obtain ⟨k, hk, rfl, HA⟩ := hrel
      by_cases hlt : k < l.length
      · obtain ⟨wq, rfl⟩ : ∃ W, W = wr := ⟨_, rfl⟩
        obtain ⟨kd, xo, xd, xa, xb, xn, xm, xs, hx⟩ := items_one (l := l) (k := k) hlt
        have HX := Lib.hid hx
        have HLT := Lib.hid hlt
        have hk' : (k : Int) < l.length := by omega
        have HCE : Hid (∀ W, Both wq W → (W.cell? ⟨b, o + k * 8, none⟩ = some (.int .i64 kd) ∧ W.cell? ⟨b, o + k * 8 + 1, none⟩ = some (.int .i64 xo) ∧ W.cell? ⟨b, o + k * 8 + 2, none⟩ = some (.int .i64 xd) ∧ W.cell? ⟨b, o + k * 8 + 3, none⟩ = some (.int .i64 xa) ∧ W.cell? ⟨b, o + k * 8 + 4, none⟩ = some (.int .i64 xb) ∧ W.cell? ⟨b, o + k * 8 + 5, none⟩ = some (.int .i64 xn) ∧ W.cell? ⟨b, o + k * 8 + 6, none⟩ = some (.string xs) ∧ W.cell? ⟨b, o + k * 8 + 7, none⟩ = some (.int .i64 xm)) ∧ W.cell? ⟨LB, k, none⟩ = some (.bool (Lb.fin l k))) := fun W h => by
          have h1 := (HL.out.both (HA.out.1.trans h)).2 k HLT.out
          rw [Nat.zero_add] at h1
          exact ⟨(HI1.out.both (HA.out.1.trans h)).get HX.out, h1⟩
        have ht0 := to_lt hpos k HLT.out
        have bp1 := place_bd HALL.out (Lb.fin l) k
        have bp2 := place_bd HALL.out (Lb.fin l) (to l k)
        have hby : byOf l k = 4 * (Lb.place l (Lb.fin l) (to l k) : Int) - 4 * (Lb.place l (Lb.fin l) k : Int) := rfl
        -- far
        have hstep : ∃ far : Int, (kd = 3 → far = byOf l k) ∧ (kd ≠ 3 → far = 0) ∧ -2000000000 ≤ far ∧ far ≤ 2000000000 := by
          by_cases h3 : kd = 3
          · exact ⟨byOf l k, fun _ => rfl, fun h => absurd h3 h, by omega, by omega⟩
          · exact ⟨0, fun h => absurd h h3, fun _ => rfl, by omega, by omega⟩
        obtain ⟨far, hf1, hf2, hf3, hf4⟩ := hstep
        have hir := instr_ref HX.out hf1
        obtain ⟨L, hL⟩ : ∃ L, instrL l k ⟨kd, ⟨xo, xd, xa, xb, xn⟩, xs, xm⟩ = L := ⟨_, rfl⟩
        rw [hL] at hir
        have hws := wordsTo_succ (l := l) HX.out
        rw [hL] at hws
        have hLl : L.length ≤ 4096 := by rw [← hL]; exact instrL_len (HALL.out _ (List.mem_of_getElem? HX.out)).1
        have hwl := wordsTo_len HALL.out k
        obtain ⟨fk, hfk⟩ : ∃ q, Lb.fin l k = q := ⟨_, rfl⟩
        rw [hfk] at hir HCE
        have hlg : fk = true → isBr ⟨kd, ⟨xo, xd, xa, xb, xn⟩, xs, xm⟩ = true := fun h => by
          have := fin_br (hfk.trans h)
          unfold brAt at this
          rw [HX.out] at this
          exact this
        have hins := fun W => instrsR_any kd xo xd xa xb xn xm far xs fk (HALL.out _ (List.mem_of_getElem? HX.out)).1 (HALL.out _ (List.mem_of_getElem? HX.out)).2.n hlg hf3 hf4 W
        simp only [hir] at hins
        have HINS := Lib.hid hins
        have HWS := Lib.hid hws
        have HWL := Lib.hid hwl
        have HLL := Lib.hid hLl
        obtain ⟨⟨c0, c1, c2, c3, c4, c5, c6, c7⟩, cg⟩ := HCE.out _ (Both.refl _)
        have hpre : ∀ W, Both wq W → True := fun _ _ => trivial
        by_cases h3 : kd = 3
        · subst h3
          have ht := to_lt hpos k HLT.out
          have hv : labV l xs = (to l k : Int) := labV_to HOK.out HX.out rfl
          have hpk := (HP.out.both HA.out.1).2 k _ (sumsTo_get _ _ _ (Nat.le_of_lt HLT.out))
          have hpt := (HP.out.both HA.out.1).2 (to l k) _ (sumsTo_get _ _ _ (Nat.le_of_lt ht))
          rw [Nat.zero_add, sumAt_place _ _ _ (Nat.le_of_lt HLT.out)] at hpk
          rw [Nat.zero_add, sumAt_place _ _ _ (Nat.le_of_lt ht)] at hpt
          have hfar := hf1 rfl
          rw [hby] at hfar
          have vd : IntKind.i64.wrap (4 * (Lb.place l (Lb.fin l) (to l k) : Int) - 4 * (Lb.place l (Lb.fin l) k : Int)) = far := by rw [IntWalk.i64_in _ (by constructor <;> omega)]; exact hfar.symm
          have hcq : ∀ n, Calls Try.prog 37 #[.slice (some ⟨b, o, none⟩) l.length c, .string xs] (wq.drewN n) fun e w' => e = .returned (.int .i64 (to l k : Int)) ∧ w' = wq.drewN n := fun n => by
            have h1 := labelR_any b o c l xs (wq.drewN n) (Lib.hid ((HI1.out.both HA.out.1).both ((Both.refl wq).drewN n))) (by omega)
            rw [hv] at h1
            exact h1.mono fun _ _ ⟨h1, h2⟩ => ⟨h1, h2.symm⟩
          have HCQ := Lib.hid hcq
          have htl : (to l k : Int) < (l.length : Int) + 1 := by omega
          have hkl : (k : Int) < (l.length : Int) + 1 := by omega
          clear hcq hv hfar hby hir hL hws hLl hwl hfk hlg hins hlt hx ht hf1 hf2 c1 c2 c3 c4 c5 c7 cg bp1 bp2
          generalize to l k = tk at *
          generalize Lb.place l (Lb.fin l) tk = pt at *
          generalize Lb.place l (Lb.fin l) k = pk at *
          go_upto_region 10 with (fail)
          go_quiet ((go_at_call 37; with_reducible refine Calls.quiet_of_same (HCQ.out _)))
          have HB5 := Lib.hid ((Both.refl wq).drewN nq)
          clear c0 c6 hpk hpt vd htl hkl HCQ
          generalize wq.drewN nq = W5 at HB5 ⊢
          obtain ⟨⟨c0, c1, c2, c3, c4, c5, c6, c7⟩, cg⟩ := HCE.out _ HB5.out
          go_upto_region 11 with (fail)
          go_region_law (first
            | (go_simp; refine (HINS.out _).mono ?_; rintro e w9 ⟨P, pc9, rfl, hat, hb9, hty⟩))
          all_goals
            have HB9 := Lib.hid (HB5.out.trans ((Both.refl _).drew.trans hb9))
            have HAT := Lib.hid hat
            have HTY := Lib.hid hty
            clear hb9 hat hty c0 c1 c2 c3 c4 c5 c6 c7 cg
            go_wp2_with fail
            go_loopw [7, 11] (fun v2 i ws => ∃ j : Nat, j ≤ L.length ∧ i = .int .i64 j ∧ Hid (Both w1 ws ∧ IRow ws w1.heap.size v2 (wordsTo l k ++ (L.take j).map encV) ∧ InsAt ws P L ∧ ∀ a : Addr, P = some a → ∃ cs fr, ws.heap[a.block]? = some (.cells cs 24 fr))) (fun _ i _ => L.length - (intOf i).toNat)
            case atStart => exact ⟨0, Nat.zero_le _, rfl, HA.out.1.trans HB9.out, by simpa using ownsRow_sav HA.out.2 (HB9.out.sav fun _ => False) (fun _ _ => id), HAT.out, HTY.out⟩
            case round =>
              obtain ⟨j, hj, rfl, HJ⟩ := hrel
              by_cases hlt2 : j < L.length
              · obtain ⟨⟨io, jd, ia, ib, im⟩, hij⟩ : ∃ i, L[j]? = some i := ⟨_, List.getElem?_eq_getElem hlt2⟩
                obtain ⟨B, f, rfl, hbl, hcs⟩ := HJ.out.2.2.1 j _ hij
                have e0 := hcs 0 _ rfl
                have e1 := hcs 1 _ rfl
                have e2 := hcs 2 _ rfl
                have e3 := hcs 3 _ rfl
                have e4 := hcs 4 _ rfl
                rw [Nat.add_zero] at e0
                obtain ⟨ev, hev⟩ : ∃ z, encV ⟨io, jd, ia, ib, im⟩ = z := ⟨_, rfl⟩
                have HEV := Lib.hid hev
                have HLT2 := Lib.hid hlt2
                have htk : (L.take (j + 1)).map encV = (L.take j).map encV ++ [ev] := by
                  rw [List.take_succ_eq_append_getElem hlt2, List.map_append]
                  rw [(List.getElem?_eq_some_iff.1 hij).2]
                  simp [hev]
                have HTK := Lib.hid htk
                have hj' : (j : Int) < (L.length : Int) := by omega
                have vj : IntKind.i64.wrap ((j : Int) + 1) = (j : Int) + 1 := by have := HLL.out; exact IntWalk.i64_in _ (by constructor <;> omega)
                have HLN := Lib.hid (show (wordsTo l k ++ (L.take j).map encV).length + 1 ≤ 1099511627776 by
                  rw [List.length_append, List.length_map, List.length_take]
                  have := HWL.out
                  have := HLL.out
                  omega)
                clear hij hcs hbl hev htk hlt2
                go_wp2_with fail
                refine (encR_val HEV.out _).mono ?_
                rintro e w10 ⟨⟨u, rfl⟩, hb10⟩
                clear e0 e1 e2 e3 e4
                have y0 := exd0
                have y1 := exd1
                go_wp2_with (at_builtin; refine wpList_irow_one rfl (.tmp 74) (.tmp 76) 31 Try.underlying31 rfl w1.heap.size u7 _ rfl (ownsRow_sav HJ.out.2.1 ((hb10.alloc _ _).sav fun _ => False) (fun _ _ => id)) w10.heap.size ev rfl (World.cell?_alloc_new _ _ _ 0) HLN.out ((HJ.out.1.trans (hb10.alloc #[.int .i64 ev] 3)).1.size) ?_; intro v' w11 h1 h2 h3)
                clear y0 y1
                have hba := hb10.alloc #[.int .i64 ev] 3
                have HN : Hid (Both w1 w11 ∧ IRow w11 w1.heap.size v' (wordsTo l k ++ (L.take (j + 1)).map encV) ∧ InsAt w11 (some ⟨B, f, none⟩) L ∧ ∀ a : Addr, some ⟨B, f, none⟩ = some a → ∃ cs fr, w11.heap[a.block]? = some (.cells cs 24 fr)) := by
                  have hrow := ownsRow_sav HJ.out.2.1 (hba.sav fun _ => False) (fun _ _ => id)
                  obtain ⟨cs, fr, hty⟩ := HJ.out.2.2.2 _ rfl
                  have hty2 := (hba.1.block _ (lt_of_heap hty)).trans hty
                  have hnv : ¬ u7.ownBlock = some B := fun e => by
                    rcases hrow.2 with ⟨hv, _⟩ | ⟨g, cap, cur, hv, _, hg, _⟩
                    · rw [hv] at e
                      cases e
                    · rw [hv] at e
                      have : g = B := Option.some.inj e
                      subst this
                      rw [hty2] at hg
                      simp at hg
                  refine ⟨h2.both (HJ.out.1.trans hba) (fun q hq => (hrow.lt q hq).1), by rw [HTK.out, ← List.append_assoc]; exact h1, ?_, fun a ha => ?_⟩
                  · exact InsAt.sav (HJ.out.2.2.1.both hba) h2 (fun a ha => by cases ha; exact hnv)
                  · cases ha
                    exact ⟨cs, fr, (h2.block _ (lt_of_heap hty2) hnv).trans hty2⟩
                clear h1 h2 h3 hba hb10
                go_wp2_with fail
                go_roundw
                case rel => exact ⟨j + 1, HLT2.out, by go_num, HN.out⟩
                case measure => simp [intOf]; have := HLT2.out; omega
              · obtain rfl : j = L.length := by omega
                have HN : Hid (Both w1 wr ∧ IRow wr w1.heap.size u7 (wordsTo l (k + 1))) := ⟨HJ.out.1, by
                  have := HJ.out.2.1
                  rw [List.take_length, ← HWS.out] at this
                  exact this⟩
                go_wp2_with fail
                go_roundw
                case rel => exact ⟨k + 1, HLT.out, by go_num, HN.out⟩
                case measure => simp [intOf]; have := HLT.out; omega
        · obtain rfl := hf2 h3
          have h3' : (kd == 3) = false := by simpa using h3
          clear hby hir hL hws hLl hwl hfk hlg hins hlt hx hf1 hf2 c1 c2 c3 c4 c5 c6 c7 cg bp1 bp2 h3
          go_upto_region 11 with (fail)
          clear c0
          have HB5 := Lib.hid (Both.refl wq)
          obtain ⟨⟨c0, c1, c2, c3, c4, c5, c6, c7⟩, cg⟩ := HCE.out _ HB5.out
          go_region_law (first
            | (go_simp; refine (HINS.out _).mono ?_; rintro e w9 ⟨P, pc9, rfl, hat, hb9, hty⟩))
          all_goals
            have HB9 := Lib.hid (HB5.out.trans ((Both.refl _).drew.trans hb9))
            have HAT := Lib.hid hat
            have HTY := Lib.hid hty
            clear hb9 hat hty c0 c1 c2 c3 c4 c5 c6 c7 cg
            go_wp2_with fail
            go_loopw [7, 11] (fun v2 i ws => ∃ j : Nat, j ≤ L.length ∧ i = .int .i64 j ∧ Hid (Both w1 ws ∧ IRow ws w1.heap.size v2 (wordsTo l k ++ (L.take j).map encV) ∧ InsAt ws P L ∧ ∀ a : Addr, P = some a → ∃ cs fr, ws.heap[a.block]? = some (.cells cs 24 fr))) (fun _ i _ => L.length - (intOf i).toNat)
            case atStart => exact ⟨0, Nat.zero_le _, rfl, HA.out.1.trans HB9.out, by simpa using ownsRow_sav HA.out.2 (HB9.out.sav fun _ => False) (fun _ _ => id), HAT.out, HTY.out⟩
            case round =>
              obtain ⟨j, hj, rfl, HJ⟩ := hrel
              by_cases hlt2 : j < L.length
              · obtain ⟨⟨io, jd, ia, ib, im⟩, hij⟩ : ∃ i, L[j]? = some i := ⟨_, List.getElem?_eq_getElem hlt2⟩
                obtain ⟨B, f, rfl, hbl, hcs⟩ := HJ.out.2.2.1 j _ hij
                have e0 := hcs 0 _ rfl
                have e1 := hcs 1 _ rfl
                have e2 := hcs 2 _ rfl
                have e3 := hcs 3 _ rfl
                have e4 := hcs 4 _ rfl
                rw [Nat.add_zero] at e0
                obtain ⟨ev, hev⟩ : ∃ z, encV ⟨io, jd, ia, ib, im⟩ = z := ⟨_, rfl⟩
                have HEV := Lib.hid hev
                have HLT2 := Lib.hid hlt2
                have htk : (L.take (j + 1)).map encV = (L.take j).map encV ++ [ev] := by
                  rw [List.take_succ_eq_append_getElem hlt2, List.map_append]
                  rw [(List.getElem?_eq_some_iff.1 hij).2]
                  simp [hev]
                have HTK := Lib.hid htk
                have hj' : (j : Int) < (L.length : Int) := by omega
                have vj : IntKind.i64.wrap ((j : Int) + 1) = (j : Int) + 1 := by have := HLL.out; exact IntWalk.i64_in _ (by constructor <;> omega)
                have HLN := Lib.hid (show (wordsTo l k ++ (L.take j).map encV).length + 1 ≤ 1099511627776 by
                  rw [List.length_append, List.length_map, List.length_take]
                  have := HWL.out
                  have := HLL.out
                  omega)
                clear hij hcs hbl hev htk hlt2
                go_wp2_with fail
                refine (encR_val HEV.out _).mono ?_
                rintro e w10 ⟨⟨u, rfl⟩, hb10⟩
                clear e0 e1 e2 e3 e4
                have y0 := exd0
                have y1 := exd1
                go_wp2_with (at_builtin; refine wpList_irow_one rfl (.tmp 74) (.tmp 76) 31 Try.underlying31 rfl w1.heap.size u7 _ rfl (ownsRow_sav HJ.out.2.1 ((hb10.alloc _ _).sav fun _ => False) (fun _ _ => id)) w10.heap.size ev rfl (World.cell?_alloc_new _ _ _ 0) HLN.out ((HJ.out.1.trans (hb10.alloc #[.int .i64 ev] 3)).1.size) ?_; intro v' w11 h1 h2 h3)
                clear y0 y1
                have hba := hb10.alloc #[.int .i64 ev] 3
                have HN : Hid (Both w1 w11 ∧ IRow w11 w1.heap.size v' (wordsTo l k ++ (L.take (j + 1)).map encV) ∧ InsAt w11 (some ⟨B, f, none⟩) L ∧ ∀ a : Addr, some ⟨B, f, none⟩ = some a → ∃ cs fr, w11.heap[a.block]? = some (.cells cs 24 fr)) := by
                  have hrow := ownsRow_sav HJ.out.2.1 (hba.sav fun _ => False) (fun _ _ => id)
                  obtain ⟨cs, fr, hty⟩ := HJ.out.2.2.2 _ rfl
                  have hty2 := (hba.1.block _ (lt_of_heap hty)).trans hty
                  have hnv : ¬ u7.ownBlock = some B := fun e => by
                    rcases hrow.2 with ⟨hv, _⟩ | ⟨g, cap, cur, hv, _, hg, _⟩
                    · rw [hv] at e
                      cases e
                    · rw [hv] at e
                      have : g = B := Option.some.inj e
                      subst this
                      rw [hty2] at hg
                      simp at hg
                  refine ⟨h2.both (HJ.out.1.trans hba) (fun q hq => (hrow.lt q hq).1), by rw [HTK.out, ← List.append_assoc]; exact h1, ?_, fun a ha => ?_⟩
                  · exact InsAt.sav (HJ.out.2.2.1.both hba) h2 (fun a ha => by cases ha; exact hnv)
                  · cases ha
                    exact ⟨cs, fr, (h2.block _ (lt_of_heap hty2) hnv).trans hty2⟩
                clear h1 h2 h3 hba hb10
                go_wp2_with fail
                go_roundw
                case rel => exact ⟨j + 1, HLT2.out, by go_num, HN.out⟩
                case measure => simp [intOf]; have := HLT2.out; omega
              · obtain rfl : j = L.length := by omega
                have HN : Hid (Both w1 wr ∧ IRow wr w1.heap.size u7 (wordsTo l (k + 1))) := ⟨HJ.out.1, by
                  have := HJ.out.2.1
                  rw [List.take_length, ← HWS.out] at this
                  exact this⟩
                go_wp2_with fail
                go_roundw
                case rel => exact ⟨k + 1, HLT.out, by go_num, HN.out⟩
                case measure => simp [intOf]; have := HLT.out; omega
      · obtain rfl : k = l.length := by omega
        obtain ⟨p, pc2, rfl, hq⟩ := HA.out.2.q
        have HQ := Lib.hid hq
        clear hq
        go_wp2_with fail
        go_ret2
        exact ⟨HB.out.trans HA.out.1, Or.inr ⟨H0.out, p, pc2, rfl, HQ.out⟩⟩
end Go.Proofs.Ytjjbfeoidceiiaa
