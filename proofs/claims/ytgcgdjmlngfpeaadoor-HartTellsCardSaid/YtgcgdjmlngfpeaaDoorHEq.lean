/- Structs of ints: equal just if their numbers are. -/
import Derived.Test.YtgcgdjmlngfpeaaDoorHStepL
import Derived.Laws.StructEq
import Derived.ChangeKeysEq
namespace Go.Proofs.YtgcgdjmlngfpeaaDoor
open Go.RowKit Ht
set_option linter.unusedVariables false
set_option linter.unusedSimpArgs false
def ints (l : List Int) : List Value := l.map (Value.int .i64)
def seg (a : List Int) (o c : Nat) : List Int := (a.drop o).take c
abbrev vI (a : List Int) : Value := .agg (ints a).toArray
def PEq (d : Nat) (e : TypeId) (c : Nat) : Prop := ∀ (a b : List Int) (o : Nat) (w : World), o + c ≤ a.length → o + c ≤ b.length → ∃ x y, (part e (ints a).toArray o).run Tryd.prog w = .ok x w ∧ (part e (ints b).toArray o).run Tryd.prog w = .ok y w ∧ (Op.equalIn d e x y).run Tryd.prog w = .ok (decide (seg a o c = seg b o c)) w
def TEq (d : Nat) (t : TypeId) (n : Nat) : Prop := ∀ (a b : List Int), a.length = n → b.length = n → ∀ w, (Op.equalIn d t (vI a) (vI b)).run Tryd.prog w = .ok (decide (a = b)) w
theorem seg_len {a : List Int} {o c : Nat} (h : o + c ≤ a.length) : (seg a o c).length = c := by unfold seg; rw [List.length_take, List.length_drop]; omega
theorem seg_one {a : List Int} {o : Nat} (h : o + 1 ≤ a.length) : seg a o 1 = [a[o]'(by omega)] := by
  unfold seg
  rw [List.drop_eq_getElem_cons (by omega)]
  rfl
theorem ints_ext (a : List Int) (o c : Nat) : (ints a).toArray.extract o (o + c) = (ints (seg a o c)).toArray := by
  unfold seg ints
  rw [List.extract_toArray]
  congr 1
  rw [List.extract_eq_take_drop, Nat.add_sub_cancel_left, List.map_take, List.map_drop]
theorem ints_get {a : List Int} {o : Nat} (h : o < a.length) : (ints a).toArray[o]? = some (.int .i64 (a[o]'h)) := by
  unfold ints
  rw [List.getElem?_toArray, List.getElem?_map, List.getElem?_eq_getElem h]; rfl
theorem part_int {a : List Int} {o : Nat} (h : o < a.length) (w : World) : (part 3 (ints a).toArray o).run Tryd.prog w = .ok (.int .i64 (a[o]'h)) w := by
  have hagg : (isAgg 3).run Tryd.prog w = .ok false w := by kernel_rfl
  unfold part
  rw [Sem.run_bind, hagg]
  simp [ints_get h]
theorem part_agg {e : TypeId} {c : Nat} (hagg : ∀ w, (isAgg e).run Tryd.prog w = .ok true w) (hs : ∀ w, (sizeOf e).run Tryd.prog w = .ok c w) (a : List Int) (o : Nat) (w : World) : (part e (ints a).toArray o).run Tryd.prog w = .ok (vI (seg a o c)) w := by
  unfold part
  rw [Sem.run_bind, hagg]
  simp only [Result.andThen_ok, if_true, Sem.run_bind, hs, Sem.run_pure, ints_ext]
theorem peq_int (d : Nat) : PEq (d + 1) 3 1 := by
  intro a b o w ha hb
  refine ⟨_, _, part_int (by omega) w, part_int (by omega) w, ?_⟩
  rw [seg_one ha, seg_one hb]
  simp [Op.equalIn, Tryd.underlying3, go_sem]
  rfl
theorem TEq.peq {d : Nat} {e : TypeId} {c : Nat} (h : TEq d e c) (hagg : ∀ w, (isAgg e).run Tryd.prog w = .ok true w) (hs : ∀ w, (sizeOf e).run Tryd.prog w = .ok c w) : PEq d e c := by
  intro a b o w ha hb
  exact ⟨_, _, part_agg hagg hs a o w, part_agg hagg hs b o w, h _ _ (seg_len ha) (seg_len hb) w⟩
theorem items_eq {d : Nat} {e : TypeId} {c : Nat} (h : PEq d e c) (a b : List Int) (w : World) : ∀ (is : List Nat), (∀ i ∈ is, i * c + c ≤ a.length ∧ i * c + c ≤ b.length) → (Op.eqItems d e c (ints a).toArray (ints b).toArray is).run Tryd.prog w = .ok (is.all fun i => decide (seg a (i * c) c = seg b (i * c) c)) w
  | [], _ => rfl
  | i :: is, hi => by
    obtain ⟨x, y, h1, h2, h3⟩ := h a b (i * c) w (hi i (List.mem_cons_self ..)).1 (hi i (List.mem_cons_self ..)).2
    have ih := items_eq h a b w is fun j hj => hi j (List.mem_cons_of_mem _ hj)
    rw [List.all_cons]
    cases hq : decide (seg a (i * c) c = seg b (i * c) c)
    · rw [hq] at h3
      simp [Op.eqItems, Sem.run_bind, h1, h2, h3]
    · rw [hq] at h3
      simp [Op.eqItems, Sem.run_bind, h1, h2, h3, ih]
theorem segs_eq (c : Nat) : ∀ (n : Nat) (a b : List Int), a.length = n * c → b.length = n * c → (∀ i, i < n → seg a (i * c) c = seg b (i * c) c) → a = b
  | 0, a, b, ha, hb, _ => by
    rw [Nat.zero_mul] at ha hb
    rw [List.length_eq_zero_iff.1 ha, List.length_eq_zero_iff.1 hb]
  | n + 1, a, b, ha, hb, h => by
    have e : (n + 1) * c = n * c + c := by rw [Nat.add_mul, Nat.one_mul]
    rw [e] at ha hb
    have h1 : a.drop (n * c) = b.drop (n * c) := by
      have := h n (Nat.lt_succ_self n)
      unfold seg at this
      rwa [List.take_of_length_le (by rw [List.length_drop]; omega), List.take_of_length_le (by rw [List.length_drop]; omega)] at this
    have h2 : a.take (n * c) = b.take (n * c) := by
      refine segs_eq c n _ _ (by rw [List.length_take]; omega) (by rw [List.length_take]; omega) fun i hi => ?_
      have hle : i * c + c ≤ n * c := by
        have := Nat.mul_le_mul_right c (show i + 1 ≤ n from hi)
        rwa [Nat.add_mul, Nat.one_mul] at this
      have := h i (by omega)
      unfold seg at this ⊢
      rw [List.drop_take, List.drop_take, List.take_take, List.take_take, Nat.min_eq_left (by omega)]
      exact this
    rw [← List.take_append_drop (n * c) a, ← List.take_append_drop (n * c) b, h1, h2]
set_option maxRecDepth 100000 in
theorem teq_arr {d : Nat} {t e : TypeId} {n c m : Nat} (h : PEq d e c) (hu : Tryd.prog.underlying t = some (.array n e)) (hc : Tryd.prog.cellsOf e = c) (hi : (Tryd.prog.info? e).isSome = true) (hm : m = n * c) : TEq (d + 1) t m := by
  intro a b ha hb w
  subst hm
  obtain ⟨i, hi⟩ := Option.isSome_iff_exists.1 hi
  rw [run_equalIn_array (P := Tryd.prog) w d (ints a).toArray (ints b).toArray hu hi, hc]
  rw [items_eq h a b w (List.range n) fun j hj => ?_]
  · congr 1
    rw [Bool.eq_iff_iff, List.all_eq_true, decide_eq_true_iff]
    constructor
    · intro hh
      exact segs_eq c n a b ha hb fun j hj => of_decide_eq_true (hh j (List.mem_range.2 hj))
    · rintro rfl j _
      exact decide_eq_true rfl
  · have hle := Nat.mul_le_mul_right c (show j + 1 ≤ n from List.mem_range.1 hj)
    rw [Nat.add_mul, Nat.one_mul] at hle
    omega
theorem fields_eq {d : Nat} (a b : List Int) (w : World) : ∀ (fs : List Field), (∀ f ∈ fs, f.name ≠ "_" ∧ PEq d f.type (Tryd.prog.cellsOf f.type) ∧ f.offset + Tryd.prog.cellsOf f.type ≤ a.length ∧ f.offset + Tryd.prog.cellsOf f.type ≤ b.length) →
    (Op.eqFields d (ints a).toArray (ints b).toArray fs).run Tryd.prog w = .ok (fs.all fun f => decide (seg a f.offset (Tryd.prog.cellsOf f.type) = seg b f.offset (Tryd.prog.cellsOf f.type))) w
  | [], _ => rfl
  | f :: fs, hf => by
    obtain ⟨hn, h, ha, hb⟩ := hf f (List.mem_cons_self ..)
    obtain ⟨x, y, h1, h2, h3⟩ := h a b f.offset w ha hb
    have ih := fields_eq a b w fs fun j hj => hf j (List.mem_cons_of_mem _ hj)
    rw [List.all_cons]
    cases hq : decide (seg a f.offset (Tryd.prog.cellsOf f.type) = seg b f.offset (Tryd.prog.cellsOf f.type))
    · rw [hq] at h3
      simp [Op.eqFields, Sem.run_bind, hn, h1, h2, h3]
    · rw [hq] at h3
      simp [Op.eqFields, Sem.run_bind, hn, h1, h2, h3, ih]
set_option maxRecDepth 100000 in
theorem teq_struct {d : Nat} {t : TypeId} {m : Nat} (ht : Tryd.prog.underlying t = some (.struct (Tryd.prog.fieldsOf t))) (hp : Tryd.prog.stoodInHeld t = false)
    (hf : ∀ f ∈ (Tryd.prog.fieldsOf t).toList, f.name ≠ "_" ∧ PEq d f.type (Tryd.prog.cellsOf f.type) ∧ f.offset + Tryd.prog.cellsOf f.type ≤ m)
    (hs : ∀ a b : List Int, a.length = m → b.length = m → (∀ f ∈ (Tryd.prog.fieldsOf t).toList, seg a f.offset (Tryd.prog.cellsOf f.type) = seg b f.offset (Tryd.prog.cellsOf f.type)) → a = b) : TEq (d + 1) t m := by
  intro a b ha hb w
  rw [run_equalIn_struct (P := Tryd.prog) w d t (ints a).toArray (ints b).toArray ht hp]
  rw [fields_eq a b w _ fun f h => ⟨(hf f h).1, (hf f h).2.1, by rw [ha]; exact (hf f h).2.2, by rw [hb]; exact (hf f h).2.2⟩]
  congr 1
  rw [Bool.eq_iff_iff, List.all_eq_true, decide_eq_true_iff]
  constructor
  · intro hh
    exact hs a b ha hb fun f h => of_decide_eq_true (hh f h)
  · rintro rfl f _
    exact decide_eq_true rfl
theorem seg_app (a : List Int) (o c : Nat) : a.drop o = seg a o c ++ a.drop (o + c) := by
  unfold seg
  rw [← List.drop_drop, List.take_append_drop]
theorem seg_end {a : List Int} {o c : Nat} (h : a.length = o + c) : a.drop o = seg a o c := by
  rw [seg_app a o c, List.drop_of_length_le (by omega), List.append_nil]
theorem cells_int : Tryd.prog.cellsOf 3 = 1 := by kernel_rfl

theorem cells_regs : Tryd.prog.cellsOf 26 = 32 := by kernel_rfl
theorem teq_regs (d : Nat) : TEq (d + 1 + 1) 26 32 := teq_arr (n := 32) (c := 1) (peq_int d) Tryd.underlying26 cells_int (by kernel_rfl) rfl
theorem peq_regs (d : Nat) : PEq (d + 1 + 1) 26 32 := (teq_regs d).peq (fun w => by kernel_rfl) (fun w => by kernel_rfl)
theorem seg_all (a b : List Int) (h : ∀ o, o < a.length → seg a o 1 = seg b o 1) (hl : a.length = b.length) : a = b := by
  apply List.ext_getElem hl
  intro i h1 h2
  have := h i h1
  rw [seg_one (by omega), seg_one (by omega)] at this
  simpa using this
theorem teq_eff (d : Nat) : TEq (d + 1 + 1) 34 5 := by
  refine teq_struct (by kernel_rfl) (by kernel_rfl) ?_ ?_
  · intro f hf
    simp [Program.fieldsOf, Tryd.underlying34] at hf
    rcases hf with rfl | rfl | rfl | rfl | rfl <;> exact ⟨by decide, by (rw [cells_int]; exact peq_int d), by rw [cells_int]; decide⟩
  · intro a b ha hb h
    simp [Program.fieldsOf, Tryd.underlying34, cells_int] at h
    refine seg_all a b (fun o ho => ?_) (by omega)
    have : o = 0 ∨ o = 1 ∨ o = 2 ∨ o = 3 ∨ o = 4 := by omega
    rcases this with rfl | rfl | rfl | rfl | rfl
    · exact h.1
    · exact h.2.1
    · exact h.2.2.1
    · exact h.2.2.2.1
    · exact h.2.2.2.2
theorem teq_hart (d : Nat) : TEq (d + 1 + 1 + 1) 28 39 := by
  refine teq_struct (by kernel_rfl) (by kernel_rfl) ?_ ?_
  · intro f hf
    simp [Program.fieldsOf, Tryd.underlying28] at hf
    rcases hf with rfl | rfl | rfl | rfl | rfl | rfl | rfl | rfl
    · exact ⟨by decide, by (rw [cells_regs]; exact peq_regs d), by rw [cells_regs]; decide⟩
    all_goals exact ⟨by decide, by (rw [cells_int]; exact peq_int (d + 1)), by rw [cells_int]; decide⟩
  · intro a b ha hb h
    simp [Program.fieldsOf, Tryd.underlying28, cells_int, cells_regs] at h
    refine seg_all a b (fun o ho => ?_) (by omega)
    by_cases c : o < 32
    · have h0 := congrArg (fun l => seg l o 1) h.1
      unfold seg at h0 ⊢
      rw [List.drop_zero, List.drop_zero] at h0
      simpa [List.drop_take, List.take_take, Nat.min_eq_left (show 1 ≤ 32 - o by omega)] using h0
    · have : o = 32 ∨ o = 33 ∨ o = 34 ∨ o = 35 ∨ o = 36 ∨ o = 37 ∨ o = 38 := by omega
      rcases this with rfl | rfl | rfl | rfl | rfl | rfl | rfl
      · exact h.2.1
      · exact h.2.2.1
      · exact h.2.2.2.1
      · exact h.2.2.2.2.1
      · exact h.2.2.2.2.2.1
      · exact h.2.2.2.2.2.2.1
      · exact h.2.2.2.2.2.2.2
end Go.Proofs.YtgcgdjmlngfpeaaDoor
