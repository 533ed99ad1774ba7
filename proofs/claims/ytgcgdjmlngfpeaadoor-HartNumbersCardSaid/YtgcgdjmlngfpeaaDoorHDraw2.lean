/- Drawn regions of several orders over harts in boxes: one that comes up among others; the orders meet again. -/
import Derived.Test.YtgcgdjmlngfpeaaDoorHLaw1
namespace Go.Proofs.YtgcgdjmlngfpeaaDoor
open Go.RowKit Ht
set_option linter.unusedVariables false
set_option linter.unusedSimpArgs false
section
variable {P : Program} {ops : Array Oper} {Q : Exit → Act → World → Prop} {md : Region.Mode} {T : World → Prop} {z : Nat}
theorem Upto.one {i n : Nat} {ls : Array Bool} {a : Act} {w : World} (hr : Region.ready md ops ls = [i]) (h1 : Comes P md ops Q T z n ls a w i) : Upto P md ops Q T z (n + 1) ls a w :=
  Upto.ready hr (by simp) (fun k hk => by
    obtain rfl := List.mem_singleton.1 hk
    exact h1)
theorem Upto.two {i j n : Nat} {ls : Array Bool} {a : Act} {w : World} (hr : Region.ready md ops ls = [i, j]) (h1 : Comes P md ops Q T z n ls a w i) (h2 : Comes P md ops Q T z n ls a w j) : Upto P md ops Q T z (n + 1) ls a w :=
  Upto.ready hr (by simp) (fun k hk => by
    rcases List.mem_cons.1 hk with rfl | hk
    · exact h1
    · obtain rfl := List.mem_singleton.1 hk
      exact h2)
theorem Upto.three {i j l n : Nat} {ls : Array Bool} {a : Act} {w : World} (hr : Region.ready md ops ls = [i, j, l]) (h1 : Comes P md ops Q T z n ls a w i) (h2 : Comes P md ops Q T z n ls a w j) (h3 : Comes P md ops Q T z n ls a w l) : Upto P md ops Q T z (n + 1) ls a w :=
  Upto.ready hr (by simp) (fun k hk => by
    rcases List.mem_cons.1 hk with rfl | hk
    · exact h1
    · rcases List.mem_cons.1 hk with rfl | hk
      · exact h2
      · obtain rfl := List.mem_singleton.1 hk
        exact h3)
theorem callC (d : Nat) {i : Nat} {oi : Oper} {n : Nat} {ls : Array Bool} {a : Act} {w : World} (hi : ops[i]? = some oi) (hd : oi.dst = some d) (hw : Region.wanted oi (yielded ops a.tmps) = true)
    {f : FuncId} {args : Array Value} {v : Value} (hrun : (execOp a.eval oi).run P w = .ok (.enter f args) w) (hc : Calls P f args w (OneV v w)) (hT : ∀ w', Bel w w' → T w')
    (h : ∀ w', Bel w w' → Upto P md ops Q T z n (ls.setIfInBounds i true) { a with tmps := a.tmps.setIfInBounds d v } w') : Comes P md ops Q T z n ls a w i :=
  Comes.of d hi hd hw (fun K hK => by
    unfold Oper.wp
    rw [hrun, Oper.upon_enter]
    refine hc.mono fun e w'' hh => ?_
    obtain ⟨rfl, hb⟩ := hh
    exact hK.out v w'' (hT _ hb) (fun _ => h _ hb))
theorem stepC (d : Nat) {i : Nat} {oi : Oper} {n : Nat} {ls : Array Bool} {a : Act} {w w' : World} (hi : ops[i]? = some oi) (hd : oi.dst = some d) (hw : Region.wanted oi (yielded ops a.tmps) = true)
    {v : Value} (hrun : (execOp a.eval oi).run P w = .ok (.value v) w') (hT : T w') (h : Upto P md ops Q T z n (ls.setIfInBounds i true) { a with tmps := a.tmps.setIfInBounds d v } w') : Comes P md ops Q T z n ls a w i :=
  Comes.of d hi hd hw (fun K hK => by
    unfold Oper.wp
    rw [hrun]
    exact hK.out v w' hT (fun _ => h))
theorem skipC (d : Nat) {i : Nat} {oi : Oper} {n : Nat} {ls : Array Bool} {a : Act} {w : World} (hi : ops[i]? = some oi) (hd : oi.dst = some d) (hw : Region.wanted oi (yielded ops a.tmps) = false)
    (hT : T w) (h : Upto P md ops Q T z n (ls.setIfInBounds i true) { a with tmps := a.tmps.setIfInBounds d undef } w) : Comes P md ops Q T z n ls a w i := by
  refine wpOp_step hi fun K hK => ?_
  rw [if_neg (by rw [hw]; decide)]
  exact hK _ _ ⟨.inr hT, by rw [hd]; exact h⟩
theorem lastC {oi : Oper} {n : Nat} {ls : Array Bool} {a : Act} {w : World} (d : Nat) (hi : ops[z]? = some oi) (hd : oi.dst = some d) (hw : Region.wanted oi (yielded ops a.tmps) = true)
    {v : Value} (hrun : (execOp a.eval oi).run P w = .ok (.value v) w) (h : Upto P md ops Q T z n (ls.setIfInBounds z true) { a with tmps := a.tmps.setIfInBounds d v } w) : Comes P md ops Q T z n ls a w z := by
  refine wpOp_step hi fun K hK => ?_
  rw [if_pos hw]
  unfold Oper.wp
  rw [hrun]
  exact hK _ _ ⟨.inl rfl, by rw [hd]; exact h⟩
end
theorem wp_one {P : Program} {o : Oper} {a : Act} {w w' : World} {K : Act → World → Prop} {Q : Exit → Act → World → Prop} {v : Value} (h : (execOp a.eval o).run P w = .ok (.value v) w') (hk : K (a.put o.dst v) w') : o.wp P a w K Q := by
  unfold Oper.wp
  rw [h]
  exact hk
/-- the orders meet: what is left hangs on the blocks' numbers alone -/
theorem wp_meet1 {P : Program} {c : Code} {Q : Exit → Act → World → Prop} {a : Act} {w : World} (A : Nat → Act) (S : Nat → World → Prop) (h : c.wp P (fun e a' w' => e = .normal ∧ ∃ x, a' = A x ∧ S x w') a w) (hq : ∀ x w', S x w' → Q .normal (A x) w') : c.wp P Q a w :=
  Code.wp_mono (fun e a' w' q => by obtain ⟨rfl, x, rfl, hs⟩ := q; exact hq x w' hs) h
theorem wp_meet2b {P : Program} {c : Code} {Q : Exit → Act → World → Prop} {a : Act} {w : World} (A : Nat → Nat → Act) (S : Nat → Nat → World → Prop) (h : c.wp P (fun e a' w' => e = .normal ∧ ∃ x y, a' = A x y ∧ S x y w') a w) (hq : ∀ x y w', S x y w' → Q .normal (A x y) w') : c.wp P Q a w :=
  Code.wp_mono (fun e a' w' q => by obtain ⟨rfl, x, y, rfl, hs⟩ := q; exact hq x y w' hs) h
end Go.Proofs.YtgcgdjmlngfpeaaDoor
