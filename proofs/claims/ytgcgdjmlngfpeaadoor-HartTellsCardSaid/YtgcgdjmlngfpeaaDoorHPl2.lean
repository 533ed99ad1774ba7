/- Drawn regions of several orders over harts in boxes: one that comes up among others; the orders meet again. -/
import Derived.Test.YtgcgdjmlngfpeaaDoorHLaw1
import Derived.Test.YtgcgdjmlngfpeaaDoorHPlain
section
namespace Go.Proofs.YtgcgdjmlngfpeaaDoor
open Go.RowKit Ht
set_option linter.unusedVariables false
set_option linter.unusedSimpArgs false
section
variable {P : Program} {ops : Array Oper} {Q : Exit → Act → World → Prop} {md : Region.Mode} {T : World → Prop} {z : Nat}
theorem Upto.one {i n : Nat} {ls : Array Bool} {a : Act} {w : World} (hr : Region.ready md ops ls = [i]) (h1 : Comes P md ops Q T z n ls a w i) : Upto P md ops Q T z (n + 1) ls a w :=
  Upto.ready hr (by simp) (fun k hk => by
    obtain rfl := List.mem_singleton.1 hk
    exact h1)
theorem Upto.two {i j n : Nat} {ls : Array Bool} {a : Act} {w : World} (hr : Region.ready md ops ls = [i, j]) (h1 : Comes P md ops Q T z n ls a w i) (h2 : Comes P md ops Q T z n ls a w j) : Upto P md ops Q T z (n + 1) ls a w :=
  Upto.ready hr (by simp) (fun k hk => by
    rcases List.mem_cons.1 hk with rfl | hk
    · exact h1
    · obtain rfl := List.mem_singleton.1 hk
      exact h2)
theorem Upto.three {i j l n : Nat} {ls : Array Bool} {a : Act} {w : World} (hr : Region.ready md ops ls = [i, j, l]) (h1 : Comes P md ops Q T z n ls a w i) (h2 : Comes P md ops Q T z n ls a w j) (h3 : Comes P md ops Q T z n ls a w l) : Upto P md ops Q T z (n + 1) ls a w :=
  Upto.ready hr (by simp) (fun k hk => by
    rcases List.mem_cons.1 hk with rfl | hk
    · exact h1
    · rcases List.mem_cons.1 hk with rfl | hk
      · exact h2
      · obtain rfl := List.mem_singleton.1 hk
        exact h3)
theorem callC (d : Nat) {i : Nat} {oi : Oper} {n : Nat} {ls : Array Bool} {a : Act} {w : World} (hi : ops[i]? = some oi) (hd : oi.dst = some d) (hw : Region.wanted oi (yielded ops a.tmps) = true)
    {f : FuncId} {args : Array Value} {v : Value} (hrun : (execOp a.eval oi).run P w = .ok (.enter f args) w) (hc : Calls P f args w (OneV v w)) (hT : ∀ w', Bel w w' → T w')
    (h : ∀ w', Bel w w' → Upto P md ops Q T z n (ls.setIfInBounds i true) { a with tmps := a.tmps.setIfInBounds d v } w') : Comes P md ops Q T z n ls a w i :=
  Comes.of d hi hd hw (fun K hK => by
    unfold Oper.wp
    rw [hrun, Oper.upon_enter]
    refine hc.mono fun e w'' hh => ?_
    obtain ⟨rfl, hb⟩ := hh
    exact hK.out v w'' (hT _ hb) (fun _ => h _ hb))
theorem stepC (d : Nat) {i : Nat} {oi : Oper} {n : Nat} {ls : Array Bool} {a : Act} {w w' : World} (hi : ops[i]? = some oi) (hd : oi.dst = some d) (hw : Region.wanted oi (yielded ops a.tmps) = true)
    {v : Value} (hrun : (execOp a.eval oi).run P w = .ok (.value v) w') (hT : T w') (h : Upto P md ops Q T z n (ls.setIfInBounds i true) { a with tmps := a.tmps.setIfInBounds d v } w') : Comes P md ops Q T z n ls a w i :=
  Comes.of d hi hd hw (fun K hK => by
    unfold Oper.wp
    rw [hrun]
    exact hK.out v w' hT (fun _ => h))
theorem skipC (d : Nat) {i : Nat} {oi : Oper} {n : Nat} {ls : Array Bool} {a : Act} {w : World} (hi : ops[i]? = some oi) (hd : oi.dst = some d) (hw : Region.wanted oi (yielded ops a.tmps) = false)
    (hT : T w) (h : Upto P md ops Q T z n (ls.setIfInBounds i true) { a with tmps := a.tmps.setIfInBounds d undef } w) : Comes P md ops Q T z n ls a w i := by
  refine wpOp_step hi fun K hK => ?_
  rw [if_neg (by rw [hw]; decide)]
  exact hK _ _ ⟨.inr hT, by rw [hd]; exact h⟩
theorem lastC {oi : Oper} {n : Nat} {ls : Array Bool} {a : Act} {w : World} (d : Nat) (hi : ops[z]? = some oi) (hd : oi.dst = some d) (hw : Region.wanted oi (yielded ops a.tmps) = true)
    {v : Value} (hrun : (execOp a.eval oi).run P w = .ok (.value v) w) (h : Upto P md ops Q T z n (ls.setIfInBounds z true) { a with tmps := a.tmps.setIfInBounds d v } w) : Comes P md ops Q T z n ls a w z := by
  refine wpOp_step hi fun K hK => ?_
  rw [if_pos hw]
  unfold Oper.wp
  rw [hrun]
  exact hK _ _ ⟨.inl rfl, by rw [hd]; exact h⟩
end
theorem wp_one {P : Program} {o : Oper} {a : Act} {w w' : World} {K : Act → World → Prop} {Q : Exit → Act → World → Prop} {v : Value} (h : (execOp a.eval o).run P w = .ok (.value v) w') (hk : K (a.put o.dst v) w') : o.wp P a w K Q := by
  unfold Oper.wp
  rw [h]
  exact hk
/-- the orders meet: what is left hangs on the blocks' numbers alone -/
theorem wp_meet1 {P : Program} {c : Code} {Q : Exit → Act → World → Prop} {a : Act} {w : World} (A : Nat → Act) (S : Nat → World → Prop) (h : c.wp P (fun e a' w' => e = .normal ∧ ∃ x, a' = A x ∧ S x w') a w) (hq : ∀ x w', S x w' → Q .normal (A x) w') : c.wp P Q a w :=
  Code.wp_mono (fun e a' w' q => by obtain ⟨rfl, x, rfl, hs⟩ := q; exact hq x w' hs) h
theorem wp_meet2b {P : Program} {c : Code} {Q : Exit → Act → World → Prop} {a : Act} {w : World} (A : Nat → Nat → Act) (S : Nat → Nat → World → Prop) (h : c.wp P (fun e a' w' => e = .normal ∧ ∃ x y, a' = A x y ∧ S x y w') a w) (hq : ∀ x y w', S x y w' → Q .normal (A x y) w') : c.wp P Q a w :=
  Code.wp_mono (fun e a' w' q => by obtain ⟨rfl, x, y, rfl, hs⟩ := q; exact hq x y w' hs) h
end Go.Proofs.YtgcgdjmlngfpeaaDoor
end
section
namespace Go.Proofs.YtgcgdjmlngfpeaaDoor
open Go.RowKit Ht Plain
theorem w32_bd (n : Int) : -2147483648 ≤ wrap32 n ∧ wrap32 n ≤ 2147483647 := ⟨w32_lo n, w32_hi n⟩
theorem bv32_w (n : Int) : BitVec.ofInt 32 (wrap32 n) = BitVec.ofInt 32 n := by
  apply BitVec.eq_of_toInt_eq
  rw [BitVec.toInt_ofInt, BitVec.toInt_ofInt]
  unfold wrap32
  simp only [Int.bmod_def]
  omega
theorem bv32_bd (x : BitVec 32) : -2147483648 ≤ x.toInt ∧ x.toInt ≤ 2147483647 := by
  have h1 := BitVec.le_toInt x
  have h2 := BitVec.toInt_lt (x := x)
  simp at h1 h2
  omega
theorem tr_bd (p : Prop) [Decidable p] : -2147483648 ≤ tr p ∧ tr p ≤ 2147483647 := by unfold tr; split <;> omega
theorem two_in32 (o a b : Int) : wrap32 (two o a b) = two o a b := by
  by_cases h : o < 1 ∨ 14 < o
  · rw [two_out _ _ _ h]; exact w32_0
  · have : o = 1 ∨ o = 2 ∨ o = 3 ∨ o = 4 ∨ o = 5 ∨ o = 6 ∨ o = 7 ∨ o = 8 ∨ o = 9 ∨ o = 10 ∨ o = 11 ∨ o = 12 ∨ o = 13 ∨ o = 14 := by omega
    rcases this with rfl | rfl | rfl | rfl | rfl | rfl | rfl | rfl | rfl | rfl | rfl | rfl | rfl | rfl
    · exact w32_w32 _
    · exact w32_w32 _
    · exact w32_w32 _
    · rw [← two_4]; exact w32_w32 _
    · rw [← two_5]; exact w32_w32 _
    · exact w32_in _ (bv32_bd _)
    · exact w32_in _ (bv32_bd _)
    · exact w32_in _ (bv32_bd _)
    · exact w32_w32 _
    · rw [← two_10]; exact w32_w32 _
    · exact w32_in _ (tr_bd _)
    · exact w32_in _ (tr_bd _)
    · exact w32_in _ (tr_bd _)
    · exact w32_in _ (tr_bd _)
theorem md_w32 (n : Int) : wrap32 n % 4294967296 = n % 4294967296 := by unfold wrap32; omega
theorem two_cutL (o a b : Int) : two o (wrap32 a) b = two o a b := by
  unfold two
  simp only [w32_w32, bv32_w, md_w32]
theorem two_cutR (o a b : Int) : two o a (wrap32 b) = two o a b := by
  unfold two
  simp only [w32_w32, bv32_w, md_w32, mod32]
theorem two_inv (a : Int) : two 8 a (-1) = one 17 a := by
  rw [← one_17, ← two_8]
  have e : wrap32 (-1) = -1 := by decide +kernel
  rw [e]
  have c : bits .xor .i64 (wrap32 a) (-1) = bits .xor .i64 (-1) (wrap32 a) := by
    show IntKind.i64.wrap ((BitVec.ofInt 64 (wrap32 a) ^^^ BitVec.ofInt 64 (-1)).toNat : Int) = IntKind.i64.wrap ((BitVec.ofInt 64 (-1) ^^^ BitVec.ofInt 64 (wrap32 a)).toNat : Int)
    rw [BitVec.xor_comm]
  rw [c]
  have h := one_17 a
  rw [h]
  show wrap32 (-wrap32 a - 1) = -wrap32 a - 1
  have := w32_bd a
  exact w32_in _ (by omega)
end Go.Proofs.YtgcgdjmlngfpeaaDoor
end
section
namespace Go.Proofs.YtgcgdjmlngfpeaaDoor
open Go.RowKit Ht Plain
set_option linter.unusedVariables false
set_option linter.unusedSimpArgs false
abbrev V32 := BitVec 32
theorem v_of {x : Int} (h : -2147483648 ≤ x ∧ x ≤ 2147483647) : ∃ v : V32, v.toInt = x := ⟨BitVec.ofInt 32 x, by rw [toInt_ofInt]; exact w32_in _ h⟩
theorem v_w32 (v : V32) : wrap32 v.toInt = v.toInt := w32_in _ (bv32_bd v)
theorem v_sx (v : V32) : BitVec.ofInt 64 v.toInt = v.signExtend 64 := by
  apply BitVec.eq_of_toInt_eq
  rw [BitVec.toInt_signExtend_of_le (by decide), BitVec.toInt_ofInt, Int.bmod_def]
  have := bv32_bd v
  omega
theorem v_back (v : V32) : (v.signExtend 64).toInt = v.toInt := BitVec.toInt_signExtend_of_le (by decide)
theorem v_and (v u : V32) : bits .and .i64 v.toInt u.toInt = (v &&& u).toInt := by
  show IntKind.i64.wrap ((BitVec.ofInt 64 v.toInt &&& BitVec.ofInt 64 u.toInt).toNat : Int) = _
  rw [wrap_toNat, v_sx, v_sx, ← BitVec.signExtend_and, v_back]
theorem v_or (v u : V32) : bits .or .i64 v.toInt u.toInt = (v ||| u).toInt := by
  show IntKind.i64.wrap ((BitVec.ofInt 64 v.toInt ||| BitVec.ofInt 64 u.toInt).toNat : Int) = _
  rw [wrap_toNat, v_sx, v_sx, ← BitVec.signExtend_or, v_back]
theorem v_andNot (v u : V32) : bits .andNot .i64 v.toInt u.toInt = (v &&& ~~~ u).toInt := by
  show IntKind.i64.wrap ((BitVec.ofInt 64 v.toInt &&& ~~~ BitVec.ofInt 64 u.toInt).toNat : Int) = _
  rw [wrap_toNat, v_sx, v_sx, ← BitVec.signExtend_not (by decide), ← BitVec.signExtend_and, v_back]
theorem v_in (n t : V32) (k : V32) : ((k ||| n) &&& t) &&& (n &&& t) = n &&& t := by
  apply BitVec.eq_of_getLsbD_eq
  intro i hi
  simp only [BitVec.getLsbD_and, BitVec.getLsbD_or]
  cases n.getLsbD i <;> cases t.getLsbD i <;> cases k.getLsbD i <;> rfl
theorem v_out (n t p : V32) : ((p &&& ~~~ n) &&& t) &&& (n &&& t) = 0#32 := by
  apply BitVec.eq_of_getLsbD_eq
  intro i hi
  simp only [BitVec.getLsbD_and, BitVec.getLsbD_not, BitVec.getLsbD_zero, hi, decide_true, Bool.true_and]
  cases n.getLsbD i <;> cases t.getLsbD i <;> cases p.getLsbD i <;> rfl
theorem and_ones {x : Int} (h : -2147483648 ≤ x ∧ x ≤ 2147483647) : bits .and .i64 x (-1) = x := by
  obtain ⟨v, rfl⟩ := v_of h
  have e : (-1 : Int) = (BitVec.allOnes 32).toInt := by decide
  rw [e, v_and, BitVec.and_allOnes]
theorem and_four {x : Int} (h : -2147483648 ≤ x ∧ x ≤ 2147483647) (h4 : x % 4 = 0) : bits .and .i64 x (-4) = x := by
  have h3 : bits .andNot .i64 x 3 = x := by
    have := Rv.clear_field x 0 2 (A := 1) (W := 4) rfl rfl (by omega) (by omega) (by omega) (fun y h1 h2 => ⟨by omega, by omega, by omega⟩)
    have e : ((4 : Int) - 1) * 1 = 3 := rfl
    rw [e] at this
    rw [this]
    omega
  obtain ⟨v, rfl⟩ := v_of h
  have e4 : (-4 : Int) = (~~~ (3#32)).toInt := by decide
  have e3 : (3 : Int) = (3#32).toInt := by decide
  rw [e3, v_andNot] at h3
  rw [e4, v_and]
  exact h3
end Go.Proofs.YtgcgdjmlngfpeaaDoor
end
section
namespace Go.Proofs.YtgcgdjmlngfpeaaDoor
open Go.RowKit Ht
set_option linter.unusedVariables false
set_option linter.unusedSimpArgs false
open Rv (Ins)
theorem put_ne {h : H} {d n : Int} {j : Nat} (hj : (j : Int) ≠ d ∨ j = 0 ∨ 32 ≤ j) : put h d n j = h j := by
  unfold put
  split
  · rename_i c
    exact up_ne _ _ (by omega)
  · rfl
theorem csrK_bd {n bt : Int} {k : Nat} (h : csrK n = some (k, bt)) : 33 ≤ k ∧ k < 39 := by
  unfold csrK at h
  repeat' split at h
  all_goals (first | (injection h with h; injection h with h1 h2; omega) | cases h)
theorem stays {h g : H} {id : Int} {x : Ins} {e : Eff} (hs : stepV h id x = (g, e)) :
    (∀ j : Nat, j < 32 → ((j : Int) ≠ (if Rv.right x then x.d else 0) ∨ j = 0 ∨ e.kind ≠ 0) → g j = h j) ∧ (¬ ((40 ≤ x.op ∧ x.op ≤ 42) ∨ x.op = 44) → ∀ j : Nat, 33 ≤ j → j < 39 → g j = h j) := by
  unfold stepV at hs
  cases hr : Rv.right x with
  | false =>
    rw [if_pos hr] at hs
    injection hs with e1 e2
    subst e1
    exact ⟨fun _ _ _ => rfl, fun _ _ _ _ => rfl⟩
  | true =>
    rw [if_neg (by rw [hr]; decide)] at hs
    have k0 : ∀ j : Nat, ((j : Int) ≠ (if true = true then x.d else 0) ∨ j = 0 ∨ e0.kind ≠ 0) → (j : Int) ≠ x.d ∨ j = 0 ∨ 32 ≤ j := fun j hj => by
      rw [if_pos rfl] at hj
      rcases hj with hj | hj | hj
      · exact .inl hj
      · exact .inr (.inl hj)
      · exact absurd rfl hj
    by_cases c3 : x.op = 3
    · rw [if_pos c3] at hs
      injection hs with e1 e2
      subst e1 e2
      exact ⟨fun j hj h' => by rw [up_ne _ _ (by omega), put_ne (k0 j h')], fun _ j h1 h2 => by rw [up_ne _ _ (by omega), put_ne (.inr (.inr (by omega)))]⟩
    rw [if_neg c3] at hs
    by_cases c4 : x.op = 4
    · rw [if_pos c4] at hs
      injection hs with e1 e2
      subst e1 e2
      exact ⟨fun j hj h' => by rw [up_ne _ _ (by omega), put_ne (k0 j h')], fun _ j h1 h2 => by rw [up_ne _ _ (by omega), put_ne (.inr (.inr (by omega)))]⟩
    rw [if_neg c4] at hs
    by_cases c5 : 5 ≤ x.op ∧ x.op ≤ 10
    · rw [if_pos c5] at hs
      injection hs with e1 e2
      subst e1 e2
      exact ⟨fun j hj h' => up_ne _ _ (by omega), fun _ j h1 h2 => up_ne _ _ (by omega)⟩
    rw [if_neg c5] at hs
    by_cases c44 : x.op = 44
    · rw [if_pos c44] at hs
      injection hs with e1 e2
      subst e1 e2
      exact ⟨fun j hj h' => by rw [up_ne _ _ (by omega), up_ne _ _ (by omega)], fun hn => absurd (.inr c44) hn⟩
    rw [if_neg c44] at hs
    by_cases c40 : 40 ≤ x.op ∧ x.op ≤ 42
    · rw [if_pos c40] at hs
      refine ⟨fun j hj h' => ?_, fun hn => absurd (.inl c40) hn⟩
      unfold csrV at hs
      by_cases cn : x.n = 3860
      · rw [if_pos cn] at hs
        injection hs with e1 e2
        subst e1 e2
        show Ht.go _ 4 j = _
        unfold Ht.go
        rw [up_ne _ _ (by omega), put_ne (k0 j h')]
      rw [if_neg cn] at hs
      cases hk : csrK x.n with
      | none =>
        rw [hk] at hs
        injection hs with e1 e2
        subst e1
        rfl
      | some p =>
        obtain ⟨k, bt⟩ := p
        rw [hk] at hs
        injection hs with e1 e2
        subst e1 e2
        have := csrK_bd hk
        unfold Ht.go
        rw [up_ne _ _ (by omega), put_ne (k0 j h'), up_ne _ _ (by omega)]
    rw [if_neg c40] at hs
    by_cases cE : isEff x.op
    · rw [if_pos cE] at hs
      injection hs with e1 e2
      subst e1
      exact ⟨fun j hj h' => up_ne _ _ (by omega), fun _ j h1 h2 => up_ne _ _ (by omega)⟩
    · rw [if_neg cE] at hs
      injection hs with e1 e2
      subst e1 e2
      unfold Ht.go
      exact ⟨fun j hj h' => by rw [up_ne _ _ (by omega), put_ne (k0 j h')], fun _ j h1 h2 => by rw [up_ne _ _ (by omega), put_ne (.inr (.inr (by omega)))]⟩
end Go.Proofs.YtgcgdjmlngfpeaaDoor
end
