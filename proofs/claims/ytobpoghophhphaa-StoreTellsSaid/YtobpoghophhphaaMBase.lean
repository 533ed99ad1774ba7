/- What a walk keeps of the memory; rows of the call's own; a memory of harts in rows of its own. -/
import Derived.WalkKit
import Derived.Lib.Hide
import Derived.OwnWalk
import Derived.BigQuiet
import Derived.Deep.RegionHeld3
import Derived.Test.YtobpoghophhphaaProg
import Derived.Test.YtobpoghophhphaaCBoth
import Derived.Test.YtobpoghophhphaaMPlain
import Derived.Test.YtobpoghophhphaaMTwo
namespace Go.Proofs.Ytobpoghophhphaa
open Go.RowKit Mm
set_option linter.unusedVariables false
set_option linter.unusedSimpArgs false
theorem ri {k : IntKind} {a b : Int} (h : a = b) : Ending.returned (.int k a) = .returned (.int k b) := by rw [h]
theorem rb {a b : Bool} (h : a = b) : Ending.returned (.bool a) = .returned (.bool b) := by rw [h]
/-- of what was there nothing has turned -/
def Bel (w w' : World) : Prop := Below w.heap.size w w'
theorem Bel.refl (w : World) : Bel w w := Below.refl _ _
theorem Bel.trans {a b c : World} (h : Bel a b) (k : Bel b c) : Bel a c := Below.trans h (Below.mono k h.size)
theorem Bel.alloc {w w' : World} (h : Bel w w') (c : Array Value) (t : TypeId) : Bel w (w'.alloc (.cells c t)) := Below.alloc h h.size _
theorem Bel.setCell {w w' : World} (h : Bel w w') {p : Addr} (hp : w.heap.size ≤ p.block) (u : Value) : Bel w (w'.setCell p u) := Below.setCell h hp _
theorem Bel.drew {w w' : World} (h : Bel w w') : Bel w w'.drew := Below.drew h
theorem Bel.cell {w w' : World} (h : Bel w w') {p : Addr} (hp : p.block < w.heap.size) : w'.cell? p = w.cell? p := Below.cell h hp
theorem Both.bel {w w' : World} (h : Both w w') : Bel w w' := h.1
theorem lt_of_heap {w : World} {g : Nat} {o : Obj} (h : w.heap[g]? = some o) : g < w.heap.size := (Array.getElem?_eq_some_iff.1 h).1
/-- of what was there nothing turns but in the blocks of S -/
structure Sv (S : Nat → Prop) (w w' : World) : Prop where
  os : w'.os = w.os
  tape : w'.tape = w.tape
  output : w'.output = w.output
  size : w.heap.size ≤ w'.heap.size
  block : ∀ k, k < w.heap.size → ¬ S k → w'.heap[k]? = w.heap[k]?
theorem Bel.sv {w w' : World} (h : Bel w w') (S : Nat → Prop) : Sv S w w' := ⟨h.os, h.tape, h.output, h.size, fun k hk _ => h.block k hk⟩
theorem Sv.trans {S : Nat → Prop} {a b c : World} (h : Sv S a b) (k : Sv S b c) : Sv S a c :=
  ⟨k.os.trans h.os, k.tape.trans h.tape, k.output.trans h.output, Nat.le_trans h.size k.size, fun j hj hs => (k.block j (Nat.lt_of_lt_of_le hj h.size) hs).trans (h.block j hj hs)⟩
theorem Sv.bel {S : Nat → Prop} {w w' : World} (h : Sv S w w') {w0 : World} (h0 : Bel w0 w) (hs : ∀ k, S k → w0.heap.size ≤ k) : Bel w0 w' :=
  ⟨h.os.trans h0.os, h.tape.trans h0.tape, h.output.trans h0.output, Nat.le_trans h0.size h.size, fun k hk => (h.block k (Nat.lt_of_lt_of_le hk h0.size) (fun c => by have := hs k c; omega)).trans (h0.block k hk)⟩
theorem Sv.cell {S : Nat → Prop} {w w' : World} (h : Sv S w w') {p : Addr} (hp : p.block < w.heap.size) (hs : ¬ S p.block) : w'.cell? p = w.cell? p := by
  unfold World.cell?
  rw [h.block _ hp hs]
theorem sv_setRow {w : World} (S : Nat → Prop) {g : Nat} (hg : S g ∨ w.heap.size ≤ g) (cs : Array Value) : Sv S w (w.setRow g cs) :=
  ⟨rfl, rfl, rfl, by rw [setRow_size]; exact Nat.le_refl _, fun k hk hs => setRow_other _ _ _ _ (by rintro rfl; rcases hg with h | h; exact hs h; omega)⟩
theorem append_sv {P : Program} (w : World) (base : Nat) (t ty e : TypeId) (i : TypeInfo) (z : Value) (size bytes : Nat) (ht : P.underlying t = some (.slice e)) (hi : P.info? e = some i) (hz : i.zero = some z)
    (hsize : i.size = size) (hby : i.bytes = bytes) (hzs : z.cells.size = size) (hsz : 0 < size) (v : Value) (n : Nat) (xs : List Value) (hown : w.ownsRow base e size v n xs)
    (a : Addr) (m c : Nat) (news : List Value) (hl : news.length = m * size) (hnews : ∀ j u, news[j]? = some u → w.cell? (a.add j) = some u) (h1 : ∀ u ∈ news, u.oneCell' = true)
    (h63 : n + m ≤ maxLen) (hbytes : (n + m) * bytes ≤ 140737488355328) (hbase : base ≤ w.heap.size) (hm : 0 < m ∨ v ≠ .slice none 0 0) :
    ∃ v' w', (Builtin.append_ #[t, t] ty #[v, .slice (some a) m c]).run P w = .ok v' w' ∧ w'.ownsRow base e size v' (n + m) (xs ++ news) ∧ Sv (fun k => v.ownBlock = some k) w w' ∧ (v' ≠ .slice none 0 0) ∧ (∀ k, v'.ownBlock = some k → v.ownBlock = some k ∨ w.heap.size ≤ k) := by
  obtain ⟨v', w', hrun, hown', _, hnil⟩ := run_append_own (P := P) w base t ty e i z size bytes ht hi hz hsize hby hzs hsz v n xs hown a m c news hl hnews h1 h63 hbytes hbase
  have hv' : v' ≠ .slice none 0 0 := fun c => by
    obtain ⟨c1, c2⟩ := hnil.1 c
    rcases hm with h | h
    · omega
    · exact h c1
  suffices hh : Sv (fun k => v.ownBlock = some k) w w' ∧ (∀ k, v'.ownBlock = some k → v.ownBlock = some k ∨ w.heap.size ≤ k) from ⟨v', w', hrun, hown', hh.1, hv', hh.2⟩
  subst hsize
  subst hby
  have hsmall : n + m ≤ 9223372036854775807 := by simp only [maxLen] at h63; omega
  rcases hown.2 with ⟨rfl, rfl⟩ | ⟨g, cap, cur, rfl, hbg, hg, hnc, hcm, hcs, htake⟩
  · have hm0 : 0 < m := by rcases hm with h | h; exact h; exact absurd rfl h
    rw [run_append_nil (P := P) w t ty e i z ht hi hz a m c news hl hnews hm0 (by omega) (by have hb := hbytes; simp only [Nat.zero_add] at hb; omega)] at hrun
    injection hrun with hv2 hw
    subst hw
    exact ⟨((Bel.refl w).drew.alloc _ _).sv _, fun k hk => .inr (by rw [← hv2] at hk; cases hk; exact Nat.le_refl _)⟩
  · by_cases hroom : n + m ≤ cap
    · have hfit : n * i.size + news.length ≤ cur.size := by rw [hl, hcs, ← Nat.add_mul]; exact Nat.mul_le_mul_right _ hroom
      rw [run_append_room (P := P) w t ty e i ht hi g n cap cur hg a m c news hl hnews h1 hroom hfit] at hrun
      injection hrun with hv2 hw
      subst hw
      exact ⟨sv_setRow (g := g) (fun k => (Value.slice (some ⟨g, 0, none⟩) n cap).ownBlock = some k) (Or.inl rfl) _, fun k hk => .inl (by rw [← hv2] at hk; cases hk; rfl)⟩
    · have holds : ∀ j u, xs[j]? = some u → w.cell? ((⟨g, 0, none⟩ : Addr).add j) = some u := hown.cells (g := g) rfl
      rw [run_append_grow (P := P) w t ty e i z ht hi hz ⟨g, 0, none⟩ n cap xs hown.1 holds a m c news hl hnews (by omega) (by omega) (growslice_fits (by omega) hbytes)] at hrun
      injection hrun with hv2 hw
      subst hw
      exact ⟨((Bel.refl w).drew.alloc _ _).sv _, fun k hk => .inr (by rw [← hv2] at hk; cases hk; exact Nat.le_refl _)⟩
theorem wpList_app {P : Program} {w w' : World} {ops : Array Oper} {rest : List Oper} {o : Oper} {a : Act} {Q : Exit → Act → World → Prop} (hgd : o.guard = none) (s x : Operand) (t : TypeId)
    (ho : o.op = .call { callee := .builtin .append, args := #[s, x], argTypes := #[t, t] }) (sv xv r : Value) (hs : a.eval s = sv) (hx : a.eval x = xv)
    (hrun : (Builtin.append_ #[t, t] o.type #[sv, xv]).run P w = .ok r w') (h : wpList P ops Q rest (a.put o.dst r) w') : wpList P ops Q (o :: rest) a w := by
  refine wpList_plain hgd fun K hK => ?_
  unfold Oper.wp
  simp [execOp, ho, resolve, invoke, builtin, hs, hx, hrun, Result.andThen]
  exact hK _ _ h
theorem ownsRow_sv {S : Nat → Prop} {w w' : World} {base : Nat} {e : TypeId} {size : Nat} {v : Value} {n : Nat} {xs : List Value} (h : w.ownsRow base e size v n xs) (hs : Sv S w w') (hn : ∀ k, v.ownBlock = some k → ¬ S k) : w'.ownsRow base e size v n xs := by
  refine ⟨h.1, ?_⟩
  rcases h.2 with hn' | ⟨g, cap, cur, rfl, hb, hgg, rest⟩
  · exact .inl hn'
  · exact .inr ⟨g, cap, cur, rfl, hb, (hs.block g (Array.getElem?_eq_some_iff.1 hgg).1 (hn g rfl)).trans hgg, rest⟩
theorem cell_of_heap {w : World} {g : Nat} {cs : Array Value} {t : TypeId} {fr : Nat × Nat} (h : w.heap[g]? = some (.cells cs t fr)) (o : Nat) : w.cell? ⟨g, o, none⟩ = cs[o]? := by
  unfold World.cell?
  simp [h]
theorem frozen_of_heap {w : World} {g : Nat} {cs : Array Value} {t : TypeId} (h : w.heap[g]? = some (.cells cs t (0, 0))) (o : Nat) : w.frozen? ⟨g, o, none⟩ = false := by
  rw [frozen_marks, h]
  simp [marks]
theorem Bel.stays {w w' : World} (h : Bel w w') {g : Nat} {o : Obj} (hg : w.heap[g]? = some o) : w'.heap[g]? = some o := (Below.block h g (lt_of_heap hg)).trans hg
theorem Bel.drewN {w w' : World} (h : Bel w w') (n : Nat) : Bel w (w'.drewN n) := ⟨h.os, h.tape, h.output, h.size, h.block⟩
theorem Both.drewN {a b : World} (h : Both a b) (n : Nat) : Both a (b.drewN n) := ⟨⟨h.1.os, h.1.tape, h.1.output, h.1.size, h.1.block⟩, h.2⟩
theorem Both.drew {a b : World} (h : Both a b) : Both a b.drew := ⟨⟨h.1.os, h.1.tape, h.1.output, h.1.size, h.1.block⟩, h.2⟩
/-- a row of elements of k cells each, at a place -/
def EncAt {α : Type} (enc : α → List Value) (k : Nat) (w : World) (p : Option Addr) (l : List α) : Prop := ∀ (j : Nat) (x : α), l[j]? = some x → ∃ b o, p = some ⟨b, o, none⟩ ∧ b < w.heap.size ∧ ∀ (i : Nat) (v : Value), (enc x)[i]? = some v → w.cell? ⟨b, o + j * k + i, none⟩ = some v
theorem EncAt.nil {α : Type} (enc : α → List Value) (k : Nat) (w : World) (p : Option Addr) : EncAt enc k w p [] := fun j x h => by simp at h
theorem EncAt.bel {α : Type} {enc : α → List Value} {k : Nat} {w w' : World} {p : Option Addr} {l : List α} (h : EncAt enc k w p l) (hb : Bel w w') : EncAt enc k w' p l := fun j x hj => by
  obtain ⟨b, o, h1, h2, h3⟩ := h j x hj
  exact ⟨b, o, h1, Nat.lt_of_lt_of_le h2 hb.size, fun i v hv => (hb.cell (p := ⟨b, o + j * k + i, none⟩) h2).trans (h3 i v hv)⟩
/-- a row of the call's own, of elements of k cells -/
abbrev ERow {α : Type} (enc : α → List Value) (t : TypeId) (k : Nat) (w : World) (base : Nat) (v : Value) (l : List α) : Prop := w.ownsRow base t k v l.length (l.flatMap enc)
theorem ERow.sv {α : Type} {enc : α → List Value} {t : TypeId} {k : Nat} {S : Nat → Prop} {w w' : World} {base : Nat} {v : Value} {l : List α} (h : ERow enc t k w base v l) (hs : Sv S w w') (hn : ∀ k, v.ownBlock = some k → ¬ S k) : ERow enc t k w' base v l := ownsRow_sv h hs hn
theorem ERow.bel {α : Type} {enc : α → List Value} {t : TypeId} {k : Nat} {w w' : World} {base : Nat} {v : Value} {l : List α} (h : ERow enc t k w base v l) (hs : Bel w w') : ERow enc t k w' base v l := ownsRow_sv h (hs.sv fun _ => False) fun _ _ => id
theorem ERow.nil {α : Type} (enc : α → List Value) (t : TypeId) (k : Nat) (w : World) (base : Nat) : ERow enc t k w base (.slice none 0 0) [] := World.ownsRow_nil _ _ _ _
theorem flat_get {α : Type} {enc : α → List Value} {k : Nat} (hk : ∀ x, (enc x).length = k) {l : List α} {j : Nat} {x : α} (h : l[j]? = some x) {i : Nat} {v : Value} (hv : (enc x)[i]? = some v) : (l.flatMap enc)[j * k + i]? = some v := by
  have hi : i < k := by have := (List.getElem?_eq_some_iff.1 hv).1; rwa [hk] at this
  induction l generalizing j with
  | nil => simp at h
  | cons y t ih =>
    rw [List.flatMap_cons]
    cases j with
    | zero =>
      simp only [List.getElem?_cons_zero, Option.some.injEq] at h
      subst h
      rw [Nat.zero_mul, Nat.zero_add, List.getElem?_append_left (by rw [hk]; exact hi)]
      exact hv
    | succ j =>
      rw [List.getElem?_cons_succ] at h
      have e : (j + 1) * k + i = k + (j * k + i) := by rw [Nat.succ_mul]; omega
      rw [e, List.getElem?_append_right (by rw [hk]; omega), hk, Nat.add_sub_cancel_left]
      exact ih h
theorem flat_len {α : Type} {enc : α → List Value} {k : Nat} (hk : ∀ x, (enc x).length = k) (l : List α) : (l.flatMap enc).length = l.length * k := by
  induction l with
  | nil => simp
  | cons x l ih => rw [List.flatMap_cons, List.length_append, ih, List.length_cons, hk, Nat.succ_mul]; omega
/-- what an own row's value is -/
theorem ERow.form {α : Type} {enc : α → List Value} {t : TypeId} {k : Nat} (hk : ∀ x, (enc x).length = k) {w : World} {base : Nat} {v : Value} {l : List α} (h : ERow enc t k w base v l) : ∃ p c, v = .slice p l.length c ∧ EncAt enc k w p l ∧ (∀ q, p = some q → base ≤ q.block ∧ q.block < w.heap.size) := by
  rcases h.2 with ⟨rfl, hx⟩ | ⟨g, cap, cur, rfl, hb, hg, hnc, hcm, hcs, htake⟩
  · refine ⟨none, 0, ?_, ?_, fun q c => by cases c⟩
    · rw [hx]
    · intro j x hj
      have := (List.getElem?_eq_some_iff.1 hj).1
      omega
  · have hlt := (Array.getElem?_eq_some_iff.1 hg).1
    refine ⟨some ⟨g, 0, none⟩, cap, rfl, fun j x hj => ⟨g, 0, rfl, hlt, fun i u hu => ?_⟩, fun q c => by cases c; exact ⟨hb, hlt⟩⟩
    have hg4 := flat_get hk hj hu
    have hlt4 := (List.getElem?_eq_some_iff.1 hg4).1
    rw [flat_len hk] at hlt4
    rw [Nat.zero_add, World.ownsRow.cellAt h (j * k + i) hlt4]
    exact hg4
section
variable {P : Program} {ops : Array Oper} {Q : Exit → Act → World → Prop} {md : Region.Mode} {S : World → Prop}
/-- an operation of a drawn region taken first, its slot by its number -/
theorem takeD (d : Nat) {i : Nat} {oi : Oper} {v : Value} {fuel : Nat} {listed : Array Bool} {a : Act} {w : World} (hi : ops[i]? = some oi) (hd : oi.dst = some d)
    (hs : Region.noSelect ops = true) (hf : Region.free md ops listed i = true) (hr : (Region.ready md ops listed).contains i = true)
    (hQ : ∀ c a w, Q (.panic c) (a.put oi.dst v) w → Q (.panic c) a w) (hw : Region.wanted oi (yielded ops a.tmps) = true) (hy : ∀ w, S w → (execOp a.eval oi).run P w = .ok (.value v) w) (hS : S w)
    (h : wpAnyH P md ops Q S fuel (listed.setIfInBounds i true) { a with tmps := a.tmps.setIfInBounds d v } w) : wpAnyH P md ops Q S (fuel + 1) listed a w :=
  wpAnyH_take hi hs hf hr hQ (Or.inl ⟨hw, hy⟩) hS (by rw [hd]; exact h)
/-- one that isn't wanted -/
theorem skipD (d : Nat) {i : Nat} {oi : Oper} {fuel : Nat} {listed : Array Bool} {a : Act} {w : World} (hi : ops[i]? = some oi) (hd : oi.dst = some d)
    (hs : Region.noSelect ops = true) (hf : Region.free md ops listed i = true) (hr : (Region.ready md ops listed).contains i = true)
    (hQ : ∀ c a w, Q (.panic c) (a.put oi.dst undef) w → Q (.panic c) a w) (hw : Region.wanted oi (yielded ops a.tmps) = false) (hS : S w)
    (h : wpAnyH P md ops Q S fuel (listed.setIfInBounds i true) { a with tmps := a.tmps.setIfInBounds d undef } w) : wpAnyH P md ops Q S (fuel + 1) listed a w :=
  wpAnyH_take hi hs hf hr hQ (Or.inr ⟨hw, rfl⟩) hS (by rw [hd]; exact h)
/-- the only one that may come up is carried out -/
theorem onlyD (d : Nat) {i : Nat} {oi : Oper} {fuel : Nat} {listed : Array Bool} {a : Act} {w : World} (hi : ops[i]? = some oi) (hd : oi.dst = some d) (hr : Region.ready md ops listed = [i])
    (hw : Region.wanted oi (yielded ops a.tmps) = true)
    (h : ∀ K : Act → World → Prop, Shut (∀ (v : Value) (w' : World), S w' → (S w' → wpAnyH P md ops Q S fuel (listed.setIfInBounds i true) { a with tmps := a.tmps.setIfInBounds d v } w') → K (a.put oi.dst v) w') → Oper.wp P oi a w K Q) : wpAnyH P md ops Q S (fuel + 1) listed a w := by
  refine wpAnyH_ready (rs := [i]) hr (by simp) ?_
  refine AllReadyH.cons hi (fun K hK => ?_) AllReadyH.nil
  rw [if_pos hw]
  exact h K (fun v w' hS hn => hK _ _ hS (fun hS => by rw [hd]; exact hn hS))
end
/-- of what was there nothing turns but in one block -/
def Svg (g : Nat) (w w' : World) : Prop := Sv (fun k => k = g) w w'
theorem Svg.refl (g : Nat) (w : World) : Svg g w w := (Bel.refl w).sv _
theorem Svg.trans {g : Nat} {a b c : World} (h : Svg g a b) (k : Svg g b c) : Svg g a c := Sv.trans h k
theorem Bel.svg {w w' : World} (h : Bel w w') (g : Nat) : Svg g w w' := h.sv _
theorem Svg.set (g i : Nat) (w : World) (v : Value) : Svg g w (w.setCell ⟨g, i, none⟩ v) := ⟨rfl, rfl, rfl, by simp [World.setCell], fun k _ hk => Below.heap_setCell _ _ _ _ hk⟩
theorem Svg.bel {g : Nat} {w w' w0 : World} (h : Svg g w w') (h0 : Bel w0 w) (hg : w0.heap.size ≤ g) : Bel w0 w' := Sv.bel h h0 (fun k hk => by subst hk; exact hg)
theorem Svg.drewN {g : Nat} {w w' : World} (h : Svg g w w') (n : Nat) : Svg g w (w'.drewN n) := ⟨h.os, h.tape, h.output, h.size, h.block⟩
structure RowTy {α : Type} (enc : α → List Value) (k : Nat) (t T : TypeId) (bytes : Nat) : Prop where
  len : ∀ x, (enc x).length = k
  one : ∀ x, ∀ u ∈ enc x, u.oneCell' = true
  und : Try.prog.underlying t = some (.slice T)
  info : ∃ i z, Try.prog.info? T = some i ∧ i.zero = some z ∧ i.size = k ∧ i.bytes = bytes ∧ z.cells.size = k
  pos : 0 < k
  small : bytes ≤ 1000
theorem addr_add (b o n : Nat) : (⟨b, o, none⟩ : Addr).add n = ⟨b, o + n, none⟩ := by simp [Addr.add]
theorem enc_news {α : Type} {enc : α → List Value} {k : Nat} (hk : ∀ x, (enc x).length = k) {w : World} {b o : Nat} {r : List α} (hs : ∀ (j : Nat) (x : α), r[j]? = some x → ∀ (i : Nat) (v : Value), (enc x)[i]? = some v → w.cell? ⟨b, o + j * k + i, none⟩ = some v) : ∀ (n : Nat) (u : Value), (r.flatMap enc)[n]? = some u → w.cell? ((⟨b, o, none⟩ : Addr).add n) = some u := by
  induction r generalizing o with
  | nil => intro n u h; simp at h
  | cons x r ih =>
    intro n u h
    rw [List.flatMap_cons] at h
    by_cases hn : n < k
    · rw [List.getElem?_append_left (by rw [hk]; exact hn)] at h
      have := hs 0 x rfl n u h
      rw [Nat.zero_mul, Nat.add_zero] at this
      rw [addr_add]
      exact this
    · rw [List.getElem?_append_right (by rw [hk]; omega), hk] at h
      have := ih (o := o + k) (fun j y hj i v hv => by
        have := hs (j + 1) y (by simpa using hj) i v hv
        rw [Nat.succ_mul] at this
        rw [show o + k + j * k + i = o + (j * k + k) + i by omega]
        exact this) (n - k) u h
      rw [addr_add] at this ⊢
      rw [show o + k + (n - k) = o + n by omega] at this
      exact this
theorem flat_one {α : Type} {enc : α → List Value} (h1 : ∀ x, ∀ u ∈ enc x, u.oneCell' = true) (r : List α) : ∀ u ∈ r.flatMap enc, u.oneCell' = true := by
  intro u hu
  obtain ⟨x, _, hx⟩ := List.mem_flatMap.1 hu
  exact h1 x u hx
/-- some things more -/
theorem app_more {α : Type} {enc : α → List Value} {k : Nat} {t T : TypeId} {bytes : Nat} (H : RowTy enc k t T bytes) {w : World} {base : Nat} {v : Value} {l : List α} (h : ERow enc T k w base v l) {b o m c : Nat} {r : List α} (hr : r.length = m) (hs : ∀ (j : Nat) (x : α), r[j]? = some x → ∀ (i : Nat) (v : Value), (enc x)[i]? = some v → w.cell? ⟨b, o + j * k + i, none⟩ = some v) (hv : 0 < m ∨ v ≠ .slice none 0 0) (hL : l.length + m ≤ 100000) (hb : base ≤ w.heap.size) :
    ∃ v' w', (Builtin.append_ #[t, t] t #[v, .slice (some ⟨b, o, none⟩) m c]).run Try.prog w = .ok v' w' ∧ ERow enc T k w' base v' (l ++ r) ∧ Sv (fun b => v.ownBlock = some b) w w' ∧ v' ≠ .slice none 0 0 ∧ (∀ k, v'.ownBlock = some k → v.ownBlock = some k ∨ w.heap.size ≤ k) := by
  obtain ⟨i, z, hi, hz, hsz, hby, hzs⟩ := H.info
  have hlt : (l.length + m) * bytes ≤ 100000 * 1000 := Nat.mul_le_mul hL H.small
  obtain ⟨v', w', hrun, hown, hsv, hn⟩ := append_sv (P := Try.prog) w base t t T i z k bytes H.und hi hz hsz hby hzs H.pos v l.length (l.flatMap enc) h ⟨b, o, none⟩ m c (r.flatMap enc) (by rw [flat_len H.len, hr]) (enc_news H.len hs) (flat_one H.one r) (by unfold maxLen; omega) (by omega) hb hv
  refine ⟨v', w', hrun, ?_, hsv, hn⟩
  show w'.ownsRow base T k v' (l ++ r).length ((l ++ r).flatMap enc)
  rw [List.length_append, List.flatMap_append, hr]
  exact hown
theorem heap_set {w : World} {g : Nat} {cs : Array Value} {t : TypeId} {fr : Nat × Nat} (h : w.heap[g]? = some (.cells cs t fr)) (o : Nat) (u : Value) : (w.setCell ⟨g, o, none⟩ u).heap[g]? = some (.cells (cs.setIfInBounds o u) t fr) := by
  unfold World.setCell
  simp [Array.getElem?_modify, h]
theorem run_equalIn_ints : True := trivial
/-- a slice's three numbers -/
structure Sl where
  p : Option Addr
  n : Nat
  c : Nat
@[reducible] def Sl.val (s : Sl) : Value := .slice s.p s.n s.c
abbrev encI (x : Int) : List Value := [.int .i64 x]
abbrev encS (s : Sl) : List Value := [.slice s.p s.n s.c]
abbrev encE (e : Int × Int) : List Value := [.int .i64 e.1, .int .i64 e.2]
theorem intTy : RowTy encI 1 24 3 8 :=
  ⟨fun _ => rfl, fun x u hu => by rw [List.mem_singleton.1 hu]; rfl, Try.underlying24, ⟨(Try.prog.info? 3).get (by kernel_rfl), .int .i64 0, by kernel_rfl, by kernel_rfl, by kernel_rfl, by kernel_rfl, by kernel_rfl⟩, by decide, by decide⟩
theorem entTy : RowTy encE 2 46 48 16 :=
  ⟨fun _ => rfl, fun x u hu => by rcases List.mem_cons.1 hu with rfl | h; rfl; rw [List.mem_singleton.1 h]; rfl, Try.underlying46, ⟨(Try.prog.info? 48).get (by kernel_rfl), .agg #[.int .i64 0, .int .i64 0], by kernel_rfl, by kernel_rfl, by kernel_rfl, by kernel_rfl, by kernel_rfl⟩, by decide, by decide⟩
theorem slTy : RowTy encS 1 25 46 24 :=
  ⟨fun _ => rfl, fun x u hu => by rw [List.mem_singleton.1 hu]; rfl, Try.underlying25, ⟨(Try.prog.info? 46).get (by kernel_rfl), .slice none 0 0, by kernel_rfl, by kernel_rfl, by kernel_rfl, by kernel_rfl, by kernel_rfl⟩, by decide, by decide⟩
/-- a row's own block: it is there, of one element's type, and nothing of it is frozen -/
theorem ERow.at {α : Type} {enc : α → List Value} {t : TypeId} {k : Nat} (hk : ∀ x, (enc x).length = k) {w : World} {base : Nat} {s : Sl} {l : List α} (h : ERow enc t k w base s.val l) {j : Nat} {x : α} (hj : l[j]? = some x) :
    ∃ g cs, s.p = some ⟨g, 0, none⟩ ∧ base ≤ g ∧ w.heap[g]? = some (.cells cs t (0, 0)) ∧ s.n = l.length ∧ s.n ≤ s.c ∧ j < s.n ∧ cs.size = s.c * k ∧ ∀ (i : Nat) (v : Value), (enc x)[i]? = some v → w.cell? ⟨g, j * k + i, none⟩ = some v := by
  have hlt := (List.getElem?_eq_some_iff.1 hj).1
  have h0 := h
  rcases h.2 with ⟨h1, hx⟩ | ⟨g, cap, cur, h1, hb, hg, hnc, hcm, hcs, htake⟩
  · omega
  · injection h1 with h1 h2 h3
    refine ⟨g, cur, h1, hb, hg, h2, by rw [h2, h3]; exact hnc, by rw [h2]; exact hlt, by rw [h3]; exact hcs, fun i u hu => ?_⟩
    have hg4 := flat_get hk hj hu
    have hlt4 := (List.getElem?_eq_some_iff.1 hg4).1
    rw [flat_len hk] at hlt4
    have e0 : s.val = .slice (some ⟨g, 0, none⟩) l.length s.c := by show Value.slice s.p s.n s.c = _; rw [h1, h2]
    have h0' : w.ownsRow base t k (.slice (some ⟨g, 0, none⟩) l.length s.c) l.length (l.flatMap enc) := by rw [← e0]; exact h0
    rw [World.ownsRow.cellAt h0' (j * k + i) hlt4]
    exact hg4
theorem ERow.n {α : Type} {enc : α → List Value} {t : TypeId} {k : Nat} {w : World} {base : Nat} {s : Sl} {l : List α} (h : ERow enc t k w base s.val l) : s.n = l.length := by
  rcases h.2 with ⟨h1, hx⟩ | ⟨g, cap, cur, h1, hb, hg, hnc, hcm, hcs, htake⟩
  · injection h1 with h1 h2 h3
    omega
  · injection h1
theorem ERow.c {α : Type} {enc : α → List Value} {t : TypeId} {k : Nat} {w : World} {base : Nat} {s : Sl} {l : List α} (h : ERow enc t k w base s.val l) : s.n ≤ s.c := by
  rcases h.2 with ⟨h1, hx⟩ | ⟨g, cap, cur, h1, hb, hg, hnc, hcm, hcs, htake⟩
  · injection h1 with h1 h2 h3
    omega
  · injection h1 with h1 h2 h3
    omega
/-- where its block is -/
theorem ERow.blk {α : Type} {enc : α → List Value} {t : TypeId} {k : Nat} {w : World} {base : Nat} {v : Value} {l : List α} (h : ERow enc t k w base v l) {b : Nat} (hb : v.ownBlock = some b) : base ≤ b ∧ ∃ cs, w.heap[b]? = some (.cells cs t (0, 0)) := by
  rcases h.2 with ⟨rfl, hx⟩ | ⟨g, cap, cur, rfl, hg, hh, hnc, hcm, hcs, htake⟩
  · cases hb
  · cases hb
    exact ⟨hg, cur, hh⟩
theorem ERow.mono {α : Type} {enc : α → List Value} {t : TypeId} {k : Nat} {w : World} {base base' : Nat} {v : Value} {l : List α} (h : ERow enc t k w base v l) (hb : base' ≤ base) : ERow enc t k w base' v l := by
  refine ⟨h.1, ?_⟩
  rcases h.2 with h | ⟨g, cap, cur, rfl, hg, rest⟩
  · exact .inl h
  · exact .inr ⟨g, cap, cur, rfl, by omega, rest⟩
/-- one element of a row of single cells is another -/
theorem ERow.set {α : Type} {enc : α → List Value} {t : TypeId} (hk : ∀ x, (enc x).length = 1) {w : World} {base g n c : Nat} {l : List α} (h : ERow enc t 1 w base (.slice (some ⟨g, 0, none⟩) n c) l) {j : Nat} (hj : j < l.length) (x : α) (u : Value) (hu : enc x = [u]) (h1 : u.oneCell' = true) :
    ERow enc t 1 (w.setCell ⟨g, j, none⟩ u) base (.slice (some ⟨g, 0, none⟩) n c) (l.set j x) := by
  have hone : ∀ (l : List α) (j : Nat) , (l.set j x).flatMap enc = (l.flatMap enc).set j u := by
    intro l
    induction l with
    | nil => intro j; rfl
    | cons y t ih =>
      intro j
      obtain ⟨z, hz⟩ : ∃ z, enc y = [z] := List.length_eq_one_iff.1 (hk y)
      cases j with
      | zero => simp [List.flatMap_cons, hz, hu]
      | succ j => simp [List.flatMap_cons, hz, ih]
  refine ⟨?_, ?_⟩
  · rw [hone, List.length_set, List.length_set]
    exact h.1
  rcases h.2 with ⟨h1, hx⟩ | ⟨g', cap, cur, h2, hb, hg, hnc, hcm, hcs, htake⟩
  · cases h1
  · injection h2 with h2 h3 h4
    injection h2 with h2
    injection h2 with h2
    subst h2
    refine .inr ⟨g, cap, cur.setIfInBounds j u, by rw [List.length_set, h3, h4], hb, heap_set hg j u, by rw [List.length_set]; exact hnc, hcm, by rw [Array.size_setIfInBounds]; exact hcs, ?_⟩
    rw [hone, List.length_set, ← htake]
    first
    | (rw [Array.toList_setIfInBounds, List.take_set])
    | (rw [Array.toList_setIfInBounds, List.set_take])
    | (simp [List.take_set])

end Go.Proofs.Ytobpoghophhphaa
