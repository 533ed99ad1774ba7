/- What a walk keeps of the memory, of layer 10's base; a hart in a box of its own. -/
import Derived.WalkKit
import Derived.Lib.Hide
import Derived.OwnWalk
import Derived.BigQuiet
import Derived.Deep.RegionHeld3
import Derived.Deep.DeepCutAuto
import Derived.Deep.CutBlock
import Derived.Laws.Tables
import Derived.Laws.Rows
import Derived.KernelRfl
import Derived.Deep.MidRow
import Derived.Laws.IdiomCopy
import Derived.Test.YtgcgdjmlngfpeaaDoorRef4
import Derived.Test.YtgcgdjmlngfpeaaDoorDMoves
import Derived.Test.YtgcgdjmlngfpeaaDoorHPlain
namespace Go.Proofs.YtgcgdjmlngfpeaaDoor
open Go.RowKit Ht
set_option linter.unusedVariables false
set_option linter.unusedSimpArgs false
theorem la {α : Type} (l : List α) (i : Nat) (a : α) : l.toArray.setIfInBounds i a = (l.set i a).toArray := List.setIfInBounds_toArray _ _ _
theorem lz {α : Type} (x : α) (l : List α) (a : α) : (x :: l).set 0 a = a :: l := rfl
theorem ls {α : Type} (x : α) (l : List α) (n : Nat) (a : α) : (x :: l).set (n + 1) a = x :: l.set n a := rfl
/-- of what was there nothing has turned -/
def Bel (w w' : World) : Prop := Below w.heap.size w w'
theorem Bel.refl (w : World) : Bel w w := Below.refl _ _
theorem Bel.trans {a b c : World} (h : Bel a b) (k : Bel b c) : Bel a c := Below.trans h (Below.mono k h.size)
theorem Bel.alloc {w w' : World} (h : Bel w w') (c : Array Value) (t : TypeId) : Bel w (w'.alloc (.cells c t)) := Below.alloc h h.size _
theorem Bel.setCell {w w' : World} (h : Bel w w') {p : Addr} (hp : w.heap.size ≤ p.block) (u : Value) : Bel w (w'.setCell p u) := Below.setCell h hp _
theorem Bel.drew {w w' : World} (h : Bel w w') : Bel w w'.drew := Below.drew h
theorem Bel.cell {w w' : World} (h : Bel w w') {p : Addr} (hp : p.block < w.heap.size) : w'.cell? p = w.cell? p := Below.cell h hp
theorem Both.bel {w w' : World} (h : Both w w') : Bel w w' := h.1
theorem lt_of_heap {w : World} {g : Nat} {o : Obj} (h : w.heap[g]? = some o) : g < w.heap.size := (Array.getElem?_eq_some_iff.1 h).1
/-- of what was there nothing turns but in the blocks of S -/
structure Sv (S : Nat → Prop) (w w' : World) : Prop where
  os : w'.os = w.os
  tape : w'.tape = w.tape
  output : w'.output = w.output
  size : w.heap.size ≤ w'.heap.size
  block : ∀ k, k < w.heap.size → ¬ S k → w'.heap[k]? = w.heap[k]?
theorem Bel.sv {w w' : World} (h : Bel w w') (S : Nat → Prop) : Sv S w w' := ⟨h.os, h.tape, h.output, h.size, fun k hk _ => h.block k hk⟩
theorem Sv.trans {S : Nat → Prop} {a b c : World} (h : Sv S a b) (k : Sv S b c) : Sv S a c :=
  ⟨k.os.trans h.os, k.tape.trans h.tape, k.output.trans h.output, Nat.le_trans h.size k.size, fun j hj hs => (k.block j (Nat.lt_of_lt_of_le hj h.size) hs).trans (h.block j hj hs)⟩
theorem Sv.bel {S : Nat → Prop} {w w' : World} (h : Sv S w w') {w0 : World} (h0 : Bel w0 w) (hs : ∀ k, S k → w0.heap.size ≤ k) : Bel w0 w' :=
  ⟨h.os.trans h0.os, h.tape.trans h0.tape, h.output.trans h0.output, Nat.le_trans h0.size h.size, fun k hk => (h.block k (Nat.lt_of_lt_of_le hk h0.size) (fun c => by have := hs k c; omega)).trans (h0.block k hk)⟩
theorem Sv.cell {S : Nat → Prop} {w w' : World} (h : Sv S w w') {p : Addr} (hp : p.block < w.heap.size) (hs : ¬ S p.block) : w'.cell? p = w.cell? p := by
  unfold World.cell?
  rw [h.block _ hp hs]
theorem sv_setRow {w : World} (S : Nat → Prop) {g : Nat} (hg : S g ∨ w.heap.size ≤ g) (cs : Array Value) : Sv S w (w.setRow g cs) :=
  ⟨rfl, rfl, rfl, by rw [setRow_size]; exact Nat.le_refl _, fun k hk hs => setRow_other _ _ _ _ (by rintro rfl; rcases hg with h | h; exact hs h; omega)⟩
theorem append_sv {P : Program} (w : World) (base : Nat) (t ty e : TypeId) (i : TypeInfo) (z : Value) (size bytes : Nat) (ht : P.underlying t = some (.slice e)) (hi : P.info? e = some i) (hz : i.zero = some z)
    (hsize : i.size = size) (hby : i.bytes = bytes) (hzs : z.cells.size = size) (hsz : 0 < size) (v : Value) (n : Nat) (xs : List Value) (hown : w.ownsRow base e size v n xs)
    (a : Addr) (m c : Nat) (news : List Value) (hl : news.length = m * size) (hnews : ∀ j u, news[j]? = some u → w.cell? (a.add j) = some u) (h1 : ∀ u ∈ news, u.oneCell' = true)
    (h63 : n + m ≤ maxLen) (hbytes : (n + m) * bytes ≤ 140737488355328) (hbase : base ≤ w.heap.size) (hm : 0 < m ∨ v ≠ .slice none 0 0) :
    ∃ v' w', (Builtin.append_ #[t, t] ty #[v, .slice (some a) m c]).run P w = .ok v' w' ∧ w'.ownsRow base e size v' (n + m) (xs ++ news) ∧ Sv (fun k => v.ownBlock = some k) w w' ∧ (v' ≠ .slice none 0 0) := by
  obtain ⟨v', w', hrun, hown', _, hnil⟩ := run_append_own (P := P) w base t ty e i z size bytes ht hi hz hsize hby hzs hsz v n xs hown a m c news hl hnews h1 h63 hbytes hbase
  have hv' : v' ≠ .slice none 0 0 := fun c => by
    obtain ⟨c1, c2⟩ := hnil.1 c
    rcases hm with h | h
    · omega
    · exact h c1
  refine ⟨v', w', hrun, hown', ?_, hv'⟩
  subst hsize
  subst hby
  have hsmall : n + m ≤ 9223372036854775807 := by simp only [maxLen] at h63; omega
  rcases hown.2 with ⟨rfl, rfl⟩ | ⟨g, cap, cur, rfl, hbg, hg, hnc, hcm, hcs, htake⟩
  · have hm0 : 0 < m := by rcases hm with h | h; exact h; exact absurd rfl h
    rw [run_append_nil (P := P) w t ty e i z ht hi hz a m c news hl hnews hm0 (by omega) (by have hb := hbytes; simp only [Nat.zero_add] at hb; omega)] at hrun
    injection hrun with _ hw
    subst hw
    exact ((Bel.refl w).drew.alloc _ _).sv _
  · by_cases hroom : n + m ≤ cap
    · have hfit : n * i.size + news.length ≤ cur.size := by rw [hl, hcs, ← Nat.add_mul]; exact Nat.mul_le_mul_right _ hroom
      rw [run_append_room (P := P) w t ty e i ht hi g n cap cur hg a m c news hl hnews h1 hroom hfit] at hrun
      injection hrun with _ hw
      subst hw
      exact sv_setRow (g := g) (fun k => (Value.slice (some ⟨g, 0, none⟩) n cap).ownBlock = some k) (Or.inl rfl) _
    · have holds : ∀ j u, xs[j]? = some u → w.cell? ((⟨g, 0, none⟩ : Addr).add j) = some u := hown.cells (g := g) rfl
      rw [run_append_grow (P := P) w t ty e i z ht hi hz ⟨g, 0, none⟩ n cap xs hown.1 holds a m c news hl hnews (by omega) (by omega) (growslice_fits (by omega) hbytes)] at hrun
      injection hrun with _ hw
      subst hw
      exact ((Bel.refl w).drew.alloc _ _).sv _
theorem wpList_app {P : Program} {w w' : World} {ops : Array Oper} {rest : List Oper} {o : Oper} {a : Act} {Q : Exit → Act → World → Prop} (hgd : o.guard = none) (s x : Operand) (t : TypeId)
    (ho : o.op = .call { callee := .builtin .append, args := #[s, x], argTypes := #[t, t] }) (sv xv r : Value) (hs : a.eval s = sv) (hx : a.eval x = xv)
    (hrun : (Builtin.append_ #[t, t] o.type #[sv, xv]).run P w = .ok r w') (h : wpList P ops Q rest (a.put o.dst r) w') : wpList P ops Q (o :: rest) a w := by
  refine wpList_plain hgd fun K hK => ?_
  unfold Oper.wp
  simp [execOp, ho, resolve, invoke, builtin, hs, hx, hrun, Result.andThen]
  exact hK _ _ h
theorem ownsRow_sv {S : Nat → Prop} {w w' : World} {base : Nat} {e : TypeId} {size : Nat} {v : Value} {n : Nat} {xs : List Value} (h : w.ownsRow base e size v n xs) (hs : Sv S w w') (hn : ∀ k, v.ownBlock = some k → ¬ S k) : w'.ownsRow base e size v n xs := by
  refine ⟨h.1, ?_⟩
  rcases h.2 with hn' | ⟨g, cap, cur, rfl, hb, hgg, rest⟩
  · exact .inl hn'
  · exact .inr ⟨g, cap, cur, rfl, hb, (hs.block g (Array.getElem?_eq_some_iff.1 hgg).1 (hn g rfl)).trans hgg, rest⟩
theorem Bel.stays {w w' : World} (h : Bel w w') {g : Nat} {o : Obj} (hg : w.heap[g]? = some o) : w'.heap[g]? = some o := (Below.block h g (lt_of_heap hg)).trans hg
theorem Bel.drewN {w w' : World} (h : Bel w w') (n : Nat) : Bel w (w'.drewN n) := ⟨h.os, h.tape, h.output, h.size, h.block⟩
/-- a row of elements of k cells each, at a place -/
def EncAt {α : Type} (enc : α → List Value) (k : Nat) (w : World) (p : Option Addr) (l : List α) : Prop := ∀ (j : Nat) (x : α), l[j]? = some x → ∃ b o, p = some ⟨b, o, none⟩ ∧ b < w.heap.size ∧ ∀ (i : Nat) (v : Value), (enc x)[i]? = some v → w.cell? ⟨b, o + j * k + i, none⟩ = some v
theorem EncAt.nil {α : Type} (enc : α → List Value) (k : Nat) (w : World) (p : Option Addr) : EncAt enc k w p [] := fun j x h => by simp at h
theorem EncAt.bel {α : Type} {enc : α → List Value} {k : Nat} {w w' : World} {p : Option Addr} {l : List α} (h : EncAt enc k w p l) (hb : Bel w w') : EncAt enc k w' p l := fun j x hj => by
  obtain ⟨b, o, h1, h2, h3⟩ := h j x hj
  exact ⟨b, o, h1, Nat.lt_of_lt_of_le h2 hb.size, fun i v hv => (hb.cell (p := ⟨b, o + j * k + i, none⟩) h2).trans (h3 i v hv)⟩
/-- a row of the call's own, of elements of k cells -/
abbrev ERow {α : Type} (enc : α → List Value) (t : TypeId) (k : Nat) (w : World) (base : Nat) (v : Value) (l : List α) : Prop := w.ownsRow base t k v l.length (l.flatMap enc)
theorem ERow.sv {α : Type} {enc : α → List Value} {t : TypeId} {k : Nat} {S : Nat → Prop} {w w' : World} {base : Nat} {v : Value} {l : List α} (h : ERow enc t k w base v l) (hs : Sv S w w') (hn : ∀ k, v.ownBlock = some k → ¬ S k) : ERow enc t k w' base v l := ownsRow_sv h hs hn
theorem ERow.bel {α : Type} {enc : α → List Value} {t : TypeId} {k : Nat} {w w' : World} {base : Nat} {v : Value} {l : List α} (h : ERow enc t k w base v l) (hs : Bel w w') : ERow enc t k w' base v l := ownsRow_sv h (hs.sv fun _ => False) fun _ _ => id
theorem ERow.nil {α : Type} (enc : α → List Value) (t : TypeId) (k : Nat) (w : World) (base : Nat) : ERow enc t k w base (.slice none 0 0) [] := World.ownsRow_nil _ _ _ _
theorem flat_get {α : Type} {enc : α → List Value} {k : Nat} (hk : ∀ x, (enc x).length = k) {l : List α} {j : Nat} {x : α} (h : l[j]? = some x) {i : Nat} {v : Value} (hv : (enc x)[i]? = some v) : (l.flatMap enc)[j * k + i]? = some v := by
  have hi : i < k := by have := (List.getElem?_eq_some_iff.1 hv).1; rwa [hk] at this
  induction l generalizing j with
  | nil => simp at h
  | cons y t ih =>
    rw [List.flatMap_cons]
    cases j with
    | zero =>
      simp only [List.getElem?_cons_zero, Option.some.injEq] at h
      subst h
      rw [Nat.zero_mul, Nat.zero_add, List.getElem?_append_left (by rw [hk]; exact hi)]
      exact hv
    | succ j =>
      rw [List.getElem?_cons_succ] at h
      have e : (j + 1) * k + i = k + (j * k + i) := by rw [Nat.succ_mul]; omega
      rw [e, List.getElem?_append_right (by rw [hk]; omega), hk, Nat.add_sub_cancel_left]
      exact ih h
theorem flat_len {α : Type} {enc : α → List Value} {k : Nat} (hk : ∀ x, (enc x).length = k) (l : List α) : (l.flatMap enc).length = l.length * k := by
  induction l with
  | nil => simp
  | cons x l ih => rw [List.flatMap_cons, List.length_append, ih, List.length_cons, hk, Nat.succ_mul]; omega
/-- what an own row's value is -/
theorem ERow.form {α : Type} {enc : α → List Value} {t : TypeId} {k : Nat} (hk : ∀ x, (enc x).length = k) {w : World} {base : Nat} {v : Value} {l : List α} (h : ERow enc t k w base v l) : ∃ p c, v = .slice p l.length c ∧ EncAt enc k w p l ∧ (∀ q, p = some q → base ≤ q.block ∧ q.block < w.heap.size) := by
  rcases h.2 with ⟨rfl, hx⟩ | ⟨g, cap, cur, rfl, hb, hg, hnc, hcm, hcs, htake⟩
  · refine ⟨none, 0, ?_, ?_, fun q c => by cases c⟩
    · rw [hx]
    · intro j x hj
      have := (List.getElem?_eq_some_iff.1 hj).1
      omega
  · have hlt := (Array.getElem?_eq_some_iff.1 hg).1
    refine ⟨some ⟨g, 0, none⟩, cap, rfl, fun j x hj => ⟨g, 0, rfl, hlt, fun i u hu => ?_⟩, fun q c => by cases c; exact ⟨hb, hlt⟩⟩
    have hg4 := flat_get hk hj hu
    have hlt4 := (List.getElem?_eq_some_iff.1 hg4).1
    rw [flat_len hk] at hlt4
    rw [Nat.zero_add, World.ownsRow.cellAt h (j * k + i) hlt4]
    exact hg4
section
variable {P : Program} {ops : Array Oper} {Q : Exit → Act → World → Prop} {md : Region.Mode} {S : World → Prop}
/-- an operation of a drawn region taken first, its slot by its number -/
theorem takeD (d : Nat) {i : Nat} {oi : Oper} {v : Value} {fuel : Nat} {listed : Array Bool} {a : Act} {w : World} (hi : ops[i]? = some oi) (hd : oi.dst = some d)
    (hs : Region.noSelect ops = true) (hf : Region.free md ops listed i = true) (hr : (Region.ready md ops listed).contains i = true)
    (hQ : ∀ c a w, Q (.panic c) (a.put oi.dst v) w → Q (.panic c) a w) (hw : Region.wanted oi (yielded ops a.tmps) = true) (hy : ∀ w, S w → (execOp a.eval oi).run P w = .ok (.value v) w) (hS : S w)
    (h : wpAnyH P md ops Q S fuel (listed.setIfInBounds i true) { a with tmps := a.tmps.setIfInBounds d v } w) : wpAnyH P md ops Q S (fuel + 1) listed a w :=
  wpAnyH_take hi hs hf hr hQ (Or.inl ⟨hw, hy⟩) hS (by rw [hd]; exact h)
/-- one that isn't wanted -/
theorem skipD (d : Nat) {i : Nat} {oi : Oper} {fuel : Nat} {listed : Array Bool} {a : Act} {w : World} (hi : ops[i]? = some oi) (hd : oi.dst = some d)
    (hs : Region.noSelect ops = true) (hf : Region.free md ops listed i = true) (hr : (Region.ready md ops listed).contains i = true)
    (hQ : ∀ c a w, Q (.panic c) (a.put oi.dst undef) w → Q (.panic c) a w) (hw : Region.wanted oi (yielded ops a.tmps) = false) (hS : S w)
    (h : wpAnyH P md ops Q S fuel (listed.setIfInBounds i true) { a with tmps := a.tmps.setIfInBounds d undef } w) : wpAnyH P md ops Q S (fuel + 1) listed a w :=
  wpAnyH_take hi hs hf hr hQ (Or.inr ⟨hw, rfl⟩) hS (by rw [hd]; exact h)
/-- the only one that may come up is carried out -/
theorem onlyD (d : Nat) {i : Nat} {oi : Oper} {fuel : Nat} {listed : Array Bool} {a : Act} {w : World} (hi : ops[i]? = some oi) (hd : oi.dst = some d) (hr : Region.ready md ops listed = [i])
    (hw : Region.wanted oi (yielded ops a.tmps) = true)
    (h : ∀ K : Act → World → Prop, Shut (∀ (v : Value) (w' : World), S w' → (S w' → wpAnyH P md ops Q S fuel (listed.setIfInBounds i true) { a with tmps := a.tmps.setIfInBounds d v } w') → K (a.put oi.dst v) w') → Oper.wp P oi a w K Q) : wpAnyH P md ops Q S (fuel + 1) listed a w := by
  refine wpAnyH_ready (rs := [i]) hr (by simp) ?_
  refine AllReadyH.cons hi (fun K hK => ?_) AllReadyH.nil
  rw [if_pos hw]
  exact h K (fun v w' hS hn => hK _ _ hS (fun hS => by rw [hd]; exact hn hS))
end
/-- of what was there nothing turns but in one block -/
def Svg (g : Nat) (w w' : World) : Prop := Sv (fun k => k = g) w w'
theorem Svg.refl (g : Nat) (w : World) : Svg g w w := (Bel.refl w).sv _
theorem Svg.trans {g : Nat} {a b c : World} (h : Svg g a b) (k : Svg g b c) : Svg g a c := Sv.trans h k
theorem Bel.svg {w w' : World} (h : Bel w w') (g : Nat) : Svg g w w' := h.sv _
theorem Svg.set (g i : Nat) (w : World) (v : Value) : Svg g w (w.setCell ⟨g, i, none⟩ v) := ⟨rfl, rfl, rfl, by simp [World.setCell], fun k _ hk => Below.heap_setCell _ _ _ _ hk⟩
theorem Svg.bel {g : Nat} {w w' w0 : World} (h : Svg g w w') (h0 : Bel w0 w) (hg : w0.heap.size ≤ g) : Bel w0 w' := Sv.bel h h0 (fun k hk => by subst hk; exact hg)
theorem Svg.drewN {g : Nat} {w w' : World} (h : Svg g w w') (n : Nat) : Svg g w (w'.drewN n) := ⟨h.os, h.tape, h.output, h.size, h.block⟩
theorem heap_set {w : World} {g : Nat} {cs : Array Value} {t : TypeId} {fr : Nat × Nat} (h : w.heap[g]? = some (.cells cs t fr)) (o : Nat) (u : Value) : (w.setCell ⟨g, o, none⟩ u).heap[g]? = some (.cells (cs.setIfInBounds o u) t fr) := by
  unfold World.setCell
  simp [Array.getElem?_modify, h]
abbrev OneV (v : Value) (w : World) : Ending → World → Prop := fun e w' => e = .returned v ∧ Bel w w'
theorem zero_hart (w : World) : (zeroValue 28).run Tryd.prog w = .ok (.agg hZ) w := by kernel_rfl
theorem sz_hart (h : H) : (Tryd.prog.info? 28).map (·.size) = some (hC h).size := by rw [hC_size]; kernel_rfl
theorem sz_eff (e : Eff) : (Tryd.prog.info? 34).map (·.size) = some (eC e).size := by kernel_rfl
theorem sz_ins (a b c d e : Int) : (Tryd.prog.info? 24).map (·.size) = some (#[Value.int .i64 a, .int .i64 b, .int .i64 c, .int .i64 d, .int .i64 e] : Array Value).size := by kernel_rfl
theorem sz_int : (Tryd.prog.info? 3).map (·.size) = some 1 := by kernel_rfl
theorem eC_ones (e : Eff) : (eC e).all (·.oneCell') = true := by kernel_rfl
abbrev iC (o d a b n : Int) : Array Value := #[.int .i64 o, .int .i64 d, .int .i64 a, .int .i64 b, .int .i64 n]
abbrev iv (o d a b n : Int) : Value := .agg (iC o d a b n)
/-- a hart in a block of its own -/
def HAt (w : World) (g : Nat) (h : H) : Prop := w.heap[g]? = some (.cells (hC h) 28 (0, 0))
theorem HAt.bel {w w' : World} {g : Nat} {h : H} (k : HAt w g h) (hb : Bel w w') : HAt w' g h := hb.stays k
theorem HAt.lt {w : World} {g : Nat} {h : H} (k : HAt w g h) : g < w.heap.size := lt_of_heap k
theorem HAt.cell {w : World} {g : Nat} {h : H} (k : HAt w g h) {j : Nat} (hj : j < 39) : w.cell? ⟨g, j, none⟩ = some (.int .i64 (h j)) := by
  rw [cell_of_heap k, hC_at h hj]
theorem HAt.set {w : World} {g : Nat} {h : H} (k : HAt w g h) {j : Nat} (hj : j < 39) (x : Int) : HAt (w.setCell ⟨g, j, none⟩ (.int .i64 x)) g (up h j x) := by
  have := heap_set k j (.int .i64 x)
  rw [hC_set h x hj] at this
  exact this
theorem HAt.frozen {w : World} {g : Nat} {h : H} (k : HAt w g h) (j : Nat) : w.frozen? ⟨g, j, none⟩ = false := frozen_of_heap k j
/-- an instruction in a block of its own -/
def InAt (w : World) (g : Nat) (o d a b n : Int) : Prop := w.heap[g]? = some (.cells (iC o d a b n) 24 (0, 0))
theorem InAt.bel {w w' : World} {g : Nat} {o d a b n : Int} (k : InAt w g o d a b n) (hb : Bel w w') : InAt w' g o d a b n := hb.stays k
theorem InAt.cells {w : World} {g : Nat} {o d a b n : Int} (k : InAt w g o d a b n) : w.cell? ⟨g, 0, none⟩ = some (.int .i64 o) ∧ w.cell? ⟨g, 1, none⟩ = some (.int .i64 d) ∧ w.cell? ⟨g, 2, none⟩ = some (.int .i64 a) ∧ w.cell? ⟨g, 3, none⟩ = some (.int .i64 b) ∧ w.cell? ⟨g, 4, none⟩ = some (.int .i64 n) :=
  ⟨cell_of_heap k 0, cell_of_heap k 1, cell_of_heap k 2, cell_of_heap k 3, cell_of_heap k 4⟩
def EfAt (w : World) (g : Nat) (e : Eff) : Prop := w.heap[g]? = some (.cells (eC e) 34 (0, 0))
theorem EfAt.bel {w w' : World} {g : Nat} {e : Eff} (k : EfAt w g e) (hb : Bel w w') : EfAt w' g e := hb.stays k
theorem box1 (w : World) (c : Array Value) (t : TypeId) : Bel w (w.alloc (.cells c t)) ∧ (w.alloc (.cells c t)).heap[w.heap.size]? = some (.cells c t (0, 0)) :=
  ⟨(Bel.refl w).alloc _ _, heap_alloc_new w _⟩
theorem boxB {w0 w : World} (hb : Bel w0 w) (c : Array Value) (t : TypeId) : Bel w0 (w.alloc (.cells c t)) := hb.alloc _ _
theorem wpList_call {P : Program} {ops : Array Oper} {Q : Exit → Act → World → Prop} {o : Oper} {rest : List Oper} {a : Act} {w : World} (hg : o.guard = none) {f : FuncId} {args : Array Value} {v : Value}
    (h : (execOp a.eval o).run P w = .ok (.enter f args) w) (hc : Calls P f args w (OneV v w)) (hk : ∀ w', Bel w w' → wpList P ops Q rest (a.put o.dst v) w') : wpList P ops Q (o :: rest) a w := by
  refine wpList_plain hg fun K hK => ?_
  unfold Oper.wp
  rw [h, Oper.upon_enter]
  refine hc.mono fun e w'' hh => ?_
  obtain ⟨rfl, hb⟩ := hh
  exact hK _ _ (hk _ hb)
theorem HAt.row {w : World} {g g' : Nat} {h : H} (k : HAt w g h) (hne : g' ≠ g) (cs : Array Value) : HAt (w.setRow g' cs) g h := (setRow_other _ _ _ _ (Ne.symm hne)).trans k
theorem row_same {w : World} {g : Nat} {cs0 cs : Array Value} {t : TypeId} (k : w.heap[g]? = some (.cells cs0 t (0, 0))) : (w.setRow g cs).heap[g]? = some (.cells cs t (0, 0)) := setRow_heap _ _ _ cs _ _ k
theorem row_bel {w0 w : World} (hb : Bel w0 w) {g : Nat} (hg : w0.heap.size ≤ g) (cs : Array Value) : Bel w0 (w.setRow g cs) :=
  Sv.bel (sv_setRow (fun k => k = g) (.inl rfl) cs) hb (fun k hk => by subst hk; exact hg)
theorem rI {k : IntKind} {a b : Int} (h : a = b) : Ending.returned (.int k a) = .returned (.int k b) := by rw [h]
theorem rB {a b : Bool} (h : a = b) : Ending.returned (.bool a) = .returned (.bool b) := by rw [h]
theorem boxes2 (w : World) (c1 c2 : Array Value) (t1 t2 : TypeId) : ∃ W, W = (w.alloc (.cells c1 t1)).alloc (.cells c2 t2) ∧ Bel w W ∧ W.heap[w.heap.size]? = some (.cells c1 t1 (0, 0)) ∧ W.heap[w.heap.size + 1]? = some (.cells c2 t2 (0, 0)) := by
  obtain ⟨hb1, hx1⟩ := box1 w c1 t1
  have hs : (w.alloc (.cells c1 t1)).heap.size = w.heap.size + 1 := by show (w.heap.push _).size = _; simp
  generalize w.alloc (.cells c1 t1) = W1 at hb1 hx1 hs ⊢
  obtain ⟨hb2, hx2⟩ := box1 W1 c2 t2
  rw [hs] at hx2
  exact ⟨_, rfl, hb1.trans hb2, hb2.stays hx1, hx2⟩
theorem boxes3 (w : World) (c1 c2 c3 : Array Value) (t1 t2 t3 : TypeId) : ∃ W, W = ((w.alloc (.cells c1 t1)).alloc (.cells c2 t2)).alloc (.cells c3 t3) ∧ Bel w W ∧ W.heap[w.heap.size]? = some (.cells c1 t1 (0, 0)) ∧ W.heap[w.heap.size + 1]? = some (.cells c2 t2 (0, 0)) ∧ W.heap[w.heap.size + 1 + 1]? = some (.cells c3 t3 (0, 0)) := by
  obtain ⟨hb1, hx1⟩ := box1 w c1 t1
  have hs : (w.alloc (.cells c1 t1)).heap.size = w.heap.size + 1 := by show (w.heap.push _).size = _; simp
  generalize w.alloc (.cells c1 t1) = W1 at hb1 hx1 hs ⊢
  obtain ⟨W, e, hb2, hx2, hx3⟩ := boxes2 W1 c2 c3 t2 t3
  rw [hs] at hx2 hx3
  exact ⟨W, e, hb1.trans hb2, hb2.stays hx1, hx2, hx3⟩
theorem boxes4 (w : World) (c1 c2 c3 c4 : Array Value) (t1 t2 t3 t4 : TypeId) : ∃ W, W = (((w.alloc (.cells c1 t1)).alloc (.cells c2 t2)).alloc (.cells c3 t3)).alloc (.cells c4 t4) ∧ Bel w W ∧ W.heap[w.heap.size]? = some (.cells c1 t1 (0, 0)) ∧ W.heap[w.heap.size + 1]? = some (.cells c2 t2 (0, 0)) ∧ W.heap[w.heap.size + 1 + 1]? = some (.cells c3 t3 (0, 0)) ∧ W.heap[w.heap.size + 1 + 1 + 1]? = some (.cells c4 t4 (0, 0)) := by
  obtain ⟨hb1, hx1⟩ := box1 w c1 t1
  have hs : (w.alloc (.cells c1 t1)).heap.size = w.heap.size + 1 := by show (w.heap.push _).size = _; simp
  generalize w.alloc (.cells c1 t1) = W1 at hb1 hx1 hs ⊢
  obtain ⟨W, e, hb2, hx2, hx3, hx4⟩ := boxes3 W1 c2 c3 c4 t2 t3 t4
  rw [hs] at hx2 hx3 hx4
  exact ⟨W, e, hb1.trans hb2, hb2.stays hx1, hx2, hx3, hx4⟩
theorem run_loadVar_cell {P : Program} (w : World) (p : Addr) (ty : TypeId) (v : Value) (d : TypeDesc) (hc : w.cell? p = some v) (hu : P.underlying ty = some d) (hd : d.isRow = false) : (loadVar ty p).run P w = .ok v w := by
  have hagg : (isAgg ty).run P w = .ok false w := by
    unfold isAgg
    rw [Sem.run_bind, run_underlying hu w]
    cases d <;> simp_all
  simp [loadVar, Sem.run_bind, hagg, hc]
theorem wpList_load_cell {P : Program} {ops : Array Oper} {rest : List Oper} {op : Oper} {a : Act} {w : World} {Q : Exit → Act → World → Prop} (hgd : op.guard = none) (ty : TypeId) (x : Operand) (ho : op.op = .load ty x)
    (p : Addr) (hx : a.eval x = .pointer (some p)) (v : Value) (d : TypeDesc) (hc : w.cell? p = some v) (hu : P.underlying ty = some d) (hd : d.isRow = false)
    (h : wpList P ops Q rest (a.put op.dst v) w) : wpList P ops Q (op :: rest) a w := by
  refine wpList_plain hgd fun K hK => ?_
  unfold Oper.wp execOp
  simp only [ho, hx, Instr.loadAt, Instr.sureAddr, Sem.run_bind, Sem.run_pure, Result.andThen_ok, run_loadVar_cell w p ty v d hc hu hd]
  exact hK _ _ h
theorem reg_at (b k : Nat) (h : k < 32) (w : World) : (Instr.indexAt 26 (.pointer (some ⟨b, 0, none⟩)) (.int .i64 (k : Int))).run Tryd.prog w = .ok (.pointer (some ⟨b, k, none⟩)) w := by
  have hk : k = 0 ∨ k = 1 ∨ k = 2 ∨ k = 3 ∨ k = 4 ∨ k = 5 ∨ k = 6 ∨ k = 7 ∨ k = 8 ∨ k = 9 ∨ k = 10 ∨ k = 11 ∨ k = 12 ∨ k = 13 ∨ k = 14 ∨ k = 15 ∨ k = 16 ∨ k = 17 ∨ k = 18 ∨ k = 19 ∨ k = 20 ∨ k = 21 ∨ k = 22 ∨ k = 23 ∨ k = 24 ∨ k = 25 ∨ k = 26 ∨ k = 27 ∨ k = 28 ∨ k = 29 ∨ k = 30 ∨ k = 31 := by omega
  rcases hk with rfl | rfl | rfl | rfl | rfl | rfl | rfl | rfl | rfl | rfl | rfl | rfl | rfl | rfl | rfl | rfl | rfl | rfl | rfl | rfl | rfl | rfl | rfl | rfl | rfl | rfl | rfl | rfl | rfl | rfl | rfl | rfl
  all_goals (show _ = _; kernel_rfl)
theorem exec_reg {o : Oper} {ρ : Operand → Value} {x y : Operand} (ho : o.op = .indexAddr 26 x y) (b k : Nat) (h : k < 32) (hx : ρ x = .pointer (some ⟨b, 0, none⟩)) (hy : ρ y = .int .i64 (k : Int)) (w : World) :
    (execOp ρ o).run Tryd.prog w = .ok (.value (.pointer (some ⟨b, k, none⟩))) w := by
  unfold execOp
  simp only [ho, hx, hy, Sem.run_bind, Sem.run_pure, Result.andThen_ok, reg_at b k h w]
theorem opr_at (b k : Nat) (h : k < 50) (w : World) : (Instr.indexAt 91 (.pointer (some ⟨b, 0, none⟩)) (.int .i64 (k : Int))).run Tryd.prog w = .ok (.pointer (some ⟨b, k, none⟩)) w := by
  have hk : k = 0 ∨ k = 1 ∨ k = 2 ∨ k = 3 ∨ k = 4 ∨ k = 5 ∨ k = 6 ∨ k = 7 ∨ k = 8 ∨ k = 9 ∨ k = 10 ∨ k = 11 ∨ k = 12 ∨ k = 13 ∨ k = 14 ∨ k = 15 ∨ k = 16 ∨ k = 17 ∨ k = 18 ∨ k = 19 ∨ k = 20 ∨ k = 21 ∨ k = 22 ∨ k = 23 ∨ k = 24 ∨ k = 25 ∨ k = 26 ∨ k = 27 ∨ k = 28 ∨ k = 29 ∨ k = 30 ∨ k = 31 ∨ k = 32 ∨ k = 33 ∨ k = 34 ∨ k = 35 ∨ k = 36 ∨ k = 37 ∨ k = 38 ∨ k = 39 ∨ k = 40 ∨ k = 41 ∨ k = 42 ∨ k = 43 ∨ k = 44 ∨ k = 45 ∨ k = 46 ∨ k = 47 ∨ k = 48 ∨ k = 49 := by omega
  rcases hk with rfl | rfl | rfl | rfl | rfl | rfl | rfl | rfl | rfl | rfl | rfl | rfl | rfl | rfl | rfl | rfl | rfl | rfl | rfl | rfl | rfl | rfl | rfl | rfl | rfl | rfl | rfl | rfl | rfl | rfl | rfl | rfl | rfl | rfl | rfl | rfl | rfl | rfl | rfl | rfl | rfl | rfl | rfl | rfl | rfl | rfl | rfl | rfl | rfl | rfl
  all_goals (show _ = _; kernel_rfl)
theorem exec_opr {o : Oper} {ρ : Operand → Value} {x y : Operand} (ho : o.op = .indexAddr 91 x y) (b k : Nat) (h : k < 50) (hx : ρ x = .pointer (some ⟨b, 0, none⟩)) (hy : ρ y = .int .i64 (k : Int)) (w : World) :
    (execOp ρ o).run Tryd.prog w = .ok (.value (.pointer (some ⟨b, k, none⟩))) w := by
  unfold execOp
  simp only [ho, hx, hy, Sem.run_bind, Sem.run_pure, Result.andThen_ok, opr_at b k h w]
theorem run_storeVar_cell {P : Program} (w : World) (g o : Nat) (ty : TypeId) (v old : Value) (hc : w.cell? ⟨g, o, none⟩ = some old) (hf : w.frozen? ⟨g, o, none⟩ = false) (hi : (P.info? ty).map (·.size) = some 1)
    (h1 : v.oneCell' = true) : (storeVar ty ⟨g, o, none⟩ v).run P w = .ok () (w.setCell ⟨g, o, none⟩ v) := by
  have := run_storeCells_cells (P := P) g o [v] 0 w (fun j hj => by obtain rfl : j = 0 := by simpa using hj
                                                                    simpa using congrArg Option.isSome hc) (fun j hj => by obtain rfl : j = 0 := by simpa using hj
                                                                                                                           simpa using hf)
    (fun x hx => by simp at hx; subst hx; exact h1)
  have hcs : v.cells = #[v] := by cases v <;> first | rfl | cases h1
  cases hq : P.info? ty with
  | none => simp [hq] at hi
  | some i =>
    have hs : i.size = 1 := by simpa [hq] using hi
    simp only [Nat.add_zero] at this
    have hr : w.setCells g o [v] = w.setCell ⟨g, o, none⟩ v := rfl
    rw [hr] at this
    simp [storeVar, sizeOf, typeInfo, hq, hcs, hs, this]
theorem wpList_store_cell {P : Program} {ops : Array Oper} {rest : List Oper} {o : Oper} {a : Act} {w : World} {Q : Exit → Act → World → Prop} (hgd : o.guard = none) (ty : TypeId) (x y : Operand) (ho : o.op = .store ty x y)
    (g k : Nat) (hx : a.eval x = .pointer (some ⟨g, k, none⟩)) (v : Value) (hy : a.eval y = v) {old : Value} (hc : w.cell? ⟨g, k, none⟩ = some old) (hf : w.frozen? ⟨g, k, none⟩ = false) (hi : (P.info? ty).map (·.size) = some 1)
    (h1 : v.oneCell' = true) (h : wpList P ops Q rest (a.put o.dst undef) (w.setCell ⟨g, k, none⟩ v)) : wpList P ops Q (o :: rest) a w :=
  wpList_plain hgd fun _ hK => by
    unfold Oper.wp execOp
    simp only [ho, hx, hy, Instr.storeAt, Instr.sureAddr, Sem.run_bind, Sem.run_pure, Result.andThen_ok, run_storeVar_cell w g k ty v old hc hf hi h1]
    exact hK _ _ h
end Go.Proofs.YtgcgdjmlngfpeaaDoor
