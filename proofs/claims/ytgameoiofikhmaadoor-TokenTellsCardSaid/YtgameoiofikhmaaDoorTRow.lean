/- Rows of tokens of the call's own; what a walk keeps of the memory. -/
import Derived.WalkKit
import Derived.Lib.Hide
import Derived.OwnWalk
import Derived.Test.YtgameoiofikhmaaDoorProg
import Derived.Test.YtgameoiofikhmaaDoorCBoth
import Derived.Test.YtgameoiofikhmaaDoorTPick
namespace Go.Proofs.YtgameoiofikhmaaDoor
open Go.RowKit Tk
set_option linter.unusedVariables false
theorem ri {k : IntKind} {a b : Int} (h : a = b) : Ending.returned (.int k a) = .returned (.int k b) := by rw [h]
theorem rb {a b : Bool} (h : a = b) : Ending.returned (.bool a) = .returned (.bool b) := by rw [h]
/-- of what was there nothing has turned -/
def Bel (w w' : World) : Prop := Below w.heap.size w w'
theorem Bel.refl (w : World) : Bel w w := Below.refl _ _
theorem Bel.trans {a b c : World} (h : Bel a b) (k : Bel b c) : Bel a c := Below.trans h (Below.mono k h.size)
theorem Bel.alloc {w w' : World} (h : Bel w w') (c : Array Value) (t : TypeId) : Bel w (w'.alloc (.cells c t)) := Below.alloc h h.size _
theorem Bel.setCell {w w' : World} (h : Bel w w') {p : Addr} (hp : w.heap.size ≤ p.block) (u : Value) : Bel w (w'.setCell p u) := Below.setCell h hp _
theorem Bel.drew {w w' : World} (h : Bel w w') : Bel w w'.drew := Below.drew h
theorem Bel.cell {w w' : World} (h : Bel w w') {p : Addr} (hp : p.block < w.heap.size) : w'.cell? p = w.cell? p := Below.cell h hp
theorem Both.bel {w w' : World} (h : Both w w') : Bel w w' := h.1
theorem lt_of_heap {w : World} {g : Nat} {o : Obj} (h : w.heap[g]? = some o) : g < w.heap.size := (Array.getElem?_eq_some_iff.1 h).1
/-- of what was there nothing turns but in the blocks of S -/
structure Sv (S : Nat → Prop) (w w' : World) : Prop where
  os : w'.os = w.os
  tape : w'.tape = w.tape
  output : w'.output = w.output
  size : w.heap.size ≤ w'.heap.size
  block : ∀ k, k < w.heap.size → ¬ S k → w'.heap[k]? = w.heap[k]?
theorem Bel.sv {w w' : World} (h : Bel w w') (S : Nat → Prop) : Sv S w w' := ⟨h.os, h.tape, h.output, h.size, fun k hk _ => h.block k hk⟩
theorem Sv.trans {S : Nat → Prop} {a b c : World} (h : Sv S a b) (k : Sv S b c) : Sv S a c :=
  ⟨k.os.trans h.os, k.tape.trans h.tape, k.output.trans h.output, Nat.le_trans h.size k.size, fun j hj hs => (k.block j (Nat.lt_of_lt_of_le hj h.size) hs).trans (h.block j hj hs)⟩
theorem Sv.bel {S : Nat → Prop} {w w' : World} (h : Sv S w w') {w0 : World} (h0 : Bel w0 w) (hs : ∀ k, S k → w0.heap.size ≤ k) : Bel w0 w' :=
  ⟨h.os.trans h0.os, h.tape.trans h0.tape, h.output.trans h0.output, Nat.le_trans h0.size h.size, fun k hk => (h.block k (Nat.lt_of_lt_of_le hk h0.size) (fun c => by have := hs k c; omega)).trans (h0.block k hk)⟩
theorem Sv.cell {S : Nat → Prop} {w w' : World} (h : Sv S w w') {p : Addr} (hp : p.block < w.heap.size) (hs : ¬ S p.block) : w'.cell? p = w.cell? p := by
  unfold World.cell?
  rw [h.block _ hp hs]
theorem sv_setRow {w : World} (S : Nat → Prop) {g : Nat} (hg : S g ∨ w.heap.size ≤ g) (cs : Array Value) : Sv S w (w.setRow g cs) :=
  ⟨rfl, rfl, rfl, by rw [setRow_size]; exact Nat.le_refl _, fun k hk hs => setRow_other _ _ _ _ (by rintro rfl; rcases hg with h | h; exact hs h; omega)⟩
theorem append_sv {P : Program} (w : World) (base : Nat) (t ty e : TypeId) (i : TypeInfo) (z : Value) (size bytes : Nat) (ht : P.underlying t = some (.slice e)) (hi : P.info? e = some i) (hz : i.zero = some z)
    (hsize : i.size = size) (hby : i.bytes = bytes) (hzs : z.cells.size = size) (hsz : 0 < size) (v : Value) (n : Nat) (xs : List Value) (hown : w.ownsRow base e size v n xs)
    (a : Addr) (m c : Nat) (news : List Value) (hl : news.length = m * size) (hnews : ∀ j u, news[j]? = some u → w.cell? (a.add j) = some u) (h1 : ∀ u ∈ news, u.oneCell' = true)
    (h63 : n + m ≤ maxLen) (hbytes : (n + m) * bytes ≤ 140737488355328) (hbase : base ≤ w.heap.size) (hm : 0 < m ∨ v ≠ .slice none 0 0) :
    ∃ v' w', (Builtin.append_ #[t, t] ty #[v, .slice (some a) m c]).run P w = .ok v' w' ∧ w'.ownsRow base e size v' (n + m) (xs ++ news) ∧ Sv (fun k => v.ownBlock = some k) w w' ∧ (v' ≠ .slice none 0 0) := by
  obtain ⟨v', w', hrun, hown', _, hnil⟩ := run_append_own (P := P) w base t ty e i z size bytes ht hi hz hsize hby hzs hsz v n xs hown a m c news hl hnews h1 h63 hbytes hbase
  have hv' : v' ≠ .slice none 0 0 := fun c => by
    obtain ⟨c1, c2⟩ := hnil.1 c
    rcases hm with h | h
    · omega
    · exact h c1
  refine ⟨v', w', hrun, hown', ?_, hv'⟩
  subst hsize
  subst hby
  have hsmall : n + m ≤ 9223372036854775807 := by simp only [maxLen] at h63; omega
  rcases hown.2 with ⟨rfl, rfl⟩ | ⟨g, cap, cur, rfl, hbg, hg, hnc, hcm, hcs, htake⟩
  · have hm0 : 0 < m := by rcases hm with h | h; exact h; exact absurd rfl h
    rw [run_append_nil (P := P) w t ty e i z ht hi hz a m c news hl hnews hm0 (by omega) (by have hb := hbytes; simp only [Nat.zero_add] at hb; omega)] at hrun
    injection hrun with _ hw
    subst hw
    exact ((Bel.refl w).drew.alloc _ _).sv _
  · by_cases hroom : n + m ≤ cap
    · have hfit : n * i.size + news.length ≤ cur.size := by rw [hl, hcs, ← Nat.add_mul]; exact Nat.mul_le_mul_right _ hroom
      rw [run_append_room (P := P) w t ty e i ht hi g n cap cur hg a m c news hl hnews h1 hroom hfit] at hrun
      injection hrun with _ hw
      subst hw
      exact sv_setRow (g := g) (fun k => (Value.slice (some ⟨g, 0, none⟩) n cap).ownBlock = some k) (Or.inl rfl) _
    · have holds : ∀ j u, xs[j]? = some u → w.cell? ((⟨g, 0, none⟩ : Addr).add j) = some u := hown.cells (g := g) rfl
      rw [run_append_grow (P := P) w t ty e i z ht hi hz ⟨g, 0, none⟩ n cap xs hown.1 holds a m c news hl hnews (by omega) (by omega) (growslice_fits (by omega) hbytes)] at hrun
      injection hrun with _ hw
      subst hw
      exact ((Bel.refl w).drew.alloc _ _).sv _
theorem wpList_app {P : Program} {w w' : World} {ops : Array Oper} {rest : List Oper} {o : Oper} {a : Act} {Q : Exit → Act → World → Prop} (hgd : o.guard = none) (s x : Operand) (t : TypeId)
    (ho : o.op = .call { callee := .builtin .append, args := #[s, x], argTypes := #[t, t] }) (sv xv r : Value) (hs : a.eval s = sv) (hx : a.eval x = xv)
    (hrun : (Builtin.append_ #[t, t] o.type #[sv, xv]).run P w = .ok r w') (h : wpList P ops Q rest (a.put o.dst r) w') : wpList P ops Q (o :: rest) a w := by
  refine wpList_plain hgd fun K hK => ?_
  unfold Oper.wp
  simp [execOp, ho, resolve, invoke, builtin, hs, hx, hrun, Result.andThen]
  exact hK _ _ h
theorem ownsRow_sv {S : Nat → Prop} {w w' : World} {base : Nat} {e : TypeId} {size : Nat} {v : Value} {n : Nat} {xs : List Value} (h : w.ownsRow base e size v n xs) (hs : Sv S w w') (hn : ∀ k, v.ownBlock = some k → ¬ S k) : w'.ownsRow base e size v n xs := by
  refine ⟨h.1, ?_⟩
  rcases h.2 with hn' | ⟨g, cap, cur, rfl, hb, hgg, rest⟩
  · exact .inl hn'
  · exact .inr ⟨g, cap, cur, rfl, hb, (hs.block g (Array.getElem?_eq_some_iff.1 hgg).1 (hn g rfl)).trans hgg, rest⟩
def str (l : Bs) : ByteArray := ⟨l.toArray⟩
theorem str_data (l : Bs) : (str l).data.toList = l := rfl
theorem data_str (s : ByteArray) : str s.data.toList = s := by
  obtain ⟨⟨l⟩⟩ := s
  rfl
theorem str_size (l : Bs) : (str l).size = l.length := rfl
theorem str_inj {s t : Bs} (h : str s = str t) : s = t := congrArg (·.data.toList) h
theorem str_app (s t : Bs) : str s ++ str t = str (s ++ t) := by
  rw [← data_str (str s ++ str t)]
  congr 1
def tcells (x : Tok) : List Value := [.int .i64 x.kind, .string (str x.text), .int .i64 x.n, .int .i64 x.line]
theorem info_tok : ∃ i : TypeInfo, Tryd.prog.info? 41 = some i ∧ i.zero = some (.agg #[.int .i64 0, .string ⟨#[]⟩, .int .i64 0, .int .i64 0]) ∧ i.size = 4 ∧ i.bytes = 40 := ⟨(Tryd.prog.info? 41).get (by kernel_rfl), by kernel_rfl, by kernel_rfl, by kernel_rfl, by kernel_rfl⟩
/-- a row of tokens of the call's own -/
abbrev TRow (w : World) (base : Nat) (v : Value) (l : List Tok) : Prop := w.ownsRow base 41 4 v l.length (l.flatMap tcells)
theorem TRow.sv {S : Nat → Prop} {w w' : World} {base : Nat} {v : Value} {l : List Tok} (h : TRow w base v l) (hs : Sv S w w') (hn : ∀ k, v.ownBlock = some k → ¬ S k) : TRow w' base v l := ownsRow_sv h hs hn
theorem TRow.bel {w w' : World} {base : Nat} {v : Value} {l : List Tok} (h : TRow w base v l) (hs : Bel w w') : TRow w' base v l := ownsRow_sv h (hs.sv fun _ => False) fun _ _ => id
theorem TRow.nil (w : World) (base : Nat) : TRow w base (.slice none 0 0) [] := World.ownsRow_nil _ _ _ _
/-- a row of tokens lies at a place -/
def ToksAt (w : World) (b o : Nat) (l : List Tok) : Prop := b < w.heap.size ∧ ∀ (j : Nat) (x : Tok), l[j]? = some x → ∀ (k : Nat) (v : Value), (tcells x)[k]? = some v → w.cell? ⟨b, o + j * 4 + k, none⟩ = some v
theorem ToksAt.bel {w w' : World} {b o : Nat} {l : List Tok} (h : ToksAt w b o l) (hb : Bel w w') : ToksAt w' b o l :=
  ⟨Nat.lt_of_lt_of_le h.1 hb.size, fun j x hj k v hk => (hb.cell (p := ⟨b, o + j * 4 + k, none⟩) h.1).trans (h.2 j x hj k v hk)⟩
theorem ToksAt.get {w : World} {b o : Nat} {l : List Tok} (h : ToksAt w b o l) {j : Nat} {k n m : Int} {s : Bs} (hj : l[j]? = some ⟨k, s, n, m⟩) :
    w.cell? ⟨b, o + j * 4, none⟩ = some (.int .i64 k) ∧ w.cell? ⟨b, o + j * 4 + 1, none⟩ = some (.string (str s)) ∧ w.cell? ⟨b, o + j * 4 + 2, none⟩ = some (.int .i64 n) ∧ w.cell? ⟨b, o + j * 4 + 3, none⟩ = some (.int .i64 m) := by
  have hc := h.2 j _ hj
  exact ⟨hc 0 _ rfl, hc 1 _ rfl, hc 2 _ rfl, hc 3 _ rfl⟩
theorem flat4_get {l : List Tok} {j : Nat} {x : Tok} (h : l[j]? = some x) {k : Nat} {v : Value} (hv : (tcells x)[k]? = some v) : (l.flatMap tcells)[j * 4 + k]? = some v := by
  have hk : k < 4 := (List.getElem?_eq_some_iff.1 hv).1
  induction l generalizing j with
  | nil => simp at h
  | cons y t ih =>
    rw [List.flatMap_cons]
    cases j with
    | zero =>
      simp only [List.getElem?_cons_zero, Option.some.injEq] at h
      subst h
      rw [Nat.zero_mul, Nat.zero_add, List.getElem?_append_left (by show k < 4; exact hk)]
      exact hv
    | succ j =>
      rw [List.getElem?_cons_succ] at h
      rw [List.getElem?_append_right (by show 4 ≤ _; omega)]
      have : (j + 1) * 4 + k - (tcells y).length = j * 4 + k := by show (j + 1) * 4 + k - 4 = _; omega
      rw [this]
      exact ih h
theorem flat4_len (l : List Tok) : (l.flatMap tcells).length = l.length * 4 := by
  induction l with
  | nil => rfl
  | cons x l ih => rw [List.flatMap_cons, List.length_append, ih, List.length_cons]; show 4 + _ = _; omega
/-- one token more, which lies in a block of its own -/
theorem trow_one {w : World} {base : Nat} {v : Value} {l : List Tok} (h : TRow w base v l) (t ty : TypeId) (ht : Tryd.prog.underlying t = some (.slice 41)) (B : Nat) (k n m : Int) (s : ByteArray)
    (h0 : w.cell? ⟨B, 0, none⟩ = some (.int .i64 k)) (h1 : w.cell? ⟨B, 1, none⟩ = some (.string s)) (h2 : w.cell? ⟨B, 2, none⟩ = some (.int .i64 n)) (h3 : w.cell? ⟨B, 3, none⟩ = some (.int .i64 m))
    (hlen : l.length + 1 ≤ 1099511627776) (hbase : base ≤ w.heap.size) :
    ∃ v' w', (Builtin.append_ #[t, t] ty #[v, .slice (some ⟨B, 0, none⟩) 1 1]).run Tryd.prog w = .ok v' w' ∧ TRow w' base v' (l ++ [⟨k, s.data.toList, n, m⟩]) ∧ Sv (fun k => v.ownBlock = some k) w w' ∧ v' ≠ .slice none 0 0 := by
  obtain ⟨i, hi, hz, hs, hb⟩ := info_tok
  obtain ⟨v', w', e1, e2, e3⟩ := append_sv (P := Tryd.prog) w base t ty 41 i _ 4 40 ht hi hz hs hb rfl (by decide) v l.length (l.flatMap tcells) h ⟨B, 0, none⟩ 1 1 [.int .i64 k, .string s, .int .i64 n, .int .i64 m] rfl
    (by intro j u hj
        match j, hj with
        | 0, hj => rw [← hj]; exact h0
        | 1, hj => rw [← hj]; exact h1
        | 2, hj => rw [← hj]; exact h2
        | 3, hj => rw [← hj]; exact h3)
    (by intro u hu; simp at hu; rcases hu with rfl | rfl | rfl | rfl <;> rfl) (by unfold maxLen; omega) (by omega) hbase (Or.inl (by omega))
  refine ⟨v', w', e1, ?_, e3⟩
  have a1 : (l ++ [(⟨k, s.data.toList, n, m⟩ : Tok)]).length = l.length + 1 := by simp
  have a2 : (l ++ [(⟨k, s.data.toList, n, m⟩ : Tok)]).flatMap tcells = l.flatMap tcells ++ [.int .i64 k, .string s, .int .i64 n, .int .i64 m] := by
    rw [List.flatMap_append, List.flatMap_cons, List.flatMap_nil, List.append_nil]
    unfold tcells
    rw [data_str]
  unfold TRow
  rw [a1, a2]
  exact e2
/-- what an own row's value is, where it is not empty -/
theorem TRow.form {w : World} {base : Nat} {v : Value} {l : List Tok} (h : TRow w base v l) (hne : v ≠ .slice none 0 0) : ∃ B c, v = .slice (some ⟨B, 0, none⟩) l.length c ∧ base ≤ B ∧ l.length ≤ c ∧ ToksAt w B 0 l := by
  rcases h.2 with ⟨rfl, _⟩ | ⟨g, cap, cur, rfl, hb, hg, hnc, hcm, hcs, htake⟩
  · exact absurd rfl hne
  · have hlt := (Array.getElem?_eq_some_iff.1 hg).1
    refine ⟨g, cap, rfl, hb, hnc, hlt, fun j x hj k u hk => ?_⟩
    have hg4 := flat4_get hj hk
    have hlt4 := (List.getElem?_eq_some_iff.1 hg4).1
    rw [flat4_len] at hlt4
    rw [Nat.zero_add, World.ownsRow.cellAt h (j * 4 + k) hlt4]
    exact hg4
end Go.Proofs.YtgameoiofikhmaaDoor
