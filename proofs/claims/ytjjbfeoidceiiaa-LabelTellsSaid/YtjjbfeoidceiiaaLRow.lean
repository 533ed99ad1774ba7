/- Which items may be, as package label asks it. -/
import Derived.Test.YtjjbfeoidceiiaaLLab
import Derived.Test.YtjjbfeoidceiiaaDRightW
import Derived.OwnWalk
namespace Go.Proofs.Ytjjbfeoidceiiaa
open Go.RowKit Rv Lb
set_option linter.unusedVariables false
def cells8 (x : Itm) : List Value := [.int .i64 x.kind, .int .i64 x.i.op, .int .i64 x.i.d, .int .i64 x.i.a, .int .i64 x.i.b, .int .i64 x.i.n, .string x.name, .int .i64 x.n]
def xval (x : Itm) : Value := .agg (cells8 x).toArray
structure _root_.Go.Proofs.Ytjjbfeoidceiiaa.Lb.Itm.wf (x : Itm) : Prop where
  kind : inInt x.kind
  i : Ins.wf x.i
  name : x.name.size ≤ maxLen
  n : inInt x.n
theorem eql_yes (k o d a b n m : Int) (s : ByteArray) (w : World) :
    (binOp .eql 26 (.agg #[.int .i64 k, .int .i64 o, .int .i64 d, .int .i64 a, .int .i64 b, .int .i64 n, .string s, .int .i64 m]) (.agg #[.int .i64 k, .int .i64 o, .int .i64 d, .int .i64 a, .int .i64 b, .int .i64 n, .string s, .int .i64 m])).run Try.prog w = .ok (.bool true) w := by
  go_simp
theorem bytes_list {s t : ByteArray} (h : s.toList = t.toList) : s = t := by
  rw [ByteArray.toList_eq, ByteArray.toList_eq] at h
  obtain ⟨⟨x⟩⟩ := s
  obtain ⟨⟨y⟩⟩ := t
  simp at h
  rw [h]
theorem eql_no (k o d a b n m k' o' d' a' b' n' m' : Int) (s s' : ByteArray) (hne : ¬ (k = k' ∧ o = o' ∧ d = d' ∧ a = a' ∧ b = b' ∧ n = n' ∧ s = s' ∧ m = m')) (w : World) :
    (binOp .eql 26 (.agg #[.int .i64 k, .int .i64 o, .int .i64 d, .int .i64 a, .int .i64 b, .int .i64 n, .string s, .int .i64 m]) (.agg #[.int .i64 k', .int .i64 o', .int .i64 d', .int .i64 a', .int .i64 b', .int .i64 n', .string s', .int .i64 m'])).run Try.prog w = .ok (.bool false) w := by
  go_simp
  intro h1 h2 h3 h4 h5 h6 h7 h8
  exact hne ⟨h1, h2, h3, h4, h5, h6, bytes_list h7, h8⟩
theorem empty_of_size {s : ByteArray} (h : s.size = 0) : s = ⟨#[]⟩ := by
  obtain ⟨x⟩ := s
  have : x.size = 0 := h
  rw [Array.size_eq_zero_iff] at this
  rw [this]
theorem lead_any (o d a b n : Int) (hi : Ins.wf ⟨o, d, a, b, n⟩) (w : World) :
    Calls Try.prog 44 #[.agg #[.int .i64 o, .int .i64 d, .int .i64 a, .int .i64 b, .int .i64 n]] w fun e w' => e = .returned (.bool (leads ⟨o, d, a, b, n⟩)) ∧ Both w w' := by
  obtain ⟨q, hq⟩ : ∃ q, isB o = q := ⟨_, rfl⟩
  obtain ⟨r, hr⟩ : ∃ r, right ⟨o, d, a, b, n⟩ = r := ⟨_, rfl⟩
  have HQ := Lib.hid hq
  have HR := Lib.hid hr
  have HI := Lib.hid hi
  have e : leads ⟨o, d, a, b, n⟩ = ((o == 3 || q) && (n == 0) && r) := by
    unfold leads
    rw [hr, hq]
    simp only
    by_cases h3 : o = 3 <;> by_cases hn : n = 0 <;> simp [h3, hn]
    rw [beq_eq_false_iff_ne.2 h3, Bool.false_or]
  rw [e]
  clear hq hr e hi
  cases h3 : (o == 3) <;> cases hn : (n == 0) <;> cases q
  all_goals
    go_enter Try.func44, Try.ntmps44
    go_wp2_with (first | (go_at_call 71; ((with_reducible refine (isB_lit HQ.out _).mono ?_); rintro e w' ⟨rfl, rfl⟩)) | (go_at_call 29; ((with_reducible refine (right_val HI.out HR.out _).mono ?_); rintro e W1 ⟨rfl, hb1⟩; have HB := Lib.hid hb1; clear hb1)))
    go_ret
    first
      | exact ⟨rb (by simp), (Both.refl _).alloc _ _⟩
      | exact ⟨rb (by simp), ((Both.refl _).alloc _ _).trans HB.out⟩
theorem lead_lit {o d a b n : Int} {q : Bool} (h : leads ⟨o, d, a, b, n⟩ = q) (hi : Ins.wf ⟨o, d, a, b, n⟩) (w : World) :
    Calls Try.prog 44 #[.agg #[.int .i64 o, .int .i64 d, .int .i64 a, .int .i64 b, .int .i64 n]] w fun e w' => e = .returned (.bool q) ∧ Both w w' := by
  subst h
  exact lead_any o d a b n hi w
set_option maxHeartbeats 4000000 in
theorem rightX_1 (o d a b n m : Int) (s : ByteArray) (hi : Ins.wf ⟨o, d, a, b, n⟩) (w : World) :
    Calls Try.prog 23 #[.agg #[.int .i64 1, .int .i64 o, .int .i64 d, .int .i64 a, .int .i64 b, .int .i64 n, .string s, .int .i64 m]] w fun e w' => e = .returned (.bool (rightX ⟨1, ⟨o, d, a, b, n⟩, s, m⟩)) ∧ Both w w' := by
  obtain ⟨r, hr⟩ : ∃ r, right ⟨o, d, a, b, n⟩ = r := ⟨_, rfl⟩
  have HR := Lib.hid hr
  have HI := Lib.hid hi
  by_cases hc : s.size = 0 ∧ m = 0
  · obtain ⟨h1, rfl⟩ := hc
    obtain rfl := empty_of_size h1
    have e : rightX ⟨1, ⟨o, d, a, b, n⟩, ⟨#[]⟩, 0⟩ = r := by
      unfold rightX
      rw [if_pos rfl, hr]
      rfl
    rw [e]
    clear hr e hi h1
    have hE := eql_yes 1 o d a b n 0 ⟨#[]⟩
    go_enter Try.func23, Try.ntmps23
    go_wp2_with (go_at_call 29; ((with_reducible refine (right_val HI.out HR.out _).mono ?_); rintro e W1 ⟨rfl, hb1⟩; have HB := Lib.hid hb1; clear hb1))
    go_ret
    exact ⟨rfl, ((Both.refl _).alloc _ _).trans HB.out⟩
  · have e : rightX ⟨1, ⟨o, d, a, b, n⟩, s, m⟩ = false := by
      unfold rightX
      rw [if_pos rfl, decide_eq_false (by simpa using hc)]
      rfl
    rw [e]
    have hE := eql_no 1 o d a b n m 1 o d a b n 0 s ⟨#[]⟩ (by rintro ⟨_, _, _, _, _, _, h7, h8⟩; exact hc ⟨by rw [h7]; rfl, h8⟩)
    clear hr e hi hc
    go_enter Try.func23, Try.ntmps23
    go_wp2_with fail
    go_ret
    exact ⟨rfl, (Both.refl _).alloc _ _⟩
end Go.Proofs.Ytjjbfeoidceiiaa
/- What a walk keeps of the memory where some blocks may turn; rows of items and of numbers. -/
namespace Go.Proofs.Ytjjbfeoidceiiaa
open Go.RowKit Rv Lb
set_option linter.unusedVariables false
/-- of what was there nothing turns but in the blocks of S; no mark -/
structure Sav (S : Nat → Prop) (w w' : World) : Prop where
  os : w'.os = w.os
  tape : w'.tape = w.tape
  output : w'.output = w.output
  size : w.heap.size ≤ w'.heap.size
  block : ∀ k, k < w.heap.size → ¬ S k → w'.heap[k]? = w.heap[k]?
  mark : ∀ a, w'.frozen? a = w.frozen? a
theorem Both.sav {w w' : World} (h : Both w w') (S : Nat → Prop) : Sav S w w' := ⟨h.1.os, h.1.tape, h.1.output, h.1.size, fun k hk _ => h.1.block k hk, h.2⟩
theorem Sav.refl (S : Nat → Prop) (w : World) : Sav S w w := (Both.refl w).sav S
theorem Sav.trans {S : Nat → Prop} {a b c : World} (h : Sav S a b) (k : Sav S b c) : Sav S a c :=
  ⟨k.os.trans h.os, k.tape.trans h.tape, k.output.trans h.output, Nat.le_trans h.size k.size, fun j hj hs => (k.block j (Nat.lt_of_lt_of_le hj h.size) hs).trans (h.block j hj hs), fun x => (k.mark x).trans (h.mark x)⟩
theorem Sav.both {S : Nat → Prop} {w w' : World} (h : Sav S w w') {w0 : World} (h0 : Both w0 w) (hs : ∀ k, S k → w0.heap.size ≤ k) : Both w0 w' :=
  ⟨⟨h.os.trans h0.1.os, h.tape.trans h0.1.tape, h.output.trans h0.1.output, Nat.le_trans h0.1.size h.size, fun k hk => (h.block k (Nat.lt_of_lt_of_le hk h0.1.size) (fun c => by have := hs k c; omega)).trans (h0.1.block k hk)⟩, fun a => (h.mark a).trans (h0.2 a)⟩
theorem Sav.mono {S T : Nat → Prop} {w w' : World} (h : Sav S w w') (hs : ∀ k, k < w.heap.size → S k → T k) : Sav T w w' :=
  ⟨h.os, h.tape, h.output, h.size, fun k hk hn => h.block k hk (fun c => hn (hs k hk c)), h.mark⟩
theorem Sav.alloc {S : Nat → Prop} {w w' : World} (h : Sav S w w') (c : Array Value) (t : TypeId) : Sav S w (w'.alloc (.cells c t)) := h.trans (((Both.refl w').alloc c t).sav S)
theorem sav_setRow {w : World} (S : Nat → Prop) {g : Nat} (hg : S g ∨ w.heap.size ≤ g) (cs : Array Value) : Sav S w (w.setRow g cs) :=
  ⟨rfl, rfl, rfl, by rw [setRow_size]; exact Nat.le_refl _, fun k hk hs => setRow_other _ _ _ _ (by rintro rfl; rcases hg with h | h; exact hs h; omega), fun a => frozen_setRow _ _ _ a⟩
theorem Sav.setRow {S : Nat → Prop} {w w' : World} (h : Sav S w w') {g : Nat} (hg : S g ∨ w.heap.size ≤ g) (cs : Array Value) : Sav S w (w'.setRow g cs) :=
  ⟨h.os, h.tape, h.output, by rw [setRow_size]; exact h.size, fun k hk hs => (setRow_other _ _ _ _ (by rintro rfl; rcases hg with h | h; exact hs h; omega)).trans (h.block k hk hs), fun a => (frozen_setRow _ _ _ a).trans (h.mark a)⟩
theorem Sav.cell {S : Nat → Prop} {w w' : World} (h : Sav S w w') {p : Addr} (hp : p.block < w.heap.size) (hs : ¬ S p.block) : w'.cell? p = w.cell? p := by
  unfold World.cell?
  rw [h.block _ hp hs]
theorem Sav.drew {S : Nat → Prop} {w w' : World} (h : Sav S w w') : Sav S w w'.drew := h.trans (((Both.refl w').drew).sav S)
/-- a row of numbers lies at a place -/
def IntsAt (w : World) (b o : Nat) (l : List Int) : Prop := b < w.heap.size ∧ ∀ (j : Nat) (i : Int), l[j]? = some i → w.cell? ⟨b, o + j, none⟩ = some (.int .i64 i)
theorem IntsAt.sav {S : Nat → Prop} {w w' : World} {b o : Nat} {l : List Int} (h : IntsAt w b o l) (hb : Sav S w w') (hs : ¬ S b) : IntsAt w' b o l :=
  ⟨Nat.lt_of_lt_of_le h.1 hb.size, fun j i hj => (hb.cell (p := ⟨b, o + j, none⟩) h.1 hs).trans (h.2 j i hj)⟩
theorem IntsAt.both {w w' : World} {b o : Nat} {l : List Int} (h : IntsAt w b o l) (hb : Both w w') : IntsAt w' b o l := h.sav (hb.sav fun _ => False) id
/-- a row of items lies at a place -/
def ItemsAt (w : World) (b o : Nat) (l : List Itm) : Prop := b < w.heap.size ∧ ∀ (j : Nat) (x : Itm), l[j]? = some x → ∀ (k : Nat) (v : Value), (cells8 x)[k]? = some v → w.cell? ⟨b, o + j * 8 + k, none⟩ = some v
theorem ItemsAt.sav {S : Nat → Prop} {w w' : World} {b o : Nat} {l : List Itm} (h : ItemsAt w b o l) (hb : Sav S w w') (hs : ¬ S b) : ItemsAt w' b o l :=
  ⟨Nat.lt_of_lt_of_le h.1 hb.size, fun j x hj k v hk => (hb.cell (p := ⟨b, o + j * 8 + k, none⟩) h.1 hs).trans (h.2 j x hj k v hk)⟩
theorem ItemsAt.both {w w' : World} {b o : Nat} {l : List Itm} (h : ItemsAt w b o l) (hb : Both w w') : ItemsAt w' b o l := h.sav (hb.sav fun _ => False) id
/-- the eight cells of one -/
theorem ItemsAt.get {w : World} {B f : Nat} {l : List Itm} (h : ItemsAt w B f l) {j : Nat} {k o d a b n m : Int} {s : ByteArray} (hj : l[j]? = some ⟨k, ⟨o, d, a, b, n⟩, s, m⟩) :
    w.cell? ⟨B, f + j * 8, none⟩ = some (.int .i64 k) ∧ w.cell? ⟨B, f + j * 8 + 1, none⟩ = some (.int .i64 o) ∧ w.cell? ⟨B, f + j * 8 + 2, none⟩ = some (.int .i64 d) ∧ w.cell? ⟨B, f + j * 8 + 3, none⟩ = some (.int .i64 a) ∧
      w.cell? ⟨B, f + j * 8 + 4, none⟩ = some (.int .i64 b) ∧ w.cell? ⟨B, f + j * 8 + 5, none⟩ = some (.int .i64 n) ∧ w.cell? ⟨B, f + j * 8 + 6, none⟩ = some (.string s) ∧ w.cell? ⟨B, f + j * 8 + 7, none⟩ = some (.int .i64 m) := by
  have hc := h.2 j _ hj
  exact ⟨hc 0 _ rfl, hc 1 _ rfl, hc 2 _ rfl, hc 3 _ rfl, hc 4 _ rfl, hc 5 _ rfl, hc 6 _ rfl, hc 7 _ rfl⟩
theorem items_one {l : List Itm} {k : Nat} (h : k < l.length) : ∃ (kd o d a b n m : Int) (s : ByteArray), l[k]? = some ⟨kd, ⟨o, d, a, b, n⟩, s, m⟩ := by
  exact ⟨l[k].kind, l[k].i.op, l[k].i.d, l[k].i.a, l[k].i.b, l[k].i.n, l[k].n, l[k].name, by rw [List.getElem?_eq_getElem h]⟩
end Go.Proofs.Ytjjbfeoidceiiaa
/- Appending to a row of the call's own: what is kept of the memory, marks and all; making a row of a size that is no literal. -/
namespace Go.Proofs.Ytjjbfeoidceiiaa
open Go.RowKit Rv Lb
set_option linter.unusedVariables false
theorem lt_of_heap {w : World} {g : Nat} {o : Obj} (h : w.heap[g]? = some o) : g < w.heap.size := (Array.getElem?_eq_some_iff.1 h).1
theorem append_sav {P : Program} (w : World) (base : Nat) (t ty e : TypeId) (i : TypeInfo) (z : Value) (size bytes : Nat) (ht : P.underlying t = some (.slice e)) (hi : P.info? e = some i) (hz : i.zero = some z)
    (hsize : i.size = size) (hby : i.bytes = bytes) (hzs : z.cells.size = size) (hsz : 0 < size) (v : Value) (n : Nat) (xs : List Value) (hown : w.ownsRow base e size v n xs)
    (a : Addr) (m c : Nat) (news : List Value) (hl : news.length = m * size) (hnews : ∀ j u, news[j]? = some u → w.cell? (a.add j) = some u) (h1 : ∀ u ∈ news, u.oneCell' = true)
    (h63 : n + m ≤ maxLen) (hbytes : (n + m) * bytes ≤ 140737488355328) (hbase : base ≤ w.heap.size) (hm : 0 < m ∨ v ≠ .slice none 0 0) :
    ∃ v' w', (Builtin.append_ #[t, t] ty #[v, .slice (some a) m c]).run P w = .ok v' w' ∧ w'.ownsRow base e size v' (n + m) (xs ++ news) ∧ Sav (fun k => v.ownBlock = some k) w w' ∧ (v' ≠ .slice none 0 0) := by
  obtain ⟨v', w', hrun, hown', _, hnil⟩ := run_append_own (P := P) w base t ty e i z size bytes ht hi hz hsize hby hzs hsz v n xs hown a m c news hl hnews h1 h63 hbytes hbase
  have hv' : v' ≠ .slice none 0 0 := fun c => by
    obtain ⟨c1, c2⟩ := hnil.1 c
    rcases hm with h | h
    · omega
    · exact h c1
  refine ⟨v', w', hrun, hown', ?_, hv'⟩
  subst hsize
  subst hby
  have hsmall : n + m ≤ 9223372036854775807 := by simp only [maxLen] at h63; omega
  rcases hown.2 with ⟨rfl, rfl⟩ | ⟨g, cap, cur, rfl, hbg, hg, hnc, hcm, hcs, htake⟩
  · have hm0 : 0 < m := by rcases hm with h | h; exact h; exact absurd rfl h
    rw [run_append_nil (P := P) w t ty e i z ht hi hz a m c news hl hnews hm0 (by omega) (by have hb := hbytes; simp only [Nat.zero_add] at hb; omega)] at hrun
    injection hrun with _ hw
    subst hw
    exact (((Both.refl w).drew).alloc _ _).sav _
  · by_cases hroom : n + m ≤ cap
    · have hfit : n * i.size + news.length ≤ cur.size := by rw [hl, hcs, ← Nat.add_mul]; exact Nat.mul_le_mul_right _ hroom
      rw [run_append_room (P := P) w t ty e i ht hi g n cap cur hg a m c news hl hnews h1 hroom hfit] at hrun
      injection hrun with _ hw
      subst hw
      exact sav_setRow (g := g) (fun k => (Value.slice (some ⟨g, 0, none⟩) n cap).ownBlock = some k) (Or.inl rfl) _
    · have holds : ∀ j u, xs[j]? = some u → w.cell? ((⟨g, 0, none⟩ : Addr).add j) = some u := hown.cells (g := g) rfl
      rw [run_append_grow (P := P) w t ty e i z ht hi hz ⟨g, 0, none⟩ n cap xs hown.1 holds a m c news hl hnews (by omega) (by omega) (growslice_fits (by omega) hbytes)] at hrun
      injection hrun with _ hw
      subst hw
      exact (((Both.refl w).drew).alloc _ _).sav _
theorem wpList_app {P : Program} {w w' : World} {ops : Array Oper} {rest : List Oper} {o : Oper} {a : Act} {Q : Exit → Act → World → Prop} (hgd : o.guard = none) (s x : Operand) (t : TypeId)
    (ho : o.op = .call { callee := .builtin .append, args := #[s, x], argTypes := #[t, t] }) (sv xv r : Value) (hs : a.eval s = sv) (hx : a.eval x = xv)
    (hrun : (Builtin.append_ #[t, t] o.type #[sv, xv]).run P w = .ok r w') (h : wpList P ops Q rest (a.put o.dst r) w') : wpList P ops Q (o :: rest) a w := by
  refine wpList_plain hgd fun K hK => ?_
  unfold Oper.wp
  simp [execOp, ho, resolve, invoke, builtin, hs, hx, hrun, Result.andThen]
  exact hK _ _ h
theorem info_int : ∃ i : TypeInfo, Try.prog.info? 3 = some i ∧ i.zero = some (.int .i64 0) ∧ i.size = 1 ∧ i.bytes = 8 := ⟨(Try.prog.info? 3).get (by kernel_rfl), by kernel_rfl, by kernel_rfl, by kernel_rfl, by kernel_rfl⟩
def ints (l : List Int) : List Value := l.map (Value.int .i64)
/-- a row of ints of the call's own -/
abbrev IRow (w : World) (base : Nat) (v : Value) (l : List Int) : Prop := w.ownsRow base 3 1 v l.length (ints l)
theorem ownsRow_sav {S : Nat → Prop} {w w' : World} {base : Nat} {e : TypeId} {size : Nat} {v : Value} {n : Nat} {xs : List Value} (h : w.ownsRow base e size v n xs) (hs : Sav S w w') (hn : ∀ k, v.ownBlock = some k → ¬ S k) : w'.ownsRow base e size v n xs := by
  refine ⟨h.1, ?_⟩
  rcases h.2 with hn' | ⟨g, cap, cur, rfl, hb, hgg, rest⟩
  · exact .inl hn'
  · exact .inr ⟨g, cap, cur, rfl, hb, (hs.block g (Array.getElem?_eq_some_iff.1 hgg).1 (hn g rfl)).trans hgg, rest⟩
theorem IRow.sav {S : Nat → Prop} {w w' : World} {base : Nat} {v : Value} {l : List Int} (h : IRow w base v l) (hs : Sav S w w') (hn : ∀ k, v.ownBlock = some k → ¬ S k) : IRow w' base v l := ownsRow_sav h hs hn
theorem IRow.nil (w : World) (base : Nat) : IRow w base (.slice none 0 0) [] := World.ownsRow_nil _ _ _ _
/-- one int more, which lies in a block of its own -/
theorem irow_one {w : World} {base : Nat} {v : Value} {l : List Int} (h : IRow w base v l) (t ty : TypeId) (ht : Try.prog.underlying t = some (.slice 3)) (B : Nat) (x : Int) (hx : w.cell? ⟨B, 0, none⟩ = some (.int .i64 x)) (hlen : l.length + 1 ≤ 1099511627776) (hbase : base ≤ w.heap.size) :
    ∃ v' w', (Builtin.append_ #[t, t] ty #[v, .slice (some ⟨B, 0, none⟩) 1 1]).run Try.prog w = .ok v' w' ∧ IRow w' base v' (l ++ [x]) ∧ Sav (fun k => v.ownBlock = some k) w w' ∧ v' ≠ .slice none 0 0 := by
  obtain ⟨i, hi, hz, hs, hb⟩ := info_int
  obtain ⟨v', w', h1, h2, h3⟩ := append_sav (P := Try.prog) w base t ty 3 i (.int .i64 0) 1 8 ht hi hz hs hb rfl (by decide) v l.length (ints l) h ⟨B, 0, none⟩ 1 1 [.int .i64 x] rfl
    (by intro j u hj
        match j, hj with
        | 0, hj => rw [← hj]; exact hx)
    (by intro u hu; simp at hu; subst hu; rfl) (by unfold maxLen; omega) (by omega) hbase (Or.inl (by omega))
  refine ⟨v', w', h1, ?_, h3⟩
  have e1 : (l ++ [x]).length = l.length + 1 := by simp
  have e2 : ints (l ++ [x]) = ints l ++ [.int .i64 x] := by simp [ints]
  unfold IRow
  rw [e1, e2]
  exact h2
/-- what an own row's value is, where it is not empty -/
theorem IRow.form {w : World} {base : Nat} {v : Value} {l : List Int} (h : IRow w base v l) (hne : v ≠ .slice none 0 0) : ∃ B c, v = .slice (some ⟨B, 0, none⟩) l.length c ∧ base ≤ B ∧ B < w.heap.size ∧ IntsAt w B 0 l ∧ ∀ j, w.frozen? ⟨B, j, none⟩ = false := by
  rcases h.2 with ⟨rfl, _⟩ | ⟨g, cap, cur, rfl, hb, hg, hnc, hcm, hcs, htake⟩
  · exact absurd rfl hne
  · have hlt := (Array.getElem?_eq_some_iff.1 hg).1
    refine ⟨g, cap, rfl, hb, hlt, ⟨hlt, fun j i hj => ?_⟩, fun j => World.ownsRow.frozenAt h j⟩
    rw [Nat.zero_add, World.ownsRow.cellAt h j (by have := (List.getElem?_eq_some_iff.1 hj).1; omega)]
    unfold ints
    rw [List.getElem?_map, hj]
    rfl
/-- make of a row of ints whose size is no literal -/
theorem make_ints (t : TypeId) (ht : Try.prog.underlying t = some (.slice 3)) (n c : Nat) (hnc : n ≤ c) (hc : c ≤ 1099511627776) (w : World) :
    (Instr.makeSlice t (.int .i64 (n : Int)) (.int .i64 (c : Int))).run Try.prog w = .ok (.slice (some ⟨w.heap.size, 0, none⟩) n c) (w.alloc (.cells (ints (List.replicate c 0)).toArray 3)) := by
  obtain ⟨i, hi, hz, hs, hb⟩ := info_int
  have := run_make (P := Try.prog) w t 3 i (.int .i64 0) ht hi hz .i64 .i64 n c (by omega) (by omega) (by rw [hb]; omega) (by omega)
  rw [hs, Nat.mul_one, Int.toNat_natCast, Int.toNat_natCast] at this
  rw [this]
  have e : madeCells (Value.cells (.int .i64 0)) c = (ints (List.replicate c 0)).toArray := by
    apply Array.ext'
    rw [show Value.cells (.int .i64 0) = #[.int .i64 0] from rfl, toList_madeCells_one]
    simp [ints]
  rw [e]
end Go.Proofs.Ytjjbfeoidceiiaa
