/- Package token: Scan (layer 5), in a namespace of its own. -/
import Derived.WalkKit
import Derived.Lib.Hide
import Derived.OwnWalk
import Derived.Test.YthlnjnmomnpnpaaGreatDoorProg
import Derived.Test.YthlnjnmomnpnpaaGreatDoorCBoth
import Derived.Test.YthlnjnmomnpnpaaGreatDoorTPick
import Derived.Lib.Bytealg
import Derived.Lib.Strings
import Derived.Laws.Externs
import Derived.Shelf.LaysM
import Derived.Shelf.Strconv.Clone
import Derived.Deep.LoopGhost
import Derived.Laws.Rows
namespace Go.Proofs.YthlnjnmomnpnpaaGreatDoor.Lx
section
open Go.RowKit Tk
set_option linter.unusedVariables false
theorem ri {k : IntKind} {a b : Int} (h : a = b) : Ending.returned (.int k a) = .returned (.int k b) := by rw [h]
theorem rb {a b : Bool} (h : a = b) : Ending.returned (.bool a) = .returned (.bool b) := by rw [h]
/-- of what was there nothing has turned -/
def Bel (w w' : World) : Prop := Below w.heap.size w w'
theorem Bel.refl (w : World) : Bel w w := Below.refl _ _
theorem Bel.trans {a b c : World} (h : Bel a b) (k : Bel b c) : Bel a c := Below.trans h (Below.mono k h.size)
theorem Bel.alloc {w w' : World} (h : Bel w w') (c : Array Value) (t : TypeId) : Bel w (w'.alloc (.cells c t)) := Below.alloc h h.size _
theorem Bel.setCell {w w' : World} (h : Bel w w') {p : Addr} (hp : w.heap.size ≤ p.block) (u : Value) : Bel w (w'.setCell p u) := Below.setCell h hp _
theorem Bel.drew {w w' : World} (h : Bel w w') : Bel w w'.drew := Below.drew h
theorem Bel.cell {w w' : World} (h : Bel w w') {p : Addr} (hp : p.block < w.heap.size) : w'.cell? p = w.cell? p := Below.cell h hp
theorem Both.bel {w w' : World} (h : Both w w') : Bel w w' := h.1
theorem lt_of_heap {w : World} {g : Nat} {o : Obj} (h : w.heap[g]? = some o) : g < w.heap.size := (Array.getElem?_eq_some_iff.1 h).1
/-- of what was there nothing turns but in the blocks of S -/
structure Sv (S : Nat → Prop) (w w' : World) : Prop where
  os : w'.os = w.os
  tape : w'.tape = w.tape
  output : w'.output = w.output
  size : w.heap.size ≤ w'.heap.size
  block : ∀ k, k < w.heap.size → ¬ S k → w'.heap[k]? = w.heap[k]?
theorem Bel.sv {w w' : World} (h : Bel w w') (S : Nat → Prop) : Sv S w w' := ⟨h.os, h.tape, h.output, h.size, fun k hk _ => h.block k hk⟩
theorem Sv.trans {S : Nat → Prop} {a b c : World} (h : Sv S a b) (k : Sv S b c) : Sv S a c :=
  ⟨k.os.trans h.os, k.tape.trans h.tape, k.output.trans h.output, Nat.le_trans h.size k.size, fun j hj hs => (k.block j (Nat.lt_of_lt_of_le hj h.size) hs).trans (h.block j hj hs)⟩
theorem Sv.bel {S : Nat → Prop} {w w' : World} (h : Sv S w w') {w0 : World} (h0 : Bel w0 w) (hs : ∀ k, S k → w0.heap.size ≤ k) : Bel w0 w' :=
  ⟨h.os.trans h0.os, h.tape.trans h0.tape, h.output.trans h0.output, Nat.le_trans h0.size h.size, fun k hk => (h.block k (Nat.lt_of_lt_of_le hk h0.size) (fun c => by have := hs k c; omega)).trans (h0.block k hk)⟩
theorem Sv.cell {S : Nat → Prop} {w w' : World} (h : Sv S w w') {p : Addr} (hp : p.block < w.heap.size) (hs : ¬ S p.block) : w'.cell? p = w.cell? p := by
  unfold World.cell?
  rw [h.block _ hp hs]
theorem sv_setRow {w : World} (S : Nat → Prop) {g : Nat} (hg : S g ∨ w.heap.size ≤ g) (cs : Array Value) : Sv S w (w.setRow g cs) :=
  ⟨rfl, rfl, rfl, by rw [setRow_size]; exact Nat.le_refl _, fun k hk hs => setRow_other _ _ _ _ (by rintro rfl; rcases hg with h | h; exact hs h; omega)⟩
theorem append_sv {P : Program} (w : World) (base : Nat) (t ty e : TypeId) (i : TypeInfo) (z : Value) (size bytes : Nat) (ht : P.underlying t = some (.slice e)) (hi : P.info? e = some i) (hz : i.zero = some z)
    (hsize : i.size = size) (hby : i.bytes = bytes) (hzs : z.cells.size = size) (hsz : 0 < size) (v : Value) (n : Nat) (xs : List Value) (hown : w.ownsRow base e size v n xs)
    (a : Addr) (m c : Nat) (news : List Value) (hl : news.length = m * size) (hnews : ∀ j u, news[j]? = some u → w.cell? (a.add j) = some u) (h1 : ∀ u ∈ news, u.oneCell' = true)
    (h63 : n + m ≤ maxLen) (hbytes : (n + m) * bytes ≤ 140737488355328) (hbase : base ≤ w.heap.size) (hm : 0 < m ∨ v ≠ .slice none 0 0) :
    ∃ v' w', (Builtin.append_ #[t, t] ty #[v, .slice (some a) m c]).run P w = .ok v' w' ∧ w'.ownsRow base e size v' (n + m) (xs ++ news) ∧ Sv (fun k => v.ownBlock = some k) w w' ∧ (v' ≠ .slice none 0 0) := by
  obtain ⟨v', w', hrun, hown', _, hnil⟩ := run_append_own (P := P) w base t ty e i z size bytes ht hi hz hsize hby hzs hsz v n xs hown a m c news hl hnews h1 h63 hbytes hbase
  have hv' : v' ≠ .slice none 0 0 := fun c => by
    obtain ⟨c1, c2⟩ := hnil.1 c
    rcases hm with h | h
    · omega
    · exact h c1
  refine ⟨v', w', hrun, hown', ?_, hv'⟩
  subst hsize
  subst hby
  have hsmall : n + m ≤ 9223372036854775807 := by simp only [maxLen] at h63; omega
  rcases hown.2 with ⟨rfl, rfl⟩ | ⟨g, cap, cur, rfl, hbg, hg, hnc, hcm, hcs, htake⟩
  · have hm0 : 0 < m := by rcases hm with h | h; exact h; exact absurd rfl h
    rw [run_append_nil (P := P) w t ty e i z ht hi hz a m c news hl hnews hm0 (by omega) (by have hb := hbytes; simp only [Nat.zero_add] at hb; omega)] at hrun
    injection hrun with _ hw
    subst hw
    exact ((Bel.refl w).drew.alloc _ _).sv _
  · by_cases hroom : n + m ≤ cap
    · have hfit : n * i.size + news.length ≤ cur.size := by rw [hl, hcs, ← Nat.add_mul]; exact Nat.mul_le_mul_right _ hroom
      rw [run_append_room (P := P) w t ty e i ht hi g n cap cur hg a m c news hl hnews h1 hroom hfit] at hrun
      injection hrun with _ hw
      subst hw
      exact sv_setRow (g := g) (fun k => (Value.slice (some ⟨g, 0, none⟩) n cap).ownBlock = some k) (Or.inl rfl) _
    · have holds : ∀ j u, xs[j]? = some u → w.cell? ((⟨g, 0, none⟩ : Addr).add j) = some u := hown.cells (g := g) rfl
      rw [run_append_grow (P := P) w t ty e i z ht hi hz ⟨g, 0, none⟩ n cap xs hown.1 holds a m c news hl hnews (by omega) (by omega) (growslice_fits (by omega) hbytes)] at hrun
      injection hrun with _ hw
      subst hw
      exact ((Bel.refl w).drew.alloc _ _).sv _
theorem wpList_app {P : Program} {w w' : World} {ops : Array Oper} {rest : List Oper} {o : Oper} {a : Act} {Q : Exit → Act → World → Prop} (hgd : o.guard = none) (s x : Operand) (t : TypeId)
    (ho : o.op = .call { callee := .builtin .append, args := #[s, x], argTypes := #[t, t] }) (sv xv r : Value) (hs : a.eval s = sv) (hx : a.eval x = xv)
    (hrun : (Builtin.append_ #[t, t] o.type #[sv, xv]).run P w = .ok r w') (h : wpList P ops Q rest (a.put o.dst r) w') : wpList P ops Q (o :: rest) a w := by
  refine wpList_plain hgd fun K hK => ?_
  unfold Oper.wp
  simp [execOp, ho, resolve, invoke, builtin, hs, hx, hrun, Result.andThen]
  exact hK _ _ h
theorem ownsRow_sv {S : Nat → Prop} {w w' : World} {base : Nat} {e : TypeId} {size : Nat} {v : Value} {n : Nat} {xs : List Value} (h : w.ownsRow base e size v n xs) (hs : Sv S w w') (hn : ∀ k, v.ownBlock = some k → ¬ S k) : w'.ownsRow base e size v n xs := by
  refine ⟨h.1, ?_⟩
  rcases h.2 with hn' | ⟨g, cap, cur, rfl, hb, hgg, rest⟩
  · exact .inl hn'
  · exact .inr ⟨g, cap, cur, rfl, hb, (hs.block g (Array.getElem?_eq_some_iff.1 hgg).1 (hn g rfl)).trans hgg, rest⟩
def str (l : Bs) : ByteArray := ⟨l.toArray⟩
theorem str_data (l : Bs) : (str l).data.toList = l := rfl
theorem data_str (s : ByteArray) : str s.data.toList = s := by
  obtain ⟨⟨l⟩⟩ := s
  rfl
theorem str_size (l : Bs) : (str l).size = l.length := rfl
theorem str_inj {s t : Bs} (h : str s = str t) : s = t := congrArg (·.data.toList) h
theorem str_app (s t : Bs) : str s ++ str t = str (s ++ t) := by
  rw [← data_str (str s ++ str t)]
  congr 1
def tcells (x : Tok) : List Value := [.int .i64 x.kind, .string (str x.text), .int .i64 x.n, .int .i64 x.line]
theorem info_tok : ∃ i : TypeInfo, Tryz.prog.info? 48 = some i ∧ i.zero = some (.agg #[.int .i64 0, .string ⟨#[]⟩, .int .i64 0, .int .i64 0]) ∧ i.size = 4 ∧ i.bytes = 40 := ⟨(Tryz.prog.info? 48).get (by kernel_rfl), by kernel_rfl, by kernel_rfl, by kernel_rfl, by kernel_rfl⟩
/-- a row of tokens of the call's own -/
abbrev TRow (w : World) (base : Nat) (v : Value) (l : List Tok) : Prop := w.ownsRow base 48 4 v l.length (l.flatMap tcells)
theorem TRow.sv {S : Nat → Prop} {w w' : World} {base : Nat} {v : Value} {l : List Tok} (h : TRow w base v l) (hs : Sv S w w') (hn : ∀ k, v.ownBlock = some k → ¬ S k) : TRow w' base v l := ownsRow_sv h hs hn
theorem TRow.bel {w w' : World} {base : Nat} {v : Value} {l : List Tok} (h : TRow w base v l) (hs : Bel w w') : TRow w' base v l := ownsRow_sv h (hs.sv fun _ => False) fun _ _ => id
theorem TRow.nil (w : World) (base : Nat) : TRow w base (.slice none 0 0) [] := World.ownsRow_nil _ _ _ _
/-- a row of tokens lies at a place -/
def ToksAt (w : World) (b o : Nat) (l : List Tok) : Prop := b < w.heap.size ∧ ∀ (j : Nat) (x : Tok), l[j]? = some x → ∀ (k : Nat) (v : Value), (tcells x)[k]? = some v → w.cell? ⟨b, o + j * 4 + k, none⟩ = some v
theorem ToksAt.bel {w w' : World} {b o : Nat} {l : List Tok} (h : ToksAt w b o l) (hb : Bel w w') : ToksAt w' b o l :=
  ⟨Nat.lt_of_lt_of_le h.1 hb.size, fun j x hj k v hk => (hb.cell (p := ⟨b, o + j * 4 + k, none⟩) h.1).trans (h.2 j x hj k v hk)⟩
theorem ToksAt.get {w : World} {b o : Nat} {l : List Tok} (h : ToksAt w b o l) {j : Nat} {k n m : Int} {s : Bs} (hj : l[j]? = some ⟨k, s, n, m⟩) :
    w.cell? ⟨b, o + j * 4, none⟩ = some (.int .i64 k) ∧ w.cell? ⟨b, o + j * 4 + 1, none⟩ = some (.string (str s)) ∧ w.cell? ⟨b, o + j * 4 + 2, none⟩ = some (.int .i64 n) ∧ w.cell? ⟨b, o + j * 4 + 3, none⟩ = some (.int .i64 m) := by
  have hc := h.2 j _ hj
  exact ⟨hc 0 _ rfl, hc 1 _ rfl, hc 2 _ rfl, hc 3 _ rfl⟩
theorem flat4_get {l : List Tok} {j : Nat} {x : Tok} (h : l[j]? = some x) {k : Nat} {v : Value} (hv : (tcells x)[k]? = some v) : (l.flatMap tcells)[j * 4 + k]? = some v := by
  have hk : k < 4 := (List.getElem?_eq_some_iff.1 hv).1
  induction l generalizing j with
  | nil => simp at h
  | cons y t ih =>
    rw [List.flatMap_cons]
    cases j with
    | zero =>
      simp only [List.getElem?_cons_zero, Option.some.injEq] at h
      subst h
      rw [Nat.zero_mul, Nat.zero_add, List.getElem?_append_left (by show k < 4; exact hk)]
      exact hv
    | succ j =>
      rw [List.getElem?_cons_succ] at h
      rw [List.getElem?_append_right (by show 4 ≤ _; omega)]
      have : (j + 1) * 4 + k - (tcells y).length = j * 4 + k := by show (j + 1) * 4 + k - 4 = _; omega
      rw [this]
      exact ih h
theorem flat4_len (l : List Tok) : (l.flatMap tcells).length = l.length * 4 := by
  induction l with
  | nil => rfl
  | cons x l ih => rw [List.flatMap_cons, List.length_append, ih, List.length_cons]; show 4 + _ = _; omega
/-- one token more, which lies in a block of its own -/
theorem trow_one {w : World} {base : Nat} {v : Value} {l : List Tok} (h : TRow w base v l) (t ty : TypeId) (ht : Tryz.prog.underlying t = some (.slice 48)) (B : Nat) (k n m : Int) (s : ByteArray)
    (h0 : w.cell? ⟨B, 0, none⟩ = some (.int .i64 k)) (h1 : w.cell? ⟨B, 1, none⟩ = some (.string s)) (h2 : w.cell? ⟨B, 2, none⟩ = some (.int .i64 n)) (h3 : w.cell? ⟨B, 3, none⟩ = some (.int .i64 m))
    (hlen : l.length + 1 ≤ 1099511627776) (hbase : base ≤ w.heap.size) :
    ∃ v' w', (Builtin.append_ #[t, t] ty #[v, .slice (some ⟨B, 0, none⟩) 1 1]).run Tryz.prog w = .ok v' w' ∧ TRow w' base v' (l ++ [⟨k, s.data.toList, n, m⟩]) ∧ Sv (fun k => v.ownBlock = some k) w w' ∧ v' ≠ .slice none 0 0 := by
  obtain ⟨i, hi, hz, hs, hb⟩ := info_tok
  obtain ⟨v', w', e1, e2, e3⟩ := append_sv (P := Tryz.prog) w base t ty 48 i _ 4 40 ht hi hz hs hb rfl (by decide) v l.length (l.flatMap tcells) h ⟨B, 0, none⟩ 1 1 [.int .i64 k, .string s, .int .i64 n, .int .i64 m] rfl
    (by intro j u hj
        match j, hj with
        | 0, hj => rw [← hj]; exact h0
        | 1, hj => rw [← hj]; exact h1
        | 2, hj => rw [← hj]; exact h2
        | 3, hj => rw [← hj]; exact h3)
    (by intro u hu; simp at hu; rcases hu with rfl | rfl | rfl | rfl <;> rfl) (by unfold maxLen; omega) (by omega) hbase (Or.inl (by omega))
  refine ⟨v', w', e1, ?_, e3⟩
  have a1 : (l ++ [(⟨k, s.data.toList, n, m⟩ : Tok)]).length = l.length + 1 := by simp
  have a2 : (l ++ [(⟨k, s.data.toList, n, m⟩ : Tok)]).flatMap tcells = l.flatMap tcells ++ [.int .i64 k, .string s, .int .i64 n, .int .i64 m] := by
    rw [List.flatMap_append, List.flatMap_cons, List.flatMap_nil, List.append_nil]
    unfold tcells
    rw [data_str]
  unfold TRow
  rw [a1, a2]
  exact e2
/-- what an own row's value is, where it is not empty -/
theorem TRow.form {w : World} {base : Nat} {v : Value} {l : List Tok} (h : TRow w base v l) (hne : v ≠ .slice none 0 0) : ∃ B c, v = .slice (some ⟨B, 0, none⟩) l.length c ∧ base ≤ B ∧ l.length ≤ c ∧ ToksAt w B 0 l := by
  rcases h.2 with ⟨rfl, _⟩ | ⟨g, cap, cur, rfl, hb, hg, hnc, hcm, hcs, htake⟩
  · exact absurd rfl hne
  · have hlt := (Array.getElem?_eq_some_iff.1 hg).1
    refine ⟨g, cap, rfl, hb, hnc, hlt, fun j x hj k u hk => ?_⟩
    have hg4 := flat4_get hj hk
    have hlt4 := (List.getElem?_eq_some_iff.1 hg4).1
    rw [flat4_len] at hlt4
    rw [Nat.zero_add, World.ownsRow.cellAt h (j * 4 + k) hlt4]
    exact hg4
end
section
open Go.RowKit Tk
set_option linter.unusedVariables false
theorem isDig_any (c : UInt8) (w : World) : Calls Tryz.prog 87 #[.int .u8 (c.toNat : Int)] w fun e w' => e = .returned (.bool (isDig c)) ∧ w = w' := by
  go_enter Tryz.func87, Tryz.ntmps87
  go_wp2
  all_goals go_ret
  all_goals refine ⟨rb ?_, rfl⟩
  all_goals (rw [Bool.eq_iff_iff]; simp only [isDig, decide_eq_true_eq, Bool.false_eq_true, false_iff]; omega)
theorem isDig_lit {c : UInt8} {b : Bool} (h : isDig c = b) (w : World) : Calls Tryz.prog 87 #[.int .u8 (c.toNat : Int)] w fun e w' => e = .returned (.bool b) ∧ w = w' := by
  subst h
  exact isDig_any c w
theorem isLet_any (c : UInt8) (w : World) : Calls Tryz.prog 86 #[.int .u8 (c.toNat : Int)] w fun e w' => e = .returned (.bool (isLet c)) ∧ w = w' := by
  go_enter Tryz.func86, Tryz.ntmps86
  go_wp2
  all_goals go_ret
  all_goals refine ⟨rb ?_, rfl⟩
  all_goals (rw [Bool.eq_iff_iff]; simp [isLet]; try omega)
theorem isLet_lit {c : UInt8} {b : Bool} (h : isLet c = b) (w : World) : Calls Tryz.prog 86 #[.int .u8 (c.toNat : Int)] w fun e w' => e = .returned (.bool b) ∧ w = w' := by
  subst h
  exact isLet_any c w
def runFrom (s : ByteArray) (k : Nat) : Nat := runLen (s.data.toList.drop k)
theorem drop_cons (s : ByteArray) (k : Nat) (h : k < s.size) : s.data.toList.drop k = s[k] :: s.data.toList.drop (k + 1) := by
  rw [List.drop_eq_getElem_cons (by simpa using h)]
  rfl
theorem runFrom_yes (s : ByteArray) (k : Nat) (h : k < s.size) (hc : isRun s[k] = true) : runFrom s k = runFrom s (k + 1) + 1 := by
  unfold runFrom runLen
  rw [drop_cons s k h, List.takeWhile_cons, if_pos hc, List.length_cons]
theorem runFrom_no (s : ByteArray) (k : Nat) (h : k < s.size) (hc : isRun s[k] = false) : runFrom s k = 0 := by
  unfold runFrom runLen
  rw [drop_cons s k h, List.takeWhile_cons, if_neg (by rw [hc]; exact Bool.false_ne_true)]
  rfl
theorem runFrom_end (s : ByteArray) (k : Nat) (h : s.size ≤ k) : runFrom s k = 0 := by
  unfold runFrom runLen
  rw [List.drop_eq_nil_of_le (by simpa using h)]
  rfl
set_option maxHeartbeats 1000000 in
theorem runLength_lit {s : ByteArray} {r : Nat} (hr : runLen s.data.toList = r) (hs : s.size ≤ maxLen) (w : World) :
    Calls Tryz.prog 51 #[.string s] w fun e w' => e = .returned (.int .i64 r) ∧ w = w' := by
  unfold maxLen at hs
  have hr0 : runFrom s 0 = r := hr
  have HR := Lib.hid hr0
  clear hr hr0
  go_enter Tryz.func51, Tryz.ntmps51
  go_wp2
  go_loop [3] (fun i => ∃ k : Nat, k ≤ s.size ∧ i = .int .i64 k ∧ Hid (k + runFrom s k = r)) (fun i => s.size - (intOf i).toNat)
  case atStart => exact ⟨0, Nat.zero_le _, rfl, by rw [← HR.out]; exact Nat.zero_add _⟩
  case round =>
    obtain ⟨k, hk, rfl, HA⟩ := hrel
    by_cases hlt : k < s.size
    · cases hl : isLet s[k] with
      | true =>
        have hy := runFrom_yes s k hlt (by unfold isRun; rw [hl]; rfl)
        have HY := Lib.hid hy
        have HL := Lib.hid hl
        clear hy hl
        go_wp2_with (go_at_call 86; ((with_reducible refine (isLet_lit HL.out _).mono ?_); rintro e w' ⟨rfl, rfl⟩))
        go_round
        case rel => exact ⟨k + 1, by omega, by go_num, by have h1 := HA.out; have h2 := HY.out; exact Lib.hid (by omega)⟩
        case measure => simp [intOf]; omega
      | false =>
        cases hd : isDig s[k] with
        | true =>
          have hy := runFrom_yes s k hlt (by unfold isRun; rw [hd, Bool.or_true])
          have HY := Lib.hid hy
          have HL := Lib.hid hl
          have HD := Lib.hid hd
          clear hy hl hd
          go_wp2_with (first | (go_at_call 86; ((with_reducible refine (isLet_lit HL.out _).mono ?_); rintro e w' ⟨rfl, rfl⟩)) | (go_at_call 87; ((with_reducible refine (isDig_lit HD.out _).mono ?_); rintro e w' ⟨rfl, rfl⟩)))
          go_round
          case rel => exact ⟨k + 1, by omega, by go_num, by have h1 := HA.out; have h2 := HY.out; exact Lib.hid (by omega)⟩
          case measure => simp [intOf]; omega
        | false =>
          have hy := runFrom_no s k hlt (by unfold isRun; rw [hd, hl]; rfl)
          have HY := Lib.hid hy
          have HL := Lib.hid hl
          have HD := Lib.hid hd
          clear hy hl hd
          go_wp2_with (first | (go_at_call 86; ((with_reducible refine (isLet_lit HL.out _).mono ?_); rintro e w' ⟨rfl, rfl⟩)) | (go_at_call 87; ((with_reducible refine (isDig_lit HD.out _).mono ?_); rintro e w' ⟨rfl, rfl⟩)))
          go_ret
          exact ⟨ri (by have h1 := HA.out; have h2 := HY.out; omega), rfl⟩
    · have hy := runFrom_end s k (by omega)
      have HY := Lib.hid hy
      clear hy
      go_wp2
      go_ret
      exact ⟨ri (by have h1 := HA.out; have h2 := HY.out; omega), rfl⟩
/-- which of the words a text is -/
theorem word_cases (s : ByteArray) (P : Prop) (h : ∀ b, isWord s.data.toList = b → P) : P := h _ rfl
theorem eqs_lit (s : ByteArray) (l : Bs) : (s.toList == l) = (l == s.data.toList) := by
  rw [ByteArray.toList_eq, Bool.eq_iff_iff, beq_iff_eq, beq_iff_eq]
  exact eq_comm
set_option maxHeartbeats 4000000 in
theorem word_any (s : ByteArray) (w : World) :
    Calls Tryz.prog 90 #[.string s] w fun e w' => e = .returned (.bool (isWord s.data.toList)) ∧ w = w' := by
  have e : isWord s.data.toList = (s.toList == [104, 97, 114, 116, 115] || (s.toList == [100, 101, 118, 105, 99, 101] || (s.toList == [117, 97, 114, 116] || (s.toList == [116, 105, 109, 101, 114] || (s.toList == [103, 112, 105, 111] || (s.toList == [114, 101, 115, 111, 117, 114, 99, 101] || (s.toList == [116, 97, 115, 107] || (s.toList == [104, 97, 110, 100, 108, 101, 114] || (s.toList == [108, 111, 99, 107] || (s.toList == [105, 102] || (s.toList == [101, 108, 115, 101] || (s.toList == [114, 101, 112, 101, 97, 116] || s.toList == [104, 97, 108, 116])))))))))))) := by
    simp only [eqs_lit]
    simp only [isWord, words, List.any_cons, List.any_nil, Bool.or_false]
  rw [e]
  clear e
  go_enter Tryz.func90, Tryz.ntmps90
  go_wp2
  all_goals go_ret
  all_goals first | (exfalso; simp_all; done) | (refine ⟨rb ?_, rfl⟩; simp [*])
theorem word_lit {s : ByteArray} {b : Bool} (h : isWord s.data.toList = b) (w : World) : Calls Tryz.prog 90 #[.string s] w fun e w' => e = .returned (.bool b) ∧ w = w' := by
  subst h
  exact word_any s w
end
section
open Go.RowKit Tk
set_option linter.unusedVariables false
theorem runLen_le (s : Bs) : runLen s ≤ s.length := (List.takeWhile_prefix _).length_le
theorem takeWhile_yes {p : UInt8 → Bool} {s : Bs} {c : UInt8} (h : c ∈ s.takeWhile p) : p c = true := by
  induction s with
  | nil => cases h
  | cons d t ih =>
    rw [List.takeWhile_cons] at h
    split at h
    · rcases List.mem_cons.1 h with rfl | h
      · assumption
      · exact ih h
    · cases h
theorem runLen_eq (s : Bs) : (runLen s = s.length) ↔ s.all isRun = true := by
  constructor
  · intro h
    rw [List.all_eq_true]
    have h1 : s.takeWhile isRun = s := (List.takeWhile_prefix _).eq_of_length h
    intro c hc
    rw [← h1] at hc
    exact takeWhile_yes hc
  · intro h
    exact runLen_all (List.all_eq_true.1 h)
theorem size_list (s : ByteArray) : s.data.toList.length = s.size := by simp
theorem headDig_get (s : ByteArray) (h : 0 < s.size) : headDig s.data.toList = isDig s[0] := by
  have := drop_cons s 0 h
  rw [List.drop_zero] at this
  rw [this]
  rfl
theorem isEmpty_no {s : ByteArray} (h : 0 < s.size) : s.toList.isEmpty = false := by
  rw [ByteArray.toList_eq]
  cases hs : s.data.toList with
  | nil => have := size_list s; rw [hs] at this; simp at this; omega
  | cons c t => rfl
theorem toList_no {s : ByteArray} (h : 0 < s.size) : ¬ s.toList = [] := by
  intro c
  have := isEmpty_no h
  rw [c] at this
  cases this
theorem empty_of_size {s : ByteArray} (h : s.size = 0) : s = ⟨#[]⟩ := by
  obtain ⟨x⟩ := s
  have : x.size = 0 := h
  rw [Array.size_eq_zero_iff] at this
  rw [this]
set_option maxHeartbeats 1000000 in
theorem name_any (s : ByteArray) (hs : s.size ≤ maxLen) (w : World) :
    Calls Tryz.prog 62 #[.string s] w fun e w' => e = .returned (.bool (isName s.data.toList)) ∧ w = w' := by
  by_cases h0 : s.size = 0
  · obtain rfl := empty_of_size h0
    clear h0 hs
    show Calls _ _ _ w fun e w' => e = .returned (.bool false) ∧ w = w'
    go_enter Tryz.func62, Tryz.ntmps62
    go_wp2
    go_ret
    exact ⟨rfl, rfl⟩
  have hp : 0 < s.size := by omega
  have e1 := isEmpty_no hp
  have e2 := toList_no hp
  by_cases h20 : 20 < s.size
  · have e : isName s.data.toList = false := by
      unfold isName
      rw [size_list, decide_eq_false (by omega)]
      rfl
    rw [e]
    clear e h0
    go_enter Tryz.func62, Tryz.ntmps62
    go_wp2
    go_ret
    exact ⟨rfl, rfl⟩
  have eN : isName s.data.toList = (!isDig s[0] && decide (runLen s.data.toList = s.size) && !isWord s.data.toList) := by
    unfold isName
    rw [size_list, decide_eq_true (show 1 ≤ s.size ∧ s.size ≤ 20 by omega), headDig_get s hp]
    have := runLen_eq s.data.toList
    rw [size_list] at this
    rw [show decide (runLen s.data.toList = s.size) = s.data.toList.all isRun by rw [Bool.eq_iff_iff, decide_eq_true_eq]; exact this]
    rfl
  rw [eN]
  clear eN h0
  cases hd : isDig s[0] with
  | true =>
    have HD := Lib.hid hd
    clear hd
    go_enter Tryz.func62, Tryz.ntmps62
    go_wp2_with (go_at_call 87; ((with_reducible refine (isDig_lit HD.out _).mono ?_); rintro e w' ⟨rfl, rfl⟩))
    go_ret
    exact ⟨rfl, rfl⟩
  | false =>
    have HD := Lib.hid hd
    clear hd
    obtain ⟨r, hr⟩ : ∃ r, runLen s.data.toList = r := ⟨_, rfl⟩
    obtain ⟨b, hb⟩ : ∃ b, isWord s.data.toList = b := ⟨_, rfl⟩
    rw [hr, hb]
    have HR := Lib.hid hr
    have HB := Lib.hid hb
    clear hr hb
    by_cases hrs : r = s.size
    · rw [decide_eq_true hrs]
      have hb1 : ((r : Int) == (s.size : Int)) = true := by simp [hrs]
      have HRS := Lib.hid hrs
      subst hrs
      go_enter Tryz.func62, Tryz.ntmps62
      go_wp2_with (first | (go_at_call 87; ((with_reducible refine (isDig_lit HD.out _).mono ?_); rintro e w' ⟨rfl, rfl⟩)) | (go_at_call 51; ((with_reducible refine (runLength_lit HR.out hs _).mono ?_); rintro e w' ⟨rfl, rfl⟩)) | (go_at_call 90; ((with_reducible refine (word_lit HB.out _).mono ?_); rintro e w' ⟨rfl, rfl⟩)))
      go_ret
      exact ⟨rb (by simp), rfl⟩
    · rw [decide_eq_false hrs]
      have hb1 : ((r : Int) == (s.size : Int)) = false := by simp; omega
      go_enter Tryz.func62, Tryz.ntmps62
      go_wp2_with (first | (go_at_call 87; ((with_reducible refine (isDig_lit HD.out _).mono ?_); rintro e w' ⟨rfl, rfl⟩)) | (go_at_call 51; ((with_reducible refine (runLength_lit HR.out hs _).mono ?_); rintro e w' ⟨rfl, rfl⟩)) | (go_at_call 90; ((with_reducible refine (word_lit HB.out _).mono ?_); rintro e w' ⟨rfl, rfl⟩)))
      go_ret
      exact ⟨rb (by simp), rfl⟩
theorem name_lit {s : ByteArray} {b : Bool} (h : isName s.data.toList = b) (hs : s.size ≤ maxLen) (w : World) :
    Calls Tryz.prog 62 #[.string s] w fun e w' => e = .returned (.bool b) ∧ w = w' := by
  subst h
  exact name_any s hs w
end
section
open Go.RowKit Tk
set_option linter.unusedVariables false
theorem ext_index (s : ByteArray) (c : Int) (w : World) : (callFunc 120 #[.string s, .int .u8 c]).run Tryz.prog w = .ok (.value (.int .i64 (Lib.indexByte s.data.toList c.toNat.toUInt8))) w := by
  rw [run_callFunc_extern Tryz.func120 (by kernel_rfl) (by kernel_rfl) (by kernel_rfl) (e := Extern.BytealgIndexByte.indexByte) (by kernel_rfl), Lib.run_indexByteString]
  rfl
theorem ext_count (s : ByteArray) (c : Int) (w : World) : (callFunc 84 #[.string s, .int .u8 c]).run Tryz.prog w = .ok (.value (.int .i64 (Lib.countByte s.data.toList c.toNat.toUInt8 : Nat))) w := by
  rw [run_callFunc_extern Tryz.func84 (by kernel_rfl) (by kernel_rfl) (by kernel_rfl) (e := Extern.BytealgCount.count) (by kernel_rfl), Lib.run_countString]
  rfl
theorem liteIndex_lit {s : ByteArray} {c r : Int} (h : Lib.indexByte s.data.toList c.toNat.toUInt8 = r) (w : World) : Calls Tryz.prog 109 #[.string s, .int .u8 c] w fun e w' => e = .returned (.int .i64 r) ∧ w = w' := by
  have hE := ext_index s c
  rw [h] at hE
  clear h
  go_enter Tryz.func109, Tryz.ntmps109
  go_wp2
  go_ret
  exact ⟨rfl, rfl⟩
theorem index_lit {s : ByteArray} {c r : Int} (h : Lib.indexByte s.data.toList c.toNat.toUInt8 = r) (w : World) : Calls Tryz.prog 82 #[.string s, .int .u8 c] w fun e w' => e = .returned (.int .i64 r) ∧ w = w' := by
  have HE := Lib.hid h
  clear h
  go_enter Tryz.func82, Tryz.ntmps82
  go_wp2_with (go_at_call 109; ((with_reducible refine (liteIndex_lit HE.out _).mono ?_); rintro e w' ⟨rfl, rfl⟩))
  go_ret
  exact ⟨rfl, rfl⟩
set_option maxHeartbeats 1000000 in
theorem count_lit {s : ByteArray} {r : Nat} (h : Lib.countByte s.data.toList 10 = r) (w : World) : Calls Tryz.prog 50 #[.string s, .string ⟨#[10]⟩] w fun e w' => e = .returned (.int .i64 r) ∧ w = w' := by
  have hE : ∀ (q : 0 < (⟨#[10]⟩ : ByteArray).size) (w : World), (callFunc 84 #[.string s, .int .u8 (((⟨#[10]⟩ : ByteArray)[0]'q).toNat : Int)]).run Tryz.prog w = .ok (.value (.int .i64 r)) w := fun q w => by
    rw [ext_count]
    show Result.ok (Next.value (.int .i64 (Lib.countByte s.data.toList 10 : Nat))) w = _
    rw [h]
  clear h
  go_enter Tryz.func50, Tryz.ntmps50
  go_wp2
  go_ret
  exact ⟨rfl, rfl⟩
set_option maxHeartbeats 1000000 in
theorem hasPrefix_any (s p : ByteArray) (w : World) : Calls Tryz.prog 113 #[.string s, .string p] w fun e w' => e = .returned (.bool (p.data.toList.isPrefixOf s.data.toList)) ∧ w = w' := by
  have hr := Lib.hasPrefix_raw s p
  unfold Lib.hasPrefix at hr
  rw [← hr]
  clear hr
  by_cases h1 : p.size ≤ s.size
  · rw [decide_eq_true h1, Bool.true_and]
    cases ht : ((s.extract 0 p.size).toList == p.toList) with
    | true =>
      go_enter Tryz.func113, Tryz.ntmps113
      go_wp2
      go_ret
      exact ⟨rfl, rfl⟩
    | false =>
      go_enter Tryz.func113, Tryz.ntmps113
      go_wp2
      go_ret
      exact ⟨rfl, rfl⟩
  · rw [decide_eq_false h1, Bool.false_and]
    go_enter Tryz.func113, Tryz.ntmps113
    go_wp2
    go_ret
    exact ⟨rfl, rfl⟩
theorem hasPrefix_lit {s p : ByteArray} {b : Bool} (h : p.data.toList.isPrefixOf s.data.toList = b) (w : World) : Calls Tryz.prog 113 #[.string s, .string p] w fun e w' => e = .returned (.bool b) ∧ w = w' := by
  subst h
  exact hasPrefix_any s p w
/-- what is behind a text's head -/
def cutV (s p : ByteArray) : ByteArray := if p.data.toList.isPrefixOf s.data.toList then str (s.data.toList.drop p.size) else s
theorem extract_str (s : ByteArray) (a b : Nat) : s.extract a b = str ((s.data.toList.drop a).take (b - a)) := Lib.extract_eq s a b
theorem extract_end (s : ByteArray) (a : Nat) : s.extract a s.size = str (s.data.toList.drop a) := by
  rw [extract_str, List.take_of_length_le]
  rw [List.length_drop, size_list]
  exact Nat.le_refl _
theorem extract_head (s : ByteArray) (b : Nat) : s.extract 0 b = str (s.data.toList.take b) := by
  rw [extract_str, List.drop_zero, Nat.sub_zero]
set_option maxHeartbeats 1000000 in
theorem liteCut_lit {s p t : ByteArray} {b : Bool} (h : p.data.toList.isPrefixOf s.data.toList = b) (ht : cutV s p = t) (w : World) : Calls Tryz.prog 91 #[.string s, .string p] w fun e w' => e = .returned (.tuple #[.string t, .bool b]) ∧ w = w' := by
  have HB := Lib.hid h
  unfold cutV at ht
  cases b with
  | true =>
    rw [if_pos h] at ht
    have hle : p.size ≤ s.size := by
      have := (List.isPrefixOf_iff_prefix.1 h).length_le
      rw [size_list, size_list] at this
      exact this
    rw [← extract_end] at ht
    have HT := Lib.hid ht
    clear h ht
    go_enter Tryz.func91, Tryz.ntmps91
    go_wp2_with (go_at_call 113; ((with_reducible refine (hasPrefix_lit HB.out _).mono ?_); rintro e w' ⟨rfl, rfl⟩))
    go_ret2
    exact ⟨by rw [← HT.out]; rfl, rfl⟩
  | false =>
    rw [if_neg (by rw [h]; exact Bool.false_ne_true)] at ht
    subst ht
    clear h
    go_enter Tryz.func91, Tryz.ntmps91
    go_wp2_with (go_at_call 113; ((with_reducible refine (hasPrefix_lit HB.out _).mono ?_); rintro e w' ⟨rfl, rfl⟩))
    go_ret2
    exact ⟨rfl, rfl⟩
theorem cut_lit {s p t : ByteArray} {b : Bool} (h : p.data.toList.isPrefixOf s.data.toList = b) (ht : cutV s p = t) (w : World) : Calls Tryz.prog 53 #[.string s, .string p] w fun e w' => e = .returned (.tuple #[.string t, .bool b]) ∧ w = w' := by
  have HB := Lib.hid h
  have HT := Lib.hid ht
  clear h ht
  go_enter Tryz.func53, Tryz.ntmps53
  go_wp2_with (go_at_call 91; ((with_reducible refine (liteCut_lit HB.out HT.out _).mono ?_); rintro e w' ⟨rfl, rfl⟩))
  go_ret2
  exact ⟨rfl, rfl⟩
end
section
open Go.RowKit Tk
set_option linter.unusedVariables false
def hexs : Bs := [48, 49, 50, 51, 52, 53, 54, 55, 56, 57, 97, 98, 99, 100, 101, 102]
theorem idx_all : ∀ n : Fin 256, Lib.indexByte hexs (UInt8.ofNat n.val) = if digit (UInt8.ofNat n.val) < 16 then (digit (UInt8.ofNat n.val) : Int) else -1 := by decide +kernel
theorem idx_digit (c : UInt8) : Lib.indexByte hexs c = if digit c < 16 then (digit c : Int) else -1 := by
  have := idx_all ⟨c.toNat, c.toNat_lt⟩
  simpa using this
theorem idx_lit {c : UInt8} {d : Int} (h : (if digit c < 16 then (digit c : Int) else -1) = d) (w : World) :
    Calls Tryz.prog 82 #[.string ⟨#[48, 49, 50, 51, 52, 53, 54, 55, 56, 57, 97, 98, 99, 100, 101, 102]⟩, .int .u8 (c.toNat : Int)] w fun e w' => e = .returned (.int .i64 d) ∧ w = w' := by
  refine index_lit ?_ w
  rw [← h, ← idx_digit]
  congr 1
  simp
def valFrom (base : Nat) (s : ByteArray) (k m : Nat) : Option Nat := val base (s.data.toList.drop k) m
theorem valFrom_yes {base : Nat} (s : ByteArray) (k m : Nat) (h : k < s.size) (hd : digit s[k] < base) : valFrom base s k m = valFrom base s (k + 1) (m * base + digit s[k]) := by
  unfold valFrom
  rw [drop_cons s k h, val, if_pos hd]
theorem valFrom_no {base : Nat} (s : ByteArray) (k m : Nat) (h : k < s.size) (hd : ¬ digit s[k] < base) : valFrom base s k m = none := by
  unfold valFrom
  rw [drop_cons s k h, val, if_neg hd]
theorem valFrom_end {base : Nat} (s : ByteArray) (k m : Nat) (h : s.size ≤ k) : valFrom base s k m = some m := by
  unfold valFrom
  rw [List.drop_eq_nil_of_le (by simpa using h)]
  rfl
def optV (o : Option Nat) : Value := .tuple #[.int .i64 ((o.getD 0 : Nat) : Int), .bool o.isSome]
theorem rt {o p : Option Nat} (h : p = o) : Ending.returned (optV p) = .returned (optV o) := by rw [h]
theorem pow_bd {k : Nat} (h : k ≤ 10) : 16 ^ k ≤ 1099511627776 := Nat.le_trans (Nat.pow_le_pow_right (by omega) h) (by decide)
theorem pow_step {base m d k : Nat} (hb : base ≤ 16) (hm : m < 16 ^ k) (hd : d < base) : m * base + d < 16 ^ (k + 1) := by
  rw [Nat.pow_succ]
  have h1 : (m + 1) * base ≤ 16 ^ k * 16 := Nat.mul_le_mul hm hb
  rw [Nat.add_mul, Nat.one_mul] at h1
  omega
set_option maxHeartbeats 2000000 in
theorem value_lit {s : ByteArray} {base most : Nat} {o : Option Nat} (h : valueV s.data.toList base most = o) (hb : 1 ≤ base) (hb2 : base ≤ 16) (hm : most ≤ 10) (hs : s.size ≤ maxLen) (w : World) :
    Calls Tryz.prog 112 #[.string s, .int .i64 base, .int .i64 most] w fun e w' => e = .returned (optV o) ∧ w = w' := by
  unfold maxLen at hs
  by_cases h0 : s.size = 0
  · have e : o = none := by
      rw [← h]
      unfold valueV
      rw [size_list, if_pos (Or.inl h0)]
    obtain rfl := empty_of_size h0
    subst e
    clear h h0
    go_enter Tryz.func112, Tryz.ntmps112
    go_wp2
    go_ret2
    exact ⟨rfl, rfl⟩
  have hp : 0 < s.size := by omega
  have e1 := isEmpty_no hp
  have e2 := toList_no hp
  by_cases hml : most < s.size
  · have e : o = none := by
      rw [← h]
      unfold valueV
      rw [size_list, if_pos (Or.inr hml)]
    subst e
    clear h h0
    go_enter Tryz.func112, Tryz.ntmps112
    go_wp2
    go_ret2
    exact ⟨rfl, rfl⟩
  have hval : (match valFrom base s 0 0 with
      | some n => if n ≤ 4294967295 then some n else none
      | none => none) = o := by
    rw [← h]
    unfold valueV
    rw [size_list, if_neg (by omega)]
    rfl
  have HV := Lib.hid hval
  clear h h0 hval
  go_enter Tryz.func112, Tryz.ntmps112
  go_wp2
  go_loop [8, 21] (fun n i => ∃ k m : Nat, k ≤ s.size ∧ n = .int .i64 m ∧ i = .int .i64 k ∧ Hid (valFrom base s k m = valFrom base s 0 0) ∧ Hid (m < 16 ^ k)) (fun _ i => s.size - (intOf i).toNat)
  case atStart => exact ⟨0, 0, Nat.zero_le _, rfl, rfl, rfl, Lib.hid (by decide)⟩
  case round =>
    obtain ⟨k, m, hk, rfl, rfl, HA, HM⟩ := hrel
    have hp16 := pow_bd (k := k) (by omega)
    have hmb : m < 1099511627776 := by have := HM.out; omega
    clear hp16
    by_cases hlt : k < s.size
    · by_cases hdb : digit s[k] < base
      · have hy := valFrom_yes s k m hlt hdb
        have hst := pow_step hb2 HM.out hdb
        have hst2 : (m * base + digit s[k] : Nat) < 1099511627776 := by
          have := pow_bd (k := k + 1) (by omega)
          omega
        have hmul : ((m * base : Nat) : Int) = (m : Int) * base := by simp
        have hd : (if digit s[k] < 16 then (digit s[k] : Int) else -1) = (digit s[k] : Int) := if_pos (by omega)
        obtain ⟨q, hq⟩ : ∃ q, digit s[k] = q := ⟨_, rfl⟩
        rw [hq] at hy hst hst2 hdb
        have HD : Hid ((if digit s[k] < 16 then (digit s[k] : Int) else -1) = (q : Int)) := Lib.hid (hd.trans (by rw [hq]))
        clear hd hq
        have ht : decide ((base : Int) ≤ (q : Int)) = false := decide_eq_false (by omega)
        have ht2 : decide (base ≤ q) = false := decide_eq_false (by omega)
        have HY := Lib.hid hy
        have HST := Lib.hid hst
        have HQ := Lib.hid hst2
        have hw1 : (m : Int) * base ≤ 1099511627776 := by rw [← hmul]; omega
        have hw0 : 0 ≤ (m : Int) * base := by rw [← hmul]; omega
        have hw2 : (m : Int) * base + q ≤ 1099511627776 := by rw [← hmul]; omega
        have HMUL := Lib.hid hmul
        clear hy hst hst2 hmul
        go_wp2_with (go_at_call 82; ((with_reducible refine (idx_lit HD.out _).mono ?_); rintro e w' ⟨rfl, rfl⟩))
        go_round
        case rel => exact ⟨k + 1, m * base + q, by omega, by go_num, by go_num, Lib.hid (by rw [← HA.out, HY.out]), HST⟩
        case measure => simp [intOf]; omega
      · have hn := valFrom_no s k m hlt hdb
        have e : o = none := by
          have := HV.out
          rw [← HA.out, hn] at this
          exact this.symm
        subst e
        obtain ⟨d, hd⟩ : ∃ d : Int, (if digit s[k] < 16 then (digit s[k] : Int) else -1) = d := ⟨_, rfl⟩
        have HD := Lib.hid hd
        by_cases h16 : digit s[k] < 16
        · rw [if_pos h16] at hd
          have hd0 : ¬ d < 0 := by omega
          have hd1 : (base : Int) ≤ d := by omega
          clear hd hn hdb h16
          go_wp2_with (go_at_call 82; ((with_reducible refine (idx_lit HD.out _).mono ?_); rintro e w' ⟨rfl, rfl⟩))
          go_ret2
          exact ⟨rfl, rfl⟩
        · rw [if_neg h16] at hd
          have hd0 : d < 0 := by omega
          clear hd hn hdb h16
          go_wp2_with (go_at_call 82; ((with_reducible refine (idx_lit HD.out _).mono ?_); rintro e w' ⟨rfl, rfl⟩))
          go_ret2
          exact ⟨rfl, rfl⟩
    · have hn := valFrom_end (base := base) s k m (by omega)
      have hv := HV.out
      rw [← HA.out, hn] at hv
      by_cases hbig : m ≤ 4294967295
      · have e : o = some m := by rw [← hv]; exact if_pos hbig
        subst e
        clear hv hn
        go_wp2
        go_ret2
        exact ⟨rfl, rfl⟩
      · have e : o = none := by rw [← hv]; exact if_neg hbig
        subst e
        clear hv hn
        go_wp2
        go_ret2
        exact ⟨rfl, rfl⟩
end
section
open Go.RowKit Tk
set_option linter.unusedVariables false
def numIs (s : Bs) (n : Nat) (b : Bool) : Prop := (number s).getD 0 = n ∧ (number s).isSome = b
theorem value_two {s : ByteArray} {base most n : Nat} {b : Bool} (h : (valueV s.data.toList base most).getD 0 = n ∧ (valueV s.data.toList base most).isSome = b) (hb : 1 ≤ base) (hb2 : base ≤ 16) (hm : most ≤ 10) (hs : s.size ≤ maxLen) (w : World) :
    Calls Tryz.prog 112 #[.string s, .int .i64 base, .int .i64 most] w fun e w' => e = .returned (.tuple #[.int .i64 n, .bool b]) ∧ w = w' := by
  obtain ⟨h1, h2⟩ := h
  subst h1
  subst h2
  exact value_lit rfl hb hb2 hm hs w
theorem value_16 {s : ByteArray} {n : Nat} {b : Bool} (h : (valueV s.data.toList 16 8).getD 0 = n ∧ (valueV s.data.toList 16 8).isSome = b) (hs : s.size ≤ maxLen) (w : World) :
    Calls Tryz.prog 112 #[.string s, .int .i64 16, .int .i64 8] w fun e w' => e = .returned (.tuple #[.int .i64 n, .bool b]) ∧ w = w' :=
  value_two (base := 16) (most := 8) h (by omega) (by omega) (by omega) hs w
theorem value_10 {s : ByteArray} {n : Nat} {b : Bool} (h : (valueV s.data.toList 10 10).getD 0 = n ∧ (valueV s.data.toList 10 10).isSome = b) (hs : s.size ≤ maxLen) (w : World) :
    Calls Tryz.prog 112 #[.string s, .int .i64 10, .int .i64 10] w fun e w' => e = .returned (.tuple #[.int .i64 n, .bool b]) ∧ w = w' :=
  value_two (base := 10) (most := 10) h (by omega) (by omega) (by omega) hs w
theorem head_get (s : ByteArray) (h : 0 < s.size) : s.data.toList.head? = some s[0] := by
  have := drop_cons s 0 h
  rw [List.drop_zero] at this
  rw [this]
  rfl
set_option maxHeartbeats 2000000 in
theorem number_lit {s : ByteArray} {n : Nat} {b : Bool} (h : numIs s.data.toList n b) (hs : s.size ≤ maxLen) (w : World) :
    Calls Tryz.prog 89 #[.string s] w fun e w' => e = .returned (.tuple #[.int .i64 n, .bool b]) ∧ w = w' := by
  unfold numIs number at h
  cases hp : ([48, 120] : Bs).isPrefixOf s.data.toList with
  | true =>
    simp only [hp, if_true] at h
    obtain ⟨t, ht⟩ : ∃ t, cutV s ⟨#[48, 120]⟩ = t := ⟨_, rfl⟩
    have hts : t.data.toList = s.data.toList.drop 2 ∧ t.size ≤ maxLen := by
      rw [← ht]
      unfold cutV
      rw [if_pos hp]
      refine ⟨rfl, ?_⟩
      rw [str_size, List.length_drop, size_list]
      omega
    rw [← hts.1] at h
    have H := Lib.hid h
    have HP := Lib.hid hp
    have HT := Lib.hid ht
    have HTS := Lib.hid hts.2
    clear h hp ht hts
    go_enter Tryz.func89, Tryz.ntmps89
    go_wp2_with (first | (go_at_call 53; ((with_reducible refine (cut_lit (p := ⟨#[48, 120]⟩) HP.out HT.out _).mono ?_); rintro e w' ⟨rfl, rfl⟩)) | (go_at_call 112; ((with_reducible refine (value_16 H.out HTS.out _).mono ?_); rintro e w' ⟨rfl, rfl⟩)))
    go_ret2
    exact ⟨rfl, rfl⟩
  | false =>
    simp only [hp, Bool.false_eq_true, if_false] at h
    have ht : cutV s ⟨#[48, 120]⟩ = s := by
      unfold cutV
      rw [if_neg (by show ¬ ([48, 120] : Bs).isPrefixOf s.data.toList = true; rw [hp]; exact Bool.false_ne_true)]
    have HP := Lib.hid hp
    have HT := Lib.hid ht
    clear hp ht
    by_cases h1 : 1 < s.size
    · have hp0 : 0 < s.size := by omega
      rw [size_list, head_get s hp0] at h
      by_cases h48 : s[0].toNat = 48
      · have e48 : s[0] = 48 := UInt8.toNat_inj.1 h48
        rw [if_pos ⟨h1, by rw [e48]⟩] at h
        obtain ⟨rfl, rfl⟩ : 0 = n ∧ false = b := h
        have hb : ((s[0].toNat : Int) == 48) = true := by simp [h48]
        clear e48 h48
        go_enter Tryz.func89, Tryz.ntmps89
        go_wp2_with (first | (go_at_call 53; ((with_reducible refine (cut_lit (p := ⟨#[48, 120]⟩) HP.out HT.out _).mono ?_); rintro e w' ⟨rfl, rfl⟩)))
        go_ret2
        exact ⟨rfl, rfl⟩
      · rw [if_neg (fun c => h48 (by have := c.2; simp only [Option.some.injEq] at this; rw [this]; rfl))] at h
        have hb : ((s[0].toNat : Int) == 48) = false := by simp; omega
        have H := Lib.hid h
        clear h h48
        go_enter Tryz.func89, Tryz.ntmps89
        go_wp2_with (first | (go_at_call 53; ((with_reducible refine (cut_lit (p := ⟨#[48, 120]⟩) HP.out HT.out _).mono ?_); rintro e w' ⟨rfl, rfl⟩)) | (go_at_call 112; ((with_reducible refine (value_10 H.out hs _).mono ?_); rintro e w' ⟨rfl, rfl⟩)))
        go_ret2
        exact ⟨rfl, rfl⟩
    · rw [size_list, if_neg (fun c => h1 c.1)] at h
      have H := Lib.hid h
      clear h
      go_enter Tryz.func89, Tryz.ntmps89
      go_wp2_with (first | (go_at_call 53; ((with_reducible refine (cut_lit (p := ⟨#[48, 120]⟩) HP.out HT.out _).mono ?_); rintro e w' ⟨rfl, rfl⟩)) | (go_at_call 112; ((with_reducible refine (value_10 H.out hs _).mono ?_); rintro e w' ⟨rfl, rfl⟩)))
      go_ret2
      exact ⟨rfl, rfl⟩
def upTo10 (l : Bs) : Nat := (l.takeWhile fun x => decide (x.toNat ≠ 10)).length
theorem upTo10_cons (c : UInt8) (l : Bs) : upTo10 (c :: l) = if c.toNat = 10 then 0 else upTo10 l + 1 := by
  unfold upTo10
  rw [List.takeWhile_cons]
  by_cases h : c.toNat = 10
  · rw [if_neg (by simp [h]), if_pos h]
    rfl
  · rw [if_pos (by simp [h]), if_neg h]
    rfl
theorem idx_feed (l : Bs) : Lib.indexByte l 10 = if upTo10 l < l.length then (upTo10 l : Int) else -1 := by
  induction l with
  | nil => rfl
  | cons c l ih =>
    unfold Lib.indexByte
    rw [ih, upTo10_cons, List.length_cons]
    by_cases h : c.toNat = 10
    · have hc : c = 10 := UInt8.toNat_inj.1 h
      subst hc
      rw [if_pos (by rfl), if_pos h, if_pos (by omega)]
      rfl
    · have hc : ¬ (c == 10) = true := by
        rw [beq_iff_eq]
        rintro rfl
        exact h rfl
      rw [if_neg hc, if_neg h]
      by_cases hl : upTo10 l < l.length
      · have e1 : (if upTo10 l < l.length then (upTo10 l : Int) else -1) = upTo10 l := if_pos hl
        have e2 : (if upTo10 l + 1 < l.length + 1 then ((upTo10 l + 1 : Nat) : Int) else -1) = ((upTo10 l + 1 : Nat) : Int) := if_pos (by omega)
        have e3 : ((upTo10 l : Int) == -1) = false := by rw [beq_eq_false_iff_ne]; omega
        rw [e1, e2, e3]
        simp
      · have e1 : (if upTo10 l < l.length then (upTo10 l : Int) else -1) = -1 := if_neg hl
        have e2 : (if upTo10 l + 1 < l.length + 1 then ((upTo10 l + 1 : Nat) : Int) else -1) = -1 := if_neg (by omega)
        rw [e1, e2]
        rfl
theorem upTo10_le (l : Bs) : upTo10 l ≤ l.length := (List.takeWhile_prefix _).length_le
theorem gap_note {c : UInt8} (l : Bs) (h : c.toNat = 35) : gap (c :: l) = upTo10 (c :: l) := by
  rw [upTo10_cons, if_neg (by omega)]
  show (if c.toNat = 32 ∨ c.toNat = 9 ∨ c.toNat = 10 then 1 else if c.toNat = 35 then 1 + upTo10 l else 0) = _
  rw [if_neg (by omega), if_pos h]
  omega
theorem gap_le (s : Bs) : gap s ≤ s.length := by
  cases s with
  | nil => exact Nat.le_refl _
  | cons c l =>
    show (if c.toNat = 32 ∨ c.toNat = 9 ∨ c.toNat = 10 then 1 else if c.toNat = 35 then 1 + upTo10 l else 0) ≤ l.length + 1
    have := upTo10_le l
    split
    · omega
    · split <;> omega
theorem cons_of (s : ByteArray) (h : 0 < s.size) : s.data.toList = s[0] :: s.data.toList.drop 1 := by
  have := drop_cons s 0 h
  rwa [List.drop_zero] at this
set_option maxHeartbeats 2000000 in
theorem gap_lit {s : ByteArray} {r : Nat} (h : gap s.data.toList = r) (hp : 0 < s.size) (hs : s.size ≤ maxLen) (w : World) :
    Calls Tryz.prog 49 #[.string s] w fun e w' => e = .returned (.int .i64 r) ∧ w = w' := by
  unfold maxLen at hs
  have hc := cons_of s hp
  by_cases h1 : s[0].toNat = 32 ∨ s[0].toNat = 9 ∨ s[0].toNat = 10
  · have e : r = 1 := by
      rw [← h, hc]
      exact if_pos h1
    subst e
    clear h hc
    rcases h1 with h1 | h1 | h1
    · have b32 : ((s[0].toNat : Int) == 32) = true := by simp [h1]
      have b9 : ((s[0].toNat : Int) == 9) = false := by simp [h1]
      have b10 : ((s[0].toNat : Int) == 10) = false := by simp [h1]
      clear h1
      go_enter Tryz.func49, Tryz.ntmps49
      go_wp2
      go_ret
      exact ⟨rfl, rfl⟩
    · have b32 : ((s[0].toNat : Int) == 32) = false := by simp [h1]
      have b9 : ((s[0].toNat : Int) == 9) = true := by simp [h1]
      have b10 : ((s[0].toNat : Int) == 10) = false := by simp [h1]
      clear h1
      go_enter Tryz.func49, Tryz.ntmps49
      go_wp2
      go_ret
      exact ⟨rfl, rfl⟩
    · have b32 : ((s[0].toNat : Int) == 32) = false := by simp [h1]
      have b9 : ((s[0].toNat : Int) == 9) = false := by simp [h1]
      have b10 : ((s[0].toNat : Int) == 10) = true := by simp [h1]
      clear h1
      go_enter Tryz.func49, Tryz.ntmps49
      go_wp2
      go_ret
      exact ⟨rfl, rfl⟩
  have b32 : ((s[0].toNat : Int) == 32) = false := by simp; omega
  have b9 : ((s[0].toNat : Int) == 9) = false := by simp; omega
  have b10 : ((s[0].toNat : Int) == 10) = false := by simp; omega
  by_cases h2 : s[0].toNat = 35
  · have b35 : ((s[0].toNat : Int) == 35) = true := by simp [h2]
    have hg : r = upTo10 s.data.toList := by
      rw [← h, hc]
      exact gap_note _ h2
    have hi := idx_feed s.data.toList
    rw [size_list, ← hg] at hi
    have hr : r ≤ s.size := by rw [hg, ← size_list]; exact upTo10_le _
    have hr1 : 1 ≤ r := by
      rw [hg, hc, upTo10_cons, if_neg (by omega)]
      omega
    by_cases hlt : r < s.size
    · rw [if_pos hlt] at hi
      have HI := Lib.hid hi
      clear h hc h1 h2 hg hi
      go_enter Tryz.func49, Tryz.ntmps49
      go_wp2_with (go_at_call 82; ((with_reducible refine (index_lit (c := 10) HI.out _).mono ?_); rintro e w' ⟨rfl, rfl⟩))
      go_ret
      exact ⟨rfl, rfl⟩
    · rw [if_neg hlt] at hi
      have HI := Lib.hid hi
      have hrs : r = s.size := by omega
      subst hrs
      clear h hc h1 h2 hg hi
      go_enter Tryz.func49, Tryz.ntmps49
      go_wp2_with (go_at_call 82; ((with_reducible refine (index_lit (c := 10) HI.out _).mono ?_); rintro e w' ⟨rfl, rfl⟩))
      go_ret
      exact ⟨rfl, rfl⟩
  · have b35 : ((s[0].toNat : Int) == 35) = false := by simp; omega
    have e : r = 0 := by
      rw [← h, hc]
      show (if s[0].toNat = 32 ∨ s[0].toNat = 9 ∨ s[0].toNat = 10 then 1 else if s[0].toNat = 35 then 1 + upTo10 (s.data.toList.drop 1) else 0) = 0
      rw [if_neg h1, if_neg h2]
    subst e
    clear h hc h1 h2
    go_enter Tryz.func49, Tryz.ntmps49
    go_wp2
    go_ret
    exact ⟨rfl, rfl⟩
theorem count_feeds (l : Bs) : Lib.countByte l 10 = feeds l := by
  unfold Lib.countByte feeds
  induction l with
  | nil => rfl
  | cons c l ih =>
    rw [List.count_cons, List.filter_cons, ih]
    by_cases h : c.toNat = 10
    · have hc : c = 10 := UInt8.toNat_inj.1 h
      subst hc
      rfl
    · have hc : (c == 10) = false := by
        rw [beq_eq_false_iff_ne]
        rintro rfl
        exact h rfl
      have e : (if decide (c.toNat = 10) = true then c :: l.filter (fun x => decide (x.toNat = 10)) else l.filter (fun x => decide (x.toNat = 10))) = l.filter (fun x => decide (x.toNat = 10)) := if_neg (by simpa using h)
      rw [hc, e]
      rfl
end
section
open Go.Shelf Go.RowKit Tk
def cloneRen : Go.Shelf.Ren := ⟨fun | 316 => 111 | n => n, fun | 9 => 9 | 3 => 3 | 4 => 4 | 37 => 70 | 0 => 0 | 127 => 110 | 5 => 5 | n => n, fun | n => n⟩
theorem cloneLaid : Go.Proofs.LaysM.n316 Tryz.prog cloneRen := {
  mixed := by kernel_rfl
  f316 := Tryz.func111.trans (congrArg some (by kernel_rfl))
  t0 := Tryz.underlying0
  a0 := Tryz.isAgg0
  z0 := Tryz.sizeOf0
  v0 := Tryz.zeroValue0
  t3 := Tryz.underlying3
  a3 := Tryz.isAgg3
  z3 := Tryz.sizeOf3
  v3 := Tryz.zeroValue3
  t4 := Tryz.underlying4
  a4 := Tryz.isAgg4
  z4 := Tryz.sizeOf4
  v4 := Tryz.zeroValue4
  t9 := Tryz.underlying9
  a9 := Tryz.isAgg9
  z9 := Tryz.sizeOf9
  v9 := Tryz.zeroValue9
  t37 := Tryz.underlying70
  a37 := Tryz.isAgg70
  z37 := Tryz.sizeOf70
  v37 := Tryz.zeroValue70
  t127 := Tryz.underlying110
  a127 := Tryz.isAgg110
  z127 := Tryz.sizeOf110
  v127 := Tryz.zeroValue110
  t5 := Tryz.underlying5
  a5 := Tryz.isAgg5
  z5 := Tryz.sizeOf5
  v5 := Tryz.zeroValue5
  i0 := by kernel_rfl
  i3 := by kernel_rfl
  i4 := by kernel_rfl
  i5 := by kernel_rfl
  i9 := by kernel_rfl
  i37 := by kernel_rfl
  i127 := by kernel_rfl }
theorem liteClone (s : ByteArray) (w : World) (hlim : s.size ≤ 281474976710656) :
    Calls Tryz.prog 111 #[.string s] w fun e w' => e = .returned (.string s) ∧ Bel w w' := Any.stringslite_Clone cloneLaid s w hlim
theorem clone_any (s : ByteArray) (w : World) (hlim : s.size ≤ 281474976710656) :
    Calls Tryz.prog 88 #[.string s] w fun e w' => e = .returned (.string s) ∧ Bel w w' := by
  go_enter Tryz.func88, Tryz.ntmps88
  go_wp2_with (go_at_call 111; ((with_reducible refine (liteClone _ _ hlim).mono ?_); rintro e W1 ⟨rfl, hb1⟩; have HB := Lib.hid hb1; clear hb1))
  go_ret
  exact ⟨rfl, HB.out⟩
end
section
open Go.RowKit Tk
set_option linter.unusedVariables false
theorem cell_of_heap {w : World} {g : Nat} {cs : Array Value} {t : TypeId} {fr : Nat × Nat} (h : w.heap[g]? = some (.cells cs t fr)) (o : Nat) : w.cell? ⟨g, o, none⟩ = cs[o]? := by
  unfold World.cell?
  simp [h]
theorem frozen_of_heap {w : World} {g : Nat} {cs : Array Value} {t : TypeId} (h : w.heap[g]? = some (.cells cs t (0, 0))) (o : Nat) : w.frozen? ⟨g, o, none⟩ = false := by
  unfold World.frozen?
  simp [h]
theorem results_cell_slot {P : Program} {fn : Func} {p q : Tmp} {ty : TypeId} (h : fn.results = #[.cell p ty, .tmp q]) (tmps : Array Value) (w : World) (g : Nat) (t : TypeId) (cs : Array Value) (fr : Nat × Nat) (d : TypeDesc) (v : Value)
    (hp : tmps.getD p undef = .pointer (some ⟨g, 0, none⟩)) (hq : tmps.getD q undef = v) (hg : w.heap[g]? = some (.cells cs t fr))
    (hu : P.underlying ty = some d) (hd : (match d with | .struct _ | .array _ _ => true | _ => false) = true) (hi : (P.info? ty).map (·.size) = some cs.size) :
    (results fn tmps).run P w = .ok (.tuple #[.agg cs, v]) w := by
  have hp' : tmps[p]?.getD undef = .pointer (some ⟨g, 0, none⟩) := by simpa using hp
  have hq' : tmps[q]?.getD undef = v := by simpa using hq
  simp [results, h, hp', hq', asAddr, run_loadVar_row w g t ty cs fr d hg hu hd hi]
theorem four_set {W : World} {g : Nat} {x0 x1 x2 x3 y0 y1 y2 y3 : Value} (c0 : W.cell? ⟨g, 0, none⟩ = some x0) (c1 : W.cell? ⟨g, 1, none⟩ = some x1) (c2 : W.cell? ⟨g, 2, none⟩ = some x2) (c3 : W.cell? ⟨g, 3, none⟩ = some x3) :
    ((((W.setCell ⟨g, 0, none⟩ y0).setCell ⟨g, 1, none⟩ y1).setCell ⟨g, 2, none⟩ y2).setCell ⟨g, 3, none⟩ y3).cell? ⟨g, 0, none⟩ = some y0 ∧
    ((((W.setCell ⟨g, 0, none⟩ y0).setCell ⟨g, 1, none⟩ y1).setCell ⟨g, 2, none⟩ y2).setCell ⟨g, 3, none⟩ y3).cell? ⟨g, 1, none⟩ = some y1 ∧
    ((((W.setCell ⟨g, 0, none⟩ y0).setCell ⟨g, 1, none⟩ y1).setCell ⟨g, 2, none⟩ y2).setCell ⟨g, 3, none⟩ y3).cell? ⟨g, 2, none⟩ = some y2 ∧
    ((((W.setCell ⟨g, 0, none⟩ y0).setCell ⟨g, 1, none⟩ y1).setCell ⟨g, 2, none⟩ y2).setCell ⟨g, 3, none⟩ y3).cell? ⟨g, 3, none⟩ = some y3 := by
  have ne : ∀ i j : Nat, i ≠ j → (⟨g, i, none⟩ : Addr) ≠ ⟨g, j, none⟩ := fun i j h c => h (by injection c)
  refine ⟨?_, ?_, ?_, ?_⟩
  · rw [World.cell?_setCell_other _ _ _ _ (ne 3 0 (by omega)), World.cell?_setCell_other _ _ _ _ (ne 2 0 (by omega)), World.cell?_setCell_other _ _ _ _ (ne 1 0 (by omega))]
    exact World.cell?_setCell_same _ _ _ c0
  · rw [World.cell?_setCell_other _ _ _ _ (ne 3 1 (by omega)), World.cell?_setCell_other _ _ _ _ (ne 2 1 (by omega))]
    exact World.cell?_setCell_same _ _ _ ((World.cell?_setCell_other _ _ _ _ (ne 0 1 (by omega))).trans c1)
  · rw [World.cell?_setCell_other _ _ _ _ (ne 3 2 (by omega))]
    exact World.cell?_setCell_same _ _ _ ((World.cell?_setCell_other _ _ _ _ (ne 1 2 (by omega))).trans ((World.cell?_setCell_other _ _ _ _ (ne 0 2 (by omega))).trans c2))
  · exact World.cell?_setCell_same _ _ _ ((World.cell?_setCell_other _ _ _ _ (ne 2 3 (by omega))).trans ((World.cell?_setCell_other _ _ _ _ (ne 1 3 (by omega))).trans ((World.cell?_setCell_other _ _ _ _ (ne 0 3 (by omega))).trans c3)))
theorem results_tok {W : World} {g : Nat} {y0 y1 y2 y3 v : Value} {tmps : Array Value} (hp : tmps.getD 4 undef = .pointer (some ⟨g, 0, none⟩)) (hq : tmps.getD 5 undef = v)
    (c0 : W.cell? ⟨g, 0, none⟩ = some y0) (c1 : W.cell? ⟨g, 1, none⟩ = some y1) (c2 : W.cell? ⟨g, 2, none⟩ = some y2) (c3 : W.cell? ⟨g, 3, none⟩ = some y3)
    (h0 : y0.cells = #[y0]) (h1 : y1.cells = #[y1]) (h2 : y2.cells = #[y2]) (h3 : y3.cells = #[y3]) :
    (results Tryz.f52 tmps).run Tryz.prog W = .ok (.tuple #[.agg #[y0, y1, y2, y3], v]) W := by
  have hp' : tmps[4]?.getD undef = .pointer (some ⟨g, 0, none⟩) := by simpa using hp
  have hq' : tmps[5]?.getD undef = v := by simpa using hq
  simp [results, Tryz.results52, go_sem, hp', hq', c0, c1, c2, c3]
theorem end_tok {w W1 : World} {o : Obj} {x0 x1 x2 x3 y0 y1 y2 y3 v : Value} {tmps : Array Value} {Q : Ending → World → Prop} (hp : tmps.getD 4 undef = .pointer (some ⟨w.heap.size, 0, none⟩)) (hq : tmps.getD 5 undef = v)
    (c0 : W1.cell? ⟨w.heap.size, 0, none⟩ = some x0) (c1 : W1.cell? ⟨w.heap.size, 1, none⟩ = some x1) (c2 : W1.cell? ⟨w.heap.size, 2, none⟩ = some x2) (c3 : W1.cell? ⟨w.heap.size, 3, none⟩ = some x3)
    (h0 : y0.cells = #[y0]) (h1 : y1.cells = #[y1]) (h2 : y2.cells = #[y2]) (h3 : y3.cells = #[y3])
    (hQ : Q (.returned (.tuple #[.agg #[y0, y1, y2, y3], v])) (((((W1.setCell ⟨w.heap.size, 0, none⟩ y0).setCell ⟨w.heap.size, 1, none⟩ y1).setCell ⟨w.heap.size, 2, none⟩ y2).setCell ⟨w.heap.size, 3, none⟩ y3).alloc o)) :
    bodyPost Tryz.prog Tryz.f52 Q Exit.ret { tmps := tmps, defers := [] } (((((W1.setCell ⟨w.heap.size, 0, none⟩ y0).setCell ⟨w.heap.size, 1, none⟩ y1).setCell ⟨w.heap.size, 2, none⟩ y2).setCell ⟨w.heap.size, 3, none⟩ y3).alloc o) := by
  obtain ⟨g0, g1, g2, g3⟩ := four_set (y0 := y0) (y1 := y1) (y2 := y2) (y3 := y3) c0 c1 c2 c3
  generalize (((W1.setCell ⟨w.heap.size, 0, none⟩ y0).setCell ⟨w.heap.size, 1, none⟩ y1).setCell ⟨w.heap.size, 2, none⟩ y2).setCell ⟨w.heap.size, 3, none⟩ y3 = W3 at g0 g1 g2 g3 hQ ⊢
  have hz := World.block_lt_of_cell? W3 ⟨w.heap.size, 0, none⟩ g0
  generalize w.heap.size = g at hp g0 g1 g2 g3 hz
  have k : ∀ j : Nat, (W3.alloc o).cell? ⟨g, j, none⟩ = W3.cell? ⟨g, j, none⟩ := fun j => World.cell?_alloc_lt W3 o ⟨g, j, none⟩ hz
  exact bodyPost_ret (results_tok hp hq ((k 0).trans g0) ((k 1).trans g1) ((k 2).trans g2) ((k 3).trans g3) h0 h1 h2 h3) rfl hQ
set_option maxHeartbeats 4000000 in
theorem ofRun_word {s : ByteArray} {L : Int} (hw : isWord s.data.toList = true) (hs : s.size ≤ 20000) (w : World) :
    Calls Tryz.prog 52 #[.string s, .int .i64 L] w fun e w' => e = .returned (.tuple #[.agg #[.int .i64 2, .string s, .int .i64 0, .int .i64 L], .bool true]) ∧ Bel w w' := by
  obtain ⟨n, b, hn⟩ : ∃ n b, numIs s.data.toList n b := ⟨_, _, rfl, rfl⟩
  have HW := Lib.hid hw
  have HN := Lib.hid hn
  have hm : s.size ≤ maxLen := by unfold maxLen; omega
  clear hw hn
  go_enter Tryz.func52, Tryz.ntmps52
  go_wp2_with fail
  refine (clone_any s _ (by omega)).mono ?_
  rintro e W1 ⟨rfl, hb1⟩
  have hh : W1.heap[w.heap.size]? = some (.cells #[.int .i64 0, .string ⟨#[]⟩, .int .i64 0, .int .i64 0] 48 (0, 0)) := (hb1.block _ (by simp)).trans (heap_alloc_new _ _)
  have hz : w.heap.size < W1.heap.size := lt_of_heap hh
  have hb2 : Bel w W1 := ((Bel.refl w).alloc _ _).trans hb1
  have c0 := cell_of_heap hh 0
  have c1 := cell_of_heap hh 1
  have c2 := cell_of_heap hh 2
  have c3 := cell_of_heap hh 3
  have f0 := frozen_of_heap hh 0
  have f1 := frozen_of_heap hh 1
  have f2 := frozen_of_heap hh 2
  have f3 := frozen_of_heap hh 3
  simp only [List.getElem?_toArray, List.getElem?_cons_zero, List.getElem?_cons_succ] at c0 c1 c2 c3
  have HH := Lib.hid hh
  have HB := Lib.hid hb2
  clear hh hb1 hb2
  go_wp2_with (first | (go_at_call 89; ((with_reducible refine (number_lit HN.out hm _).mono ?_); rintro e w' ⟨rfl, rfl⟩)) | (go_at_call 90; ((with_reducible refine (word_lit HW.out _).mono ?_); rintro e w' ⟨rfl, rfl⟩)))
  refine end_tok rfl rfl c0 c1 c2 c3 rfl rfl rfl rfl ⟨rfl, ?_⟩
  exact ((((HB.out.setCell (Nat.le_refl _) _).setCell (Nat.le_refl _) _).setCell (Nat.le_refl _) _).setCell (Nat.le_refl _) _).alloc _ _
set_option maxHeartbeats 4000000 in
theorem ofRun_name {s : ByteArray} {L : Int} (hw : isWord s.data.toList = false) (hx : isName s.data.toList = true) (hs : s.size ≤ 20000) (w : World) :
    Calls Tryz.prog 52 #[.string s, .int .i64 L] w fun e w' => e = .returned (.tuple #[.agg #[.int .i64 1, .string s, .int .i64 0, .int .i64 L], .bool true]) ∧ Bel w w' := by
  obtain ⟨n, b, hn⟩ : ∃ n b, numIs s.data.toList n b := ⟨_, _, rfl, rfl⟩
  have HW := Lib.hid hw
  have HM := Lib.hid hx
  have HN := Lib.hid hn
  have hm : s.size ≤ maxLen := by unfold maxLen; omega
  clear hw hn hx
  go_enter Tryz.func52, Tryz.ntmps52
  go_wp2_with fail
  refine (clone_any s _ (by omega)).mono ?_
  rintro e W1 ⟨rfl, hb1⟩
  have hh : W1.heap[w.heap.size]? = some (.cells #[.int .i64 0, .string ⟨#[]⟩, .int .i64 0, .int .i64 0] 48 (0, 0)) := (hb1.block _ (by simp)).trans (heap_alloc_new _ _)
  have hz : w.heap.size < W1.heap.size := lt_of_heap hh
  have hb2 : Bel w W1 := ((Bel.refl w).alloc _ _).trans hb1
  have c0 := cell_of_heap hh 0
  have c1 := cell_of_heap hh 1
  have c2 := cell_of_heap hh 2
  have c3 := cell_of_heap hh 3
  have f0 := frozen_of_heap hh 0
  have f1 := frozen_of_heap hh 1
  have f2 := frozen_of_heap hh 2
  have f3 := frozen_of_heap hh 3
  simp only [List.getElem?_toArray, List.getElem?_cons_zero, List.getElem?_cons_succ] at c0 c1 c2 c3
  have HH := Lib.hid hh
  have HB := Lib.hid hb2
  clear hh hb1 hb2
  go_wp2_with (first | (go_at_call 89; ((with_reducible refine (number_lit HN.out hm _).mono ?_); rintro e w' ⟨rfl, rfl⟩)) | (go_at_call 90; ((with_reducible refine (word_lit HW.out _).mono ?_); rintro e w' ⟨rfl, rfl⟩)) | (go_at_call 62; ((with_reducible refine (name_lit HM.out hm _).mono ?_); rintro e w' ⟨rfl, rfl⟩)))
  refine end_tok rfl rfl c0 c1 c2 c3 rfl rfl rfl rfl ⟨rfl, ?_⟩
  exact ((((HB.out.setCell (Nat.le_refl _) _).setCell (Nat.le_refl _) _).setCell (Nat.le_refl _) _).setCell (Nat.le_refl _) _).alloc _ _
set_option maxHeartbeats 4000000 in
theorem ofRun_num {s : ByteArray} {L : Int} {n : Nat} (hw : isWord s.data.toList = false) (hx : isName s.data.toList = false) (hn : numIs s.data.toList n true) (hs : s.size ≤ 20000) (w : World) :
    Calls Tryz.prog 52 #[.string s, .int .i64 L] w fun e w' => e = .returned (.tuple #[.agg #[.int .i64 3, .string s, .int .i64 n, .int .i64 L], .bool true]) ∧ Bel w w' := by
  have HW := Lib.hid hw
  have HM := Lib.hid hx
  have HN := Lib.hid hn
  have hm : s.size ≤ maxLen := by unfold maxLen; omega
  clear hw hn hx
  go_enter Tryz.func52, Tryz.ntmps52
  go_wp2_with fail
  refine (clone_any s _ (by omega)).mono ?_
  rintro e W1 ⟨rfl, hb1⟩
  have hh : W1.heap[w.heap.size]? = some (.cells #[.int .i64 0, .string ⟨#[]⟩, .int .i64 0, .int .i64 0] 48 (0, 0)) := (hb1.block _ (by simp)).trans (heap_alloc_new _ _)
  have hz : w.heap.size < W1.heap.size := lt_of_heap hh
  have hb2 : Bel w W1 := ((Bel.refl w).alloc _ _).trans hb1
  have c0 := cell_of_heap hh 0
  have c1 := cell_of_heap hh 1
  have c2 := cell_of_heap hh 2
  have c3 := cell_of_heap hh 3
  have f0 := frozen_of_heap hh 0
  have f1 := frozen_of_heap hh 1
  have f2 := frozen_of_heap hh 2
  have f3 := frozen_of_heap hh 3
  simp only [List.getElem?_toArray, List.getElem?_cons_zero, List.getElem?_cons_succ] at c0 c1 c2 c3
  have HH := Lib.hid hh
  have HB := Lib.hid hb2
  clear hh hb1 hb2
  go_wp2_with (first | (go_at_call 89; ((with_reducible refine (number_lit HN.out hm _).mono ?_); rintro e w' ⟨rfl, rfl⟩)) | (go_at_call 90; ((with_reducible refine (word_lit HW.out _).mono ?_); rintro e w' ⟨rfl, rfl⟩)) | (go_at_call 62; ((with_reducible refine (name_lit HM.out hm _).mono ?_); rintro e w' ⟨rfl, rfl⟩)))
  refine end_tok rfl rfl c0 c1 c2 c3 rfl rfl rfl rfl ⟨rfl, ?_⟩
  exact ((((HB.out.setCell (Nat.le_refl _) _).setCell (Nat.le_refl _) _).setCell (Nat.le_refl _) _).setCell (Nat.le_refl _) _).alloc _ _
set_option maxHeartbeats 4000000 in
theorem ofRun_none {s : ByteArray} {L : Int} {n : Nat} (hw : isWord s.data.toList = false) (hx : isName s.data.toList = false) (hn : numIs s.data.toList n false) (hs : s.size ≤ 20000) (w : World) :
    Calls Tryz.prog 52 #[.string s, .int .i64 L] w fun e w' => e = .returned (.tuple #[.agg #[.int .i64 0, .string ⟨#[]⟩, .int .i64 0, .int .i64 0], .bool false]) ∧ Bel w w' := by
  have HW := Lib.hid hw
  have HM := Lib.hid hx
  have HN := Lib.hid hn
  have hm : s.size ≤ maxLen := by unfold maxLen; omega
  clear hw hn hx
  go_enter Tryz.func52, Tryz.ntmps52
  go_wp2_with fail
  refine (clone_any s _ (by omega)).mono ?_
  rintro e W1 ⟨rfl, hb1⟩
  have hh : W1.heap[w.heap.size]? = some (.cells #[.int .i64 0, .string ⟨#[]⟩, .int .i64 0, .int .i64 0] 48 (0, 0)) := (hb1.block _ (by simp)).trans (heap_alloc_new _ _)
  have hz : w.heap.size < W1.heap.size := lt_of_heap hh
  have hb2 : Bel w W1 := ((Bel.refl w).alloc _ _).trans hb1
  have c0 := cell_of_heap hh 0
  have c1 := cell_of_heap hh 1
  have c2 := cell_of_heap hh 2
  have c3 := cell_of_heap hh 3
  have f0 := frozen_of_heap hh 0
  have f1 := frozen_of_heap hh 1
  have f2 := frozen_of_heap hh 2
  have f3 := frozen_of_heap hh 3
  simp only [List.getElem?_toArray, List.getElem?_cons_zero, List.getElem?_cons_succ] at c0 c1 c2 c3
  have HH := Lib.hid hh
  have HB := Lib.hid hb2
  clear hh hb1 hb2
  go_wp2_with (first | (go_at_call 89; ((with_reducible refine (number_lit HN.out hm _).mono ?_); rintro e w' ⟨rfl, rfl⟩)) | (go_at_call 90; ((with_reducible refine (word_lit HW.out _).mono ?_); rintro e w' ⟨rfl, rfl⟩)) | (go_at_call 62; ((with_reducible refine (name_lit HM.out hm _).mono ?_); rintro e w' ⟨rfl, rfl⟩)))
  refine end_tok rfl rfl c0 c1 c2 c3 rfl rfl rfl rfl ⟨rfl, ?_⟩
  exact ((((HB.out.setCell (Nat.le_refl _) _).setCell (Nat.le_refl _) _).setCell (Nat.le_refl _) _).setCell (Nat.le_refl _) _).alloc _ _
end
section
open Go.RowKit Tk
set_option linter.unusedVariables false
theorem ofRun_yes {s : ByteArray} {k m L : Int} (h : ofRun s.data.toList = some (k, m)) (hs : s.size ≤ 20000) (w : World) :
    Calls Tryz.prog 52 #[.string s, .int .i64 L] w fun e w' => e = .returned (.tuple #[.agg #[.int .i64 k, .string s, .int .i64 m, .int .i64 L], .bool true]) ∧ Bel w w' := by
  unfold ofRun at h
  cases hw : isWord s.data.toList with
  | true =>
    rw [if_pos hw, Option.some.injEq, Prod.mk.injEq] at h
    obtain ⟨rfl, rfl⟩ := h
    exact ofRun_word hw hs w
  | false =>
    rw [if_neg (by rw [hw]; exact Bool.false_ne_true)] at h
    cases hx : isName s.data.toList with
    | true =>
      rw [if_pos hx, Option.some.injEq, Prod.mk.injEq] at h
      obtain ⟨rfl, rfl⟩ := h
      exact ofRun_name hw hx hs w
    | false =>
      rw [if_neg (by rw [hx]; exact Bool.false_ne_true)] at h
      cases hn : number s.data.toList with
      | none => rw [hn] at h; cases h
      | some n =>
        rw [hn] at h
        simp only [Option.some.injEq, Prod.mk.injEq] at h
        obtain ⟨rfl, rfl⟩ := h
        exact ofRun_num hw hx ⟨by rw [hn]; rfl, by rw [hn]; rfl⟩ hs w
theorem ofRun_no {s : ByteArray} {L : Int} (h : ofRun s.data.toList = none) (hs : s.size ≤ 20000) (w : World) :
    Calls Tryz.prog 52 #[.string s, .int .i64 L] w fun e w' => e = .returned (.tuple #[.agg #[.int .i64 0, .string ⟨#[]⟩, .int .i64 0, .int .i64 0], .bool false]) ∧ Bel w w' := by
  unfold ofRun at h
  cases hw : isWord s.data.toList with
  | true => rw [if_pos hw] at h; cases h
  | false =>
    rw [if_neg (by rw [hw]; exact Bool.false_ne_true)] at h
    cases hx : isName s.data.toList with
    | true => rw [if_pos hx] at h; cases h
    | false =>
      rw [if_neg (by rw [hx]; exact Bool.false_ne_true)] at h
      cases hn : number s.data.toList with
      | none => exact ofRun_none (n := 0) hw hx ⟨by rw [hn]; rfl, by rw [hn]; rfl⟩ hs w
      | some n => rw [hn] at h; cases h
def signCells : Array Value := #[.string ⟨#[61, 61]⟩, .string ⟨#[33, 61]⟩, .string ⟨#[60, 60]⟩, .string ⟨#[62, 62]⟩, .string ⟨#[60, 46]⟩, .string ⟨#[43]⟩, .string ⟨#[45]⟩, .string ⟨#[42]⟩, .string ⟨#[47]⟩, .string ⟨#[37]⟩, .string ⟨#[38]⟩, .string ⟨#[124]⟩, .string ⟨#[94]⟩, .string ⟨#[60]⟩, .string ⟨#[61]⟩, .string ⟨#[33]⟩, .string ⟨#[126]⟩, .string ⟨#[40]⟩, .string ⟨#[41]⟩, .string ⟨#[123]⟩, .string ⟨#[125]⟩, .string ⟨#[91]⟩, .string ⟨#[93]⟩, .string ⟨#[59]⟩, .string ⟨#[46]⟩]
/-- the table of signs reads as its initialiser lays it -/
def SignsAt (w : World) : Prop := ∃ t fr, w.heap[0]? = some (.cells signCells t fr)
theorem SignsAt.bel {w w' : World} (h : SignsAt w) (hb : Bel w w') : SignsAt w' := by
  obtain ⟨t, fr, h⟩ := h
  exact ⟨t, fr, (hb.block _ (lt_of_heap h)).trans h⟩
theorem signs_size : (Tryz.prog.info? 101).map (·.size) = some signCells.size := by kernel_rfl
theorem sign_idx (k : Nat) (hk : k < 25) (w : World) : (Instr.index 101 (.agg signCells) (.int .i64 (k : Int))).run Tryz.prog w = .ok (.string (str (signs.getD k []))) w := by
  match k, hk with
  | 0, _ => show _ = _; kernel_rfl
  | 1, _ => show _ = _; kernel_rfl
  | 2, _ => show _ = _; kernel_rfl
  | 3, _ => show _ = _; kernel_rfl
  | 4, _ => show _ = _; kernel_rfl
  | 5, _ => show _ = _; kernel_rfl
  | 6, _ => show _ = _; kernel_rfl
  | 7, _ => show _ = _; kernel_rfl
  | 8, _ => show _ = _; kernel_rfl
  | 9, _ => show _ = _; kernel_rfl
  | 10, _ => show _ = _; kernel_rfl
  | 11, _ => show _ = _; kernel_rfl
  | 12, _ => show _ = _; kernel_rfl
  | 13, _ => show _ = _; kernel_rfl
  | 14, _ => show _ = _; kernel_rfl
  | 15, _ => show _ = _; kernel_rfl
  | 16, _ => show _ = _; kernel_rfl
  | 17, _ => show _ = _; kernel_rfl
  | 18, _ => show _ = _; kernel_rfl
  | 19, _ => show _ = _; kernel_rfl
  | 20, _ => show _ = _; kernel_rfl
  | 21, _ => show _ = _; kernel_rfl
  | 22, _ => show _ = _; kernel_rfl
  | 23, _ => show _ = _; kernel_rfl
  | 24, _ => show _ = _; kernel_rfl
  | k + 25, hk => exact absurd hk (by omega)
theorem wpList_trow {ops : Array Oper} {rest : List Oper} {o : Oper} {a : Act} {w : World} {Q : Exit → Act → World → Prop} (hgd : o.guard = none) (s x : Operand)
    (ho : o.op = .call { callee := .builtin .append, args := #[s, x], argTypes := #[44, 44] }) (base : Nat) (v : Value) (l : List Tok) (hs : a.eval s = v) (h : TRow w base v l)
    (B : Nat) (hx : a.eval x = .slice (some ⟨B, 0, none⟩) 1 1) (k n m : Int) (t : ByteArray) (ty : TypeId) (fr : Nat × Nat) (hB : w.heap[B]? = some (.cells #[.int .i64 k, .string t, .int .i64 n, .int .i64 m] ty fr))
    (hlen : l.length + 1 ≤ 1099511627776) (hbase : base ≤ w.heap.size)
    (hK : ∀ v' w', TRow w' base v' (l ++ [⟨k, t.data.toList, n, m⟩]) → Sv (fun k => v.ownBlock = some k) w w' → v' ≠ .slice none 0 0 → wpList Tryz.prog ops Q rest (a.put o.dst v') w') : wpList Tryz.prog ops Q (o :: rest) a w := by
  obtain ⟨v', w', hrun, h1, h2, h3⟩ := trow_one h 44 o.type Tryz.underlying44 B k n m t (cell_of_heap hB 0) (cell_of_heap hB 1) (cell_of_heap hB 2) (cell_of_heap hB 3) hlen hbase
  exact wpList_app hgd s x _ ho v _ v' hs hx hrun (hK v' w' h1 h2 h3)
theorem ownBlock_ge {w : World} {base : Nat} {v : Value} {l : List Tok} (h : TRow w base v l) : ∀ k, v.ownBlock = some k → base ≤ k := by
  intro k hk
  rcases h.2 with ⟨rfl, _⟩ | ⟨g, cap, cur, rfl, hb, _⟩
  · cases hk
  · cases hk
    exact hb
theorem pre_app (l m : List Tok) (r : Res) : (r.pre m).pre l = r.pre (l ++ m) := by
  cases r with
  | ok x => show Res.ok _ = Res.ok _; rw [List.append_assoc]
  | err n => rfl
theorem cons_pre (l : List Tok) (x : Tok) (r : Res) : (r.cons x).pre l = r.pre (l ++ [x]) := by
  cases r with
  | ok y => show Res.ok _ = Res.ok _; rw [List.append_assoc]; rfl
  | err n => rfl
end
section
open Go.RowKit Tk
set_option linter.unusedVariables false
/-- what Scan hands back -/
def ScanIs (w : World) : Res → Ending → World → Prop
  | .ok l, e, w' => Bel w w' ∧ ∃ B c, e = .returned (.tuple #[.slice (some ⟨B, 0, none⟩) l.length c, .int .i64 0, .int .i64 0]) ∧ w.heap.size ≤ B ∧ l.length ≤ c ∧ ToksAt w' B 0 l ∧ ∀ j, w'.frozen? ⟨B, j, none⟩ = false
  | .err n, e, w' => Bel w w' ∧ e = .returned (.tuple #[.slice none 0 0, .int .i64 50, .int .i64 n])
def ScanAll (w : World) (r : Res) (rest : ByteArray) (l : List Tok) (n : Nat) : Prop := r = (scan rest.data.toList n).pre l
theorem size_pos_ne {s : ByteArray} (h : 0 < s.size) : s.data.toList ≠ [] := by
  intro c
  have := size_list s
  rw [c] at this
  simp at this
  omega
theorem feeds_le (s : Bs) : feeds s ≤ s.length := List.length_filter_le _ _
theorem extract_end_size (s : ByteArray) (g : Nat) : (s.extract g s.size).size = s.size - g := by
  rw [extract_end, str_size, List.length_drop, size_list]
theorem extract_end_data (s : ByteArray) (g : Nat) : (s.extract g s.size).data.toList = s.data.toList.drop g := by
  rw [extract_end, str_data]
theorem extract_head_data (s : ByteArray) (g : Nat) : (s.extract 0 g).data.toList = s.data.toList.take g := by
  rw [extract_head, str_data]
theorem extract_head_size {s : ByteArray} {g : Nat} (h : g ≤ s.size) : (s.extract 0 g).size = g := by
  rw [extract_head, str_size, List.length_take, size_list]
  omega
theorem signAt_from (s : Bs) (j : Nat) (hj : j < 25) : ((signs.drop j).find? fun g => g.isPrefixOf s) = if (signs.getD j []).isPrefixOf s then some (signs.getD j []) else ((signs.drop (j + 1)).find? fun g => g.isPrefixOf s) := by
  have e : signs.drop j = signs.getD j [] :: signs.drop (j + 1) := by
    rw [List.drop_eq_getElem_cons (by exact hj), List.getD_eq_getElem?_getD, List.getElem?_eq_getElem (by exact hj)]
    rfl
  rw [e, List.find?_cons]
  cases (signs.getD j []).isPrefixOf s <;> rfl
theorem new_heap {W : World} {n : Nat} (hn : W.heap.size = n) (o : Obj) : (W.alloc o).heap[n]? = some o := by
  subst hn
  exact heap_alloc_new W o
set_option maxRecDepth 100000 in
set_option maxHeartbeats 8000000 in
theorem scan_any (s : ByteArray) (hs : s.size ≤ 20000) (w : World) (hT : SignsAt w) : Calls Tryz.prog 20 #[.string s] w (ScanIs w (scan s.data.toList 1)) := by
  obtain ⟨R, hR⟩ : ∃ R, scan s.data.toList 1 = R := ⟨_, rfl⟩
  rw [hR]
  have HR0 : Hid (R = (scan s.data.toList 1).pre []) := Lib.hid (by rw [hR]; cases R <;> rfl)
  have HT := Lib.hid hT
  clear hR hT
  go_enter Tryz.func20, Tryz.ntmps20
  go_wp2
  go_step3
  go_wp2
  go_step3
  go_wp2
  go_loopg [0, 5, 6] s.size (fun gk s0 s5 s6 wr => ∃ (rest : ByteArray) (l : List Tok) (n : Nat), rest.size ≤ gk ∧ s0 = .string rest ∧ s6 = .int .i64 n ∧ Hid (TRow wr w.heap.size s5 l) ∧ Hid (Bel w wr) ∧ l.length + rest.size ≤ 20000 ∧ n + rest.size ≤ 20001 ∧ Hid (ScanAll w R rest l n))
  case atStart => exact ⟨s, [], 1, Nat.le_refl _, rfl, rfl, Lib.hid (TRow.nil _ _), Lib.hid (Bel.refl _), by simpa using hs, by omega, HR0⟩
  case round =>
    clear HR0
    obtain ⟨rest, l, n, hg, rfl, rfl, HRow, HB, hl, hn, HS⟩ := hrel
    by_cases h0 : rest.size = 0
    · obtain rfl := empty_of_size h0
      have hsz := HB.out.size
      have hln : l.length + 1 ≤ 1099511627776 := by omega
      have HSZ : Hid (w.heap.size ≤ (wr.alloc (.cells #[.int .i64 5, .string ⟨#[]⟩, .int .i64 0, .int .i64 n] 48)).heap.size) := Lib.hid (by simp; omega)
      have HLN := Lib.hid hln
      clear h0 hln hsz
      go_wp2_with (at_builtin; refine wpList_trow rfl (.tmp 75) (.tmp 78) rfl w.heap.size u5 l rfl (TRow.bel HRow.out ((Bel.refl _).alloc _ _)) _ rfl 5 0 n ⟨#[]⟩ _ _ (heap_alloc_new _ _) HLN.out HSZ.out ?_; intro v' w1 h1 h2 h3)
      go_ret3
      have hs1 := HS.out
      unfold ScanAll at hs1
      rw [show scan (⟨#[]⟩ : ByteArray).data.toList n = .ok [⟨5, [], 0, n⟩] from rfl] at hs1
      subst hs1
      obtain ⟨B, c, rfl, hb, hc, hat⟩ := h1.form h3
      exact ⟨h2.bel (HB.out.alloc _ _) (fun k hk => ownBlock_ge HRow.out k hk), B, c, rfl, hb, hc, hat, fun j => World.ownsRow.frozenAt h1 j⟩
    · have hp : 0 < rest.size := by omega
      have e1 := isEmpty_no hp
      have e2 := toList_no hp
      have hrm : rest.size ≤ maxLen := by unfold maxLen; omega
      obtain ⟨g, hgp⟩ : ∃ g, gap rest.data.toList = g := ⟨_, rfl⟩
      have HG := Lib.hid hgp
      by_cases hg0 : 0 < g
      · have hgle : g ≤ rest.size := by
          have := gap_le rest.data.toList
          rw [size_list, hgp] at this
          exact this
        obtain ⟨f, hf⟩ : ∃ f, feeds (rest.data.toList.take g) = f := ⟨_, rfl⟩
        have hfle : f ≤ g := by
          have := feeds_le (rest.data.toList.take g)
          rw [hf, List.length_take, size_list] at this
          omega
        have HC : Hid (Lib.countByte (rest.extract 0 g).data.toList 10 = f) := Lib.hid (by rw [count_feeds, extract_head_data]; exact hf)
        have HS2 : Hid (ScanAll w R (rest.extract g rest.size) l (n + f)) := Lib.hid (by
          have h := HS.out
          unfold ScanAll at h ⊢
          rw [h, scan_gap n (by rw [hgp]; exact hg0), hgp, hf, extract_end_data])
        clear hgp hf HS
        go_wp2_with (first | (go_at_call 49; ((with_reducible refine (gap_lit HG.out hp hrm _).mono ?_); rintro e w' ⟨rfl, rfl⟩)) | (go_at_call 50; ((with_reducible refine (count_lit HC.out _).mono ?_); rintro e w' ⟨rfl, rfl⟩)))
        go_roundg (rest.size - g)
        case measure => omega
        case rel => exact ⟨rest.extract g rest.size, l, n + f, by rw [extract_end_size]; exact Nat.le_refl _, rfl, by go_num, HRow, HB, by rw [extract_end_size]; omega, by rw [extract_end_size]; omega, HS2⟩
      · obtain rfl : g = 0 := by omega
        obtain ⟨r, hrp⟩ : ∃ r, runLen rest.data.toList = r := ⟨_, rfl⟩
        have HRL := Lib.hid hrp
        by_cases hr0 : 0 < r
        · have hrle : r ≤ rest.size := by
            have := runLen_le rest.data.toList
            rw [size_list, hrp] at this
            exact this
          have HXS : Hid ((rest.extract 0 r).size ≤ 20000) := Lib.hid (by rw [extract_head_size hrle]; omega)
          have hgz : gap rest.data.toList = 0 := hgp
          have hrz : 0 < runLen rest.data.toList := by rw [hrp]; exact hr0
          cases ho : ofRun (rest.data.toList.take r) with
          | some p =>
            obtain ⟨k, m⟩ := p
            have HO : Hid (ofRun (rest.extract 0 r).data.toList = some (k, m)) := Lib.hid (by rw [extract_head_data]; exact ho)
            have HS2 : Hid (ScanAll w R (rest.extract r rest.size) (l ++ [⟨k, (rest.extract 0 r).data.toList, m, n⟩]) n) := Lib.hid (by
              have h := HS.out
              unfold ScanAll at h ⊢
              rw [h, scan_run (k := k) (m := m) n hgz hrz (by rw [hrp]; exact ho), hrp, cons_pre, extract_end_data, extract_head_data])
            have hln : l.length + 1 ≤ 1099511627776 := by omega
            have HLN := Lib.hid hln
            clear hgp hrp ho HS hln hgz hrz h0
            go_wp2_with (first | (go_at_call 49; ((with_reducible refine (gap_lit HG.out hp hrm _).mono ?_); rintro e w' ⟨rfl, rfl⟩)) | (go_at_call 51; ((with_reducible refine (runLength_lit HRL.out hrm _).mono ?_); rintro e w' ⟨rfl, rfl⟩)) | (go_at_call 52; ((with_reducible refine (ofRun_yes HO.out HXS.out _).mono ?_); rintro e W1 ⟨rfl, hb1⟩; have HB1 := Lib.hid hb1; have HSZ := Lib.hid (Nat.le_trans HB.out.size hb1.size); clear hb1)) | (at_builtin; refine wpList_trow rfl (.tmp 48) (.tmp 50) rfl w.heap.size u5 l rfl (TRow.bel HRow.out ((HB1.out.alloc _ _).alloc _ _)) _ rfl k m n (rest.extract 0 r) _ _ (new_heap (by simp) _) HLN.out (Nat.le_trans HSZ.out (((Bel.refl _).alloc _ _).alloc _ _).size) ?_; intro v' w1 h1 h2 h3))
            go_roundg (rest.size - r)
            case measure => omega
            case rel => exact ⟨rest.extract r rest.size, _, n, by rw [extract_end_size]; exact Nat.le_refl _, rfl, rfl, Lib.hid h1, Lib.hid (h2.bel (((HB.out.trans HB1.out).alloc _ _).alloc _ _) (fun k hk => ownBlock_ge HRow.out k hk)), by rw [extract_end_size, List.length_append, List.length_singleton]; omega, by rw [extract_end_size]; omega, HS2⟩
          | none =>
            have HO : Hid (ofRun (rest.extract 0 r).data.toList = none) := Lib.hid (by rw [extract_head_data]; exact ho)
            have HR : Hid (R = .err n) := Lib.hid (by
              have h := HS.out
              unfold ScanAll at h
              rw [h, scan_run_no n hgz hrz (by rw [hrp]; exact ho)]
              rfl)
            clear hgp hrp ho HS hgz hrz h0
            go_wp2_with (first | (go_at_call 49; ((with_reducible refine (gap_lit HG.out hp hrm _).mono ?_); rintro e w' ⟨rfl, rfl⟩)) | (go_at_call 51; ((with_reducible refine (runLength_lit HRL.out hrm _).mono ?_); rintro e w' ⟨rfl, rfl⟩)) | (go_at_call 52; ((with_reducible refine (ofRun_no HO.out HXS.out _).mono ?_); rintro e W1 ⟨rfl, hb1⟩; have HB1 := Lib.hid hb1; clear hb1)))
            rw [Exit.noGoto_ret]
            go_ret3
            rw [HR.out]
            exact ⟨(HB.out.trans HB1.out).alloc _ _, rfl⟩
        · obtain rfl : r = 0 := by omega
          obtain ⟨tt, fr, hgt⟩ := HT.out.bel HB.out
          have HGT := Lib.hid hgt
          have hgz : gap rest.data.toList = 0 := hgp
          have HS2 : Hid (∀ x, signAt rest.data.toList = x → R = match x with
              | some g => (scan (rest.data.toList.drop g.length) n).pre (l ++ [⟨4, g, 0, n⟩])
              | none => .err n) := Lib.hid (fun x hx => by
            have h := HS.out
            unfold ScanAll at h
            cases x with
            | some g => rw [h, scan_sign n hgz hrp hx, cons_pre]
            | none => rw [h, scan_bad n (size_pos_ne hp) hgz hrp hx]; rfl)
          clear hgp hrp hgz hgt HS h0
          go_wp2_with (first | (go_at_call 49; ((with_reducible refine (gap_lit HG.out hp hrm _).mono ?_); rintro e w' ⟨rfl, rfl⟩)) | (go_at_call 51; ((with_reducible refine (runLength_lit HRL.out hrm _).mono ?_); rintro e w' ⟨rfl, rfl⟩)) | (with_reducible refine wpList_load_row rfl 101 _ rfl 0 rfl tt signCells fr _ HGT.out Tryz.underlying101 rfl signs_size ?_))
          obtain ⟨wq, rfl⟩ : ∃ W, W = wr := ⟨_, rfl⟩
          obtain ⟨og, rfl⟩ : ∃ k, k = gk := ⟨_, rfl⟩
          go_loopg [0, 5, 56] 25 (fun gk s0 s5 s56 wy => ∃ j : Nat, j + gk = 25 ∧ s0 = .string rest ∧ s5 = u5 ∧ s56 = .int .i64 j ∧ wq = wy ∧ Hid (((signs.drop j).find? fun g => g.isPrefixOf rest.data.toList) = signAt rest.data.toList))
          case atStart => exact ⟨0, rfl, rfl, rfl, rfl, rfl, Lib.hid rfl⟩
          case round =>
            obtain ⟨j, hj, rfl, rfl, rfl, rfl, HF⟩ := hrel
            by_cases hlt : j < 25
            · obtain ⟨sg, hsg⟩ : ∃ sg, signs.getD j [] = sg := ⟨_, rfl⟩
              have hsf := signAt_from rest.data.toList j hlt
              have hix := sign_idx j hlt
              have hm : sg ∈ signs := by rw [← hsg]; exact getD_mem hlt
              rw [hsg] at hsf hix
              have hsl := (sign_short sg hm).1
              cases hpx : sg.isPrefixOf rest.data.toList with
              | true =>
                rw [if_pos hpx] at hsf
                have hat : signAt rest.data.toList = some sg := HF.out.symm.trans hsf
                have hsz : sg.length ≤ rest.size := by
                  have := (List.isPrefixOf_iff_prefix.1 hpx).length_le
                  rwa [size_list] at this
                have HCT : Hid (cutV rest (str sg) = str (rest.data.toList.drop sg.length)) := Lib.hid (by
                  unfold cutV
                  exact if_pos hpx)
                have HPX : Hid ((str sg).data.toList.isPrefixOf rest.data.toList = true) := Lib.hid hpx
                have HS3 : Hid (ScanAll w R (str (rest.data.toList.drop sg.length)) (l ++ [⟨4, (str sg).data.toList, 0, n⟩]) n) := Lib.hid (HS2.out _ hat)
                have hts : (str (rest.data.toList.drop sg.length)).size = rest.size - sg.length := by rw [str_size, List.length_drop, size_list]
                obtain ⟨tx, htx⟩ : ∃ tx, str (rest.data.toList.drop sg.length) = tx := ⟨_, rfl⟩
                rw [htx] at HCT HS3 hts
                obtain ⟨sl, hsle⟩ : ∃ sl, sg.length = sl := ⟨_, rfl⟩
                rw [hsle] at hsl hsz hts
                have HTS := Lib.hid hts
                have HSL := Lib.hid hsle
                have hln : l.length + 1 ≤ 1099511627776 := by omega
                have HLN := Lib.hid hln
                have HSZ : Hid (w.heap.size ≤ (wq.alloc (.cells #[.int .i64 4, .string (str sg), .int .i64 0, .int .i64 n] 48)).heap.size) := Lib.hid (Nat.le_trans HB.out.size ((Bel.refl _).alloc _ _).size)
                clear hsf hat hpx hm hsg hts hsle htx hln HF HS2
                go_wp2_with (first | (go_at_call 53; ((with_reducible refine (cut_lit HPX.out HCT.out _).mono ?_); rintro e w' ⟨rfl, rfl⟩)) | (at_builtin; refine wpList_trow rfl (.tmp 66) (.tmp 70) rfl w.heap.size _ l rfl (TRow.bel HRow.out ((Bel.refl _).alloc _ _)) _ rfl 4 0 n (str sg) _ _ (new_heap (by simp) _) HLN.out HSZ.out ?_; intro v' w1 h1 h2 h3))
                go_roundg (rest.size - sl)
                case measure => omega
                case rel => exact ⟨tx, _, n, by rw [HTS.out]; exact Nat.le_refl _, rfl, rfl, Lib.hid h1, Lib.hid (h2.bel (HB.out.alloc _ _) (fun k hk => ownBlock_ge HRow.out k hk)), by rw [HTS.out, List.length_append, List.length_singleton]; omega, by rw [HTS.out]; omega, HS3⟩
              | false =>
                rw [if_neg (by rw [hpx]; exact Bool.false_ne_true)] at hsf
                have HF2 : Hid (((signs.drop (j + 1)).find? fun g => g.isPrefixOf rest.data.toList) = signAt rest.data.toList) := Lib.hid (hsf.symm.trans HF.out)
                have HCT : Hid (cutV rest (str sg) = rest) := Lib.hid (by
                  unfold cutV
                  exact if_neg (by rw [str_data, hpx]; exact Bool.false_ne_true))
                have HPX : Hid ((str sg).data.toList.isPrefixOf rest.data.toList = false) := Lib.hid hpx
                clear hsf hpx hm hsg HF HS2
                go_wp2_with (go_at_call 53; ((with_reducible refine (cut_lit HPX.out HCT.out _).mono ?_); rintro e w' ⟨rfl, rfl⟩))
                go_roundg (gk - 1)
                case measure => omega
                case rel => exact ⟨j + 1, by omega, rfl, rfl, by go_num, rfl, HF2⟩
            · have hno : signAt rest.data.toList = none := by
                rw [← HF.out, List.drop_eq_nil_of_le (by show 25 ≤ j; omega)]
                rfl
              have HR : Hid (R = .err n) := Lib.hid (HS2.out _ hno)
              clear hno HF HS2
              go_wp2
              rw [Exit.noGoto_ret]
              go_ret3
              rw [HR.out]
              exact ⟨HB.out, rfl⟩
end
end Go.Proofs.YthlnjnmomnpnpaaGreatDoor.Lx
