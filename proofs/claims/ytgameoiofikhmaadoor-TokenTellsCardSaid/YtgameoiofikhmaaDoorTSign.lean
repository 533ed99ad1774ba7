/- What package token's Scan reads of its table of signs, and how a token is appended. -/
import Derived.Test.YtgameoiofikhmaaDoorTOfRun
namespace Go.Proofs.YtgameoiofikhmaaDoor
open Go.RowKit Tk
set_option linter.unusedVariables false
theorem ofRun_yes {s : ByteArray} {k m L : Int} (h : ofRun s.data.toList = some (k, m)) (hs : s.size ≤ 20000) (w : World) :
    Calls Tryd.prog 33 #[.string s, .int .i64 L] w fun e w' => e = .returned (.tuple #[.agg #[.int .i64 k, .string s, .int .i64 m, .int .i64 L], .bool true]) ∧ Bel w w' := by
  unfold ofRun at h
  cases hw : isWord s.data.toList with
  | true =>
    rw [if_pos hw, Option.some.injEq, Prod.mk.injEq] at h
    obtain ⟨rfl, rfl⟩ := h
    exact ofRun_word hw hs w
  | false =>
    rw [if_neg (by rw [hw]; exact Bool.false_ne_true)] at h
    cases hx : isName s.data.toList with
    | true =>
      rw [if_pos hx, Option.some.injEq, Prod.mk.injEq] at h
      obtain ⟨rfl, rfl⟩ := h
      exact ofRun_name hw hx hs w
    | false =>
      rw [if_neg (by rw [hx]; exact Bool.false_ne_true)] at h
      cases hn : number s.data.toList with
      | none => rw [hn] at h; cases h
      | some n =>
        rw [hn] at h
        simp only [Option.some.injEq, Prod.mk.injEq] at h
        obtain ⟨rfl, rfl⟩ := h
        exact ofRun_num hw hx ⟨by rw [hn]; rfl, by rw [hn]; rfl⟩ hs w
theorem ofRun_no {s : ByteArray} {L : Int} (h : ofRun s.data.toList = none) (hs : s.size ≤ 20000) (w : World) :
    Calls Tryd.prog 33 #[.string s, .int .i64 L] w fun e w' => e = .returned (.tuple #[.agg #[.int .i64 0, .string ⟨#[]⟩, .int .i64 0, .int .i64 0], .bool false]) ∧ Bel w w' := by
  unfold ofRun at h
  cases hw : isWord s.data.toList with
  | true => rw [if_pos hw] at h; cases h
  | false =>
    rw [if_neg (by rw [hw]; exact Bool.false_ne_true)] at h
    cases hx : isName s.data.toList with
    | true => rw [if_pos hx] at h; cases h
    | false =>
      rw [if_neg (by rw [hx]; exact Bool.false_ne_true)] at h
      cases hn : number s.data.toList with
      | none => exact ofRun_none (n := 0) hw hx ⟨by rw [hn]; rfl, by rw [hn]; rfl⟩ hs w
      | some n => rw [hn] at h; cases h
def signCells : Array Value := #[.string ⟨#[61, 61]⟩, .string ⟨#[33, 61]⟩, .string ⟨#[60, 60]⟩, .string ⟨#[62, 62]⟩, .string ⟨#[60, 46]⟩, .string ⟨#[43]⟩, .string ⟨#[45]⟩, .string ⟨#[42]⟩, .string ⟨#[47]⟩, .string ⟨#[37]⟩, .string ⟨#[38]⟩, .string ⟨#[124]⟩, .string ⟨#[94]⟩, .string ⟨#[60]⟩, .string ⟨#[61]⟩, .string ⟨#[33]⟩, .string ⟨#[126]⟩, .string ⟨#[40]⟩, .string ⟨#[41]⟩, .string ⟨#[123]⟩, .string ⟨#[125]⟩, .string ⟨#[91]⟩, .string ⟨#[93]⟩, .string ⟨#[59]⟩, .string ⟨#[46]⟩]
/-- the table of signs reads as its initialiser lays it -/
def SignsAt (w : World) : Prop := ∃ t fr, w.heap[0]? = some (.cells signCells t fr)
theorem SignsAt.bel {w w' : World} (h : SignsAt w) (hb : Bel w w') : SignsAt w' := by
  obtain ⟨t, fr, h⟩ := h
  exact ⟨t, fr, (hb.block _ (lt_of_heap h)).trans h⟩
theorem signs_size : (Tryd.prog.info? 54).map (·.size) = some signCells.size := by kernel_rfl
theorem sign_idx (k : Nat) (hk : k < 25) (w : World) : (Instr.index 54 (.agg signCells) (.int .i64 (k : Int))).run Tryd.prog w = .ok (.string (str (signs.getD k []))) w := by
  match k, hk with
  | 0, _ => show _ = _; kernel_rfl
  | 1, _ => show _ = _; kernel_rfl
  | 2, _ => show _ = _; kernel_rfl
  | 3, _ => show _ = _; kernel_rfl
  | 4, _ => show _ = _; kernel_rfl
  | 5, _ => show _ = _; kernel_rfl
  | 6, _ => show _ = _; kernel_rfl
  | 7, _ => show _ = _; kernel_rfl
  | 8, _ => show _ = _; kernel_rfl
  | 9, _ => show _ = _; kernel_rfl
  | 10, _ => show _ = _; kernel_rfl
  | 11, _ => show _ = _; kernel_rfl
  | 12, _ => show _ = _; kernel_rfl
  | 13, _ => show _ = _; kernel_rfl
  | 14, _ => show _ = _; kernel_rfl
  | 15, _ => show _ = _; kernel_rfl
  | 16, _ => show _ = _; kernel_rfl
  | 17, _ => show _ = _; kernel_rfl
  | 18, _ => show _ = _; kernel_rfl
  | 19, _ => show _ = _; kernel_rfl
  | 20, _ => show _ = _; kernel_rfl
  | 21, _ => show _ = _; kernel_rfl
  | 22, _ => show _ = _; kernel_rfl
  | 23, _ => show _ = _; kernel_rfl
  | 24, _ => show _ = _; kernel_rfl
  | k + 25, hk => exact absurd hk (by omega)
theorem wpList_trow {ops : Array Oper} {rest : List Oper} {o : Oper} {a : Act} {w : World} {Q : Exit → Act → World → Prop} (hgd : o.guard = none) (s x : Operand)
    (ho : o.op = .call { callee := .builtin .append, args := #[s, x], argTypes := #[32, 32] }) (base : Nat) (v : Value) (l : List Tok) (hs : a.eval s = v) (h : TRow w base v l)
    (B : Nat) (hx : a.eval x = .slice (some ⟨B, 0, none⟩) 1 1) (k n m : Int) (t : ByteArray) (ty : TypeId) (fr : Nat × Nat) (hB : w.heap[B]? = some (.cells #[.int .i64 k, .string t, .int .i64 n, .int .i64 m] ty fr))
    (hlen : l.length + 1 ≤ 1099511627776) (hbase : base ≤ w.heap.size)
    (hK : ∀ v' w', TRow w' base v' (l ++ [⟨k, t.data.toList, n, m⟩]) → Sv (fun k => v.ownBlock = some k) w w' → v' ≠ .slice none 0 0 → wpList Tryd.prog ops Q rest (a.put o.dst v') w') : wpList Tryd.prog ops Q (o :: rest) a w := by
  obtain ⟨v', w', hrun, h1, h2, h3⟩ := trow_one h 32 o.type Tryd.underlying32 B k n m t (cell_of_heap hB 0) (cell_of_heap hB 1) (cell_of_heap hB 2) (cell_of_heap hB 3) hlen hbase
  exact wpList_app hgd s x _ ho v _ v' hs hx hrun (hK v' w' h1 h2 h3)
theorem ownBlock_ge {w : World} {base : Nat} {v : Value} {l : List Tok} (h : TRow w base v l) : ∀ k, v.ownBlock = some k → base ≤ k := by
  intro k hk
  rcases h.2 with ⟨rfl, _⟩ | ⟨g, cap, cur, rfl, hb, _⟩
  · cases hk
  · cases hk
    exact hb
theorem pre_app (l m : List Tok) (r : Res) : (r.pre m).pre l = r.pre (l ++ m) := by
  cases r with
  | ok x => show Res.ok _ = Res.ok _; rw [List.append_assoc]
  | err n => rfl
theorem cons_pre (l : List Tok) (x : Tok) (r : Res) : (r.cons x).pre l = r.pre (l ++ [x]) := by
  cases r with
  | ok y => show Res.ok _ = Res.ok _; rw [List.append_assoc]; rfl
  | err n => rfl
end Go.Proofs.YtgameoiofikhmaaDoor
