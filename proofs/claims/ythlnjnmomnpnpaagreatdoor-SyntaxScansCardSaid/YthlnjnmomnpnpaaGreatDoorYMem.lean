/- Trees in memory. -/
import Derived.Test.YthlnjnmomnpnpaaGreatDoorYBase
namespace Go.Proofs.YthlnjnmomnpnpaaGreatDoor
open Go.RowKit Sy
set_option linter.unusedVariables false
def inI (n : Int) : Prop := -9223372036854775808 ≤ n ∧ n ≤ 9223372036854775807
/-- an expression as a value -/
abbrev exV (q : Option Addr) (c : Nat) (e : Ex) : Value := .agg #[.int .i64 e.kind, .int .i64 e.op, .int .i64 e.n, .string e.name, .slice q e.args.length c]
structure WfE (e : Ex) : Prop where
  kind : inI e.kind
  op : inI e.op
  n : inI e.n
  name : e.name.size ≤ maxLen
  args : e.args.length ≤ 9223372036854775807
def ExsAt : Nat → World → Option Addr → List Ex → Prop
  | 0, _, _, l => l = []
  | k + 1, w, p, l => ∀ (j : Nat) (e : Ex), l[j]? = some e → WfE e ∧ ∃ b o q c, p = some ⟨b, o, none⟩ ∧ b < w.heap.size ∧ w.cell? ⟨b, o + j * 5, none⟩ = some (.int .i64 e.kind) ∧ w.cell? ⟨b, o + j * 5 + 1, none⟩ = some (.int .i64 e.op) ∧ w.cell? ⟨b, o + j * 5 + 2, none⟩ = some (.int .i64 e.n) ∧ w.cell? ⟨b, o + j * 5 + 3, none⟩ = some (.string e.name) ∧ w.cell? ⟨b, o + j * 5 + 4, none⟩ = some (.slice q e.args.length c) ∧ ExsAt k w q e.args
theorem ExsAt.bel {w w' : World} (hb : Bel w w') : ∀ (k : Nat) (p : Option Addr) (l : List Ex), ExsAt k w p l → ExsAt k w' p l := by
  intro k
  induction k with
  | zero => intro p l h; exact h
  | succ k ih =>
    intro p l h j e hj
    obtain ⟨hw, b, o, q, c, hp, hl, c0, c1, c2, c3, c4, hr⟩ := h j e hj
    exact ⟨hw, b, o, q, c, hp, Nat.lt_of_lt_of_le hl hb.size, (hb.cell (p := ⟨b, o + j * 5, none⟩) hl).trans c0, (hb.cell (p := ⟨b, o + j * 5 + 1, none⟩) hl).trans c1, (hb.cell (p := ⟨b, o + j * 5 + 2, none⟩) hl).trans c2, (hb.cell (p := ⟨b, o + j * 5 + 3, none⟩) hl).trans c3, (hb.cell (p := ⟨b, o + j * 5 + 4, none⟩) hl).trans c4, ih q _ hr⟩
/-- expressions lie in memory -/
def EAt (w : World) (p : Option Addr) (l : List Ex) : Prop := ∃ k, ExsAt k w p l
theorem EAt.bel {w w' : World} {p : Option Addr} {l : List Ex} (h : EAt w p l) (hb : Bel w w') : EAt w' p l := by
  obtain ⟨k, h⟩ := h
  exact ⟨k, ExsAt.bel hb k p l h⟩
theorem EAt.nil (w : World) (p : Option Addr) : EAt w p [] := ⟨0, rfl⟩
theorem EAt.get {w : World} {p : Option Addr} {l : List Ex} (h : EAt w p l) {j : Nat} {e : Ex} (hj : l[j]? = some e) : WfE e ∧ ∃ b o q c, p = some ⟨b, o, none⟩ ∧ b < w.heap.size ∧ w.cell? ⟨b, o + j * 5, none⟩ = some (.int .i64 e.kind) ∧ w.cell? ⟨b, o + j * 5 + 1, none⟩ = some (.int .i64 e.op) ∧ w.cell? ⟨b, o + j * 5 + 2, none⟩ = some (.int .i64 e.n) ∧ w.cell? ⟨b, o + j * 5 + 3, none⟩ = some (.string e.name) ∧ w.cell? ⟨b, o + j * 5 + 4, none⟩ = some (.slice q e.args.length c) ∧ EAt w q e.args := by
  obtain ⟨k, h⟩ := h
  cases k with
  | zero =>
    have : l = [] := h
    subst this
    cases hj
  | succ k =>
    obtain ⟨hw, b, o, q, c, hp, hl, c0, c1, c2, c3, c4, hr⟩ := h j e hj
    exact ⟨hw, b, o, q, c, hp, hl, c0, c1, c2, c3, c4, k, hr⟩
theorem ExsAt.succ {w : World} : ∀ (k : Nat) (p : Option Addr) (l : List Ex), ExsAt k w p l → ExsAt (k + 1) w p l := by
  intro k
  induction k with
  | zero =>
    intro p l h j e hj
    have : l = [] := h
    subst this
    cases hj
  | succ k ih =>
    intro p l h j e hj
    obtain ⟨hw, b, o, q, c, hp, hl, c0, c1, c2, c3, c4, hr⟩ := h j e hj
    exact ⟨hw, b, o, q, c, hp, hl, c0, c1, c2, c3, c4, ih q _ hr⟩
theorem ExsAt.mono {w : World} {k k' : Nat} (hk : k ≤ k') {p : Option Addr} {l : List Ex} (h : ExsAt k w p l) : ExsAt k' w p l := by
  induction hk with
  | refl => exact h
  | step _ ih => exact ExsAt.succ _ _ _ ih
theorem EAt.mk {w : World} {p : Option Addr} {l : List Ex} (h : ∀ (j : Nat) (e : Ex), l[j]? = some e → WfE e ∧ ∃ b o q c, p = some ⟨b, o, none⟩ ∧ b < w.heap.size ∧ w.cell? ⟨b, o + j * 5, none⟩ = some (.int .i64 e.kind) ∧ w.cell? ⟨b, o + j * 5 + 1, none⟩ = some (.int .i64 e.op) ∧ w.cell? ⟨b, o + j * 5 + 2, none⟩ = some (.int .i64 e.n) ∧ w.cell? ⟨b, o + j * 5 + 3, none⟩ = some (.string e.name) ∧ w.cell? ⟨b, o + j * 5 + 4, none⟩ = some (.slice q e.args.length c) ∧ EAt w q e.args) : EAt w p l := by
  have step : ∀ n : Nat, ∃ K, ∀ (j : Nat) (e : Ex), j < n → l[j]? = some e → WfE e ∧ ∃ b o q c, p = some ⟨b, o, none⟩ ∧ b < w.heap.size ∧ w.cell? ⟨b, o + j * 5, none⟩ = some (.int .i64 e.kind) ∧ w.cell? ⟨b, o + j * 5 + 1, none⟩ = some (.int .i64 e.op) ∧ w.cell? ⟨b, o + j * 5 + 2, none⟩ = some (.int .i64 e.n) ∧ w.cell? ⟨b, o + j * 5 + 3, none⟩ = some (.string e.name) ∧ w.cell? ⟨b, o + j * 5 + 4, none⟩ = some (.slice q e.args.length c) ∧ ExsAt K w q e.args := by
    intro n
    induction n with
    | zero => exact ⟨0, fun j e hj => by omega⟩
    | succ n ih =>
      obtain ⟨K, hK⟩ := ih
      cases hx : l[n]? with
      | none =>
        refine ⟨K, fun j e hj he => ?_⟩
        by_cases hjn : j = n
        · subst hjn
          rw [hx] at he
          cases he
        · exact hK j e (by omega) he
      | some x =>
        obtain ⟨hw, b, o, q, c, hp, hl, c0, c1, c2, c3, c4, k, hr⟩ := h n x hx
        refine ⟨max K k, fun j e hj he => ?_⟩
        by_cases hjn : j = n
        · subst hjn
          rw [hx] at he
          obtain rfl := Option.some.inj he
          exact ⟨hw, b, o, q, c, hp, hl, c0, c1, c2, c3, c4, hr.mono (Nat.le_max_right _ _)⟩
        · obtain ⟨hw', b', o', q', c', hp', hl', d0, d1, d2, d3, d4, hr'⟩ := hK j e (by omega) he
          exact ⟨hw', b', o', q', c', hp', hl', d0, d1, d2, d3, d4, hr'.mono (Nat.le_max_left _ _)⟩
  obtain ⟨K, hK⟩ := step l.length
  exact ⟨K + 1, fun j e hj => hK j e ((List.getElem?_eq_some_iff.1 hj).1) hj⟩
/-- a statement as a value -/
abbrev stV (q : Option Addr) (c : Nat) (q1 : Option Addr) (c1 : Nat) (q2 : Option Addr) (c2 : Nat) (s : St) : Value := .agg #[.int .i64 s.kind, .string s.name, .string s.src, .int .i64 s.n, .slice q s.args.length c, .slice q1 s.thn.length c1, .slice q2 s.els.length c2]
structure WfS (s : St) : Prop where
  kind : inI s.kind
  n : inI s.n
  name : s.name.size ≤ maxLen
  src : s.src.size ≤ maxLen
  args : s.args.length ≤ 9223372036854775807
  thn : s.thn.length ≤ 9223372036854775807
  els : s.els.length ≤ 9223372036854775807
def StsAt : Nat → World → Option Addr → List St → Prop
  | 0, _, _, l => l = []
  | k + 1, w, p, l => ∀ (j : Nat) (s : St), l[j]? = some s → WfS s ∧ ∃ b o q c q1 c1 q2 c2, p = some ⟨b, o, none⟩ ∧ b < w.heap.size ∧ (w.cell? ⟨b, o + j * 7, none⟩ = some (.int .i64 s.kind) ∧ w.cell? ⟨b, o + j * 7 + 1, none⟩ = some (.string s.name) ∧ w.cell? ⟨b, o + j * 7 + 2, none⟩ = some (.string s.src) ∧ w.cell? ⟨b, o + j * 7 + 3, none⟩ = some (.int .i64 s.n) ∧ w.cell? ⟨b, o + j * 7 + 4, none⟩ = some (.slice q s.args.length c) ∧ w.cell? ⟨b, o + j * 7 + 5, none⟩ = some (.slice q1 s.thn.length c1) ∧ w.cell? ⟨b, o + j * 7 + 6, none⟩ = some (.slice q2 s.els.length c2)) ∧ EAt w q s.args ∧ StsAt k w q1 s.thn ∧ StsAt k w q2 s.els
theorem StsAt.bel {w w' : World} (hb : Bel w w') : ∀ (k : Nat) (p : Option Addr) (l : List St), StsAt k w p l → StsAt k w' p l := by
  intro k
  induction k with
  | zero => intro p l h; exact h
  | succ k ih =>
    intro p l h j e hj
    obtain ⟨hw, b, o, q, c, q1, d1, q2, d2, hp, hl, ⟨c0, c1, c2, c3, c4, c5, c6⟩, ha, ht, he⟩ := h j e hj
    exact ⟨hw, b, o, q, c, q1, d1, q2, d2, hp, Nat.lt_of_lt_of_le hl hb.size, ⟨(hb.cell (p := ⟨b, o + j * 7, none⟩) hl).trans c0, (hb.cell (p := ⟨b, o + j * 7 + 1, none⟩) hl).trans c1, (hb.cell (p := ⟨b, o + j * 7 + 2, none⟩) hl).trans c2, (hb.cell (p := ⟨b, o + j * 7 + 3, none⟩) hl).trans c3, (hb.cell (p := ⟨b, o + j * 7 + 4, none⟩) hl).trans c4, (hb.cell (p := ⟨b, o + j * 7 + 5, none⟩) hl).trans c5, (hb.cell (p := ⟨b, o + j * 7 + 6, none⟩) hl).trans c6⟩, ha.bel hb, ih q1 _ ht, ih q2 _ he⟩
/-- statements lie in memory -/
def SAt (w : World) (p : Option Addr) (l : List St) : Prop := ∃ k, StsAt k w p l
theorem SAt.bel {w w' : World} {p : Option Addr} {l : List St} (h : SAt w p l) (hb : Bel w w') : SAt w' p l := by
  obtain ⟨k, h⟩ := h
  exact ⟨k, StsAt.bel hb k p l h⟩
theorem SAt.nil (w : World) (p : Option Addr) : SAt w p [] := ⟨0, rfl⟩
theorem SAt.get {w : World} {p : Option Addr} {l : List St} (h : SAt w p l) {j : Nat} {s : St} (hj : l[j]? = some s) : WfS s ∧ ∃ b o q c q1 c1 q2 c2, p = some ⟨b, o, none⟩ ∧ b < w.heap.size ∧ (w.cell? ⟨b, o + j * 7, none⟩ = some (.int .i64 s.kind) ∧ w.cell? ⟨b, o + j * 7 + 1, none⟩ = some (.string s.name) ∧ w.cell? ⟨b, o + j * 7 + 2, none⟩ = some (.string s.src) ∧ w.cell? ⟨b, o + j * 7 + 3, none⟩ = some (.int .i64 s.n) ∧ w.cell? ⟨b, o + j * 7 + 4, none⟩ = some (.slice q s.args.length c) ∧ w.cell? ⟨b, o + j * 7 + 5, none⟩ = some (.slice q1 s.thn.length c1) ∧ w.cell? ⟨b, o + j * 7 + 6, none⟩ = some (.slice q2 s.els.length c2)) ∧ EAt w q s.args ∧ SAt w q1 s.thn ∧ SAt w q2 s.els := by
  obtain ⟨k, h⟩ := h
  cases k with
  | zero =>
    have : l = [] := h
    subst this
    cases hj
  | succ k =>
    obtain ⟨hw, b, o, q, c, q1, c1, q2, c2, hp, hl, hc, ha, ht, he⟩ := h j s hj
    exact ⟨hw, b, o, q, c, q1, c1, q2, c2, hp, hl, hc, ha, ⟨k, ht⟩, ⟨k, he⟩⟩
end Go.Proofs.YthlnjnmomnpnpaaGreatDoor
