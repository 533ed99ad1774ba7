/- What a walk keeps of the memory where some blocks may turn; rows of items and of numbers. -/
import Derived.Test.YtcockpphacebbaaLEq
namespace Go.Proofs.Ytcockpphacebbaa
open Go.RowKit Rv Lb
set_option linter.unusedVariables false
/-- of what was there nothing turns but in the blocks of S; no mark -/
structure Sav (S : Nat → Prop) (w w' : World) : Prop where
  os : w'.os = w.os
  tape : w'.tape = w.tape
  output : w'.output = w.output
  size : w.heap.size ≤ w'.heap.size
  block : ∀ k, k < w.heap.size → ¬ S k → w'.heap[k]? = w.heap[k]?
  mark : ∀ a, w'.frozen? a = w.frozen? a
theorem Both.sav {w w' : World} (h : Both w w') (S : Nat → Prop) : Sav S w w' := ⟨h.1.os, h.1.tape, h.1.output, h.1.size, fun k hk _ => h.1.block k hk, h.2⟩
theorem Sav.refl (S : Nat → Prop) (w : World) : Sav S w w := (Both.refl w).sav S
theorem Sav.trans {S : Nat → Prop} {a b c : World} (h : Sav S a b) (k : Sav S b c) : Sav S a c :=
  ⟨k.os.trans h.os, k.tape.trans h.tape, k.output.trans h.output, Nat.le_trans h.size k.size, fun j hj hs => (k.block j (Nat.lt_of_lt_of_le hj h.size) hs).trans (h.block j hj hs), fun x => (k.mark x).trans (h.mark x)⟩
theorem Sav.both {S : Nat → Prop} {w w' : World} (h : Sav S w w') {w0 : World} (h0 : Both w0 w) (hs : ∀ k, S k → w0.heap.size ≤ k) : Both w0 w' :=
  ⟨⟨h.os.trans h0.1.os, h.tape.trans h0.1.tape, h.output.trans h0.1.output, Nat.le_trans h0.1.size h.size, fun k hk => (h.block k (Nat.lt_of_lt_of_le hk h0.1.size) (fun c => by have := hs k c; omega)).trans (h0.1.block k hk)⟩, fun a => (h.mark a).trans (h0.2 a)⟩
theorem Sav.mono {S T : Nat → Prop} {w w' : World} (h : Sav S w w') (hs : ∀ k, k < w.heap.size → S k → T k) : Sav T w w' :=
  ⟨h.os, h.tape, h.output, h.size, fun k hk hn => h.block k hk (fun c => hn (hs k hk c)), h.mark⟩
theorem Sav.alloc {S : Nat → Prop} {w w' : World} (h : Sav S w w') (c : Array Value) (t : TypeId) : Sav S w (w'.alloc (.cells c t)) := h.trans (((Both.refl w').alloc c t).sav S)
theorem sav_setRow {w : World} (S : Nat → Prop) {g : Nat} (hg : S g ∨ w.heap.size ≤ g) (cs : Array Value) : Sav S w (w.setRow g cs) :=
  ⟨rfl, rfl, rfl, by rw [setRow_size]; exact Nat.le_refl _, fun k hk hs => setRow_other _ _ _ _ (by rintro rfl; rcases hg with h | h; exact hs h; omega), fun a => frozen_setRow _ _ _ a⟩
theorem Sav.setRow {S : Nat → Prop} {w w' : World} (h : Sav S w w') {g : Nat} (hg : S g ∨ w.heap.size ≤ g) (cs : Array Value) : Sav S w (w'.setRow g cs) :=
  ⟨h.os, h.tape, h.output, by rw [setRow_size]; exact h.size, fun k hk hs => (setRow_other _ _ _ _ (by rintro rfl; rcases hg with h | h; exact hs h; omega)).trans (h.block k hk hs), fun a => (frozen_setRow _ _ _ a).trans (h.mark a)⟩
theorem Sav.cell {S : Nat → Prop} {w w' : World} (h : Sav S w w') {p : Addr} (hp : p.block < w.heap.size) (hs : ¬ S p.block) : w'.cell? p = w.cell? p := by
  unfold World.cell?
  rw [h.block _ hp hs]
theorem Sav.drew {S : Nat → Prop} {w w' : World} (h : Sav S w w') : Sav S w w'.drew := h.trans (((Both.refl w').drew).sav S)
/-- a row of numbers lies at a place -/
def IntsAt (w : World) (b o : Nat) (l : List Int) : Prop := b < w.heap.size ∧ ∀ (j : Nat) (i : Int), l[j]? = some i → w.cell? ⟨b, o + j, none⟩ = some (.int .i64 i)
theorem IntsAt.sav {S : Nat → Prop} {w w' : World} {b o : Nat} {l : List Int} (h : IntsAt w b o l) (hb : Sav S w w') (hs : ¬ S b) : IntsAt w' b o l :=
  ⟨Nat.lt_of_lt_of_le h.1 hb.size, fun j i hj => (hb.cell (p := ⟨b, o + j, none⟩) h.1 hs).trans (h.2 j i hj)⟩
theorem IntsAt.both {w w' : World} {b o : Nat} {l : List Int} (h : IntsAt w b o l) (hb : Both w w') : IntsAt w' b o l := h.sav (hb.sav fun _ => False) id
/-- a row of items lies at a place -/
def ItemsAt (w : World) (b o : Nat) (l : List Itm) : Prop := b < w.heap.size ∧ ∀ (j : Nat) (x : Itm), l[j]? = some x → ∀ (k : Nat) (v : Value), (cells8 x)[k]? = some v → w.cell? ⟨b, o + j * 8 + k, none⟩ = some v
theorem ItemsAt.sav {S : Nat → Prop} {w w' : World} {b o : Nat} {l : List Itm} (h : ItemsAt w b o l) (hb : Sav S w w') (hs : ¬ S b) : ItemsAt w' b o l :=
  ⟨Nat.lt_of_lt_of_le h.1 hb.size, fun j x hj k v hk => (hb.cell (p := ⟨b, o + j * 8 + k, none⟩) h.1 hs).trans (h.2 j x hj k v hk)⟩
theorem ItemsAt.both {w w' : World} {b o : Nat} {l : List Itm} (h : ItemsAt w b o l) (hb : Both w w') : ItemsAt w' b o l := h.sav (hb.sav fun _ => False) id
/-- the eight cells of one -/
theorem ItemsAt.get {w : World} {B f : Nat} {l : List Itm} (h : ItemsAt w B f l) {j : Nat} {k o d a b n m : Int} {s : ByteArray} (hj : l[j]? = some ⟨k, ⟨o, d, a, b, n⟩, s, m⟩) :
    w.cell? ⟨B, f + j * 8, none⟩ = some (.int .i64 k) ∧ w.cell? ⟨B, f + j * 8 + 1, none⟩ = some (.int .i64 o) ∧ w.cell? ⟨B, f + j * 8 + 2, none⟩ = some (.int .i64 d) ∧ w.cell? ⟨B, f + j * 8 + 3, none⟩ = some (.int .i64 a) ∧
      w.cell? ⟨B, f + j * 8 + 4, none⟩ = some (.int .i64 b) ∧ w.cell? ⟨B, f + j * 8 + 5, none⟩ = some (.int .i64 n) ∧ w.cell? ⟨B, f + j * 8 + 6, none⟩ = some (.string s) ∧ w.cell? ⟨B, f + j * 8 + 7, none⟩ = some (.int .i64 m) := by
  have hc := h.2 j _ hj
  exact ⟨hc 0 _ rfl, hc 1 _ rfl, hc 2 _ rfl, hc 3 _ rfl, hc 4 _ rfl, hc 5 _ rfl, hc 6 _ rfl, hc 7 _ rfl⟩
theorem items_one {l : List Itm} {k : Nat} (h : k < l.length) : ∃ (kd o d a b n m : Int) (s : ByteArray), l[k]? = some ⟨kd, ⟨o, d, a, b, n⟩, s, m⟩ := by
  exact ⟨l[k].kind, l[k].i.op, l[k].i.d, l[k].i.a, l[k].i.b, l[k].i.n, l[k].n, l[k].name, by rw [List.getElem?_eq_getElem h]⟩
end Go.Proofs.Ytcockpphacebbaa
