/- Rows of the law's own: cloned, and one thing more. -/
import Derived.Test.YthlnjnmomnpnpaaGreatDoorYRx
namespace Go.Proofs.YthlnjnmomnpnpaaGreatDoor
open Go.RowKit Tk Sy
set_option linter.unusedVariables false
set_option linter.unusedSimpArgs false
structure RowTy {α : Type} (enc : α → List Value) (k : Nat) (t T : TypeId) (bytes : Nat) : Prop where
  len : ∀ x, (enc x).length = k
  one : ∀ x, ∀ u ∈ enc x, u.oneCell' = true
  und : Tryz.prog.underlying t = some (.slice T)
  info : ∃ i z, Tryz.prog.info? T = some i ∧ i.zero = some z ∧ i.size = k ∧ i.bytes = bytes ∧ z.cells.size = k
  pos : 0 < k
  small : bytes ≤ 1000
theorem addr_add (b o n : Nat) : (⟨b, o, none⟩ : Addr).add n = ⟨b, o + n, none⟩ := by simp [Addr.add]
theorem enc_news {α : Type} {enc : α → List Value} {k : Nat} (hk : ∀ x, (enc x).length = k) {w : World} {b o : Nat} {r : List α} (hs : ∀ (j : Nat) (x : α), r[j]? = some x → ∀ (i : Nat) (v : Value), (enc x)[i]? = some v → w.cell? ⟨b, o + j * k + i, none⟩ = some v) : ∀ (n : Nat) (u : Value), (r.flatMap enc)[n]? = some u → w.cell? ((⟨b, o, none⟩ : Addr).add n) = some u := by
  induction r generalizing o with
  | nil => intro n u h; simp at h
  | cons x r ih =>
    intro n u h
    rw [List.flatMap_cons] at h
    by_cases hn : n < k
    · rw [List.getElem?_append_left (by rw [hk]; exact hn)] at h
      have := hs 0 x rfl n u h
      rw [Nat.zero_mul, Nat.add_zero] at this
      rw [addr_add]
      exact this
    · rw [List.getElem?_append_right (by rw [hk]; omega), hk] at h
      have := ih (o := o + k) (fun j y hj i v hv => by
        have := hs (j + 1) y (by simpa using hj) i v hv
        rw [Nat.succ_mul] at this
        rw [show o + k + j * k + i = o + (j * k + k) + i by omega]
        exact this) (n - k) u h
      rw [addr_add] at this ⊢
      rw [show o + k + (n - k) = o + n by omega] at this
      exact this
theorem flat_one {α : Type} {enc : α → List Value} (h1 : ∀ x, ∀ u ∈ enc x, u.oneCell' = true) (r : List α) : ∀ u ∈ r.flatMap enc, u.oneCell' = true := by
  intro u hu
  obtain ⟨x, _, hx⟩ := List.mem_flatMap.1 hu
  exact h1 x u hx
/-- a clone: a row of one's own -/
theorem clone_new {α : Type} {enc : α → List Value} {k : Nat} {t T : TypeId} {bytes : Nat} (H : RowTy enc k t T bytes) {w : World} {src : Option Addr} {m c : Nat} {r : List α} (hr : r.length = m) (hs : EncAt enc k w src r) (hL : m ≤ 100000) :
    ∃ v' w', (Builtin.append_ #[t, t] t #[.slice none 0 0, .slice src m c]).run Tryz.prog w = .ok v' w' ∧ ERow enc T k w' w.heap.size v' r ∧ Bel w w' := by
  obtain ⟨i, z, hi, hz, hsz, hby, hzs⟩ := H.info
  by_cases h0 : r = []
  · subst h0
    have hm : m = 0 := hr.symm
    subst hm
    refine ⟨.slice none 0 0, w, ?_, ERow.nil _ _ _ _ _, Bel.refl w⟩
    have ht := H.und
    cases src <;> simp [Builtin.append_, run_underlying ht, sizeOf, typeInfo, hi, Builtin.lenOf, Builtin.firstCells, loadCells, loadCellsFrom]
  · obtain ⟨x, hx⟩ : ∃ x, r[0]? = some x := ⟨_, List.getElem?_eq_getElem (List.length_pos_iff.2 h0)⟩
    obtain ⟨b, o, rfl, hb, _⟩ := hs 0 x hx
    have hs2 : ∀ (j : Nat) (x : α), r[j]? = some x → ∀ (i : Nat) (v : Value), (enc x)[i]? = some v → w.cell? ⟨b, o + j * k + i, none⟩ = some v := fun j y hj i v hv => by
      obtain ⟨b', o', hp, _, hc⟩ := hs j y hj
      cases hp
      exact hc i v hv
    have hlt : (0 + m) * bytes ≤ 100000 * 1000 := by
      rw [Nat.zero_add]
      exact Nat.mul_le_mul hL H.small
    obtain ⟨v', w', hrun, hown, hgr, _⟩ := run_append_own (P := Tryz.prog) w w.heap.size t t T i z k bytes H.und hi hz hsz hby hzs H.pos (.slice none 0 0) 0 [] (World.ownsRow_nil _ _ _ _) ⟨b, o, none⟩ m c (r.flatMap enc) (by rw [flat_len H.len, hr]) (enc_news H.len hs2) (flat_one H.one r) (by unfold maxLen; omega) (by omega) (Nat.le_refl _)
    refine ⟨v', w', hrun, ?_, ⟨hgr.os, hgr.tape, hgr.output, hgr.size, fun k hk => hgr.block k hk (by simp [Value.ownBlock])⟩⟩
    rw [Nat.zero_add, List.nil_append, ← hr] at hown
    exact hown
/-- one thing more -/
theorem one_more {α : Type} {enc : α → List Value} {k : Nat} {t T : TypeId} {bytes : Nat} (H : RowTy enc k t T bytes) {w : World} {base : Nat} {v : Value} {l : List α} (h : ERow enc T k w base v l) (x : α) {B c : Nat} {cs : Array Value} {tt : TypeId} {fr : Nat × Nat} (hB : w.heap[B]? = some (.cells cs tt fr)) (hcs : cs = (enc x).toArray) (hL : l.length ≤ 100000) (hb : base ≤ w.heap.size) :
    ∃ v' w', (Builtin.append_ #[t, t] t #[v, .slice (some ⟨B, 0, none⟩) 1 c]).run Tryz.prog w = .ok v' w' ∧ ERow enc T k w' base v' (l ++ [x]) ∧ Sv (fun b => v.ownBlock = some b) w w' := by
  obtain ⟨i, z, hi, hz, hsz, hby, hzs⟩ := H.info
  have hlt : (l.length + 1) * bytes ≤ 100001 * 1000 := Nat.mul_le_mul (by omega) H.small
  obtain ⟨v', w', hrun, hown, hsv, _⟩ := append_sv (P := Tryz.prog) w base t t T i z k bytes H.und hi hz hsz hby hzs H.pos v l.length (l.flatMap enc) h ⟨B, 0, none⟩ 1 c (enc x) (by rw [H.len, Nat.one_mul]) (fun j u hu => by
    rw [addr_add, Nat.zero_add, cell_of_heap hB, hcs, List.getElem?_toArray]
    exact hu) (H.one x) (by unfold maxLen; omega) (by omega) hb (.inl (by omega))
  refine ⟨v', w', hrun, ?_, hsv⟩
  show w'.ownsRow base T k v' (l ++ [x]).length ((l ++ [x]).flatMap enc)
  rw [List.length_append, List.length_singleton, List.flatMap_append]
  simpa using hown
/-- names -/
abbrev encN (s : ByteArray) : List Value := [.string s]
theorem nameTy : RowTy encN 1 59 9 16 :=
  ⟨fun _ => rfl, fun x u hu => by rw [List.mem_singleton.1 hu]; rfl, Tryz.underlying59, ⟨(Tryz.prog.info? 9).get (by kernel_rfl), .string ⟨#[]⟩, by kernel_rfl, by kernel_rfl, by kernel_rfl, by kernel_rfl, by kernel_rfl⟩, by decide, by decide⟩
theorem NmsAt.enc {w : World} {p : Option Addr} {l : List ByteArray} (h : NmsAt w p l) : EncAt encN 1 w p l := fun j x hj => by
  obtain ⟨_, b, o, hp, hb, hc⟩ := h j x hj
  refine ⟨b, o, hp, hb, fun i v hv => ?_⟩
  cases i with
  | zero =>
    have hv' : Value.string x = v := by simpa using hv
    rw [← hv', Nat.mul_one, Nat.add_zero]
    exact hc
  | succ i => simp at hv
theorem EncAt.nms {w : World} {p : Option Addr} {l : List ByteArray} (h : EncAt encN 1 w p l) (hl : ∀ x ∈ l, x.size ≤ maxLen) : NmsAt w p l := fun j x hj => by
  obtain ⟨b, o, hp, hb, hc⟩ := h j x hj
  refine ⟨hl x (List.mem_of_getElem? hj), b, o, hp, hb, ?_⟩
  have := hc 0 (.string x) rfl
  rwa [Nat.mul_one, Nat.add_zero] at this
theorem NmsAt.size {w : World} {p : Option Addr} {l : List ByteArray} (h : NmsAt w p l) : ∀ x ∈ l, x.size ≤ maxLen := fun x hx => by
  obtain ⟨j, hj⟩ := List.getElem?_of_mem hx
  exact (h j x hj).1
end Go.Proofs.YthlnjnmomnpnpaaGreatDoor
