/- A memory of harts in rows; whether a hart and a word are there. -/
import Derived.Test.YtobpoghophhphaaMBase
import Derived.Handy
import Derived.WalkSpells
import Derived.IntWalk
import Derived.Deep.QuietTactic
import Derived.Deep.DeepCutAuto
import Derived.Deep.CutBlock
namespace Go.Proofs.Ytobpoghophhphaa
open Go.RowKit Mm
set_option linter.unusedVariables false
set_option linter.unusedSimpArgs false
/-- where a memory lies: its words, what is pending, what is reserved; and each hart's row -/
structure Mv where
  w : Sl
  p : Sl
  r : Sl
  rows : List Sl
abbrev mval (v : Mv) : Value := .agg #[.slice v.w.p v.w.n v.w.c, .slice v.p.p v.p.n v.p.c, .slice v.r.p v.r.n v.r.c]
structure MemAt (base : Nat) (W : World) (v : Mv) (m : Mem) : Prop where
  wd : ERow encI 3 1 W base v.w.val m.words
  pd : ERow encS 46 1 W base v.p.val v.rows
  rl : v.rows.length = m.pend.length
  ro : ∀ (i : Nat) (s : Sl) (l : List (Int × Int)), v.rows[i]? = some s → m.pend[i]? = some l → ERow encE 48 2 W base s.val l
  rs : ERow encI 3 1 W base v.r.val m.res
  ne : ∀ b, v.w.val.ownBlock = some b → v.r.val.ownBlock ≠ some b
  ap : ∀ (i j : Nat) (s t : Sl) (b : Nat), v.rows[i]? = some s → v.rows[j]? = some t → i ≠ j → s.val.ownBlock = some b → t.val.ownBlock ≠ some b
theorem MemAt.bel {base : Nat} {W W' : World} {v : Mv} {m : Mem} (h : MemAt base W v m) (hb : Bel W W') : MemAt base W' v m :=
  ⟨h.wd.bel hb, h.pd.bel hb, h.rl, fun i s l hs hl => (h.ro i s l hs hl).bel hb, h.rs.bel hb, h.ne, h.ap⟩
theorem MemAt.mono {base base' : Nat} {W : World} {v : Mv} {m : Mem} (h : MemAt base W v m) (hb : base' ≤ base) : MemAt base' W v m :=
  ⟨h.wd.mono hb, h.pd.mono hb, h.rl, fun i s l hs hl => (h.ro i s l hs hl).mono hb, h.rs.mono hb, h.ne, h.ap⟩
/-- but for one block, of another kind -/
theorem ERow.keep {α : Type} {enc : α → List Value} {t : TypeId} {k : Nat} {w w' : World} {base : Nat} {v : Value} {l : List α} (h : ERow enc t k w base v l) {g : Nat} (hs : Svg g w w') {cs : Array Value} {t' : TypeId} {fr : Nat × Nat} (hg : w.heap[g]? = some (.cells cs t' fr)) (ht : t' ≠ t) : ERow enc t k w' base v l :=
  h.sv hs fun b hb c => by
    obtain ⟨_, cs', h'⟩ := h.blk hb
    rw [c] at h'
    rw [h'] at hg
    injection hg with hg
    injection hg with _ hg _
    exact ht hg.symm
theorem MemAt.keep {base : Nat} {W W' : World} {v : Mv} {m : Mem} (h : MemAt base W v m) {g : Nat} (hs : Svg g W W') {cs : Array Value} {t : TypeId} {fr : Nat × Nat} (hg : W.heap[g]? = some (.cells cs t fr)) (h1 : t ≠ 3) (h2 : t ≠ 46) (h3 : t ≠ 48) : MemAt base W' v m :=
  ⟨h.wd.keep hs hg h1, h.pd.keep hs hg h2, h.rl, fun i s l hi hl => (h.ro i s l hi hl).keep hs hg h3, h.rs.keep hs hg h1, h.ne, h.ap⟩
theorem MemAt.pn {base : Nat} {W : World} {v : Mv} {m : Mem} (h : MemAt base W v m) : v.p.n = m.pend.length := h.pd.n.trans h.rl
theorem MemAt.wn {base : Nat} {W : World} {v : Mv} {m : Mem} (h : MemAt base W v m) : v.w.n = m.words.length := h.wd.n
theorem MemAt.rn {base : Nat} {W : World} {v : Mv} {m : Mem} (h : MemAt base W v m) (ho : Ok m) : v.r.n = m.pend.length := h.rs.n.trans ho.pr
theorem ERow.at1 {α : Type} {enc : α → List Value} {t : TypeId} (hk : ∀ x, (enc x).length = 1) {w : World} {base : Nat} {s : Sl} {l : List α} (h : ERow enc t 1 w base s.val l) {j : Nat} {x : α} (hj : l[j]? = some x) {u : Value} (hu : enc x = [u]) :
    ∃ g cs, s.p = some ⟨g, 0, none⟩ ∧ base ≤ g ∧ w.heap[g]? = some (.cells cs t (0, 0)) ∧ s.n ≤ s.c ∧ j < s.n ∧ w.cell? ⟨g, j, none⟩ = some u ∧ w.frozen? ⟨g, j, none⟩ = false := by
  obtain ⟨g, cs, h1, h2, h3, h4, h5, h6, h7, h8⟩ := h.at hk hj
  refine ⟨g, cs, h1, h2, h3, h5, h6, ?_, frozen_of_heap h3 j⟩
  have := h8 0 u (by rw [hu]; rfl)
  rwa [Nat.mul_one, Nat.add_zero] at this
/-- a word -/
theorem MemAt.word {base : Nat} {W : World} {v : Mv} {m : Mem} (h : MemAt base W v m) {a : Nat} (ha : isW m a = true) :
    ∃ g cs, v.w.p = some ⟨g, 0, none⟩ ∧ base ≤ g ∧ W.heap[g]? = some (.cells cs 3 (0, 0)) ∧ v.w.n ≤ v.w.c ∧ a < v.w.n ∧ W.cell? ⟨g, a, none⟩ = some (.int .i64 (wordN m a)) ∧ W.frozen? ⟨g, a, none⟩ = false := by
  have := word_get ha
  exact h.wd.at1 (fun _ => rfl) this rfl
/-- what is reserved -/
theorem MemAt.resv {base : Nat} {W : World} {v : Mv} {m : Mem} (h : MemAt base W v m) (ho : Ok m) {a : Nat} (ha : isH m a = true) :
    ∃ g cs, v.r.p = some ⟨g, 0, none⟩ ∧ base ≤ g ∧ W.heap[g]? = some (.cells cs 3 (0, 0)) ∧ v.r.n ≤ v.r.c ∧ a < v.r.n ∧ W.cell? ⟨g, a, none⟩ = some (.int .i64 (resN m a)) ∧ W.frozen? ⟨g, a, none⟩ = false := by
  have := res_get ho ha
  exact h.rs.at1 (fun _ => rfl) this rfl
/-- a hart's row -/
theorem MemAt.hart {base : Nat} {W : World} {v : Mv} {m : Mem} (h : MemAt base W v m) {a : Nat} (ha : isH m a = true) :
    ∃ g cs s, v.p.p = some ⟨g, 0, none⟩ ∧ base ≤ g ∧ W.heap[g]? = some (.cells cs 46 (0, 0)) ∧ v.p.n ≤ v.p.c ∧ a < v.p.n ∧ W.cell? ⟨g, a, none⟩ = some (.slice s.p s.n s.c) ∧ W.frozen? ⟨g, a, none⟩ = false ∧
      v.rows[a]? = some s ∧ ERow encE 48 2 W base (.slice s.p s.n s.c) (row m a) := by
  have hr := row_get ha
  have hl := (List.getElem?_eq_some_iff.1 hr).1
  have hv : v.rows[(a : Int).toNat]? = some (v.rows[(a : Int).toNat]'(by rw [h.rl]; exact hl)) := List.getElem?_eq_getElem _
  generalize v.rows[(a : Int).toNat]'(by rw [h.rl]; exact hl) = s at hv
  obtain ⟨g, cs, h1, h2, h3, h4, h5, h6, h7⟩ := h.pd.at1 (fun _ => rfl) hv rfl
  exact ⟨g, cs, s, h1, h2, h3, h4, h5, h6, h7, hv, h.ro _ _ _ hv hr⟩
set_option maxRecDepth 100000 in
theorem isHart_any (v : Mv) (W : World) (h : Int) (hn : v.r.n = v.p.n) : Calls Try.prog 28 #[.agg #[.slice v.w.p v.w.n v.w.c, .slice v.p.p v.p.n v.p.c, .slice v.r.p v.r.n v.r.c], .int .i64 h] W fun e w' => e = .returned (.bool (decide (0 ≤ h) && decide (h < (v.p.n : Int)))) ∧ Bel W w' := by
  obtain ⟨⟨wp, wn, wc⟩, ⟨pp, pn, pc⟩, ⟨rp, rn, rc⟩, rows⟩ := v
  obtain rfl : rn = pn := hn
  simp only
  by_cases h0 : 0 ≤ h
  · by_cases h1 : h < (rn : Int)
    · go_enter Try.func28, Try.ntmps28
      go_wp2
      go_ret
      exact ⟨by simp [h0, h1], (Bel.refl W).alloc _ _⟩
    · go_enter Try.func28, Try.ntmps28
      go_wp2
      go_ret
      exact ⟨by simp [h0, h1], (Bel.refl W).alloc _ _⟩
  · go_enter Try.func28, Try.ntmps28
    go_wp2
    go_ret
    have e0 : decide (0 ≤ h) = false := decide_eq_false (by omega)
    exact ⟨rb (by rw [e0]; rfl), (Bel.refl W).alloc _ _⟩
set_option maxRecDepth 100000 in
theorem isWord_any (v : Mv) (W : World) (h : Int) : Calls Try.prog 29 #[.agg #[.slice v.w.p v.w.n v.w.c, .slice v.p.p v.p.n v.p.c, .slice v.r.p v.r.n v.r.c], .int .i64 h] W fun e w' => e = .returned (.bool (decide (0 ≤ h) && decide (h < (v.w.n : Int)))) ∧ Bel W w' := by
  obtain ⟨⟨wp, wn, wc⟩, ⟨pp, pn, pc⟩, ⟨rp, rn, rc⟩, rows⟩ := v
  simp only
  by_cases h0 : 0 ≤ h
  · by_cases h1 : h < (wn : Int)
    · go_enter Try.func29, Try.ntmps29
      go_wp2
      go_ret
      exact ⟨by simp [h0, h1], (Bel.refl W).alloc _ _⟩
    · go_enter Try.func29, Try.ntmps29
      go_wp2
      go_ret
      exact ⟨by simp [h0, h1], (Bel.refl W).alloc _ _⟩
  · go_enter Try.func29, Try.ntmps29
    go_wp2
    go_ret
    have e0 : decide (0 ≤ h) = false := decide_eq_false (by omega)
    exact ⟨rb (by rw [e0]; rfl), (Bel.refl W).alloc _ _⟩
theorem isHart_lit {base : Nat} {W0 : World} {v : Mv} {m : Mem} (hm : MemAt base W0 v m) (ho : Ok m) {h : Int} {r : Bool} (hr : isH m h = r) (W : World) :
    Calls Try.prog 28 #[.agg #[.slice v.w.p v.w.n v.w.c, .slice v.p.p v.p.n v.p.c, .slice v.r.p v.r.n v.r.c], .int .i64 h] W fun e w' => e = .returned (.bool r) ∧ Bel W w' := by
  refine (isHart_any v W h (by rw [hm.rn ho, hm.pn])).mono ?_
  rintro e w' ⟨rfl, hb⟩
  exact ⟨rb (by rw [hm.pn, ← hr]; rfl), hb⟩
theorem isWord_lit {base : Nat} {W0 : World} {v : Mv} {m : Mem} (hm : MemAt base W0 v m) {h : Int} {r : Bool} (hr : isW m h = r) (W : World) :
    Calls Try.prog 29 #[.agg #[.slice v.w.p v.w.n v.w.c, .slice v.p.p v.p.n v.p.c, .slice v.r.p v.r.n v.r.c], .int .i64 h] W fun e w' => e = .returned (.bool r) ∧ Bel W w' := by
  refine (isWord_any v W h).mono ?_
  rintro e w' ⟨rfl, hb⟩
  exact ⟨rb (by rw [hm.wn, ← hr]; rfl), hb⟩
end Go.Proofs.Ytobpoghophhphaa
