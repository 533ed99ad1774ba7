/- Appending to a row of the call's own: what is kept of the memory, marks and all; making a row of a size that is no literal. -/
import Derived.Test.YtcockpphacebbaaLMem
import Derived.OwnWalk
namespace Go.Proofs.Ytcockpphacebbaa
open Go.RowKit Rv Lb
set_option linter.unusedVariables false
theorem lt_of_heap {w : World} {g : Nat} {o : Obj} (h : w.heap[g]? = some o) : g < w.heap.size := (Array.getElem?_eq_some_iff.1 h).1
theorem append_sav {P : Program} (w : World) (base : Nat) (t ty e : TypeId) (i : TypeInfo) (z : Value) (size bytes : Nat) (ht : P.underlying t = some (.slice e)) (hi : P.info? e = some i) (hz : i.zero = some z)
    (hsize : i.size = size) (hby : i.bytes = bytes) (hzs : z.cells.size = size) (hsz : 0 < size) (v : Value) (n : Nat) (xs : List Value) (hown : w.ownsRow base e size v n xs)
    (a : Addr) (m c : Nat) (news : List Value) (hl : news.length = m * size) (hnews : ∀ j u, news[j]? = some u → w.cell? (a.add j) = some u) (h1 : ∀ u ∈ news, u.oneCell' = true)
    (h63 : n + m ≤ maxLen) (hbytes : (n + m) * bytes ≤ 140737488355328) (hbase : base ≤ w.heap.size) (hm : 0 < m ∨ v ≠ .slice none 0 0) :
    ∃ v' w', (Builtin.append_ #[t, t] ty #[v, .slice (some a) m c]).run P w = .ok v' w' ∧ w'.ownsRow base e size v' (n + m) (xs ++ news) ∧ Sav (fun k => v.ownBlock = some k) w w' ∧ (v' ≠ .slice none 0 0) := by
  obtain ⟨v', w', hrun, hown', _, hnil⟩ := run_append_own (P := P) w base t ty e i z size bytes ht hi hz hsize hby hzs hsz v n xs hown a m c news hl hnews h1 h63 hbytes hbase
  have hv' : v' ≠ .slice none 0 0 := fun c => by
    obtain ⟨c1, c2⟩ := hnil.1 c
    rcases hm with h | h
    · omega
    · exact h c1
  refine ⟨v', w', hrun, hown', ?_, hv'⟩
  subst hsize
  subst hby
  have hsmall : n + m ≤ 9223372036854775807 := by simp only [maxLen] at h63; omega
  rcases hown.2 with ⟨rfl, rfl⟩ | ⟨g, cap, cur, rfl, hbg, hg, hnc, hcm, hcs, htake⟩
  · have hm0 : 0 < m := by rcases hm with h | h; exact h; exact absurd rfl h
    rw [run_append_nil (P := P) w t ty e i z ht hi hz a m c news hl hnews hm0 (by omega) (by have hb := hbytes; simp only [Nat.zero_add] at hb; omega)] at hrun
    injection hrun with _ hw
    subst hw
    exact (((Both.refl w).drew).alloc _ _).sav _
  · by_cases hroom : n + m ≤ cap
    · have hfit : n * i.size + news.length ≤ cur.size := by rw [hl, hcs, ← Nat.add_mul]; exact Nat.mul_le_mul_right _ hroom
      rw [run_append_room (P := P) w t ty e i ht hi g n cap cur hg a m c news hl hnews h1 hroom hfit] at hrun
      injection hrun with _ hw
      subst hw
      exact sav_setRow (g := g) (fun k => (Value.slice (some ⟨g, 0, none⟩) n cap).ownBlock = some k) (Or.inl rfl) _
    · have holds : ∀ j u, xs[j]? = some u → w.cell? ((⟨g, 0, none⟩ : Addr).add j) = some u := hown.cells (g := g) rfl
      rw [run_append_grow (P := P) w t ty e i z ht hi hz ⟨g, 0, none⟩ n cap xs hown.1 holds a m c news hl hnews (by omega) (by omega) (growslice_fits (by omega) hbytes)] at hrun
      injection hrun with _ hw
      subst hw
      exact (((Both.refl w).drew).alloc _ _).sav _
theorem wpList_app {P : Program} {w w' : World} {ops : Array Oper} {rest : List Oper} {o : Oper} {a : Act} {Q : Exit → Act → World → Prop} (hgd : o.guard = none) (s x : Operand) (t : TypeId)
    (ho : o.op = .call { callee := .builtin .append, args := #[s, x], argTypes := #[t, t] }) (sv xv r : Value) (hs : a.eval s = sv) (hx : a.eval x = xv)
    (hrun : (Builtin.append_ #[t, t] o.type #[sv, xv]).run P w = .ok r w') (h : wpList P ops Q rest (a.put o.dst r) w') : wpList P ops Q (o :: rest) a w := by
  refine wpList_plain hgd fun K hK => ?_
  unfold Oper.wp
  simp [execOp, ho, resolve, invoke, builtin, hs, hx, hrun, Result.andThen]
  exact hK _ _ h
theorem info_int : ∃ i : TypeInfo, Try.prog.info? 3 = some i ∧ i.zero = some (.int .i64 0) ∧ i.size = 1 ∧ i.bytes = 8 := ⟨(Try.prog.info? 3).get (by kernel_rfl), by kernel_rfl, by kernel_rfl, by kernel_rfl, by kernel_rfl⟩
def ints (l : List Int) : List Value := l.map (Value.int .i64)
/-- a row of ints of the call's own -/
abbrev IRow (w : World) (base : Nat) (v : Value) (l : List Int) : Prop := w.ownsRow base 3 1 v l.length (ints l)
theorem ownsRow_sav {S : Nat → Prop} {w w' : World} {base : Nat} {e : TypeId} {size : Nat} {v : Value} {n : Nat} {xs : List Value} (h : w.ownsRow base e size v n xs) (hs : Sav S w w') (hn : ∀ k, v.ownBlock = some k → ¬ S k) : w'.ownsRow base e size v n xs := by
  refine ⟨h.1, ?_⟩
  rcases h.2 with hn' | ⟨g, cap, cur, rfl, hb, hgg, rest⟩
  · exact .inl hn'
  · exact .inr ⟨g, cap, cur, rfl, hb, (hs.block g (Array.getElem?_eq_some_iff.1 hgg).1 (hn g rfl)).trans hgg, rest⟩
theorem IRow.sav {S : Nat → Prop} {w w' : World} {base : Nat} {v : Value} {l : List Int} (h : IRow w base v l) (hs : Sav S w w') (hn : ∀ k, v.ownBlock = some k → ¬ S k) : IRow w' base v l := ownsRow_sav h hs hn
theorem IRow.nil (w : World) (base : Nat) : IRow w base (.slice none 0 0) [] := World.ownsRow_nil _ _ _ _
/-- one int more, which lies in a block of its own -/
theorem irow_one {w : World} {base : Nat} {v : Value} {l : List Int} (h : IRow w base v l) (t ty : TypeId) (ht : Try.prog.underlying t = some (.slice 3)) (B : Nat) (x : Int) (hx : w.cell? ⟨B, 0, none⟩ = some (.int .i64 x)) (hlen : l.length + 1 ≤ 1099511627776) (hbase : base ≤ w.heap.size) :
    ∃ v' w', (Builtin.append_ #[t, t] ty #[v, .slice (some ⟨B, 0, none⟩) 1 1]).run Try.prog w = .ok v' w' ∧ IRow w' base v' (l ++ [x]) ∧ Sav (fun k => v.ownBlock = some k) w w' ∧ v' ≠ .slice none 0 0 := by
  obtain ⟨i, hi, hz, hs, hb⟩ := info_int
  obtain ⟨v', w', h1, h2, h3⟩ := append_sav (P := Try.prog) w base t ty 3 i (.int .i64 0) 1 8 ht hi hz hs hb rfl (by decide) v l.length (ints l) h ⟨B, 0, none⟩ 1 1 [.int .i64 x] rfl
    (by intro j u hj
        match j, hj with
        | 0, hj => rw [← hj]; exact hx)
    (by intro u hu; simp at hu; subst hu; rfl) (by unfold maxLen; omega) (by omega) hbase (Or.inl (by omega))
  refine ⟨v', w', h1, ?_, h3⟩
  have e1 : (l ++ [x]).length = l.length + 1 := by simp
  have e2 : ints (l ++ [x]) = ints l ++ [.int .i64 x] := by simp [ints]
  unfold IRow
  rw [e1, e2]
  exact h2
/-- what an own row's value is, where it is not empty -/
theorem IRow.form {w : World} {base : Nat} {v : Value} {l : List Int} (h : IRow w base v l) (hne : v ≠ .slice none 0 0) : ∃ B c, v = .slice (some ⟨B, 0, none⟩) l.length c ∧ base ≤ B ∧ B < w.heap.size ∧ IntsAt w B 0 l ∧ ∀ j, w.frozen? ⟨B, j, none⟩ = false := by
  rcases h.2 with ⟨rfl, _⟩ | ⟨g, cap, cur, rfl, hb, hg, hnc, hcm, hcs, htake⟩
  · exact absurd rfl hne
  · have hlt := (Array.getElem?_eq_some_iff.1 hg).1
    refine ⟨g, cap, rfl, hb, hlt, ⟨hlt, fun j i hj => ?_⟩, fun j => World.ownsRow.frozenAt h j⟩
    rw [Nat.zero_add, World.ownsRow.cellAt h j (by have := (List.getElem?_eq_some_iff.1 hj).1; omega)]
    unfold ints
    rw [List.getElem?_map, hj]
    rfl
/-- make of a row of ints whose size is no literal -/
theorem make_ints (t : TypeId) (ht : Try.prog.underlying t = some (.slice 3)) (n c : Nat) (hnc : n ≤ c) (hc : c ≤ 1099511627776) (w : World) :
    (Instr.makeSlice t (.int .i64 (n : Int)) (.int .i64 (c : Int))).run Try.prog w = .ok (.slice (some ⟨w.heap.size, 0, none⟩) n c) (w.alloc (.cells (ints (List.replicate c 0)).toArray 3)) := by
  obtain ⟨i, hi, hz, hs, hb⟩ := info_int
  have := run_make (P := Try.prog) w t 3 i (.int .i64 0) ht hi hz .i64 .i64 n c (by omega) (by omega) (by rw [hb]; omega) (by omega)
  rw [hs, Nat.mul_one, Int.toNat_natCast, Int.toNat_natCast] at this
  rw [this]
  have e : madeCells (Value.cells (.int .i64 0)) c = (ints (List.replicate c 0)).toArray := by
    apply Array.ext'
    rw [show Value.cells (.int .i64 0) = #[.int .i64 0] from rfl, toList_madeCells_one]
    simp [ints]
  rw [e]
end Go.Proofs.Ytcockpphacebbaa
