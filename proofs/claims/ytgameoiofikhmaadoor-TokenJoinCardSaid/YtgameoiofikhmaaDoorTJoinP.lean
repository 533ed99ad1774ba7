/- Two texts with a line feed between, in plain words; the cells of a row's head; a row begun by several tokens at once. -/
import Derived.Test.YtgameoiofikhmaaDoorTItems
import Derived.Test.YtgameoiofikhmaaDoorTShiftP
namespace Go.Proofs.YtgameoiofikhmaaDoor
open Go.RowKit Tk
set_option linter.unusedVariables false
theorem scan_join (ra rb : List (Int × Int)) (L : List Int) (i j : Nat) : scan (textOf (its ra L 0 i) ++ ([10] ++ textOf (its rb L 1 j))) 1 =
    .ok (toksOf (its ra L 0 i) 1 ++ ((toksOf (its rb L 1 j) 1 ++ [(⟨5, [], 0, ((1 + feeds (textOf (its rb L 1 j)) : Nat) : Int)⟩ : Tok)]).map (Tok.down (feeds (textOf (its ra L 0 i)) + 1)))) := by
  rw [scan_items (its ra L 0 i) (its_ok ra L 0 i) _ 1, scan_blank (b := [10]) (by decide)]
  have e : 1 + feeds (textOf (its ra L 0 i)) + feeds [10] = 1 + (feeds (textOf (its ra L 0 i)) + 1) := by
    show 1 + feeds (textOf (its ra L 0 i)) + 1 = _
    omega
  rw [e, scan_down, scan_its rb L 1 j 1]
  rfl
theorem toksAt_head {w : World} {B : Nat} {l l2 : List Tok} (h : ToksAt w B 0 (l ++ l2)) : ∀ (j : Nat) (u : Value), (l.flatMap tcells)[j]? = some u → w.cell? ((⟨B, 0, none⟩ : Addr).add j) = some u := by
  intro j u hu
  have hj : j < l.length * 4 := by
    have := (List.getElem?_eq_some_iff.1 hu).1
    rwa [flat4_len] at this
  have hq : j / 4 < l.length := by omega
  have hx : l[j / 4]? = some l[j / 4] := List.getElem?_eq_getElem hq
  have hr : j % 4 < (tcells l[j / 4]).length := by show j % 4 < 4; omega
  have hv : (tcells l[j / 4])[j % 4]? = some ((tcells l[j / 4])[j % 4]) := List.getElem?_eq_getElem hr
  have he := flat4_get hx hv
  have e4 : j / 4 * 4 + j % 4 = j := by omega
  rw [e4, hu] at he
  have hx2 : (l ++ l2)[j / 4]? = some l[j / 4] := by rw [List.getElem?_append_left hq]; exact hx
  have hc := h.2 (j / 4) _ hx2 (j % 4) _ hv
  rw [Nat.zero_add, e4] at hc
  rw [Addr.add_lit, Nat.zero_add, hc, he]
theorem trow_start (w : World) (t ty : TypeId) (ht : Tryd.prog.underlying t = some (.slice 41)) (B m c : Nat) (l l2 : List Tok) (hm : l.length = m) (h : ToksAt w B 0 (l ++ l2)) (hlen : m ≤ 1099511627776) :
    ∃ v' w', (Builtin.append_ #[t, t] ty #[.slice none 0 0, .slice (some ⟨B, 0, none⟩) m c]).run Tryd.prog w = .ok v' w' ∧ TRow w' w.heap.size v' l ∧ Bel w w' := by
  obtain ⟨i, hi, hz, hs, hb⟩ := info_tok
  subst hm
  obtain ⟨v', w', h1, h2, h3, _⟩ := run_append_own (P := Tryd.prog) w w.heap.size t ty 41 i _ 4 40 ht hi hz hs hb rfl (by decide) (.slice none 0 0) 0 [] (World.ownsRow_nil _ _ _ _) ⟨B, 0, none⟩ l.length c (l.flatMap tcells) (flat4_len l) (toksAt_head h)
    (by
      intro u hu
      obtain ⟨x, _, hx⟩ := List.mem_flatMap.1 hu
      simp only [tcells, List.mem_cons, List.not_mem_nil, or_false] at hx
      rcases hx with rfl | rfl | rfl | rfl <;> rfl) (by unfold maxLen; omega) (by omega) (Nat.le_refl _)
  rw [Nat.zero_add, List.nil_append] at h2
  exact ⟨v', w', h1, h2, Below.grown (Below.refl _ _) h3 (Nat.le_refl _) (fun k hk => by cases hk)⟩
theorem wpList_tstart {ops : Array Oper} {rest : List Oper} {o : Oper} {a : Act} {w : World} {Q : Exit → Act → World → Prop} (hgd : o.guard = none) (s x : Operand)
    (ho : o.op = .call { callee := .builtin .append, args := #[s, x], argTypes := #[32, 32] }) (hs : a.eval s = .slice none 0 0) (B m c : Nat) (hx : a.eval x = .slice (some ⟨B, 0, none⟩) m c) (l l2 : List Tok) (hm : l.length = m) (h : ToksAt w B 0 (l ++ l2)) (hlen : m ≤ 1099511627776)
    (hK : ∀ v' w', TRow w' w.heap.size v' l → Bel w w' → wpList Tryd.prog ops Q rest (a.put o.dst v') w') : wpList Tryd.prog ops Q (o :: rest) a w := by
  obtain ⟨v', w', hrun, h1, h2⟩ := trow_start w 32 o.type Tryd.underlying32 B m c l l2 hm h hlen
  exact wpList_app hgd s x _ ho _ _ v' hs hx hrun (hK v' w' h1 h2)
theorem blank_at {L : List Int} {p : Option Addr} {c i n : Nat} {x : Int} {w : World} {t : ByteArray} (hx : x = (i : Int)) (h : str (blankV L i) = t) (hn : L.length = n) (hQ : IntsQ w p L) (hL : n ≤ 9223372036854775807) (hi : i ≤ 1000) :
    Calls Tryd.prog 12 #[.slice p n c, .int .i64 x] w fun e w' => e = .returned (.string t) ∧ Bel w w' := by
  subst hx
  exact blank_two h hn hQ hL hi
theorem down_take {m : List Tok} {k F : Nat} {y : Tok} (h : m[k]? = some y) : (m.take (k + 1)).map (Tok.down F) = (m.take k).map (Tok.down F) ++ [⟨y.kind, y.text, y.n, y.line + F⟩] := by
  rw [List.take_add_one, h, List.map_append]
  rfl
end Go.Proofs.YtgameoiofikhmaaDoor
