/- Several items appended at once to a row of the call's own. -/
import Derived.Test.YtjjbfeoidceiiaaLFitA
import Derived.Test.YtjjbfeoidceiiaaFRightX
namespace Go.Proofs.Ytjjbfeoidceiiaa
open Go.RowKit Rv Lb
set_option linter.unusedVariables false
theorem flat8_at {w : World} {B o : Nat} {l : List Itm} (h : ItemsAt w B o l) : ∀ (q : Nat) (u : Value), (l.flatMap cells8)[q]? = some u → w.cell? ⟨B, o + q, none⟩ = some u := by
  intro q u hq
  have len8 : ∀ (l : List Itm), (l.flatMap cells8).length = l.length * 8 := by
    intro l
    induction l with
    | nil => rfl
    | cons x l ih => rw [List.flatMap_cons, List.length_append, ih, List.length_cons]; simp [cells8]; omega
  have hql := (List.getElem?_eq_some_iff.1 hq).1
  rw [len8] at hql
  have hj : q / 8 < l.length := by omega
  have hx : l[q / 8]? = some l[q / 8] := List.getElem?_eq_getElem hj
  have hc : ∃ v, (cells8 l[q / 8])[q % 8]? = some v := ⟨_, List.getElem?_eq_getElem (by simp [cells8]; omega)⟩
  obtain ⟨v, hv⟩ := hc
  have h1 := flat8_get hx hv
  rw [show q / 8 * 8 + q % 8 = q by omega, hq] at h1
  obtain rfl := Option.some.inj h1
  have h2 := h.2 _ _ hx _ _ hv
  rw [show o + q / 8 * 8 + q % 8 = o + q by omega] at h2
  exact h2
theorem len8 (l : List Itm) : (l.flatMap cells8).length = l.length * 8 := by
  induction l with
  | nil => rfl
  | cons x l ih => rw [List.flatMap_cons, List.length_append, ih, List.length_cons]; simp [cells8]; omega
theorem one8 (l : List Itm) : ∀ u ∈ l.flatMap cells8, u.oneCell' = true := by
  intro u hu
  obtain ⟨x, _, hx⟩ := List.mem_flatMap.1 hu
  simp only [cells8, List.mem_cons, List.not_mem_nil, or_false] at hx
  rcases hx with rfl | rfl | rfl | rfl | rfl | rfl | rfl | rfl <;> rfl
theorem xrow_many {w : World} {base : Nat} {v : Value} {l : List Itm} (h : XRow w base v l) (ty : TypeId) (B o c : Nat) (ys : List Itm) (hc : ItemsAt w B o ys) (hm : 0 < ys.length ∨ v ≠ .slice none 0 0) (hlen : l.length + ys.length ≤ 1000) (hbase : base ≤ w.heap.size) :
    ∃ v' w', (Builtin.append_ #[22, 22] ty #[v, .slice (some ⟨B, o, none⟩) ys.length c]).run Try.prog w = .ok v' w' ∧ XRow w' base v' (l ++ ys) ∧ Sav (fun k => v.ownBlock = some k) w w' ∧ v' ≠ .slice none 0 0 := by
  obtain ⟨i, hi, ⟨z, hz, hzs⟩, hsz, hb⟩ := info_itm
  obtain ⟨v', w', hrun, h1, h2, h3⟩ := append_sav (P := Try.prog) w base 22 ty 26 i z 8 72 Try.underlying22 hi hz hsz hb hzs (by decide) v l.length _ h ⟨B, o, none⟩ ys.length c (ys.flatMap cells8) (len8 ys)
    (by intro j u hj; rw [Addr.add_lit]; exact flat8_at hc j u hj) (one8 ys) (by unfold maxLen; omega) (by omega) hbase hm
  have e1 : (l ++ ys).length = l.length + ys.length := List.length_append
  have e2 : (l ++ ys).flatMap cells8 = l.flatMap cells8 ++ ys.flatMap cells8 := List.flatMap_append
  refine ⟨v', w', hrun, ?_, h2, h3⟩
  unfold XRow
  rw [e1, e2]
  exact h1
/-- at a step of a region that draws its order -/
theorem step_xrows {ops : Array Oper} {o : Oper} {a : Act} {w : World} {K : Act → World → Prop} {Q : Exit → Act → World → Prop} {E : Prop} (hg : o.guard = none) (s x : Operand)
    (hop : o.op = .call { callee := .builtin .append, args := #[s, x], argTypes := #[22, 22] }) (base : Nat) (v : Value) (l : List Itm) (hs : a.eval s = v) (h : XRow w base v l) (B off c : Nat) (ys : List Itm) (hx : a.eval x = .slice (some ⟨B, off, none⟩) ys.length c)
    (hc : ItemsAt w B off ys) (hm : 0 < ys.length ∨ v ≠ .slice none 0 0) (hlen : l.length + ys.length ≤ 1000) (hbase : base ≤ w.heap.size)
    (hK : ∀ v' w', XRow w' base v' (l ++ ys) → Sav (fun k => v.ownBlock = some k) w w' → v' ≠ .slice none 0 0 → K (a.put o.dst v') w') : if Region.wanted o (yielded ops a.tmps) = true then Oper.wp Try.prog o a w K Q else E := by
  obtain ⟨v', w', hrun, h1, h2, h3⟩ := xrow_many h o.type B off c ys hc hm hlen hbase
  exact step_app hg s x _ hop v _ v' hs hx hrun (hK v' w' h1 h2 h3)
/-- a part of items -/
theorem ItemsAt.part {w : World} {B o : Nat} {l : List Itm} (h : ItemsAt w B o l) (i n : Nat) : ItemsAt w B (o + i * 8) ((l.drop i).take n) := by
  refine ⟨h.1, fun j x hj k u hu => ?_⟩
  rw [List.getElem?_take] at hj
  split at hj
  · rw [List.getElem?_drop] at hj
    have := h.2 (i + j) x hj k u hu
    rw [show o + (i + j) * 8 + k = o + i * 8 + j * 8 + k by omega] at this
    exact this
  · cases hj
/-- a part, which may be empty, appended to nothing -/
theorem xrow_start (w : World) (base : Nat) (ty : TypeId) (B o c : Nat) (ys : List Itm) (hc : ItemsAt w B o ys) (hlen : ys.length ≤ 1000) (hbase : base ≤ w.heap.size) :
    ∃ v' w', (Builtin.append_ #[22, 22] ty #[.slice none 0 0, .slice (some ⟨B, o, none⟩) ys.length c]).run Try.prog w = .ok v' w' ∧ XRow w' base v' ys ∧ Both w w' := by
  by_cases h0 : ys.length = 0
  · obtain rfl : ys = [] := List.eq_nil_of_length_eq_zero h0
    obtain ⟨i, hi, ⟨z, hz, hzs⟩, hsz, hb⟩ := info_itm
    refine ⟨.slice none 0 0, w, ?_, World.ownsRow_nil w base 26 8, Both.refl _⟩
    simp [Builtin.append_, run_underlying Try.underlying22, sizeOf, typeInfo, hi, Builtin.lenOf, Builtin.firstCells, loadCells, loadCellsFrom]
  · have hr : XRow w base (.slice none 0 0) [] := World.ownsRow_nil w base 26 8
    obtain ⟨v', w', h1, h2, h3, _⟩ := xrow_many hr ty B o c ys hc (Or.inl (by omega)) (by simpa using hlen) hbase
    refine ⟨v', w', h1, by simpa using h2, h3.both (Both.refl _) (fun j hj => by simp [Value.ownBlock] at hj)⟩
theorem step_start {ops : Array Oper} {o : Oper} {a : Act} {w : World} {K : Act → World → Prop} {Q : Exit → Act → World → Prop} {E : Prop} (hg : o.guard = none) (s x : Operand)
    (hop : o.op = .call { callee := .builtin .append, args := #[s, x], argTypes := #[22, 22] }) (base : Nat) (hs : a.eval s = .slice none 0 0) (B off c : Nat) (ys : List Itm) (hx : a.eval x = .slice (some ⟨B, off, none⟩) ys.length c)
    (hc : ItemsAt w B off ys) (hlen : ys.length ≤ 1000) (hbase : base ≤ w.heap.size)
    (hK : ∀ v' w', XRow w' base v' ys → Both w w' → K (a.put o.dst v') w') : if Region.wanted o (yielded ops a.tmps) = true then Oper.wp Try.prog o a w K Q else E := by
  obtain ⟨v', w', hrun, h1, h2⟩ := xrow_start w base o.type B off c ys hc hlen hbase
  exact step_app hg s x _ hop _ _ v' hs hx hrun (hK v' w' h1 h2)
theorem wpList_xrows {ops : Array Oper} {rest : List Oper} {o : Oper} {a : Act} {w : World} {Q : Exit → Act → World → Prop} (hgd : o.guard = none) (s x : Operand)
    (ho : o.op = .call { callee := .builtin .append, args := #[s, x], argTypes := #[22, 22] }) (base : Nat) (v : Value) (l : List Itm) (hs : a.eval s = v) (h : XRow w base v l) (B off c : Nat) (ys : List Itm) (hx : a.eval x = .slice (some ⟨B, off, none⟩) ys.length c)
    (hc : ItemsAt w B off ys) (hm : 0 < ys.length ∨ v ≠ .slice none 0 0) (hlen : l.length + ys.length ≤ 1000) (hbase : base ≤ w.heap.size)
    (hK : ∀ v' w', XRow w' base v' (l ++ ys) → Sav (fun k => v.ownBlock = some k) w w' → v' ≠ .slice none 0 0 → wpList Try.prog ops Q rest (a.put o.dst v') w') : wpList Try.prog ops Q (o :: rest) a w := by
  obtain ⟨v', w', hrun, h1, h2, h3⟩ := xrow_many h o.type B off c ys hc hm hlen hbase
  exact wpList_app hgd s x _ ho v _ v' hs hx hrun (hK v' w' h1 h2 h3)
end Go.Proofs.Ytjjbfeoidceiiaa
/- What the document's own Number, size and places answer. -/
namespace Go.Proofs.Ytjjbfeoidceiiaa
open Go.RowKit Rv Lb
set_option linter.unusedVariables false
set_option maxHeartbeats 2000000 in
theorem numberR_any (d n : Int) (hn : inInt n) (w : World) : Calls Try.prog 22 #[.int .i64 d, .int .i64 n] w (InsNew (number d n) w) := by
  obtain ⟨n1, n2⟩ := hn
  have hc : (d < 1 ∨ 31 < d ∨ n < -2147483648 ∨ 2147483648 ≤ n) ∨ (1 ≤ d ∧ d ≤ 31 ∧ -2147483648 ≤ n ∧ n < 2147483648) := by omega
  rcases hc with hc | ⟨d1, d2, m1, m2⟩
  · have e : number d n = [] := by
      unfold number mayLoad
      rw [decide_eq_false (by omega)]
      rfl
    rw [e]
    clear e
    by_cases d1 : d < 1
    · clear hc
      go_enter Try.func22, Try.ntmps22
      go_wp2
      go_ret
      exact ⟨none, 0, rfl, InsAt.none _ _, Both.refl _, fun a h => by cases h⟩
    have d1' : decide (d < 1) = false := decide_eq_false d1
    by_cases d2 : 31 < d
    · clear hc
      go_enter Try.func22, Try.ntmps22
      go_wp2
      go_ret
      exact ⟨none, 0, rfl, InsAt.none _ _, Both.refl _, fun a h => by cases h⟩
    have d2' : decide (31 < d) = false := decide_eq_false d2
    by_cases m1 : n < -2147483648
    · clear hc
      go_enter Try.func22, Try.ntmps22
      go_wp2
      go_ret
      exact ⟨none, 0, rfl, InsAt.none _ _, Both.refl _, fun a h => by cases h⟩
    have m1' : decide (n < -2147483648) = false := decide_eq_false m1
    have m2 : 2147483648 ≤ n := by omega
    clear hc
    go_enter Try.func22, Try.ntmps22
    go_wp2
    go_ret
    exact ⟨none, 0, rfl, InsAt.none _ _, Both.refl _, fun a h => by cases h⟩
  · have hml : mayLoad d n = true := by
      unfold mayLoad
      rw [decide_eq_true_eq]
      omega
    have d1' : ¬ d < 1 := by omega
    have d2' : ¬ 31 < d := by omega
    have m1' : ¬ n < -2147483648 := by omega
    have m2' : ¬ 2147483648 ≤ n := by omega
    have x1 : decide (d < 1) = false := decide_eq_false d1'
    have x2 : decide (31 < d) = false := decide_eq_false d2'
    have x3 : decide (n < -2147483648) = false := decide_eq_false m1'
    have x4 : decide (2147483648 ≤ n) = false := decide_eq_false m2'
    by_cases hs : -2048 ≤ n ∧ n ≤ 2047
    · have e : number d n = [⟨13, d, 0, 0, n⟩] := by
        unfold number
        rw [hml, if_pos rfl, if_pos (by unfold low12; omega)]
      rw [e]
      obtain ⟨s1, s2⟩ := hs
      clear e hml
      go_enter Try.func22, Try.ntmps22
      go_wp2
      go_ret
      exact ⟨_, _, rfl, InsAt.one w _ ⟨13, d, 0, 0, n⟩, (Both.refl _).alloc _ _, fun a h => by cases h; exact ⟨_, _, heap_alloc_new _ _⟩⟩
    · have e : number d n = [⟨1, d, 0, 0, high20 n⟩, ⟨13, d, d, 0, low12 n⟩] := by
        unfold number
        rw [hml, if_pos rfl, if_neg (by unfold low12; omega)]
      rw [e]
      have hr : Int.tmod (n + 4294967296) 4096 = n % 4096 := by rw [Int.tmod_eq_emod_of_nonneg (by omega)]; omega
      have hlo : low12 n = if 2047 < n % 4096 then n % 4096 - 4096 else n % 4096 := by unfold low12; split <;> omega
      have hq1 : Int.tdiv (n - low12 n + 8589934592) 4096 = (n - low12 n) / 4096 + 2097152 := by
        have hb := low12_bd n
        rw [Int.tdiv_eq_ediv_of_nonneg (by omega)]
        omega
      have hq2 : Int.tmod ((n - low12 n) / 4096 + 2097152) 1048576 = high20 n := by
        have hb := low12_bd n
        rw [Int.tmod_eq_emod_of_nonneg (by omega)]
        unfold high20
        omega
      have hb := low12_bd n
      have hqb : -524289 ≤ (n - low12 n) / 4096 ∧ (n - low12 n) / 4096 ≤ 524289 := by omega
      have hr1 : 0 ≤ n % 4096 ∧ n % 4096 < 4096 := by omega
      generalize (n - low12 n) / 4096 = q at hq1 hq2 hqb
      generalize high20 n = h at hq2 ⊢
      generalize low12 n = m at hlo hq1 hb ⊢
      generalize n % 4096 = r at hr hlo hr1
      obtain ⟨r1, r2⟩ := hr1
      obtain ⟨q3, q4⟩ := hqb
      have hs' : n < -2048 ∨ (-2048 ≤ n ∧ ¬ n ≤ 2047) := by omega
      clear e hml hs
      by_cases h2 : 2047 < r
      · rw [if_pos h2] at hlo
        subst hlo
        have vr : IntKind.i64.wrap (r - 4096) = r - 4096 := IntWalk.i64_in _ (by constructor <;> omega)
        have vs : IntKind.i64.wrap (n - (r - 4096)) = n - (r - 4096) := IntWalk.i64_in _ (by constructor <;> omega)
        have vt : IntKind.i64.wrap (n - (r - 4096) + 8589934592) = n - (r - 4096) + 8589934592 := IntWalk.i64_in _ (by constructor <;> omega)
        rcases hs' with s1 | ⟨s1, s2⟩
        · have y1 : decide (-2048 ≤ n) = false := decide_eq_false (by omega)
          have y2 : ¬ -2048 ≤ n := by omega
          clear s1
          go_enter Try.func22, Try.ntmps22
          go_wp2
          go_ret
          exact ⟨_, _, rfl, InsAt.two w _ ⟨1, d, 0, 0, h⟩ ⟨13, d, d, 0, r - 4096⟩, (Both.refl _).alloc _ _, fun a h => by cases h; exact ⟨_, _, heap_alloc_new _ _⟩⟩
        · have y1 : decide (n ≤ 2047) = false := decide_eq_false s2
          go_enter Try.func22, Try.ntmps22
          go_wp2
          go_ret
          exact ⟨_, _, rfl, InsAt.two w _ ⟨1, d, 0, 0, h⟩ ⟨13, d, d, 0, r - 4096⟩, (Both.refl _).alloc _ _, fun a h => by cases h; exact ⟨_, _, heap_alloc_new _ _⟩⟩
      · rw [if_neg h2] at hlo
        subst hlo
        have y3 : decide (2047 < m) = false := decide_eq_false h2
        have vs : IntKind.i64.wrap (n - m) = n - m := IntWalk.i64_in _ (by constructor <;> omega)
        have vt : IntKind.i64.wrap (n - m + 8589934592) = n - m + 8589934592 := IntWalk.i64_in _ (by constructor <;> omega)
        rcases hs' with s1 | ⟨s1, s2⟩
        · have y1 : decide (-2048 ≤ n) = false := decide_eq_false (by omega)
          have y2 : ¬ -2048 ≤ n := by omega
          clear s1
          go_enter Try.func22, Try.ntmps22
          go_wp2
          go_ret
          exact ⟨_, _, rfl, InsAt.two w _ ⟨1, d, 0, 0, h⟩ ⟨13, d, d, 0, m⟩, (Both.refl _).alloc _ _, fun a h => by cases h; exact ⟨_, _, heap_alloc_new _ _⟩⟩
        · have y1 : decide (n ≤ 2047) = false := decide_eq_false s2
          go_enter Try.func22, Try.ntmps22
          go_wp2
          go_ret
          exact ⟨_, _, rfl, InsAt.two w _ ⟨1, d, 0, 0, h⟩ ⟨13, d, d, 0, m⟩, (Both.refl _).alloc _ _, fun a h => by cases h; exact ⟨_, _, heap_alloc_new _ _⟩⟩
/-- how many words, long or not -/
def szOf (x : Itm) (lg : Bool) : Nat := if isBr x && lg then 2 else size1 x
theorem szOf_sz {l : List Itm} {g : Nat → Bool} {k : Nat} {x : Itm} (h : l[k]? = some x) : sz l g k = szOf x (g k) := by
  unfold sz szOf
  rw [h]
set_option maxHeartbeats 2000000 in
theorem sizeR_lit {k o d a b n m z : Int} {s : ByteArray} {lg : Bool} (hz : ((szOf ⟨k, ⟨o, d, a, b, n⟩, s, m⟩ lg : Nat) : Int) = z) (hr : rightX ⟨k, ⟨o, d, a, b, n⟩, s, m⟩ = true) (hm : inInt m) (hl : lg = true → isBr ⟨k, ⟨o, d, a, b, n⟩, s, m⟩ = true) (w : World) :
    Calls Try.prog 80 #[.agg #[.int .i64 k, .int .i64 o, .int .i64 d, .int .i64 a, .int .i64 b, .int .i64 n, .string s, .int .i64 m], .bool lg] w fun e w' => e = .returned (.int .i64 z) ∧ Both w w' := by
  have HM := Lib.hid hm
  by_cases h2 : k = 2
  · subst h2
    obtain rfl : z = 0 := by rw [← hz]; unfold szOf isBr size1; simp
    clear hz hr hl hm
    go_enter Try.func80, Try.ntmps80
    go_wp2
    go_ret
    exact ⟨rfl, (Both.refl _).alloc _ _⟩
  by_cases h5 : k = 5
  · subst h5
    obtain rfl : z = m := by
      rw [← hz]
      unfold rightX at hr
      simp at hr
      unfold szOf isBr size1
      simp
      omega
    clear hz hr hl hm h2
    go_enter Try.func80, Try.ntmps80
    go_wp2
    go_ret
    exact ⟨rfl, (Both.refl _).alloc _ _⟩
  by_cases h4 : k = 4
  · subst h4
    obtain ⟨l, hn⟩ : ∃ l, number d m = l := ⟨_, rfl⟩
    obtain rfl : z = (l.length : Int) := by rw [← hz]; unfold szOf isBr size1; simp [hn]
    have HN := Lib.hid hn
    clear hz hr hl hm h2 h5 hn
    go_enter Try.func80, Try.ntmps80
    go_wp2_with fail
    have hc := numberR_any d m HM.out (w.alloc (.cells #[.int .i64 4, .int .i64 o, .int .i64 d, .int .i64 a, .int .i64 b, .int .i64 n, .string s, .int .i64 m] 26))
    rw [HN.out] at hc
    refine hc.mono ?_
    rintro e w1 ⟨P, pc, rfl, _, hb, _⟩
    go_wp2_with fail
    go_ret
    exact ⟨rfl, ((Both.refl _).alloc _ _).trans hb⟩
  have g2 : (k == 2) = false := by simpa using h2
  have g4 : (k == 4) = false := by simpa using h4
  have g5 : (k == 5) = false := by simpa using h5
  cases lg with
  | true =>
    have hb := hl rfl
    obtain rfl : z = 2 := by rw [← hz]; unfold szOf; simp [hb]
    clear hz hr hl hm h2 h4 h5 hb
    go_enter Try.func80, Try.ntmps80
    go_wp2
    go_ret
    exact ⟨rfl, (Both.refl _).alloc _ _⟩
  | false =>
    obtain rfl : z = 1 := by rw [← hz]; unfold szOf size1; simp [h2, h4, h5]
    clear hz hr hl hm h2 h4 h5
    go_enter Try.func80, Try.ntmps80
    go_wp2
    go_ret
    exact ⟨rfl, (Both.refl _).alloc _ _⟩
end Go.Proofs.Ytjjbfeoidceiiaa
/- What the document's own places answers. -/
namespace Go.Proofs.Ytjjbfeoidceiiaa
open Go.RowKit Rv Lb
set_option linter.unusedVariables false
/-- Bools lie at a place -/
def BoolsAt (w : World) (b o n : Nat) (g : Nat → Bool) : Prop := b < w.heap.size ∧ ∀ j : Nat, j < n → w.cell? ⟨b, o + j, none⟩ = some (.bool (g j))
theorem BoolsAt.both {w w' : World} {b o n : Nat} {g : Nat → Bool} (h : BoolsAt w b o n g) (hb : Both w w') : BoolsAt w' b o n g :=
  ⟨Nat.lt_of_lt_of_le h.1 hb.1.size, fun j hj => (hb.cell (p := ⟨b, o + j, none⟩) h.1).trans (h.2 j hj)⟩
theorem step_irow {ops : Array Oper} {o : Oper} {a : Act} {w : World} {K : Act → World → Prop} {Q : Exit → Act → World → Prop} {E : Prop} (hg : o.guard = none) (s x : Operand) (t : TypeId) (ht : Try.prog.underlying t = some (.slice 3))
    (hop : o.op = .call { callee := .builtin .append, args := #[s, x], argTypes := #[t, t] }) (base : Nat) (v : Value) (l : List Int) (hs : a.eval s = v) (h : IRow w base v l) (B : Nat) (y : Int) (hx : a.eval x = .slice (some ⟨B, 0, none⟩) 1 1)
    (hc : w.cell? ⟨B, 0, none⟩ = some (.int .i64 y)) (hlen : l.length + 1 ≤ 1099511627776) (hbase : base ≤ w.heap.size)
    (hK : ∀ v' w', IRow w' base v' (l ++ [y]) → Sav (fun k => v.ownBlock = some k) w w' → v' ≠ .slice none 0 0 → K (a.put o.dst v') w') : if Region.wanted o (yielded ops a.tmps) = true then Oper.wp Try.prog o a w K Q else E := by
  obtain ⟨v', w', hrun, h1, h2, h3⟩ := irow_one h t o.type ht B y hc hlen hbase
  exact step_app hg s x t hop v _ v' hs hx hrun (hK v' w' h1 h2 h3)
/-- at the head of the loop -/
structure Pr (w wr : World) (ss : List Int) (v : Value) (k : Nat) : Prop where
  both : Both w wr
  row : IRow wr w.heap.size v (sumsTo ss k)
  ne : v ≠ .slice none 0 0
theorem Pr.start (w : World) (ss : List Int) : Pr w (w.alloc (.cells #[.int .i64 0] 3)) ss (.slice (some ⟨w.heap.size, 0, none⟩) 1 1) 0 := by
  refine ⟨(Both.refl w).alloc _ _, ⟨rfl, Or.inr ⟨w.heap.size, 1, #[.int .i64 0], rfl, Nat.le_refl _, heap_alloc_new _ _, Nat.le_refl _, by decide, rfl, rfl⟩⟩, by simp⟩
def PlacesRIs (l : List Itm) (g : Nat → Bool) (w : World) (e : Ending) (w' : World) : Prop := ∃ B c, e = .returned (.slice (some ⟨B, 0, none⟩) (l.length + 1) c) ∧ IntsAt w' B 0 (sumsTo (szs l g) l.length) ∧ Both w w'
set_option maxRecDepth 100000 in
set_option maxHeartbeats 2000000 in
theorem placesR_any (b o c lb lo lc : Nat) (l : List Itm) (g : Nat → Bool) (w : World) (HI : Hid (ItemsAt w b o l)) (HG : Hid (BoolsAt w lb lo l.length g)) (hlen : l.length ≤ 20) (HR : Hid (allRight l)) (HL : Hid (∀ k, g k = true → brAt l k = true)) :
    Calls Try.prog 66 #[.slice (some ⟨b, o, none⟩) l.length c, .slice (some ⟨lb, lo, none⟩) l.length lc] w (PlacesRIs l g w) := by
  obtain ⟨ss, hss⟩ : ∃ ss, szs l g = ss := ⟨_, rfl⟩
  have HSS := Lib.hid hss
  have HS0 := Lib.hid (Pr.start w ss)
  have hsl : ss.length = l.length := by rw [← hss]; exact szs_len l g
  have HBD : Hid (∀ x ∈ ss, 0 ≤ x ∧ x ≤ 4096) := by
    rw [← hss]
    intro x hx
    unfold szs at hx
    obtain ⟨j, _, rfl⟩ := List.mem_map.1 hx
    have := sz_bd HR.out g j
    omega
  have HSL := Lib.hid hsl
  clear hss hsl
  go_enter Try.func66, Try.ntmps66
  go_wp2_with fail
  go_loopw [5, 6] (fun v i wr => ∃ k : Nat, k ≤ l.length ∧ i = .int .i64 k ∧ Hid (Pr w wr ss v k)) (fun _ i _ => l.length - (intOf i).toNat)
  case atStart => exact ⟨0, Nat.zero_le _, rfl, HS0.out⟩
  case round =>
    obtain ⟨k, hk, rfl, HP⟩ := hrel
    by_cases hlt : k < l.length
    · obtain ⟨kd, xo, xd, xa, xb, xn, xm, xs, hx⟩ := items_one (l := l) (k := k) hlt
      obtain ⟨PB, pc, hv, hPb, hPl, hPI, _⟩ := HP.out.row.form HP.out.ne
      rw [sumsTo_len] at hv
      subst hv
      have hss := szs_get (l := l) (g := g) hlt
      rw [HSS.out] at hss
      have hxr := HR.out _ (List.mem_of_getElem? hx)
      obtain ⟨z, hz⟩ : ∃ z, sz l g k = z := ⟨_, rfl⟩
      have hzz : ((szOf ⟨kd, ⟨xo, xd, xa, xb, xn⟩, xs, xm⟩ (g k) : Nat) : Int) = (z : Int) := by rw [← szOf_sz hx, hz]
      have hlg : g k = true → isBr ⟨kd, ⟨xo, xd, xa, xb, xn⟩, xs, xm⟩ = true := fun h => by
        have := HL.out k h
        unfold brAt at this
        rw [hx] at this
        exact this
      have hzb := sz_bd HR.out g k
      rw [hz] at hss hzb
      have hsum := sumAt_succ hss
      have hsb := sumAt_bd HBD.out k (by rw [HSL.out]; omega)
      have hpc := hPI.2 k _ (sumsTo_get ss k k (Nat.le_refl _))
      rw [Nat.zero_add] at hpc
      have hsucc := sumsTo_succ hss
      rw [← hsum] at hsucc
      obtain ⟨a, ha⟩ : ∃ a, sumAt ss k = a := ⟨_, rfl⟩
      obtain ⟨a1, ha1⟩ : ∃ a, sumAt ss (k + 1) = a := ⟨_, rfl⟩
      rw [ha] at hpc hsum hsb
      rw [ha1] at hsum hsucc
      have vm : IntKind.i64.wrap (4 * (z : Int)) = 4 * (z : Int) := IntWalk.i64_in _ (by constructor <;> omega)
      have va : IntKind.i64.wrap (a + 4 * (z : Int)) = a1 := by rw [IntWalk.i64_in _ (by constructor <;> omega)]; exact hsum.symm
      have hk' : (k : Int) < l.length := by omega
      have hkp : (k : Int) < (k : Int) + 1 := by omega
      have HLT := Lib.hid hlt
      have HZ := Lib.hid hzz
      have HXR := Lib.hid hxr
      have HLG := Lib.hid hlg
      have HSC := Lib.hid hsucc
      obtain ⟨gk, hgk⟩ : ∃ q, g k = q := ⟨_, rfl⟩
      rw [hgk] at HZ HLG
      have HRW : Hid (∀ W, Both wr W → IRow W w.heap.size (.slice (some ⟨PB, 0, none⟩) (k + 1) pc) (sumsTo ss k) ∧ w.heap.size ≤ W.heap.size) := fun W h => ⟨ownsRow_sav HP.out.row (h.sav fun _ => False) (fun _ _ => id), (HP.out.both.trans h).1.size⟩
      have HCP : Hid (∀ W, Both wr W → W.cell? ⟨PB, k, none⟩ = some (.int .i64 a)) := fun W h => (h.cell (p := ⟨PB, k, none⟩) hPl).trans hpc
      have HLN := Lib.hid (show (sumsTo ss k).length + 1 ≤ 1099511627776 by rw [sumsTo_len]; omega)
      obtain ⟨c0, c1, c2, c3, c4, c5, c6, c7⟩ := (HI.out.both HP.out.both).get hx
      have cg := (HG.out.both HP.out.both).2 k hlt
      clear hx hss hxr hz hzz hlg hzb hsum hsb hsucc ha ha1 hlt hPb hPl hPI HS0
      rw [hgk] at cg
      clear hgk
      go_upto_region 5 with (fail)
      go_region_law (first
        | (refine step_irow rfl (.tmp 14) (.tmp 30) 31 Try.underlying31 rfl w.heap.size (.slice (some ⟨PB, 0, none⟩) (k + 1) pc) (sumsTo ss k) (by kernel_rfl) (HRW.out _ (((Both.refl _).drew.trans hb9).alloc _ _)).1 w9.heap.size a1 (by kernel_rfl) (World.cell?_alloc_new _ _ _ 0) HLN.out (HRW.out _ (((Both.refl _).drew.trans hb9).alloc _ _)).2 ?_; intro v' w2 h1 h2 h3)
        | (go_simp; refine (sizeR_lit HZ.out HXR.out.1 HXR.out.2.n HLG.out _).mono ?_; rintro e w9 ⟨rfl, hb9⟩; have f9 := HCP.out _ ((Both.refl _).drew.trans hb9)))
      all_goals
        have HN : Hid (Pr w w2 ss v' (k + 1)) := ⟨(((((Both.refl _).drew.trans hb9).alloc _ _).sav _).trans h2).both HP.out.both (fun j hj => (HP.out.row.lt j hj).1), by rw [HSC.out]; exact h1, h3⟩
        clear h1 h2 h3 hb9
        try clear f9
        go_wp2_with fail
        go_roundw
        case rel => exact ⟨k + 1, HLT.out, by go_num, HN.out⟩
        case measure => simp [intOf]; have := HLT.out; omega
    · obtain rfl : k = l.length := by omega
      obtain ⟨PB, pc, hv, hPb, hPl, hPI, _⟩ := HP.out.row.form HP.out.ne
      rw [sumsTo_len] at hv
      subst hv
      have HPI := Lib.hid hPI
      clear hPI
      go_wp2_with fail
      go_ret
      exact ⟨PB, pc, rfl, by rw [HSS.out]; exact HPI.out, HP.out.both⟩
end Go.Proofs.Ytjjbfeoidceiiaa
