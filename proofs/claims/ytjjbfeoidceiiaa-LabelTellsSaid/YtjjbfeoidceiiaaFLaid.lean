/- What the document's own laid goes through, in plain words. -/
import Derived.Test.YtjjbfeoidceiiaaFPl2
namespace Go.Proofs.Ytjjbfeoidceiiaa
open Go.RowKit Rv Lb
set_option linter.unusedVariables false
theorem named_first {l : List Itm} {i j : Nat} {s : ByteArray} (h : namedTo l i s = some j) : labV l s = j ∧ j < i := by
  unfold namedTo at h
  have hj := (List.findIdx?_eq_some_iff_getElem.1 h).1
  have hji : j < i := by rw [List.length_take] at hj; omega
  have : named l s = some j := by
    unfold named
    rw [← List.take_append_drop i l, List.findIdx?_append, h]
    rfl
  refine ⟨?_, hji⟩
  unfold labV
  rw [this]
theorem dup_iff {l : List Itm} {i : Nat} {x : Itm} (hx : l[i]? = some x) (h2 : x.kind = 2) : dupAt l i = decide (labV l x.name < (i : Int)) := by
  unfold dupAt
  rw [hx]
  simp only [h2, decide_true, Bool.true_and]
  cases h : namedTo l i x.name with
  | none =>
    rw [named_hit hx h (isNamed_iff.2 ⟨h2, rfl⟩), decide_eq_false (by omega)]
    rfl
  | some j =>
    obtain ⟨h1, h3⟩ := named_first h
    rw [h1, decide_eq_true (by omega)]
    rfl
theorem lost_iff {l : List Itm} {i : Nat} {x : Itm} (hx : l[i]? = some x) (h3 : x.kind = 3) : lostAt l i = decide (labV l x.name < 0) := by
  unfold lostAt labV
  rw [hx]
  simp only [h3, decide_true, Bool.true_and]
  cases h : named l x.name with
  | none => rfl
  | some j => simp
theorem other_ok {l : List Itm} {i : Nat} {x : Itm} (hx : l[i]? = some x) : (x.kind ≠ 2 → dupAt l i = false) ∧ (x.kind ≠ 3 → lostAt l i = false) := by
  unfold dupAt lostAt
  rw [hx]
  exact ⟨fun h => by simp [h], fun h => by simp [h]⟩
theorem labV_bd {l : List Itm} (s : ByteArray) : -1 ≤ labV l s ∧ labV l s < l.length ∨ labV l s = -1 := by
  unfold labV
  cases h : named l s with
  | none => exact Or.inr rfl
  | some j =>
    have := (named_lt h).1
    left
    simp only
    omega
theorem labV_to {l : List Itm} (hok : okT l = true) {i : Nat} {x : Itm} (hx : l[i]? = some x) (h3 : x.kind = 3) : labV l x.name = (to l i : Int) := by
  obtain ⟨j, hj, ht⟩ := br_named hok hx h3
  unfold labV
  rw [hj, ht]
instance reachDec (l : List Itm) (g : Nat → Bool) (k : Nat) : Decidable (reach l g k) := by
  unfold reach
  infer_instance
/-- with those among the first k that don't reach -/
def grow (l : List Itm) (g : Nat → Bool) (k : Nat) : Nat → Bool := fun j => g j || (decide (j < k) && brAt l j && decide (¬ reach l g j))
theorem grow_zero (l : List Itm) (g : Nat → Bool) : grow l g 0 = g := by
  funext j
  unfold grow
  simp
theorem grow_le {l : List Itm} {g : Nat → Bool} (h : le g (Lb.fin l)) (k : Nat) : le (grow l g k) (Lb.fin l) := by
  intro j hj
  unfold grow at hj
  rw [Bool.or_eq_true, Bool.and_eq_true, Bool.and_eq_true, decide_eq_true_eq] at hj
  rcases hj with hj | ⟨⟨_, hb⟩, hr⟩
  · exact h j hj
  · cases hf : Lb.fin l j with
    | true => rfl
    | false => exact absurd (reach_le h (fin_closed l j hb hf)) (of_decide_eq_true hr)
theorem grow_br {l : List Itm} {g : Nat → Bool} (h : ∀ j, g j = true → brAt l j = true) (k : Nat) : ∀ j, grow l g k j = true → brAt l j = true := by
  intro j hj
  unfold grow at hj
  rw [Bool.or_eq_true, Bool.and_eq_true, Bool.and_eq_true] at hj
  rcases hj with hj | ⟨⟨_, hb⟩, _⟩
  · exact h j hj
  · exact hb
/-- one that is passed over -/
theorem grow_pass {l : List Itm} {g : Nat → Bool} {k : Nat} (h : brAt l k = false ∨ g k = true ∨ reach l g k) : grow l g (k + 1) = grow l g k := by
  funext j
  unfold grow
  by_cases e : j = k
  · subst e
    rcases h with h | h | h
    · simp [h]
    · simp [h]
    · simp [h]
  · have : decide (j < k + 1) = decide (j < k) := by
      by_cases h2 : j < k
      · rw [decide_eq_true h2, decide_eq_true (by omega)]
      · rw [decide_eq_false h2, decide_eq_false (by omega)]
    rw [this]
/-- one that is taken -/
theorem grow_take {l : List Itm} {g : Nat → Bool} {k : Nat} (hb : brAt l k = true) (hr : ¬ reach l g k) : ∀ j, grow l g (k + 1) j = if j = k then true else grow l g k j := by
  intro j
  unfold grow
  by_cases e : j = k
  · subst e
    simp [hb, hr]
  · rw [if_neg e]
    have : decide (j < k + 1) = decide (j < k) := by
      by_cases h2 : j < k
      · rw [decide_eq_true h2, decide_eq_true (by omega)]
      · rw [decide_eq_false h2, decide_eq_false (by omega)]
    rw [this]
/-- how many are long -/
def many (g : Nat → Bool) (n : Nat) : Nat := ((List.range n).filter g).length
theorem many_le (g : Nat → Bool) (n : Nat) : many g n ≤ n := by
  unfold many
  have := List.length_filter_le g (List.range n)
  rw [List.length_range] at this
  exact this
theorem many_succ (g : Nat → Bool) (n : Nat) : many g (n + 1) = many g n + if g n then 1 else 0 := by
  unfold many
  rw [List.range_succ, List.filter_append, List.length_append]
  cases h : g n <;> simp [h]
theorem many_mono {g h : Nat → Bool} (hgh : le g h) (n : Nat) : many g n ≤ many h n := by
  induction n with
  | zero => exact Nat.le_refl _
  | succ n ih =>
    rw [many_succ, many_succ]
    cases hg : g n with
    | false =>
      have : (if false = true then (1 : Nat) else 0) = 0 := by simp
      rw [this]
      split <;> omega
    | true =>
      rw [hgh n hg]
      simp
      exact ih
theorem many_lt {g h : Nat → Bool} (hgh : le g h) {n k : Nat} (hk : k < n) (h1 : g k = false) (h2 : h k = true) : many g n < many h n := by
  induction n with
  | zero => omega
  | succ n ih =>
    rw [many_succ, many_succ]
    by_cases e : k = n
    · subst e
      have := many_mono hgh k
      rw [h1, h2]
      simp
      omega
    · have := ih (by omega)
      cases hg : g n with
      | false =>
        simp
        split <;> omega
      | true =>
        rw [hgh n hg]
        simp
        exact this
theorem le_grow (l : List Itm) (g : Nat → Bool) (k : Nat) : le g (grow l g k) := fun j h => by
  unfold grow
  rw [h]
  rfl
/-- where none was taken, all is closed -/
theorem closed_of_same {l : List Itm} {g : Nat → Bool} (h : ∀ k, k < l.length → brAt l k = false ∨ g k = true ∨ reach l g k) : closed l g := by
  intro k hb hg
  have hk := brAt_lt hb
  rcases h k hk with h | h | h
  · rw [hb] at h; cases h
  · rw [hg] at h; cases h
  · exact h
theorem fin_of_closed {l : List Itm} {g : Nat → Bool} (hc : closed l g) (hl : le g (Lb.fin l)) : g = Lb.fin l := fin_unique hc hl
end Go.Proofs.Ytjjbfeoidceiiaa
/- What the document's own laid answers. -/
namespace Go.Proofs.Ytjjbfeoidceiiaa
open Go.RowKit Rv Lb
set_option linter.unusedVariables false
theorem info_bool : ∃ i : TypeInfo, Try.prog.info? 4 = some i ∧ i.zero = some (.bool false) ∧ i.size = 1 ∧ i.bytes = 1 := ⟨(Try.prog.info? 4).get (by kernel_rfl), by kernel_rfl, by kernel_rfl, by kernel_rfl, by kernel_rfl⟩
def bools (n : Nat) (g : Nat → Bool) : List Value := (List.range n).map fun j => .bool (g j)
theorem bools_get {n : Nat} {g : Nat → Bool} {j : Nat} (h : j < n) : (bools n g)[j]? = some (.bool (g j)) := by
  unfold bools
  rw [List.getElem?_map, List.getElem?_range h]
  rfl
theorem bools_len (n : Nat) (g : Nat → Bool) : (bools n g).length = n := by simp [bools]
theorem make_bools (n : Nat) (hn : n ≤ 1000) (w : World) :
    (Instr.makeSlice 60 (.int .i64 (n : Int)) (.int .i64 (n : Int))).run Try.prog w = .ok (.slice (some ⟨w.heap.size, 0, none⟩) n n) (w.alloc (.cells (Array.replicate n (.bool false)) 4)) := by
  obtain ⟨i, hi, hz, hs, hb⟩ := info_bool
  have := run_make (P := Try.prog) w 60 4 i (.bool false) Try.underlying60 hi hz .i64 .i64 n n (by omega) (by omega) (by rw [hb]; omega) (by omega)
  rw [hs, Nat.mul_one, Int.toNat_natCast] at this
  rw [this]
  have e : madeCells (Value.cells (.bool false)) n = Array.replicate n (.bool false) := by
    apply Array.ext'
    rw [show Value.cells (.bool false) = #[.bool false] from rfl, toList_madeCells_one, Array.toList_replicate]
  rw [e]
theorem made_bools (w : World) (n : Nat) (h : 1 ≤ n) : BoolsAt (w.alloc (.cells (Array.replicate n (.bool false)) 4)) w.heap.size 0 n none' := by
  refine ⟨by simp, fun j hj => ?_⟩
  rw [Nat.zero_add]
  refine (World.cell?_alloc_new w _ _ j).trans ?_
  rw [Array.getElem?_replicate, if_pos hj]
  rfl
/-- a row of Bools of the loop's own -/
structure Nx (w0 w : World) (NB n : Nat) (h : Nat → Bool) : Prop where
  both : Both w0 w
  fresh : w0.heap.size ≤ NB
  lt : NB < w.heap.size
  cells : ∀ j, j < n → w.cell? ⟨NB, j, none⟩ = some (.bool (h j))
  fro : ∀ j, w.frozen? ⟨NB, j, none⟩ = false
theorem Nx.both' {w0 w w' : World} {NB n : Nat} {h : Nat → Bool} (k : Nx w0 w NB n h) (hb : Both w w') : Nx w0 w' NB n h :=
  ⟨k.both.trans hb, k.fresh, Nat.lt_of_lt_of_le k.lt hb.1.size, fun j hj => (hb.cell (p := ⟨NB, j, none⟩) k.lt).trans (k.cells j hj), fun j => (hb.2 _).trans (k.fro j)⟩
theorem Nx.put {w0 w : World} {NB n i : Nat} {h : Nat → Bool} (k : Nx w0 w NB n h) (hi : i < n) : Nx w0 (w.setCell ⟨NB, i, none⟩ (.bool true)) NB n (fun j => if j = i then true else h j) := by
  refine ⟨k.both.setCell k.fresh _, k.fresh, by rw [show (w.setCell ⟨NB, i, none⟩ (.bool true)).heap.size = w.heap.size by simp [World.setCell]]; exact k.lt, fun j hj => ?_, fun j => (World.frozen?_setCell _ _ _ _).trans (k.fro j)⟩
  by_cases e : j = i
  · subst e
    rw [if_pos rfl]
    exact World.cell?_setCell_same _ _ _ (k.cells j hi)
  · rw [if_neg e]
    exact (World.cell?_setCell_other _ _ _ _ (fun c => e (congrArg Addr.off c).symm)).trans (k.cells j hj)
theorem copy_bools (w : World) (ty : TypeId) (LB lc n : Nat) (g : Nat → Bool) (h : BoolsAt w LB 0 n g) (hn : 1 ≤ n) (hn2 : n ≤ 1000) :
    ∃ NB nc w', (Builtin.append_ #[60, 60] ty #[.slice none 0 0, .slice (some ⟨LB, 0, none⟩) n lc]).run Try.prog w = .ok (.slice (some ⟨NB, 0, none⟩) n nc) w' ∧ Nx w w' NB n g := by
  obtain ⟨i, hi, hz, hs, hb⟩ := info_bool
  obtain ⟨v', w', h1, h2, h3, h4⟩ := append_sav (P := Try.prog) w w.heap.size 60 ty 4 i (.bool false) 1 1 Try.underlying60 hi hz hs hb rfl (by decide) (.slice none 0 0) 0 [] (World.ownsRow_nil _ _ _ _) ⟨LB, 0, none⟩ n lc (bools n g) (by rw [bools_len, Nat.mul_one])
    (by
      intro j u hj
      rw [Addr.add_lit]
      have hjl := (List.getElem?_eq_some_iff.1 hj).1
      rw [bools_len] at hjl
      rw [bools_get hjl] at hj
      rw [← hj]
      exact h.2 j hjl)
    (by intro u hu; unfold bools at hu; obtain ⟨j, _, rfl⟩ := List.mem_map.1 hu; rfl) (by unfold maxLen; omega) (by omega) (Nat.le_refl _) (Or.inl (by omega))
  rw [Nat.zero_add, List.nil_append] at h2
  rcases h2.2 with ⟨rfl, _⟩ | ⟨NB, cap, cur, rfl, hbg, hg, _⟩
  · exact absurd rfl h4
  · have hlt := (Array.getElem?_eq_some_iff.1 hg).1
    refine ⟨NB, cap, w', h1, h3.both (Both.refl _) (fun j hj => by simp [Value.ownBlock] at hj), hbg, hlt, fun j hj => ?_, fun j => World.ownsRow.frozenAt h2 j⟩
    rw [World.ownsRow.cellAt h2 j (by omega)]
    exact bools_get hj
def LaidIs (l : List Itm) (w : World) (e : Ending) (w' : World) : Prop :=
  Both w w' ∧ ((layE l ≠ 0 ∧ e = .returned (.tuple #[.slice none 0 0, .slice none 0 0, .int .i64 (layE l)])) ∨
    (layE l = 0 ∧ ∃ PB pc LB lc, e = .returned (.tuple #[.slice (some ⟨PB, 0, none⟩) (l.length + 1) pc, .slice (some ⟨LB, 0, none⟩) l.length lc, .int .i64 0]) ∧ IntsAt w' PB 0 (sumsTo (szs l (Lb.fin l)) l.length) ∧ BoolsAt w' LB 0 l.length (Lb.fin l)))
/-- at the head of the loop that lengthens -/
structure Lp (w wr : World) (l : List Itm) (g : Nat → Bool) (m : Bool) (LB PB : Nat) : Prop where
  both : Both w wr
  lg : BoolsAt wr LB 0 l.length g
  at' : IntsAt wr PB 0 (sumsTo (szs l g) l.length)
  le : Lb.le g (Lb.fin l)
  br : ∀ j, g j = true → brAt l j = true
  done : m = false → closed l g
theorem grow_same {l : List Itm} {g : Nat → Bool} (h : ∀ j, j < l.length → brAt l j = false ∨ g j = true ∨ reach l g j) : grow l g l.length = g := by
  funext j
  unfold grow
  by_cases hj : j < l.length
  · rcases h j hj with e | e | e <;> simp [e]
  · simp [hj]
set_option maxRecDepth 100000 in
set_option maxHeartbeats 4000000 in
theorem laidR_any (b o c : Nat) (l : List Itm) (w : World) (HI : Hid (ItemsAt w b o l)) (hpos : 1 ≤ l.length) (hlen : l.length ≤ 20) (HWF : Hid (∀ x ∈ l, Itm.wf x)) :
    Calls Try.prog 33 #[.slice (some ⟨b, o, none⟩) l.length c] w (LaidIs l w) := by
  go_enter Try.func33, Try.ntmps33
  go_wp2_with fail
  go_loopw [5] (fun i wr => ∃ k : Nat, k ≤ l.length ∧ i = .int .i64 k ∧ Hid (Both w wr ∧ ∀ j x, j < k → l[j]? = some x → rightX x = true)) (fun i _ => l.length - (intOf i).toNat)
  case atStart => exact ⟨0, Nat.zero_le _, rfl, Both.refl _, fun j x hj => by omega⟩
  case round =>
    obtain ⟨k, hk, rfl, HA⟩ := hrel
    by_cases hlt : k < l.length
    · obtain ⟨kd, xo, xd, xa, xb, xn, xm, xs, hx⟩ := items_one (l := l) (k := k) hlt
      obtain ⟨c0, c1, c2, c3, c4, c5, c6, c7⟩ := (HI.out.both HA.out.1).get hx
      have hwx := (HWF.out _ (List.mem_of_getElem? hx)).name
      have hk' : (k : Int) < l.length := by omega
      have HX := Lib.hid hx
      have HLT := Lib.hid hlt
      have HWX := Lib.hid hwx
      clear hx hwx hlt
      go_wp2_with fail
      have hc := rightXR_any kd xo xd xa xb xn xm xs HWX.out wr
      cases hr : rightX ⟨kd, ⟨xo, xd, xa, xb, xn⟩, xs, xm⟩ with
      | true =>
        rw [hr] at hc
        have HR := Lib.hid hr
        clear hr c0 c1 c2 c3 c4 c5 c6 c7
        refine hc.mono ?_
        rintro e w1 ⟨rfl, hb1⟩
        have HN : Hid (Both w w1 ∧ ∀ j x, j < k + 1 → l[j]? = some x → rightX x = true) := ⟨HA.out.1.trans hb1, fun j x hj hx => by
          by_cases e : j = k
          · subst e
            rw [HX.out] at hx
            obtain rfl := Option.some.inj hx
            exact HR.out
          · exact HA.out.2 j x (by omega) hx⟩
        clear hb1
        go_wp2_with fail
        go_roundw
        case rel => exact ⟨k + 1, HLT.out, by go_num, HN.out⟩
        case measure => simp [intOf]; have := HLT.out; omega
      | false =>
        rw [hr] at hc
        have hall := not_all HX.out hr
        have hE : layE l = 1 := by
          unfold layE
          rw [if_neg (by omega), if_pos hall]
        have HE := Lib.hid hE
        clear hr c0 c1 c2 c3 c4 c5 c6 c7 hall hE
        refine hc.mono ?_
        rintro e w1 ⟨rfl, hb1⟩
        have HB1 := Lib.hid (HA.out.1.trans hb1)
        clear hb1
        go_wp2_with fail
        go_ret3
        refine ⟨HB1.out, Or.inl ⟨by rw [HE.out]; decide, ?_⟩⟩
        rw [HE.out]
        rfl
    · obtain rfl : k = l.length := by omega
      have hall : allRight l := fun x hx => by
        obtain ⟨j, hj⟩ := List.getElem?_of_mem hx
        exact ⟨HA.out.2 j x (List.getElem?_eq_some_iff.1 hj).1 hj, HWF.out x hx⟩
      have HALL := Lib.hid hall
      have HB0 := Lib.hid HA.out.1
      clear hall HA hlt hk
      go_wp2_with fail
      go_loopw [7] (fun i wr => ∃ k : Nat, k ≤ l.length ∧ i = .int .i64 k ∧ Hid (Both w wr ∧ ∀ j, j < k → dupAt l j = false ∧ lostAt l j = false)) (fun i _ => l.length - (intOf i).toNat)
      case atStart => exact ⟨0, Nat.zero_le _, rfl, HB0.out, fun j hj => by omega⟩
      case round =>
        obtain ⟨k, hk, rfl, HA⟩ := hrel
        by_cases hlt : k < l.length
        · obtain ⟨kd, xo, xd, xa, xb, xn, xm, xs, hx⟩ := items_one (l := l) (k := k) hlt
          obtain ⟨c0, c1, c2, c3, c4, c5, c6, c7⟩ := (HI.out.both HA.out.1).get hx
          have hk' : (k : Int) < l.length := by omega
          have hvb := labV_bd (l := l) xs
          have hvb2 : -1 ≤ labV l xs ∧ labV l xs < 30 := by omega
          have HX := Lib.hid hx
          have HLT := Lib.hid hlt
          have hdl : (dupAt l k = false ∧ lostAt l k = false ∧ (kd = 2 → ¬ labV l xs < (k : Int)) ∧ (kd = 3 → ¬ labV l xs < 0)) ∨ ((dupAt l k = true ∧ kd = 2 ∧ labV l xs < (k : Int)) ∨ (lostAt l k = true ∧ kd = 3 ∧ labV l xs < 0)) := by
            by_cases h2 : kd = 2
            · have h1 := dup_iff hx h2
              have h3 := (other_ok hx).2 (by simp only; omega)
              simp only at h1
              by_cases hv : labV l xs < (k : Int)
              · rw [decide_eq_true hv] at h1
                exact Or.inr (Or.inl ⟨h1, h2, hv⟩)
              · rw [decide_eq_false hv] at h1
                exact Or.inl ⟨h1, h3, fun _ => hv, fun h => by omega⟩
            · have h1 := (other_ok hx).1 (by simpa using h2)
              by_cases h3 : kd = 3
              · have h4 := lost_iff hx h3
                simp only at h4
                by_cases hv : labV l xs < 0
                · rw [decide_eq_true hv] at h4
                  exact Or.inr (Or.inr ⟨h4, h3, hv⟩)
                · rw [decide_eq_false hv] at h4
                  exact Or.inl ⟨h1, h4, fun h => absurd h h2, fun _ => hv⟩
              · exact Or.inl ⟨h1, (other_ok hx).2 (by simpa using h3), fun h => absurd h h2, fun h => absurd h h3⟩
          have hc := labelR_any b o c l xs wr (Lib.hid (HI.out.both HA.out.1)) (by omega)
          obtain ⟨v, hv⟩ : ∃ v, labV l xs = v := ⟨_, rfl⟩
          rw [hv] at hc hdl hvb2
          obtain ⟨vb1, vb2⟩ := hvb2
          have HC := Lib.hid hc
          clear hx hlt hvb hc hv c1 c2 c3 c4 c5 c7
          go_wp2_with fail
          refine HC.out.mono ?_
          rintro e w1 ⟨rfl, rfl⟩
          rcases hdl with ⟨d1, d2, g2, g3⟩ | ⟨hd, rfl, hv⟩ | ⟨hd, rfl, hv⟩
          · have HN : Hid (Both w wr ∧ ∀ j, j < k + 1 → dupAt l j = false ∧ lostAt l j = false) := ⟨HA.out.1, fun j hj => by
              by_cases e : j = k
              · subst e; exact ⟨d1, d2⟩
              · exact HA.out.2 j (by omega)⟩
            clear d1 d2
            by_cases h2 : kd = 2
            · subst h2
              have hv := g2 rfl
              have hv' : decide (v < (k : Int)) = false := decide_eq_false (by omega)
              clear g2 g3
              go_wp2_with fail
              go_roundw
              case rel => exact ⟨k + 1, HLT.out, by go_num, HN.out⟩
              case measure => simp [intOf]; have := HLT.out; omega
            · have h2' : (kd == 2) = false := by simpa using h2
              by_cases h3 : kd = 3
              · subst h3
                have hv := g3 rfl
                have hv' : decide (v < 0) = false := decide_eq_false (by omega)
                clear g2 g3 h2
                go_wp2_with fail
                go_roundw
                case rel => exact ⟨k + 1, HLT.out, by go_num, HN.out⟩
                case measure => simp [intOf]; have := HLT.out; omega
              · have h3' : (kd == 3) = false := by simpa using h3
                clear g2 g3 h2 h3
                go_wp2_with fail
                go_roundw
                case rel => exact ⟨k + 1, HLT.out, by go_num, HN.out⟩
                case measure => simp [intOf]; have := HLT.out; omega
          · have hE : layE l = 30 := by
              have h1 : l.all rightX = true := List.all_eq_true.2 fun x hx => (HALL.out x hx).1
              unfold layE
              rw [if_neg (by omega), if_neg (by rw [h1]; simp), if_pos (okT_no HLT.out (Or.inl hd))]
            have HE := Lib.hid hE
            clear hd hE
            go_wp2_with fail
            go_ret3
            refine ⟨HA.out.1, Or.inl ⟨by rw [HE.out]; decide, ?_⟩⟩
            rw [HE.out]
            rfl
          · have hE : layE l = 30 := by
              have h1 : l.all rightX = true := List.all_eq_true.2 fun x hx => (HALL.out x hx).1
              unfold layE
              rw [if_neg (by omega), if_neg (by rw [h1]; simp), if_pos (okT_no HLT.out (Or.inr hd))]
            have HE := Lib.hid hE
            clear hd hE
            go_wp2_with fail
            go_ret3
            refine ⟨HA.out.1, Or.inl ⟨by rw [HE.out]; decide, ?_⟩⟩
            rw [HE.out]
            rfl
        · obtain rfl : k = l.length := by omega
          have hok : okT l = true := okT_yes (fun j hj => (HA.out.2 j hj).1) (fun j hj => (HA.out.2 j hj).2)
          have HOK := Lib.hid hok
          have HB9 := Lib.hid HA.out.1
          clear hok HA hlt hk
          have hmk := make_bools l.length (by omega)
          go_wp2_with fail
          have hg0 := made_bools wr l.length hpos
          have hb1 := (Both.refl wr).alloc (Array.replicate l.length (.bool false)) 4
          generalize wr.alloc (.cells (Array.replicate l.length (.bool false)) 4) = W1 at hg0 hb1 ⊢
          generalize wr.heap.size = LB0 at hg0 ⊢
          clear hmk
          have HB1 := Lib.hid (HB9.out.trans hb1)
          have HG0 := Lib.hid hg0
          clear hb1 hg0
          refine (placesR_any b o c LB0 0 l.length l none' W1 (Lib.hid (HI.out.both HB1.out)) HG0 hlen HALL (fun k h => by cases h)).mono ?_
          rintro e w2 ⟨PB0, pc0, rfl, hp2, hb2⟩
          have HLP : Hid (Lp w w2 l none' true LB0 PB0) := ⟨HB1.out.trans hb2, HG0.out.both hb2, hp2, fun j h => (by cases h), fun j h => (by cases h), fun h => (by cases h)⟩
          clear hp2 hb2
          go_wp2_with fail
          go_loopg [9, 10, 11] (2 * l.length + 1) (fun n lv av mo ws => ∃ g m LB lc PB pc, lv = .slice (some ⟨LB, 0, none⟩) l.length lc ∧ av = .slice (some ⟨PB, 0, none⟩) (l.length + 1) pc ∧ mo = .bool m ∧ 2 * (l.length - many g l.length) + (if m then 1 else 0) ≤ n ∧ Hid (Lp w ws l g m LB PB))
          case atStart => exact ⟨none', true, LB0, l.length, PB0, pc0, rfl, rfl, rfl, by simp; omega, HLP.out⟩
          case round =>
            obtain ⟨g, m, LB, lc, PB, pc, rfl, rfl, rfl, hn, HL⟩ := hrel
            cases m with
            | true =>
              obtain ⟨wq, rfl⟩ : ∃ W, W = wr := ⟨_, rfl⟩
              obtain ⟨NB, nc, w3, hrun, hnx⟩ := copy_bools wq 60 LB lc l.length g HL.out.lg hpos (by omega)
              have HNX0 := Lib.hid hnx
              clear hnx
              go_wp2_with (at_builtin; refine wpList_app rfl (.const (.slice none 0 0)) (.tmp 74) 60 rfl _ _ _ rfl rfl hrun ?_)
              clear hrun
              go_loopw [11, 13] (fun mo i ws => ∃ k : Nat, k ≤ l.length ∧ i = .int .i64 k ∧ ∃ m2 : Bool, mo = .bool m2 ∧ Hid (Nx wq ws NB l.length (grow l g k) ∧ (m2 = false → ∀ j, j < k → brAt l j = false ∨ g j = true ∨ reach l g j) ∧ (m2 = true → ∃ j, j < l.length ∧ g j = false ∧ grow l g k j = true))) (fun _ i _ => l.length - (intOf i).toNat)
              case atStart => exact ⟨0, Nat.zero_le _, rfl, false, rfl, by rw [grow_zero]; exact HNX0.out, fun _ j hj => by omega, fun h => by cases h⟩
              case round =>
                obtain ⟨k, hk, rfl, m2, rfl, HN⟩ := hrel
                by_cases hlt : k < l.length
                · obtain ⟨kd, xo, xd, xa, xb, xn, xm, xs, hx⟩ := items_one (l := l) (k := k) hlt
                  have HBW := Lib.hid (HL.out.both.trans HN.out.1.both)
                  obtain ⟨c0, c1, c2, c3, c4, c5, c6, c7⟩ := (HI.out.both HBW.out).get hx
                  have hk' : (k : Int) < l.length := by omega
                  have HX := Lib.hid hx
                  have HLT := Lib.hid hlt
                  have HPASS : Hid ((brAt l k = false ∨ g k = true ∨ reach l g k) → ∀ ws', Nx wq ws' NB l.length (grow l g k) → Nx wq ws' NB l.length (grow l g (k + 1)) ∧ (m2 = false → ∀ j, j < k + 1 → brAt l j = false ∨ g j = true ∨ reach l g j) ∧ (m2 = true → ∃ j, j < l.length ∧ g j = false ∧ grow l g (k + 1) j = true)) := fun h ws' hb => by
                    rw [grow_pass h]
                    refine ⟨hb, fun hm j hj => ?_, fun hm => HN.out.2.2 hm⟩
                    by_cases e : j = k
                    · subst e; exact h
                    · exact HN.out.2.1 hm j (by omega)
                  clear hx hlt c2 c3 c4 c5 c7
                  by_cases h3 : kd = 3
                  · subst h3
                    by_cases ho : xo = 3
                    · subst ho
                      have HNN := Lib.hid (HPASS.out (Or.inl (by unfold brAt isBr isB; rw [HX.out]; simp)) _ HN.out.1)
                      go_wp2_with fail
                      go_roundw
                      case rel => exact ⟨k + 1, HLT.out, by go_num, m2, rfl, HNN.out⟩
                      case measure => simp [intOf]; have := HLT.out; omega
                    · have ho' : (xo == 3) = false := by simpa using ho
                      have cg := (HL.out.lg.both HN.out.1.both).2 k HLT.out
                      rw [Nat.zero_add] at cg
                      cases hgk : g k with
                      | true =>
                        rw [hgk] at cg
                        have HNN := Lib.hid (HPASS.out (Or.inr (Or.inl hgk)) _ HN.out.1)
                        clear ho hgk
                        go_wp2_with fail
                        go_roundw
                        case rel => exact ⟨k + 1, HLT.out, by go_num, m2, rfl, HNN.out⟩
                        case measure => simp [intOf]; have := HLT.out; omega
                      | false =>
                        rw [hgk] at cg
                        have hbr : brAt l k = true := by
                          have hr := (HALL.out _ (List.mem_of_getElem? HX.out)).1
                          unfold rightX leads at hr
                          simp at hr
                          unfold brAt isBr
                          rw [HX.out]
                          simp only [decide_true, Bool.true_and]
                          rcases hr.1.2.1.1 with h | h
                          · exact absurd h ho
                          · exact h
                        have HBR := Lib.hid hbr
                        have HGK := Lib.hid hgk
                        have ht := to_lt hpos k HLT.out
                        have hv : labV l xs = (to l k : Int) := labV_to HOK.out HX.out rfl
                        have hpk := (HL.out.at'.both HN.out.1.both).2 k _ (sumsTo_get _ _ _ (Nat.le_of_lt HLT.out))
                        have hpt := (HL.out.at'.both HN.out.1.both).2 (to l k) _ (sumsTo_get _ _ _ (Nat.le_of_lt ht))
                        rw [Nat.zero_add, sumAt_place _ _ _ (Nat.le_of_lt HLT.out)] at hpk
                        rw [Nat.zero_add, sumAt_place _ _ _ (Nat.le_of_lt ht)] at hpt
                        have bp1 := place_bd HALL.out g k
                        have bp2 := place_bd HALL.out g (to l k)
                        have hre : reach l g k ↔ -4096 ≤ 4 * (Lb.place l g (to l k) : Int) - 4 * (Lb.place l g k : Int) ∧ 4 * (Lb.place l g (to l k) : Int) - 4 * (Lb.place l g k : Int) ≤ 4094 := Iff.rfl
                        generalize to l k = tk at *
                        generalize Lb.place l g tk = pt at *
                        generalize Lb.place l g k = pk at *
                        obtain ⟨d, hd⟩ : ∃ d : Int, 4 * (pt : Int) - 4 * (pk : Int) = d := ⟨_, rfl⟩
                        rw [hd] at hre
                        have vd : IntKind.i64.wrap (4 * (pt : Int) - 4 * (pk : Int)) = d := by rw [IntWalk.i64_in _ (by constructor <;> omega)]; exact hd
                        have HRE := Lib.hid hre
                        have hcq : ∀ n, Calls Try.prog 37 #[.slice (some ⟨b, o, none⟩) l.length c, .string xs] (wr.drewN n) fun e w' => e = .returned (.int .i64 (tk : Int)) ∧ w' = wr.drewN n := fun n => by
                          have h1 := labelR_any b o c l xs (wr.drewN n) (Lib.hid ((HI.out.both HBW.out).both ((Both.refl wr).drewN n))) (by omega)
                          rw [hv] at h1
                          exact h1.mono fun _ _ ⟨h1, h2⟩ => ⟨h1, h2.symm⟩
                        have HCQ := Lib.hid hcq
                        have htl : (tk : Int) < (l.length : Int) + 1 := by omega
                        have hkl : (k : Int) < (l.length : Int) + 1 := by omega
                        clear hre hd hbr hgk ho bp1 bp2 hcq hv ht
                        go_upto_region 25 with (fail)
                        go_quiet ((go_at_call 37; with_reducible refine Calls.quiet_of_same (HCQ.out _)))
                        have HN5 := Lib.hid (HN.out.1.both' ((Both.refl wr).drewN nq))
                        clear hpk hpt c0 c1 c6 cg vd htl hkl HCQ HBW
                        generalize wr.drewN nq = W5 at HN5 ⊢
                        by_cases hr : reach l g k
                        · have HNN := Lib.hid (HPASS.out (Or.inr (Or.inr hr)) _ HN5.out)
                          obtain ⟨r1, r2⟩ := HRE.out.1 hr
                          have r3 : decide (d < -4096) = false := decide_eq_false (by omega)
                          have r4 : decide (4094 < d) = false := decide_eq_false (by omega)
                          have r5 : ¬ d < -4096 := by omega
                          have r6 : ¬ 4094 < d := by omega
                          clear hr
                          go_wp2_with fail
                          go_roundw
                          case rel => exact ⟨k + 1, HLT.out, by go_num, m2, rfl, HNN.out⟩
                          case measure => simp [intOf]; have := HLT.out; omega
                        · have e5 := HN5.out.cells k HLT.out
                          have f5 := HN5.out.fro k
                          have hgt := grow_take (g := g) HBR.out hr
                          have HNN : Hid (Nx wq (W5.setCell ⟨NB, k, none⟩ (.bool true)) NB l.length (grow l g (k + 1)) ∧ (true = false → ∀ j, j < k + 1 → brAt l j = false ∨ g j = true ∨ reach l g j) ∧ (true = true → ∃ j, j < l.length ∧ g j = false ∧ grow l g (k + 1) j = true)) := by
                            refine ⟨?_, fun h => (by cases h), fun _ => ⟨k, HLT.out, HGK.out, by rw [hgt, if_pos rfl]⟩⟩
                            rw [show grow l g (k + 1) = (fun j => if j = k then true else grow l g k j) from funext hgt]
                            exact HN5.out.put HLT.out
                          have hr2 : d < -4096 ∨ (¬ d < -4096 ∧ 4094 < d) := by
                            have h1 := fun h => hr (HRE.out.2 h)
                            by_cases h2 : d < -4096
                            · exact Or.inl h2
                            · exact Or.inr ⟨h2, by
                                apply Classical.byContradiction
                                intro h3
                                exact h1 ⟨by omega, by omega⟩⟩
                          clear hr hgt
                          rcases hr2 with r1 | ⟨r1, r2⟩
                          · go_wp2_with fail
                            go_roundw
                            case rel => exact ⟨k + 1, HLT.out, by go_num, true, rfl, HNN.out⟩
                            case measure => simp [intOf]; have := HLT.out; omega
                          · have r3 : decide (d < -4096) = false := decide_eq_false (by omega)
                            go_wp2_with fail
                            go_roundw
                            case rel => exact ⟨k + 1, HLT.out, by go_num, true, rfl, HNN.out⟩
                            case measure => simp [intOf]; have := HLT.out; omega
                  · have h3' : (kd == 3) = false := by simpa using h3
                    have HNN := Lib.hid (HPASS.out (Or.inl (by unfold brAt isBr; rw [HX.out]; simp [h3])) _ HN.out.1)
                    have h3n : (kd != 3) = true := by simpa using h3
                    clear h3
                    go_wp2_with fail
                    go_roundw
                    case rel => exact ⟨k + 1, HLT.out, by go_num, m2, rfl, HNN.out⟩
                    case measure => simp [intOf]; have := HLT.out; omega
                · obtain rfl : k = l.length := by omega
                  have HIW := Lib.hid (HI.out.both (HL.out.both.trans HN.out.1.both))
                  have HGW : Hid (BoolsAt wr NB 0 l.length (grow l g l.length)) := ⟨HN.out.1.lt, fun j hj => by rw [Nat.zero_add]; exact HN.out.1.cells j hj⟩
                  have hmm : 2 * (l.length - many (grow l g l.length) l.length) + (if m2 then 1 else 0) < gk := by
                    have h1 := many_le (grow l g l.length) l.length
                    have h2 := many_mono (le_grow l g l.length) l.length
                    simp only [if_true] at hn
                    cases m2 with
                    | false => simp; omega
                    | true =>
                      obtain ⟨j, hj, h3, h4⟩ := HN.out.2.2 rfl
                      have := many_lt (le_grow l g l.length) hj h3 h4
                      simp
                      omega
                  have HMM := Lib.hid hmm
                  clear hn hlt hk hmm
                  go_wp2_with fail
                  refine (placesR_any b o c NB 0 nc l (grow l g l.length) wr HIW HGW hlen HALL (grow_br HL.out.br _)).mono ?_
                  rintro e w5 ⟨PB2, pc2, rfl, hp5, hb5⟩
                  have HLN : Hid (Lp w w5 l (grow l g l.length) m2 NB PB2) := ⟨HL.out.both.trans (HN.out.1.both.trans hb5), HGW.out.both hb5, hp5, grow_le HL.out.le _, grow_br HL.out.br _, fun h => by
                    have h1 := HN.out.2.1 h
                    rw [grow_same h1]
                    exact closed_of_same h1⟩
                  clear hp5 hb5
                  go_wp2_with fail
                  go_roundg (2 * (l.length - many (grow l g l.length) l.length) + (if m2 then 1 else 0))
                  case measure => exact HMM.out
                  case rel => exact ⟨_, m2, NB, nc, PB2, pc2, rfl, rfl, rfl, Nat.le_refl _, HLN.out⟩
            | false =>
              have hgf := fin_of_closed (HL.out.done rfl) HL.out.le
              have hpe := HL.out.at'.2 l.length _ (sumsTo_get _ _ _ (Nat.le_refl _))
              rw [Nat.zero_add, sumAt_place _ _ _ (Nat.le_refl _), hgf] at hpe
              have hR1 : l.all rightX = true := List.all_eq_true.2 fun x hx => (HALL.out x hx).1
              have hLe : layE l = if 65536 < Lb.place l (Lb.fin l) l.length then 2 else 0 := by
                unfold layE
                rw [if_neg (by omega), if_neg (by rw [hR1]; simp), if_neg (by rw [HOK.out]; simp)]
              have hLE := hgf ▸ HL.out.at'
              have hLG := hgf ▸ HL.out.lg
              have hpb := place_bd HALL.out (Lb.fin l) l.length
              have HAT := Lib.hid hLE
              have HLG := Lib.hid hLG
              have HBB := Lib.hid HL.out.both
              generalize Lb.place l (Lb.fin l) l.length = q at hpe hLe hpb
              have hLL : (l.length : Int) < (l.length : Int) + 1 := by omega
              clear hLE hLG hR1 hgf HL hn
              by_cases hq : 65536 < q
              · rw [if_pos hq] at hLe
                have HE := Lib.hid hLe
                have hq' : 262144 < 4 * (q : Int) := by omega
                clear hLe hq hpb
                go_wp2_with fail
                go_ret3
                refine ⟨HBB.out, Or.inl ⟨by rw [HE.out]; decide, ?_⟩⟩
                rw [HE.out]
                rfl
              · rw [if_neg hq] at hLe
                have HE := Lib.hid hLe
                have hq' : decide (262144 < 4 * (q : Int)) = false := decide_eq_false (by omega)
                have hq2 : ¬ 262144 < 4 * (q : Int) := by omega
                clear hLe hq hpb
                go_wp2_with fail
                go_ret3
                exact ⟨HBB.out, Or.inr ⟨HE.out, PB, pc, LB, lc, rfl, HAT.out, HLG.out⟩⟩
end Go.Proofs.Ytjjbfeoidceiiaa
