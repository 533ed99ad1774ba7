/- Two registers turned into one another, plainly: the turned instruction is right, and reads what the other reads, turned one by one. -/
import Derived.Test.YtphnagkicboglaaDDec
import Derived.Test.YtphnagkicboglaaCAwake
namespace Go.Proofs.Ytphnagkicboglaa
open Go.RowKit Rv
set_option linter.unusedVariables false
def sw (a b v : Int) : Int := if v = a then b else if v = b then a else v
theorem sw_zero {a b : Int} (ha : 1 ≤ a) (hb : 1 ≤ b) : sw a b 0 = 0 := by
  unfold sw
  rw [if_neg (by omega), if_neg (by omega)]
theorem sw_bd {a b v : Int} (ha : 1 ≤ a) (ha' : a ≤ 31) (hb : 1 ≤ b) (hb' : b ≤ 31) (h : 0 ≤ v ∧ v < 32) : 0 ≤ sw a b v ∧ sw a b v < 32 ∧ (0 < sw a b v ↔ 0 < v) := by
  unfold sw
  split
  · omega
  · split <;> omega
theorem sw_inj {a b u v : Int} : sw a b u = sw a b v ↔ u = v := by
  unfold sw
  repeat' split
  all_goals omega
def turned (a b : Int) (i : Ins) : Ins := ⟨i.op, sw a b i.d, sw a b i.a, sw a b i.b, i.n⟩
theorem reg_sw {a b v : Int} {is : Bool} (ha : 1 ≤ a) (ha' : a ≤ 31) (hb : 1 ≤ b) (hb' : b ≤ 31) (h : reg v is = true) : reg (sw a b v) is = true := by
  cases is with
  | false =>
    obtain rfl := reg_no h
    rw [sw_zero ha hb]
    rfl
  | true =>
    have h1 := reg_yes h
    obtain ⟨h2, h3, _⟩ := sw_bd ha ha' hb hb' h1
    simp [reg]
    omega
theorem right_turned {a b : Int} {i : Ins} (ha : 1 ≤ a) (ha' : a ≤ 31) (hb : 1 ≤ b) (hb' : b ≤ 31) (h : right i = true) : right (turned a b i) = true := by
  obtain ⟨h1, h2, hd, hA, hB, hn⟩ := right_parts h
  have q1 := reg_sw ha ha' hb hb' hd
  have q2 := reg_sw ha ha' hb hb' hA
  have q3 := reg_sw ha ha' hb hb' hB
  unfold right turned
  simp only
  rw [decide_eq_true (show 1 ≤ i.op ∧ i.op ≤ 49 from ⟨h1, h2⟩), q1, q2, q3, hn]
  rfl
theorem reads_turned {a b : Int} {i : Ins} (ha : 1 ≤ a) (ha' : a ≤ 31) (hb : 1 ≤ b) (hb' : b ≤ 31) (h : right i = true) : readsL (turned a b i) = (readsL i).map (sw a b) := by
  obtain ⟨_, _, hA, hB, _⟩ := right_bd h
  have e1 := (sw_bd ha ha' hb hb' hA).2.2
  have e2 := (sw_bd ha ha' hb hb' hB).2.2
  have e3 : (sw a b i.b ≠ sw a b i.a) ↔ i.b ≠ i.a := not_congr sw_inj
  unfold readsL
  rw [right_turned ha ha' hb hb' h, h]
  show (if 0 < sw a b i.a then [sw a b i.a] else []) ++ (if 0 < sw a b i.b ∧ sw a b i.b ≠ sw a b i.a then [sw a b i.b] else []) = _
  simp only [e1, e2, e3, if_true]
  split <;> split <;> simp
theorem reads_len2 (i : Ins) : (readsL i).length ≤ 2 := by
  unfold readsL
  split
  · split <;> split <;> simp
  · simp
/-- the row of the three that are turned -/
def tup (a b d x y : Int) (k : Nat) (t0 t1 t2 : Int) : Prop := t0 = (if 0 < k then sw a b d else d) ∧ t1 = (if 1 < k then sw a b x else x) ∧ t2 = (if 2 < k then sw a b y else y)
structure TurnW (w wr : World) (xb tb : Nat) (xc : Array Value) (t0 t1 t2 : Int) : Prop where
  both : Both w wr
  hx : wr.heap[xb]? = some (.cells xc 23 (0, 0))
  ht : wr.heap[tb]? = some (.cells #[.int .i64 t0, .int .i64 t1, .int .i64 t2] 3 (0, 0))
  le : w.heap.size ≤ tb
  ne : xb ≠ tb
theorem TurnW.put {w wr : World} {xb tb : Nat} {xc : Array Value} {t0 t1 t2 u0 u1 u2 v : Int} {i : Nat} (h : TurnW w wr xb tb xc t0 t1 t2)
    (he : (#[.int .i64 t0, .int .i64 t1, .int .i64 t2] : Array Value).setIfInBounds i (.int .i64 v) = #[.int .i64 u0, .int .i64 u1, .int .i64 u2]) : TurnW w (wr.setCell ⟨tb, i, none⟩ (.int .i64 v)) xb tb xc u0 u1 u2 := by
  rw [setCell_eq_setRow wr _ i _ _ (0, 0) _ h.ht, he]
  exact ⟨h.both.setRow h.le _, (setRow_other _ _ _ _ h.ne).trans h.hx, setRow_heap _ _ _ _ _ _ h.ht, h.le, h.ne⟩
theorem TurnW.turn {w wr : World} {xb tb : Nat} {xc : Array Value} {a b d x y t0 t1 t2 : Int} {k : Nat} (h : TurnW w wr xb tb xc t0 t1 t2) (hk : k < 3) (ht : tup a b d x y k t0 t1 t2) :
    ∃ v, wr.cell? ⟨tb, k, none⟩ = some (.int .i64 v) ∧ (∀ nv, nv = sw a b v → ∃ u0 u1 u2, TurnW w (wr.setCell ⟨tb, k, none⟩ (.int .i64 nv)) xb tb xc u0 u1 u2 ∧ tup a b d x y (k + 1) u0 u1 u2) ∧ (v = sw a b v → tup a b d x y (k + 1) t0 t1 t2) := by
  obtain ⟨e0, e1, e2⟩ := ht
  match k, hk with
  | 0, _ =>
    obtain rfl : t0 = d := e0
    refine ⟨t0, cell_of_heap h.ht 0, fun nv hn => ⟨nv, t1, t2, h.put rfl, ?_⟩, fun hv => ?_⟩
    · exact ⟨hn, e1, e2⟩
    · exact ⟨hv, e1, e2⟩
  | 1, _ =>
    obtain rfl : t1 = x := e1
    refine ⟨t1, cell_of_heap h.ht 1, fun nv hn => ⟨t0, nv, t2, h.put rfl, ?_⟩, fun hv => ?_⟩
    · exact ⟨e0, hn, e2⟩
    · exact ⟨e0, hv, e2⟩
  | 2, _ =>
    obtain rfl : t2 = y := e2
    refine ⟨t2, cell_of_heap h.ht 2, fun nv hn => ⟨t0, t1, nv, h.put rfl, ?_⟩, fun hv => ?_⟩
    · exact ⟨e0, e1, hn⟩
    · exact ⟨e0, e1, hv⟩
end Go.Proofs.Ytphnagkicboglaa
