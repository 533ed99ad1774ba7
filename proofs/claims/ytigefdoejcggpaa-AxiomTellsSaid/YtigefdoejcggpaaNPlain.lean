/- Events, orders and histories of memory, as plain data, and what package axiom's calls tell of them. -/
import Derived.WalkKit
namespace Go.Proofs.Ytigefdoejcggpaa
namespace Ax
/-- an event: its hart, its kind (1 a load, 2 a store, 3 a fence), its word, its number -/
abbrev Ev := Int × Int × Int × Int
def z4 : Ev := (0, 0, 0, 0)
def isAcc (e : Ev) : Bool := decide (e.2.1 = 1) || decide (e.2.1 = 2)
def isSt (e : Ev) (a : Int) : Bool := decide (e.2.1 = 2) && decide (e.2.2.1 = a)
def isEv (e : Ev) : Bool := decide (0 ≤ e.1) && decide (e.1 < 4) && (if e.2.1 = 3 then decide (e.2.2.1 = 0) && decide (e.2.2.2 = 0) else isAcc e && (decide (0 ≤ e.2.2.1) && decide (e.2.2.1 < 4)) && (decide (-2147483648 ≤ e.2.2.2) && decide (e.2.2.2 < 2147483648)))
def right (l : List Ev) : Bool := decide (l.length ≤ 8) && l.all isEv
def ev (l : List Ev) (i : Int) : Ev := l[i.toNat]?.getD z4
def plc (l : List Ev) (i : Int) : Bool := decide (0 ≤ i) && decide (i < (l.length : Int)) && isAcc (ev l i)
def ahd (l : List Ev) (i k : Int) : Bool := decide (i < k) && decide ((ev l i).1 = (ev l k).1)
def isFen (h : Int) (e : Ev) : Bool := decide (e.2.1 = 3) && decide (e.1 = h)
def fen (l : List Ev) (i k : Int) : Bool := ((l.take k.toNat).drop i.toNat).any (isFen (ev l i).1)
/-- keeps: of places of accesses in what is right -/
def kp (l : List Ev) (i k : Int) : Bool := ahd l i k && (decide ((ev l i).2.1 = 1) || isSt (ev l k) (ev l i).2.2.1 || fen l i k)
def keepsV (l : List Ev) (i k : Int) : Bool := right l && (plc l i && plc l k) && kp l i k
def pw (l : List Ev) (i k : Int) : Bool := isSt (ev l k) (ev l i).2.2.1
def vgo (l : List Ev) (i : Int) : Int → Bool → List Int → Int
  | n, _, [] => n
  | n, b, k :: o => vgo l i (if pw l i k && (!(b || decide (k = i)) || ahd l k i) then (ev l k).2.2.2 else n) (b || decide (k = i)) o
def val (l : List Ev) (o : List Int) (i : Int) : Int := vgo l i 0 false o
/-- is it an order: the places of all accesses, each once -/
def Ord (l : List Ev) (o : List Int) : Prop := (∀ (p : Nat) (x : Int), o[p]? = some x → plc l x = true ∧ x ∉ o.take p) ∧ ∀ (i : Nat) (e : Ev), l[i]? = some e → isAcc e = true → (i : Int) ∈ o
def ordB (l : List Ev) (o : List Int) : Bool := ((List.range o.length).all fun p => plc l (o.getD p 0) && !((o.take p).contains (o.getD p 0))) && ((List.range l.length).all fun (i : Nat) => !(isAcc (ev l i)) || o.contains (i : Int))
def valueV (l : List Ev) (o : List Int) (i : Int) : Int × Bool := if right l && ordB l o && plc l i && decide ((ev l i).2.1 = 1) then (val l o i, true) else (0, false)
def holdsB (l : List Ev) (o : List Int) : Bool := right l && ordB l o && (List.range o.length).all fun p => !((o.drop p).any fun i => kp l i (o.getD p 0)) && (!(decide ((ev l (o.getD p 0)).2.1 = 1)) || decide ((ev l (o.getD p 0)).2.2.2 = val l o (o.getD p 0)))
def Holds (l : List Ev) (o : List Int) : Prop := right l = true ∧ Ord l o ∧ ∀ (p : Nat) (k : Int), o[p]? = some k → (∀ i ∈ o.drop p, kp l i k = false) ∧ ((ev l k).2.1 = 1 → (ev l k).2.2.2 = val l o k)
theorem getD_of {o : List Int} {p : Nat} {x : Int} (h : o[p]? = some x) : o.getD p 0 = x := by rw [List.getD_eq_getElem?_getD, h]; rfl
theorem get_of {o : List Int} {p : Nat} (h : p < o.length) : o[p]? = some (o.getD p 0) := by rw [List.getD_eq_getElem?_getD, List.getElem?_eq_getElem h]; rfl
theorem ev_get {l : List Ev} {i : Nat} {e : Ev} (h : l[i]? = some e) : ev l i = e := by unfold ev; rw [Int.toNat_natCast, h]; rfl
theorem get_ev {l : List Ev} {i : Nat} (h : i < l.length) : l[i]? = some (ev l i) := by unfold ev; rw [Int.toNat_natCast, List.getElem?_eq_getElem h]; rfl
theorem ord_iff {l : List Ev} {o : List Int} : ordB l o = true ↔ Ord l o := by
  unfold ordB Ord
  simp only [Bool.and_eq_true, List.all_eq_true, List.mem_range, Bool.or_eq_true, Bool.not_eq_true']
  constructor
  · rintro ⟨h1, h2⟩
    refine ⟨fun p x hx => ?_, fun i e he ha => ?_⟩
    · have := h1 p (List.getElem?_eq_some_iff.1 hx).1
      rw [getD_of hx] at this
      refine ⟨this.1, fun c => ?_⟩
      rw [List.contains_iff_mem.2 c] at this
      cases this.2
    · have := h2 i (List.getElem?_eq_some_iff.1 he).1
      rw [ev_get he, ha] at this
      rcases this with h | h
      · cases h
      · exact List.contains_iff_mem.1 h
  · rintro ⟨h1, h2⟩
    refine ⟨fun p hp => ?_, fun i hi => ?_⟩
    · obtain ⟨a, b⟩ := h1 p _ (get_of hp)
      refine ⟨a, Bool.eq_false_iff.2 fun c => b (List.contains_iff_mem.1 c)⟩
    · by_cases ha : isAcc (ev l i) = true
      · exact .inr (List.contains_iff_mem.2 (h2 i _ (get_ev hi) ha))
      · exact .inl (Bool.eq_false_iff.2 ha)
theorem holds_iff {l : List Ev} {o : List Int} : holdsB l o = true ↔ Holds l o := by
  unfold holdsB Holds
  simp only [Bool.and_eq_true, List.all_eq_true, List.mem_range, Bool.or_eq_true, Bool.not_eq_true', ord_iff, List.any_eq_false, decide_eq_false_iff_not, decide_eq_true_iff, and_assoc]
  refine and_congr_right fun _ => and_congr_right fun _ => ?_
  constructor
  · intro h p k hk
    have := h p (List.getElem?_eq_some_iff.1 hk).1
    rw [getD_of hk] at this
    exact ⟨fun i hi => Bool.eq_false_iff.2 (this.1 i hi), fun hl => this.2.resolve_left fun c => c hl⟩
  · intro h p hp
    obtain ⟨a, b⟩ := h p _ (get_of hp)
    refine ⟨fun i hi => by rw [a i hi]; exact Bool.false_ne_true, ?_⟩
    by_cases hl : (ev l (o.getD p 0)).2.1 = 1
    · exact .inr (b hl)
    · exact .inl hl
/- how far an order has come -/
abbrev Wd := Int × Int × Int × Int
def wat (s : Wd) (a : Int) : Int := if a = 0 then s.1 else if a = 1 then s.2.1 else if a = 2 then s.2.2.1 else s.2.2.2
def wset (s : Wd) (a n : Int) : Wd := if a = 0 then (n, s.2) else if a = 1 then (s.1, n, s.2.2) else if a = 2 then (s.1, s.2.1, n, s.2.2.2) else (s.1, s.2.1, s.2.2.1, n)
structure St where
  has : Nat
  wd : Wd
def bit (s : St) (i : Nat) : Bool := s.has.testBit i
def wth (s : St) (i : Nat) (e : Ev) : St := ⟨s.has ||| 1 <<< i, if e.2.1 = 2 then wset s.wd e.2.2.1 e.2.2.2 else s.wd⟩
def ldk (l : List Ev) (s : St) (i : Nat) (k : Nat) : Int := (List.range k).foldl (fun n (k : Nat) => if ahd l k i && pw l i k && !(bit s k) then (ev l k).2.2.2 else n) (wat s.wd (ev l i).2.2.1)
/-- what a load tells, if it is next -/
def loadV (l : List Ev) (s : St) (i : Nat) : Int := ldk l s i i
def nextB (l : List Ev) (s : St) (i : Nat) : Bool := ((List.range i).all fun (k : Nat) => !(isAcc (ev l k) && !(bit s k) && kp l k i)) && (!(decide ((ev l i).2.1 = 1)) || decide ((ev l i).2.2.2 = loadV l s i))
def opn (l : List Ev) (s : St) (i : Nat) : Bool := isAcc (ev l i) && !(bit s i)
def leadsB (l : List Ev) : Nat → St → Bool
  | 0, _ => false
  | f + 1, s => (List.range l.length).all (fun i => !(opn l s i)) || (List.range l.length).any (fun i => opn l s i && nextB l s i && leadsB l f (wth s i (ev l i)))
def init : St := ⟨0, 0, 0, 0, 0⟩
def allowed (l : List Ev) : Bool := right l && leadsB l 9 init
end Ax
end Go.Proofs.Ytigefdoejcggpaa
