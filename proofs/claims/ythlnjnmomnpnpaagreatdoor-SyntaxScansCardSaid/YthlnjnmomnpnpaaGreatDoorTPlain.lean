/- Tokens, in plain words: which bytes, words, numbers and signs there are, and how a text is scanned. -/
namespace Go.Proofs.YthlnjnmomnpnpaaGreatDoor.Tk
abbrev Bs := List UInt8
def isLet (c : UInt8) : Bool := decide (97 ≤ c.toNat ∧ c.toNat ≤ 122 ∨ 65 ≤ c.toNat ∧ c.toNat ≤ 90 ∨ c.toNat = 95)
def isDig (c : UInt8) : Bool := decide (48 ≤ c.toNat ∧ c.toNat ≤ 57)
def isRun (c : UInt8) : Bool := isLet c || isDig c
/-- harts device uart timer gpio resource task handler lock if else repeat halt -/
def words : List Bs := [[104, 97, 114, 116, 115], [100, 101, 118, 105, 99, 101], [117, 97, 114, 116], [116, 105, 109, 101, 114], [103, 112, 105, 111], [114, 101, 115, 111, 117, 114, 99, 101], [116, 97, 115, 107], [104, 97, 110, 100, 108, 101, 114], [108, 111, 99, 107], [105, 102], [101, 108, 115, 101], [114, 101, 112, 101, 97, 116], [104, 97, 108, 116]]
def signs : List Bs := [[61, 61], [33, 61], [60, 60], [62, 62], [60, 46], [43], [45], [42], [47], [37], [38], [124], [94], [60], [61], [33], [126], [40], [41], [123], [125], [91], [93], [59], [46]]
def isWord (s : Bs) : Bool := words.any (· == s)
def headDig : Bs → Bool
  | [] => false
  | c :: _ => isDig c
def isName (s : Bs) : Bool := decide (1 ≤ s.length ∧ s.length ≤ 20) && !headDig s && s.all isRun && !isWord s
/-- what a byte tells to the base 16; 99: nothing -/
def digit (c : UInt8) : Nat := if 48 ≤ c.toNat ∧ c.toNat ≤ 57 then c.toNat - 48 else if 97 ≤ c.toNat ∧ c.toNat ≤ 102 then c.toNat - 87 else 99
def val (base : Nat) : Bs → Nat → Option Nat
  | [], n => some n
  | c :: t, n => if digit c < base then val base t (n * base + digit c) else none
def valueV (s : Bs) (base most : Nat) : Option Nat :=
  if s.length = 0 ∨ most < s.length then none else match val base s 0 with
    | some n => if n ≤ 4294967295 then some n else none
    | none => none
def number (s : Bs) : Option Nat :=
  if ([48, 120] : Bs).isPrefixOf s then valueV (s.drop 2) 16 8 else if 1 < s.length ∧ s.head? = some 48 then none else valueV s 10 10
def gap : Bs → Nat
  | [] => 0
  | c :: t => if c.toNat = 32 ∨ c.toNat = 9 ∨ c.toNat = 10 then 1 else if c.toNat = 35 then 1 + (t.takeWhile fun x => decide (x.toNat ≠ 10)).length else 0
def runLen (s : Bs) : Nat := (s.takeWhile isRun).length
def feeds (s : Bs) : Nat := (s.filter fun x => decide (x.toNat = 10)).length
structure Tok where
  kind : Int
  text : Bs
  n : Int
  line : Int
deriving DecidableEq
/-- a run's token, but for its line; none: it is none -/
def ofRun (s : Bs) : Option (Int × Int) :=
  if isWord s then some (2, 0) else if isName s then some (1, 0) else match number s with
    | some n => some (3, (n : Int))
    | none => none
def signAt (s : Bs) : Option Bs := signs.find? fun g => g.isPrefixOf s
inductive Res where
  | ok (l : List Tok)
  | err (line : Nat)
deriving DecidableEq
def Res.cons (x : Tok) : Res → Res
  | .ok l => .ok (x :: l)
  | .err n => .err n
def scanF : Nat → Bs → Nat → Res
  | 0, _, n => .err n
  | _ + 1, [], n => .ok [⟨5, [], 0, n⟩]
  | f + 1, c :: t, n =>
    if 0 < gap (c :: t) then scanF f ((c :: t).drop (gap (c :: t))) (n + feeds ((c :: t).take (gap (c :: t))))
    else if 0 < runLen (c :: t) then
      match ofRun ((c :: t).take (runLen (c :: t))) with
      | some (k, m) => (scanF f ((c :: t).drop (runLen (c :: t))) n).cons ⟨k, (c :: t).take (runLen (c :: t)), m, n⟩
      | none => .err n
    else match signAt (c :: t) with
      | some g => (scanF f ((c :: t).drop g.length) n).cons ⟨4, g, 0, n⟩
      | none => .err n
def scan (s : Bs) (n : Nat) : Res := scanF (s.length + 1) s n
theorem sign_pos {s g : Bs} (h : signAt s = some g) : 0 < g.length := by
  have h1 : g ∈ signs := List.mem_of_find?_eq_some h
  revert h1
  have : ∀ g ∈ signs, 0 < g.length := by decide
  exact this g
theorem scanF_more (f : Nat) : ∀ (s : Bs) (n : Nat), s.length < f → scanF f s n = scan s n := by
  have key : ∀ f f' : Nat, ∀ (s : Bs) (n : Nat), s.length < f → s.length < f' → scanF f s n = scanF f' s n := by
    intro f
    induction f with
    | zero => intro _ _ _ h _; omega
    | succ f ih =>
      intro f' s n h h'
      cases f' with
      | zero => omega
      | succ f' =>
        cases s with
        | nil => rfl
        | cons c t =>
          rw [scanF, scanF]
          rw [List.length_cons] at h h'
          by_cases hg : 0 < gap (c :: t)
          · rw [if_pos hg, if_pos hg]
            exact ih f' _ _ (by rw [List.length_drop, List.length_cons]; omega) (by rw [List.length_drop, List.length_cons]; omega)
          · rw [if_neg hg, if_neg hg]
            by_cases hr : 0 < runLen (c :: t)
            · rw [if_pos hr, if_pos hr]
              cases ofRun ((c :: t).take (runLen (c :: t))) with
              | none => rfl
              | some p =>
                obtain ⟨k, m⟩ := p
                simp only
                rw [ih f' _ _ (by rw [List.length_drop, List.length_cons]; omega) (by rw [List.length_drop, List.length_cons]; omega)]
            · rw [if_neg hr, if_neg hr]
              cases hs : signAt (c :: t) with
              | none => rfl
              | some g =>
                have := sign_pos hs
                simp only
                rw [ih f' _ _ (by rw [List.length_drop, List.length_cons]; omega) (by rw [List.length_drop, List.length_cons]; omega)]
  intro s n h
  exact key f _ s n h (Nat.lt_succ_self _)
theorem scan_nil (n : Nat) : scan [] n = .ok [⟨5, [], 0, n⟩] := rfl
theorem scan_gap {s : Bs} (n : Nat) (h : 0 < gap s) : scan s n = scan (s.drop (gap s)) (n + feeds (s.take (gap s))) := by
  cases s with
  | nil => exact absurd h (Nat.lt_irrefl 0)
  | cons c t =>
    unfold scan
    rw [scanF, if_pos h]
    exact scanF_more _ _ _ (by rw [List.length_drop, List.length_cons]; omega)
theorem scan_run {s : Bs} (n : Nat) (h : gap s = 0) (hr : 0 < runLen s) {k m : Int} (ho : ofRun (s.take (runLen s)) = some (k, m)) : scan s n = (scan (s.drop (runLen s)) n).cons ⟨k, s.take (runLen s), m, n⟩ := by
  cases s with
  | nil => exact absurd hr (Nat.lt_irrefl 0)
  | cons c t =>
    show scanF ((c :: t).length + 1) (c :: t) n = _
    rw [scanF, if_neg (by omega), if_pos hr, ho]
    simp only
    rw [scanF_more _ _ _ (by rw [List.length_drop, List.length_cons]; omega)]
theorem scan_run_no {s : Bs} (n : Nat) (h : gap s = 0) (hr : 0 < runLen s) (ho : ofRun (s.take (runLen s)) = none) : scan s n = .err n := by
  cases s with
  | nil => exact absurd hr (Nat.lt_irrefl 0)
  | cons c t =>
    show scanF ((c :: t).length + 1) (c :: t) n = _
    rw [scanF, if_neg (by omega), if_pos hr, ho]
theorem scan_sign {s g : Bs} (n : Nat) (h : gap s = 0) (hr : runLen s = 0) (hs : signAt s = some g) : scan s n = (scan (s.drop g.length) n).cons ⟨4, g, 0, n⟩ := by
  have hp := sign_pos hs
  cases s with
  | nil => exact absurd hs (by rw [show signAt [] = none from rfl]; simp)
  | cons c t =>
    show scanF ((c :: t).length + 1) (c :: t) n = _
    rw [scanF, if_neg (by omega), if_neg (by omega), hs]
    simp only
    rw [scanF_more _ _ _ (by rw [List.length_drop, List.length_cons]; omega)]
theorem scan_bad {s : Bs} (n : Nat) (hne : s ≠ []) (h : gap s = 0) (hr : runLen s = 0) (hs : signAt s = none) : scan s n = .err n := by
  cases s with
  | nil => exact absurd rfl hne
  | cons c t =>
    show scanF ((c :: t).length + 1) (c :: t) n = _
    rw [scanF, if_neg (by omega), if_neg (by omega), hs]
end Go.Proofs.YthlnjnmomnpnpaaGreatDoor.Tk
