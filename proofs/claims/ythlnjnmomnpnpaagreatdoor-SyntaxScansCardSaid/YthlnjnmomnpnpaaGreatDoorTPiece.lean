/- Pieces of a text and what may stand between them, in plain words; how they are scanned. -/
import Derived.Test.YthlnjnmomnpnpaaGreatDoorTDec
namespace Go.Proofs.YthlnjnmomnpnpaaGreatDoor.Tk
set_option linter.unusedVariables false
/-- a piece that is one token of its kind -/
def Good (w : Bs) (k m : Int) : Prop := (w ≠ [] ∧ (∀ c ∈ w, isRun c = true) ∧ ofRun w = some (k, m)) ∨ (w ∈ signs ∧ k = 4 ∧ m = 0)
/-- what may stand behind a piece -/
def isSep (c : UInt8) : Bool := c == 32 || c == 9 || c == 10 || c == 35
def Sep (s : Bs) : Prop := ∀ c t, s = c :: t → isSep c = true
theorem sep_norun {c : UInt8} (h : isSep c = true) : isRun c = false := by
  unfold isSep at h
  simp only [Bool.or_eq_true, beq_iff_eq] at h
  rcases h with ((rfl | rfl) | rfl) | rfl <;> decide
theorem runLen_app {w s : Bs} (hw : ∀ c ∈ w, isRun c = true) (hs : Sep s) : runLen (w ++ s) = w.length := by
  unfold runLen
  induction w with
  | nil =>
    cases s with
    | nil => rfl
    | cons c t =>
      rw [List.nil_append, List.takeWhile_cons, if_neg (by rw [sep_norun (hs c t rfl)]; exact Bool.false_ne_true)]
  | cons c w ih =>
    rw [List.cons_append, List.takeWhile_cons, if_pos (hw c List.mem_cons_self), List.length_cons, List.length_cons, ih fun x hx => hw x (List.mem_cons_of_mem _ hx)]
theorem sign_alone : ∀ g ∈ signs, signAt g = some g := by decide
theorem sign_sep : ∀ g ∈ signs, ∀ c ∈ ([32, 9, 10, 35] : Bs), signAt (g ++ [c]) = some g := by decide
theorem sign_short : ∀ g ∈ signs, 1 ≤ g.length ∧ g.length ≤ 2 := by decide
theorem sign_norun : ∀ g ∈ signs, runLen g = 0 ∧ gap g = 0 := by decide
theorem prefix_two {g s t : Bs} (hg : g.length ≤ 2) (h : s.take 2 = t.take 2) : g.isPrefixOf s = g.isPrefixOf t := by
  have key : ∀ u : Bs, g.isPrefixOf u = g.isPrefixOf (u.take 2) := by
    intro u
    rw [Bool.eq_iff_iff, List.isPrefixOf_iff_prefix, List.isPrefixOf_iff_prefix]
    constructor
    · intro h
      exact List.prefix_take_iff.2 ⟨h, hg⟩
    · intro h
      exact h.trans (List.take_prefix _ _)
  rw [key s, key t, h]
theorem signAt_two {s t : Bs} (h : s.take 2 = t.take 2) : signAt s = signAt t := by
  unfold signAt
  have : ∀ l : List Bs, (∀ g ∈ l, g.length ≤ 2) → l.find? (fun g => g.isPrefixOf s) = l.find? (fun g => g.isPrefixOf t) := by
    intro l
    induction l with
    | nil => intro _; rfl
    | cons g l ih =>
      intro hl
      rw [List.find?_cons, List.find?_cons, prefix_two (hl g List.mem_cons_self) h, ih fun x hx => hl x (List.mem_cons_of_mem _ hx)]
  exact this signs fun g hg => (sign_short g hg).2
theorem signAt_app {g s : Bs} (hg : g ∈ signs) (hs : Sep s) : signAt (g ++ s) = some g := by
  have h1 := sign_short g hg
  cases s with
  | nil => rw [List.append_nil]; exact sign_alone g hg
  | cons c t =>
    have hc := hs c t rfl
    have hm : c ∈ ([32, 9, 10, 35] : Bs) := by
      unfold isSep at hc
      simp only [Bool.or_eq_true, beq_iff_eq] at hc
      rcases hc with ((rfl | rfl) | rfl) | rfl <;> decide
    rw [signAt_two (t := g ++ [c])]
    · exact sign_sep g hg c hm
    · match g, h1 with
      | [a], _ => rfl
      | [a, b], _ => rfl
theorem gap_app {g s : Bs} (hne : g ≠ []) (h : gap g = 0) : gap (g ++ s) = 0 := by
  cases g with
  | nil => exact absurd rfl hne
  | cons c t =>
    have h' : (if c.toNat = 32 ∨ c.toNat = 9 ∨ c.toNat = 10 then 1 else if c.toNat = 35 then 1 + (t.takeWhile fun x => decide (x.toNat ≠ 10)).length else 0) = 0 := h
    show (if c.toNat = 32 ∨ c.toNat = 9 ∨ c.toNat = 10 then 1 else if c.toNat = 35 then 1 + ((t ++ s).takeWhile fun x => decide (x.toNat ≠ 10)).length else 0) = 0
    by_cases h1 : c.toNat = 32 ∨ c.toNat = 9 ∨ c.toNat = 10
    · rw [if_pos h1] at h'; omega
    · rw [if_neg h1] at h' ⊢
      by_cases h2 : c.toNat = 35
      · rw [if_pos h2] at h'; omega
      · rw [if_neg h2]
theorem gap_head {w : Bs} (hne : w ≠ []) (h : ∀ c ∈ w, isRun c = true) : gap w = 0 := by
  cases w with
  | nil => exact absurd rfl hne
  | cons c t => exact gap_run (h c List.mem_cons_self)
theorem runLen_sign {g s : Bs} (hg : g ∈ signs) : runLen (g ++ s) = 0 := by
  have h := (sign_norun g hg).1
  have h1 := (sign_short g hg).1
  cases g with
  | nil => simp at h1
  | cons c t =>
    unfold runLen at h ⊢
    rw [List.takeWhile_cons] at h
    rw [List.cons_append, List.takeWhile_cons]
    cases hc : isRun c with
    | true => rw [if_pos hc] at h; simp at h
    | false => rfl
theorem scan_piece {w s : Bs} {k m : Int} (hg : Good w k m) (hs : Sep s) (n : Nat) : scan (w ++ s) n = (scan s n).cons ⟨k, w, m, n⟩ := by
  rcases hg with ⟨hne, hall, ho⟩ | ⟨hm, rfl, rfl⟩
  · have hr := runLen_app hall hs
    have hp : 0 < w.length := List.length_pos_iff.2 hne
    have e := scan_run (s := w ++ s) (k := k) (m := m) n (gap_app hne (gap_head hne hall)) (by omega) (by rw [hr, List.take_left]; exact ho)
    rw [e, hr, List.drop_left, List.take_left]
  · have h1 := sign_short w hm
    have hne : w ≠ [] := by rintro rfl; simp at h1
    rw [scan_sign (s := w ++ s) (g := w) n (gap_app hne (sign_norun w hm).2) (runLen_sign hm) (signAt_app hm hs), List.drop_left]
/-- " ", "  ", "\t", " \t ", "\n", " \n\n", " # x = 1;\n", "#\n\t" -/
def blanks : List Bs := [[32], [32, 32], [9], [32, 9, 32], [10], [32, 10, 10], [32, 35, 32, 120, 32, 61, 32, 49, 59, 10], [35, 10, 9]]
theorem feeds_app (s t : Bs) : feeds (s ++ t) = feeds s + feeds t := by
  unfold feeds
  rw [List.filter_append, List.length_append]
theorem scan_one {c : UInt8} (h : c.toNat = 32 ∨ c.toNat = 9 ∨ c.toNat = 10) (s : Bs) (n : Nat) : scan (c :: s) n = scan s (n + feeds [c]) := by
  have hg : gap (c :: s) = 1 := by
    show (if c.toNat = 32 ∨ c.toNat = 9 ∨ c.toNat = 10 then 1 else _) = 1
    rw [if_pos h]
  rw [scan_gap n (by omega), hg]
  rfl
theorem scan_note {t : Bs} (ht : ∀ c ∈ t, c.toNat ≠ 10) (s : Bs) (n : Nat) : scan (35 :: (t ++ 10 :: s)) n = scan (10 :: s) n := by
  have hw : ((t ++ 10 :: s).takeWhile fun x => decide (x.toNat ≠ 10)) = t := by
    induction t with
    | nil => rfl
    | cons c t ih =>
      rw [List.cons_append, List.takeWhile_cons, if_pos (decide_eq_true (ht c List.mem_cons_self)), ih fun x hx => ht x (List.mem_cons_of_mem _ hx)]
  have hg : gap (35 :: (t ++ 10 :: s)) = t.length + 1 := by
    show 1 + ((t ++ 10 :: s).takeWhile fun x => decide (x.toNat ≠ 10)).length = _
    rw [hw]
    omega
  rw [scan_gap n (by omega), hg, List.drop_succ_cons, List.drop_left, List.take_succ_cons, List.take_left]
  have hf : feeds (35 :: t) = 0 := by
    unfold feeds
    rw [List.length_eq_zero_iff, List.filter_eq_nil_iff]
    intro c hc
    rcases List.mem_cons.1 hc with rfl | hc
    · decide
    · simpa using ht c hc
  rw [hf, Nat.add_zero]
theorem scan_blank {b : Bs} (hb : b ∈ blanks) (s : Bs) (n : Nat) : scan (b ++ s) n = scan s (n + feeds b) := by
  have h32 := scan_one (c := 32) (by decide)
  have h9 := scan_one (c := 9) (by decide)
  have h10 := scan_one (c := 10) (by decide)
  have f32 : feeds [32] = 0 := rfl
  have f9 : feeds [9] = 0 := rfl
  have f10 : feeds [10] = 1 := rfl
  simp only [f32, f9, f10, Nat.add_zero] at h32 h9 h10
  simp only [blanks, List.mem_cons, List.not_mem_nil, or_false] at hb
  rcases hb with rfl | rfl | rfl | rfl | rfl | rfl | rfl | rfl
  · exact h32 s n
  · exact (h32 _ n).trans (h32 s n)
  · exact h9 s n
  · exact (h32 _ n).trans ((h9 _ n).trans (h32 s n))
  · exact h10 s n
  · exact (h32 _ n).trans ((h10 _ n).trans (h10 s (n + 1)))
  · exact (h32 _ n).trans ((scan_note (t := [32, 120, 32, 61, 32, 49, 59]) (by decide) s n).trans (h10 s n))
  · exact (scan_note (t := []) (by decide) (9 :: s) n).trans ((h10 _ n).trans (h9 s (n + 1)))
theorem blank_sep {b : Bs} (hb : b ∈ blanks) (s : Bs) : Sep (b ++ s) := by
  intro c t h
  have : ∀ b ∈ blanks, b.head?.map isSep = some true := by decide
  have h1 := this b hb
  cases b with
  | nil => simp at h1
  | cons d u =>
    rw [List.cons_append, List.cons.injEq] at h
    rw [← h.1]
    simpa using h1
/-- pieces, each with what stands behind it -/
structure Item where
  text : Bs
  kind : Int
  n : Int
  behind : Bs
def Item.ok (x : Item) : Prop := Good x.text x.kind x.n ∧ x.behind ∈ blanks ∧ feeds x.text = 0
def textOf (l : List Item) : Bs := l.flatMap fun x => x.text ++ x.behind
def toksOf : List Item → Nat → List Tok
  | [], _ => []
  | x :: l, n => ⟨x.kind, x.text, x.n, n⟩ :: toksOf l (n + feeds x.behind)
def Res.pre (l : List Tok) : Res → Res
  | .ok m => .ok (l ++ m)
  | .err n => .err n
theorem scan_items (l : List Item) (h : ∀ x ∈ l, x.ok) (s : Bs) : ∀ n : Nat, scan (textOf l ++ s) n = (scan s (n + feeds (textOf l))).pre (toksOf l n) := by
  induction l with
  | nil =>
    intro n
    show scan s n = (scan s (n + 0)).pre []
    rw [Nat.add_zero]
    cases scan s n <;> rfl
  | cons x l ih =>
    intro n
    obtain ⟨h1, h2, h3⟩ := h x List.mem_cons_self
    have e : textOf (x :: l) ++ s = x.text ++ (x.behind ++ (textOf l ++ s)) := by
      unfold textOf
      rw [List.flatMap_cons, List.append_assoc, List.append_assoc]
    have ef : n + feeds (textOf (x :: l)) = n + feeds x.behind + feeds (textOf l) := by
      unfold textOf
      rw [List.flatMap_cons, feeds_app, feeds_app, h3]
      omega
    rw [e, scan_piece h1 (blank_sep h2 _), scan_blank h2, ih (fun y hy => h y (List.mem_cons_of_mem _ hy)), ef]
    cases scan s (n + feeds x.behind + feeds (textOf l)) <;> rfl
theorem toksOf_snoc (l : List Item) (x : Item) (h : ∀ y ∈ l, feeds y.text = 0) : ∀ n : Nat, toksOf (l ++ [x]) n = toksOf l n ++ [⟨x.kind, x.text, x.n, ((n + feeds (textOf l) : Nat) : Int)⟩] := by
  induction l with
  | nil => intro n; rfl
  | cons y l ih =>
    intro n
    have ef : n + feeds (textOf (y :: l)) = n + feeds y.behind + feeds (textOf l) := by
      unfold textOf
      rw [List.flatMap_cons, feeds_app, feeds_app, h y List.mem_cons_self]
      omega
    rw [List.cons_append, toksOf, toksOf, ih (fun z hz => h z (List.mem_cons_of_mem _ hz)), ef, List.cons_append]
theorem textOf_snoc (l : List Item) (x : Item) : textOf (l ++ [x]) = textOf l ++ (x.text ++ x.behind) := by
  unfold textOf
  rw [List.flatMap_append, List.flatMap_cons, List.flatMap_nil, List.append_nil]
/-- further on by so many lines -/
def Tok.down (d : Nat) (t : Tok) : Tok := { t with line := t.line + d }
def Res.down (d : Nat) : Res → Res
  | .ok l => .ok (l.map (Tok.down d))
  | .err n => .err (n + d)
theorem Res.down_cons (d : Nat) (x : Tok) (r : Res) : (r.cons x).down d = (r.down d).cons (x.down d) := by
  cases r <;> rfl
theorem scanF_down (d : Nat) : ∀ (f : Nat) (s : Bs) (n : Nat), s.length < f → scanF f s (n + d) = (scanF f s n).down d := by
  intro f
  induction f with
  | zero => intro s n h; omega
  | succ f ih =>
    intro s n h
    cases s with
    | nil => rfl
    | cons c t =>
      rw [List.length_cons] at h
      rw [scanF, scanF]
      by_cases hg : 0 < gap (c :: t)
      · rw [if_pos hg, if_pos hg, Nat.add_right_comm]
        exact ih _ _ (by rw [List.length_drop, List.length_cons]; omega)
      · rw [if_neg hg, if_neg hg]
        by_cases hr : 0 < runLen (c :: t)
        · rw [if_pos hr, if_pos hr]
          cases ofRun ((c :: t).take (runLen (c :: t))) with
          | none => rfl
          | some p =>
            obtain ⟨k, m⟩ := p
            simp only
            rw [ih _ _ (by rw [List.length_drop, List.length_cons]; omega), Res.down_cons]
            rfl
        · rw [if_neg hr, if_neg hr]
          cases hs : signAt (c :: t) with
          | none => rfl
          | some g =>
            have := sign_pos hs
            simp only
            rw [ih _ _ (by rw [List.length_drop, List.length_cons]; omega), Res.down_cons]
            rfl
theorem scan_down (s : Bs) (n d : Nat) : scan s (n + d) = (scan s n).down d := scanF_down d _ s n (Nat.lt_succ_self _)
theorem scan_blanks (l : List Bs) (h : ∀ b ∈ l, b ∈ blanks) (s : Bs) : ∀ n : Nat, scan (l.flatten ++ s) n = scan s (n + feeds l.flatten) := by
  induction l with
  | nil => intro n; rfl
  | cons b l ih =>
    intro n
    rw [List.flatten_cons, List.append_assoc, scan_blank (h b List.mem_cons_self), ih fun x hx => h x (List.mem_cons_of_mem _ hx), feeds_app, Nat.add_assoc]
end Go.Proofs.YthlnjnmomnpnpaaGreatDoor.Tk
