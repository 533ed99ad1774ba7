/- The tokens of a program's text, and their brackets, plain. -/
import Derived.Test.YthlnjnmomnpnpaaGreatDoorYInz
import Derived.Test.YthlnjnmomnpnpaaGreatDoorTPiece
namespace Go.Proofs.YthlnjnmomnpnpaaGreatDoor
section
open Tk
namespace Sy
set_option linter.unusedVariables false
set_option linter.unusedSimpArgs false
/-- a token, but for its line -/
abbrev Pc := Int × Bs × Int
def tk (n : Nat) (x : Pc) : Tok := ⟨x.1, x.2.1, x.2.2, n⟩
def nameP (s : ByteArray) : Pc := (1, nm s, 0)
def wordP (w : Bs) : Pc := (2, w, 0)
def numP (m : Int) : Pc := (3, numT m, m)
def sgP (g : Bs) : Pc := (4, g, 0)
theorem pre_nil (r : Res) : r.pre [] = r := by cases r <;> rfl
theorem pre_pre (r : Res) (a b : List Tok) : (r.pre b).pre a = r.pre (a ++ b) := by
  cases r with
  | ok l => show Res.ok (a ++ (b ++ l)) = Res.ok (a ++ b ++ l); rw [List.append_assoc]
  | err n => rfl
theorem cons_pre (r : Res) (x : Tok) : r.cons x = r.pre [x] := by cases r <;> rfl
theorem Hd.mk1 {p : UInt8 → Bool} {c : UInt8} {t : Bs} (h : p c = false) : Hd p ([c] ++ t) := Hd.mk h
/-- what no sign is followed by -/
def qS (c : UInt8) : Bool := c == 61 || (c == 60 || (c == 62 || c == 46))
def pX (c : UInt8) : Bool := isRun c || qS c
theorem pX_run {s : Bs} (h : Hd pX s) : Hd isRun s := fun c t e => by
  have := h c t e
  unfold pX at this
  rw [Bool.or_eq_false_iff] at this
  exact this.1
theorem pX_q {s : Bs} (h : Hd pX s) : Hd qS s := fun c t e => by
  have := h c t e
  unfold pX at this
  rw [Bool.or_eq_false_iff] at this
  exact this.2
theorem run_len {w s : Bs} (hw : ∀ c ∈ w, isRun c = true) (hs : Hd isRun s) : runLen (w ++ s) = w.length := by
  unfold runLen
  have h1 : (w ++ s).takeWhile isRun = w := by
    rw [List.takeWhile_append_of_pos hw]
    cases s with
    | nil => simp
    | cons c t => rw [List.takeWhile_cons_of_neg (by rw [hs c t rfl]; decide), List.append_nil]
  rw [h1]
theorem gap_w {w s : Bs} (hne : w ≠ []) (hw : ∀ c ∈ w, isRun c = true) : gap (w ++ s) = 0 := gap_app hne (gap_head hne hw)
theorem scan_w {w s : Bs} {k m : Int} (hne : w ≠ []) (hw : ∀ c ∈ w, isRun c = true) (hk : ofRun w = some (k, m)) (hs : Hd isRun s) (n : Nat) : scan (w ++ s) n = (scan s n).pre [⟨k, w, m, n⟩] := by
  have hl := run_len hw hs
  have hp := List.length_pos_iff.2 hne
  rw [scan_run n (gap_w hne hw) (by omega) (k := k) (m := m) (by rw [hl, List.take_left' rfl]; exact hk), hl, List.take_left' rfl, List.drop_left' rfl, cons_pre]
theorem sgn_one : ∀ g ∈ signs, g.length = 1 → ∀ c : Fin 256, qS (UInt8.ofNat c.val) = false → signAt (g ++ [UInt8.ofNat c.val]) = some g := by decide +kernel
theorem sgn_app {g s : Bs} (hg : g ∈ signs) (hs : Hd qS s) : signAt (g ++ s) = some g := by
  have hl := sign_short g hg
  by_cases h1 : g.length = 1
  · cases s with
    | nil => rw [List.append_nil]; exact sign_alone g hg
    | cons c t =>
      have e : UInt8.ofNat c.toNat = c := UInt8.ofNat_toNat
      have h2 := sgn_one g hg h1 ⟨c.toNat, c.toNat_lt⟩ (by show qS (UInt8.ofNat c.toNat) = false; rw [e]; exact hs c t rfl)
      change signAt (g ++ [UInt8.ofNat c.toNat]) = some g at h2
      rw [e] at h2
      rw [← h2]
      refine signAt_two ?_
      rw [List.take_append, List.take_append, h1]
      rfl
  · have h2 : g.length = 2 := by omega
    rw [← sign_alone g hg]
    refine (signAt_two ?_).trans (by rw [sign_alone g hg])
    rw [List.take_append_of_le_length (by omega)]
theorem scan_g {g s : Bs} (hg : g ∈ signs) (hs : Hd qS s) (n : Nat) : scan (g ++ s) n = (scan s n).pre [⟨4, g, 0, n⟩] := by
  have hne : g ≠ [] := fun e => by
    have := (sign_short g hg).1
    rw [e] at this
    simp at this
  rw [scan_sign n (gap_app hne (sign_norun g hg).2) (runLen_sign hg) (sgn_app hg hs), List.drop_left' rfl, cons_pre]
theorem scan_sp (s : Bs) (n : Nat) : scan (32 :: s) n = scan s n := scan_one (c := 32) (.inl rfl) s n
theorem scan_lf (s : Bs) (n : Nat) : scan (10 :: s) n = scan s (n + 1) := scan_one (c := 10) (.inr (.inr rfl)) s n
theorem scan_tabs (k : Nat) (s : Bs) (n : Nat) : scan (tabs k ++ s) n = scan s n := by
  induction k with
  | zero => rfl
  | succ k ih =>
    show scan (9 :: (tabs k ++ s)) n = _
    rw [scan_one (c := 9) (.inr (.inl rfl))]
    exact ih
/-! words, names, numbers -/
theorem ofRun_nm {s : ByteArray} (h : isName s.data.toList = true) : ofRun (nm s) = some (1, 0) := by
  unfold ofRun nm
  rw [(name_run h).2.2.2, if_neg (by decide), if_pos h]
theorem dec_eq : ∀ u : Nat, Tk.dec u = Lib.decDigits u := by
  intro u
  induction u using Nat.strongRecOn with
  | ind u ih =>
    by_cases h : u < 10
    · rw [dec_small h, dec_lo h]
      rfl
    · rw [dec_big h, dec_hi h, ih (u / 10) (by omega)]
      rfl
theorem ofRun_num' {m : Int} (h0 : 0 ≤ m) (h1 : m ≤ 4294967295) : ofRun (numT m) = some (3, m) := by
  have hd : headDig (numT m) = true := by
    rw [numT_dec h0, ← dec_eq]
    have := dec_headDig m.toNat []
    rwa [List.append_nil] at this
  unfold ofRun
  rw [word_nodig hd, name_nodig hd, if_neg (by decide), if_neg (by decide), numT_dec h0, ← dec_eq, number_dec _ (by omega)]
  simp only
  rw [show ((m.toNat : Nat) : Int) = m by omega]
theorem scan_nm {s : ByteArray} (h : isName s.data.toList = true) {t : Bs} (ht : Hd isRun t) (n : Nat) : scan (nm s ++ t) n = (scan t n).pre [tk n (nameP s)] := scan_w (name_run h).2.1 (name_run h).1 (ofRun_nm h) ht n
theorem scan_num {m : Int} (h0 : 0 ≤ m) (h1 : m ≤ 4294967295) {t : Bs} (ht : Hd isRun t) (n : Nat) : scan (numT m ++ t) n = (scan t n).pre [tk n (numP m)] := scan_w (numT_ne h0) (fun c hc => dig_run (numT_dig h0 c hc)) (ofRun_num' h0 h1) ht n
theorem scan_word {w : Bs} (h : w ∈ words) {t : Bs} (ht : Hd isRun t) (n : Nat) : scan (w ++ t) n = (scan t n).pre [tk n (wordP w)] := by
  have key : ∀ w ∈ words, w ≠ [] ∧ (∀ c ∈ w, isRun c = true) ∧ ofRun w = some (2, 0) := by decide
  obtain ⟨h1, h2, h3⟩ := key w h
  exact scan_w h1 h2 h3 ht n
/-! expressions -/
def parP (b : Bool) (l : List Pc) : List Pc := if b = true then sgP [40] :: (l ++ [sgP [41]]) else l
def exP : Nat → Ex → List Pc
  | 0, _ => []
  | d + 1, e =>
    if e.kind = 1 then [numP e.n]
    else if e.kind = 2 then [nameP e.name]
    else if e.kind = 5 then nameP e.name :: sgP [91] :: (exP d (argAt e.args 0) ++ [sgP [93]])
    else if e.kind = 3 then sgP (opT e.op) :: parP (low (argAt e.args 0) 9223372036854775807) (exP d (argAt e.args 0))
    else if e.kind = 4 then parP (low (argAt e.args 0) (level e.op)) (exP d (argAt e.args 0)) ++ sgP (opT e.op) :: parP (low (argAt e.args 1) (level e.op + 1)) (exP d (argAt e.args 1))
    else []
theorem op_sign {o : Int} (h : 1 ≤ o ∧ o ≤ 17) : opT o ∈ signs := by
  rcases (show o = 1 ∨ o = 2 ∨ o = 3 ∨ o = 4 ∨ o = 5 ∨ o = 6 ∨ o = 7 ∨ o = 8 ∨ o = 9 ∨ o = 10 ∨ o = 11 ∨ o = 12 ∨ o = 13 ∨ o = 14 ∨ o = 15 ∨ o = 16 ∨ o = 17 by omega) with rfl | rfl | rfl | rfl | rfl | rfl | rfl | rfl | rfl | rfl | rfl | rfl | rfl | rfl | rfl | rfl | rfl
  all_goals decide
theorem run_q {c : UInt8} (h : isRun c = true) : qS c = false := by
  cases hq : qS c with
  | false => rfl
  | true =>
    unfold qS at hq
    simp only [Bool.or_eq_true, beq_iff_eq] at hq
    rcases hq with rfl | rfl | rfl | rfl <;> exact absurd h (by decide)
theorem hd_q : ∀ (k : Nat) (e : Ex), bodyE k e = true → k ≤ 30 → ∀ s, Hd qS (tx e ++ s) := by
  intro k
  induction k with
  | zero => intro e h; cases h
  | succ k ih =>
    intro e h hk s
    cases view h with
    | num m hm =>
      obtain ⟨c, t, hc, _⟩ := num_head hm
      have hr := numT_dig hm
      rw [tx_num, hc] at *
      exact Hd.mk (run_q (dig_run (hr c (List.mem_cons_self ..))))
    | var u hu =>
      obtain ⟨c, t, hc, _⟩ := name_head hu
      have hr := (name_run hu).1
      change ∀ c ∈ nm u, _ at hr
      rw [tx_var, hc] at *
      exact Hd.mk (run_q (hr c (List.mem_cons_self ..)))
    | one o a ho ha =>
      rw [tx_one (by omega) o ha]
      rcases (show o = 15 ∨ o = 16 ∨ o = 17 by omega) with rfl | rfl | rfl <;> exact Hd.mk (by decide)
    | two o a b ho ha hb =>
      rw [tx_two (by omega) o ha hb]
      simp only [List.append_assoc]
      cases low a (level o) with
      | true => rw [par_true]; exact Hd.mk (by decide)
      | false => rw [par_false]; exact ih a ha (by omega) _
    | idx u a hu ha =>
      obtain ⟨c, t, hc, _⟩ := name_head hu
      have hr := (name_run hu).1
      change ∀ c ∈ nm u, _ at hr
      rw [tx_idx (by omega) u ha, hc] at *
      exact Hd.mk (run_q (hr c (List.mem_cons_self ..)))
def ScE (k f : Nat) (e : Ex) : Prop := ∀ (s : Bs) (n : Nat), Hd pX s → scan (tx e ++ s) n = (scan s n).pre ((exP f e).map (tk n))
theorem scan_par {k f : Nat} {a : Ex} (ha : bodyE k a = true) (hk : k ≤ 30) (h : ScE k f a) (b : Bool) (s : Bs) (n : Nat) (hs : Hd pX s) : scan (par b (tx a) ++ s) n = (scan s n).pre ((parP b (exP f a)).map (tk n)) := by
  cases b with
  | false => rw [par_false]; exact h s n hs
  | true =>
    rw [par_true, List.append_assoc, List.append_assoc, scan_g (by decide) (hd_q k a ha hk _), h _ n (Hd.mk1 (by decide)), scan_g (g := [41]) (by decide) (pX_q hs), pre_pre, pre_pre]
    congr 1
    show _ = (sgP [40] :: (exP f a ++ [sgP [41]])).map (tk n)
    rw [List.map_cons, List.map_append]
    rfl
theorem ex_scan : ∀ (k : Nat) (e : Ex), bodyE k e = true → k ≤ 30 → ∀ f, k ≤ f → ScE k f e := by
  intro k
  induction k with
  | zero => intro e h; cases h
  | succ k ih =>
    intro e h hk f hf
    obtain ⟨g, rfl⟩ : ∃ g, f = g + 1 := ⟨f - 1, by omega⟩
    have hfe := (kind_of h).1
    intro s n hs
    cases view h with
    | num m hm =>
      have h1 : m ≤ 4294967295 := (fits_args hfe).2.2.1
      rw [tx_num]
      exact scan_num hm h1 (pX_run hs) n
    | var u hu =>
      rw [tx_var]
      exact scan_nm hu (pX_run hs) n
    | one o a ho ha =>
      have hp := scan_par ha (by omega) (ih a ha (by omega) g (by omega))
      have hq : Hd qS (par (low a 9223372036854775807) (tx a) ++ s) := by
        cases low a 9223372036854775807 with
        | true => rw [par_true]; exact Hd.mk (by decide)
        | false => rw [par_false]; exact hd_q k a ha (by omega) _
      rw [tx_one (by omega) o ha, List.append_assoc, scan_g (op_sign (by omega)) hq, hp _ s n hs, pre_pre]
      rfl
    | two o a b ho ha hb =>
      have hp := scan_par ha (by omega) (ih a ha (by omega) g (by omega))
      have hp2 := scan_par hb (by omega) (ih b hb (by omega) g (by omega))
      rw [tx_two (by omega) o ha hb]
      simp only [List.append_assoc, List.singleton_append, List.cons_append, List.nil_append]
      rw [hp _ _ n (Hd.mk (by decide)), scan_sp, scan_g (op_sign (by omega)) (Hd.mk (by decide)), scan_sp, hp2 _ s n hs, pre_pre, pre_pre]
      congr 1
      show _ = (parP (low a (level o)) (exP g a) ++ sgP (opT o) :: parP (low b (level o + 1)) (exP g b)).map (tk n)
      rw [List.map_append, List.map_cons]
      simp only [List.append_assoc]
      rfl
    | idx u a hu ha =>
      have hp := ih a ha (by omega) g (by omega)
      rw [tx_idx (by omega) u ha]
      simp only [List.append_assoc]
      rw [scan_nm hu (Hd.mk1 (by decide)), scan_g (g := [91]) (by decide) (hd_q k a ha (by omega) _), hp _ n (Hd.mk1 (by decide)), scan_g (g := [93]) (by decide) (pX_q hs), pre_pre, pre_pre, pre_pre]
      congr 1
      show _ = (nameP u :: sgP [91] :: (exP g a ++ [sgP [93]])).map (tk n)
      rw [List.map_cons, List.map_cons, List.map_append]
      rfl
end Sy
end
section
open Tk
namespace Sy
set_option linter.unusedVariables false
set_option linter.unusedSimpArgs false
def exL (x : Ex) : List Pc := exP 30 x
theorem ex_sc {x : Ex} (h : bodyE 30 x = true) (s : Bs) (n : Nat) (hs : Hd pX s) : scan (tx x ++ s) n = (scan s n).pre ((exL x).map (tk n)) := ex_scan 30 x h (Nat.le_refl _) 30 (Nat.le_refl _) s n hs
theorem scan_c {c : UInt8} (h : [c] ∈ signs) {s : Bs} (hs : Hd qS s) (n : Nat) : scan (c :: s) n = (scan s n).pre [tk n (sgP [c])] := scan_g h hs n
theorem scan_wd {w : Bs} (h : w ∈ words) {t : Bs} (ht : Hd isRun t) (n : Nat) : scan (w ++ t) n = (scan t n).pre [tk n (wordP w)] := scan_word h ht n
def lockW : Bs := [108, 111, 99, 107]
def ifW : Bs := [105, 102]
def repW : Bs := [114, 101, 112, 101, 97, 116]
def haltW : Bs := [104, 97, 108, 116]
def elseW : Bs := [101, 108, 115, 101]
/-- a statement's lines, each by its tokens -/
def stP : Nat → St → List (List Pc)
  | 0, _ => []
  | d + 1, s =>
    if s.kind = 1 then [nameP s.name :: sgP [61] :: (exL (argAt s.args 0) ++ [sgP [59]])]
    else if s.kind = 2 then [[nameP s.name, sgP [61], nameP s.src, sgP [46], numP s.n, sgP [59]]]
    else if s.kind = 3 then [nameP s.name :: sgP [46] :: numP s.n :: sgP [61] :: (exL (argAt s.args 0) ++ [sgP [59]])]
    else if s.kind = 4 then [nameP s.name :: sgP [91] :: (exL (argAt s.args 0) ++ sgP [93] :: sgP [61] :: (exL (argAt s.args 1) ++ [sgP [59]]))]
    else if s.kind = 5 then [wordP lockW, nameP s.name, sgP [123]] :: (s.thn.flatMap (stP d) ++ [[sgP [125]]])
    else if s.kind = 6 then (wordP ifW :: sgP [40] :: (exL (argAt s.args 0) ++ [sgP [41], sgP [123]])) :: (s.thn.flatMap (stP d) ++ ((if 0 < s.els.length then [sgP [125], wordP elseW, sgP [123]] :: s.els.flatMap (stP d) else []) ++ [[sgP [125]]]))
    else if s.kind = 7 then [wordP repW, numP s.n, sgP [123]] :: (s.thn.flatMap (stP d) ++ [[sgP [125]]])
    else if s.kind = 8 then [[wordP haltW, sgP [59]]]
    else []
/-- the tokens of lines, from one on -/
def toksL : Nat → List (List Pc) → List Tok
  | _, [] => []
  | n, l :: ls => l.map (tk n) ++ toksL (n + 1) ls
theorem toksL_app : ∀ (a b : List (List Pc)) (n : Nat), toksL n (a ++ b) = toksL n a ++ toksL (n + a.length) b
  | [], b, n => rfl
  | l :: a, b, n => by
    show l.map (tk n) ++ toksL (n + 1) (a ++ b) = (l.map (tk n) ++ toksL (n + 1) a) ++ toksL (n + (a.length + 1)) b
    rw [toksL_app a b (n + 1), List.append_assoc, show n + 1 + a.length = n + (a.length + 1) by omega]
theorem toksL_one (l : List Pc) (n : Nat) : toksL n [l] = l.map (tk n) := List.append_nil _
theorem toksL_cons (l : List Pc) (ls : List (List Pc)) (n : Nat) : toksL n (l :: ls) = l.map (tk n) ++ toksL (n + 1) ls := rfl
def ScS (d f : Nat) (s : St) : Prop := ∀ (k : Nat) (t : Bs) (n : Nat), scan (stT f k s ++ t) n = (scan t (n + (stP f s).length)).pre (toksL n (stP f s))
theorem sts_scan {d f : Nat} : ∀ (l : List St), (∀ x ∈ l, ScS d f x) → ∀ (k : Nat) (t : Bs) (n : Nat), scan (l.flatMap (stT f k) ++ t) n = (scan t (n + (l.flatMap (stP f)).length)).pre (toksL n (l.flatMap (stP f)))
  | [], _, k, t, n => (pre_nil _).symm
  | x :: l, h, k, t, n => by
    rw [List.flatMap_cons, List.flatMap_cons, List.append_assoc, h x (List.mem_cons_self ..) k _ n, sts_scan l (fun y hy => h y (List.mem_cons_of_mem _ hy)) k t, pre_pre, toksL_app, List.length_append, Nat.add_assoc]
theorem num_q {m : Int} (h : 0 ≤ m) (s : Bs) : Hd qS (numT m ++ s) := by
  obtain ⟨c, t, hc, _⟩ := num_head h
  have hr := numT_dig h
  rw [hc] at *
  exact Hd.mk (run_q (dig_run (hr c (List.mem_cons_self ..))))
theorem mostS {k : Int} : (sShp k).most ≤ 4294967295 := by
  unfold sShp
  repeat' split
  all_goals decide
theorem close_scan (k : Nat) (r : Bs) (n : Nat) : scan (tabs k ++ (125 :: 10 :: r)) n = (scan r (n + 1)).pre (toksL n [[sgP [125]]]) := by
  rw [scan_tabs, scan_c (by decide) (Hd.mk (by decide)), scan_lf]
  rfl
theorem st_scan : ∀ (d : Nat) (s : St), bodyS d s = true → ∀ f, d ≤ f → ScS d f s := by
  intro d
  induction d with
  | zero => intro s h; cases h
  | succ d ih =>
    intro s h f hf
    obtain ⟨g, rfl⟩ : ∃ g, f = g + 1 := ⟨f - 1, by omega⟩
    have hnum : s.n ≤ 4294967295 := by
      have h' : (fitsS (sShp s.kind) s && (areE 30 s.args && (areS d s.thn && areS d s.els))) = true := h
      simp only [Bool.and_eq_true] at h'
      have h2 := h'.1
      unfold fitsS within at h2
      simp only [Bool.and_eq_true, decide_eq_true_eq] at h2
      have h3 := h2.2.2.2.1.2
      exact Int.le_trans h3 mostS
    intro k r n
    cases viewS h with
    | set a x hn ha =>
      rw [st1, scan_tabs, scan_nm hn (Hd.mk (by decide)), scan_sp, scan_c (by decide) (Hd.mk (by decide)), scan_sp, ex_sc ha _ _ (Hd.mk (by decide)), scan_c (by decide) (Hd.mk (by decide)), scan_lf]
      show _ = (scan r (n + 1)).pre (toksL n [nameP a :: sgP [61] :: (exL x ++ [sgP [59]])])
      rw [toksL_one]
      simp only [pre_pre, List.map_cons, List.map_append, List.map_nil, List.append_assoc, List.cons_append, List.nil_append]
    | get a b m hn hu hm =>
      have hmm : m ≤ 4294967295 := hnum
      rw [st2, scan_tabs, scan_nm hn (Hd.mk (by decide)), scan_sp, scan_c (by decide) (Hd.mk (by decide)), scan_sp, scan_nm hu (Hd.mk (by decide)), scan_c (by decide) (num_q hm _), scan_num hm hmm (Hd.mk (by decide)), scan_c (by decide) (Hd.mk (by decide)), scan_lf]
      show _ = (scan r (n + 1)).pre (toksL n [[nameP a, sgP [61], nameP b, sgP [46], numP m, sgP [59]]])
      rw [toksL_one]
      simp only [pre_pre, List.map_cons, List.map_append, List.map_nil, List.append_assoc, List.cons_append, List.nil_append]
    | put a m x hn hm ha =>
      have hmm : m ≤ 4294967295 := hnum
      rw [st3, scan_tabs, scan_nm hn (Hd.mk (by decide)), scan_c (by decide) (num_q hm _), scan_num hm hmm (Hd.mk (by decide)), scan_sp, scan_c (by decide) (Hd.mk (by decide)), scan_sp, ex_sc ha _ _ (Hd.mk (by decide)), scan_c (by decide) (Hd.mk (by decide)), scan_lf]
      show _ = (scan r (n + 1)).pre (toksL n [nameP a :: sgP [46] :: numP m :: sgP [61] :: (exL x ++ [sgP [59]])])
      rw [toksL_one]
      simp only [pre_pre, List.map_cons, List.map_append, List.map_nil, List.append_assoc, List.cons_append, List.nil_append]
    | store a x y hn ha hb =>
      rw [st4, scan_tabs, scan_nm hn (Hd.mk (by decide)), scan_c (by decide) (hd_q 30 x ha (Nat.le_refl _) _), ex_sc ha _ _ (Hd.mk (by decide)), scan_c (by decide) (Hd.mk (by decide)), scan_sp, scan_c (by decide) (Hd.mk (by decide)), scan_sp, ex_sc hb _ _ (Hd.mk (by decide)), scan_c (by decide) (Hd.mk (by decide)), scan_lf]
      show _ = (scan r (n + 1)).pre (toksL n [nameP a :: sgP [91] :: (exL x ++ sgP [93] :: sgP [61] :: (exL y ++ [sgP [59]]))])
      rw [toksL_one]
      simp only [pre_pre, List.map_cons, List.map_append, List.map_nil, List.append_assoc, List.cons_append, List.nil_append]
    | lock a t hn ht =>
      have hT := sts_scan (d := d) (f := g) t (fun z hz => ih z (ht z hz) g (by omega))
      rw [st5, scan_tabs, scan_wd (by decide) (Hd.mk (by decide)), scan_sp, scan_nm hn (Hd.mk (by decide)), scan_sp, scan_c (by decide) (Hd.mk (by decide)), scan_lf, hT, close_scan]
      show _ = (scan r (n + ([wordP lockW, nameP a, sgP [123]] :: (t.flatMap (stP g) ++ [[sgP [125]]])).length)).pre (toksL n ([wordP lockW, nameP a, sgP [123]] :: (t.flatMap (stP g) ++ [[sgP [125]]])))
      simp only [toksL_cons, toksL_app, List.length_cons, List.length_append, List.length_singleton, List.length_nil, pre_pre, List.map_cons, List.map_append, List.map_nil, List.append_assoc, List.cons_append, List.nil_append]
      rw [show n + 1 + (t.flatMap (stP g)).length + 1 = n + ((t.flatMap (stP g)).length + (0 + 1) + 1) by omega]
      rfl
    | cond x t e ha ht he =>
      have hT := sts_scan (d := d) (f := g) t (fun z hz => ih z (ht z hz) g (by omega))
      have hE := sts_scan (d := d) (f := g) e (fun z hz => ih z (he z hz) g (by omega))
      rw [st6, scan_tabs, scan_wd (by decide) (Hd.mk (by decide)), scan_sp, scan_c (by decide) (hd_q 30 x ha (Nat.le_refl _) _), ex_sc ha _ _ (Hd.mk (by decide)), scan_c (by decide) (Hd.mk (by decide)), scan_sp, scan_c (by decide) (Hd.mk (by decide)), scan_lf, hT]
      show _ = (scan r (n + ((wordP ifW :: sgP [40] :: (exL x ++ [sgP [41], sgP [123]])) :: (t.flatMap (stP g) ++ ((if 0 < e.length then [sgP [125], wordP elseW, sgP [123]] :: e.flatMap (stP g) else []) ++ [[sgP [125]]]))).length)).pre (toksL n ((wordP ifW :: sgP [40] :: (exL x ++ [sgP [41], sgP [123]])) :: (t.flatMap (stP g) ++ ((if 0 < e.length then [sgP [125], wordP elseW, sgP [123]] :: e.flatMap (stP g) else []) ++ [[sgP [125]]]))))
      by_cases hl : 0 < e.length
      · rw [if_pos hl, if_pos hl, scan_tabs, scan_c (by decide) (Hd.mk (by decide)), scan_sp]
        have hw := scan_wd (w := elseW) (by decide) (t := 32 :: 123 :: 10 :: (e.flatMap (stT g (k + 1)) ++ (tabs k ++ (125 :: 10 :: r)))) (Hd.mk (by decide)) (n + 1 + (t.flatMap (stP g)).length)
        change scan (101 :: 108 :: 115 :: 101 :: 32 :: 123 :: 10 :: (e.flatMap (stT g (k + 1)) ++ (tabs k ++ (125 :: 10 :: r)))) _ = _ at hw
        rw [hw, scan_sp, scan_c (by decide) (Hd.mk (by decide)), scan_lf, hE, close_scan]
        simp only [toksL_cons, toksL_app, List.length_cons, List.length_append, List.length_singleton, List.length_nil, pre_pre, List.map_cons, List.map_append, List.map_nil, List.append_assoc, List.cons_append, List.nil_append]
        rw [show n + 1 + (t.flatMap (stP g)).length + 1 + (e.flatMap (stP g)).length + 1 = n + ((t.flatMap (stP g)).length + ((e.flatMap (stP g)).length + (0 + 1) + 1) + 1) by omega]
        rfl
      · rw [if_neg hl, if_neg hl, close_scan]
        simp only [toksL_cons, toksL_app, List.length_cons, List.length_append, List.length_singleton, List.length_nil, pre_pre, List.map_cons, List.map_append, List.map_nil, List.append_assoc, List.cons_append, List.nil_append]
        rw [show n + 1 + (t.flatMap (stP g)).length + 1 = n + ((t.flatMap (stP g)).length + (0 + 1) + 1) by omega]
        rfl
    | rep m t hm ht =>
      have hmm : m ≤ 4294967295 := hnum
      have hT := sts_scan (d := d) (f := g) t (fun z hz => ih z (ht z hz) g (by omega))
      rw [st7, scan_tabs, scan_wd (by decide) (Hd.mk (by decide)), scan_sp, scan_num hm hmm (Hd.mk (by decide)), scan_sp, scan_c (by decide) (Hd.mk (by decide)), scan_lf, hT, close_scan]
      show _ = (scan r (n + ([wordP repW, numP m, sgP [123]] :: (t.flatMap (stP g) ++ [[sgP [125]]])).length)).pre (toksL n ([wordP repW, numP m, sgP [123]] :: (t.flatMap (stP g) ++ [[sgP [125]]])))
      simp only [toksL_cons, toksL_app, List.length_cons, List.length_append, List.length_singleton, List.length_nil, pre_pre, List.map_cons, List.map_append, List.map_nil, List.append_assoc, List.cons_append, List.nil_append]
      rw [show n + 1 + (t.flatMap (stP g)).length + 1 = n + ((t.flatMap (stP g)).length + (0 + 1) + 1) by omega]
      rfl
    | halt =>
      rw [st8, scan_tabs, scan_wd (by decide) (Hd.mk (by decide)), scan_c (by decide) (Hd.mk (by decide)), scan_lf]
      show _ = (scan r (n + 1)).pre (toksL n [[wordP haltW, sgP [59]]])
      rw [toksL_one]
      simp only [pre_pre, List.map_cons, List.map_append, List.map_nil, List.append_assoc, List.cons_append, List.nil_append]
      rfl
/-! programs -/
def hartsW : Bs := [104, 97, 114, 116, 115]
def deviceW : Bs := [100, 101, 118, 105, 99, 101]
def rscW : Bs := [114, 101, 115, 111, 117, 114, 99, 101]
def taskW : Bs := [116, 97, 115, 107]
def handlerW : Bs := [104, 97, 110, 100, 108, 101, 114]
def devP (x : Dev) : List Pc := [wordP deviceW, nameP x.name, wordP (kindT x.kind)]
def rscP (x : Rsc) : List Pc := [wordP rscW, nameP x.name, numP x.words]
def tskP (x : Tsk) : List (List Pc) := (if x.handler = true then [wordP handlerW, nameP x.name, numP x.hart, numP x.prio, numP x.line, sgP [123]] else [wordP taskW, nameP x.name, numP x.hart, numP x.prio, sgP [123]]) :: (x.body.flatMap (stP 30) ++ [[sgP [125]]])
def prgP (p : Prg) : List (List Pc) := [wordP hartsW, numP p.harts] :: (p.devs.map devP ++ (p.rscs.map rscP ++ p.tasks.flatMap tskP))
theorem rows_scan {α : Type} {f : α → Bs} {g : α → List Pc} : ∀ (l : List α), (∀ x ∈ l, ∀ (t : Bs) (n : Nat), scan (f x ++ t) n = (scan t (n + 1)).pre ((g x).map (tk n))) → ∀ (t : Bs) (n : Nat), scan (l.flatMap f ++ t) n = (scan t (n + (l.map g).length)).pre (toksL n (l.map g))
  | [], _, t, n => (pre_nil _).symm
  | x :: l, h, t, n => by
    rw [List.flatMap_cons, List.append_assoc, h x (List.mem_cons_self ..), rows_scan l (fun y hy => h y (List.mem_cons_of_mem _ hy)), pre_pre, List.map_cons, toksL_cons, List.length_cons, show n + 1 + (l.map g).length = n + ((l.map g).length + 1) by omega]
theorem kindT_word {k : Int} (h : k = 1 ∨ k = 2 ∨ k = 3) : kindT k ∈ words := by
  rcases h with rfl | rfl | rfl <;> decide
theorem dev_scan {x : Dev} (hx : isDev x = true) (t : Bs) (n : Nat) : scan (devT x ++ t) n = (scan t (n + 1)).pre ((devP x).map (tk n)) := by
  unfold isDev at hx
  simp only [Bool.and_eq_true, Bool.not_eq_true'] at hx
  have hk := kindT_word (kindT_cases hx.2)
  rw [devT_eq, show ([100, 101, 118, 105, 99, 101, 32] : Bs) ++ (nm x.name ++ (32 :: (kindT x.kind ++ (10 :: t)))) = deviceW ++ (32 :: (nm x.name ++ (32 :: (kindT x.kind ++ (10 :: t))))) from rfl, scan_wd (by decide) (Hd.mk (by decide)), scan_sp, scan_nm hx.1 (Hd.mk (by decide)), scan_sp, scan_wd hk (Hd.mk (by decide)), scan_lf]
  simp only [pre_pre]
  rfl
theorem rsc_scan {x : Rsc} (hx : isRsc x = true) (t : Bs) (n : Nat) : scan (rscT x ++ t) n = (scan t (n + 1)).pre ((rscP x).map (tk n)) := by
  unfold isRsc within at hx
  simp only [Bool.and_eq_true, decide_eq_true_eq] at hx
  rw [rscT_eq, show ([114, 101, 115, 111, 117, 114, 99, 101, 32] : Bs) ++ (nm x.name ++ (32 :: (numT x.words ++ (10 :: t)))) = rscW ++ (32 :: (nm x.name ++ (32 :: (numT x.words ++ (10 :: t))))) from rfl, scan_wd (by decide) (Hd.mk (by decide)), scan_sp, scan_nm hx.1 (Hd.mk (by decide)), scan_sp, scan_num (by omega) (by omega) (Hd.mk (by decide)), scan_lf]
  simp only [pre_pre]
  rfl
theorem tsk_scan {x : Tsk} (hx : isTsk x = true) (t : Bs) (n : Nat) : scan (tskT x ++ t) n = (scan t (n + (tskP x).length)).pre (toksL n (tskP x)) := by
  unfold isTsk within at hx
  simp only [Bool.and_eq_true, decide_eq_true_eq] at hx
  obtain ⟨a1, ⟨a2, a2'⟩, ⟨a3, a3'⟩, ⟨a4, a5⟩, a6⟩ := hx
  rw [areS_all, List.all_eq_true] at a6
  have hl : x.line ≤ 7 := by split at a5 <;> omega
  have hB := sts_scan (d := 30) (f := 30) x.body (fun z hz => st_scan 30 z (a6 z hz) 30 (Nat.le_refl _))
  cases hh : x.handler with
  | false =>
    have e : tskP x = [wordP taskW, nameP x.name, numP x.hart, numP x.prio, sgP [123]] :: (x.body.flatMap (stP 30) ++ [[sgP [125]]]) := by unfold tskP; rw [hh]; rfl
    rw [e, tskT_no x hh]
    have hw := scan_wd (w := taskW) (by decide) (t := 32 :: (nm x.name ++ (32 :: (numT x.hart ++ (32 :: (numT x.prio ++ (32 :: 123 :: 10 :: (x.body.flatMap (stT 30 1) ++ (tabs 0 ++ (125 :: 10 :: t)))))))))) (Hd.mk (by decide)) n
    change scan (116 :: 97 :: 115 :: 107 :: 32 :: (nm x.name ++ (32 :: (numT x.hart ++ (32 :: (numT x.prio ++ (32 :: 123 :: 10 :: (x.body.flatMap (stT 30 1) ++ (tabs 0 ++ (125 :: 10 :: t)))))))))) n = _ at hw
    rw [hw, scan_sp, scan_nm a1 (Hd.mk (by decide)), scan_sp, scan_num a2 (by omega) (Hd.mk (by decide)), scan_sp, scan_num (by omega) (by omega) (Hd.mk (by decide)), scan_sp, scan_c (by decide) (Hd.mk (by decide)), scan_lf, hB, close_scan]
    simp only [toksL_cons, toksL_app, List.length_cons, List.length_append, List.length_singleton, List.length_nil, pre_pre, List.map_cons, List.map_append, List.map_nil, List.append_assoc, List.cons_append, List.nil_append]
    rw [show n + 1 + (x.body.flatMap (stP 30)).length + 1 = n + ((x.body.flatMap (stP 30)).length + (0 + 1) + 1) by omega]
  | true =>
    have e : tskP x = [wordP handlerW, nameP x.name, numP x.hart, numP x.prio, numP x.line, sgP [123]] :: (x.body.flatMap (stP 30) ++ [[sgP [125]]]) := by unfold tskP; rw [hh]; rfl
    rw [e, tskT_yes x hh]
    have hw := scan_wd (w := handlerW) (by decide) (t := 32 :: (nm x.name ++ (32 :: (numT x.hart ++ (32 :: (numT x.prio ++ (32 :: (numT x.line ++ (32 :: 123 :: 10 :: (x.body.flatMap (stT 30 1) ++ (tabs 0 ++ (125 :: 10 :: t)))))))))))) (Hd.mk (by decide)) n
    change scan (104 :: 97 :: 110 :: 100 :: 108 :: 101 :: 114 :: 32 :: (nm x.name ++ (32 :: (numT x.hart ++ (32 :: (numT x.prio ++ (32 :: (numT x.line ++ (32 :: 123 :: 10 :: (x.body.flatMap (stT 30 1) ++ (tabs 0 ++ (125 :: 10 :: t)))))))))))) n = _ at hw
    rw [hw, scan_sp, scan_nm a1 (Hd.mk (by decide)), scan_sp, scan_num a2 (by omega) (Hd.mk (by decide)), scan_sp, scan_num (by omega) (by omega) (Hd.mk (by decide)), scan_sp, scan_num a4 (by omega) (Hd.mk (by decide)), scan_sp, scan_c (by decide) (Hd.mk (by decide)), scan_lf, hB, close_scan]
    simp only [toksL_cons, toksL_app, List.length_cons, List.length_append, List.length_singleton, List.length_nil, pre_pre, List.map_cons, List.map_append, List.map_nil, List.append_assoc, List.cons_append, List.nil_append]
    rw [show n + 1 + (x.body.flatMap (stP 30)).length + 1 = n + ((x.body.flatMap (stP 30)).length + (0 + 1) + 1) by omega]
theorem tsks_scan : ∀ (l : List Tsk), (∀ x ∈ l, isTsk x = true) → ∀ (t : Bs) (n : Nat), scan (l.flatMap tskT ++ t) n = (scan t (n + (l.flatMap tskP).length)).pre (toksL n (l.flatMap tskP))
  | [], _, t, n => (pre_nil _).symm
  | x :: l, h, t, n => by
    rw [List.flatMap_cons, List.flatMap_cons, List.append_assoc, tsk_scan (h x (List.mem_cons_self ..)), tsks_scan l (fun y hy => h y (List.mem_cons_of_mem _ hy)), pre_pre, toksL_app, List.length_append, Nat.add_assoc]
/-- the tokens of a right program's text -/
theorem prg_scan {p : Prg} (h : right p = true) (n : Nat) : scan (prgT p) n = .ok (toksL n (prgP p) ++ [⟨5, [], 0, ((n + (prgP p).length : Nat) : Int)⟩]) := by
  unfold right within at h
  simp only [Bool.and_eq_true, List.all_eq_true, decide_eq_true_eq] at h
  obtain ⟨⟨p1, p1'⟩, _, p2, _, p3, _, p4⟩ := h
  unfold prgT
  simp only [List.append_assoc]
  rw [ln, show tabs 0 = [] from rfl, List.nil_append, show ([[104, 97, 114, 116, 115, 32], numT p.harts] : List Bs).flatten = hartsW ++ (32 :: numT p.harts) by simp [hartsW], List.append_assoc]
  have hw := scan_wd (w := hartsW) (by decide) (t := 32 :: (numT p.harts ++ (10 :: (p.devs.flatMap devT ++ (p.rscs.flatMap rscT ++ p.tasks.flatMap tskT))))) (Hd.mk (by decide)) n
  rw [show hartsW ++ (32 :: numT p.harts ++ 10 :: (p.devs.flatMap devT ++ (p.rscs.flatMap rscT ++ p.tasks.flatMap tskT))) = hartsW ++ (32 :: (numT p.harts ++ (10 :: (p.devs.flatMap devT ++ (p.rscs.flatMap rscT ++ p.tasks.flatMap tskT))))) from rfl, hw, scan_sp, scan_num (by omega) (by omega) (Hd.mk (by decide)), scan_lf, rows_scan (f := devT) (g := devP) p.devs (fun x hx => dev_scan (p2 x hx)), rows_scan (f := rscT) (g := rscP) p.rscs (fun x hx => rsc_scan (p3 x hx)), ← List.append_nil (p.tasks.flatMap tskT), tsks_scan p.tasks p4, scan_nil]
  unfold prgP
  simp only [toksL_cons, toksL_app, List.length_cons, List.length_append, List.length_map, List.length_nil, pre_pre, List.map_cons, List.map_nil, List.append_assoc, List.cons_append, List.nil_append]
  rw [show n + 1 + p.devs.length + p.rscs.length + (p.tasks.flatMap tskP).length = n + (p.devs.length + (p.rscs.length + (p.tasks.flatMap tskP).length) + 1) by omega]
  show Res.ok _ = Res.ok _
  simp only [List.append_assoc, List.cons_append, List.nil_append]
end Sy
end
section
open Tk
namespace Sy
set_option linter.unusedVariables false
set_option linter.unusedSimpArgs false
/-- what a token's text opens, or closes -/
def br (t : Bs) : Int := if t = [123] ∨ t = [40] ∨ t = [91] then 1 else if t = [125] ∨ t = [41] ∨ t = [93] then -1 else 0
def sumB : List Bs → Int
  | [] => 0
  | t :: l => br t + sumB l
/-- never below nothing -/
def okB : Int → List Bs → Prop
  | _, [] => True
  | d, t :: l => 0 ≤ d + br t ∧ okB (d + br t) l
theorem sumB_app : ∀ (a b : List Bs), sumB (a ++ b) = sumB a + sumB b
  | [], b => by show sumB b = 0 + sumB b; omega
  | t :: a, b => by show br t + sumB (a ++ b) = br t + sumB a + sumB b; rw [sumB_app a b]; omega
theorem okB_app : ∀ (a b : List Bs) (d : Int), okB d (a ++ b) ↔ okB d a ∧ okB (d + sumB a) b
  | [], b, d => by show okB d b ↔ True ∧ okB (d + 0) b; rw [Int.add_zero]; simp
  | t :: a, b, d => by
    show (0 ≤ d + br t ∧ okB (d + br t) (a ++ b)) ↔ (0 ≤ d + br t ∧ okB (d + br t) a) ∧ okB (d + (br t + sumB a)) b
    rw [okB_app a b, Int.add_assoc, and_assoc]
structure Bal (l : List Bs) : Prop where
  sum : sumB l = 0
  ok : ∀ d, 0 ≤ d → okB d l
theorem Bal.nil : Bal [] := ⟨rfl, fun _ _ => trivial⟩
theorem Bal.app {a b : List Bs} (ha : Bal a) (hb : Bal b) : Bal (a ++ b) := ⟨by rw [sumB_app, ha.sum, hb.sum]; rfl, fun d hd => (okB_app a b d).2 ⟨ha.ok d hd, by rw [ha.sum, Int.add_zero]; exact hb.ok d hd⟩⟩
theorem Bal.one {t : Bs} (h : br t = 0) : Bal [t] := ⟨by show br t + 0 = 0; omega, fun d hd => ⟨by omega, trivial⟩⟩
theorem Bal.cons {t : Bs} {l : List Bs} (h : br t = 0) (hl : Bal l) : Bal (t :: l) := (Bal.one h).app hl
theorem Bal.wrap {o c : Bs} {a b : List Bs} (ho : br o = 1) (hc : br c = -1) (ha : Bal a) (hb : Bal b) : Bal (o :: (a ++ c :: b)) := by
  refine ⟨?_, fun d hd => ?_⟩
  · show br o + sumB (a ++ c :: b) = 0
    rw [sumB_app, ha.sum]
    show br o + (0 + (br c + sumB b)) = 0
    rw [hb.sum]
    omega
  · show 0 ≤ d + br o ∧ okB (d + br o) (a ++ c :: b)
    refine ⟨by omega, (okB_app _ _ _).2 ⟨ha.ok _ (by omega), ?_⟩⟩
    show 0 ≤ d + br o + sumB a + br c ∧ okB (d + br o + sumB a + br c) b
    rw [ha.sum]
    exact ⟨by omega, hb.ok _ (by omega)⟩
/-- the texts of pieces -/
def tx1 (l : List Pc) : List Bs := l.map fun x => x.2.1
def txs (l : List (List Pc)) : List Bs := l.flatMap tx1
theorem txs_app (a b : List (List Pc)) : txs (a ++ b) = txs a ++ txs b := List.flatMap_append
theorem tx1_app (a b : List Pc) : tx1 (a ++ b) = tx1 a ++ tx1 b := List.map_append
theorem br_run {t : Bs} (h : ∀ c ∈ t, isRun c = true) : br t = 0 := by
  unfold br
  have key : ∀ c : UInt8, isRun c = false → t ≠ [c] := fun c hc e => by
    have := h c (by rw [e]; exact List.mem_singleton_self c)
    rw [hc] at this
    cases this
  rw [if_neg (by rintro (e | e | e) <;> exact absurd e (key _ (by decide))), if_neg (by rintro (e | e | e) <;> exact absurd e (key _ (by decide)))]
theorem br_name {s : ByteArray} (h : isName s.data.toList = true) : br (nm s) = 0 := br_run (name_run h).1
theorem br_num {m : Int} (h : 0 ≤ m) : br (numT m) = 0 := br_run (fun c hc => dig_run (numT_dig h c hc))
theorem br_op {o : Int} (h : 1 ≤ o ∧ o ≤ 17) : br (opT o) = 0 := by
  rcases (show o = 1 ∨ o = 2 ∨ o = 3 ∨ o = 4 ∨ o = 5 ∨ o = 6 ∨ o = 7 ∨ o = 8 ∨ o = 9 ∨ o = 10 ∨ o = 11 ∨ o = 12 ∨ o = 13 ∨ o = 14 ∨ o = 15 ∨ o = 16 ∨ o = 17 by omega) with rfl | rfl | rfl | rfl | rfl | rfl | rfl | rfl | rfl | rfl | rfl | rfl | rfl | rfl | rfl | rfl | rfl
  all_goals decide
theorem par_bal {l : List Pc} (h : Bal (tx1 l)) (b : Bool) : Bal (tx1 (parP b l)) := by
  cases b with
  | false => exact h
  | true =>
    show Bal ([40] :: tx1 (l ++ [sgP [41]]))
    rw [tx1_app]
    exact Bal.wrap (by decide) (by decide) h Bal.nil
theorem ex_bal : ∀ (k : Nat) (e : Ex), bodyE k e = true → ∀ f, k ≤ f → Bal (tx1 (exP f e)) := by
  intro k
  induction k with
  | zero => intro e h; cases h
  | succ k ih =>
    intro e h f hf
    obtain ⟨g, rfl⟩ : ∃ g, f = g + 1 := ⟨f - 1, by omega⟩
    cases view h with
    | num m hm => exact Bal.one (br_num hm)
    | var u hu => exact Bal.one (br_name hu)
    | one o a ho ha =>
      show Bal (opT o :: tx1 (parP (low a 9223372036854775807) (exP g a)))
      exact Bal.cons (br_op (by omega)) (par_bal (ih a ha g (by omega)) _)
    | two o a b ho ha hb =>
      show Bal (tx1 (parP (low a (level o)) (exP g a) ++ sgP (opT o) :: parP (low b (level o + 1)) (exP g b)))
      rw [tx1_app]
      exact (par_bal (ih a ha g (by omega)) _).app (Bal.cons (br_op (by omega)) (par_bal (ih b hb g (by omega)) _))
    | idx u a hu ha =>
      show Bal (nm u :: [91] :: tx1 (exP g a ++ [sgP [93]]))
      rw [tx1_app]
      exact Bal.cons (br_name hu) (Bal.wrap (by decide) (by decide) (ih a ha g (by omega)) Bal.nil)
theorem exL_bal {x : Ex} (h : bodyE 30 x = true) : Bal (tx1 (exL x)) := ex_bal 30 x h 30 (Nat.le_refl _)
theorem sts_bal {f : Nat} : ∀ (l : List St), (∀ x ∈ l, Bal (txs (stP f x))) → Bal (txs (l.flatMap (stP f)))
  | [], _ => Bal.nil
  | x :: l, h => by
    rw [List.flatMap_cons, txs_app]
    exact (h x (List.mem_cons_self ..)).app (sts_bal l (fun y hy => h y (List.mem_cons_of_mem _ hy)))
theorem txs_cons (l : List Pc) (ls : List (List Pc)) : txs (l :: ls) = tx1 l ++ txs ls := rfl
theorem st_bal : ∀ (d : Nat) (s : St), bodyS d s = true → ∀ f, d ≤ f → Bal (txs (stP f s)) := by
  intro d
  induction d with
  | zero => intro s h; cases h
  | succ d ih =>
    intro s h f hf
    obtain ⟨g, rfl⟩ : ∃ g, f = g + 1 := ⟨f - 1, by omega⟩
    have z : br [59] = 0 := by decide
    have z1 : br [61] = 0 := by decide
    have z2 : br [46] = 0 := by decide
    cases viewS h with
    | set a x hn ha =>
      show Bal (nm a :: [61] :: tx1 (exL x ++ [sgP [59]]) ++ [])
      rw [List.append_nil, tx1_app]
      exact Bal.cons (br_name hn) (Bal.cons z1 ((exL_bal ha).app (Bal.one z)))
    | get a b m hn hu hm =>
      show Bal [nm a, [61], nm b, [46], numT m, [59]]
      exact Bal.cons (br_name hn) (Bal.cons z1 (Bal.cons (br_name hu) (Bal.cons z2 (Bal.cons (br_num hm) (Bal.one z)))))
    | put a m x hn hm ha =>
      show Bal (nm a :: [46] :: numT m :: [61] :: tx1 (exL x ++ [sgP [59]]) ++ [])
      rw [List.append_nil, tx1_app]
      exact Bal.cons (br_name hn) (Bal.cons z2 (Bal.cons (br_num hm) (Bal.cons z1 ((exL_bal ha).app (Bal.one z)))))
    | store a x y hn ha hb =>
      show Bal (nm a :: [91] :: tx1 (exL x ++ sgP [93] :: sgP [61] :: (exL y ++ [sgP [59]])) ++ [])
      rw [List.append_nil, tx1_app]
      refine Bal.cons (br_name hn) (Bal.wrap (by decide) (by decide) (exL_bal ha) ?_)
      show Bal ([61] :: tx1 (exL y ++ [sgP [59]]))
      rw [tx1_app]
      exact Bal.cons z1 ((exL_bal hb).app (Bal.one z))
    | lock a t hn ht =>
      have hT := sts_bal (f := g) t (fun w hw => ih w (ht w hw) g (by omega))
      show Bal (lockW :: nm a :: [123] :: txs (t.flatMap (stP g) ++ [[sgP [125]]]))
      rw [txs_app]
      exact Bal.cons (by decide) (Bal.cons (br_name hn) (Bal.wrap (by decide) (by decide) hT Bal.nil))
    | cond x t e ha ht he =>
      have hT := sts_bal (f := g) t (fun w hw => ih w (ht w hw) g (by omega))
      have hE := sts_bal (f := g) e (fun w hw => ih w (he w hw) g (by omega))
      show Bal (txs ((wordP ifW :: sgP [40] :: (exL x ++ [sgP [41], sgP [123]])) :: (t.flatMap (stP g) ++ ((if 0 < e.length then [sgP [125], wordP elseW, sgP [123]] :: e.flatMap (stP g) else []) ++ [[sgP [125]]]))))
      rw [txs_cons, txs_app, txs_app]
      have e1 : tx1 (wordP ifW :: sgP [40] :: (exL x ++ [sgP [41], sgP [123]])) = ifW :: [40] :: (tx1 (exL x) ++ [[41], [123]]) := by
        show ifW :: [40] :: tx1 (exL x ++ _) = _
        rw [tx1_app]
        rfl
      rw [e1]
      have e2 : ∀ r : List Bs, ifW :: [40] :: (tx1 (exL x) ++ [[41], [123]]) ++ r = ifW :: ([40] :: (tx1 (exL x) ++ [41] :: ([123] :: r))) := fun r => by simp
      rw [e2]
      by_cases hl : 0 < e.length
      · rw [if_pos hl]
        have e3 : txs ([sgP [125], wordP elseW, sgP [123]] :: e.flatMap (stP g)) ++ txs [[sgP [125]]] = [125] :: (elseW :: ([123] :: (txs (e.flatMap (stP g)) ++ [125] :: []))) := rfl
        rw [e3]
        exact Bal.cons (by decide) (Bal.wrap (by decide) (by decide) (exL_bal ha) (Bal.wrap (by decide) (by decide) hT (Bal.cons (by decide) (Bal.wrap (by decide) (by decide) hE Bal.nil))))
      · rw [if_neg hl]
        have e3 : txs ([] : List (List Pc)) ++ txs [[sgP [125]]] = [125] :: [] := rfl
        rw [e3]
        exact Bal.cons (by decide) (Bal.wrap (by decide) (by decide) (exL_bal ha) (Bal.wrap (by decide) (by decide) hT Bal.nil))
    | rep m t hm ht =>
      have hT := sts_bal (f := g) t (fun w hw => ih w (ht w hw) g (by omega))
      show Bal (repW :: numT m :: [123] :: txs (t.flatMap (stP g) ++ [[sgP [125]]]))
      rw [txs_app]
      exact Bal.cons (by decide) (Bal.cons (br_num hm) (Bal.wrap (by decide) (by decide) hT Bal.nil))
    | halt =>
      show Bal [haltW, [59]]
      exact Bal.cons (by decide) (Bal.one z)
theorem list_bal {α : Type} (f : α → List (List Pc)) : ∀ (l : List α), (∀ x ∈ l, Bal (txs (f x))) → Bal (txs (l.flatMap f))
  | [], _ => Bal.nil
  | x :: l, h => by
    rw [List.flatMap_cons, txs_app]
    exact (h x (List.mem_cons_self ..)).app (list_bal f l (fun y hy => h y (List.mem_cons_of_mem _ hy)))
theorem rows_bal {α : Type} (f : α → List Pc) : ∀ (l : List α), (∀ x ∈ l, Bal (tx1 (f x))) → Bal (txs (l.map f))
  | [], _ => Bal.nil
  | x :: l, h => by
    rw [List.map_cons, txs_cons]
    exact (h x (List.mem_cons_self ..)).app (rows_bal f l (fun y hy => h y (List.mem_cons_of_mem _ hy)))
theorem tsk_bal {x : Tsk} (hx : isTsk x = true) : Bal (txs (tskP x)) := by
  unfold isTsk within at hx
  simp only [Bool.and_eq_true, decide_eq_true_eq] at hx
  obtain ⟨a1, ⟨a2, a2'⟩, ⟨a3, a3'⟩, ⟨a4, a5⟩, a6⟩ := hx
  rw [areS_all, List.all_eq_true] at a6
  have hB := sts_bal (f := 30) x.body (fun z hz => st_bal 30 z (a6 z hz) 30 (Nat.le_refl _))
  unfold tskP
  rw [txs_cons, txs_app]
  cases x.handler with
  | false =>
    rw [if_neg (by decide)]
    show Bal (taskW :: nm x.name :: numT x.hart :: numT x.prio :: [123] :: (txs (x.body.flatMap (stP 30)) ++ [125] :: []))
    exact Bal.cons (by decide) (Bal.cons (br_name a1) (Bal.cons (br_num a2) (Bal.cons (br_num (by omega)) (Bal.wrap (by decide) (by decide) hB Bal.nil))))
  | true =>
    rw [if_pos rfl]
    show Bal (handlerW :: nm x.name :: numT x.hart :: numT x.prio :: numT x.line :: [123] :: (txs (x.body.flatMap (stP 30)) ++ [125] :: []))
    exact Bal.cons (by decide) (Bal.cons (br_name a1) (Bal.cons (br_num a2) (Bal.cons (br_num (by omega)) (Bal.cons (br_num a4) (Bal.wrap (by decide) (by decide) hB Bal.nil)))))
theorem prg_bal {p : Prg} (h : right p = true) : Bal (txs (prgP p)) := by
  unfold right within at h
  simp only [Bool.and_eq_true, List.all_eq_true, decide_eq_true_eq] at h
  obtain ⟨⟨p1, p1'⟩, _, p2, _, p3, _, p4⟩ := h
  unfold prgP
  rw [txs_cons, txs_app, txs_app]
  have h1 : Bal (tx1 [wordP hartsW, numP p.harts]) := Bal.cons (by decide) (Bal.one (br_num (by omega)))
  have h2 := rows_bal devP p.devs (fun x hx => by
    have h := p2 x hx
    unfold isDev at h
    simp only [Bool.and_eq_true, Bool.not_eq_true'] at h
    show Bal [deviceW, nm x.name, kindT x.kind]
    exact Bal.cons (by decide) (Bal.cons (br_name h.1) (Bal.one (br_run (kindT_run (kindT_cases h.2))))))
  have h3 := rows_bal rscP p.rscs (fun x hx => by
    have h := p3 x hx
    unfold isRsc within at h
    simp only [Bool.and_eq_true, decide_eq_true_eq] at h
    show Bal [rscW, nm x.name, numT x.words]
    exact Bal.cons (by decide) (Bal.cons (br_name h.1) (Bal.one (br_num (by omega)))))
  exact h1.app (h2.app (h3.app (list_bal tskP p.tasks (fun x hx => tsk_bal (p4 x hx)))))
theorem toksL_txt : ∀ (l : List (List Pc)) (n : Nat), (toksL n l).map Tok.text = txs l
  | [], _ => rfl
  | a :: l, n => by
    rw [toksL_cons, List.map_append, toksL_txt l, txs_cons]
    congr 1
    rw [List.map_map]
    rfl
/-- the brackets of a right program's tokens stand in pairs -/
theorem toks_bal {p : Prg} (h : right p = true) (n : Nat) (m : Int) : Bal ((toksL n (prgP p) ++ [(⟨5, [], 0, m⟩ : Tok)]).map Tok.text) := by
  rw [List.map_append, toksL_txt]
  exact (prg_bal h).app (Bal.one (by show br [] = 0; decide))
end Sy
end
end Go.Proofs.YthlnjnmomnpnpaaGreatDoor
