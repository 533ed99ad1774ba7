/- How many lines a program's text has, and how long the texts of the law's programs are, plain. -/
import Derived.Test.YthlnjnmomnpnpaaGreatDoorYExT
import Derived.Test.YthlnjnmomnpnpaaGreatDoorYProgP
namespace Go.Proofs.YthlnjnmomnpnpaaGreatDoor
open Tk
namespace Sy
set_option linter.unusedVariables false
set_option linter.unusedSimpArgs false
/-- line feeds -/
def lfs (l : Bs) : Nat := l.countP (· == 10)
theorem lfs_app (a b : Bs) : lfs (a ++ b) = lfs a + lfs b := List.countP_append
theorem lfs_nil : lfs [] = 0 := rfl
theorem lfs_of {l : Bs} (h : ∀ c ∈ l, c ≠ 10) : lfs l = 0 := List.countP_eq_zero.2 (fun c hc => by have := h c hc; simpa using this)
theorem name_lf {s : Bs} (h : isName s = true) : lfs s = 0 := by
  unfold isName at h
  simp only [Bool.and_eq_true] at h
  have h2 := h.1.2
  rw [List.all_eq_true] at h2
  refine lfs_of fun c hc e => ?_
  have := h2 c hc
  rw [e] at this
  exact absurd this (by decide)
theorem dec_lf : ∀ (u : Nat), lfs (Lib.decDigits u) = 0 := by
  intro u
  rw [Lib.decDigits_eq]
  refine lfs_of fun c hc e => ?_
  obtain ⟨j, _, hj⟩ := List.mem_map.1 hc
  have h1 : ∀ i : Fin 10, UInt8.ofNat (48 + i.val) ≠ 10 := by decide
  have h2 : Lib.dg u (Lib.nDigits u - 1 - j) = UInt8.ofNat (48 + (u / 10 ^ (Lib.nDigits u - 1 - j)) % 10) := rfl
  rw [h2] at hj
  exact h1 ⟨(u / 10 ^ (Lib.nDigits u - 1 - j)) % 10, Nat.mod_lt _ (by decide)⟩ (hj.trans e)
theorem numT_lf (n : Int) : lfs (numT n) = 0 := by
  unfold numT Lib.itoa
  split
  · show lfs ([45] ++ Lib.decDigits n.natAbs) = 0
    rw [lfs_app, dec_lf]
    rfl
  · exact dec_lf _
theorem opT_lf (o : Int) : lfs (opT o) = 0 := by
  show lfs (Plain.text o) = 0
  unfold Plain.text
  simp only [apply_ite lfs]
  simp [lfs]
theorem par_lf (b : Bool) (s : Bs) : lfs (par b s) = lfs s := by
  unfold par
  split
  · rw [lfs_app, lfs_app]
    show 0 + lfs s + 0 = lfs s
    omega
  · rfl
theorem nil_lf (f : Nat) : lfs (exT f nilE) = 0 := by cases f <;> rfl
theorem exT_lf : ∀ (k : Nat) (e : Ex), bodyE k e = true → ∀ f, lfs (exT f e) = 0 := by
  intro k
  induction k with
  | zero => intro e h; cases h
  | succ k ih =>
    intro e h f
    cases f with
    | zero => rfl
    | succ f =>
      obtain ⟨hf, hsub, hk⟩ := kind_of h
      have ha : ∀ i, lfs (exT f (argAt e.args i)) = 0 := fun i => by
        unfold argAt
        rw [List.getD_eq_getElem?_getD]
        cases hx : e.args[i]? with
        | none => exact nil_lf f
        | some x => exact ih x (hsub i x hx) f
      have hnm : (eShp e.kind).nm = true → lfs (nm e.name) = 0 := fun hn => by
        unfold fitsE nameIf at hf
        simp only [Bool.and_eq_true, hn, if_true] at hf
        exact name_lf hf.2.2.2.1
      rcases hk with hk | hk | hk | hk | hk
      · rw [exT_1 hk]; exact numT_lf _
      · rw [exT_2 hk]; exact hnm (by rw [hk]; rfl)
      · rw [exT_3 hk, lfs_app, opT_lf, par_lf, ha]
      · rw [exT_4 hk, lfs_app, lfs_app, lfs_app, lfs_app, opT_lf, par_lf, par_lf, ha, ha]; rfl
      · rw [exT_5 hk, lfs_app, lfs_app, lfs_app, ha, hnm (by rw [hk]; rfl)]; rfl
theorem flat_lf : ∀ (ps : List Bs), (∀ p ∈ ps, lfs p = 0) → lfs ps.flatten = 0
  | [], _ => rfl
  | p :: ps, h => by
    show lfs (p ++ ps.flatten) = 0
    rw [lfs_app, h p (List.mem_cons_self ..), flat_lf ps (fun q hq => h q (List.mem_cons_of_mem _ hq))]
theorem line_lf {k : Nat} {ps : List Bs} (h : ∀ p ∈ ps, lfs p = 0) : lfs (lineT k ps) = 1 := by
  unfold lineT
  rw [lfs_app, lfs_app, flat_lf ps h]
  have e : lfs (List.replicate k 9) = 0 := lfs_of fun c hc e => by
    rw [(List.mem_replicate.1 hc).2] at e
    exact absurd e (by decide)
  rw [e]
  rfl
mutual
def rowS : St → Nat
  | .mk k _ _ _ _ t e => 1 + rowsS t + rowsS e + (if k = 5 ∨ k = 6 ∨ k = 7 then 1 else 0) + (if 0 < e.length then 1 else 0)
def rowsS : List St → Nat
  | [] => 0
  | s :: l => rowS s + rowsS l
end
theorem rowS_eq (s : St) : rowS s = 1 + rowsS s.thn + rowsS s.els + (if s.kind = 5 ∨ s.kind = 6 ∨ s.kind = 7 then 1 else 0) + (if 0 < s.els.length then 1 else 0) := by cases s; rw [rowS]; rfl
theorem rowsS_nil : rowsS [] = 0 := by rw [rowsS]
theorem rowsS_cons (s : St) (l : List St) : rowsS (s :: l) = rowS s + rowsS l := by rw [rowsS]
theorem rowsS_eq : ∀ (l : List St), rowsS l = (l.map rowS).sum
  | [] => by rw [rowsS_nil]; rfl
  | s :: l => by rw [rowsS_cons, rowsS_eq l]; rfl
theorem flatMap_lf {α : Type} (f : α → Bs) (g : α → Nat) : ∀ (l : List α), (∀ x ∈ l, lfs (f x) = g x) → lfs (l.flatMap f) = (l.map g).sum
  | [], _ => rfl
  | x :: l, h => by
    show lfs (f x ++ l.flatMap f) = g x + (l.map g).sum
    rw [lfs_app, h x (List.mem_cons_self ..), flatMap_lf f g l (fun y hy => h y (List.mem_cons_of_mem _ hy))]
theorem args_lf {s : St} (h : areE 30 s.args = true) (i f : Nat) : lfs (exT f (argAt s.args i)) = 0 := by
  unfold argAt
  rw [List.getD_eq_getElem?_getD]
  cases hx : s.args[i]? with
  | none => exact nil_lf f
  | some x =>
    rw [areE_all, List.all_eq_true] at h
    exact exT_lf 30 x (h x (List.mem_of_getElem? hx)) f
/-- what a statement of a known kind has -/
theorem fitS_parts {s : St} (h : fitsS (sShp s.kind) s = true) : (1 ≤ s.kind ∧ s.kind ≤ 8) ∧ ((sShp s.kind).nm = true → lfs (nm s.name) = 0) ∧ ((sShp s.kind).src = true → lfs (nm s.src) = 0) ∧ ((sShp s.kind).thn = false → s.thn = []) ∧ ((sShp s.kind).els = false → s.els = []) := by
  unfold fitsS at h
  simp only [Bool.and_eq_true, Bool.or_eq_true, decide_eq_true_eq] at h
  obtain ⟨h1, h2, h3, _, _, h4, h5⟩ := h
  refine ⟨?_, fun hn => ?_, fun hn => ?_, fun hn => ?_, fun hn => ?_⟩
  · unfold sShp at h1
    repeat' split at h1
    all_goals first
      | omega
      | cases h1
  · rw [hn] at h2
    exact name_lf h2
  · rw [hn] at h3
    exact name_lf h3
  · rw [hn] at h4
    exact List.length_eq_zero_iff.1 (h4.resolve_left (by decide))
  · rw [hn] at h5
    exact List.length_eq_zero_iff.1 (h5.resolve_left (by decide))
theorem stT_lf : ∀ (d : Nat) (s : St), bodyS d s = true → ∀ (f k : Nat), d ≤ f → lfs (stT f k s) = rowS s := by
  intro d
  induction d with
  | zero => intro s h; cases h
  | succ d ih =>
    intro s h f k hf
    obtain ⟨g, rfl⟩ : ∃ g, f = g + 1 := ⟨f - 1, by omega⟩
    have h' : (fitsS (sShp s.kind) s && (areE 30 s.args && (areS d s.thn && areS d s.els))) = true := h
    simp only [Bool.and_eq_true] at h'
    obtain ⟨h1, h2, h3, h4⟩ := h'
    rw [areS_all, List.all_eq_true] at h3 h4
    obtain ⟨hk, hn, hs, ht, he⟩ := fitS_parts h1
    have ha := fun i => args_lf h2 i 30
    have hN := numT_lf s.n
    have hT : lfs (s.thn.flatMap (stT g (k + 1))) = rowsS s.thn := by rw [rowsS_eq]; exact flatMap_lf _ _ _ (fun x hx => ih x (h3 x hx) g (k + 1) (by omega))
    have hE : lfs (s.els.flatMap (stT g (k + 1))) = rowsS s.els := by rw [rowsS_eq]; exact flatMap_lf _ _ _ (fun x hx => ih x (h4 x hx) g (k + 1) (by omega))
    rw [rowS_eq]
    rcases (show s.kind = 1 ∨ s.kind = 2 ∨ s.kind = 3 ∨ s.kind = 4 ∨ s.kind = 5 ∨ s.kind = 6 ∨ s.kind = 7 ∨ s.kind = 8 by omega) with e | e | e | e | e | e | e | e
    all_goals rw [e] at hn hs ht he
    · have g1 := ht rfl
      have g2 := he rfl
      have g3 := hn rfl
      rw [e, g1, g2]
      unfold stT
      rw [if_pos e, line_lf]
      · rfl
      · intro p hp
        simp only [List.mem_cons, List.not_mem_nil, or_false] at hp
        rcases hp with rfl | rfl | rfl | rfl
        · exact g3
        · rfl
        · exact ha 0
        · rfl
    · have g1 := ht rfl
      have g2 := he rfl
      have g3 := hn rfl
      have g4 := hs rfl
      rw [e, g1, g2]
      unfold stT
      rw [if_neg (by omega), if_pos e, line_lf]
      · rfl
      · intro p hp
        simp only [List.mem_cons, List.not_mem_nil, or_false] at hp
        rcases hp with rfl | rfl | rfl | rfl | rfl | rfl
        · exact g3
        · rfl
        · exact g4
        · rfl
        · exact hN
        · rfl
    · have g1 := ht rfl
      have g2 := he rfl
      have g3 := hn rfl
      rw [e, g1, g2]
      unfold stT
      rw [if_neg (by omega), if_neg (by omega), if_pos e, line_lf]
      · rfl
      · intro p hp
        simp only [List.mem_cons, List.not_mem_nil, or_false] at hp
        rcases hp with rfl | rfl | rfl | rfl | rfl | rfl
        · exact g3
        · rfl
        · exact hN
        · rfl
        · exact ha 0
        · rfl
    · have g1 := ht rfl
      have g2 := he rfl
      have g3 := hn rfl
      rw [e, g1, g2]
      unfold stT
      rw [if_neg (by omega), if_neg (by omega), if_neg (by omega), if_pos e, line_lf]
      · rfl
      · intro p hp
        simp only [List.mem_cons, List.not_mem_nil, or_false] at hp
        rcases hp with rfl | rfl | rfl | rfl | rfl | rfl
        · exact g3
        · rfl
        · exact ha 0
        · rfl
        · exact ha 1
        · rfl
    · have g2 := he rfl
      have g3 := hn rfl
      rw [e, g2]
      unfold stT
      rw [if_neg (by omega), if_neg (by omega), if_neg (by omega), if_neg (by omega), if_pos e, lfs_app, lfs_app, hT, line_lf, line_lf, rowsS_nil]
      · simp only [List.length_nil, Nat.lt_irrefl, if_false]
        simp only [or_true, true_or, if_true]
      · intro p hp
        simp only [List.mem_cons, List.not_mem_nil, or_false] at hp
        subst hp
        rfl
      · intro p hp
        simp only [List.mem_cons, List.not_mem_nil, or_false] at hp
        rcases hp with rfl | rfl | rfl
        · rfl
        · exact g3
        · rfl
    · rw [e]
      unfold stT
      rw [if_neg (by omega), if_neg (by omega), if_neg (by omega), if_neg (by omega), if_neg (by omega), if_pos e, lfs_app, lfs_app, lfs_app, hT, line_lf, line_lf]
      · by_cases hl : 0 < s.els.length
        · rw [if_pos hl, if_pos hl, lfs_app, hE, line_lf]
          · simp only [or_true, true_or, if_true]
            omega
          · intro p hp
            simp only [List.mem_cons, List.not_mem_nil, or_false] at hp
            subst hp
            rfl
        · have g2 : s.els = [] := List.length_eq_zero_iff.1 (by omega)
          rw [if_neg hl, if_neg hl, g2, rowsS_nil, lfs_nil]
          simp only [or_true, true_or, if_true]
      · intro p hp
        simp only [List.mem_cons, List.not_mem_nil, or_false] at hp
        subst hp
        rfl
      · intro p hp
        simp only [List.mem_cons, List.not_mem_nil, or_false] at hp
        rcases hp with rfl | rfl | rfl
        · rfl
        · exact ha 0
        · rfl
    · have g2 := he rfl
      rw [e, g2]
      unfold stT
      rw [if_neg (by omega), if_neg (by omega), if_neg (by omega), if_neg (by omega), if_neg (by omega), if_neg (by omega), if_pos e, lfs_app, lfs_app, hT, line_lf, line_lf, rowsS_nil]
      · simp only [List.length_nil, Nat.lt_irrefl, if_false]
        simp only [or_true, true_or, if_true]
      · intro p hp
        simp only [List.mem_cons, List.not_mem_nil, or_false] at hp
        subst hp
        rfl
      · intro p hp
        simp only [List.mem_cons, List.not_mem_nil, or_false] at hp
        rcases hp with rfl | rfl | rfl
        · rfl
        · exact hN
        · rfl
    · have g1 := ht rfl
      have g2 := he rfl
      rw [e, g1, g2]
      unfold stT
      rw [if_neg (by omega), if_neg (by omega), if_neg (by omega), if_neg (by omega), if_neg (by omega), if_neg (by omega), if_neg (by omega), if_pos e, line_lf]
      · rfl
      · intro p hp
        simp only [List.mem_cons, List.not_mem_nil, or_false] at hp
        subst hp
        rfl
/-- the lines of a program's text -/
def rowsP (p : Prg) : Nat := 1 + p.devs.length + p.rscs.length + (p.tasks.map fun t => 2 + rowsS t.body).sum
theorem sum_one {α : Type} : ∀ (l : List α), (l.map fun _ => 1).sum = l.length
  | [] => rfl
  | _ :: l => by
    show 1 + (l.map fun _ => 1).sum = l.length + 1
    rw [sum_one l]
    omega
theorem kindT_lf (k : Int) : lfs (kindT k) = 0 := by
  unfold kindT
  repeat' split
  all_goals rfl
theorem tskT_lf {t : Tsk} (h : isTsk t = true) : lfs (tskT t) = 2 + rowsS t.body := by
  unfold isTsk at h
  simp only [Bool.and_eq_true] at h
  obtain ⟨h1, _, _, _, h5⟩ := h
  rw [areS_all, List.all_eq_true] at h5
  have hb : lfs (t.body.flatMap (stT 30 1)) = rowsS t.body := by rw [rowsS_eq]; exact flatMap_lf _ _ _ (fun x hx => stT_lf 30 x (h5 x hx) 30 1 (Nat.le_refl _))
  have hn := name_lf h1
  have e1 : lfs (lineT 0 [[125]]) = 1 := rfl
  unfold tskT
  rw [lfs_app, lfs_app, hb, e1]
  split
  · rw [line_lf]
    · omega
    · intro p hp
      simp only [List.mem_cons, List.not_mem_nil, or_false] at hp
      rcases hp with rfl | rfl | rfl | rfl | rfl | rfl | rfl | rfl | rfl
      all_goals first
        | rfl
        | exact hn
        | exact numT_lf _
  · rw [line_lf]
    · omega
    · intro p hp
      simp only [List.mem_cons, List.not_mem_nil, or_false] at hp
      rcases hp with rfl | rfl | rfl | rfl | rfl | rfl | rfl
      all_goals first
        | rfl
        | exact hn
        | exact numT_lf _
theorem prgT_lf {p : Prg} (h : right p = true) : lfs (prgT p) = rowsP p := by
  unfold right at h
  simp only [Bool.and_eq_true, List.all_eq_true] at h
  obtain ⟨_, _, hd, _, hr, _, ht⟩ := h
  have e0 : lfs (lineT 0 [[104, 97, 114, 116, 115, 32], numT p.harts]) = 1 := line_lf (fun q hq => by
    simp only [List.mem_cons, List.not_mem_nil, or_false] at hq
    rcases hq with rfl | rfl
    · rfl
    · exact numT_lf _)
  have e1 : lfs (p.devs.flatMap devT) = p.devs.length := by
    rw [flatMap_lf devT (fun _ => 1) _ (fun d hdm => ?_), sum_one]
    have := hd d hdm
    unfold isDev at this
    rw [Bool.and_eq_true] at this
    unfold devT
    exact line_lf (fun q hq => by
      simp only [List.mem_cons, List.not_mem_nil, or_false] at hq
      rcases hq with rfl | rfl | rfl | rfl
      · rfl
      · exact name_lf this.1
      · rfl
      · exact kindT_lf _)
  have e2 : lfs (p.rscs.flatMap rscT) = p.rscs.length := by
    rw [flatMap_lf rscT (fun _ => 1) _ (fun d hdm => ?_), sum_one]
    have := hr d hdm
    unfold isRsc at this
    rw [Bool.and_eq_true] at this
    unfold rscT
    exact line_lf (fun q hq => by
      simp only [List.mem_cons, List.not_mem_nil, or_false] at hq
      rcases hq with rfl | rfl | rfl | rfl
      · rfl
      · exact name_lf this.1
      · rfl
      · exact numT_lf _)
  have e3 : lfs (p.tasks.flatMap tskT) = (p.tasks.map fun t => 2 + rowsS t.body).sum := flatMap_lf _ _ _ (fun t hm => tskT_lf (ht t hm))
  unfold prgT rowsP
  rw [lfs_app, lfs_app, lfs_app, e0, e1, e2, e3]
/-- a program's text ends in a line feed -/
theorem line_last (k : Nat) (ps : List Bs) : ∃ a, lineT k ps = a ++ [10] := ⟨_, rfl⟩
theorem flat_last {α : Type} (f : α → Bs) (h : ∀ x, ∃ a, f x = a ++ [10]) : ∀ (l : List α) (a : Bs), ∃ b, a ++ [10] ++ l.flatMap f = b ++ [10]
  | [], a => ⟨a, by simp⟩
  | x :: l, a => by
    obtain ⟨b, hb⟩ := h x
    obtain ⟨c, hc⟩ := flat_last f h l (a ++ [10] ++ b)
    exact ⟨c, by rw [← hc]; simp [hb]⟩
theorem tskT_last (t : Tsk) : ∃ a, tskT t = a ++ [10] := by
  obtain ⟨a, ha⟩ := line_last 0 [[125]]
  unfold tskT
  rw [ha, ← List.append_assoc]
  exact ⟨_, rfl⟩
theorem prgT_last (p : Prg) : ∃ a, prgT p = a ++ [10] := by
  obtain ⟨a, ha⟩ := flat_last devT (fun d => line_last _ _) p.devs ([104, 97, 114, 116, 115, 32] ++ numT p.harts)
  obtain ⟨b, hb⟩ := flat_last rscT (fun d => line_last _ _) p.rscs a
  obtain ⟨c, hc⟩ := flat_last tskT tskT_last p.tasks b
  refine ⟨c, ?_⟩
  rw [← hc, ← hb, ← ha]
  show lineT 0 [[104, 97, 114, 116, 115, 32], numT p.harts] ++ _ ++ _ ++ _ = _
  unfold lineT
  simp
/-- a statement of few parts -/
def Slim : Nat → St → Prop
  | 0, _ => False
  | d + 1, s => (∀ a ∈ s.args, bodyE 5 a = true) ∧ s.thn.length ≤ 3 ∧ s.els.length ≤ 3 ∧ (∀ x ∈ s.thn, Slim d x) ∧ ∀ x ∈ s.els, Slim d x
theorem exT_up : ∀ (k : Nat) (e : Ex), bodyE k e = true → ∀ f, k ≤ f → exT f e = exT k e := by
  intro k
  induction k with
  | zero => intro e h; cases h
  | succ k ih =>
    intro e h f hf
    obtain ⟨g, rfl⟩ : ∃ g, f = g + 1 := ⟨f - 1, by omega⟩
    obtain ⟨hfe, hsub, hk⟩ := kind_of h
    have ha : ∀ i, exT g (argAt e.args i) = exT k (argAt e.args i) := fun i => by
      unfold argAt
      rw [List.getD_eq_getElem?_getD]
      cases hx : e.args[i]? with
      | none => cases g <;> cases k <;> rfl
      | some x => exact ih x (hsub i x hx) g (by omega)
    rcases hk with hk | hk | hk | hk | hk
    · rw [exT_1 hk, exT_1 hk]
    · rw [exT_2 hk, exT_2 hk]
    · rw [exT_3 hk, exT_3 hk, ha]
    · rw [exT_4 hk, exT_4 hk, ha, ha]
    · rw [exT_5 hk, exT_5 hk, ha]
theorem ex5_len {e : Ex} (h : bodyE 5 e = true) : (exT 30 e).length ≤ 1260 := by
  rw [exT_up 5 e h 30 (by decide)]
  have := (exT_len 5 e h).1
  have e : (40 * 2 ^ 5 : Nat) = 1280 := by decide
  omega
theorem slim_arg {s : St} (h : ∀ a ∈ s.args, bodyE 5 a = true) (i : Nat) : (exT 30 (argAt s.args i)).length ≤ 1260 := by
  unfold argAt
  rw [List.getD_eq_getElem?_getD]
  cases hx : s.args[i]? with
  | none => exact Nat.zero_le _
  | some x => exact ex5_len (h x (List.mem_of_getElem? hx))
theorem line_len (k : Nat) (ps : List Bs) : (lineT k ps).length = k + (ps.map List.length).sum + 1 := by
  unfold lineT
  rw [List.length_append, List.length_append, List.length_replicate, List.length_flatten]
  rfl
theorem flatMap_len {α : Type} (f : α → Bs) (b : Nat) : ∀ (l : List α), (∀ x ∈ l, (f x).length ≤ b) → (l.flatMap f).length ≤ l.length * b
  | [], _ => Nat.zero_le _
  | x :: l, h => by
    show (f x ++ l.flatMap f).length ≤ (l.length + 1) * b
    have h1 := h x (List.mem_cons_self ..)
    have h2 := flatMap_len f b l (fun y hy => h y (List.mem_cons_of_mem _ hy))
    rw [List.length_append, Nat.succ_mul]
    omega
end Sy
end Go.Proofs.YthlnjnmomnpnpaaGreatDoor
