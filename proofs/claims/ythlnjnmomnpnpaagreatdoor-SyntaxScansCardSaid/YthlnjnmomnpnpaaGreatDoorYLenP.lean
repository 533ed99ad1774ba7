/- How long the texts of the law's programs are at most, plain. -/
import Derived.Test.YthlnjnmomnpnpaaGreatDoorYRowsP
namespace Go.Proofs.YthlnjnmomnpnpaaGreatDoor
open Tk
namespace Sy
set_option linter.unusedVariables false
set_option linter.unusedSimpArgs false
theorem numT_len2 {n : Int} {m : Int} (h : within n 0 m = true) (hm : m ≤ 4294967295) : (numT n).length ≤ 21 := by
  unfold within at h
  simp only [Bool.and_eq_true, decide_eq_true_eq] at h
  exact (numT_len h.1 (by omega)).1
theorem nameIf_len {b : Bool} {s : ByteArray} (h : nameIf b s = true) : (nm s).length ≤ 20 := by
  unfold nameIf at h
  split at h
  · unfold nm; rw [size_list]; exact name_size h
  · have := of_decide_eq_true h
    subst this
    exact Nat.zero_le _
theorem fitS_len {s : St} (h : fitsS (sShp s.kind) s = true) : (nm s.name).length ≤ 20 ∧ (nm s.src).length ≤ 20 ∧ (numT s.n).length ≤ 21 := by
  unfold fitsS at h
  simp only [Bool.and_eq_true] at h
  refine ⟨nameIf_len h.2.1, nameIf_len h.2.2.1, numT_len2 h.2.2.2.1 ?_⟩
  unfold sShp
  repeat' split
  all_goals decide
theorem stT_len : ∀ (d : Nat) (s : St), Slim d s → ∀ (D f k : Nat), bodyS D s = true → k + d ≤ 100 → (stT f k s).length ≤ 9000 * 7 ^ d := by
  intro d
  induction d with
  | zero => intro s h; exact absurd h id
  | succ d ih =>
    intro s h D f k hD hk
    obtain ⟨h1, h2, h3, h4, h5⟩ := h
    cases f with
    | zero => exact Nat.zero_le _
    | succ f =>
      cases D with
      | zero => cases hD
      | succ D =>
        have h' : (fitsS (sShp s.kind) s && (areE 30 s.args && (areS D s.thn && areS D s.els))) = true := hD
        simp only [Bool.and_eq_true] at h'
        obtain ⟨g1, _, g3, g4⟩ := h'
        rw [areS_all, List.all_eq_true] at g3 g4
        have hp : 9000 * 7 ^ (d + 1) = 7 * (9000 * 7 ^ d) := by rw [Nat.pow_succ]; omega
        have h7 : 1 ≤ 7 ^ d := Nat.pow_pos (by decide)
        obtain ⟨l1, l2, l3⟩ := fitS_len g1
        have a0 := slim_arg h1 0
        have a1 := slim_arg h1 1
        have hT := flatMap_len (stT f (k + 1)) (9000 * 7 ^ d) s.thn (fun x hx => ih x (h4 x hx) D f (k + 1) (g3 x hx) (by omega))
        have hE := flatMap_len (stT f (k + 1)) (9000 * 7 ^ d) s.els (fun x hx => ih x (h5 x hx) D f (k + 1) (g4 x hx) (by omega))
        have hT2 : s.thn.length * (9000 * 7 ^ d) ≤ 3 * (9000 * 7 ^ d) := Nat.mul_le_mul_right _ h2
        have hE2 : s.els.length * (9000 * 7 ^ d) ≤ 3 * (9000 * 7 ^ d) := Nat.mul_le_mul_right _ h3
        rw [hp]
        have hM : 9000 ≤ 9000 * 7 ^ d := by omega
        generalize 9000 * 7 ^ d = M at hT hE hT2 hE2 hM ⊢
        unfold stT
        repeat' split
        all_goals
          simp only [List.length_append, line_len, List.map_cons, List.map_nil, List.sum_cons, List.sum_nil, List.length_cons, List.length_nil]
          omega
/-- the generator's statements have few parts -/
theorem stmts_slim {f : List Int → St × List Int} {d : Nat} (hf : ∀ s, Slim d (f s).1) : ∀ (n : Nat) (s : List Int), (∀ x ∈ (stmtsV f n s).1, Slim d x) ∧ (stmtsV f n s).1.length = n := by
  intro n
  induction n with
  | zero => intro s; exact ⟨fun x hx => (by cases hx), rfl⟩
  | succ n ih =>
    intro s
    obtain ⟨h1, h2⟩ := ih (f s).2
    refine ⟨fun x hx => ?_, ?_⟩
    · rcases List.mem_cons.1 hx with hx | hx
      · rw [hx]; exact hf s
      · exact h1 x hx
    · show (stmtsV f n (f s).2).1.length + 1 = n + 1
      rw [h2]
theorem blk_slim {f : List Int → St × List Int} {d : Nat} (hf : ∀ s, Slim d (f s).1) (s : List Int) : (∀ x ∈ (blkV f s).1, Slim d x) ∧ (blkV f s).1.length ≤ 3 := by
  obtain ⟨h1, h2⟩ := stmts_slim hf (nx s 4).1.toNat (nx s 4).2
  have h3 := nx_bd s (n := 4) (by omega)
  refine ⟨h1, ?_⟩
  show (stmtsV f (nx s 4).1.toNat (nx s 4).2).1.length ≤ 3
  rw [h2]
  omega
theorem expr_5 {c : Sco} (hc : GoodC c) {d : Nat} (hd : d ≤ 4) (s : List Int) : bodyE 5 (exprV c d s).1 = true := body_up (Nat.succ_le_succ hd) (expr_ok hc d s)
theorem slim_mk {d : Nat} {k n : Int} {a b : ByteArray} {xs : List Ex} {t e : List St} (hx : ∀ x ∈ xs, bodyE 5 x = true) (ht : (∀ x ∈ t, Slim d x) ∧ t.length ≤ 3) (he : (∀ x ∈ e, Slim d x) ∧ e.length ≤ 3) : Slim (d + 1) (.mk k a b n xs t e) := ⟨hx, ht.2, he.2, ht.1, he.1⟩
theorem slim0 {d : Nat} : (∀ x ∈ ([] : List St), Slim d x) ∧ ([] : List St).length ≤ 3 := ⟨fun x hx => (by cases hx), Nat.zero_le _⟩
theorem ex0 : ∀ x ∈ ([] : List Ex), bodyE 5 x = true := fun x hx => by cases hx
theorem ex1 {a : Ex} (h : bodyE 5 a = true) : ∀ x ∈ [a], bodyE 5 x = true := fun x hx => by rw [List.mem_singleton.1 hx]; exact h
theorem ex2 {a b : Ex} (h : bodyE 5 a = true) (h2 : bodyE 5 b = true) : ∀ x ∈ [a, b], bodyE 5 x = true := fun x hx => by
  rcases List.mem_cons.1 hx with hx | hx
  · rw [hx]; exact h
  · rw [List.mem_singleton.1 hx]; exact h2
theorem stG_slim {blk : Sco → List Int → List St × List Int} {deep : Bool} {d : Nat} (hb : ∀ c s, GoodC c → (∀ x ∈ (blk c s).1, Slim d x) ∧ (blk c s).1.length ≤ 3) {c : Sco} (hc : GoodC c) (s : List Int) : Slim (d + 1) (stG blk deep c s).1 := by
  unfold stG
  dsimp only
  split
  · exact slim_mk ex0 slim0 slim0
  · split
    · exact slim_mk (ex1 (expr_5 hc (by decide) _)) slim0 slim0
    · split
      · exact slim_mk (ex2 (expr_5 hc (by decide) _) (expr_5 hc (by decide) _)) slim0 slim0
      · split
        · rename_i h
          have hL := lock_good hc (nx (nameV c xyz s).2 12).2 h.2.2
          exact slim_mk ex0 (hb _ _ hL.2) slim0
        · split
          · exact slim_mk (ex1 (expr_5 hc (by decide) _)) (hb _ _ hc) (hb _ _ hc)
          · split
            · exact slim_mk ex0 (hb _ _ hc) slim0
            · split
              · exact slim_mk ex0 slim0 slim0
              · exact slim_mk (ex1 (expr_5 hc (by decide) _)) slim0 slim0
theorem st_slim : ∀ (d : Nat) (c : Sco) (s : List Int), GoodC c → Slim (d + 1) (stV d c s).1 := by
  intro d
  induction d with
  | zero => intro c s hc; exact stG_slim (fun c s _ => slim0) hc s
  | succ d ih => intro c s hc; exact stG_slim (fun c s hc => blk_slim (fun s => ih c s hc) s) hc s
theorem body_slim {d : Nat} {c : Sco} (hc : GoodC c) (s : List Int) : (∀ x ∈ (bodyV d c s).1, Slim (d + 1) x) ∧ (bodyV d c s).1.length ≤ 3 := blk_slim (fun s => st_slim d c s hc) s
def SlimT (t : Tsk) : Prop := ∃ d, d ≤ 4 ∧ (∀ x ∈ t.body, Slim d x) ∧ t.body.length ≤ 3
theorem tsks_slim {c : Sco} (hc : GoodC c) : ∀ (n : Nat) (l : List Tsk) (s : List Int), (∀ x ∈ l, SlimT x) → ∀ x ∈ (tsksV c n l s).1, SlimT x := by
  intro n
  induction n with
  | zero => intro l s hl; exact hl
  | succ n ih =>
    intro l s hl
    refine ih (l ++ [(tskV0 c l.length s).1]) (tskV0 c l.length s).2 (fun x hx => ?_)
    rcases List.mem_append.1 hx with hx | hx
    · exact hl x hx
    · rw [List.mem_singleton.1 hx]
      exact ⟨4, by decide, (body_slim (d := 3) hc (nx s 3).2).1, (body_slim (d := 3) hc (nx s 3).2).2⟩
theorem hdls_slim {c : Sco} (hc : GoodC c) {m : Nat} : ∀ (n : Nat) (l : List Tsk) (s : List Int), (∀ x ∈ l, SlimT x) → ∀ x ∈ (hdlsV c m n l s).1, SlimT x := by
  intro n
  induction n with
  | zero => intro l s hl; exact hl
  | succ n ih =>
    intro l s hl
    refine ih (l ++ [(hdlV c m (l.length - m) s).1]) (hdlV c m (l.length - m) s).2 (fun x hx => ?_)
    rcases List.mem_append.1 hx with hx | hx
    · exact hl x hx
    · rw [List.mem_singleton.1 hx]
      exact ⟨3, by decide, (body_slim (d := 2) hc (nx (nx (nx s m).2 4).2 2).2).1, (body_slim (d := 2) hc (nx (nx (nx s m).2 4).2 2).2).2⟩
theorem all2_slim (s : List Int) (all : Bool) : ∀ x ∈ (all2 s all).1, SlimT x := hdls_slim (sco_good s all) _ _ _ (tsks_slim (sco_good s all) _ _ _ (fun x hx => by cases hx))
theorem tskT_len {t : Tsk} (h : isTsk t = true) (hs : SlimT t) : (tskT t).length ≤ 100000000 := by
  unfold isTsk at h
  simp only [Bool.and_eq_true] at h
  obtain ⟨h1, h2, h3, h4, h5⟩ := h
  obtain ⟨d, hd, hb, hl⟩ := hs
  rw [areS_all, List.all_eq_true] at h5
  have hp : 9000 * 7 ^ d ≤ 9000 * 7 ^ 4 := Nat.mul_le_mul_left _ (Nat.pow_le_pow_right (by decide) hd)
  have hp4 : (9000 * 7 ^ 4 : Nat) = 21609000 := by decide
  have hB := flatMap_len (stT 30 1) (9000 * 7 ^ d) t.body (fun x hx => stT_len d x (hb x hx) 30 30 1 (h5 x hx) (by omega))
  have hB2 : t.body.length * (9000 * 7 ^ d) ≤ 3 * (9000 * 7 ^ d) := Nat.mul_le_mul_right _ hl
  have l1 : (nm t.name).length ≤ 20 := by unfold nm; rw [size_list]; exact name_size h1
  have l2 := numT_len2 h2 (by decide)
  have l3 : (numT t.prio).length ≤ 21 := by
    unfold within at h3
    simp only [Bool.and_eq_true, decide_eq_true_eq] at h3
    exact (numT_len (by omega) (by omega)).1
  have l4 := numT_len2 h4 (by split <;> decide)
  generalize 9000 * 7 ^ d = M at hp hB hB2
  unfold tskT
  split
  all_goals
    simp only [List.length_append, line_len, List.map_cons, List.map_nil, List.sum_cons, List.sum_nil, List.length_cons, List.length_nil]
    omega
theorem kindT_len (k : Int) : (kindT k).length ≤ 5 := by
  unfold kindT
  repeat' split
  all_goals decide
theorem prog_len (raw : List Int) (all : Bool) : (prgT (progV raw all)).length ≤ 10000000000 := by
  show (prgT (progS (raw.take 400) all)).length ≤ _
  generalize raw.take 400 = s
  have h := harts_bd s
  obtain ⟨h1, h2, h3⟩ := dev2_ok s
  obtain ⟨h4, h5⟩ := rsc2_ok s
  obtain ⟨h6, h7, h8⟩ := all2_ok s all
  have hs := all2_slim s all
  have e1 := flatMap_len devT 100 (dev2 s).1 (fun x hx => by
    have := h1 x hx
    unfold isDev at this
    rw [Bool.and_eq_true] at this
    have l1 : (nm x.name).length ≤ 20 := by unfold nm; rw [size_list]; exact name_size this.1
    have l2 := kindT_len x.kind
    unfold devT
    simp only [line_len, List.map_cons, List.map_nil, List.sum_cons, List.sum_nil, List.length_cons, List.length_nil]
    omega)
  have e2 := flatMap_len rscT 100 (rsc2 s).1 (fun x hx => by
    have := h4 x hx
    unfold isRsc within at this
    simp only [Bool.and_eq_true, decide_eq_true_eq] at this
    have l1 : (nm x.name).length ≤ 20 := by unfold nm; rw [size_list]; exact name_size this.1
    have l2 := (numT_len (n := x.words) (by omega) (by omega)).1
    unfold rscT
    simp only [line_len, List.map_cons, List.map_nil, List.sum_cons, List.sum_nil, List.length_cons, List.length_nil]
    omega)
  have e3 := flatMap_len tskT 100000000 (all2 s all).1 (fun x hx => tskT_len (h6 x hx) (hs x hx))
  have e4 := (numT_len (n := (harts s : Int)) (by omega) (by omega)).1
  show (lineT 0 [[104, 97, 114, 116, 115, 32], numT (harts s : Int)] ++ (dev2 s).1.flatMap devT ++ (rsc2 s).1.flatMap rscT ++ (all2 s all).1.flatMap tskT).length ≤ _
  simp only [List.length_append, line_len, List.map_cons, List.map_nil, List.sum_cons, List.sum_nil, List.length_cons, List.length_nil]
  omega
end Sy
end Go.Proofs.YthlnjnmomnpnpaaGreatDoor
