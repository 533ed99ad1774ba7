/- The law of levels. -/
import Derived.Test.YtnpdeiffffjnjaaDoorYBinds
namespace Go.Proofs.YtnpdeiffffjnjaaDoor
open Go.RowKit Tk Sy
set_option linter.unusedVariables false
theorem str_get {l : Bs} {i : Nat} {c : UInt8} (hl : l[i]? = some c) (h : i < (str l).size) : (str l)[i]'h = c := by
  have h2 : i < l.length := by rw [str_size] at h; exact h
  have h3 : (str l)[i]'h = l[i]'h2 := by
    show (str l).data[i]'h = _
    simp [str]
  rw [h3]
  rw [List.getElem?_eq_getElem h2] at hl
  exact Option.some.inj hl
theorem first_neq (c : Bool) (b : Int) (r : Bs) (h : 0 < (str (par c (tI b) ++ r)).size) : ((((str (par c (tI b) ++ r))[0]'h).toNat : Int) != 40) = !c := by
  cases c with
  | true =>
    rw [str_get (c := 40) (by simp [par]) h]
    rfl
  | false =>
    rw [str_get (c := 120) (by simp [par, tI]) h]
    rfl
theorem last_neq (c : Bool) (b : Int) (r : Bs) {s : ByteArray} (hs : str (r ++ par c (tI b)) = s) (h : s.size - 1 < s.size) : (((s[s.size - 1]'h).toNat : Int) != 41) = !c := by
  subst hs
  have e : ∀ l : Bs, l[(str l).size - 1]? = l.getLast? := fun l => by rw [str_size, List.getLast?_eq_getElem?]
  cases c with
  | true =>
    rw [str_get (c := 41) (by rw [e]; show (r ++ ([40] ++ tI b ++ [41])).getLast? = _; rw [← List.append_assoc]; exact List.getLast?_concat) h]
    rfl
  | false =>
    rw [str_get (c := 120) (by rw [e]; show (r ++ ([120] ++ ([32] ++ opT b ++ [32]) ++ [120])).getLast? = _; rw [← List.append_assoc]; exact List.getLast?_concat) h]
    rfl
theorem tI_len (b : Int) : 4 ≤ (tI b).length ∧ (tI b).length ≤ 6 := by
  have := opT_len b
  unfold tI
  simp
  omega
theorem par_le (c : Bool) (s : Bs) : s.length ≤ (par c s).length ∧ (par c s).length ≤ s.length + 2 := by
  cases c
  · simp [par]
  · simp [par]; omega
theorem ext_n (l m : Bs) (n : Nat) (h : l.length = n) : (str (l ++ m)).extract 0 n = ⟨l.toArray⟩ := by
  subst h
  apply ByteArray.ext
  simp [str]
theorem binds_any {one two : Int} (w : World) (hX : Texts w) (hP : PowAt w) (i1 : inI one) (i2 : inI two) :
    Calls Tryd.prog 4 #[.int .i64 one, .int .i64 two] w fun e w' => e = .returned (.bool true) ∧ Bel w w' := by
  obtain ⟨a, ha⟩ : ∃ a, pick one 14 + 1 = a := ⟨_, rfl⟩
  obtain ⟨b, hb⟩ : ∃ b, pick two 14 + 1 = b := ⟨_, rfl⟩
  have p1 := pick_bd one (n := 14) (by decide)
  have p2 := pick_bd two (n := 14) (by decide)
  have l1 := tI_len b
  have hs := ex_left 27 a b
  have ht := ex_right 27 a b
  have hu := ex_neg 27 (b := b) (by omega) (by omega)
  have hv := ex_at 27 b
  have q1 := par_le (decide (level b < level a)) (tI b)
  have q2 := par_le (decide (level b < level a + 1)) (tI b)
  refine binds_walk (a := a) (b := b) (L := !decide (level b < level a)) (R := !decide (level b < level a + 1)) w hX hP i1 i2 (by omega) (by omega) (by omega) (by omega) (by omega) (by omega) rfl rfl (congrArg str hs) (congrArg str ht) (congrArg str hu) (congrArg str hv) ?_ ?_ ?_ ?_ ?_ ?_ ?_ ?_ ?_ ?_ ?_
  · rw [str_size]; simp only [List.length_append, List.length_cons, List.length_nil]; omega
  · rw [str_size]; simp only [List.length_append, List.length_cons, List.length_nil]; omega
  · rw [str_size]; simp only [List.length_append, List.length_cons, List.length_nil]; omega
  · rw [str_size]; simp only [List.length_append, List.length_cons, List.length_nil]; omega
  · have o1 := opT_len a
    rw [str_size]
    simp only [List.length_append, List.length_cons, List.length_nil]
    omega
  · intro h
    revert h
    rw [List.append_assoc]
    exact first_neq _ b _
  · intro h
    exact last_neq _ b _ rfl h
  · exact ext_n [45, 40] _ 2 rfl
  · exact ext_n [114, 91, 120] _ 3 rfl
  · by_cases h : level b < level a
    · rw [decide_eq_true h, decide_eq_false (by omega)]; rfl
    · rw [decide_eq_false h, decide_eq_true (by omega)]; rfl
  · by_cases h : level b < level a + 1
    · rw [decide_eq_true h, decide_eq_false (by omega)]; rfl
    · rw [decide_eq_false h, decide_eq_true (by omega)]; rfl
end Go.Proofs.YtnpdeiffffjnjaaDoor
