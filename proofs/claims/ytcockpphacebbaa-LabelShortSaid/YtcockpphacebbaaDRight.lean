/- What Right of package code answers: the plain function's own. -/
import Derived.Test.YtcockpphacebbaaDIs
import Derived.Test.YtcockpphacebbaaDFormOf
namespace Go.Proofs.Ytcockpphacebbaa
open Go.RowKit Rv
set_option linter.unusedVariables false
def formV (f : Int) : Array Value := (formCells (loF f) (hiF f) (stF f) (six (pcs f))).toArray
theorem formV_sz (f : Int) : (Try.prog.info? 79).map (·.size) = some (formV f).size := form_sz _ _ _ _
theorem formV_ones (f : Int) : (formV f).all (·.oneCell') = true := form_ones _ _ _ _
theorem formV_zero (f : Int) : formZero.size = (formV f).size := zero_sz _ _ _ _
theorem formof_any {op : Int} (h1 : 1 ≤ op) (h2 : op ≤ 49) (w : World) : Calls Try.prog 48 #[.int .u8 (form op)] w fun e w' => e = .returned (.agg (formV (form op))) ∧ Both w w' := by
  rcases form_is h1 h2 with hf | hf | hf | hf | hf | hf | hf | hf | hf | hf | hf | hf
  · rw [hf]; exact formof_R w
  · rw [hf]; exact formof_I w
  · rw [hf]; exact formof_C w
  · rw [hf]; exact formof_H w
  · rw [hf]; exact formof_S w
  · rw [hf]; exact formof_B w
  · rw [hf]; exact formof_U w
  · rw [hf]; exact formof_J w
  · rw [hf]; exact formof_F w
  · rw [hf]; exact formof_Z w
  · rw [hf]; exact formof_L w
  · rw [hf]; exact formof_A w
def okB (x : Pc) : Bool := decide (0 ≤ x.p ∧ x.p < 4 ∧ 0 ≤ x.f ∧ x.f < 32 ∧ 0 ≤ x.a ∧ x.a < 32 ∧ 0 ≤ x.w ∧ x.w < 32)
theorem pcs_ok {op : Int} (h1 : 1 ≤ op) (h2 : op ≤ 49) : ∀ x ∈ six (pcs (form op)), Pc.ok x := by
  have : (six (pcs (form op))).all okB = true := by
    rcases form_is h1 h2 with hf | hf | hf | hf | hf | hf | hf | hf | hf | hf | hf | hf
    all_goals (rw [hf]; decide +kernel)
  intro x hx
  have hb := List.all_eq_true.1 this x hx
  obtain ⟨a1, a2, a3, a4, a5, a6, a7, a8⟩ := of_decide_eq_true hb
  exact ⟨a1, a2, a3, a4, a5, a6, a7, a8⟩
def loK (f k : Int) : Int := if k = 3 then loF f else 0
def hiK (f k : Int) : Int := if k = 3 then hiF f else if (six (pcs f)).any (fun x => decide (x.p = k ∧ 0 < x.w)) then 31 else 0
theorem bounds_any {op k lo hi : Int} (h1 : 1 ≤ op) (h2 : op ≤ 49) (k0 : 0 ≤ k) (k1 : k < 4) (hlo : loK (form op) k = lo) (hhi : hiK (form op) k = hi) (w : World) :
    Calls Try.prog 59 #[.agg (formV (form op)), .int .i64 k] w fun e w' => e = .returned (.tuple #[.int .i64 lo, .int .i64 hi]) ∧ Both w w' := by
  subst hlo hhi
  by_cases h : k = 3
  · subst h
    exact bounds_3 _ _ _ _ w
  · have e : loK (form op) k = 0 := if_neg h
    rw [e]
    exact bounds_no _ _ _ k _ _ (six_len _) (pcs_ok h1 h2) (by simpa using h) k0 k1 (by rw [hiK, if_neg h]; rfl) w
/-- are the first parts within their bounds? -/
def inB (f d a b n : Int) (k : Nat) : Prop := ∀ j : Nat, j < k → loK f j ≤ partV d a b n j ∧ partV d a b n j ≤ hiK f j
theorem inB.next {f d a b n : Int} {k : Nat} (h : inB f d a b n k) (h1 : loK f k ≤ partV d a b n k) (h2 : partV d a b n k ≤ hiK f k) : inB f d a b n (k + 1) := by
  intro j hj
  by_cases e : j = k
  · subst e
    exact ⟨h1, h2⟩
  · exact h j (by omega)
theorem right_no {op d a b n : Int} {k : Nat} (hk : k < 4) (h : partV d a b n k < loK (form op) k ∨ hiK (form op) k < partV d a b n k) : right ⟨op, d, a, b, n⟩ = false := by
  by_cases ho : 1 ≤ op ∧ op ≤ 49
  · have hk' : k = 0 ∨ k = 1 ∨ k = 2 ∨ k = 3 := by omega
    cases hr : right ⟨op, d, a, b, n⟩ with
    | false => rfl
    | true =>
      exfalso
      obtain ⟨_, _, hd, ha, hb, hn⟩ := right_parts hr
      simp only at hd ha hb hn
      rcases form_is ho.1 ho.2 with hf | hf | hf | hf | hf | hf | hf | hf | hf | hf | hf | hf
      all_goals
        rw [hf] at hd ha hb hn h
        simp [hasD, hasA, hasB] at hd ha hb
        simp [num] at hn
        first | (have hd' := reg_yes hd) | (have hd' := reg_no hd)
        first | (have ha' := reg_yes ha) | (have ha' := reg_no ha)
        first | (have hb' := reg_yes hb) | (have hb' := reg_no hb)
        rcases hk' with rfl | rfl | rfl | rfl
        all_goals
          simp [partV, loK, hiK, loF, hiF, pcs, six] at h
          omega
  · unfold right
    rw [decide_eq_false ho]
    rfl
theorem right_yes {op d a b n : Int} (h1 : 1 ≤ op) (h2 : op ≤ 49) (h : inB (form op) d a b n 4) : right ⟨op, d, a, b, n⟩ = (n.tmod (stF (form op)) == 0) := by
  obtain ⟨d0, d1⟩ := h 0 (by omega)
  obtain ⟨a0, a1⟩ := h 1 (by omega)
  obtain ⟨b0, b1⟩ := h 2 (by omega)
  obtain ⟨n0, n1⟩ := h 3 (by omega)
  have ht : (n.tmod 2 == 0) = decide (n % 2 = 0) := by
    rw [Bool.eq_iff_iff, beq_iff_eq, decide_eq_true_eq]
    exact ⟨fun h => by have := Int.emod_add_mul_ediv n 2; have := Int.mul_tdiv_add_tmod n 2; omega, fun h => Int.tmod_eq_zero_of_dvd (Int.dvd_of_emod_eq_zero h)⟩
  rcases form_is h1 h2 with hf | hf | hf | hf | hf | hf | hf | hf | hf | hf | hf | hf
  all_goals
    rw [hf] at d0 d1 a0 a1 b0 b1 n0 n1 ⊢
    simp [partV, loK, hiK, loF, hiF, pcs, six] at d0 d1 a0 a1 b0 b1 n0 n1
    unfold right
    rw [decide_eq_true (show 1 ≤ op ∧ op ≤ 49 from ⟨h1, h2⟩)]
    simp only [hf]
    simp only [hasD, hasA, hasB, num, reg, stF]
    simp [ht]
    first | done | omega | (rw [Bool.eq_iff_iff]; simp; omega)
end Go.Proofs.Ytcockpphacebbaa
