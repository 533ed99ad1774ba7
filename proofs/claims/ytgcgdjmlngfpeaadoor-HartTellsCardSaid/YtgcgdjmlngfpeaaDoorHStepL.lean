/- Package hart: Step, whole. -/
import Derived.Test.YtgcgdjmlngfpeaaDoorHStep
namespace Go.Proofs.YtgcgdjmlngfpeaaDoor
open Go.RowKit Ht
set_option linter.unusedVariables false
set_option linter.unusedSimpArgs false
open Rv (Ins)
def opOf (o : Int) : Int :=
  if o = 5 then 13 else if o = 6 then 14 else if o = 7 ∨ o = 8 then 11 else if o = 9 ∨ o = 10 then 12 else if o = 13 ∨ o = 22 then 1 else if o = 14 ∨ o = 25 then 11 else if o = 15 ∨ o = 26 then 12 else if o = 16 ∨ o = 27 then 8 else
  if o = 17 ∨ o = 30 then 7 else if o = 18 ∨ o = 31 then 6 else if o = 19 ∨ o = 24 then 9 else if o = 21 ∨ o = 29 then 10 else if o = 23 then 2 else if o = 32 then 3 else if o = 35 then 4 else if o = 37 then 5 else 0
/-- the table of operators, where it lies -/
def OpsAt (w : World) : Prop := 0 < w.heap.size ∧ ∀ o : Nat, o < 50 → w.cell? ⟨0, o, none⟩ = some (.int .i64 (opOf (o : Int)))
theorem OpsAt.bel {w w' : World} (k : OpsAt w) (hb : Bel w w') : OpsAt w' := ⟨Nat.lt_of_lt_of_le k.1 hb.size, fun o ho => (hb.cell (p := ⟨0, o, none⟩) k.1).trans (k.2 o ho)⟩
def isEff (o : Int) : Prop := o = 11 ∨ o = 12 ∨ o = 39 ∨ o = 43 ∨ o = 45 ∨ o = 46 ∨ o = 47 ∨ o = 48 ∨ o = 49
instance (o : Int) : Decidable (isEff o) := by unfold isEff; infer_instance
def numV (h : H) (o : Int) (a b : Nat) (n : Int) : Int :=
  if o = 1 then wrap64 (n * 4096) else if o = 2 then place h (wrap64 (n * 4096)) else
  if o = 20 ∨ o = 28 then h a % 4294967296 / 2 ^ ((if (b : Int) = 0 then n else h b) % 32).toNat else
  if o = 33 then Plain.high (h a) (if (b : Int) = 0 then n else h b) true else if o = 34 then Plain.high (h a) (if (b : Int) = 0 then n else h b) false else
  if o = 36 then (if (if (b : Int) = 0 then n else h b) % 4294967296 = 0 then -1 else h a % 4294967296 / ((if (b : Int) = 0 then n else h b) % 4294967296)) else
  if o = 38 then (if (if (b : Int) = 0 then n else h b) % 4294967296 = 0 then h a % 4294967296 else h a % 4294967296 % ((if (b : Int) = 0 then n else h b) % 4294967296)) else
  Plain.two (opOf o) (h a) (if (b : Int) = 0 then n else h b)
def leadsV (h : H) (o a b : Nat) : Bool := if o = 8 ∨ o = 10 then decide (Plain.two (opOf (o : Int)) (h a) (h b) = 0) else decide (Plain.two (opOf (o : Int)) (h a) (h b) ≠ 0)
def effV (h : H) (o d : Int) (a b : Nat) (n : Int) : Eff :=
  if o = 11 then ⟨1, d, wrap32 (h a + n), 0, 0⟩ else if o = 12 then ⟨2, 0, wrap32 (h a + n), h b, 0⟩ else if o = 39 then ⟨6, 0, 0, 0, 0⟩ else if o = 46 then ⟨3, d, h a, 0, 0⟩ else if o = 47 then ⟨4, d, h a, h b, 0⟩ else
  if o = 48 then ⟨5, d, h a, h b, 0⟩ else if o = 49 then ⟨5, d, h a, h b, 1⟩ else if o = 43 then ⟨7, 0, 0, 0, 0⟩ else ⟨8, 0, 0, 0, 0⟩
def csrK (n : Int) : Option (Nat × Int) :=
  if n = 768 then some (33, 136) else if n = 773 then some (34, -4) else if n = 832 then some (35, -1) else if n = 833 then some (36, -4) else if n = 834 then some (37, -1) else if n = 1984 then some (38, -1) else none
def csrZ (o x y : Int) : Int := if o = 40 then y else if o = 41 then bits .or .i64 x y else bits .andNot .i64 x y
def csrV (h : H) (id o d : Int) (a : Nat) (n : Int) : H × Eff :=
  if n = 3860 then (Ht.go (put h d (wrap32 id)) 4, e0) else
  match csrK n with
  | none => (h, eBad)
  | some (k, bt) => (Ht.go (put (up h k (bits .and .i64 (csrZ o (h k) (h a)) bt)) d (h k)) 4, e0)
def stepV (h : H) (id : Int) (i : Ins) : H × Eff :=
  if Rv.right i = false then (h, eBad) else
  if i.op = 3 then (up (put h i.d (place h 4)) 32 (place h i.n), e0) else
  if i.op = 4 then (up (put h i.d (place h 4)) 32 (bits .andNot .i64 (wrap32 (h i.a.toNat + i.n)) 1), e0) else
  if 5 ≤ i.op ∧ i.op ≤ 10 then (Ht.go h (if leadsV h i.op.toNat i.a.toNat i.b.toNat = true then i.n else 4), e0) else
  if i.op = 44 then (up (up h 32 (h 36)) 33 (backS (h 33)), e0) else
  if 40 ≤ i.op ∧ i.op ≤ 42 then csrV h id i.op i.d i.a.toNat i.n else
  if isEff i.op then (Ht.go h 4, effV h i.op i.d i.a.toNat i.b.toNat i.n) else
  (Ht.go (put h i.d (numV h i.op i.a.toNat i.b.toNat i.n)) 4, e0)
theorem reg_bd {n : Int} {q : Bool} (h : Rv.reg n q = true) : 0 ≤ n ∧ n < 32 := by
  cases q with
  | true => exact Rv.reg_yes h
  | false => have := Rv.reg_no h; omega
theorem csrK_none {n : Int} (h : csrK n = none) (hn : n ≠ 3860) : n ≠ 768 ∧ n ≠ 773 ∧ n ≠ 832 ∧ n ≠ 833 ∧ n ≠ 834 ∧ n ≠ 1984 ∧ n ≠ 3860 := by
  unfold csrK at h
  refine ⟨?_, ?_, ?_, ?_, ?_, ?_, hn⟩ <;> (rintro rfl; simp at h)
theorem csrK_some {n bt : Int} {k : Nat} (h : csrK n = some (k, bt)) : k < 39 ∧ ∀ (g g2 : Nat) (w : World), Calls Tryd.prog 61 #[.pointer (some ⟨g, 0, none⟩), .pointer (some ⟨g2, 0, none⟩), .int .i64 n] w (OneV (.tuple #[.pointer (some ⟨g, k, none⟩), .int .i64 bt]) w) := by
  unfold csrK at h
  by_cases c1 : n = 768
  · rw [if_pos c1] at h; injection h with h; injection h with h1 h2; subst c1 h1 h2; exact ⟨by decide, of_768⟩
  rw [if_neg c1] at h
  by_cases c2 : n = 773
  · rw [if_pos c2] at h; injection h with h; injection h with h1 h2; subst c2 h1 h2; exact ⟨by decide, of_773⟩
  rw [if_neg c2] at h
  by_cases c3 : n = 832
  · rw [if_pos c3] at h; injection h with h; injection h with h1 h2; subst c3 h1 h2; exact ⟨by decide, of_832⟩
  rw [if_neg c3] at h
  by_cases c4 : n = 833
  · rw [if_pos c4] at h; injection h with h; injection h with h1 h2; subst c4 h1 h2; exact ⟨by decide, of_833⟩
  rw [if_neg c4] at h
  by_cases c5 : n = 834
  · rw [if_pos c5] at h; injection h with h; injection h with h1 h2; subst c5 h1 h2; exact ⟨by decide, of_834⟩
  rw [if_neg c5] at h
  by_cases c6 : n = 1984
  · rw [if_pos c6] at h; injection h with h; injection h with h1 h2; subst c6 h1 h2; exact ⟨by decide, of_1984⟩
  rw [if_neg c6] at h
  cases h
def O8 (o : Nat) : Prop := 1 ≤ o ∧ o < 50 ∧ o ≠ 1 ∧ o ≠ 2 ∧ o ≠ 20 ∧ o ≠ 28 ∧ o ≠ 33 ∧ o ≠ 34 ∧ o ≠ 36 ∧ o ≠ 38
def N12 (o : Nat) : Prop := o ≠ 3 ∧ o ≠ 4 ∧ o ≠ 5 ∧ o ≠ 6 ∧ o ≠ 7 ∧ o ≠ 8 ∧ o ≠ 9 ∧ o ≠ 10 ∧ o ≠ 44 ∧ o ≠ 40 ∧ o ≠ 41 ∧ o ≠ 42
theorem two_is {o : Nat} (h8 : O8 o) (hn : N12 o) (hE : ¬ isEff (o : Int)) : Plain.isTwo (opOf (o : Int)) = true := by
  unfold isEff at hE
  unfold O8 at h8
  unfold N12 at hn
  have : o = 13 ∨ o = 14 ∨ o = 15 ∨ o = 16 ∨ o = 17 ∨ o = 18 ∨ o = 19 ∨ o = 21 ∨ o = 22 ∨ o = 23 ∨ o = 24 ∨ o = 25 ∨ o = 26 ∨ o = 27 ∨ o = 29 ∨ o = 30 ∨ o = 31 ∨ o = 32 ∨ o = 35 ∨ o = 37 := by omega
  rcases this with rfl | rfl | rfl | rfl | rfl | rfl | rfl | rfl | rfl | rfl | rfl | rfl | rfl | rfl | rfl | rfl | rfl | rfl | rfl | rfl <;> decide
set_option maxHeartbeats 4000000 in
theorem step_lit {h h' : H} {id o d a b n : Int} {e : Eff} {w : World} (hw : Ins.wf ⟨o, d, a, b, n⟩) (hO : OpsAt w) (he : stepV h id ⟨o, d, a, b, n⟩ = (h', e)) :
    Calls Tryd.prog 16 #[hv h, .int .i64 id, iv o d a b n] w (OneV (.tuple #[hv h', .agg (eC e)]) w) := by
  unfold stepV at he
  cases hr : Rv.right ⟨o, d, a, b, n⟩ with
  | false =>
    rw [if_pos hr] at he
    injection he with e1 e2
    subst e1 e2
    exact step_bad hw hr
  | true =>
    rw [if_neg (by rw [hr]; decide)] at he
    obtain ⟨o1, o2, -, ra, rb, -⟩ := Rv.right_parts hr
    obtain ⟨a0, a1⟩ := reg_bd ra
    obtain ⟨b0, b1⟩ := reg_bd rb
    obtain ⟨A, hA⟩ := Int.eq_ofNat_of_zero_le a0
    obtain ⟨B, hB⟩ := Int.eq_ofNat_of_zero_le b0
    obtain ⟨O, hOo⟩ := Int.eq_ofNat_of_zero_le (show 0 ≤ o by simp only at o1; omega)
    simp only at hA hB ra rb a0 a1 b0 b1 o1 o2
    subst hA hB hOo
    have lA : A < 32 := by omega
    have lB : B < 32 := by omega
    have lO : O < 50 := by omega
    have hop := hO.2 O lO
    simp only [Int.toNat_natCast] at he
    by_cases c3 : (O : Int) = 3
    · rw [if_pos c3] at he
      obtain rfl : O = 3 := by omega
      injection he with e1 e2
      subst e2
      exact step_3 (h2 := h) (v := 0) (e := e0) hw hr (fun W hb => jump_3 lA rfl rfl rfl rfl e1 W)
    rw [if_neg c3] at he
    by_cases c4 : (O : Int) = 4
    · rw [if_pos c4] at he
      obtain rfl : O = 4 := by omega
      injection he with e1 e2
      subst e2
      exact step_4 (h2 := h) (v := 0) (e := e0) hw hr (fun W hb => jump_4 lA rfl rfl rfl rfl e1 W)
    rw [if_neg c4] at he
    by_cases c5 : 5 ≤ (O : Int) ∧ (O : Int) ≤ 10
    · rw [if_pos c5] at he
      injection he with e1 e2
      subst e2
      have hbr : ∀ W, Bel w W → Calls Tryd.prog 34 #[hv h, iv (O : Int) d (A : Int) (B : Int) n] W (OneV (hv h') W) := fun W hb => by
        cases q : leadsV h O A B with
        | true => rw [q] at e1; exact branch_true lO lA lB (Nat.lt_of_lt_of_le hO.1 hb.size) ((hb.cell (p := ⟨0, O, none⟩) hO.1).trans hop) rfl rfl q e1
        | false => rw [q] at e1; exact branch_false lO lA lB (Nat.lt_of_lt_of_le hO.1 hb.size) ((hb.cell (p := ⟨0, O, none⟩) hO.1).trans hop) rfl rfl q e1
      have : O = 5 ∨ O = 6 ∨ O = 7 ∨ O = 8 ∨ O = 9 ∨ O = 10 := by omega
      rcases this with rfl | rfl | rfl | rfl | rfl | rfl
      · exact step_5 (h2 := h) (v := 0) (e := e0) hw hr hbr
      · exact step_6 (h2 := h) (v := 0) (e := e0) hw hr hbr
      · exact step_7 (h2 := h) (v := 0) (e := e0) hw hr hbr
      · exact step_8 (h2 := h) (v := 0) (e := e0) hw hr hbr
      · exact step_9 (h2 := h) (v := 0) (e := e0) hw hr hbr
      · exact step_10 (h2 := h) (v := 0) (e := e0) hw hr hbr
    rw [if_neg c5] at he
    by_cases c44 : (O : Int) = 44
    · rw [if_pos c44] at he
      obtain rfl : O = 44 := by omega
      injection he with e1 e2
      subst e2
      exact step_44 (h2 := h) (v := 0) (e := e0) hw hr (fun W hb => back_lit rfl rfl e1 W)
    rw [if_neg c44] at he
    by_cases c40 : 40 ≤ (O : Int) ∧ (O : Int) ≤ 42
    · rw [if_pos c40] at he
      unfold csrV at he
      have : O = 40 ∨ O = 41 ∨ O = 42 := by omega
      by_cases cn : n = 3860
      · subst cn
        rw [if_pos rfl] at he
        injection he with e1 e2
        subst e2
        rcases this with rfl | rfl | rfl
        · exact step_40 (h2 := h) (v := 0) hw hr (fun W hb => own_40 (h1 := h) (z := 0) lA rfl of_3860 rfl rfl rfl e1 W)
        · exact step_41 (h2 := h) (v := 0) hw hr (fun W hb => own_41 (h1 := h) (z := 0) lA rfl of_3860 rfl rfl rfl e1 W)
        · exact step_42 (h2 := h) (v := 0) hw hr (fun W hb => own_42 (h1 := h) (z := 0) lA rfl of_3860 rfl rfl rfl e1 W)
      · rw [if_neg cn] at he
        cases hk : csrK n with
        | none =>
          rw [hk] at he
          injection he with e1 e2
          subst e1 e2
          have hn := csrK_none hk cn
          rcases this with rfl | rfl | rfl
          · exact step_40 (h2 := h) (v := 0) hw hr (fun W hb => csr_none rfl hn W)
          · exact step_41 (h2 := h) (v := 0) hw hr (fun W hb => csr_none rfl hn W)
          · exact step_42 (h2 := h) (v := 0) hw hr (fun W hb => csr_none rfl hn W)
        | some p =>
          obtain ⟨k, bt⟩ := p
          rw [hk] at he
          injection he with e1 e2
          subst e2
          obtain ⟨k39, hc⟩ := csrK_some hk
          rcases this with rfl | rfl | rfl
          · exact step_40 (h2 := h) (v := 0) hw hr (fun W hb => csr_40 (z := 0) lA rfl k39 hc rfl rfl rfl rfl e1 W)
          · exact step_41 (h2 := h) (v := 0) hw hr (fun W hb => csr_41 (z := 0) lA rfl k39 hc rfl rfl rfl rfl e1 W)
          · exact step_42 (h2 := h) (v := 0) hw hr (fun W hb => csr_42 (z := 0) lA rfl k39 hc rfl rfl rfl rfl e1 W)
    rw [if_neg c40] at he
    have hn : O ≠ 3 ∧ O ≠ 4 ∧ O ≠ 5 ∧ O ≠ 6 ∧ O ≠ 7 ∧ O ≠ 8 ∧ O ≠ 9 ∧ O ≠ 10 ∧ O ≠ 44 ∧ O ≠ 40 ∧ O ≠ 41 ∧ O ≠ 42 := by omega
    by_cases cE : isEff O
    · rw [if_pos cE] at he
      injection he with e1 e2
      have h8 : O ≠ 1 ∧ O ≠ 2 ∧ O ≠ 20 ∧ O ≠ 28 ∧ O ≠ 33 ∧ O ≠ 34 ∧ O ≠ 36 ∧ O ≠ 38 := by unfold isEff at cE; omega
      have hz : opOf O = 0 := by unfold isEff at cE; unfold opOf; repeat (rw [if_neg (by omega)])
      refine step_eff (h2 := h) (v := 0) hw hr hn (fun W hb => (num_other (r := 0) (q := false) lA lB rfl rfl lO h8 (Nat.lt_of_lt_of_le hO.1 hb.size) ((hb.cell (p := ⟨0, O, none⟩) hO.1).trans hop) (by rw [hz]; rfl) (by rw [hz]; rfl))) (fun W hb => ?_) e1
      have : O = 11 ∨ O = 12 ∨ O = 39 ∨ O = 43 ∨ O = 45 ∨ O = 46 ∨ O = 47 ∨ O = 48 ∨ O = 49 := by unfold isEff at cE; omega
      subst e2
      rcases this with rfl | rfl | rfl | rfl | rfl | rfl | rfl | rfl | rfl
      · exact effect_11 (n := n) lA lB rfl rfl rfl W
      · exact effect_12 (n := n) lA lB rfl rfl rfl W
      · exact effect_39 (n := n) lA lB rfl rfl rfl W
      · exact effect_43 (n := n) lA lB rfl rfl rfl W
      · exact effect_45 (n := n) lA lB rfl rfl rfl W
      · exact effect_46 (n := n) lA lB rfl rfl rfl W
      · exact effect_47 (n := n) lA lB rfl rfl rfl W
      · exact effect_48 (n := n) lA lB rfl rfl rfl W
      · exact effect_49 (n := n) lA lB rfl rfl rfl W
    rw [if_neg cE] at he
    injection he with e1 e2
    subst e2
    refine step_num (e := e0) hw hr hn (fun W hb => ?_) rfl e1
    unfold numV
    by_cases d1 : (O : Int) = 1
    · rw [if_pos d1]
      obtain rfl : O = 1 := by omega
      exact num_1 (r := 0) lA lB rfl rfl rfl
    rw [if_neg d1]
    by_cases d2 : (O : Int) = 2
    · rw [if_pos d2]
      obtain rfl : O = 2 := by omega
      exact num_2 (r := 0) lA lB rfl rfl rfl
    rw [if_neg d2]
    by_cases d20 : (O : Int) = 20 ∨ (O : Int) = 28
    · rw [if_pos d20]
      have : O = 20 ∨ O = 28 := by omega
      rcases this with rfl | rfl
      · exact num_20 (r := 0) lA lB rfl rfl rfl
      · exact num_28 (r := 0) lA lB rfl rfl rfl
    rw [if_neg d20]
    by_cases d33 : (O : Int) = 33
    · rw [if_pos d33]
      obtain rfl : O = 33 := by omega
      exact num_33 (r := 0) lA lB rfl rfl rfl
    rw [if_neg d33]
    by_cases d34 : (O : Int) = 34
    · rw [if_pos d34]
      obtain rfl : O = 34 := by omega
      exact num_34 (r := 0) lA lB rfl rfl rfl
    rw [if_neg d34]
    by_cases d36 : (O : Int) = 36
    · rw [if_pos d36]
      obtain rfl : O = 36 := by omega
      exact num_36 (r := 0) lA lB rfl rfl rfl
    rw [if_neg d36]
    by_cases d38 : (O : Int) = 38
    · rw [if_pos d38]
      obtain rfl : O = 38 := by omega
      exact num_38 (r := 0) lA lB rfl rfl rfl
    rw [if_neg d38]
    exact num_other (r := 0) lA lB rfl rfl lO (by omega) (Nat.lt_of_lt_of_le hO.1 hb.size) ((hb.cell (p := ⟨0, O, none⟩) hO.1).trans hop) rfl (two_is (by unfold O8; omega) (by unfold N12; omega) cE)
end Go.Proofs.YtgcgdjmlngfpeaaDoor
