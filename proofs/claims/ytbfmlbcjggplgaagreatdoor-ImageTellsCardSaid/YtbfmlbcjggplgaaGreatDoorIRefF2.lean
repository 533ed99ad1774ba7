/- Eight digits that tell a number; in plain words. -/
import Derived.Test.YtbfmlbcjggplgaaGreatDoorIRefF
namespace Go.Proofs.YtbfmlbcjggplgaaGreatDoor
open Go.RowKit Im
set_option linter.unusedVariables false
set_option linter.unusedSimpArgs false
theorem dV_back_fin : ∀ i : Fin 256, 0 ≤ dV 16 (UInt8.ofNat i.val) → hexd (dV 16 (UInt8.ofNat i.val)).toNat = UInt8.ofNat i.val := by decide +kernel
theorem dV_back {c : UInt8} (h : 0 ≤ dV 16 c) : ∃ d, d < 16 ∧ c = hexd d := by
  have h1 := dV_back_fin ⟨c.toNat, c.toNat_lt⟩
  simp only [UInt8.ofNat_toNat] at h1
  exact ⟨_, by have := dV_lt 16 c; omega, (h1 h).symm⟩
theorem valG_neg {n : Int} {c : UInt8} {r : Bs} (h : 0 ≤ valG 16 n (c :: r)) : ∃ d, d < 16 ∧ c = hexd d := by
  rw [valG_cons] at h
  by_cases g : dV 16 c < 0 ∨ 1099511627776 < n
  · rw [if_pos g] at h
    omega
  · exact dV_back (by omega)
theorem valV_eight {l : Bs} (hl : l.length = 8) (h : 0 ≤ valV 16 l) : ∃ n : Int, 0 ≤ n ∧ n ≤ 4294967295 ∧ l = hex8 n := by
  match l, hl with
  | [c7, c6, c5, c4, c3, c2, c1, c0], _ =>
    unfold valV at h
    rw [if_neg (by simp)] at h
    obtain ⟨d7, g7, rfl⟩ := valG_neg h
    rw [valG_hexd g7 (by omega)] at h
    obtain ⟨d6, g6, rfl⟩ := valG_neg h
    rw [valG_hexd g6 (by omega)] at h
    obtain ⟨d5, g5, rfl⟩ := valG_neg h
    rw [valG_hexd g5 (by omega)] at h
    obtain ⟨d4, g4, rfl⟩ := valG_neg h
    rw [valG_hexd g4 (by omega)] at h
    obtain ⟨d3, g3, rfl⟩ := valG_neg h
    rw [valG_hexd g3 (by omega)] at h
    obtain ⟨d2, g2, rfl⟩ := valG_neg h
    rw [valG_hexd g2 (by omega)] at h
    obtain ⟨d1, g1, rfl⟩ := valG_neg h
    rw [valG_hexd g1 (by omega)] at h
    obtain ⟨d0, g0, rfl⟩ := valG_neg h
    clear h
    refine ⟨((((((((d7 * 16 + d6) * 16 + d5) * 16 + d4) * 16 + d3) * 16 + d2) * 16 + d1) * 16 + d0 : Nat) : Int), by omega, by omega, ?_⟩
    have e : ∀ (N j : Nat), dig (N : Int) j = hexd (N / 16 ^ j % 16) := fun N j => by
      unfold dig
      congr 1
    unfold hex8
    simp only [e]
    simp only [show (16 : Nat) ^ 7 = 268435456 from rfl, show (16 : Nat) ^ 6 = 16777216 from rfl, show (16 : Nat) ^ 5 = 1048576 from rfl, show (16 : Nat) ^ 4 = 65536 from rfl, show (16 : Nat) ^ 3 = 4096 from rfl, show (16 : Nat) ^ 2 = 256 from rfl, show (16 : Nat) ^ 1 = 16 from rfl, show (16 : Nat) ^ 0 = 1 from rfl]
    congr 1
    · congr 1; omega
    · congr 1
      · congr 1; omega
      · congr 1
        · congr 1; omega
        · congr 1
          · congr 1; omega
          · congr 1
            · congr 1; omega
            · congr 1
              · congr 1; omega
              · congr 1
                · congr 1; omega
                · congr 1
                  congr 1; omega
/-- the bounds of what is read -/
def Fits (m : Img) : Prop := (∀ x ∈ m.words, -1 ≤ x ∧ x ≤ 20000000000000) ∧ (-1 ≤ m.mem ∧ m.mem ≤ 20000000000000) ∧ (∀ x ∈ m.syms, x.name.size ≤ 1000000 ∧ -1 ≤ x.place ∧ x.place ≤ 20000000000000)
theorem chk_bounds : ∀ (n : Nat) (l : Bs), l.length ≤ n → ∀ x ∈ chk l, -1 ≤ x ∧ x ≤ 20000000000000 := by
  intro n
  induction n with
  | zero =>
    intro l hl x hx
    unfold chk at hx
    rw [if_neg (by omega)] at hx
    cases hx
  | succ n ih =>
    intro l hl x hx
    unfold chk at hx
    split at hx
    · rcases List.mem_cons.1 hx with rfl | hx
      · exact valV_bounds (Or.inr rfl) _
      · exact ih (l.drop 9) (by simp; omega) x hx
    · cases hx
theorem fits_line {st : RdSt} {l : Bs} (h : Fits st.img) (hl : l.length ≤ 1000000) : Fits (lineV st l).img := by
  obtain ⟨h1, h2, h3⟩ := h
  unfold lineV
  split
  · exact ⟨h1, valV_bounds (Or.inl rfl) _, h3⟩
  · split
    · exact ⟨h1, h2, h3⟩
    · split
      · refine ⟨h1, h2, fun x hx => ?_⟩
        rcases List.mem_append.1 hx with hx | hx
        · exact h3 x hx
        · obtain rfl := List.mem_singleton.1 hx
          exact ⟨by rw [str_size, List.length_drop]; omega, valV_bounds (Or.inr rfl) _⟩
      · split
        · refine ⟨fun x hx => ?_, h2, h3⟩
          rcases List.mem_append.1 hx with hx | hx
          · exact h1 x hx
          · split at hx
            · cases hx
            · exact chk_bounds _ l (Nat.le_refl _) x hx
        · exact ⟨h1, h2, h3⟩
end Go.Proofs.YtbfmlbcjggplgaaGreatDoor
