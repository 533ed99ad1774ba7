/- Both Scans at any text: what they hand back is the same. -/
import Derived.Test.YtgameoiofikhmaaDoorTRefG
import Derived.Test.YtgameoiofikhmaaDoorTAwake
namespace Go.Proofs.YtgameoiofikhmaaDoor
open Go.RowKit Tk
set_option linter.unusedVariables false
theorem scanF_len : ∀ (f : Nat) (s : Bs) (n : Nat) (l : List Tok), scanF f s n = .ok l → l.length ≤ s.length + 1 := by
  intro f
  induction f with
  | zero => intro s n l h; cases h
  | succ f ih =>
    intro s n l h
    have one : ∀ (x : Tok) (r : Res) (k : Nat), (∀ y, r = .ok y → y.length ≤ k) → r.cons x = .ok l → l.length ≤ k + 1 := by
      intro x r k hr hc
      cases r with
      | ok y =>
        have e : x :: y = l := Res.ok.inj hc
        rw [← e, List.length_cons]
        have := hr y rfl
        omega
      | err n => cases hc
    cases s with
    | nil =>
      have e : [(⟨5, [], 0, n⟩ : Tok)] = l := Res.ok.inj h
      rw [← e]
      exact Nat.le_refl _
    | cons c t =>
      rw [scanF] at h
      by_cases hg : 0 < gap (c :: t)
      · rw [if_pos hg] at h
        have := ih _ _ _ h
        rw [List.length_drop] at this
        omega
      · rw [if_neg hg] at h
        by_cases hr : 0 < runLen (c :: t)
        · rw [if_pos hr] at h
          cases ho : ofRun ((c :: t).take (runLen (c :: t))) with
          | none => rw [ho] at h; cases h
          | some p =>
            rw [ho] at h
            refine Nat.le_trans (one _ _ ((c :: t).length - runLen (c :: t) + 1) (fun y hy => ?_) h) ?_
            · have := ih _ _ _ hy
              rwa [List.length_drop] at this
            · rw [List.length_cons]; omega
        · rw [if_neg hr] at h
          cases hs : signAt (c :: t) with
          | none => rw [hs] at h; cases h
          | some g =>
            rw [hs] at h
            have hp := sign_pos hs
            refine Nat.le_trans (one _ _ ((c :: t).length - g.length + 1) (fun y hy => ?_) h) ?_
            · have := ih _ _ _ hy
              rwa [List.length_drop] at this
            · rw [List.length_cons]; omega
theorem scan_len {s : Bs} {n : Nat} {l : List Tok} (h : scan s n = .ok l) : l.length ≤ s.length + 1 := scanF_len _ _ _ _ h
/-- what both Scans hand back: tokens, an error's number, a line -/
def scanV (s : ByteArray) : List Tok × Int × Int := if 20000 < s.size then ([], 2, 0) else match scan s.data.toList 1 with
  | .ok l => (l, 0, 0)
  | .err n => ([], 50, n)
theorem scanV_len (s : ByteArray) : (scanV s).1.length ≤ 1000000000 := by
  unfold scanV
  split
  · exact Nat.zero_le _
  · rename_i h
    split
    · rename_i l hl
      have := scan_len hl
      rw [size_list] at this
      show l.length ≤ _
      omega
    · exact Nat.zero_le _
/-- what a Scan hands back, at a place of its own -/
def Handed (w : World) (l : List Tok) (n : Nat) (er ln : Int) (e : Ending) (w' : World) : Prop := ∃ p c, e = .returned (.tuple #[.slice p n c, .int .i64 er, .int .i64 ln]) ∧ ToksQ w' p l ∧ Bel w w'
theorem handed_of {w w' : World} {e : Ending} {s : ByteArray} {l : List Tok} {n : Nat} {er ln : Int} (hs : s.size ≤ 20000) (h : scanV s = (l, er, ln)) (hn : l.length = n) (hq : ScanIs w (scan s.data.toList 1) e w') : Handed w l n er ln e w' := by
  subst hn
  unfold scanV at h
  rw [if_neg (by omega)] at h
  cases hr : scan s.data.toList 1 with
  | ok m =>
    rw [hr] at h hq
    simp only [Prod.mk.injEq] at h
    obtain ⟨rfl, rfl, rfl⟩ := h
    obtain ⟨hb, B, c, he, h1, h2, h3, _⟩ := hq
    exact ⟨_, c, he, h3.q, hb⟩
  | err n =>
    rw [hr] at h hq
    simp only [Prod.mk.injEq] at h
    obtain ⟨rfl, rfl, rfl⟩ := h
    exact ⟨none, 0, hq.2, ToksQ.nil _ _, hq.1⟩
set_option maxHeartbeats 4000000 in
theorem scan_hand {s : ByteArray} {l : List Tok} {n : Nat} {er ln : Int} (h : scanV s = (l, er, ln)) (hn : l.length = n) (hs : s.size ≤ maxLen) (w : World) (hT : SignsAt w) :
    Calls Tryd.prog 18 #[.string s] w (Handed w l n er ln) := by
  by_cases h2 : 20000 < s.size
  · unfold scanV at h
    rw [if_pos h2] at h
    simp only [Prod.mk.injEq] at h
    obtain ⟨rfl, rfl, rfl⟩ := h
    subst hn
    unfold maxLen at hs
    clear hT
    have h3 : (20000 : Int) < s.size := by omega
    go_enter Tryd.func18, Tryd.ntmps18
    go_wp2
    go_step3
    go_wp2
    go_ret3
    exact ⟨none, 0, rfl, ToksQ.nil _ _, Bel.refl _⟩
  · exact (scan_any s (by omega) w hT).mono fun e w' hq => handed_of (by omega) h hn hq
set_option maxHeartbeats 4000000 in
theorem rscan_hand {s : ByteArray} {l : List Tok} {n : Nat} {er ln : Int} (h : scanV s = (l, er, ln)) (hn : l.length = n) (hs : s.size ≤ maxLen) (w : World) :
    Calls Tryd.prog 19 #[.string s] w (Handed w l n er ln) := by
  by_cases h2 : 20000 < s.size
  · unfold scanV at h
    rw [if_pos h2] at h
    simp only [Prod.mk.injEq] at h
    obtain ⟨rfl, rfl, rfl⟩ := h
    subst hn
    unfold maxLen at hs
    have h3 : (20000 : Int) < s.size := by omega
    go_enter Tryd.func19, Tryd.ntmps19
    go_wp2
    go_ret3
    exact ⟨none, 0, rfl, ToksQ.nil _ _, Bel.refl _⟩
  · exact (rscan_any s (by omega) w).mono fun e w' hq => handed_of (by omega) h hn hq
end Go.Proofs.YtgameoiofikhmaaDoor
